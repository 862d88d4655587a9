/- texts that the claim stands on. -/
import Derived.Test.YtaohnmneccbljaaGreatDoorSlWlLawM1
import Derived.Deep.AppendLies
import Derived.Lib.AppendStr
import Derived.Lib.Bytealg
import Derived.Shelf.Small.Strs
import Derived.Shelf.Small.Wraps
import Derived.Shelf.Strconv.Atoi
import Derived.Shelf.Strconv.Itoa0
import Derived.Shelf.Strconv.Itoa1
import Derived.Shelf.LaysM
import Derived.Shelf.Strconv.Itoa2
import Derived.Shelf.Strconv.Itoa3
import Derived.Shelf.Strconv.AtoiErrFast
import Derived.Shelf.Strconv.ParseIntEmpty
import Derived.Shelf.Strconv.AtoiFail
import Derived.Shelf.Strconv.Clone
import Derived.Shelf.Strconv.SyntaxError
import Derived.Shelf.LaysC
import Derived.Shelf.Strconv.ToError
import Derived.Shelf.Strconv.AtoiErr
import Derived.Shelf.Strconv.ErrVar
import Derived.Shelf.Strconv.Lower
import Derived.Shelf.Strconv.ParseUint10
import Derived.Shelf.Strconv.ParseUint10Empty
import Derived.Shelf.Strconv.ParseUint10Any
import Derived.Shelf.Strconv.ParseInt10
import Derived.Shelf.Strconv.AtoiLong
import Derived.Shelf.Strconv.AtoiInnerAll
import Derived.Shelf.Strconv.RangeError
import Derived.Shelf.Strconv.ToErrorRange
import Derived.Shelf.Strconv.AtoiAll
import Derived.Shelf.Strconv.ErrVarAll
import Derived.Shelf.Strconv.ParseUintEmpty
import Derived.Shelf.Strconv.ParseUint10b64
import Derived.Shelf.Strconv.ParseUint10b32
import Derived.Shelf.Strconv.ParseUint10b16
import Derived.Shelf.Strconv.ParseUint10b8
import Derived.Shelf.Strconv.ParseUint10At
import Derived.Shelf.Strconv.ParseInt10At64
import Derived.Shelf.Strconv.ParseInt10At32
import Derived.Shelf.Strconv.ParseInt10At16
import Derived.Shelf.Strconv.ParseInt10At8
import Derived.Shelf.Strconv.ParseInt10All
import Derived.Shelf.Strings.Search1
import Derived.Shelf.Strings.Search2
import Derived.Shelf.Strings.Cut
import Derived.Shelf.GgClosure.StringsIndexFunc
import Derived.Ground.GgwProg
import Derived.Shelf.GgClosure.StringsIndexFuncTop
import Derived.Shelf.GgClosure.StringsRunes
import Derived.Shelf.Strings.Prefix
import Derived.Shelf.Slices.Turned
import Derived.Ground.SlbCloneProg
import Derived.Shelf.Bytes.SlClone
import Derived.Deep.Upon
set_option maxRecDepth 100000
set_option maxHeartbeats 4000000
namespace Go.Proofs.YtaohnmneccbljaaGreatDoor
open Go.Proofs.Tryz (prog)
open Go.RowKit
def mr (l:List Oper) (K mu i:Nat):Bool:=Nat.blt mu K&&match l[mu]? with | some om=>lx l om i | none=>false
theorem ob {l:List Oper} {K mu i:Nat} (h:mr l K mu i=true):mu<K∧∃ om,l[mu]? =some om∧lx l om i=true:=by
 unfold mr at h;rw [Bool.and_eq_true] at h;refine ⟨Nat.le_of_ble_eq_true h.1,?_⟩;have h2:=h.2;split at h2
 ·rename_i om hom;exact ⟨om,hom,h2⟩
 ·cases h2
def kO (P:Program) (ops:Array Oper) (n:Fr) (L:List (Nat×Value)) (I1 I2:World→Prop) (R1 R2:Nat→Value→World→Prop) (l0:List Oper) (K:Nat) (mu:Nat):Nat→List Oper→Prop
 |_,[]=>True
 |i,o::r=>(Nat.beq i mu=false→match mr l0 K mu i with
   |true=>∀ w',I1 w'→ig R1 w' (eK l0 K i o) fun M=>aw P ops n (M++L) o w' (R1 (o.dst.getD 0))
   |false=>∀ w',I2 w'→ig R2 w' (eK l0 K i o) fun M=>aw P ops n (M++L) o w' (R1 (o.dst.getD 0)))∧kO P ops n L I1 I2 R1 R2 l0 K mu (i+1) r
theorem lW {P:Program} {ops:Array Oper} {n:Fr} {L:List (Nat×Value)} {I1 I2:World→Prop} {R1 R2:Nat→Value→World→Prop} {l0:List Oper} {K mu:Nat}:∀ {l:List Oper} {k:Nat},kO P ops n L I1 I2 R1 R2 l0 K mu k l→∀ (i:Nat) (o:Oper),l[i]? =some o→k+i≠mu→
 match mr l0 K mu (k+i) with
  |true=>∀ w',I1 w'→ig R1 w' (eK l0 K (k+i) o) fun M=>aw P ops n (M++L) o w' (R1 (o.dst.getD 0))
  |false=>∀ w',I2 w'→ig R2 w' (eK l0 K (k+i) o) fun M=>aw P ops n (M++L) o w' (R1 (o.dst.getD 0))
 |[],_,_,i,o,h,_=>by simp at h
 |x::r,k,⟨h1,h2⟩,0,o,h,hne=>by
  simp only [List.getElem?_cons_zero,Option.some.injEq] at h;subst h;rw [Nat.add_zero] at hne ⊢;refine h1 ?_;rw [←Bool.not_eq_true];intro hb;exact hne (Nat.eq_of_beq_eq_true hb)
 |x::r,k,⟨h1,h2⟩,i+1,o,h,hne=>by
  have:=lW h2 i o (by simpa using h) (by omega)
  rwa [show k+1+i=k+(i+1) by omega] at this
theorem nL {P:Program} {ops:Array Oper} {n:Fr} {L:List (Nat×Value)} {I1 I2:World→Prop} {R1 R2:Nat→Value→World→Prop} {l0:List Oper} {K mu:Nat} {l:List Oper} (h:kO P ops n L I1 I2 R1 R2 l0 K mu 0 l) (i:Nat) (o:Oper) (ho:l[i]? =some o) (hne:i≠mu) (hd:mr l0 K mu i=false)
 (w':World) (hw:I2 w'):ig R2 w' (eK l0 K i o) fun M=>aw P ops n (M++L) o w' (R1 (o.dst.getD 0)):=by
 have:=lW h i o ho (by rw [Nat.zero_add];exact hne);rw [Nat.zero_add,hd] at this;exact this w' hw
theorem s4 {P:Program} {ops:Array Oper} {n:Fr} {L:List (Nat×Value)} {I1 I2:World→Prop} {R1 R2:Nat→Value→World→Prop} {l0:List Oper} {K mu:Nat} {l:List Oper} (h:kO P ops n L I1 I2 R1 R2 l0 K mu 0 l) (i:Nat) (o:Oper) (ho:l[i]? =some o) (hne:i≠mu) (hd:mr l0 K mu i=true)
 (w':World) (hw:I1 w'):ig R1 w' (eK l0 K i o) fun M=>aw P ops n (M++L) o w' (R1 (o.dst.getD 0)):=by
 have:=lW h i o ho (by rw [Nat.zero_add];exact hne);rw [Nat.zero_add,hd] at this;exact this w' hw
section late
variable {P:Program} {Q:Exit→Act→World→Prop} {n:Fr} {L:List (Nat×Value)} {w:World} {l:List Oper} {K mu:Nat} {I1 I2:World→Prop} {R1 R:Nat→Value→World→Prop}
theorem px (hQ:PQ Q) (hc:kv l K=true) (hop:kO P l.toArray n L I1 I2 R1 R l K mu 0 (l.take K)) (h12:∀ t v w,R1 t v w→R t v w) (hmuL:mu<K→dE l K mu=false)
 (hend:∀ w',I2 w'→ig R w' (eI l K) fun M=>St P l.toArray Q (l.drop K) n (M++L) w') (m:Nat) (listed:Array Bool) (L':List (Nat×Value)) (w':World) (hcl:fY l listed) (hcount:listed.toList.count false=m) (hs:listed.size=l.length)
 (htail:∀ j,K≤j→j<l.length→listed.getD j true=false) (hF:I2 w')
 (hfr:∀ t,(∀ i o,i<K→l[i]? =some o→listed.getD i true=true→o.dst≠some t)→aT L' t=aT L t)
 (hR:∀ i o d,i<K→l[i]? =some o→listed.getD i true=true→o.dst=some d→R d (aT L' d) w') (hpre:∀ i,i<K→listed.getD i true=false→dE l K i=true):wpAny P .any l.toArray Q m listed (mkA n L') w':=by
 have hc1:=(Bool.and_eq_true_iff.1 hc).1;have hlate:=(Bool.and_eq_true_iff.1 hc).2;have hKl:K≤l.length:=dT_ (Bool.and_eq_true_iff.1 hc1).1;have hck:=(List.all_eq_true.1 (Bool.and_eq_true_iff.1 hc1).2)
 have hhead:∀ i,i<K→∃ o d,l[i]? =some o∧o.dst=some d∧cK o.op=false∧(∀ j oj,j<K→j≠i→l[j]? =some oj→oj.dst≠some d):=by
  intro i hi;have hil:i<l.length:=by omega
  have hx:=hck i (List.mem_range.2 hil);rw [List.getElem?_eq_getElem hil] at hx;simp only [Bool.and_eq_true] at hx;have h3:=hx.2;rw [if_pos hi] at h3;simp only [Bool.and_eq_true] at h3;obtain ⟨h3a,h3b⟩:=h3;cases hod:(l[i]).dst with
  |none=>rw [hod] at h3a;cases h3a
  |some d=>
   rw [hod] at h3a;simp only [Bool.and_eq_true] at h3a;refine ⟨l[i],d,List.getElem?_eq_getElem hil,hod,by simpa using hx.1.2,fun j oj hj hne hoj e=>?_⟩;have h5:=List.all_eq_true.1 h3a.1 j (List.mem_range.2 hj);rw [hoj] at h5;simp [hne,e] at h5
 have hval:∀ i,i<K→listed.getD i true=false→∃ v,∀ o d,l[i]? =some o→o.dst=some d→Yields P l.toArray o v (mkA n L')∧R d v w':=by
  intro i hi hf;have hil8:=hpre i hi hf;obtain ⟨o,d,ho,hd,hsel,_⟩:=hhead i hi;obtain ⟨hk,hg,hap⟩:=gV hlate hi ho hil8
  have hfact:∀ t∈eK l K i o,R t (aT L' t) w':=by
   intro t ht;obtain ⟨ht2,j,oj,hjK,hj,hdj,hji,_⟩:=il hc hi ho ht;refine hR j oj t hjK hj ?_ hdj;cases hb:listed.getD j true with
   |true=>rfl
   |false=>
    have h6:=hpre j hjK hb;have h7:=(Oper.apart_spec (hap j oj hj (by omega) (.inl ⟨hjK,h6⟩))).2.2 t hdj;exact absurd (by simpa using ht2) h7
  have hlooks:=qk (L:=L) hc hcl hs ho (by omega) hf hfr
  have hnd:mr l K mu i=false:=by
   rw [←Bool.not_eq_true];intro hd;obtain ⟨hmK,om,hom,hdep⟩:=ob hd
   have hml:listed.getD mu true=true:=by
    cases hb:listed.getD mu true with
    |true=>rfl
    |false=>exact absurd (hpre mu hmK hb) (by rw [hmuL hmK];simp)
   have hml2:listed.getD mu false=true:=by rw [←aU (by omega)];exact hml
   have:=eu hcl (fun e he hb=>hcl mu om hom hml2 e he hb) hdep;rw [←aU (by omega),hf] at this;cases this
  have hok:=eP (aT L') _ hfact (nL hop i o (by rw [List.getElem?_take,if_pos hi];exact ho) (by intro e;rw [e,hmuL (by omega)] at hil8;cases hil8) hnd w' hF);obtain ⟨hE,hW⟩:=eF (n:=n) (ops:=l.toArray) (o:=o) hsel hlooks;rw [hd] at hok;simp only [Option.getD_some] at hok
  have hyl:∃ v,Yields P l.toArray o v (mkA n L')∧R d v w':=by
   unfold aw at hok;rw [hE,hW] at hok;rcases hok with ⟨hw,⟨v,w'',hr,hF',hRv⟩ | ⟨f,args,hr,hcall⟩⟩ | ⟨hw,hRv⟩
   ·obtain ⟨rfl,hall⟩:=rH hk hr;refine ⟨v,.inl ⟨hw,fun w2=>?_⟩,h12 _ _ _ hRv⟩;rw [cg];exact hall w2
   ·exfalso;obtain ⟨dst,op,ty,pos,after,guard⟩:=o;cases op <;> simp only [nR,Bool.false_eq_true] at hk <;> simp only [execOp,Sem.run_pure,Sem.run_bind,Result.ok.injEq] at hr
    ·cases hr.1
    ·cases hr.1
    ·rename_i x i';cases hx:ev n L' x <;> simp only [hx,Instr.extract] at hr <;> (try (simp at hr;done))
     rename_i vs;cases hv:vs[i']? <;> simp [hv] at hr
   ·exact ⟨undef,.inr ⟨hw,rfl⟩,h12 _ _ _ hRv⟩
  obtain ⟨v,hv1,hv2⟩:=hyl;refine ⟨v,fun o' d' ho' hd'=>?_⟩;rw [ho] at ho';cases ho';rw [hd] at hd';cases hd';exact ⟨hv1,hv2⟩
 obtain ⟨f,hf⟩:∃ f:Nat→Value,∀ i,i<K→listed.getD i true=false→∀ o d,l[i]? =some o→o.dst=some d→Yields P l.toArray o (f i) (mkA n L')∧R d (f i) w':=by
  refine ⟨fun i=>open Classical in if h:∃ v,∀ o d,l[i]? =some o→o.dst=some d→Yields P l.toArray o v (mkA n L')∧R d v w' then h.choose else undef,fun i hi hl=>?_⟩;have h:=hval i hi hl;simp only [dif_pos h];exact h.choose_spec
 have hUm:∀ i,i∈(List.range K).filter (fun i=> !listed.getD i true)↔i<K∧listed.getD i true=false:=fun i=>by
  rw [List.mem_filter,List.mem_range];simp
 obtain ⟨U,hU,hUn⟩:∃ U:List Nat,(∀ i,i∈U↔i<K∧listed.getD i true=false)∧U.Nodup:=⟨_,hUm,List.nodup_range.sublist (List.filter_sublist ..)⟩;have hbind:∀ {i:Nat} {o:Oper},l[i]? =some o→(l[i]?).bind (·.dst)=o.dst:=fun h=>by rw [h];rfl
 have hRall:∀ d∈eI l K,R d (aT ((U.filterMap fun i=>((l[i]?).bind (·.dst)).map fun d=>(d,f i))++L') d) w':=by
  intro d hd;obtain ⟨o,ho,hod⟩:=List.mem_filterMap.1 hd;obtain ⟨i,hi⟩:=List.mem_iff_getElem?.1 ho;rw [List.getElem?_take] at hi;split at hi
  ·rename_i hiK;obtain ⟨o',d',ho',hd',_,hdist⟩:=hhead i hiK;rw [hi] at ho';cases ho';rw [hod] at hd';cases hd'
   have hne:∀ j∈U,j≠i→(l[j]?).bind (·.dst)≠some d:=fun j hj hji=>by
    have hjK:=((hU j).1 hj).1;obtain ⟨oj,dj,hoj,_⟩:=hhead j hjK;rw [hbind hoj];exact hdist j oj hjK hji hoj
   cases hb:listed.getD i true with
   |true=>
    rw [gL U fun j hj=>hne j hj (fun e=>by subst e;have:=((hU j).1 hj).2;rw [hb] at this;cases this)];exact hR i o d hiK hi hb hod
   |false=>
    rw [jc U ((hU i).2 ⟨hiK,hb⟩) ((hbind hi).trans hod) hne];exact (hf i hiK hb o d hi hod).2
  ·cases hi
 have he:=eP _ (eI l K) hRall (hend w' hF)
 have hL:mkA n ((eI l K).map (fun d=>(d,aT ((U.filterMap fun i=>((l[i]?).bind (·.dst)).map fun d=>(d,f i))++L') d))++L)=gu l f U (mkA n L'):=by
  rw [nG];refine fD fun t _=>?_
  rw [iL];split
  ·rfl
  ·rename_i hne
   have hnd:∀ i,i<K→∀ o,l[i]? =some o→o.dst≠some t:=fun i hi o ho hod=>hne (by
    simp only [List.elem_eq_mem,decide_eq_true_eq];exact List.mem_filterMap.2 ⟨o,List.mem_iff_getElem?.2 ⟨i,by rw [List.getElem?_take,if_pos hi];exact ho⟩,hod⟩)
   rw [gL U fun j hj=>by
    have hjK:=((hU j).1 hj).1;obtain ⟨oj,dj,hoj,_⟩:=hhead j hjK;rw [hbind hoj];exact hnd j hjK oj hoj]
   exact (hfr t fun i o hi ho _ hod=>hnd i hi o ho hod).symm
 replace he:=he.out;rw [hL] at he;refine nj hQ hc m K listed U _ w' hcl hcount hs (Nat.le_refl _) hKl (fun j h1 h2=>by rw [htail j h1 h2];simp [h1]) hUn (fun j hj=>⟨fun h=>(hU j).2 ⟨hj,h⟩,fun h=>((hU j).1 h).2⟩) (fun j hj=>?_) he;obtain ⟨h1,h2⟩:=(hU j).1 hj;obtain ⟨oj,dj,hoj,hdj,_⟩:=hhead j h1;exact ⟨h1,hpre j h1 h2,oj,hoj,(hf j h1 h2 oj dj hoj hdj).1⟩
theorem xG (hQ:PQ Q) (hc:kv l K=true) (hm1:∀ w1 w2,ag w1 w2→I1 w1→I1 w2) (hm2:∀ w1 w2,ag w1 w2→I2 w1→I2 w2) (hmono1:∀ t v w1 w2,ag w1 w2→R1 t v w1→R1 t v w2) (hmono:∀ t v w1 w2,ag w1 w2→R t v w1→R t v w2)
 (hop:kO P l.toArray n L I1 I2 R1 R l K mu 0 (l.take K)) (h12:∀ t v w,R1 t v w→R t v w) (hmuL:mu<K→dE l K mu=false) (hmu:Ak P l.toArray n L I1 I2 R1 R l K mu l[mu]?)
 (hend:∀ w',I2 w'→ig R w' (eI l K) fun M=>St P l.toArray Q (l.drop K) n (M++L) w') :
 ∀ (m:Nat) (listed:Array Bool) (L':List (Nat×Value)) (w':World),fY l listed→listed.toList.count false=m→listed.size=l.length→(∀ j,K≤j→j<l.length→listed.getD j true=false)→I2 w'→(listed.getD mu true=false→I1 w')→
  (∀ t,(∀ i o,i<K→l[i]? =some o→listed.getD i true=true→o.dst≠some t)→aT L' t=aT L t)→
  (∀ i o d,i<K→l[i]? =some o→listed.getD i true=true→o.dst=some d→R d (aT L' d) w')→(listed.getD mu true=false→∀ i o d,i<K→l[i]? =some o→listed.getD i true=true→o.dst=some d→R1 d (aT L' d) w')→wpAny P .any l.toArray Q m listed (mkA n L') w':=by
 have hc1:=(Bool.and_eq_true_iff.1 hc).1;have hlate:=(Bool.and_eq_true_iff.1 hc).2;have hKl:K≤l.length:=dT_ (Bool.and_eq_true_iff.1 hc1).1;have hck:=(List.all_eq_true.1 (Bool.and_eq_true_iff.1 hc1).2);intro m
 induction m with
 |zero=>
  intro listed L' w' hcl hcount hs htail hF hF1 hfr hR hR1
  exact px hQ hc hop h12 hmuL hend 0 listed L' w' hcl hcount hs htail hF hfr hR (fun i hi h=>by
   have hm:listed[i]'(by omega)∈listed.toList:=by simp
   have hb:listed[i]'(by omega)=false:=by simpa [Array.getD,show i<listed.size by omega] using h
   rw [hb] at hm;exact absurd hcount (Nat.pos_iff_ne_zero.1 (List.count_pos_iff.2 hm)))
 |succ m ih=>
  intro listed L' w' hcl hcount hs htail hF hF1 hfr hR hR1;by_cases hpre:∀ i,i<K→listed.getD i true=false→dE l K i=true
  ·exact px hQ hc hop h12 hmuL hend (m+1) listed L' w' hcl hcount hs htail hF hfr hR hpre
  ·
   have hn0:∃ i,i<K∧listed.getD i true=false∧dE l K i=false:=by
    refine Classical.byContradiction fun hno=>hpre fun i hi hf=>?_
    cases hb:dE l K i with
    |true=>rfl
    |false=>exact absurd ⟨i,hi,hf,hb⟩ hno
   obtain ⟨n0,hn0⟩:=hn0;obtain ⟨i0,hi0,hmin⟩:=exists_least (p:=fun i=>i<K∧listed.getD i true=false) ⟨n0,hn0.1,hn0.2.1⟩;have hi0l:i0<l.length:=by omega
   have hready:i0∈Region.ready .any l.toArray listed:=by
    refine mem_ready.2 ⟨hi0.2,l[i0],by rw [List.getElem?_toArray,List.getElem?_eq_getElem hi0l],fun e he hb=>?_⟩;have hx:=hck i0 (List.mem_range.2 hi0l);rw [List.getElem?_eq_getElem hi0l] at hx;simp only [Bool.and_eq_true] at hx;have he2:=List.all_eq_true.1 hx.1.1 e (by simpa using he);rw [hb] at he2;simp at he2;rw [←aU (by omega)];cases hb2:listed.getD e.on true with
    |true=>rfl
    |false=>exact absurd (hmin e.on ⟨by omega,hb2⟩) (by omega)
   refine ⟨fun h0=>(by rw [h0] at hready;cases hready),fun i hi=>?_⟩;obtain ⟨h0,o,ho,hall⟩:=mem_ready.1 hi;rw [List.getElem?_toArray] at ho;have hil:i<l.length:=(List.getElem?_eq_some_iff.1 ho).1;have hx:=hck i (List.mem_range.2 hil);rw [ho] at hx;simp only [Bool.and_eq_true] at hx
   have hiK:i<K:=by
    rcases Nat.lt_or_ge i K with h | h
    ·exact h
    ·exfalso;have h5:=eu hcl hall (ku hn0.2.2 ho h);rw [←aU (by omega),hn0.2.1] at h5;cases h5
   have h3:=hx.2;rw [if_pos hiK] at h3;simp only [Bool.and_eq_true] at h3;obtain ⟨h3a,h3b⟩:=h3;cases hod:o.dst with
   |none=>rw [hod] at h3a;cases h3a
   |some d=>
    rw [hod] at h3a;simp only [Bool.and_eq_true] at h3a;have hlooks:=qk (L:=L) hc hcl hs ho hil h0 hfr
    have hfactG:∀ (RR:Nat→Value→World→Prop),(∀ i o d,i<K→l[i]? =some o→listed.getD i true=true→o.dst=some d→RR d (aT L' d) w')→∀ t∈eK l K i o,RR t (aT L' t) w':=by
     intro RR hRR t ht;obtain ⟨_,j,oj,hjK,hj,hd,_,hdep⟩:=il hc hiK ho ht;have h6:=eu hcl hall hdep;exact hRR j oj t hjK hj (by rw [aU (by omega)];exact h6) hd
    have hsel:cK o.op=false:=by simpa using hx.1.2
    obtain ⟨hE,hW⟩:=eF (n:=n) (ops:=l.toArray) (o:=o) hsel hlooks
    have next:∀ v w'',I2 w''→(i≠mu→listed.getD mu true=false→I1 w'')→R d v w''→(i≠mu→R1 d v w'')→(∀ t u,t≠d→R t u w'→(i=mu→R1 t u w')→R t u w'')→(i≠mu→∀ t u,R1 t u w'→R1 t u w'')→wpAny P .any l.toArray Q m (listed.setIfInBounds i true) ((mkA n L').put (some d) v) w'':=by
     intro v w'' hI2' hI1' hRv hR1v hst hst1;rw [ej]
     have hne:∀ j oj d',j<K→l[j]? =some oj→j≠i→oj.dst=some d'→d'≠d:=by
      intro j oj d' hj hoj hji hd e;have h5:=List.all_eq_true.1 h3a.1 j (List.mem_range.2 hj);rw [hoj] at h5;simp [hji,hd,e] at h5
     refine ih _ _ w'' (jj hcl ho hall) ?_ (by simpa using hs) (fun j hj1 hj2=>?_) hI2' (fun hml=>?_) (fun t ht=>?_) (fun j oj d' hj hoj hlj hd=>?_) (fun hml j oj d' hj hoj hlj hd=>?_)
     ·have hil':i<listed.size:=by omega
      have hfalse:listed.toList[i]? =some false:=by
       rw [Array.getElem?_toList,Array.getElem?_eq_getElem hil'];simp [Array.getD,hil'] at h0;rw [h0]
      rw [Array.toList_setIfInBounds];have:=dO (l:=listed.toList) (i:=i) hfalse;omega
     ·rw [getD_set_ne true (by omega)];exact htail j hj1 hj2
     ·have him:i≠mu:=fun e=>by subst e;simp [show i<listed.size by omega] at hml
      rw [getD_set_ne true him] at hml;exact hI1' him hml
     ·have htd:t≠d:=fun e=>ht i o hiK ho (by simp [show i<listed.size by omega]) (by rw [hod,e])
      rw [bF,if_neg htd];refine hfr t fun j oj hj hoj hlj=>ht j oj hj hoj ?_
      by_cases e:i=j
      ·subst e;rw [h0] at hlj;cases hlj
      ·rw [getD_set_ne true e];exact hlj
     ·rw [bF];by_cases e:j=i
      ·subst e;rw [ho] at hoj;cases hoj;rw [hod] at hd;cases hd;rw [if_pos rfl];exact hRv
      ·have hdd:=hne j oj d' hj hoj e hd;rw [if_neg hdd];rw [getD_set_ne true (Ne.symm e)] at hlj;refine hst _ _ hdd (hR j oj d' hj hoj hlj hd) (fun e2=>?_);subst e2;exact hR1 h0 j oj d' hj hoj hlj hd
     ·have him:i≠mu:=fun e=>by subst e;simp [show i<listed.size by omega] at hml
      rw [getD_set_ne true him] at hml;rw [bF];by_cases e:j=i
      ·subst e;rw [ho] at hoj;cases hoj;rw [hod] at hd;cases hd;rw [if_pos rfl];exact hR1v him
      ·rw [if_neg (hne j oj d' hj hoj e hd)];rw [getD_set_ne true (Ne.symm e)] at hlj;exact hst1 him _ _ (hR1 hml j oj d' hj hoj hlj hd)
    unfold wpOp;rw [List.getElem?_toArray,ho];show if Region.wanted o (yielded l.toArray (mkT n.n L'))=true then _ else _
    by_cases him:i=mu
    ·subst him;rw [ho] at hmu;have hok:=eP (aT L') _ (hfactG R1 (hR1 h0)) (hmu w' (hF1 h0));rw [hod] at hok;simp only [Option.getD_some] at hok;unfold qO at hok;rw [hE,hW] at hok;obtain ⟨hw,⟨v,w'',hr,hI,hRv,hst⟩ | ⟨f,args,hr,hcall⟩⟩:=hok
     ·rw [if_pos hw];refine .inl ?_;unfold Oper.wp;rw [cg,hr,Oper.upon_value,hod];exact next v w'' hI (fun h=>absurd rfl h) hRv (fun h=>absurd rfl h) (fun t u ht _ h1=>hst t u ht (h1 rfl)) (fun h=>absurd rfl h)
     ·rw [if_pos hw];refine .inl ?_;unfold Oper.wp;rw [cg,hr,Oper.upon_enter,hod];refine Calls.mono hcall fun e w'' ⟨v,he,hI,hRv,hst⟩=>?_
      subst he;exact next v w'' hI (fun h=>absurd rfl h) hRv (fun h=>absurd rfl h) (fun t u ht _ h1=>hst t u ht (h1 rfl)) (fun h=>absurd rfl h)
    ·have hok:aw P l.toArray n (((eK l K i o).map fun d=>(d,aT L' d))++L) o w' (R1 (o.dst.getD 0)):=by
      cases hdm:mr l K mu i with
      |false=>exact eP (aT L') _ (hfactG R hR) (nL hop i o (by rw [List.getElem?_take,if_pos hiK];exact ho) him hdm w' hF)
      |true=>
       have hml:listed.getD mu true=false:=by
        obtain ⟨hmK,om,hom,hdep⟩:=ob hdm;rw [←Bool.not_eq_true];intro hml;have hml2:listed.getD mu false=true:=by rw [←aU (by omega)];exact hml
        have:=eu hcl (fun e he hb=>hcl mu om hom hml2 e he hb) hdep;rw [←aU (by omega),h0] at this;cases this
       exact eP (aT L') _ (hfactG R1 (hR1 hml)) (s4 hop i o (by rw [List.getElem?_take,if_pos hiK];exact ho) him hdm w' (hF1 hml))
     rw [hod] at hok;simp only [Option.getD_some] at hok;unfold aw at hok;rw [hE,hW] at hok
     have next':∀ v w'',ag w' w''→R1 d v w''→wpAny P .any l.toArray Q m (listed.setIfInBounds i true) ((mkA n L').put (some d) v) w'':=fun v w'' hF' hRv=>
      next v w'' (hm2 _ _ hF' hF) (fun _ h=>hm1 _ _ hF' (hF1 h)) (h12 _ _ _ hRv) (fun _=>hRv) (fun t u _ h _=>hmono _ _ _ _ hF' h) (fun _ t u h=>hmono1 _ _ _ _ hF' h)
     rcases hok with ⟨hw,⟨v,w'',hr,hF',hRv⟩ | ⟨f,args,hr,hcall⟩⟩ | ⟨hw,hRv⟩
     ·rw [if_pos hw];refine .inl ?_;unfold Oper.wp;rw [cg,hr,Oper.upon_value,hod];exact next' v w'' hF' hRv
     ·rw [if_pos hw];refine .inl ?_;unfold Oper.wp;rw [cg,hr,Oper.upon_enter,hod];refine Calls.mono hcall fun e w'' ⟨v,he,hF',hRv⟩=>?_
      subst he;exact next' v w'' hF' hRv
     ·rw [if_neg (by rw [hw];simp),hod];exact next' undef w' ag.rfl_ hRv
theorem tA {id:Nat} (K mu:Nat) (Ex:List Nat) (RL:List (Nat×(Value→World→Prop))) (I1 I2:World→Prop) (hQ:PQ Q) (hm:P.follows .mixedOrders=true) (hc:kv l K=true) (hl:dE l K mu=false) (hmono:pP RL)
 (h0:I1 { w with drawn:=w.drawn+1 }) (h0':I2 { w with drawn:=w.drawn+1 }) (hm1:∀ w1 w2,ag w1 w2→I1 w1→I1 w2) (hm2:∀ w1 w2,ag w1 w2→I2 w1→I2 w2)
 (hop:kO P l.toArray n L I1 I2 (fz RL) (jJ Ex RL) l K mu 0 (l.take K)) (hmu:Ak P l.toArray n L I1 I2 (fz RL) (jJ Ex RL) l K mu l[mu]?)
 (hend:∀ w',I2 w'→ig (jJ Ex RL) w' (eI l K) fun M=>St P l.toArray Q (l.drop K) n (M++L) w'):Cd P (.region id l.toArray true) Q n L w:=by
 refine ⟨wp_region_any hm ?_⟩;have hKl:K≤l.length:=dT_ (Bool.and_eq_true_iff.1 (Bool.and_eq_true_iff.1 hc).1).1
 have:=xG (Q:=Q) hQ hc hm1 hm2 (fF hmono) (tc hmono) hop xJ (fun _=>hl) hmu hend l.length (Array.replicate l.length false) L { w with drawn:=w.drawn+1 } (mz l _) (by simp) (by simp)
  (fun j _ hj=>by simp [Array.getD,hj]) h0' (fun _=>h0) (fun _ _=>rfl) (fun i o d hi _ hl=>by
   have:i<l.length:=by omega
   simp [Array.getD,this] at hl) (fun _ i o d hi _ hl=>by
   have:i<l.length:=by omega
   simp [Array.getD,this] at hl)
 simpa using this
end late
section
variable {P:Program} {ops:Array Oper} {n:Fr} {L:List (Nat×Value)} {w:World} {ty:TypeId} {pos:String} {after:Array Edge} {dst:Option Nat}
theorem zv {f:FuncId} {l:List Operand} {ats:Array TypeId} {R post:Value→World→Prop} (hf:aH P f=true) (hc:Rt P f (l.map (ev n L)) w R) (k:∀ v w',R v w'→post v w') :
 qO P ops n L ⟨dst,.call { callee:=.value (.func f),args:=l.toArray,argTypes:=ats },ty,pos,after,none⟩ w post:=
 ⟨rfl,.inr ⟨f,l.map (ev n L),by rw [fc (fun _=>rfl),fk hf],hc.mono k⟩⟩
theorem BC {op:Op} {v:Value} {w':World} {post:Value→World→Prop} (hr:RO P (ev n L) op w v w') (h:post v w'):qO P ops n L ⟨dst,op,ty,pos,after,none⟩ w post:=⟨rfl,.inl ⟨v,w',hr _ _ _ _ _,h⟩⟩
end
end Go.Proofs.YtaohnmneccbljaaGreatDoor
namespace Go.Proofs.YtaohnmneccbljaaGreatDoor
open Go.Proofs.Tryz (prog)
open Go.RowKit
def qu (l:List Oper):Bool:=(List.range l.length).all fun i=>match l[i]? with
 |none=>false
 |some o=>o.guard.isNone&&o.after.toList.all fun e=> !Region.binds .any e||decide (e.on<i)
def df (S:Nat→Bool) (i:Nat):Nat→Bool:=fun j=>if j=i then true else S j
def fA (P:Program) (n:Fr) (o:Oper) (Inv:List (Nat×Value)→World→Prop) (L':List (Nat×Value)) (w':World):Prop:=
 (∃ d v w'',o.dst=some d∧(execOp (ev n L') o).run P w'=.ok (.value v) w''∧Inv ((d,v)::L') w'')∨
 (∃ w'',o.dst=none∧(execOp (ev n L') o).run P w'=.ok .skip w''∧Inv L' w'')∨
 (∃ d f args,o.dst=some d∧(execOp (ev n L') o).run P w'=.ok (.enter f (List.toArray args)) w'∧Rt P f args w' fun v w''=>Inv ((d,v)::L') w'')
section
variable {P:Program} {Q:Exit→Act→World→Prop} {n:Fr} {L:List (Nat×Value)} {w:World} {l:List Oper}
theorem zC {Inv:(Nat→Bool)→List (Nat×Value)→World→Prop} (hwf:qu l=true)
 (hstep:∀ (i:Nat) (o:Oper) (S:Nat→Bool) (L':List (Nat×Value)) (w':World),l[i]? =some o→Inv S L' w'→S i=false→(∀ e∈o.after,Region.binds .any e=true→S e.on=true)→fA P n o (Inv (df S i)) L' w')
 (hend:∀ L' w',Inv (fun i=>decide (i<l.length)) L' w'→Q .normal (mkA n L') w') :
 ∀ (m:Nat) (listed:Array Bool) (L':List (Nat×Value)) (w':World),listed.toList.count false=m→listed.size=l.length→Inv (fun i=>listed.getD i false) L' w'→wpAny P .any l.toArray Q m listed (mkA n L') w':=by
 have hck:=List.all_eq_true.1 hwf;intro m
 induction m with
 |zero=>
  intro listed L' w' hcount hs hI
  have hall:∀ i,i<l.length→listed.getD i false=true:=fun i hi=>by
   have hm:listed[i]'(by omega)∈listed.toList:=by simp
   cases hb:listed[i]'(by omega) with
   |true=>simp [Array.getD,show i<listed.size by omega,hb]
   |false=>rw [hb] at hm;exact absurd hcount (Nat.pos_iff_ne_zero.1 (List.count_pos_iff.2 hm))
  have e:(fun i=>listed.getD i false)=fun i=>decide (i<l.length):=by
   funext i
   by_cases hi:i<l.length
   ·rw [hall i hi,decide_eq_true hi]
   ·rw [decide_eq_false hi];simp [Array.getD,show ¬ i<listed.size by omega]
  rw [e] at hI;refine ⟨?_,hend L' w' hI⟩;cases hr:Region.ready .any l.toArray listed with
  |nil=>rfl
  |cons i r=>
   exfalso;obtain ⟨h0,o,ho,_⟩:=mem_ready.1 (show i∈Region.ready .any l.toArray listed by rw [hr];simp);rw [List.getElem?_toArray] at ho;have hil:i<l.length:=(List.getElem?_eq_some_iff.1 ho).1;have:=hall i hil;rw [←aU (by omega),h0] at this;cases this
 |succ m ih=>
  intro listed L' w' hcount hs hI
  have hn0:∃ i,i<l.length∧listed.getD i true=false:=by
   have hpos:0<listed.toList.count false:=by omega
   obtain ⟨i,hi,hb⟩:=List.getElem_of_mem (List.count_pos_iff.1 hpos);rw [Array.length_toList] at hi;refine ⟨i,by omega,?_⟩;rw [Array.getElem_toList] at hb;simp [Array.getD,hi,hb]
  obtain ⟨i0,hi0,hmin⟩:=exists_least (p:=fun i=>i<l.length∧listed.getD i true=false) hn0
  have hready:i0∈Region.ready .any l.toArray listed:=by
   refine mem_ready.2 ⟨hi0.2,l[i0]'hi0.1,by rw [List.getElem?_toArray,List.getElem?_eq_getElem hi0.1],fun e he hb=>?_⟩;have hx:=hck i0 (List.mem_range.2 hi0.1);rw [List.getElem?_eq_getElem hi0.1] at hx;simp only [Bool.and_eq_true] at hx;have he2:=List.all_eq_true.1 hx.2 e (by simpa using he);rw [hb] at he2;simp at he2;have:=hi0.1;rw [←aU (by omega)];cases hb2:listed.getD e.on true with
   |true=>rfl
   |false=>exact absurd (hmin e.on ⟨by omega,hb2⟩) (by omega)
  refine ⟨fun h0=>(by rw [h0] at hready;cases hready),fun i hi=>?_⟩;obtain ⟨h0,o,ho,hall⟩:=mem_ready.1 hi;rw [List.getElem?_toArray] at ho;have hil:i<l.length:=(List.getElem?_eq_some_iff.1 ho).1;have hx:=hck i (List.mem_range.2 hil);rw [ho] at hx;simp only [Bool.and_eq_true] at hx;have hg:o.guard=none:=by simpa using hx.1
  have h0f:listed.getD i false=false:=by rw [←aU (by omega)];exact h0
  have hset:(fun j=>(listed.setIfInBounds i true).getD j false)=df (fun j=>listed.getD j false) i:=by
   funext j
   unfold df;by_cases e:j=i
   ·subst e;simp [Array.getD,show j<listed.size by omega]
   ·rw [if_neg e,getD_set_ne false (Ne.symm e)]
  have hcnt:(listed.setIfInBounds i true).toList.count false=m:=by
   have hil':i<listed.size:=by omega
   have hfalse:listed.toList[i]? =some false:=by
    rw [Array.getElem?_toList,Array.getElem?_eq_getElem hil'];simp [Array.getD,hil'] at h0;rw [h0]
   rw [Array.toList_setIfInBounds];have:=dO (l:=listed.toList) (i:=i) hfalse;omega
  have next:∀ L2 w2,Inv (df (fun j=>listed.getD j false) i) L2 w2→wpAny P .any l.toArray Q m (listed.setIfInBounds i true) (mkA n L2) w2:=fun L2 w2 h=>
   ih _ L2 w2 hcnt (by simpa using hs) (by rw [hset];exact h)
  unfold wpOp;rw [List.getElem?_toArray,ho];show if Region.wanted o (yielded l.toArray (mkT n.n L'))=true then _ else _
  rw [if_pos (by unfold Region.wanted;rw [hg])];refine .inl ?_;unfold Oper.wp;rw [cg];rcases hstep i o _ L' w' ho hI h0f hall with ⟨d,v,w'',hd,hr,hI2⟩ | ⟨w'',hd,hr,hI2⟩ | ⟨d,f,args,hd,hr,hc⟩
  ·rw [hr,Oper.upon_value,hd,ej];exact next _ _ hI2
  ·rw [hr,Oper.upon_skip,hd];exact next _ _ hI2
  ·rw [hr,Oper.upon_enter,hd];refine Calls.mono hc fun e w'' ⟨v,he,hI2⟩=>?_
   subst he;show wpAny P .any l.toArray Q m (listed.setIfInBounds i true) ((mkA n L').put (some d) v) w'';rw [ej];exact next _ _ hI2
theorem yw {id:Nat} (Inv:(Nat→Bool)→List (Nat×Value)→World→Prop) (hm:P.follows .mixedOrders=true) (hwf:qu l=true) (h0:Inv (fun _=>false) L { w with drawn:=w.drawn+1 })
 (hstep:∀ (i:Nat) (o:Oper) (S:Nat→Bool) (L':List (Nat×Value)) (w':World),l[i]? =some o→Inv S L' w'→S i=false→(∀ e∈o.after,Region.binds .any e=true→S e.on=true)→fA P n o (Inv (df S i)) L' w')
 (hend:∀ L' w',Inv (fun i=>decide (i<l.length)) L' w'→Q .normal (mkA n L') w'):Cd P (.region id l.toArray true) Q n L w:=by
 refine ⟨wp_region_any hm ?_⟩
 have:=zC (Q:=Q) hwf hstep hend l.length (Array.replicate l.length false) L { w with drawn:=w.drawn+1 } (by simp) (by simp) (by
  have e:(fun i=>(Array.replicate l.length false).getD i false)=fun _=>false:=by
   funext i
   by_cases hi:i<l.length <;> simp [Array.getD,hi]
  rw [e];exact h0)
 simpa using this
theorem bB {d:Nat} {op:Op} {ty:TypeId} {pos:String} {after:Array Edge} {v:Value} {w' w'':World} {L':List (Nat×Value)} {Inv:List (Nat×Value)→World→Prop} (h:RO P (ev n L') op w' v w'') (hI:Inv ((d,v)::L') w''):fA P n ⟨some d,op,ty,pos,after,none⟩ Inv L' w':=
 .inl ⟨d,v,w'',rfl,h _ _ _ _ _,hI⟩
theorem mW {op:Op} {ty:TypeId} {pos:String} {after:Array Edge} {w' w'':World} {L':List (Nat×Value)} {Inv:List (Nat×Value)→World→Prop} (h:RS P (ev n L') op w' w'') (hI:Inv L' w''):fA P n ⟨none,op,ty,pos,after,none⟩ Inv L' w':=
 .inr (.inl ⟨w'',rfl,h _ _ _ _ _,hI⟩)
theorem lO {d:Nat} {f:FuncId} {al:List Operand} {ats:Array TypeId} {ty:TypeId} {pos:String} {after:Array Edge} {w':World} {L':List (Nat×Value)} {Inv:List (Nat×Value)→World→Prop} (hf:aH P f=true) (hc:Rt P f (al.map (ev n L')) w' fun v w''=>Inv ((d,v)::L') w''):fA P n ⟨some d,.call { callee:=.value (.func f),args:=al.toArray,argTypes:=ats },ty,pos,after,none⟩ Inv L' w':=
 .inr (.inr ⟨d,f,al.map (ev n L'),rfl,by rw [fc (fun _=>rfl),fk hf],hc⟩)
def km (L:List (Nat×Value)) (T:List (Nat×Nat×Value)) (S:Nat→Bool) (L':List (Nat×Value)):Prop:=
 (∀ t,(∀ p∈T,p.2.1≠t)→aT L' t=aT L t)∧(∀ p∈T,S p.1=true→aT L' p.2.1=p.2.2)∧∀ p∈T,S p.1=false→aT L' p.2.1=aT L p.2.1
def mU:List (Nat×Nat×Value)→Prop
 |[]=>True
 |p::r=>(∀ q∈r,q.1≠p.1∧q.2.1≠p.2.1)∧mU r
theorem p3:∀ {T:List (Nat×Nat×Value)},mU T→∀ {p q:Nat×Nat×Value},p∈T→q∈T→p.1=q.1∨p.2.1=q.2.1→p=q
 |_::_,⟨h1,h2⟩,p,q,hp,hq,he=>by
  rcases List.mem_cons.1 hp with rfl | hp' <;> rcases List.mem_cons.1 hq with rfl | hq'
  ·rfl
  ·rcases he with e | e
   ·exact absurd e.symm (h1 _ hq').1
   ·exact absurd e.symm (h1 _ hq').2
  ·rcases he with e | e
   ·exact absurd e (h1 _ hp').1
   ·exact absurd e (h1 _ hp').2
  ·exact p3 h2 hp' hq' he
theorem km.put {T:List (Nat×Nat×Value)} {S:Nat→Bool} {L':List (Nat×Value)} {i d:Nat} {v:Value} (h:km L T S L') (hU:mU T) (hp:(i,d,v)∈T):km L T (df S i) ((d,v)::L'):=by
 refine ⟨fun t ht=>?_,fun p hq hs=>?_,fun p hq hs=>?_⟩
 ·rw [bF,if_neg (fun e=>ht _ hp e.symm)];exact h.1 t ht
 ·rw [bF];by_cases e:p.2.1=d
  ·rw [if_pos e,p3 hU hq hp (.inr e)]
  ·rw [if_neg e];refine h.2.1 p hq ?_;unfold df at hs;by_cases e2:p.1=i
   ·exact absurd (congrArg (·.2.1) (p3 hU hq hp (.inl e2))) e
   ·rwa [if_neg e2] at hs
 ·unfold df at hs;by_cases e2:p.1=i
  ·rw [if_pos e2] at hs;cases hs
  ·rw [if_neg e2] at hs;rw [bF,if_neg (fun e=>e2 (congrArg (·.1) (p3 hU hq hp (.inr e))))];exact h.2.2 p hq hs
theorem km.skip {T:List (Nat×Nat×Value)} {S:Nat→Bool} {L':List (Nat×Value)} {i:Nat} (h:km L T S L') (hi:∀ p∈T,p.1≠i):km L T (df S i) L':=by
 refine ⟨h.1,fun p hq hs=>h.2.1 p hq ?_,fun p hq hs=>h.2.2 p hq ?_⟩ <;> (unfold df at hs;rwa [if_neg (hi p hq)] at hs)
theorem km.get {T:List (Nat×Nat×Value)} {S:Nat→Bool} {L':List (Nat×Value)} {i d:Nat} {v:Value} (h:km L T S L') (hp:(i,d,v)∈T) (hs:S i=true):aT L' d=v:=h.2.1 _ hp hs
def jz (S:Nat→Bool):List Edge→Prop
 |[]=>True
 |e::r=>(bif Region.binds .any e then S e.on=true else True)∧jz S r
theorem lv {S:Nat→Bool}:∀ {es:List Edge},(∀ e∈es,Region.binds .any e=true→S e.on=true)→jz S es
 |[],_=>trivial
 |e::r,h=>by
  refine ⟨?_,lv fun e' he=>h e' (.tail _ he)⟩;cases hb:Region.binds .any e with
  |true=>exact h e (.head _) hb
  |false=>trivial
def qN (P:Program) (n:Fr) (L:List (Nat×Value)) (T:List (Nat×Nat×Value)) (Mem:(Nat→Bool)→World→Prop):Nat→List Oper→Prop
 |_,[]=>True
 |i,o::r=>(∀ S L' w',km L T S L'→Mem S w'→S i=false→jz S o.after.toList→fA P n o (fun L2 w2=>km L T (df S i) L2∧Mem (df S i) w2) L' w')∧qN P n L T Mem (i+1) r
theorem lN {T:List (Nat×Nat×Value)} {Mem:(Nat→Bool)→World→Prop}:∀ {r:List Oper} {k:Nat},qN P n L T Mem k r→∀ (i:Nat) (o:Oper),r[i]? =some o→∀ S L' w',km L T S L'→Mem S w'→S (k+i)=false→jz S o.after.toList→fA P n o (fun L2 w2=>km L T (df S (k+i)) L2∧Mem (df S (k+i)) w2) L' w'
 |[],_,_,i,o,h=>by simp at h
 |x::r,k,⟨h1,h2⟩,0,o,h=>by
  simp only [List.getElem?_cons_zero,Option.some.injEq] at h;subst h;exact h1
 |x::r,k,⟨h1,h2⟩,i+1,o,h=>by
  have:=lN h2 i o (by simpa using h)
  rwa [show k+1+i=k+(i+1) by omega] at this
theorem rD {T:List (Nat×Nat×Value)} (_:mU T) {L L':List (Nat×Value)} {S:Nat→Bool} (h:km L T S L') (hS:∀ p∈T,S p.1=true) (t:Nat):aT L' t=aT (T.map (fun p=>(p.2.1,p.2.2))++L) t:=by
 have key:∀ T':List (Nat×Nat×Value),(∀ p∈T',p∈T)→(∃ p∈T',p.2.1=t)∨(∀ p∈T',p.2.1≠t)→(∃ p∈T',p.2.1=t∧aT (T'.map (fun p=>(p.2.1,p.2.2))++L) t=p.2.2)∨((∀ p∈T',p.2.1≠t)∧aT (T'.map (fun p=>(p.2.1,p.2.2))++L) t=aT L t):=by
  intro T'
  induction T' with
  |nil=>exact fun _ _=>.inr ⟨fun p hp=>by simp at hp,rfl⟩
  |cons q r ih=>
   intro hsub _;rw [List.map_cons,List.cons_append,bF];by_cases e:q.2.1=t
   ·rw [if_pos e.symm];exact .inl ⟨q,.head _,e,rfl⟩
   ·rw [if_neg (Ne.symm e)];rcases ih (fun p hp=>hsub p (.tail _ hp)) (by by_cases hx:∃ p∈r,p.2.1=t;exact .inl hx;exact .inr fun p hp he=>hx ⟨p,hp,he⟩) with ⟨p,hp,h1,h2⟩ | ⟨h1,h2⟩
    ·exact .inl ⟨p,.tail _ hp,h1,h2⟩
    ·refine .inr ⟨fun p hp=>?_,h2⟩;rcases List.mem_cons.1 hp with rfl | hp2
     ·exact e
     ·exact h1 p hp2
 rcases key T (fun _ hp=>hp) (by by_cases hx:∃ p∈T,p.2.1=t;exact .inl hx;exact .inr fun p hp he=>hx ⟨p,hp,he⟩) with ⟨p,hp,h1,h2⟩ | ⟨h1,h2⟩
 ·rw [h2,←h1];exact h.2.1 p hp (hS p hp)
 ·rw [h2];exact h.1 t h1
theorem uI {id:Nat} (T:List (Nat×Nat×Value)) (Mem:(Nat→Bool)→World→Prop) (hm:P.follows .mixedOrders=true) (hwf:qu l=true) (hU:mU T) (hlt:∀ p∈T,p.1<l.length) (h0:Mem (fun _=>false) { w with drawn:=w.drawn+1 })
 (hstep:qN P n L T Mem 0 l) (hend:∀ w',Mem (fun i=>decide (i<l.length)) w'→Q .normal (mkA n (T.map (fun p=>(p.2.1,p.2.2))++L)) w'):Cd P (.region id l.toArray true) Q n L w:=by
 refine yw (fun S L' w'=>km L T S L'∧Mem S w') hm hwf ⟨⟨fun _ _=>rfl,fun _ _ h=>(by cases h),fun _ _ _=>rfl⟩,h0⟩ (fun i o S L' w' ho ⟨hI,hM⟩ hS hE=>?_) fun L' w' ⟨hI,hM⟩=>?_
 ·have:=lN hstep i o ho S L' w' hI hM (by rw [Nat.zero_add];exact hS) (lv fun e he=>hE e (by simpa using he))
  rwa [Nat.zero_add] at this
 ·have h:=hend w' hM
  have e:mkA n L'=mkA n (T.map (fun p=>(p.2.1,p.2.2))++L):=by
   unfold mkA;rw [kb fun t _=>rD hU hI (fun p hp=>decide_eq_true (hlt p hp)) t]
  rw [e];exact h
theorem sO {t:TypeId} {x y:Operand} {g i:Nat} {u:TypeId} {cs:Array Value} {v:Value} (ht:cS P t=some 1) (hx:ev n L x=.pointer (some ⟨g,i,none⟩)) (hy:ev n L y=v) (h1:v.oneCell'=true) (hb:Blk w g u cs) (hi:i<cs.size) :
 ∃ w',RS P (ev n L) (.store t x y) w w'∧cY g w w'∧Blk w' g u (cs.setIfInBounds i v):=by
 have hc:w.cell? ⟨g,i,none⟩=some (cs[i]'hi):=by rw [hb.cell];simp [hi]
 exact ⟨_,kX ht hx hy h1 hc (hb.frozen i),cY.setCell w g i v,hb.set_ i v⟩
end
end Go.Proofs.YtaohnmneccbljaaGreatDoor
namespace Go.Proofs.YtaohnmneccbljaaGreatDoor
open Go.Proofs.Tryz (prog)
open Go.RowKit
def Cr (w:World) (base:Nat) (e:TypeId) (A:Option Addr) (n c:Nat) (xs:List Value):Prop:=
 xs.length=n∧n≤c∧c≤maxLen∧∃ g off cs,A=some ⟨g,off,none⟩∧base≤g∧Blk w g e cs∧off+c≤cs.size∧(cs.toList.drop off).take n=xs
section
variable {P:Program} {Q:Exit→Act→World→Prop} {n:Fr} {L:List (Nat×Value)} {w:World} {l:List Oper}
def Bo (P:Program) (n:Fr) (Inv:(Nat→Bool)→List (Nat×Value)→World→Prop):Nat→List Oper→Prop
 |_,[]=>True
 |i,o::r=>(∀ S L' w',Inv S L' w'→S i=false→jz S o.after.toList→fA P n o (Inv (df S i)) L' w')∧Bo P n Inv (i+1) r
end
theorem kD {P:Program} {ρ:Operand→Value} {w:World} {s x:Operand} {t base:Nat} {A A2:Option Addr} {m j cap c2 e size by_:Nat} {z:Value} {xs news:List Value} (hq:eU P t=some (e,size,by_,z)) (hzs:z.cells.size=size) (hs0:0<size)
 (hs:ρ s=.slice A m cap) (hown:w.ownsRow base e size (.slice A m cap) m xs) (hB:base≤w.heap.size)
 (hx:ρ x=.slice A2 j c2) (hl:news.length=j*size) (hsrc:∃ b o,A2=some ⟨b,o,none⟩∧w.rangeAt b o news) (h1:∀ u∈news,u.oneCell'=true) (h63:m+j≤9223372036854775807) (hby:(m+j)*by_≤140737488355328) :
 ∃ A' cap' w',RO P ρ (.call { callee:=.builtin .append,args:=#[s,x],argTypes:=#[t,t] }) w (.slice A' (m+j) cap') w'∧w'.ownsRow base e size (.slice A' (m+j) cap') (m+j) (xs++news)∧w.grownBy w' (A.map (·.block))∧(A'.map (·.block)=A.map (·.block)∨A'.map (·.block)=some w.heap.size):=by
 obtain ⟨i,hu,hi,hsz,hb,hz⟩:=jd hq;obtain ⟨b,o,rfl,hr⟩:=hsrc;have hobl:∀ (A:Option Addr) (m c:Nat),(Value.slice A m c).ownBlock=A.map (·.block):=fun A m c=>by cases A <;> rfl
 obtain ⟨v',w',hrun,hown',hg,_,h5⟩:=run_append_own_at (P:=P) w base t 0 e i z size by_ hu hi hz hsz hb hzs hs0 _ m xs hown ⟨b,o,none⟩ j c2 news hl (fun i u hu=>by rw [Addr.add_mid];exact hr i u hu) h1 (by unfold maxLen;omega) hby hB;obtain ⟨A',cap',rfl⟩:=fp hown';rw [hobl,hobl] at h5;refine ⟨A',cap',w',fun dst ty pos after g=>?_,hown',by rw [←hobl A m cap];exact hg,h5⟩;have hty:(Builtin.append_ #[t,t] ty #[.slice A m cap,.slice (some ⟨b,o,none⟩) j c2]).run P w=(Builtin.append_ #[t,t] 0 #[.slice A m cap,.slice (some ⟨b,o,none⟩) j c2]).run P w:=rfl;unfold execOp;simp only [resolve,invoke,builtin,Sem.run_bind,Sem.run_pure,Result.andThen_ok,List.map_toArray,List.map_cons,List.map_nil,hs,hx,hty,hrun]
end Go.Proofs.YtaohnmneccbljaaGreatDoor
namespace Go.Proofs.YtaohnmneccbljaaGreatDoor
open Go.Proofs.Tryz (prog)
open Go.RowKit Go.ChangeShapes Go.WideShapes Go.ChangeAt
def pU (A B:Option Addr):Prop:=∀ p,A.map (·.block)=some p→∀ q,B.map (·.block)=some q→p≠q
theorem pU.none_ {B:Option Addr}:pU none B:=fun p hp=>by cases hp
theorem vp {w w':World} {base e s n c:Nat} {A B:Option Addr} {xs:List Value} (h:w.ownsRow base e s (.slice A n c) n xs) (hg:w.grownBy w' (B.map (·.block))) (hne:pU B A):w'.ownsRow base e s (.slice A n c) n xs:=by
 refine ⟨h.1,?_⟩;rcases h.2 with h0 | ⟨g,cap,cur,h1,h2,h3,h4⟩
 ·exact .inl h0
 ·refine .inr ⟨g,cap,cur,h1,h2,?_,h4⟩;simp only [Value.slice.injEq] at h1;obtain ⟨rfl,_,_⟩:=h1
  have hlt:g<w.heap.size:=by
   rcases Nat.lt_or_ge g w.heap.size with a | a
   ·exact a
   ·rw [Array.getElem?_eq_none a] at h3;cases h3
  exact (hg.block g hlt fun e=>hne g e.symm g rfl rfl).trans h3
theorem vq {w:World} {b1 b2 e1 e2 s1 s2 n1 n2 c1 c2:Nat} {A1 A2:Option Addr} {xs1 xs2:List Value} (h1:w.ownsRow b1 e1 s1 (.slice A1 n1 c1) n1 xs1) (h2:w.ownsRow b2 e2 s2 (.slice A2 n2 c2) n2 xs2) (hne:e1≠e2):pU A1 A2:=fun p hp q hq e=>by
 rcases h1.2 with ⟨k1,_⟩ | ⟨g1,cap1,cur1,k1,_,k2,_⟩
 ·simp only [Value.slice.injEq] at k1;rw [k1.1] at hp;cases hp
 ·rcases h2.2 with ⟨j1,_⟩ | ⟨g2,cap2,cur2,j1,_,j2,_⟩
  ·simp only [Value.slice.injEq] at j1;rw [j1.1] at hq;cases hq
  ·simp only [Value.slice.injEq] at k1 j1;rw [k1.1] at hp;rw [j1.1] at hq;cases hp;cases hq;have e:g1=g2:=e;rw [e,j2] at k2;simp only [Option.some.injEq,Obj.cells.injEq] at k2;exact hne k2.2.1.symm
section
variable {P:Program} {ops:Array Oper} {Q:Exit→Act→World→Prop} {rest:List Oper} {n:Fr} {L:List (Nat×Value)} {w:World} {ty:TypeId} {pos:String} {after:Array Edge} {d:Nat} {t:TypeId} {s x y:Operand}
theorem sK {base:Nat} {A A2:Option Addr} {m j cap c2 e size by_:Nat} {z:Value} {xs news:List Value} (hq:eU P t=some (e,size,by_,z)) (hzs:z.cells.size=size) (hs0:0<size)
 (hs:ev n L s=.slice A m cap) (hown:w.ownsRow base e size (.slice A m cap) m xs) (hB:base≤w.heap.size)
 (hx:ev n L x=.slice A2 j c2) (hl:news.length=j*size) (hsrc:∃ b o,A2=some ⟨b,o,none⟩∧w.rangeAt b o news) (h1:∀ u∈news,u.oneCell'=true) (h63:m+j≤9223372036854775807) (hby:(m+j)*by_≤140737488355328)
 (k:∀ A' cap' w',w'.ownsRow base e size (.slice A' (m+j) cap') (m+j) (xs++news)→w.grownBy w' (A.map (·.block))→(A'.map (·.block)=A.map (·.block)∨A'.map (·.block)=some w.heap.size)→St P ops Q rest n ((d,.slice A' (m+j) cap')::L) w') :
 St P ops Q (⟨some d,.call { callee:=.builtin .append,args:=#[s,x],argTypes:=#[t,t] },ty,pos,after,none⟩::rest) n L w:=by
 obtain ⟨A',cap',w',hR,h2,h3,h4⟩:=kD (P:=P) (ρ:=ev n L) (s:=s) (x:=x) (w:=w) hq hzs hs0 hs hown hB hx hl hsrc h1 h63 hby;exact aa hR (k A' cap' w' h2 h3 h4)
theorem np {e by_:Nat} {z v z0 z1 u0 u1:Value} (hq:eU P t=some (e,2,by_,z)) (hz:z.cells=#[z0,z1]) (hx:ev n L x=v) (hv:v.cells=#[u0,u1])
 (k:∀ g w',ag w w'→g=w.heap.size→Blk w' g e #[u0,u1]→St P ops Q rest n ((d,.slice (some ⟨g,0,none⟩) 1 1)::L) w'):St P ops Q (⟨some d,.buildSlice t 1 #[(0,x)],ty,pos,after,none⟩::rest) n L w:=by
 refine gi (l:=[(0,x)]) (cells:=#[u0,u1]) hq rfl rfl ?_ k
 have e1:(Array.range (1*2)).map (z.cells[·%z.cells.size]!)=#[z0,z1]:=by
  rw [hz,show Array.range (1*2)=#[0,1] from rfl];simp
 rw [e1];simp [Instr.fill,hx,hv]
end
end Go.Proofs.YtaohnmneccbljaaGreatDoor
namespace Go.Proofs.YtaohnmneccbljaaGreatDoor
open Go.Proofs.Tryz (prog)
open Go.RowKit Go.ChangeShapes Go.WideShapes Go.ChangeAt
structure Chg (U:Nat→Prop) (w w':World):Prop where
 os:w'.os=w.os
 tape:w'.tape=w.tape
 output:w'.output=w.output
 size:w.heap.size≤w'.heap.size
 block:∀ k,k<w.heap.size→¬ U k→w'.heap[k]? =w.heap[k]?
section
variable {U V:Nat→Prop} {a w w' w2:World}
theorem Chg.rfl_:Chg U w w:=⟨rfl,rfl,rfl,Nat.le_refl _,fun _ _ _=>rfl⟩
theorem ag.toChg (h:ag w w'):Chg U w w':=⟨h.os,h.tape,h.output,h.size,fun k hk _=>h.block k hk⟩
theorem cY.toChg {g:Nat} (h:cY g w w') (hg:U g):Chg U w w':=⟨h.os,h.tape,h.output,Nat.le_of_eq h.size.symm,fun k _ hu=>h.block k (fun e=>hu (e ▸ hg))⟩
theorem Chg.of_grown {r:Option Nat} (h:w.grownBy w' r) (hr:∀ k,r=some k→U k):Chg U w w':=⟨h.os,h.tape,h.output,h.size,fun k hk hu=>h.block k hk (fun e=>hu (hr k e.symm))⟩
theorem Chg.trans (h:Chg U w w') (k:Chg V w' w2) (hV:∀ i,V i→U i∨w.heap.size≤i):Chg U w w2:=⟨k.os.trans h.os,k.tape.trans h.tape,k.output.trans h.output,Nat.le_trans h.size k.size,fun i hi hu=>by
 refine (k.block i (Nat.lt_of_lt_of_le hi h.size) fun hv=>?_).trans (h.block i hi hu);rcases hV i hv with e | e
 ·exact hu e
 ·omega⟩
theorem Chg.next (h:Chg U w w') (k:Chg U w' w2):Chg U w w2:=h.trans k fun _ h=>.inl h
theorem Chg.wide (h:Chg U w w') (hV:∀ i,U i→V i∨w.heap.size≤i):Chg V w w':=(Chg.rfl_ (U:=V)).trans h hV
theorem ag.chg (h:ag a w) (c:Chg U w w') (hU:∀ k,U k→a.heap.size≤k):ag a w':=⟨c.os.trans h.os,c.tape.trans h.tape,c.output.trans h.output,Nat.le_trans h.size c.size,fun k hk=>(c.block k (Nat.lt_of_lt_of_le hk h.size) (fun hu=>by have:=hU k hu;omega)).trans (h.block k hk)⟩
theorem Blk.chg {g:Nat} {t:TypeId} {cs:Array Value} (h:Blk w g t cs) (c:Chg U w w') (hg:¬ U g):Blk w' g t cs:=(c.block g h.lt hg).trans h
theorem eX {base e s n c:Nat} {A:Option Addr} {xs:List Value} (h:w.ownsRow base e s (.slice A n c) n xs) (hc:Chg U w w') (hA:∀ q,A.map (·.block)=some q→¬ U q):w'.ownsRow base e s (.slice A n c) n xs:=by
 refine ⟨h.1,?_⟩;rcases h.2 with h0 | ⟨g,cap,cur,h1,h2,h3,h4⟩
 ·exact .inl h0
 ·refine .inr ⟨g,cap,cur,h1,h2,?_,h4⟩;simp only [Value.slice.injEq] at h1;obtain ⟨rfl,_,_⟩:=h1
  have hlt:g<w.heap.size:=by
   rcases Nat.lt_or_ge g w.heap.size with a | a
   ·exact a
   ·rw [Array.getElem?_eq_none a] at h3;cases h3
  exact (hc.block g hlt (hA g rfl)).trans h3
end
def Cm (w w':World) (n:Nat):World:={ w' with heap:=w'.heap.mapIdx fun i o=>if i<n then o else (w.heap[i]?).getD o }
end Go.Proofs.YtaohnmneccbljaaGreatDoor
namespace Go.Proofs.YtaohnmneccbljaaGreatDoor
open Go.Proofs.Tryz (prog)
def Cq (w:World) (v:Value) (vs:List Value):Prop:=Row w v vs∧∃ A cap,v=.slice A vs.length cap∧vs.length≤cap∧cap≤9223372036854775807
def restA (A:Option Addr) (cap k:Nat):Option Addr:=if cap=k then A else A.map (·.add k)
def eT (s:ByteArray):List Nat:=s.data.toList.map (·.toNat)
theorem eJ (s:ByteArray):(eT s).length=s.size:=by rw [eT,List.length_map,Array.length_toList];rfl
theorem yV (s:ByteArray):∀ b∈eT s,b<256:=by
 intro b hb;simp only [eT,List.mem_map] at hb;obtain ⟨x,_,rfl⟩:=hb;exact x.toNat_lt
def aK (l:List Nat):List Value:=l.map fun (x:Nat)=>.int .u8 x
theorem aJ (l:List Nat):(aK l).length=l.length:=by simp [aK]
theorem du (l m:List Nat):aK (l++m)=aK l++aK m:=by simp [aK]
theorem dP (l:List Nat):∀ u∈aK l,u.oneCell'=true:=by
 intro u hu;simp only [aK,List.mem_map] at hu;obtain ⟨b,_,rfl⟩:=hu;rfl
end Go.Proofs.YtaohnmneccbljaaGreatDoor
namespace Go.Proofs.YtaohnmneccbljaaGreatDoor
open Go.Proofs.Tryz (prog)
open Go.RowKit Go.ChangeShapes Go.WideShapes Go.ChangeAt
abbrev Fe:=ByteArray×List Nat×List Nat
def KS (D:List Fe):Prop:=D.Pairwise fun a b=>sLt a.1 b.1
def gv (D:List Fe) (id:ByteArray):Bool:=D.any fun e=>decide (e.1=id)
def eB (D:List Fe) (id:ByteArray):List Nat:=((D.find? fun e=>decide (e.1=id)).map (·.2.1)).getD []
def rN (D:List Fe) (id:ByteArray):List Nat:=((D.find? fun e=>decide (e.1=id)).map (·.2.2)).getD []
def qe (D:List Fe) (id:ByteArray) (vs:List Nat):List Fe:=D.map fun e=>if e.1=id then (e.1,vs,e.2.2) else e
def s3 (D:List Fe) (id:ByteArray) (vs:List Nat):List Fe:=D.map fun e=>if e.1=id then (e.1,e.2.1,vs) else e
def eW (D:List Fe) (e:Fe):List Fe:=(D.takeWhile fun x=>decide (x.1.toList<e.1.toList))++e::D.dropWhile fun x=>decide (x.1.toList<e.1.toList)
def ic (D:List Fe) (id:ByteArray):List Fe:=D.filter fun e=>decide (e.1≠id)
theorem nt {a b:ByteArray} (h:sLt a b):a≠b:=fun e=>sM b (e ▸ h)
structure KAt (D:List Fe) (id:ByteArray) (i:Nat):Prop where
 le:i≤D.length
 lo:∀ x (h:x<D.length),x<i→sLt D[x].1 id
 hi:∀ x (h:x<D.length),i≤x→¬ sLt D[x].1 id
section
variable {D:List Fe} {id:ByteArray} {i:Nat}
theorem KS.cmp (h:KS D) {x y:Nat} (hxy:x<y) (hy:y<D.length):sLt (D[x]'(Nat.lt_trans hxy hy)).1 D[y].1:=List.pairwise_iff_getElem.1 h x y _ hy hxy
theorem Am {α:Type} {p:α→Bool}:∀ {l:List α} {i:Nat},i≤l.length→(∀ x (h:x<l.length),x<i→p l[x]=true)→(∀ h:i<l.length,p l[i]=false)→l.takeWhile p=l.take i∧l.dropWhile p=l.drop i
 |[],i,hi,_,_=>by obtain rfl:i=0:=Nat.le_zero.1 hi;exact ⟨rfl,rfl⟩
 |a::l,0,_,_,h=>by
  have h0:=h (Nat.zero_lt_succ _);simp only [List.getElem_cons_zero] at h0;simp [List.takeWhile,List.dropWhile,h0]
 |a::l,i+1,hi,h1,h2=>by
  have h0:=h1 0 (Nat.zero_lt_succ _) (Nat.zero_lt_succ _);simp only [List.getElem_cons_zero] at h0;obtain ⟨e1,e2⟩:=Am (p:=p) (l:=l) (i:=i) (Nat.le_of_succ_le_succ hi) (fun x hx hxi=>by have:=h1 (x+1) (Nat.succ_lt_succ hx) (Nat.succ_lt_succ hxi);simpa using this) (fun hx=>by have:=h2 (Nat.succ_lt_succ hx);simpa using this);simp [List.takeWhile,List.dropWhile,h0,e1,e2]
theorem KAt.ins (h:KAt D id i) {vs ds:List Nat}:eW D (id,vs,ds)=D.take i++(id,vs,ds)::D.drop i:=by
 obtain ⟨e1,e2⟩:=Am (p:=fun x:Fe=>decide (x.1.toList<id.toList)) h.le (fun x hx hxi=>decide_eq_true (h.lo x hx hxi)) (fun hx=>decide_eq_false (h.hi i hx (Nat.le_refl _)));unfold eW;rw [e1,e2]
theorem KAt.no (h:KAt D id i) (hn:¬ ∃ h:i<D.length,D[i].1=id) (hs:KS D):∀ e∈D,e.1≠id:=fun e he=>by
 obtain ⟨x,hx,rfl⟩:=List.getElem_of_mem he;rcases Nat.lt_trichotomy x i with a | a | a
 ·exact nt (h.lo x hx a)
 ·subst a;exact fun e=>hn ⟨hx,e⟩
 ·intro e;have h1:=hs.cmp a hx;rw [e] at h1;exact h.hi i (by omega) (Nat.le_refl _) h1
theorem iM:gv D id=true↔∃ e∈D,e.1=id:=by unfold gv;simp
theorem KAt.has (h:KAt D id i) (hs:KS D):gv D id=true↔∃ h:i<D.length,D[i].1=id:=by
 rw [iM];refine ⟨fun ⟨e,he,h2⟩=>?_,fun ⟨h1,h2⟩=>⟨_,List.getElem_mem h1,h2⟩⟩;by_cases k:∃ h:i<D.length,D[i].1=id
 ·exact k
 ·exact absurd h2 (h.no k hs e he)
theorem zJ (hn:∀ e∈D,e.1≠id):D.find? (fun e=>decide (e.1=id))=none:=List.find?_eq_none.2 fun e he=>by simpa using hn e he
theorem uz (hn:∀ e∈D,e.1≠id):eB D id=[]:=by unfold eB;rw [zJ hn];rfl
theorem KS.uniq (hs:KS D) {x y:Nat} (hx:x<D.length) (hy:y<D.length) (h:D[x].1=D[y].1):x=y:=by
 rcases Nat.lt_trichotomy x y with a | a | a
 ·exact absurd h (nt (hs.cmp a hy))
 ·exact a
 ·exact absurd h.symm (nt (hs.cmp a hx))
theorem uB (hs:KS D) (hi:i<D.length) (he:D[i].1=id):D.find? (fun e=>decide (e.1=id))=some D[i]:=by
 have h1:(D.find? (fun e=>decide (e.1=id))).isSome=true:=by rw [List.find?_isSome];exact ⟨_,List.getElem_mem hi,by simpa using he⟩
 obtain ⟨a,ha⟩:=Option.isSome_iff_exists.1 h1;have h2:=List.find?_some ha;have h3:a∈D:=List.mem_of_find?_eq_some ha;obtain ⟨x,hx,rfl⟩:=List.getElem_of_mem h3;have h4:D[x].1=id:=by simpa using h2
 rw [ha,getElem_congr_idx (hs.uniq hx hi (h4.trans he.symm))]
theorem jf (hs:KS D) (hi:i<D.length) (he:D[i].1=id):eB D id=D[i].2.1:=by unfold eB;rw [uB hs hi he];rfl
theorem uA (hs:KS D) (hi:i<D.length) (he:D[i].1=id):rN D id=D[i].2.2:=by unfold rN;rw [uB hs hi he];rfl
theorem s9 (hs:KS D) (hi:i<D.length) (he:D[i].1=id) (g:Fe→Fe):D.map (fun e=>if e.1=id then g e else e)=D.set i (g D[i]):=by
 apply List.ext_getElem
 ·simp
 ·intro x h1 h2;rw [List.length_map] at h1;rw [List.getElem_map,List.getElem_set];by_cases e:i=x
  ·subst e;rw [if_pos he,if_pos rfl]
  ·rw [if_neg e,if_neg (fun h=>e (hs.uniq hi h1 (he.trans h.symm)))]
theorem zj (hs:KS D) (hi:i<D.length) (he:D[i].1=id) (vs:List Nat):qe D id vs=D.set i (id,vs,D[i].2.2):=by
 unfold qe;rw [s9 hs hi he (fun e=>(e.1,vs,e.2.2)),he]
theorem zk (hs:KS D) (hi:i<D.length) (he:D[i].1=id) (vs:List Nat):s3 D id vs=D.set i (id,D[i].2.1,vs):=by
 unfold s3;rw [s9 hs hi he (fun e=>(e.1,e.2.1,vs)),he]
theorem zR (hn:∀ e∈D,e.1≠id):ic D id=D:=List.filter_eq_self.2 fun e he=>by simpa using hn e he
theorem zS (hs:KS D) (hi:i<D.length) (he:D[i].1=id):ic D id=D.take i++D.drop (i+1):=by
 have hx:D=D.take i++D[i]::D.drop (i+1):=by rw [←List.drop_eq_getElem_cons hi,List.take_append_drop]
 unfold ic
 conv=>lhs;rw [hx]
 rw [List.filter_append,List.filter_cons_of_neg (by simpa using he),List.filter_eq_self.2,List.filter_eq_self.2]
 ·intro e hm;obtain ⟨x,hx1,hx2⟩:=List.getElem_of_mem hm;rw [List.length_drop] at hx1;rw [List.getElem_drop] at hx2;have:=hs.cmp (show i<i+1+x by omega) (by omega);rw [hx2,he] at this;simpa using (nt this).symm
 ·intro e hm;obtain ⟨x,hx1,hx2⟩:=List.getElem_of_mem hm;rw [List.length_take] at hx1;rw [List.getElem_take] at hx2;have:=hs.cmp (show x<i by omega) hi;rw [hx2,he] at this;simpa using nt this
theorem KS.sub {E:List Fe} (h:KS D) (k:E.Sublist D):KS E:=List.Pairwise.sublist k h
theorem KS.del (h:KS D) (id:ByteArray):KS (ic D id):=h.sub List.filter_sublist
theorem KS.map {f:Fe→Fe} (h:KS D) (hf:∀ e,(f e).1=e.1):KS (D.map f):=by
 unfold KS;rw [List.pairwise_map];exact List.Pairwise.imp (fun {a b} k=>by rw [hf,hf];exact k) h
theorem KAt.ks (h:KAt D id i) (hs:KS D) (hn:∀ e∈D,e.1≠id) (vs ds:List Nat):KS (D.take i++(id,vs,ds)::D.drop i):=by
 unfold KS;rw [List.pairwise_append,List.pairwise_cons];refine ⟨hs.sub (List.take_sublist _ _),⟨fun e he=>?_,hs.sub (List.drop_sublist _ _)⟩,fun a ha b hb=>?_⟩
 ·obtain ⟨x,hx1,hx2⟩:=List.getElem_of_mem he;rw [List.length_drop] at hx1;rw [List.getElem_drop] at hx2;have h1:=h.hi (i+x) (by omega) (by omega);rw [hx2] at h1;rcases y9 e.1 id with a | a | a
  ·exact absurd a h1
  ·exact absurd a (hn e (List.mem_of_mem_drop he))
  ·exact a
 ·obtain ⟨x,hx1,hx2⟩:=List.getElem_of_mem ha;rw [List.length_take] at hx1;rw [List.getElem_take] at hx2;have h1:=h.lo x (by omega) (by omega);rw [hx2] at h1;rcases List.mem_cons.1 hb with rfl | hb
  ·exact h1
  ·obtain ⟨y,hy1,hy2⟩:=List.getElem_of_mem hb;rw [List.length_drop] at hy1;rw [List.getElem_drop] at hy2;have h2:=hs.cmp (show x<i+y by omega) (by omega);rw [hx2,hy2] at h2;exact h2
theorem KS.ex (hs:KS D) (id:ByteArray):∃ i,KAt D id i:=by
 induction D with
 |nil=>exact ⟨0,Nat.le_refl _,fun x h=>absurd h (Nat.not_lt_zero _),fun x h=>absurd h (Nat.not_lt_zero _)⟩
 |cons a l ih=>
  obtain ⟨i,h⟩:=ih (List.Pairwise.of_cons hs);by_cases k:sLt a.1 id
  ·refine ⟨i+1,Nat.succ_le_succ h.le,fun x hx hxi=>?_,fun x hx hxi=>?_⟩
   ·match x with
    |0=>exact k
    |x+1=>exact h.lo x (Nat.lt_of_succ_lt_succ hx) (Nat.lt_of_succ_lt_succ hxi)
   ·match x with
    |0=>omega
    |x+1=>exact h.hi x (Nat.lt_of_succ_lt_succ hx) (Nat.le_of_succ_le_succ hxi)
  ·refine ⟨0,Nat.zero_le _,fun x hx hxi=>absurd hxi (Nat.not_lt_zero _),fun x hx _ h2=>?_⟩
   match x with
   |0=>exact k h2
   |x+1=>exact k (j6 (hs.cmp (Nat.zero_lt_succ x) hx) h2)
theorem KS.ins (hs:KS D) (hn:∀ e∈D,e.1≠id) (vs ds:List Nat):KS (eW D (id,vs,ds)):=by
 obtain ⟨i,h⟩:=hs.ex id;rw [h.ins];exact h.ks hs hn vs ds
theorem rJ {e x:Fe}:x∈eW D e↔x=e∨x∈D:=by
 unfold eW;rw [List.mem_append,List.mem_cons]
 conv=>rhs;rw [←List.takeWhile_append_dropWhile (p:=fun x:Fe=>decide (x.1.toList<e.1.toList)) (l:=D)]
 rw [List.mem_append];exact ⟨fun h=>h.elim (fun h=>.inr (.inl h)) fun h=>h.elim .inl fun h=>.inr (.inr h),fun h=>h.elim (fun h=>.inr (.inl h)) fun h=>h.elim .inl fun h=>.inr (.inr h)⟩
theorem rL (D:List Fe) (e:Fe):(eW D e).length=D.length+1:=by
 unfold eW;rw [List.length_append,List.length_cons];have:=congrArg List.length (List.takeWhile_append_dropWhile (p:=fun x:Fe=>decide (x.1.toList<e.1.toList)) (l:=D));rw [List.length_append] at this;omega
theorem jO {x:Fe}:x∈ic D id↔x∈D∧x.1≠id:=by unfold ic;rw [List.mem_filter];simp
end
structure RB (w:World) (A:Option Addr) (c:Nat) (l:List Nat):Prop where
 le:l.length≤c
 mx:c≤9223372036854775807
 at_:0<l.length→∃ b o,A=some ⟨b,o,none⟩∧w.rangeAt b o (aK l)
 bt:∀ b∈l,b<256
def TyB (w:World) (A:Option Addr):Prop:=∀ q,A.map (·.block)=some q→∃ cs fr,w.heap[q]? =some (.cells cs 5 fr)
section
variable {V:Nat→Prop} {w w':World} {A:Option Addr} {c:Nat} {l:List Nat}
theorem TyB.lt (h:TyB w A):∀ q,A.map (·.block)=some q→q<w.heap.size:=fun q hq=>by
 obtain ⟨cs,fr,h1⟩:=h q hq;exact (Array.getElem?_eq_some_iff.1 h1).1
theorem TyB.chg (h:TyB w A) (hc:Chg V w w') (hV:∀ q,A.map (·.block)=some q→¬ V q):TyB w' A:=fun q hq=>by
 obtain ⟨cs,fr,h1⟩:=h q hq;exact ⟨cs,fr,(hc.block q (h.lt q hq) (hV q hq)).trans h1⟩
theorem TyB.from_ (h:TyB w A) (hF:ag w w'):TyB w' A:=h.chg (V:=fun _=>False) hF.toChg fun _ _ h=>h
theorem TyB.none_ (w:World):TyB w none:=fun q hq=>by cases hq
theorem TyB.own {base n:Nat} {xs:List Value} (h:w.ownsRow base 5 1 (.slice A n c) n xs):TyB w A:=fun q hq=>by
 rcases h.2 with ⟨h1,h0⟩ | ⟨g,cap,cur,h1,hg,h2,_⟩
 ·simp only [Value.slice.injEq] at h1;rw [h1.1] at hq;cases hq
 ·simp only [Value.slice.injEq] at h1;rw [h1.1] at hq;cases hq;exact ⟨_,_,h2⟩
theorem po {b o:Nat} {xs:List Value} (h:w.rangeAt b o xs) (hc:Chg V w w') (hb:b<w.heap.size) (hv:¬ V b):w'.rangeAt b o xs:=fun j v hj=>by
 have:=h j v hj;unfold World.cell? at this ⊢;show (match w'.heap[b]? with | some (.cells cs _ _)=>_ | _=>_)=_;rw [hc.block b hb hv];exact this
theorem RB.chg (h:RB w A c l) (hc:Chg V w w') (hV:∀ q,A.map (·.block)=some q→¬ V q):RB w' A c l:=by
 refine ⟨h.le,h.mx,fun h0=>?_,h.bt⟩;obtain ⟨b,o,rfl,hr⟩:=h.at_ h0;have hv:(aK l)[0]? =some ((aK l)[0]'(by rw [aJ];exact h0)):=List.getElem?_eq_getElem _;exact ⟨b,o,rfl,po hr hc (World.block_lt_of_cell? _ _ (hr 0 _ hv)) (hV b rfl)⟩
theorem RB.from_ (h:RB w A c l) (hF:ag w w'):RB w' A c l:=h.chg (V:=fun _=>False) hF.toChg fun _ _ h=>h
theorem RB.own {base n:Nat} (h:w.ownsRow base 5 1 (.slice A n c) n (aK l)) (hb:∀ b∈l,b<256):n=l.length∧RB w A c l:=by
 have hl:n=l.length:=by have:=h.1;rw [aJ] at this;omega
 subst hl;refine ⟨rfl,?_⟩;rcases h.2 with ⟨h1,h0⟩ | ⟨g,cap,cur,h1,hg,h2,h3,h4,h5,h6⟩
 ·simp only [Value.slice.injEq] at h1;obtain ⟨rfl,h7,rfl⟩:=h1;exact ⟨by omega,by omega,fun h=>by omega,hb⟩
 ·simp only [Value.slice.injEq,true_and] at h1;obtain ⟨rfl,rfl⟩:=h1;unfold maxLen at h4;refine ⟨h3,by omega,fun _=>⟨g,0,rfl,fun j v hj=>?_⟩,hb⟩
  ·rw [Nat.zero_add];unfold World.cell?;show (match w.heap[g]? with | some (.cells cs _ _)=>_ | _=>_)=_;rw [h2];show cur[j]? =some v;rw [Nat.mul_one] at h6;rw [←h6] at hj;rw [List.getElem?_take] at hj;split at hj
   ·simpa using hj
   ·cases hj
theorem RB.nil_ (w:World):RB w none 0 []:=⟨Nat.le_refl _,by omega,fun h=>absurd h (Nat.lt_irrefl _),fun b hb=>(by cases hb)⟩
theorem RB.pre {r:List Nat} (h:RB w A c (l++r)):RB w A c l:=by
 have h1:=h.le;rw [List.length_append] at h1;refine ⟨by omega,h.mx,fun h0=>?_,fun b hb=>h.bt b (List.mem_append_left _ hb)⟩;obtain ⟨b,o,e,hr⟩:=h.at_ (by rw [List.length_append];omega);refine ⟨b,o,e,fun j v hj=>hr j v ?_⟩;rw [du];exact List.getElem?_append_left (List.getElem?_eq_some_iff.1 hj).1 ▸ hj
theorem RB.cap {c':Nat} (h:RB w A c l) (h1:l.length≤c') (h2:c'≤9223372036854775807):RB w A c' l:=⟨h1,h2,h.at_,h.bt⟩
end
structure Fl where
 nm:ByteArray
 vA:Option Addr
 vc:Nat
 dA:Option Addr
 dc:Nat
 vs:List Nat
 ds:List Nat
 own:Bool
def Fl.abs (f:Fl):Fe:=(f.nm,f.vs,f.ds)
def flV (f:Fl):List Value:=[.string f.nm,.slice f.vA f.vs.length f.vc,.slice f.dA f.ds.length f.dc]
def Fz:Fl:=⟨⟨#[]⟩,none,0,none,0,[],[],true⟩
instance:Inhabited Fl:=⟨Fz⟩
theorem gy (f:Fl):(flV f).length=3:=rfl
theorem jL (f:Fl):∀ u∈flV f,u.oneCell'=true:=by simp [flV,Value.oneCell']
theorem qt (l:List Fl):∀ u∈l.flatMap flV,u.oneCell'=true:=rO fun x _ u hu=>jL x u hu
def Fl.B (f:Fl) (k:Nat):Prop:=f.vA.map (·.block)=some k∨f.dA.map (·.block)=some k
structure gq (w:World) (f:Fl):Prop where
 v:RB w f.vA f.vc f.vs
 d:RB w f.dA f.dc f.ds
 vt:TyB w f.vA
 dt:TyB w f.dA
 o:f.own=true→w.ownsRow 0 5 1 (.slice f.vA f.vs.length f.vc) f.vs.length (aK f.vs)∧(pU f.vA f.dA∨(f.dA=f.vA∧∃ r,f.vs=f.ds++r))
 n:f.own=false→(∃ a,f.vA=some a)∧f.vc=f.vs.length
def Sep (f g:Fl):Prop:=(f.own=true→∀ k,f.vA.map (·.block)=some k→¬ g.B k)∧(g.own=true→∀ k,g.vA.map (·.block)=some k→¬ f.B k)
theorem Sep.symm {f g:Fl} (h:Sep f g):Sep g f:=⟨h.2,h.1⟩
section
variable {V:Nat→Prop} {w w':World} {f:Fl}
theorem gq.chg (h:gq w f) (c:Chg V w w') (hV:∀ k,f.B k→¬ V k):gq w' f:=
 ⟨h.v.chg c fun q hq=>hV q (.inl hq),h.d.chg c fun q hq=>hV q (.inr hq),h.vt.chg c fun q hq=>hV q (.inl hq),h.dt.chg c fun q hq=>hV q (.inr hq),fun ho=>⟨eX (h.o ho).1 c fun q hq=>hV q (.inl hq),(h.o ho).2⟩,h.n⟩
theorem gq.lt (h:gq w f) {k:Nat} (hk:f.B k):k<w.heap.size:=hk.elim (h.vt.lt k) (h.dt.lt k)
theorem gq.ty (h:gq w f) {k:Nat} (hk:f.B k):∃ cs fr,w.heap[k]? =some (.cells cs 5 fr):=hk.elim (h.vt k) (h.dt k)
end
structure DkH (w:World) (d:Nat) (fs:List Fl) (Ap:Option Addr) (cp:Nat) (ca:Int) (fu:Nat) (off:Bool):Prop where
 blk:Blk w d 90 #[.slice Ap fs.length cp,.int .i64 ca,.int .i64 (fu:Nat),.bool off]
 row:w.ownsRow 0 99 3 (.slice Ap fs.length cp) fs.length (fs.flatMap flV)
 ok:∀ f∈fs,gq w f
 ap:fs.Pairwise Sep
def lM (d:Nat) (Ap:Option Addr) (fs:List Fl) (k:Nat):Prop:=k=d∨Ap.map (·.block)=some k∨∃ f∈fs,f.B k
section
variable {V:Nat→Prop} {w w':World} {d:Nat} {fs fs':List Fl} {Ap Ap':Option Addr} {cp cp':Nat} {ca ca':Int} {fu fu':Nat} {off off':Bool}
theorem DkH.chg (h:DkH w d fs Ap cp ca fu off) (c:Chg V w w') (hV:∀ k,lM d Ap fs k→¬ V k):DkH w' d fs Ap cp ca fu off:=
 ⟨h.blk.chg c (hV _ (.inl rfl)),eX h.row c fun q hq=>hV q (.inr (.inl hq)),fun f hf=>(h.ok f hf).chg c fun k hk=>hV k (.inr (.inr ⟨f,hf,hk⟩)),h.ap⟩
theorem DkH.from_ (h:DkH w d fs Ap cp ca fu off) (hF:ag w w'):DkH w' d fs Ap cp ca fu off:=h.chg (V:=fun _=>False) hF.toChg fun _ _ h=>h
theorem DkH.lt (h:DkH w d fs Ap cp ca fu off) {k:Nat} (hk:lM d Ap fs k):k<w.heap.size:=by
 rcases hk with rfl | hk | ⟨f,hf,hk⟩
 ·exact h.blk.lt
 ·exact (gl h.row k hk).2
 ·exact (h.ok f hf).lt hk
theorem DkH.bd (h:DkH w d fs Ap cp ca fu off) {f:Fl} (hf:f∈fs) {k:Nat} (hk:f.B k):k≠d:=fun e=>by
 obtain ⟨cs,fr,h1⟩:=(h.ok f hf).ty hk;have h2:=h.blk;unfold Blk at h2;rw [e,h2] at h1;simp only [Option.some.injEq,Obj.cells.injEq] at h1;exact absurd h1.2.1 (by decide)
theorem DkH.bp (h:DkH w d fs Ap cp ca fu off) {f:Fl} (hf:f∈fs) {k:Nat} (hk:f.B k):Ap.map (·.block)≠some k:=fun e=>by
 obtain ⟨cs,fr,h1⟩:=(h.ok f hf).ty hk;rcases h.row.2 with ⟨k1,_⟩ | ⟨g1,cap1,cur1,k1,_,k2,_⟩
 ·simp only [Value.slice.injEq] at k1;rw [k1.1] at e;cases e
 ·simp only [Value.slice.injEq] at k1;rw [k1.1] at e;cases e;rw [k2] at h1;simp only [Option.some.injEq,Obj.cells.injEq] at h1;exact absurd h1.2.1 (by decide)
theorem dX {base e sz n c:Nat} {A:Option Addr} {xs:List Value} {g:Nat} {t:TypeId} {cs:Array Value} (h:w.ownsRow base e sz (.slice A n c) n xs) (hb:Blk w g t cs) (hne:t≠e):∀ q,A.map (·.block)=some q→q≠g:=fun q hq e2=>by
 rcases h.2 with ⟨k1,_⟩ | ⟨g1,cap1,cur1,k1,_,k2,_⟩
 ·simp only [Value.slice.injEq] at k1;rw [k1.1] at hq;cases hq
 ·simp only [Value.slice.injEq] at k1;rw [k1.1] at hq;cases hq;have e3:g1=g:=e2;unfold Blk at hb;rw [e3,hb] at k2;simp only [Option.some.injEq,Obj.cells.injEq] at k2;exact hne k2.2.1
theorem DkH.setD (h:DkH w d fs Ap cp ca fu off) (c:Chg (fun k=>k=d) w w') (hb:Blk w' d 90 #[.slice Ap fs.length cp,.int .i64 ca',.int .i64 (fu':Nat),.bool off']):DkH w' d fs Ap cp ca' fu' off':=
 ⟨hb,eX h.row c fun q hq=>dX h.row h.blk (by decide) q hq,fun f hf=>(h.ok f hf).chg c fun k hk=>h.bd hf hk,h.ap⟩
theorem DkH.setR (h:DkH w d fs Ap cp ca fu off) (c:Chg (fun k=>k=d∨Ap.map (·.block)=some k) w w') (hb:Blk w' d 90 #[.slice Ap' fs'.length cp',.int .i64 ca',.int .i64 (fu':Nat),.bool off'])
 (hr:w'.ownsRow 0 99 3 (.slice Ap' fs'.length cp') fs'.length (fs'.flatMap flV)) (hf:∀ f∈fs',f∈fs∨(∃ g∈fs,f.vA=g.vA∧f.vc=g.vc∧f.dA=g.dA∧f.dc=g.dc∧f.vs=g.vs∧f.ds=g.ds∧f.own=g.own)∨(f.vA=none∧f.vc=0∧f.dA=none∧f.dc=0∧f.vs=[]∧f.ds=[]∧f.own=true)) (hp:fs'.Pairwise Sep):DkH w' d fs' Ap' cp' ca' fu' off':=by
 refine ⟨hb,hr,fun f hm=>?_,hp⟩;have key:∀ g∈fs,gq w' g:=fun g hg=>(h.ok g hg).chg c fun k hk e=>e.elim (h.bd hg hk) (h.bp hg hk)
 rcases hf f hm with e | ⟨g,hg,e1,e2,e3,e4,e5,e6,e7⟩ | ⟨e1,e2,e3,e4,e5,e6,e7⟩
 ·exact key f e
 ·have k:=key g hg;refine ⟨?_,?_,by rw [e1];exact k.vt,by rw [e3];exact k.dt,?_,?_⟩
  ·rw [e1,e2,e5];exact k.v
  ·rw [e3,e4,e6];exact k.d
  ·rw [e1,e2,e3,e5,e6,e7];exact k.o
  ·rw [e1,e2,e5,e7];exact k.n
 ·refine ⟨?_,?_,by rw [e1];exact TyB.none_ _,by rw [e3];exact TyB.none_ _,fun _=>?_,fun ho=>?_⟩
  ·rw [e1,e2,e5];exact RB.nil_ _
  ·rw [e3,e4,e6];exact RB.nil_ _
  ·rw [e1,e2,e5];exact ⟨World.ownsRow_nil _ _ _ _,.inl pU.none_⟩
  ·rw [e7] at ho;cases ho
end
end Go.Proofs.YtaohnmneccbljaaGreatDoor
namespace Go.Proofs.YtaohnmneccbljaaGreatDoor
open Go.Proofs.Tryz (prog)
open Go.RowKit Go.ChangeShapes Go.WideShapes Go.ChangeAt
section
variable {P:Program} {ρ:Operand→Value} {x y:Operand} {t yt:TypeId} {s s':ByteArray} {w:World}
theorem uh (hx:ρ x=.string s) (hy:ρ y=.string s'):RO P ρ (.binOp .geq t x y yt) w (.bool !(Op.bytesLess s.toList s'.toList)) w:=
 iX hx hy (by unfold eqGuard;rfl) (by simp [binOp,Op.stringOp])
end
def yu (a b:ByteArray):Int:=Lib.compareBytes a.toList b.toList
theorem yq:∀ {a b:List UInt8},Lib.compareBytes a b<0↔a<b
 |[],[]=>by simp [Lib.compareBytes]
 |[],_::_=>by simp [Lib.compareBytes]
 |_::_,[]=>by simp [Lib.compareBytes]
 |a::r,b::s=>by
  unfold Lib.compareBytes;rw [List.cons_lt_cons_iff];by_cases h:a<b
  ·rw [if_pos h];simp [h]
  ·rw [if_neg h];by_cases k:b<a
   ·rw [if_pos k];have:¬ a=b:=fun e=>by subst e;exact absurd k (by simp)
    simp [h,this]
   ·rw [if_neg k,yq];have:a=b:=UInt8.le_antisymm (UInt8.not_lt.1 k) (UInt8.not_lt.1 h);simp [this]
theorem yr:∀ {a b:List UInt8},Lib.compareBytes a b=0↔a=b
 |[],[]=>by simp [Lib.compareBytes]
 |[],_::_=>by simp [Lib.compareBytes]
 |_::_,[]=>by simp [Lib.compareBytes]
 |a::r,b::s=>by
  unfold Lib.compareBytes;by_cases h:a<b
  ·rw [if_pos h];have:¬ a=b:=fun e=>by subst e;exact absurd h (by simp)
   simp [this]
  ·rw [if_neg h];by_cases k:b<a
   ·rw [if_pos k];have:¬ a=b:=fun e=>by subst e;exact absurd k (by simp)
    simp [this]
   ·rw [if_neg k,yr];have:a=b:=UInt8.le_antisymm (UInt8.not_lt.1 k) (UInt8.not_lt.1 h);simp [this]
theorem uH {a b:ByteArray}:yu a b<0↔sLt a b:=yq
theorem nb {a b:ByteArray}:yu a b=0↔a=b:=yr.trans ⟨gr,fun h=>by rw [h]⟩
end Go.Proofs.YtaohnmneccbljaaGreatDoor
namespace Go.Proofs
open Go.Shelf
def Tryz.lays213_ren:Go.Shelf.Ren:=⟨fun | 213=>105 | 265=>121 | n=>n,fun | 9=>9 | 3=>3 | n=>n,fun | n=>n⟩
def Tryz.lays106_ren:Go.Shelf.Ren:=⟨fun | 106=>87 | 213=>105 | 265=>121 | n=>n,fun | 9=>9 | 3=>3 | n=>n,fun | n=>n⟩
theorem Tryz.lays106:Go.Proofs.Lays.n106 prog Tryz.lays106_ren:={
 mixed:=by kernel_rfl
 f106:=Tryz.func87.trans (congrArg some (by kernel_rfl))
 f213:=Tryz.func105.trans (congrArg some (by kernel_rfl))
 f265:=Tryz.func121.trans (congrArg some (by kernel_rfl))
 t3:=Tryz.underlying3
 a3:=Tryz.isAgg3
 z3:=Tryz.sizeOf3
 v3:=Tryz.zeroValue3
 t9:=Tryz.underlying9
 a9:=Tryz.isAgg9
 z9:=Tryz.sizeOf9
 v9:=Tryz.zeroValue9 }
open Go.RowKit in
theorem Tryz.strings_Compare (a b:ByteArray) (w:World) :
 Calls prog 87 #[.string a,.string b] w fun e w'=>e=.returned (.int .i64 (Lib.compareBytes a.data.toList b.data.toList))∧w'=w:=Any.strings_Compare Tryz.lays106 a b w
def Tryz.lays210_ren:Go.Shelf.Ren:=⟨fun | 210=>100 | 206=>113 | n=>n,fun | 9=>9 | 4=>4 | 3=>3 | n=>n,fun | n=>n⟩
def Tryz.lays103_ren:Go.Shelf.Ren:=⟨fun | 103=>81 | 210=>100 | 206=>113 | n=>n,fun | 9=>9 | 4=>4 | 24=>140 | 3=>3 | n=>n,fun | n=>n⟩
theorem Tryz.lays103:Go.Proofs.Lays.n103 prog Tryz.lays103_ren:={
 mixed:=by kernel_rfl
 f103:=Tryz.func81.trans (congrArg some (by kernel_rfl))
 f206:=Tryz.func113.trans (congrArg some (by kernel_rfl))
 f210:=Tryz.func100.trans (congrArg some (by kernel_rfl))
 t3:=Tryz.underlying3
 a3:=Tryz.isAgg3
 z3:=Tryz.sizeOf3
 v3:=Tryz.zeroValue3
 t4:=Tryz.underlying4
 a4:=Tryz.isAgg4
 z4:=Tryz.sizeOf4
 v4:=Tryz.zeroValue4
 t9:=Tryz.underlying9
 a9:=Tryz.isAgg9
 z9:=Tryz.sizeOf9
 v9:=Tryz.zeroValue9
 t24:=Tryz.underlying140
 a24:=Tryz.isAgg140
 z24:=Tryz.sizeOf140
 v24:=Tryz.zeroValue140 }
open Go.RowKit in
theorem Tryz.strings_CutPrefix (s p:ByteArray) (w:World) :
 Calls prog 81 #[.string s,.string p] w fun e w'=>e=.returned (.tuple #[.string ⟨(Lib.trimPrefix s.data.toList p.data.toList).toArray⟩,.bool (Lib.hasPrefix s.data.toList p.data.toList)])∧w'=w:=Any.strings_CutPrefix Tryz.lays103 s p w
def Tryz.lays244_ren:Go.Shelf.Ren:=⟨fun | 244=>102 | 247=>115 | 287=>128 | 321=>138 | 322=>139 | n=>n,fun | 9=>9 | 3=>3 | 75=>145 | 4=>4 | 5=>5 | 167=>176 | 37=>91 | 0=>0 | 85=>177 | 2=>2 | 53=>187 | 175=>188 | 46=>78 | 21=>21 | 80=>124 | n=>n,fun | n=>n⟩
def Tryz.lays172_ren:Go.Shelf.Ren:=⟨fun | 172=>83 | 244=>102 | 245=>103 | 247=>115 | 279=>116 | 280=>117 | 281=>118 | 282=>119 | 287=>128 | 316=>129 | 171=>84 | 205=>130 | 321=>138 | 322=>139 | 243=>104 | 246=>120 | 283=>131 | 284=>132 | 285=>133 | 286=>134 | 129=>141 | 317=>140 | 318=>142 | 319=>143 | 320=>144 | 337=>145 | 338=>146 | n=>n,fun | 9=>9 | 3=>3 | 75=>145 | 76=>146 | 4=>4 | 5=>5 | 167=>176 | 37=>91 | 0=>0 | 85=>177 | 2=>2 | 168=>179 | 53=>187 | 175=>188 | 46=>78 | 210=>192 | 127=>205 | 145=>208 | 143=>206 | 21=>21 | 171=>194 | 173=>197 | 212=>210 | 51=>57 | 20=>20 | 213=>211 | 232=>185 | 233=>215 | 80=>124 | n=>n,fun | 15=>1 | 16=>2 | 17=>4 | 18=>5 | 19=>6 | n=>n⟩
theorem Tryz.lays172:Go.Proofs.Lays.n172 prog Tryz.lays172_ren:={
 mixed:=by kernel_rfl
 f129:=Tryz.func141.trans (congrArg some (by kernel_rfl))
 f171:=Tryz.func84.trans (congrArg some (by kernel_rfl))
 f172:=Tryz.func83.trans (congrArg some (by kernel_rfl))
 f205:=Tryz.func130.trans (congrArg some (by kernel_rfl))
 f243:=Tryz.func104.trans (congrArg some (by kernel_rfl))
 f244:=Tryz.func102.trans (congrArg some (by kernel_rfl))
 f245:=Tryz.func103.trans (congrArg some (by kernel_rfl))
 f246:=Tryz.func120.trans (congrArg some (by kernel_rfl))
 f247:=Tryz.func115.trans (congrArg some (by kernel_rfl))
 f279:=Tryz.func116.trans (congrArg some (by kernel_rfl))
 f280:=Tryz.func117.trans (congrArg some (by kernel_rfl))
 f281:=Tryz.func118.trans (congrArg some (by kernel_rfl))
 f282:=Tryz.func119.trans (congrArg some (by kernel_rfl))
 f283:=Tryz.func131.trans (congrArg some (by kernel_rfl))
 f284:=Tryz.func132.trans (congrArg some (by kernel_rfl))
 f285:=Tryz.func133.trans (congrArg some (by kernel_rfl))
 f286:=Tryz.func134.trans (congrArg some (by kernel_rfl))
 f287:=Tryz.func128.trans (congrArg some (by kernel_rfl))
 f316:=Tryz.func129.trans (congrArg some (by kernel_rfl))
 f317:=Tryz.func140.trans (congrArg some (by kernel_rfl))
 f318:=Tryz.func142.trans (congrArg some (by kernel_rfl))
 f319:=Tryz.func143.trans (congrArg some (by kernel_rfl))
 f320:=Tryz.func144.trans (congrArg some (by kernel_rfl))
 f321:=Tryz.func138.trans (congrArg some (by kernel_rfl))
 f322:=Tryz.func139.trans (congrArg some (by kernel_rfl))
 f337:=Tryz.func145.trans (congrArg some (by kernel_rfl))
 f338:=Tryz.func146.trans (congrArg some (by kernel_rfl))
 t0:=Tryz.underlying0
 a0:=Tryz.isAgg0
 z0:=Tryz.sizeOf0
 v0:=Tryz.zeroValue0
 t2:=Tryz.underlying2
 a2:=Tryz.isAgg2
 z2:=Tryz.sizeOf2
 v2:=Tryz.zeroValue2
 t3:=Tryz.underlying3
 a3:=Tryz.isAgg3
 z3:=Tryz.sizeOf3
 v3:=Tryz.zeroValue3
 t4:=Tryz.underlying4
 a4:=Tryz.isAgg4
 z4:=Tryz.sizeOf4
 v4:=Tryz.zeroValue4
 t5:=Tryz.underlying5
 a5:=Tryz.isAgg5
 z5:=Tryz.sizeOf5
 v5:=Tryz.zeroValue5
 t9:=Tryz.underlying9
 a9:=Tryz.isAgg9
 z9:=Tryz.sizeOf9
 v9:=Tryz.zeroValue9
 t20:=Tryz.underlying20
 a20:=Tryz.isAgg20
 z20:=Tryz.sizeOf20
 v20:=Tryz.zeroValue20
 t21:=Tryz.underlying21
 a21:=Tryz.isAgg21
 z21:=Tryz.sizeOf21
 v21:=Tryz.zeroValue21
 t37:=Tryz.underlying91
 a37:=Tryz.isAgg91
 z37:=Tryz.sizeOf91
 v37:=Tryz.zeroValue91
 t46:=Tryz.underlying78
 a46:=Tryz.isAgg78
 z46:=Tryz.sizeOf78
 v46:=Tryz.zeroValue78
 t51:=Tryz.underlying57
 a51:=Tryz.isAgg57
 z51:=Tryz.sizeOf57
 v51:=Tryz.zeroValue57
 t53:=Tryz.underlying187
 a53:=Tryz.isAgg187
 z53:=Tryz.sizeOf187
 v53:=Tryz.zeroValue187
 t75:=Tryz.underlying145
 a75:=Tryz.isAgg145
 z75:=Tryz.sizeOf145
 v75:=Tryz.zeroValue145
 t76:=Tryz.underlying146
 a76:=Tryz.isAgg146
 z76:=Tryz.sizeOf146
 v76:=Tryz.zeroValue146
 t85:=Tryz.underlying177
 a85:=Tryz.isAgg177
 z85:=Tryz.sizeOf177
 v85:=Tryz.zeroValue177
 t127:=Tryz.underlying205
 a127:=Tryz.isAgg205
 z127:=Tryz.sizeOf205
 v127:=Tryz.zeroValue205
 t143:=Tryz.underlying206
 a143:=Tryz.isAgg206
 z143:=Tryz.sizeOf206
 v143:=Tryz.zeroValue206
 t145:=Tryz.underlying208
 a145:=Tryz.isAgg208
 z145:=Tryz.sizeOf208
 v145:=Tryz.zeroValue208
 t167:=Tryz.underlying176
 a167:=Tryz.isAgg176
 z167:=Tryz.sizeOf176
 v167:=Tryz.zeroValue176
 t168:=Tryz.underlying179
 a168:=Tryz.isAgg179
 z168:=Tryz.sizeOf179
 v168:=Tryz.zeroValue179
 t171:=Tryz.underlying194
 a171:=Tryz.isAgg194
 z171:=Tryz.sizeOf194
 v171:=Tryz.zeroValue194
 t173:=Tryz.underlying197
 a173:=Tryz.isAgg197
 z173:=Tryz.sizeOf197
 v173:=Tryz.zeroValue197
 t175:=Tryz.underlying188
 a175:=Tryz.isAgg188
 z175:=Tryz.sizeOf188
 v175:=Tryz.zeroValue188
 t210:=Tryz.underlying192
 a210:=Tryz.isAgg192
 z210:=Tryz.sizeOf192
 v210:=Tryz.zeroValue192
 t212:=Tryz.underlying210
 a212:=Tryz.isAgg210
 z212:=Tryz.sizeOf210
 v212:=Tryz.zeroValue210
 t213:=Tryz.underlying211
 a213:=Tryz.isAgg211
 z213:=Tryz.sizeOf211
 t232:=Tryz.underlying185
 a232:=Tryz.isAgg185
 z232:=Tryz.sizeOf185
 v232:=Tryz.zeroValue185
 t233:=Tryz.underlying215
 a233:=Tryz.isAgg215
 z233:=Tryz.sizeOf215
 v233:=Tryz.zeroValue215
 g15:=by kernel_rfl
 g16:=by kernel_rfl
 g17:=by kernel_rfl
 g18:=by kernel_rfl
 g19:=by kernel_rfl }
open Go.RowKit in
theorem Tryz.strconv_Atoi (s:ByteArray) (n:Int) (hl:s.size≤18) (h:Lib.atoi s.data.toList=some n) (w:World) :
 Calls prog 83 #[.string s] w fun e w'=>e=.returned (.tuple #[.int .i64 n,.nilIface])∧∃ t,w'=Lib.bytesWorld w 5 t:=Any.strconv_Atoi Tryz.lays172 s n hl h w
def Tryz.lays129_ren:Go.Shelf.Ren:=⟨fun | 129=>141 | n=>n,fun | 53=>187 | 3=>3 | 4=>4 | 46=>78 | 5=>5 | 9=>9 | n=>n,fun | n=>n⟩
def Tryz.lays317_ren:Go.Shelf.Ren:=⟨fun | 317=>140 | n=>n,fun | 3=>3 | 46=>78 | n=>n,fun | n=>n⟩
def Tryz.lays318_ren:Go.Shelf.Ren:=⟨fun | 318=>142 | n=>n,fun | 3=>3 | 4=>4 | n=>n,fun | n=>n⟩
def Tryz.lays283_ren:Go.Shelf.Ren:=⟨fun | 283=>131 | n=>n,fun | 3=>3 | 9=>9 | 4=>4 | n=>n,fun | n=>n⟩
def Tryz.laysM284_ren:Go.Shelf.Ren:=⟨fun | 284=>132 | 129=>141 | 317=>140 | 318=>142 | n=>n,fun | 53=>187 | 3=>3 | 212=>210 | 0=>0 | 4=>4 | 46=>78 | 5=>5 | 9=>9 | n=>n,fun | 17=>4 | n=>n⟩
def Tryz.lays285_ren:Go.Shelf.Ren:=⟨fun | 285=>133 | n=>n,fun | 37=>91 | 53=>187 | 3=>3 | 4=>4 | 51=>57 | 9=>9 | 5=>5 | 0=>0 | n=>n,fun | n=>n⟩
def Tryz.laysM246_ren:Go.Shelf.Ren:=⟨fun | 246=>120 | 283=>131 | 284=>132 | 285=>133 | 286=>134 | 129=>141 | 317=>140 | 318=>142 | 319=>143 | 320=>144 | 337=>145 | 338=>146 | n=>n,fun | 2=>2 | 3=>3 | 9=>9 | 4=>4 | 171=>194 | 0=>0 | 53=>187 | 37=>91 | 5=>5 | 173=>197 | 212=>210 | 51=>57 | 20=>20 | 213=>211 | 46=>78 | 232=>185 | 233=>215 | n=>n,fun | 17=>4 | 18=>5 | 19=>6 | n=>n⟩
def Tryz.lays246_ren:Go.Shelf.Ren:=⟨fun | 246=>120 | 283=>131 | 284=>132 | 285=>133 | 286=>134 | 129=>141 | 317=>140 | 318=>142 | 319=>143 | 320=>144 | 337=>145 | 338=>146 | n=>n,fun | 2=>2 | 3=>3 | 9=>9 | 4=>4 | 171=>194 | 0=>0 | 53=>187 | 37=>91 | 5=>5 | 173=>197 | 212=>210 | 51=>57 | 20=>20 | 213=>211 | 46=>78 | 232=>185 | 233=>215 | n=>n,fun | 17=>4 | 18=>5 | 19=>6 | n=>n⟩
def Tryz.laysM243_ren:Go.Shelf.Ren:=⟨fun | 243=>104 | 246=>120 | 283=>131 | 284=>132 | 285=>133 | 286=>134 | 129=>141 | 317=>140 | 318=>142 | 319=>143 | 320=>144 | 337=>145 | 338=>146 | n=>n,fun | 3=>3 | 9=>9 | 2=>2 | 4=>4 | 171=>194 | 0=>0 | 53=>187 | 37=>91 | 5=>5 | 173=>197 | 212=>210 | 51=>57 | 20=>20 | 213=>211 | 46=>78 | 232=>185 | 233=>215 | n=>n,fun | 17=>4 | 18=>5 | 19=>6 | n=>n⟩
def Tryz.lays243_ren:Go.Shelf.Ren:=⟨fun | 243=>104 | 246=>120 | 283=>131 | 284=>132 | 285=>133 | 286=>134 | 129=>141 | 317=>140 | 318=>142 | 319=>143 | 320=>144 | 337=>145 | 338=>146 | n=>n,fun | 3=>3 | 9=>9 | 2=>2 | 4=>4 | 171=>194 | 0=>0 | 53=>187 | 37=>91 | 5=>5 | 173=>197 | 212=>210 | 51=>57 | 20=>20 | 213=>211 | 46=>78 | 232=>185 | 233=>215 | n=>n,fun | 17=>4 | 18=>5 | 19=>6 | n=>n⟩
def Tryz.laysM171_ren:Go.Shelf.Ren:=⟨fun | 171=>84 | 243=>104 | 246=>120 | 283=>131 | 284=>132 | 285=>133 | 286=>134 | 129=>141 | 317=>140 | 318=>142 | 319=>143 | 320=>144 | 337=>145 | 338=>146 | n=>n,fun | 3=>3 | 9=>9 | 2=>2 | 4=>4 | 171=>194 | 0=>0 | 53=>187 | 37=>91 | 5=>5 | 173=>197 | 212=>210 | 51=>57 | 20=>20 | 213=>211 | 46=>78 | 232=>185 | 233=>215 | n=>n,fun | 17=>4 | 18=>5 | 19=>6 | n=>n⟩
def Tryz.lays171_ren:Go.Shelf.Ren:=⟨fun | 171=>84 | 243=>104 | 246=>120 | 283=>131 | 284=>132 | 285=>133 | 286=>134 | 129=>141 | 317=>140 | 318=>142 | 319=>143 | 320=>144 | 337=>145 | 338=>146 | n=>n,fun | 3=>3 | 9=>9 | 2=>2 | 4=>4 | 171=>194 | 0=>0 | 53=>187 | 37=>91 | 5=>5 | 173=>197 | 212=>210 | 51=>57 | 20=>20 | 213=>211 | 46=>78 | 232=>185 | 233=>215 | n=>n,fun | 17=>4 | 18=>5 | 19=>6 | n=>n⟩
theorem Tryz.lays171:Go.Proofs.Lays.n171 prog Tryz.lays171_ren:={
 mixed:=by kernel_rfl
 f129:=Tryz.func141.trans (congrArg some (by kernel_rfl))
 f171:=Tryz.func84.trans (congrArg some (by kernel_rfl))
 f243:=Tryz.func104.trans (congrArg some (by kernel_rfl))
 f246:=Tryz.func120.trans (congrArg some (by kernel_rfl))
 f283:=Tryz.func131.trans (congrArg some (by kernel_rfl))
 f284:=Tryz.func132.trans (congrArg some (by kernel_rfl))
 f285:=Tryz.func133.trans (congrArg some (by kernel_rfl))
 f286:=Tryz.func134.trans (congrArg some (by kernel_rfl))
 f317:=Tryz.func140.trans (congrArg some (by kernel_rfl))
 f318:=Tryz.func142.trans (congrArg some (by kernel_rfl))
 f319:=Tryz.func143.trans (congrArg some (by kernel_rfl))
 f320:=Tryz.func144.trans (congrArg some (by kernel_rfl))
 f337:=Tryz.func145.trans (congrArg some (by kernel_rfl))
 f338:=Tryz.func146.trans (congrArg some (by kernel_rfl))
 t0:=Tryz.underlying0
 a0:=Tryz.isAgg0
 z0:=Tryz.sizeOf0
 v0:=Tryz.zeroValue0
 t2:=Tryz.underlying2
 a2:=Tryz.isAgg2
 z2:=Tryz.sizeOf2
 v2:=Tryz.zeroValue2
 t3:=Tryz.underlying3
 a3:=Tryz.isAgg3
 z3:=Tryz.sizeOf3
 v3:=Tryz.zeroValue3
 t4:=Tryz.underlying4
 a4:=Tryz.isAgg4
 z4:=Tryz.sizeOf4
 v4:=Tryz.zeroValue4
 t5:=Tryz.underlying5
 a5:=Tryz.isAgg5
 z5:=Tryz.sizeOf5
 v5:=Tryz.zeroValue5
 t9:=Tryz.underlying9
 a9:=Tryz.isAgg9
 z9:=Tryz.sizeOf9
 v9:=Tryz.zeroValue9
 t20:=Tryz.underlying20
 a20:=Tryz.isAgg20
 z20:=Tryz.sizeOf20
 v20:=Tryz.zeroValue20
 t37:=Tryz.underlying91
 a37:=Tryz.isAgg91
 z37:=Tryz.sizeOf91
 v37:=Tryz.zeroValue91
 t46:=Tryz.underlying78
 a46:=Tryz.isAgg78
 z46:=Tryz.sizeOf78
 v46:=Tryz.zeroValue78
 t51:=Tryz.underlying57
 a51:=Tryz.isAgg57
 z51:=Tryz.sizeOf57
 v51:=Tryz.zeroValue57
 t53:=Tryz.underlying187
 a53:=Tryz.isAgg187
 z53:=Tryz.sizeOf187
 v53:=Tryz.zeroValue187
 t171:=Tryz.underlying194
 a171:=Tryz.isAgg194
 z171:=Tryz.sizeOf194
 v171:=Tryz.zeroValue194
 t173:=Tryz.underlying197
 a173:=Tryz.isAgg197
 z173:=Tryz.sizeOf197
 v173:=Tryz.zeroValue197
 t212:=Tryz.underlying210
 a212:=Tryz.isAgg210
 z212:=Tryz.sizeOf210
 v212:=Tryz.zeroValue210
 t213:=Tryz.underlying211
 a213:=Tryz.isAgg211
 z213:=Tryz.sizeOf211
 t232:=Tryz.underlying185
 a232:=Tryz.isAgg185
 z232:=Tryz.sizeOf185
 v232:=Tryz.zeroValue185
 t233:=Tryz.underlying215
 a233:=Tryz.isAgg215
 z233:=Tryz.sizeOf215
 v233:=Tryz.zeroValue215
 g17:=by kernel_rfl
 g18:=by kernel_rfl
 g19:=by kernel_rfl }
open Go.RowKit Go.Sort Go.Lib in
theorem Tryz.strconv_Itoa_small (i:Nat) (hi:i<100) (w:World) :
 Calls prog 84 #[.int .i64 i] w fun e w'=>e=.returned (.string ⟨(Lib.decDigits i).toArray⟩)∧w'=w:=Any.strconv_Itoa_small Tryz.lays171 i hi w
def Tryz.lays247_ren:Go.Shelf.Ren:=⟨fun | 247=>115 | 287=>128 | 321=>138 | 322=>139 | n=>n,fun | 9=>9 | 3=>3 | 2=>2 | 75=>145 | 4=>4 | 167=>176 | 5=>5 | 53=>187 | 175=>188 | 46=>78 | 37=>91 | 0=>0 | 21=>21 | 80=>124 | n=>n,fun | n=>n⟩
def Tryz.laysM316_ren:Go.Shelf.Ren:=⟨fun | 316=>129 | n=>n,fun | 9=>9 | 3=>3 | 4=>4 | 37=>91 | 0=>0 | 127=>205 | 5=>5 | n=>n,fun | n=>n⟩
def Tryz.laysM279_ren:Go.Shelf.Ren:=⟨fun | 279=>116 | 316=>129 | n=>n,fun | 9=>9 | 168=>179 | 75=>145 | 210=>192 | 3=>3 | 4=>4 | 37=>91 | 0=>0 | 127=>205 | 80=>124 | 5=>5 | n=>n,fun | 15=>1 | n=>n⟩
def Tryz.laysC245_ren:Go.Shelf.Ren:=⟨fun | 245=>103 | 279=>116 | 280=>117 | 281=>118 | 282=>119 | 316=>129 | 171=>84 | 205=>130 | 243=>104 | 246=>120 | 283=>131 | 284=>132 | 285=>133 | 286=>134 | 129=>141 | 317=>140 | 318=>142 | 319=>143 | 320=>144 | 337=>145 | 338=>146 | n=>n,fun | 9=>9 | 3=>3 | 75=>145 | 167=>176 | 4=>4 | 168=>179 | 210=>192 | 37=>91 | 0=>0 | 127=>205 | 145=>208 | 143=>206 | 2=>2 | 171=>194 | 53=>187 | 5=>5 | 173=>197 | 212=>210 | 51=>57 | 20=>20 | 213=>211 | 46=>78 | 232=>185 | 233=>215 | 80=>124 | n=>n,fun | 15=>1 | 16=>2 | 17=>4 | 18=>5 | 19=>6 | n=>n⟩
def Tryz.laysC172_ren:Go.Shelf.Ren:=⟨fun | 172=>83 | 244=>102 | 245=>103 | 247=>115 | 279=>116 | 280=>117 | 281=>118 | 282=>119 | 287=>128 | 316=>129 | 171=>84 | 205=>130 | 321=>138 | 322=>139 | 243=>104 | 246=>120 | 283=>131 | 284=>132 | 285=>133 | 286=>134 | 129=>141 | 317=>140 | 318=>142 | 319=>143 | 320=>144 | 337=>145 | 338=>146 | n=>n,fun | 9=>9 | 3=>3 | 75=>145 | 76=>146 | 4=>4 | 5=>5 | 167=>176 | 37=>91 | 0=>0 | 85=>177 | 2=>2 | 168=>179 | 53=>187 | 175=>188 | 46=>78 | 210=>192 | 127=>205 | 145=>208 | 143=>206 | 21=>21 | 171=>194 | 173=>197 | 212=>210 | 51=>57 | 20=>20 | 213=>211 | 232=>185 | 233=>215 | 80=>124 | n=>n,fun | 15=>1 | 16=>2 | 17=>4 | 18=>5 | 19=>6 | n=>n⟩
def Tryz.lays321_ren:Go.Shelf.Ren:=⟨fun | 321=>138 | n=>n,fun | 5=>5 | n=>n,fun | n=>n⟩
def Tryz.lays287_ren:Go.Shelf.Ren:=⟨fun | 287=>128 | 321=>138 | 322=>139 | n=>n,fun | 9=>9 | 3=>3 | 53=>187 | 75=>145 | 4=>4 | 167=>176 | 5=>5 | 46=>78 | 37=>91 | 0=>0 | 21=>21 | 80=>124 | n=>n,fun | n=>n⟩
def Tryz.laysC247_ren:Go.Shelf.Ren:=⟨fun | 247=>115 | 287=>128 | 321=>138 | 322=>139 | n=>n,fun | 9=>9 | 3=>3 | 2=>2 | 75=>145 | 4=>4 | 167=>176 | 5=>5 | 53=>187 | 175=>188 | 46=>78 | 37=>91 | 0=>0 | 21=>21 | 80=>124 | n=>n,fun | n=>n⟩
def Tryz.laysC244_ren:Go.Shelf.Ren:=⟨fun | 244=>102 | 247=>115 | 287=>128 | 321=>138 | 322=>139 | n=>n,fun | 9=>9 | 3=>3 | 75=>145 | 4=>4 | 5=>5 | 167=>176 | 37=>91 | 0=>0 | 85=>177 | 2=>2 | 53=>187 | 175=>188 | 46=>78 | 21=>21 | 80=>124 | n=>n,fun | n=>n⟩
def Tryz.laysM280_ren:Go.Shelf.Ren:=⟨fun | 280=>117 | 316=>129 | n=>n,fun | 9=>9 | 168=>179 | 75=>145 | 210=>192 | 3=>3 | 4=>4 | 37=>91 | 0=>0 | 127=>205 | 80=>124 | 5=>5 | n=>n,fun | 16=>2 | n=>n⟩
def Tryz.lays217_ren:Go.Shelf.Ren:=⟨fun | 217=>124 | 266=>136 | n=>n,fun | 9=>9 | 5=>5 | 3=>3 | n=>n,fun | n=>n⟩
theorem Tryz.lays217:Go.Proofs.Lays.n217 prog Tryz.lays217_ren:={
 mixed:=by kernel_rfl
 f217:=Tryz.func124.trans (congrArg some (by kernel_rfl))
 f266:=Tryz.func136.trans (congrArg some (by kernel_rfl))
 t3:=Tryz.underlying3
 a3:=Tryz.isAgg3
 z3:=Tryz.sizeOf3
 v3:=Tryz.zeroValue3
 t5:=Tryz.underlying5
 a5:=Tryz.isAgg5
 z5:=Tryz.sizeOf5
 v5:=Tryz.zeroValue5
 t9:=Tryz.underlying9
 a9:=Tryz.isAgg9
 z9:=Tryz.sizeOf9
 v9:=Tryz.zeroValue9 }
open Go.RowKit Go.Lib in
theorem Tryz.stringslite_IndexByte (s:ByteArray) (c:Int) (w:World) :
 Calls prog 124 #[.string s,.int .u8 c] w fun e w'=>e=.returned (.int .i64 (Lib.indexByte s.data.toList c.toNat.toUInt8))∧w'=w:=Any.stringslite_IndexByte Tryz.lays217 s c w
def Tryz.lays224_ren:Go.Shelf.Ren:=⟨fun | 224=>126 | n=>n,fun | 3=>3 | n=>n,fun | n=>n⟩
def Tryz.lays314_ren:Go.Shelf.Ren:=⟨fun | 314=>137 | n=>n,fun | 9=>9 | 51=>57 | 3=>3 | 4=>4 | 5=>5 | 46=>78 | n=>n,fun | n=>n⟩
def Tryz.lays267_ren:Go.Shelf.Ren:=⟨fun | 267=>127 | 314=>137 | n=>n,fun | 9=>9 | 3=>3 | 146=>201 | 51=>57 | 4=>4 | 5=>5 | 46=>78 | n=>n,fun | n=>n⟩
def Tryz.lays219_ren:Go.Shelf.Ren:=⟨fun | 219=>114 | 217=>124 | 225=>125 | 224=>126 | 267=>127 | 266=>136 | 314=>137 | n=>n,fun | 9=>9 | 3=>3 | 4=>4 | 5=>5 | 46=>78 | 146=>201 | 51=>57 | n=>n,fun | 1=>0 | n=>n⟩
def Tryz.lays220_ren:Go.Shelf.Ren:=⟨fun | 220=>101 | 219=>114 | 217=>124 | 225=>125 | 224=>126 | 267=>127 | 266=>136 | 314=>137 | n=>n,fun | 9=>9 | 4=>4 | 3=>3 | 5=>5 | 46=>78 | 146=>201 | 51=>57 | n=>n,fun | 1=>0 | n=>n⟩
def Tryz.lays145_ren:Go.Shelf.Ren:=⟨fun | 145=>82 | 220=>101 | 219=>114 | 217=>124 | 225=>125 | 224=>126 | 267=>127 | 266=>136 | 314=>137 | n=>n,fun | 9=>9 | 4=>4 | 59=>142 | 3=>3 | 5=>5 | 46=>78 | 146=>201 | 51=>57 | n=>n,fun | 1=>0 | n=>n⟩
def Tryz.lays315_ren:Go.Shelf.Ren:=⟨fun | 315=>99 | n=>n,fun | 9=>9 | 40=>118 | 4=>4 | 3=>3 | 0=>0 | 21=>21 | n=>n,fun | n=>n⟩
def Tryz.laysGw15_ren:Go.Shelf.Ren:=⟨fun | 15=>80 | 20=>99 | n=>n,fun | 9=>9 | 23=>118 | 3=>3 | 4=>4 | 0=>0 | 21=>21 | n=>n,fun | n=>n⟩
def Tryz.laysGw17_ren:Go.Shelf.Ren:=⟨fun | 17=>63 | 15=>80 | 20=>99 | n=>n,fun | 9=>9 | 23=>118 | 4=>4 | 3=>3 | 0=>0 | 21=>21 | n=>n,fun | n=>n⟩
theorem Tryz.laysGw17:Go.Proofs.LaysGw.n17 prog Tryz.laysGw17_ren:={
 mixed:=by kernel_rfl
 f15:=Tryz.func80.trans (congrArg some (by kernel_rfl))
 f17:=Tryz.func63.trans (congrArg some (by kernel_rfl))
 f20:=Tryz.func99.trans (congrArg some (by kernel_rfl))
 t0:=Tryz.underlying0
 a0:=Tryz.isAgg0
 z0:=Tryz.sizeOf0
 v0:=Tryz.zeroValue0
 i0:=by kernel_rfl
 t3:=Tryz.underlying3
 a3:=Tryz.isAgg3
 z3:=Tryz.sizeOf3
 v3:=Tryz.zeroValue3
 i3:=by kernel_rfl
 t4:=Tryz.underlying4
 a4:=Tryz.isAgg4
 z4:=Tryz.sizeOf4
 v4:=Tryz.zeroValue4
 i4:=by kernel_rfl
 t9:=Tryz.underlying9
 a9:=Tryz.isAgg9
 z9:=Tryz.sizeOf9
 v9:=Tryz.zeroValue9
 i9:=by kernel_rfl
 t21:=Tryz.underlying21
 a21:=Tryz.isAgg21
 z21:=Tryz.sizeOf21
 v21:=Tryz.zeroValue21
 i21:=by kernel_rfl
 t23:=Tryz.underlying118
 a23:=Tryz.isAgg118
 z23:=Tryz.sizeOf118
 v23:=Tryz.zeroValue118
 i23:=by kernel_rfl }
open Go.RowKit Go.Lib in
theorem Tryz.strings_ContainsFunc_runes (g:Nat) (lb:Array Value) (eg:∀ args w,(callFunc g args).run prog w=.ok (.enter g args) w) (p:Nat→Bool) (s:ByteArray) (w:World) (hp:PredAtRunes prog g lb p w) :
 Calls prog 63 #[.string s,.func (.func g) #[] lb] w fun e w'=>e=.returned (.bool (decide (0≤Lib.idxFunc p true s)))∧Below w.heap.size w w':=Any.strings_ContainsFunc_runes Tryz.laysGw17 g lb eg p s w hp
def Tryz.lays206_ren:Go.Shelf.Ren:=⟨fun | 206=>113 | n=>n,fun | 9=>9 | 4=>4 | 3=>3 | n=>n,fun | n=>n⟩
def Tryz.lays109_ren:Go.Shelf.Ren:=⟨fun | 109=>66 | n=>n,fun | 31=>101 | 9=>9 | 3=>3 | 0=>0 | 4=>4 | n=>n,fun | n=>n⟩
def Tryz.lays110_ren:Go.Shelf.Ren:=⟨fun | 110=>47 | 109=>66 | n=>n,fun | 31=>101 | 9=>9 | 4=>4 | 3=>3 | 0=>0 | n=>n,fun | n=>n⟩
def Tryz.laysSlK4_ren:Go.Shelf.Ren:=⟨fun | 4=>44 | n=>n,fun | 22=>91 | 4=>4 | 5=>5 | n=>n,fun | n=>n⟩
end Go.Proofs
namespace Go.Proofs.YtaohnmneccbljaaGreatDoor
open Go.Proofs.Tryz (prog)
open Go.RowKit
open Go.ChangeShapes Go.WideShapes Go.ChangeAt
open Go.Lib
theorem wu:prog.underlying 91=some (.slice 5):=by kernel_rfl
theorem fP:eU prog 91=some (5,1,1,(.int .u8 0)):=by kernel_rfl
theorem ia:(dq prog 101).isSome=true:=by kernel_rfl
theorem fQ:dq prog 101=some (9,1):=by kernel_rfl
theorem bY:fK prog 9=some false:=by kernel_rfl
theorem wv:aH prog 63=true:=by kernel_rfl
def qW (l:List Nat):ByteArray:=⟨(l.map UInt8.ofNat).toArray⟩
theorem pb {l:List Nat} (h:∀ b∈l,b<256):eT (qW l)=l:=by
 unfold qW eT;simp only [List.map_map]
 conv=>rhs;rw [←List.map_id l]
 refine List.map_congr_left fun x hx=>?_
 simp only [Function.comp,id];have:=h x hx;simp only [UInt8.toNat_ofNat'];omega
theorem wN {l m:List Nat} (hl:∀ b∈l,b<256) (hm:∀ b∈m,b<256):((qW l).toList==(qW m).toList)=decide (l=m):=by
 rw [Bool.eq_iff_iff,AI,decide_eq_true_eq];exact ⟨fun h=>by rw [←pb hl,h,pb hm],fun h=>by rw [h]⟩
theorem p7 {ρ:Operand→Value} {w:World} {x:Operand} {A:Option Addr} {n c:Nat} {l:List Nat} (h:RB w A c l) (hn:n=l.length) (hx:ρ x=.slice A n c):RO prog ρ (.convert 91 9 x) w (.string (qW l)) w:=fun _ _ _ _ _=>by
 subst hn
 have key:(convert 91 9 (.slice A l.length c)).run prog w=.ok (.string (qW l)) w:=by
  cases A with
  |none=>
   have h0:l=[]:=by
    cases l with
    |nil=>rfl
    |cons x t=>
     obtain ⟨b,o,hA,_⟩:=h.at_ (Nat.zero_lt_succ _);cases hA
   subst h0;rw [run_convert_bytes_string w 91 9 5 none _ c (by kernel_rfl) (by kernel_rfl) (by kernel_rfl)];rfl
  |some a=>
   have hm:(l.map UInt8.ofNat).length=l.length:=by simp
   have:=run_convert_bytes_back (P:=prog) w 91 9 5 a c (l.map UInt8.ofNat) (by kernel_rfl) (by kernel_rfl) (by kernel_rfl) (fun j hj=>by
    have hj':j<l.length:=by simpa using hj
    obtain ⟨b,o,hA,hc⟩:=h.at_ (by omega);simp only [Option.some.injEq] at hA;subst hA;rw [Go.WideShapes.add_plain];have hb:=h.bt _ (List.getElem_mem hj');rw [hc j (.int .u8 (l[j]:Nat)) (by simp [aK,hj'])];simp only [List.getElem_map,UInt8.toNat_ofNat']
    congr 2
    omega)
   rw [hm] at this;exact this
 simp [execOp,hx,key]
theorem x6 {a b:Int} (hb:0<b):(a.tmod b<0→a.tdiv b-1=a/b∧a.tmod b+b=a%b)∧(0≤a.tmod b→a.tdiv b=a/b∧a.tmod b=a%b):=by
 have h1:=Int.tmod_eq_emod (a:=a) (b:=b);have h2:=Int.tdiv_eq_ediv (a:=a) (b:=b);have h3:0≤a%b:=Int.emod_nonneg a (by omega);have h4:a%b<b:=Int.emod_lt_of_pos a hb;have h5:b.sign=1:=Int.sign_eq_one_of_pos hb;have h6:(b.natAbs:Int)=b:=by omega
 by_cases hc:0≤a∨b∣a
 ·rw [if_pos hc] at h1 h2;constructor <;> intro h <;> constructor <;> omega
 ·rw [if_neg hc] at h1 h2;constructor <;> intro h <;> constructor <;> omega
theorem Bh {a b:Int} (hb:0<b) (ha:-9223372036854775808≤a∧a≤9223372036854775807):-9223372036854775808≤a/b∧a/b≤9223372036854775807∧0≤a%b∧a%b<b∧-9223372036854775808≤a.tdiv b∧a.tdiv b≤9223372036854775807:=by
 have h3:0≤a%b:=Int.emod_nonneg a (by omega);have h4:a%b<b:=Int.emod_lt_of_pos a hb;have h7:=Int.emod_add_mul_ediv a b;have k1:=Int.natAbs_ediv_le_natAbs a b;have k2:=Int.natAbs_tdiv_le_natAbs a b
 have hneg:a<0→a/b<0:=fun h=>by
  rcases Int.lt_or_le (a/b) 0 with k | k
  ·exact k
  ·have:=Int.mul_nonneg (Int.le_of_lt hb) k;omega
 have hq:=@x6 a b hb;rcases Int.lt_or_le a 0 with k | k
 ·have k3:=hneg k;rcases Int.lt_or_le (a.tmod b) 0 with k4 | k4
  ·have:=hq.1 k4;omega
  ·have:=hq.2 k4;omega
 ·omega
theorem pF (a b:Int) (w:World) (hb0:0<b) (hb1:b≤1000000000) (ha:-9223372036854775808≤a∧a≤9223372036854775807) :
 Rt prog 73 [.int .i64 a,.int .i64 b] w (fun v w'=>v=.tuple #[.int .i64 (a/b),.int .i64 (a%b)]∧ag w w'):=by
 have hab:=Bh hb0 ha;have hfl:=@x6 a b hb0
 generalize hQ:a.tdiv b=q at*
 generalize hR:a.tmod b=r at*
 generalize hX:a/b=x at*
 generalize hY:a%b=y at*
 refine enter (n:=21) Tryz.func73 rfl rfl rfl (af (ab (asi rfl (asi rfl (ah (ae (af ?_)))))));apply bO 8 [(6,eqp _),(7,eqp _),(8,eqp _),(9,eqp _),(10,eqp _),(11,eqp _),(4,eqp _),(5,eqp _)] (by repeat first | exact cr | refine cq ?_ | refine bU ?_) (by kernel_rfl) (by kernel_rfl) ⟨aj _,aj _,aj _,aj _,aj _,aj _,aj _,aj _,trivial⟩
 case hop=>
  constructor
  ·rintro-w2 D2;exact an (aB (v:=.int _ _) rfl) rfl
  constructor
  ·rintro-w3 D3;exact an (aB (v:=.int _ _) rfl) rfl
  constructor
  ·rintro-w4 D4;rintro _ rfl _ rfl;exact an (bH (sS rfl rfl (by omega)) (by rw [hQ,IntWalk.i64_in _ (by omega)])) rfl
  constructor
  ·rintro-w5 D5;exact an (aB (v:=.int _ _) rfl) rfl
  constructor
  ·rintro-w6 D6;exact an (aB (v:=.int _ _) rfl) rfl
  constructor
  ·rintro-w7 D7;rintro _ rfl _ rfl;exact an (bH (w_ rfl rfl (by omega)) (by rw [hR])) rfl
  constructor
  ·rintro-w8 D8;rintro _ rfl;exact an (bn (v:=.int _ _) rfl) rfl
  constructor
  ·rintro-w9 D9;rintro _ rfl;exact an (bn (v:=.int _ _) rfl) rfl
  exact trivial
 case hend=>
  intro w10 D10;rintro _ rfl _ rfl _ rfl _ rfl _ rfl _ rfl _ rfl _ rfl;show St ..;refine ah (ae (af (af (ab (mvi rfl (aa (cl rfl rfl) (ah (ae (BM rfl (fun Q11=>?_) (fun Q11=>?_))))))))))
  ·refine af (ab (mvi rfl (aa (dv rfl rfl (by omega)) (mvi rfl (mvi rfl (aa (br rfl rfl (by omega)) (asi rfl (asi rfl (ah (ae (aC (aF ?_))))))))))));refine gj (v:=.int _ _) (v':=.int _ _) rfl rfl rfl ?_;have h7:=hfl.1 (by omega);exact ⟨by rw [h7.1,h7.2],(ag.rfl_.next D10)⟩
  refine aE (ae (af (ab (mvi rfl (mvi rfl (asi rfl (asi rfl (ah (ae (aC (gj (v:=.int _ _) (v':=.int _ _) rfl rfl rfl ?_)))))))))));have h7:=hfl.2 (by omega);exact ⟨by rw [h7.1,h7.2],(ag.rfl_.next D10)⟩
theorem vV (A B:Option Addr) (ca cb n m:Nat) (l k:List Nat) (w:World) (hr:RB w A ca l) (hr2:RB w B cb k) (hn:n=l.length) (hm:m=k.length) :
 Rt prog 57 [.slice A n ca,.slice B m cb] w (fun v w'=>v=.bool (decide (l=k))∧w=w'):=by
 refine enter (n:=10) Tryz.func57 rfl rfl rfl (af (ab (asb rfl (ah (ae (af (ab (mvs rfl (aa (p7 hr hn rfl) (mvs rfl (aa (p7 hr2 hm rfl) (aa (bH (iW rfl rfl) (congrArg Value.bool (wN hr.bt hr2.bt))) ?_))))))))))));refine asb rfl (ah (ae (aC (bz (v:=.bool _) rfl rfl (⟨rfl,rfl⟩)))))
theorem ck (A:Option Addr) (c n:Nat) (l:List Nat) (w:World) (hr:RB w A c l) (hn:n=l.length) (hl:n≤100000000000) :
 Rt prog 44 [.slice A n c] w (fun v w'=>(∃ A' c',v=.slice A' n c'∧w'.ownsRow w.heap.size 5 1 (.slice A' n c') n (aK l))∧ag w w'):=by
 refine enter (n:=8) Tryz.func44 rfl rfl rfl (af (ab (ass rfl (ah (ae (af (af (ab (mvs rfl (aa (nC wu rfl rfl) (ah (ae (aM rfl (fun Q1=>?_) (fun Q1=>?_))))))))))))))
 ·(try first | (replace Q1 := gA Q1; trace "@MK N ck:c4+ 1.1") | (replace Q1 := gB Q1; trace "@MK N ck:c4+ 1.2"))
  (try first | (replace Q1 := fI Q1; trace "@MK N ck:c4+ 2.1") | (replace Q1 := fJ Q1; trace "@MK N ck:c4+ 2.2") | (replace Q1 := iz Q1; trace "@MK N ck:c4+ 2.3") | (replace Q1 := iA Q1; trace "@MK N ck:c4+ 2.4") | (replace Q1 := dT_ Q1; trace "@MK N ck:c4+ 2.5") | (replace Q1 := dF_ Q1; trace "@MK N ck:c4+ 2.6"))
  obtain rfl:A=none:=Option.isNone_iff_eq_none.1 Q1;have hl0:l.length=0:=Nat.eq_zero_of_not_pos fun h=>by obtain ⟨b,o,e,_⟩:=hr.at_ h;cases e
  obtain rfl:l=[]:=List.eq_nil_of_length_eq_zero hl0;subst hn;refine af (ab (ass rfl (ah (ae (aC (aF (bz (v:=.slice _ _ _) rfl rfl (⟨⟨none,0,rfl,World.ownsRow_nil _ _ _ _⟩,ag.rfl_⟩))))))))
 (try first | (replace Q1 := gA Q1; trace "@MK N ck:c4- 1.1") | (replace Q1 := gB Q1; trace "@MK N ck:c4- 1.2"))
 (try first | (replace Q1 := fI Q1; trace "@MK N ck:c4- 2.1") | (replace Q1 := fJ Q1; trace "@MK N ck:c4- 2.2") | (replace Q1 := iz Q1; trace "@MK N ck:c4- 2.3") | (replace Q1 := iA Q1; trace "@MK N ck:c4- 2.4") | (replace Q1 := dT_ Q1; trace "@MK N ck:c4- 2.5") | (replace Q1 := dF_ Q1; trace "@MK N ck:c4- 2.6"))
 have hA4:A=none→c=0:=fun h=>by rw [h] at Q1;cases Q1
 subst hn;refine aE (ae (af (ab (ud fP _ (ag.rfl_.size) ?_))));intro b5 w2 E5 hb5 ho5;refine mvs rfl ?_;refine dk (a0:=w) (news:=aK l) fP rfl (by decide) rfl ho5 (ag.rfl_.next E5) rfl (by rw [aJ];omega) (fun h=>(let ⟨b,o,hA,hc⟩:=hr.at_ h;⟨b,o,hA,dU (ag.rfl_.next E5) hc⟩)) hA4 (dP l) (by omega) (by omega) ?_;intro A7 c7 w3 ho7 B7 hg7;refine ass rfl (ah (ae (aC (bz (v:=.slice _ _ _) rfl rfl (⟨⟨A7,c7,by rw [Nat.zero_add],by simpa using ho7⟩,B7⟩)))))
theorem rW (a b:ByteArray) (w:World):Rt prog 87 [.string a,.string b] w fun v w'=>v=.int .i64 (yu a b)∧w=w':=
 Calls.mono (Tryz.strings_Compare a b w) fun e w' h=>⟨_,h.1,by unfold yu;rw [Lib.toList_data,Lib.toList_data],h.2.symm⟩
def okB (b:Nat):Bool:=(decide (b≥97)&&decide (b≤122))||(decide (b≥48)&&decide (b≤57))||decide (b=46)||decide (b=45)
def okN (s:ByteArray):Bool:=decide (1≤s.size)&&decide (s.size≤64)&&(eT s).all okB
theorem zr {s:ByteArray}:s.toList=(⟨#[]⟩:ByteArray).toList↔s.size=0:=by
 rw [←qV,Lib.toList_data (s:=⟨#[]⟩)];exact List.length_eq_zero_iff.symm
theorem zq {s:ByteArray}:s.toList=[]↔s.size=0:=by rw [←qV];exact List.length_eq_zero_iff.symm
theorem uu {b:Nat} (h:128≤b):okB b=false:=by unfold okB;simp;omega
theorem zT (s:ByteArray) (pos:Nat) (h:128≤(s.get! pos).toNat):128≤(Utf8.decode s pos).1:=by
 unfold Utf8.decode;simp only [Nat.add_zero];rw [if_neg (by omega)];split
 ·split
  ·assumption
  ·decide
 ·split
  ·split
   ·rename_i h1;simp at h1;omega
   ·decide
  ·split
   ·split
    ·rename_i h1;simp at h1;omega
    ·decide
   ·decide
theorem vU (s:ByteArray) (pos:Nat) (h:(s.get! pos).toNat<128):Utf8.decode s pos=((s.get! pos).toNat,1):=by
 unfold Utf8.decode;simp only [Nat.add_zero];rw [if_pos (by omega)]
theorem xY (s:ByteArray) (pos:Nat) (h:pos<s.size):(eT s)[pos]? =some (s.get! pos).toNat:=by
 unfold eT;rw [List.getElem?_map];have h2:pos<s.data.toList.length:=h;rw [List.getElem?_eq_getElem h2];show some _=some _
 congr 2
 show s.data.toList[pos]=s.data[pos]!;rw [getElem!_pos s.data pos h];rfl
theorem pz (s:ByteArray):∀ f pos,s.size≤pos+f→(0≤Lib.idxFuncFrom (fun r=> !okB r) true s f pos↔((eT s).drop pos).all okB=false)
 |0,pos,h=>by
  have:(eT s).drop pos=[]:=List.drop_eq_nil_of_le (by rw [eJ];omega);rw [this];unfold Lib.idxFuncFrom;simp
 |f+1,pos,h=>by
  unfold Lib.idxFuncFrom;by_cases hp:pos<s.size
  ·have hg:=xY s pos hp
   have hd:(eT s).drop pos=(s.get! pos).toNat::(eT s).drop (pos+1):=by
    have h3:pos<(eT s).length:=by rw [eJ];exact hp
    rw [List.drop_eq_getElem_cons h3]
    congr 1
    rw [List.getElem?_eq_getElem h3] at hg;exact Option.some.inj hg
   rw [if_pos hp,hd,List.all_cons];rcases Nat.lt_or_ge (s.get! pos).toNat 128 with k | k
   ·rw [vU s pos k];by_cases ko:okB (s.get! pos).toNat=true
    ·simp only [ko,Bool.not_true,Bool.false_eq_true,if_false,Bool.true_and];exact pz s f (pos+1) (by omega)
    ·rw [Bool.not_eq_true] at ko;simp only [ko,Bool.not_false,if_true,Bool.false_and];exact ⟨fun _=>trivial,fun _=>Int.natCast_nonneg _⟩
   ·rw [uu (zT s pos k),uu k];simp
  ·have:(eT s).drop pos=[]:=List.drop_eq_nil_of_le (by rw [eJ];omega);rw [if_neg hp,this];simp
theorem xU (s:ByteArray):decide (0≤Lib.idxFunc (fun r=> !okB r) true s)= !(eT s).all okB:=by
 unfold Lib.idxFunc;have:=pz s s.size 0 (by omega);rw [List.drop_zero] at this;rw [Bool.eq_iff_iff,decide_eq_true_iff,this];simp
theorem uR (r:Nat) (w:World) :
 Rt prog 64 [.int .i32 (r:Nat)] w (fun v w'=>v=.bool (!okB r)∧w=w'):=by
 refine enter (n:=26) Tryz.func64 rfl rfl rfl (af (ab (asb rfl (ah (ae (af (ab (mvi rfl (aa (bH (gQ rfl rfl) (show Value.bool (decide ((r:Int)≥97))=Value.bool (decide (r≥97)) from congrArg Value.bool (decide_eq_decide.2 (by omega)))) (mvb rfl (Bs (t:=5) rfl (fun Q1=>?_) (fun Q1=>?_))))))))))))
 ·refine ak rfl (mvi rfl (ak rfl (aa (bH (kC rfl rfl) (show Value.bool (decide ((r:Int)≤122))=Value.bool (decide (r≤122)) from congrArg Value.bool (decide_eq_decide.2 (by omega)))) (aa (aO (v:=.bool _) rfl rfl) (mvb rfl (Bs (t:=9) rfl (fun Q2=>?_) (fun Q2=>?_)))))))
  ·refine aA rfl rfl (aA rfl rfl (aA rfl rfl (dC rfl (dC rfl (aA rfl rfl (aa (aO (v:=.bool _) rfl rfl) (mvb rfl (aA rfl rfl ?_))))))));refine aA rfl rfl (aa (aO (v:=.bool _) rfl rfl) (mvb rfl (aA rfl rfl (aA rfl rfl (aa (aO (v:=.bool _) rfl rfl) (aa (bG rfl) (asb rfl (ah (ae (aC ?_))))))))));refine bz (v:=.bool _) rfl rfl (⟨?_,rfl⟩);unfold okB
   simp_all
  refine ak rfl (mvi rfl (ak rfl (aa (bH (gQ rfl rfl) (show Value.bool (decide ((r:Int)≥48))=Value.bool (decide (r≥48)) from congrArg Value.bool (decide_eq_decide.2 (by omega)))) (ak rfl (mvb rfl (Bs (t:=12) rfl (fun Q3=>?_) (fun Q3=>?_)))))))
  ·refine ak rfl (mvi rfl (ak rfl (aa (bH (kC rfl rfl) (show Value.bool (decide ((r:Int)≤57))=Value.bool (decide (r≤57)) from congrArg Value.bool (decide_eq_decide.2 (by omega)))) (ak rfl (aa (aO (v:=.bool _) rfl rfl) (aa (aQ (v:=.bool _) rfl rfl) (mvb rfl (Bs (t:=17) rfl (fun Q4=>?_) (fun Q4=>?_)))))))))
   ·refine aA rfl rfl (aA rfl rfl (aa (aO (v:=.bool _) rfl rfl) (mvb rfl (aA rfl rfl (aA rfl rfl (aa (aO (v:=.bool _) rfl rfl) (aa (bG rfl) (asb rfl ?_))))))));refine ah (ae (aC (bz (v:=.bool _) rfl rfl (⟨?_,rfl⟩))));unfold okB
    simp_all
   refine ak rfl (mvi rfl (ak rfl (aa (bH (a7 rfl rfl) (show Value.bool ((r:Int)==46)=Value.bool (decide (r=46)) from congrArg Value.bool (by rw [Bool.eq_iff_iff];simp;omega))) ?_)));refine aa (aQ (v:=.bool _) rfl rfl) (mvb rfl (Bs (t:=21) rfl (fun Q5=>?_) (fun Q5=>?_)))
   ·refine aA rfl rfl (aA rfl rfl (aa (aO (v:=.bool _) rfl rfl) (aa (bG rfl) (asb rfl (ah (ae (aC (bz (v:=.bool _) rfl rfl (⟨?_,rfl⟩)))))))));unfold okB
    simp_all
   refine ak rfl (mvi rfl (ak rfl (aa (bH (a7 rfl rfl) (show Value.bool ((r:Int)==45)=Value.bool (decide (r=45)) from congrArg Value.bool (by rw [Bool.eq_iff_iff];simp;omega))) ?_)));refine aa (aQ (v:=.bool _) rfl rfl) (aa (bG rfl) (asb rfl (ah (ae (aC (bz (v:=.bool _) rfl rfl (⟨?_,rfl⟩)))))));unfold okB
   simp_all
  refine aA rfl rfl (aA rfl rfl (ak rfl (aa (aQ (v:=.bool _) rfl rfl) (aa (aQ (v:=.bool _) rfl rfl) (mvb rfl (ak rfl (mvi rfl (ak rfl ?_))))))));refine aa (bH (a7 rfl rfl) (show Value.bool ((r:Int)==46)=Value.bool (decide (r=46)) from congrArg Value.bool (by rw [Bool.eq_iff_iff];simp;omega))) ?_;refine aa (aQ (v:=.bool _) rfl rfl) (mvb rfl (Bs (t:=21) rfl (fun Q6=>?_) (fun Q6=>?_)))
  ·refine aA rfl rfl (aA rfl rfl (aa (aO (v:=.bool _) rfl rfl) (aa (bG rfl) (asb rfl (ah (ae (aC (bz (v:=.bool _) rfl rfl (⟨?_,rfl⟩)))))))));unfold okB
   simp_all
  refine ak rfl (mvi rfl (ak rfl (aa (bH (a7 rfl rfl) (show Value.bool ((r:Int)==45)=Value.bool (decide (r=45)) from congrArg Value.bool (by rw [Bool.eq_iff_iff];simp;omega))) ?_)));refine aa (aQ (v:=.bool _) rfl rfl) (aa (bG rfl) (asb rfl (ah (ae (aC (bz (v:=.bool _) rfl rfl (⟨?_,rfl⟩)))))));unfold okB
  simp_all
 refine aA rfl rfl (aA rfl rfl (aa (aQ (v:=.bool _) rfl rfl) (mvb rfl (ak rfl (mvi rfl (ak rfl (aa (bH (gQ rfl rfl) (show Value.bool (decide ((r:Int)≥48))=Value.bool (decide (r≥48)) from congrArg Value.bool (decide_eq_decide.2 (by omega)))) (ak rfl ?_))))))));refine mvb rfl (Bs (t:=12) rfl (fun Q7=>?_) (fun Q7=>?_))
 ·refine ak rfl (mvi rfl (ak rfl (aa (bH (kC rfl rfl) (show Value.bool (decide ((r:Int)≤57))=Value.bool (decide (r≤57)) from congrArg Value.bool (decide_eq_decide.2 (by omega)))) (ak rfl (aa (aO (v:=.bool _) rfl rfl) (aa (aQ (v:=.bool _) rfl rfl) (mvb rfl (Bs (t:=17) rfl (fun Q8=>?_) (fun Q8=>?_)))))))))
  ·refine aA rfl rfl (aA rfl rfl (aa (aO (v:=.bool _) rfl rfl) (mvb rfl (aA rfl rfl (aA rfl rfl (aa (aO (v:=.bool _) rfl rfl) (aa (bG rfl) (asb rfl ?_))))))));refine ah (ae (aC (bz (v:=.bool _) rfl rfl (⟨?_,rfl⟩))));unfold okB
   simp_all
  refine ak rfl (mvi rfl (ak rfl (aa (bH (a7 rfl rfl) (show Value.bool ((r:Int)==46)=Value.bool (decide (r=46)) from congrArg Value.bool (by rw [Bool.eq_iff_iff];simp;omega))) ?_)));refine aa (aQ (v:=.bool _) rfl rfl) (mvb rfl (Bs (t:=21) rfl (fun Q9=>?_) (fun Q9=>?_)))
  ·refine aA rfl rfl (aA rfl rfl (aa (aO (v:=.bool _) rfl rfl) (aa (bG rfl) (asb rfl (ah (ae (aC (bz (v:=.bool _) rfl rfl (⟨?_,rfl⟩)))))))));unfold okB
   simp_all
  refine ak rfl (mvi rfl (ak rfl (aa (bH (a7 rfl rfl) (show Value.bool ((r:Int)==45)=Value.bool (decide (r=45)) from congrArg Value.bool (by rw [Bool.eq_iff_iff];simp;omega))) ?_)));refine aa (aQ (v:=.bool _) rfl rfl) (aa (bG rfl) (asb rfl (ah (ae (aC (bz (v:=.bool _) rfl rfl (⟨?_,rfl⟩)))))));unfold okB
  simp_all
 refine aA rfl rfl (aA rfl rfl (ak rfl (aa (aQ (v:=.bool _) rfl rfl) (aa (aQ (v:=.bool _) rfl rfl) (mvb rfl (ak rfl (mvi rfl (ak rfl ?_))))))));refine aa (bH (a7 rfl rfl) (show Value.bool ((r:Int)==46)=Value.bool (decide (r=46)) from congrArg Value.bool (by rw [Bool.eq_iff_iff];simp;omega))) ?_;refine aa (aQ (v:=.bool _) rfl rfl) (mvb rfl (Bs (t:=21) rfl (fun Q10=>?_) (fun Q10=>?_)))
 ·refine aA rfl rfl (aA rfl rfl (aa (aO (v:=.bool _) rfl rfl) (aa (bG rfl) (asb rfl (ah (ae (aC (bz (v:=.bool _) rfl rfl (⟨?_,rfl⟩)))))))));unfold okB
  simp_all
 refine ak rfl (mvi rfl (ak rfl (aa (bH (a7 rfl rfl) (show Value.bool ((r:Int)==45)=Value.bool (decide (r=45)) from congrArg Value.bool (by rw [Bool.eq_iff_iff];simp;omega))) ?_)));refine aa (aQ (v:=.bool _) rfl rfl) (aa (bG rfl) (asb rfl (ah (ae (aC (bz (v:=.bool _) rfl rfl (⟨?_,rfl⟩)))))));unfold okB
 simp_all
theorem rV (s:ByteArray) (w:World):Rt prog 63 [.string s,.func (.func 64) #[] #[]] w fun v w'=>v=.bool (!(eT s).all okB)∧ag w w':=by
 refine Calls.mono (Tryz.strings_ContainsFunc_runes 64 #[] (fun args w=>fk (w:=w) (by kernel_rfl) args) (fun r=> !okB r) s w fun W x _ _=>?_) fun e w' h=>?_
 ·exact Calls.mono (uR x W) fun e w' h=>by
   obtain ⟨v,he,hv,hw⟩:=h;subst hw;exact ⟨by rw [he,hv],0,rfl⟩
 ·rw [xU] at h;exact ⟨_,h.1,rfl,h.2⟩
theorem gN (A:Option Addr) (c n:Nat) (nms:List ByteArray) (w:World) (hr:gH 1 (fun s=>[Value.string s]) w A nms) (hn:n=nms.length) (hl:n≤100000000) (hs:∀ s∈nms,s.size≤140737488351232) :
 Rt prog 43 [.slice A n c] w (fun v w'=>v=.bool (nms.all okN)∧ag w w'):=by
 refine enter (n:=25) Tryz.func43 rfl rfl rfl (af (ab (asb rfl (ah (ae (af (af (ab (mvs rfl (aa (bb ia rfl) (mvi rfl (ah (ae (aP (cH (G:=Nat) [2,4,5,9,10,11,12,13,14,15,16,17,18,19,20,21,22,23,24] (fun i=>[(8,.int .i64 (i:Nat))]) (fun i w'=>i≤n∧(nms.take i).all okN=true∧ag w w') (fun i=>n-i) (0) ⟨rfl,trivial⟩ ?_ ?_)))))))))))))))
 ·exact ⟨Nat.zero_le _,rfl,ag.rfl_⟩
 rintro i ρ1 w1 ⟨hi,hok,hB⟩;refine af (ab (aa (cl rfl rfl) (ah (ae (af (BM rfl (fun Q2=>?_) (fun Q2=>?_)))))))
 ·obtain ⟨ba,oa,rfl,hca⟩:=hr (by omega);have hil:i<nms.length:=by omega
  have hce:=hca i hil;have hsz:=hs _ (List.getElem_mem hil);refine aE (ae (af (aP (af (ab (aa (dM fQ rfl rfl (by omega)) (aa (ao bY rfl (by exact (by have h9:=hce 0 _ rfl;simpa using Ct hB h9))) ?_)))))));refine asg rfl (ah (ae (af (ab (mvg rfl (av wv (rV nms[i] _) ?_))))));rintro v13 w3 ⟨rfl,E13⟩;refine asb rfl (ah (ae (af (ab (mvb rfl (mvb rfl (Bq (t:=15) rfl (fun Q4=>?_) (fun Q4=>?_))))))))
  ·refine aA rfl rfl (aA rfl rfl (aa (aO (v:=.bool _) rfl rfl) (mvb rfl (aA rfl rfl (aA rfl rfl (aA rfl rfl (aa (aO (v:=.bool _) rfl rfl) (ah (ae ?_)))))))));refine aY rfl (af (ab (asb rfl (ah (ae (aC (aW (aF (aF (aW (aF (bz (v:=.bool _) rfl rfl ?_))))))))))));have hon:okN nms[i]=false:=by unfold okN;simp_all <;> omega
   refine ⟨congrArg Value.bool ?_,(hB.next E13)⟩;symm;rw [List.all_eq_false];exact ⟨_,List.getElem_mem hil,by rw [hon];decide⟩
  refine ak rfl (mvg rfl (ak rfl (aa (iW rfl rfl) (aa (aQ (v:=.bool _) rfl rfl) (mvb rfl (Br (t:=19) rfl (fun Q5=>?_) (fun Q5=>?_)))))))
  ·refine aA rfl rfl (aA rfl rfl (aA rfl rfl (aa (aO (v:=.bool _) rfl rfl) (ah (ae (aY rfl (af (ab (asb rfl (ah (ae (aC (aW (aF (aF (aW (aF ?_)))))))))))))))));refine bz (v:=.bool _) rfl rfl ?_;have hon:okN nms[i]=false:=by unfold okN;simp_all [zq] <;> omega
   refine ⟨congrArg Value.bool ?_,(hB.next E13)⟩;symm;rw [List.all_eq_false];exact ⟨_,List.getElem_mem hil,by rw [hon];decide⟩
  refine ak rfl (mvg rfl (ak rfl (aa (im (by kernel_rfl) rfl) (ak rfl (aa (cn rfl rfl) (aa (aQ (v:=.bool _) rfl rfl) (ah (ae (BM rfl (fun Q6=>?_) (fun Q6=>?_))))))))))
  ·refine af (ab (asb rfl (ah (ae (aC (aW (aF (aF (aW (aF (bz (v:=.bool _) rfl rfl ?_)))))))))));have hon:okN nms[i]=false:=by unfold okN;simp_all [zq] <;> omega
   refine ⟨congrArg Value.bool ?_,(hB.next E13)⟩;symm;rw [List.all_eq_false];exact ⟨_,List.getElem_mem hil,by rw [hon];decide⟩
  refine aE (bI (ae (ab (aa (cf (b:=1) rfl rfl (by omega)) (mvi rfl (ah ?_))))));refine bW (i+1) ⟨(by first | rfl | (refine bD ?_;omega)),trivial⟩ (by (iterate 41 refine bg rfl ?_);exact bw) ⟨?_,?_⟩
  ·have hon:okN nms[i]=true:=by unfold okN;simp_all [zq];exact ⟨Nat.pos_of_ne_zero fun h9=>by simp_all,by omega⟩
   exact ⟨by omega,by rw [List.take_succ_eq_append_getElem hil,List.all_append,hok,List.all_cons,List.all_nil,hon];rfl,(hB.next E13)⟩
  ·show n-(i+1)<n-i;omega
 refine cx (bc (bc (bX (ae (af (ab (asb rfl (ah (ae (aC (bz (v:=.bool _) rfl rfl ?_)))))))))));obtain rfl:i=n:=by omega
 rw [hn,List.take_length] at hok;exact ⟨by rw [hok],hB⟩
end Go.Proofs.YtaohnmneccbljaaGreatDoor
namespace Go.Proofs.YtaohnmneccbljaaGreatDoor
open Go.Proofs.Tryz (prog)
open Go.RowKit
open Go.ChangeShapes Go.WideShapes Go.ChangeAt
theorem gf:ch prog 99 0=some 0:=by kernel_rfl
theorem wk:aH prog 87=true:=by kernel_rfl
theorem mL:aH prog 86=true:=by kernel_rfl
theorem eH:(dq prog 88).isSome=true:=by kernel_rfl
theorem lI:(prog.underlying 3).isSome=true:=by kernel_rfl
theorem mf:prog.underlying 78=some (.int .u64):=by kernel_rfl
theorem pQ:(prog.underlying 78).isSome=true:=by kernel_rfl
theorem jZ:prog.underlying 3=some (.int .i64):=by kernel_rfl
theorem bK:dq prog 88=some (99,3):=by kernel_rfl
theorem iT:fK prog 99=some true:=by kernel_rfl
theorem ff:cS prog 99=some 3:=by kernel_rfl
theorem cd:ch prog 90 0=some 0:=by kernel_rfl
theorem dG:fK prog 88=some false:=by kernel_rfl
theorem wm:aH prog 85=true:=by kernel_rfl
theorem fN:aH prog 43=true:=by kernel_rfl
theorem mM:ch prog 90 1=some 1:=by kernel_rfl
theorem aD:fK prog 3=some false:=by kernel_rfl
theorem en:cS prog 3=some 1:=by kernel_rfl
theorem iy:ch prog 90 2=some 2:=by kernel_rfl
theorem fg:ch prog 90 3=some 3:=by kernel_rfl
theorem di:fK prog 4=some false:=by kernel_rfl
theorem lH:cS prog 4=some 1:=by kernel_rfl
theorem gF {fs:List Fl} {i:Nat} (h:i<fs.length):fs.getD i Fz=fs[i]:=by rw [List.getD_eq_getElem?_getD,List.getElem?_eq_getElem h];rfl
def aS (fs:List Fl):List Fe:=fs.map Fl.abs
theorem aR (fs:List Fl):(aS fs).length=fs.length:=List.length_map _
theorem bP {fs:List Fl} {i:Nat} (h:i<(aS fs).length):(aS fs)[i]=(fs[i]'(by rw [←aR];exact h)).abs:=List.getElem_map _
theorem KS.getD {fs:List Fl} (h:KS (aS fs)) {i j:Nat} (hij:i<j) (hj:j<fs.length):sLt (fs.getD i Fz).nm (fs.getD j Fz).nm:=by
 rw [gF (Nat.lt_trans hij hj),gF hj];have:=h.cmp hij (by rw [aR];exact hj)
 rwa [bP,bP] at this
def Fnd (fs:List Fl) (id:ByteArray) (i:Nat) (fd:Bool):Prop:=KAt (aS fs) id i∧(fd=true↔∃ h:i<fs.length,fs[i].nm=id)
theorem x5 {fs:List Fl} {id:ByteArray} {i:Nat} {fd:Bool} (h1:i≤fs.length) (h2:∀ x,x<i→sLt (fs.getD x Fz).nm id) (h3:∀ x,i≤x→x<fs.length→¬ sLt (fs.getD x Fz).nm id) (h4:fd=true↔i<fs.length∧(fs.getD i Fz).nm=id):Fnd fs id i fd:=by
 refine ⟨⟨by rw [aR];exact h1,fun x hx hxi=>?_,fun x hx hxi=>?_⟩,h4.trans ⟨fun ⟨a,b⟩=>⟨a,by rw [gF a] at b;exact b⟩,fun ⟨a,b⟩=>⟨a,by rw [gF a];exact b⟩⟩⟩
 ·rw [bP];have:=h2 x hxi;rwa [gF (by rw [←aR];exact hx)] at this
 ·rw [bP];have:=h3 x hxi (by rw [←aR];exact hx);rwa [gF (by rw [←aR];exact hx)] at this
def bE (ok:Bool) (fu:Nat) (off:Bool):Int:=if ok then (if off||fu==1 then 7 else 0) else 1
def fuB (ok:Bool) (fu:Nat):Nat:=if ok then fu-1 else fu
def kk (ok:Bool) (fu:Nat) (off:Bool):Bool:=if ok then off||fu==1 else off
theorem kY {w:World} {base n c:Nat} {A:Option Addr} {fs:List Fl} (h:w.ownsRow base 99 3 (.slice A n c) n (fs.flatMap flV)):n=fs.length∧gH 3 flV w A fs:=⟨(gH.own gy (by decide) h).1.symm,(gH.own gy (by decide) h).2⟩
theorem rP (f:Fl) (id:ByteArray) (w:World) :
 Rt prog 86 [.agg (flV f).toArray,.string id] w (fun v w'=>v=.int .i64 (yu f.nm id)∧ag w w'):=by
 refine enter (n:=9) Tryz.func86 rfl rfl rfl (af (ab (bu (v:=.agg _) rfl ?_)));intro b2 w1 E2 hb2 hk2;refine asi rfl (ah (ae (af (ab (aa (ai gf rfl) (aa (ao bY rfl (by exact hk2.rd 0 rfl)) ?_))))));refine mvg rfl (av wk (rW f.nm id _) ?_);rintro v8 w2 ⟨rfl,rfl⟩;refine asi rfl (ah (ae (aC (bz (v:=.int _ _) rfl rfl (⟨rfl,(ag.rfl_.next E2)⟩)))))
theorem rQ (A:Option Addr) (c n:Nat) (fs:List Fl) (w:World) (hr:gH 3 flV w A fs) (hn:n=fs.length) (hl:n≤100000000) (id:ByteArray) (hO:KS (aS fs)) :
 Rt prog 85 [.slice A n c,.string id,.func (.func 86) #[] #[]] w (fun v w'=>(∃ (i:Nat) (fd:Bool),v=.tuple #[.int .i64 (i:Nat),.bool fd]∧Fnd fs id i fd)∧ag w w'):=by
 refine enter (n:=49) Tryz.func85 rfl rfl rfl (af (ab (asi rfl (asb rfl (ah (ae (af (ab (mvs rfl (aa (bb eH rfl) (asi rfl (ah (ae (af (ab ?_)))))))))))))));refine mvi rfl (asi rfl (asi rfl (ah (ae (af (aP (cH (G:=Nat×Nat) [11,15,16,17,18,19,20,21,22,23,24,25,26,27,28,29,30,31,32,33,34] (fun (i,j)=>[(9,.int .i64 (i:Nat)),(10,.int .i64 (j:Nat))]) (fun (i,j) w'=>i≤j∧j≤n∧(∀ x,x<i→sLt (fs.getD x Fz).nm id)∧(∀ x,j≤x→x<n→¬ sLt (fs.getD x Fz).nm id)∧ag w w') (fun (i,j)=>j-i) ((0,n)) ⟨rfl,rfl,trivial⟩ ?_ ?_)))))))
 ·exact ⟨Nat.zero_le _,Nat.le_refl _,fun x h=>absurd h (by omega),fun x h1 h2=>absurd h1 (by omega),ag.rfl_⟩
 rintro ⟨i,j⟩ ρ1 w1 ⟨hij,hjn,hlo,hhi,hB⟩;refine af (af (ab (mvi rfl (mvi rfl (aa (cl rfl rfl) (ah (ae (BM rfl (fun Q2=>?_) (fun Q2=>?_)))))))))
 ·obtain ⟨bd,od,rfl,hcd⟩:=hr (by omega);refine aE (ae (aP (af (ab (mvi rfl (mvi rfl (aa (cf rfl rfl (by omega)) ?_)))))));obtain ⟨h,hh⟩:∃ h,h=(i+j)/2 ^ 1:=⟨_,rfl⟩;refine aa (pg lI mf rfl (by omega)) (aa (ug (b:=1) rfl rfl (by decide)) (aa (jE pQ jZ rfl (by omega)) (iI (t:=23) (v:=.int _ _) (v':=.int .i64 (h:Nat)) rfl (by rw [hh]) ?_)));refine asi rfl (ah (ae (af (ab (aa (aB (v:=.func _ _ _) rfl) (mvs rfl (mvi rfl (aa (bf bK rfl rfl (by omega)) ?_))))))));refine aa (aG (cs:=[_,_,_]) iT ff rfl (by have h2:=hcd h (by omega);rw [←gF (show h<fs.length by omega)] at h2;exact dU hB h2)) ?_;refine mvg rfl (nq (caps:=[]) rfl mL (rP (fs.getD h Fz) id _) ?_);rintro v3 w3 ⟨rfl,E30⟩;refine aa (cl rfl rfl) (ah (ae (BM rfl (fun Q4=>?_) (fun Q4=>?_))))
  ·have hlt:sLt (fs.getD h Fz).nm id:=uH.1 (by omega);refine ab (mvi rfl (aa (cf (b:=1) rfl rfl (by omega)) (asi rfl (ah (bI ?_)))));refine bW ((h+1,j)) ⟨(by first | rfl | (refine bD ?_;omega)),(by first | rfl | (refine bD ?_;omega)),trivial⟩ (by (iterate 45 refine bg rfl ?_);exact bw) ⟨?_,?_⟩
   ·exact ⟨by omega,hjn,fun x hx=>by
     rcases Nat.eq_or_lt_of_le (Nat.le_of_lt_succ hx) with e | e
     ·subst e;exact hlt
     ·exact j6 (hO.getD e (by omega)) hlt,hhi,(hB.next E30)⟩
   ·show j-(h+1)<j-i;omega
  have hnl:¬ sLt (fs.getD h Fz).nm id:=fun h9=>by have:=uH.2 h9;omega
  refine ab (mvi rfl (asi rfl (ah (bI ?_))));refine bW ((i,h)) ⟨(by first | rfl | (refine bD ?_;omega)),(by first | rfl | (refine bD ?_;omega)),trivial⟩ (by (iterate 44 refine bg rfl ?_);exact bw) ⟨?_,?_⟩
  ·exact ⟨by omega,by omega,hlo,fun x h1 h2=>by
    rcases Nat.eq_or_lt_of_le h1 with e | e
    ·subst e;exact hnl
    ·exact fun h9=>hnl (j6 (hO.getD e (by omega)) h9),(hB.next E30)⟩
  ·show h-i<j-i;omega
 refine cx (bc (bc (bX (ae (af (ab (mvi rfl (mvi rfl (mvi rfl (aa (cl rfl rfl) (mvb rfl (Bs (t:=39) rfl (fun Q5=>?_) (fun Q5=>?_)))))))))))))
 ·obtain ⟨bd,od,rfl,hcd⟩:=hr (by omega);refine ak rfl (aa (aB (v:=.func _ _ _) rfl) (ak rfl (mvs rfl (ak rfl (mvi rfl (ak rfl (aa (bf bK rfl rfl (by omega)) (ak rfl ?_))))))));refine aa (aG (cs:=[_,_,_]) iT ff rfl (by have h2:=hcd i (by omega);rw [←gF (show i<fs.length by omega)] at h2;exact dU hB h2)) ?_;refine ak rfl (mvg rfl (ak rfl (nq (caps:=[]) rfl mL (rP (fs.getD i Fz) id _) ?_)));rintro v6 w6 ⟨rfl,E46⟩;refine ak rfl (aa (a7 rfl rfl) (aa (aO (v:=.bool _) rfl rfl) (asi rfl (asb rfl (ah (ae (aC (gj (v:=.int _ _) (v':=.bool _) rfl rfl rfl ?_))))))));obtain rfl:i=j:=by omega
  subst hn;refine ⟨⟨i,_,rfl,x5 hjn hlo hhi ?_⟩,(hB.next E46)⟩
  first
   |(rw [beq_iff_eq,nb];exact ⟨fun h9=>⟨by omega,h9⟩,fun h9=>h9.2⟩)
   |(rw [decide_eq_true_iff,nb];exact ⟨fun h9=>⟨by omega,h9⟩,fun h9=>h9.2⟩)
   |exact ⟨fun h9=>(by cases h9),fun h9=>absurd h9.1 (by omega)⟩
 refine aA rfl rfl (aA rfl rfl (aA rfl rfl (aA rfl rfl (aA rfl rfl (aA rfl rfl (aA rfl rfl (aA rfl rfl (aa (aQ (v:=.bool _) rfl rfl) ?_))))))));refine asi rfl (asb rfl (ah (ae (aC (gj (v:=.int _ _) (v':=.bool _) rfl rfl rfl ?_)))));obtain rfl:i=j:=by omega
 subst hn;refine ⟨⟨i,_,rfl,x5 hjn hlo hhi ?_⟩,hB⟩
 first
  |(rw [beq_iff_eq,nb];exact ⟨fun h9=>⟨by omega,h9⟩,fun h9=>h9.2⟩)
  |(rw [decide_eq_true_iff,nb];exact ⟨fun h9=>⟨by omega,h9⟩,fun h9=>h9.2⟩)
  |exact ⟨fun h9=>(by cases h9),fun h9=>absurd h9.1 (by omega)⟩
theorem lu (d:Nat) (fs:List Fl) (Ap:Option Addr) (cp:Nat) (ca:Int) (fu:Nat) (off:Bool) (w:World) (h:DkH w d fs Ap cp ca fu off) (hs:KS (aS fs)) (hl:fs.length≤16) (_:fu≤9223372036854775807) (id:ByteArray) :
 Rt prog 68 [.pointer (some ⟨d,0,none⟩),.string id] w (fun v w'=>(∃ (i:Nat) (fd:Bool),v=.tuple #[.int .i64 (i:Nat),.bool fd]∧Fnd fs id i fd)∧ag w w'):=by
 refine enter (n:=14) Tryz.func68 rfl rfl rfl (af (ab (asi rfl (asb rfl (ah (ae (af (ab (mvp rfl (aa (au rfl) (aa (ai cd rfl) (aa (ao dG rfl (by exact (h.blk.from_ ag.rfl_).rd 0 rfl)) ?_))))))))))));refine mvg rfl (av wm (rQ Ap cp fs.length fs _ ((kY h.row).2.from_ ag.rfl_) rfl (by omega) id hs) ?_);rintro v11 w1 ⟨⟨i,fd,rfl,hf⟩,E11⟩;refine aa (ar rfl rfl) (aa (ar rfl rfl) (asi rfl (asb rfl (ah (ae (aC (gj (v:=.int _ _) (v':=.bool _) rfl rfl rfl (⟨⟨i,fd,rfl,hf⟩,(ag.rfl_.next E11)⟩))))))))
theorem rZ (d:Nat) (fs:List Fl) (Ap:Option Addr) (cp:Nat) (ca:Int) (fu:Nat) (off:Bool) (w:World) (h:DkH w d fs Ap cp ca fu off) (_:KS (aS fs)) (_:fs.length≤16) (hfu0:fu≤9223372036854775807) (A:Option Addr) (c n:Nat) (nms:List ByteArray) (hr:gH 1 (fun s=>[Value.string s]) w A nms) (hn:n=nms.length) (hnl:n≤1000) (hsz:∀ s∈nms,s.size≤140737488351232) :
 Rt prog 97 [.pointer (some ⟨d,0,none⟩),.slice A n c] w (fun v w'=>v=.int .i64 (bE (nms.all okN) fu off)∧(∃ ca',DkH w' d fs Ap cp ca' (fuB (nms.all okN) fu) (kk (nms.all okN) fu off))∧Chg (fun k=>k=d) w w'):=by
 refine enter (n:=45) Tryz.func97 rfl rfl rfl (af (ab (asi rfl (ah (ae (af (af (ab (mvs rfl (av fN (gN A c n nms _ (hr.from_ ag.rfl_) hn (by omega) hsz) ?_))))))))));rintro v6 w1 ⟨rfl,E6⟩;refine aa (bG rfl) (ah (ae (BK rfl (fun Q2=>?_) (fun Q2=>?_))))
 ·have hok:nms.all okN=false:=by first | assumption | simp_all
  refine af (ab (asi rfl (ah (ae (aC (aF (bz (v:=.int _ _) rfl rfl ?_)))))));refine ⟨by unfold bE;rw [hok];rfl,⟨ca,by unfold fuB kk;rw [hok];exact h.from_ (ag.rfl_.next E6)⟩,((ag.rfl_.next E6)).toChg⟩
 have hok:nms.all okN=true:=by first | assumption | simp_all
 refine aE (ae (af (ab (mvp rfl (aa (au rfl) (aa (ai mM rfl) (aa (ao aD rfl (by exact (h.blk.from_ (ag.rfl_.next E6)).rd 1 rfl)) ?_)))))));refine aa (xf rfl rfl) (aa (au rfl) (aa (ai mM rfl) ?_));have hF3:=(ag.rfl_.next E6);have hb3:=h.blk.from_ hF3;refine cT (v:=.int _ _) en rfl rfl rfl (hb3) (by show 1<4;decide) ?_;intro w3 O3 P3;have hC3:Chg (fun k=>k=d) w _:=hF3.toChg.next (O3.toChg rfl);refine ah (ae (kH (G:=Int×Nat×Bool) [15,16,17,18,19,20,21,22,23,24,25,26,27,28,29,30,31,32,33,34,35,36,37,38,39,40] (fun _=>[]) (fun (ca2,fu2,off2) w'=>fu2=fu-1∧off2=(off||fu==1)∧Blk w' d 90 #[.slice Ap fs.length cp,.int .i64 ca2,.int .i64 (fu2:Nat),.bool off2]∧Chg (fun k=>k=d) w w') ?_ ?_))
 ·refine af (ab (mvp rfl (aa (au rfl) (aa (ai iy rfl) (aa (ao aD rfl (by exact P3.rd 2 rfl)) ?_)))));refine aa (cn rfl rfl) (ah (ae (BM rfl (fun Q4=>?_) (fun Q4=>?_))))
  ·refine af (ab (mvp rfl (aa (au rfl) (aa (ai iy rfl) (aa (ao aD rfl (by exact P3.rd 2 rfl)) ?_)))));refine aa (kZ (b:=1) rfl rfl (by omega)) (aa (au rfl) (aa (ai iy rfl) (cT (v:=.int _ _) en rfl rfl rfl (P3) (by show 2<4;decide) ?_)));intro w5 O5 P5;have hC5:Chg (fun k=>k=d) w _:=hC3.next (O5.toChg rfl);refine ah (ae (ab (mvp rfl (mvp rfl (aa (au rfl) (aa (ai fg rfl) (aa (ao di rfl (by exact P5.rd 3 rfl)) ?_)))))));refine mvb rfl (a_ (t:=32) rfl (fun Q6=>?_) (fun Q6=>?_))
   ·refine aA rfl rfl (aA rfl rfl (aA rfl rfl (aA rfl rfl (aA rfl rfl (aa (aO (v:=.bool _) rfl rfl) (aa (au rfl) (aa (ai fg rfl) (cT (v:=.bool _) lH rfl rfl rfl (P5) (by show 3<4;decide) ?_))))))));intro w7 O6 P6;have hC6:Chg (fun k=>k=d) w _:=hC5.next (O6.toChg rfl);refine ah ?_;refine bW ((IntKind.i64.wrap (ca+1),fu-1,off||fu==1)) trivial (by (iterate 27 refine bg rfl ?_);exact bw) ?_;refine ⟨rfl,rfl,?_,hC6⟩;have e6:=P6
    first
     |(rw [show (off||fu==1)=true by simp_all];exact e6)
     |(rw [show (off||fu==1)=(((fu-1:Nat):Int)==0) by simp_all;rw [Bool.eq_iff_iff];simp;omega];exact e6)
   refine ak rfl (mvp rfl (ak rfl (aa (au rfl) (ak rfl (aa (ai iy rfl) (ak rfl (aa (ao aD rfl (by exact P5.rd 2 rfl)) ?_)))))));refine ak rfl (aa (a7 rfl rfl) (aa (aQ (v:=.bool _) rfl rfl) (aa (au rfl) (aa (ai fg rfl) (cT (v:=.bool _) lH rfl rfl rfl (P5) (by show 3<4;decide) ?_)))));intro w8 O6 P6;have hC6:Chg (fun k=>k=d) w _:=hC5.next (O6.toChg rfl);refine ah ?_;refine bW ((IntKind.i64.wrap (ca+1),fu-1,off||fu==1)) trivial (by (iterate 27 refine bg rfl ?_);exact bw) ?_;refine ⟨rfl,rfl,?_,hC6⟩;have e6:=P6
   first
    |(rw [show (off||fu==1)=true by simp_all];exact e6)
    |(rw [show (off||fu==1)=(((fu-1:Nat):Int)==0) by simp_all;rw [Bool.eq_iff_iff];simp;omega];exact e6)
  refine aE ?_;refine bW ((IntKind.i64.wrap (ca+1),fu-1,off||fu==1)) trivial (by (iterate 5 refine bg rfl ?_);exact bw) ?_;obtain rfl:fu=0:=by omega
  refine ⟨rfl,rfl,?_,hC3⟩;rw [show (off||(0:Nat)==1)=off by simp];exact P3
 rintro ⟨ca2,fu2,off2⟩ ρ9 w9 ⟨hfu,hoff,hb7,hC7⟩;refine af (af (ab (mvp rfl (aa (au rfl) (aa (ai fg rfl) (aa (ao di rfl (by exact hb7.rd 3 rfl)) ?_))))));refine ah (ae (aM rfl (fun Q10=>?_) (fun Q10=>?_)))
 ·refine af (ab (asi rfl (ah (ae (aC (aF (bz (v:=.int _ _) rfl rfl ?_)))))));refine ⟨by unfold bE;rw [hok,←hoff];simp_all,⟨ca2,by unfold fuB kk;rw [hok];exact h.setD hC7 (by rw [←hfu,←hoff];exact hb7)⟩,hC7⟩
 refine aE (ae (af (ab (asi rfl (ah (ae (aC (bz (v:=.int _ _) rfl rfl ?_))))))));refine ⟨by unfold bE;rw [hok,←hoff];simp_all,⟨ca2,by unfold fuB kk;rw [hok];exact h.setD hC7 (by rw [←hfu,←hoff];exact hb7)⟩,hC7⟩
theorem oO:aH prog 97=true:=by kernel_rfl
theorem h_:aH prog 68=true:=by kernel_rfl
theorem de:eU prog 101=some (9,1,16,(.string ⟨#[]⟩)):=by kernel_rfl
theorem cQ:ch prog 99 1=some 1:=by kernel_rfl
theorem cR:ch prog 97 0=some 0:=by kernel_rfl
theorem bQ:fK prog 91=some false:=by kernel_rfl
theorem fO:aH prog 44=true:=by kernel_rfl
theorem kS:ij prog 99=some (.agg #[.string ⟨#[]⟩,.slice none 0 0,.slice none 0 0]):=by kernel_rfl
theorem mn {w:World} {g:Nat} {s:ByteArray} (h:Blk w g 9 #[.string s]):gH 1 (fun s=>[Value.string s]) w (some ⟨g,0,none⟩) [s]:=fun _=>⟨g,0,rfl,fun i hi=>by
 obtain rfl:i=0:=by have:i<1:=hi;omega
 exact h.range 0 _ (fun j v hj=>by
  match j,hj with
  |0,hj=>exact hj
  |j+1,hj=>simp at hj)⟩
theorem By {w:World} {g:Nat} {s t:ByteArray} (h:Blk w g 9 #[.string s,.string t]):gH 1 (fun s=>[Value.string s]) w (some ⟨g,0,none⟩) [s,t]:=fun _=>⟨g,0,rfl,fun i hi=>by
 match i,hi with
 |0,_=>exact h.range 0 _ (fun j v hj=>by
   match j,hj with
   |0,hj=>exact hj
   |j+1,hj=>simp at hj)
 |1,_=>exact h.range 1 _ (fun j v hj=>by
   match j,hj with
   |0,hj=>exact hj
   |j+1,hj=>simp at hj)
 |i+2,hi=>have:i+2<2:=hi;omega⟩
theorem lV {w:World} {base e s n c:Nat} {A:Option Addr} {xs:List Value} (h:w.ownsRow base e s (.slice A n c) n xs) (hn:0<n):∃ g,A=some ⟨g,0,none⟩:=by
 obtain ⟨g,cur,e,_⟩:=ka h hn;exact ⟨g,e⟩
theorem Fnd.has {fs:List Fl} {id:ByteArray} {i:Nat} {fd:Bool} (h:Fnd fs id i fd) (hs:KS (aS fs)):gv (aS fs) id=fd:=by
 rw [Bool.eq_iff_iff,h.1.has hs,h.2];exact ⟨fun ⟨a,b⟩=>⟨by rw [←aR];exact a,by rw [bP] at b;exact b⟩,fun ⟨a,b⟩=>⟨by rw [aR];exact a,by rw [bP];exact b⟩⟩
def iK (D:List Fe) (off:Bool) (nm:ByteArray):Int:=if okN nm then (if off then 7 else if gv D nm then 0 else 3) else 1
def iq (D:List Fe) (off:Bool) (nm:ByteArray):List Nat:=if iK D off nm=0 then eB D nm else []
def DOk (D:List Fe):Prop:=KS D∧D.length≤16∧∀ e∈D,e.2.1.length≤1048576∧e.2.2.length≤1048576
def cP (w:World) (U:Nat→Prop) (d:Nat) (D:List Fe) (fu:Nat) (off:Bool):Prop:=∃ fs Ap cp ca,DkH w d fs Ap cp ca fu off∧aS fs=D∧DOk D∧fu≤9223372036854775807∧∀ k,lM d Ap fs k→U k
section
variable {U V:Nat→Prop} {w w':World} {d:Nat} {D:List Fe} {fu:Nat} {off:Bool}
theorem cP.chg (h:cP w U d D fu off) (c:Chg V w w') (hV:∀ k,U k→¬ V k):cP w' U d D fu off:=by
 obtain ⟨fs,Ap,cp,ca,h1,h2,h3,h4,h5⟩:=h;exact ⟨fs,Ap,cp,ca,h1.chg c fun k hk=>hV k (h5 k hk),h2,h3,h4,h5⟩
theorem cP.from_ (h:cP w U d D fu off) (hF:ag w w'):cP w' U d D fu off:=h.chg (V:=fun _=>False) hF.toChg fun _ _ h=>h
theorem cP.wide (h:cP w U d D fu off) (hU:∀ k,U k→k<w.heap.size→V k):cP w V d D fu off:=by
 obtain ⟨fs,Ap,cp,ca,h1,h2,h3,h4,h5⟩:=h;exact ⟨fs,Ap,cp,ca,h1,h2,h3,h4,fun k hk=>hU k (h5 k hk) (h1.lt hk)⟩
theorem cP.ok (h:cP w U d D fu off):DOk D:=by
 obtain ⟨fs,Ap,cp,ca,h1,h2,h3,h4,h5⟩:=h;exact h3
end
theorem ur (d:Nat) (fs:List Fl) (Ap:Option Addr) (cp:Nat) (ca:Int) (fu:Nat) (off:Bool) (w:World) (h:DkH w d fs Ap cp ca fu off) (hs:KS (aS fs)) (hl:fs.length≤16) (hfu0:fu≤9223372036854775807) (A:Option Addr) (c n:Nat) (nms:List ByteArray) (hr:gH 1 (fun s=>[Value.string s]) w A nms) (hn:n=nms.length) (hnl:n≤1000) (hsz:∀ s∈nms,s.size≤140737488351232) (h0:0<nms.length) (hA:∀ q,A.map (·.block)=some q→q≠d) :
 Rt prog 79 [.pointer (some ⟨d,0,none⟩),.slice A n c] w (fun v w'=>((bE (nms.all okN) fu off≠0∧v=.tuple #[.pointer none,.int .i64 (bE (nms.all okN) fu off)])∨(bE (nms.all okN) fu off=0∧∃ i fd,Fnd fs (nms.getD 0 ⟨#[]⟩) i fd∧((fd=false∧v=.tuple #[.pointer none,.int .i64 3])∨(fd=true∧∃ g,Ap=some ⟨g,0,none⟩∧v=.tuple #[.pointer (some ⟨g,i*3,none⟩),.int .i64 0]))))∧(∃ ca',DkH w' d fs Ap cp ca' (fuB (nms.all okN) fu) (kk (nms.all okN) fu off))∧Chg (fun k=>k=d) w w'):=by
 obtain ⟨ba,oa,rfl,hca⟩:=hr h0;have hc0:=hca 0 h0;have hlt:ba<w.heap.size:=World.block_lt_of_cell? _ _ (hc0 0 _ rfl);have hne:ba≠d:=hA ba rfl;have hg0:nms.getD 0 ⟨#[]⟩=nms[0]:=by rw [List.getD_eq_getElem?_getD,List.getElem?_eq_getElem h0];rfl
 obtain ⟨e0,he0⟩:∃ e0,e0=bE (nms.all okN) fu off:=⟨_,rfl⟩;refine enter (n:=31) Tryz.func79 rfl rfl rfl (af (ab (asp rfl (asi rfl (ah (ae (af (af (ab (mvp rfl (mvs rfl (av oO (rZ d fs Ap cp ca fu off _ (h.from_ ag.rfl_) hs hl hfu0 (some ⟨ba,oa,none⟩) c n nms (hr.from_ ag.rfl_) hn hnl hsz) ?_))))))))))));rintro v11 w1 ⟨rfl,⟨ca2,h2⟩,hC11⟩;have hc2:=po hc0 hC11 (by first | exact hlt | exact Nat.lt_of_lt_of_le hlt (ag.size (by assumption))) hne;rw [←he0];refine asi rfl (ah (ae (af (ab (mvi rfl (aa (cv rfl rfl) (ah (ae (BJ rfl (fun Q2=>?_) (fun Q2=>?_))))))))))
 ·refine af (ab (mvi rfl (asp rfl (asi rfl (ah (ae (aC (aF (gj (v:=.pointer _) (v':=.int _ _) rfl rfl rfl (⟨.inl ⟨by assumption,rfl⟩,⟨ca2,h2.from_ ag.rfl_⟩,hC11.next (ag.rfl_).toChg⟩))))))))))
 refine aE (ae (af (ab (mvp rfl (mvs rfl (aa (dM (i:=0) fQ rfl rfl (by omega)) (aa (ao bY rfl (by have h9:=hc2 0 _ rfl;simpa using Ct ag.rfl_ h9)) ?_)))))));refine av h_ (lu d fs Ap cp ca2 _ _ _ (h2.from_ ag.rfl_) hs hl (by unfold fuB;split <;> omega) nms[0]) ?_;rintro v20 w3 ⟨⟨i,fd,rfl,hf⟩,E20⟩;refine mvt rfl (aa (ar rfl rfl) (aa (ar rfl rfl) (asi rfl (asb rfl (ah (ae (af (af (ab (mvb rfl (aa (bG rfl) (ah (ae ?_)))))))))))));refine BK rfl (fun Q4=>?_) (fun Q4=>?_)
 ·have hfd:fd=false:=by first | assumption | simp_all
  refine af (ab (asp rfl (asi rfl (ah (ae (aC (aF (gj (v:=.pointer _) (v':=.int _ _) rfl rfl rfl ?_))))))));rw [hg0];exact ⟨.inr ⟨by omega,i,fd,hf,.inl ⟨hfd,rfl⟩⟩,⟨ca2,h2.from_ (ag.rfl_.next E20)⟩,hC11.next ((ag.rfl_.next E20)).toChg⟩
 have hfd:fd=true:=by first | assumption | simp_all
 obtain ⟨hi,hi2⟩:=hf.2.1 hfd;obtain ⟨g,rfl⟩:=lV h.row (by omega);refine aE (ae (af (ab (mvp rfl (aa (au rfl) (aa (ai cd rfl) (aa (ao dG rfl (by exact (h2.blk.from_ (ag.rfl_.next E20)).rd 0 rfl)) ?_)))))));refine mvi rfl (aa (bf bK rfl rfl (by omega)) (asp rfl (asi rfl (ah (ae (aC (gj (v:=.pointer _) (v':=.int _ _) rfl rfl rfl ?_)))))));rw [hg0];exact ⟨.inr ⟨by omega,i,fd,hf,.inr ⟨hfd,g,rfl,by rw [Nat.zero_add]⟩⟩,⟨ca2,h2.from_ (ag.rfl_.next E20)⟩,hC11.next ((ag.rfl_.next E20)).toChg⟩
theorem zg (U:Nat→Prop) (d:Nat) (D:List Fe) (fu:Nat) (off:Bool) (w:World) (hd:cP w U d D fu off) (nm:ByteArray) (hn:nm.size≤140737488351232) :
 Rt prog 49 [.pointer (some ⟨d,0,none⟩),.string nm] w (fun v w'=>(∃ A' c',v=.tuple #[.slice A' (iq D off nm).length c',.int .i64 (iK D off nm)]∧w'.ownsRow w.heap.size 5 1 (.slice A' (iq D off nm).length c') (iq D off nm).length (aK (iq D off nm)))∧ag w w'):=by
 have hd0:=hd;obtain ⟨fs,Ap,cp,ca,h,hD,hok,hfu0,hU⟩:=hd;subst hD;obtain ⟨hs,hl,hz⟩:=hok;rw [aR] at hl;refine enter (n:=34) Tryz.func49 rfl rfl rfl (af (ab (ass rfl (asi rfl (ah (ae (af (af (ab (mvg rfl (j5 (v:=.string _) de rfl rfl rfl ?_)))))))))));intro b9 w1 E9 hb9 hk9;refine av fN (gN (some ⟨b9,0,none⟩) 1 1 [nm] _ (mn (hk9.from_ ag.rfl_)) rfl (by omega) (fun s hs=>by rw [List.mem_singleton.1 hs];exact hn)) ?_;rintro v10 w2 ⟨rfl,E10⟩;refine aa (bG rfl) (ah (ae (BK rfl (fun Q3=>?_) (fun Q3=>?_))))
 ·have hok:okN nm=false:=by simpa using Q3
  refine af (ab (ass rfl (asi rfl (ah (ae (aC (aF (gj (v:=.slice _ _ _) (v':=.int _ _) rfl rfl rfl ?_))))))));have e1:iK (aS fs) off nm=1:=by unfold iK;rw [hok];rfl
  have e2:iq (aS fs) off nm=[]:=by unfold iq;rw [e1];rfl
  rw [e1,e2];exact ⟨⟨none,0,rfl,World.ownsRow_nil _ _ _ _⟩,((ag.rfl_.next E9).next E10)⟩
 have hok:okN nm=true:=by simpa using Q3
 refine aE (ae (af (af (ab (mvp rfl (aa (au rfl) (aa (ai fg rfl) (aa (ao di rfl (by exact (h.blk.from_ ((ag.rfl_.next E9).next E10)).rd 3 rfl)) ?_))))))));refine ah (ae (aM rfl (fun Q4=>?_) (fun Q4=>?_)))
 ·refine af (ab (ass rfl (asi rfl (ah (ae (aC (aF (gj (v:=.slice _ _ _) (v':=.int _ _) rfl rfl rfl ?_))))))));have e1:iK (aS fs) off nm=7:=by unfold iK;rw [hok];simp_all
  have e2:iq (aS fs) off nm=[]:=by unfold iq;rw [e1];rfl
  rw [e1,e2];exact ⟨⟨none,0,rfl,World.ownsRow_nil _ _ _ _⟩,((ag.rfl_.next E9).next E10)⟩
 refine aE (ae (af (ab (mvp rfl (mvg rfl (av h_ (lu d fs Ap cp ca fu off _ (h.from_ ((ag.rfl_.next E9).next E10)) hs hl hfu0 nm) ?_))))));rintro v19 w5 ⟨⟨i,fd,rfl,hf⟩,E19⟩;refine mvt rfl (aa (ar rfl rfl) (aa (ar rfl rfl) (asi rfl (asb rfl (ah (ae (af (af (ab (mvb rfl (aa (bG rfl) (ah (ae ?_)))))))))))));refine BK rfl (fun Q6=>?_) (fun Q6=>?_)
 ·have hfd:fd=false:=by first | assumption | simp_all
  refine af (ab (ass rfl (asi rfl (ah (ae (aC (aF (gj (v:=.slice _ _ _) (v':=.int _ _) rfl rfl rfl ?_))))))));have e1:iK (aS fs) off nm=3:=by unfold iK;rw [hok,hf.has hs,hfd];simp_all
  have e2:iq (aS fs) off nm=[]:=by unfold iq;rw [e1];rfl
  rw [e1,e2];exact ⟨⟨none,0,rfl,World.ownsRow_nil _ _ _ _⟩,(((ag.rfl_.next E9).next E10).next E19)⟩
 have hfd:fd=true:=by first | assumption | simp_all
 obtain ⟨hi,hi2⟩:=hf.2.1 hfd;have hzi:=hz _ (List.getElem_mem (l:=aS fs) (n:=i) (by rw [aR];exact hi));rw [bP] at hzi;have hz1:fs[i].vs.length≤1048576:=hzi.1;obtain ⟨bp,op,rfl,hcd⟩:=(kY h.row).2 (by omega);have hce:=hcd i hi;refine aE (ae (af (ab (mvp rfl (aa (au rfl) (aa (ai cd rfl) (aa (ao dG rfl (by exact (h.blk.from_ (((ag.rfl_.next E9).next E10).next E19)).rd 0 rfl)) ?_)))))));refine mvi rfl (aa (bf bK rfl rfl (by omega)) (aa (ai cQ rfl) (aa (ai cR rfl) (aa (ao bQ rfl (by exact Ct (((ag.rfl_.next E9).next E10).next E19) (by have h9:=hce 1 _ rfl;simpa using h9))) ?_))));have hz33:=((((ag.rfl_.next E9).next E10).next E19)).size;refine av fO (ck fs[i].vA fs[i].vc fs[i].vs.length fs[i].vs _ (((h.ok _ (List.getElem_mem hi)).v).from_ (((ag.rfl_.next E9).next E10).next E19)) rfl (by omega)) ?_;rintro v33 w7 ⟨⟨A33,c33,rfl,ho33⟩,E33⟩;refine ass rfl (asi rfl (ah (ae (aC (gj (v:=.slice _ _ _) (v':=.int _ _) rfl rfl rfl ?_)))));have e1:iK (aS fs) off nm=0:=by unfold iK;rw [hok,hf.has hs,hfd];simp_all
 have e2:iq (aS fs) off nm=fs[i].vs:=by unfold iq;rw [e1,if_pos rfl,jf hs (i:=i) (by rw [aR];exact hi) (by rw [bP];exact hi2),bP];rfl
 rw [e1,e2];exact ⟨⟨A33,c33,rfl,dI ho33 hz33⟩,((((ag.rfl_.next E9).next E10).next E19).next E33)⟩
theorem qo (U:Nat→Prop) (d:Nat) (D:List Fe) (fu:Nat) (off:Bool) (w:World) (hd:cP w U d D fu off) :
 Rt prog 45 [.pointer (some ⟨d,0,none⟩)] w (fun v w'=>(∃ A' c' n,v=.tuple #[.slice A' n c',.int .i64 (if off then 7 else 0)]∧n=(if off then [] else D).length∧w'.ownsRow w.heap.size 9 1 (.slice A' n c') n ((if off then [] else D).map fun e=>Value.string e.1))∧ag w w'):=by
 have hd0:=hd;obtain ⟨fs,Ap,cp,ca,h,hD,hok,hfu0,hU⟩:=hd;subst hD;obtain ⟨hs,hl,hz⟩:=hok;rw [aR] at hl;refine enter (n:=27) Tryz.func45 rfl rfl rfl (af (ab (ass rfl (asi rfl (ah (ae (af (af (ab (mvp rfl (aa (au rfl) (aa (ai fg rfl) (aa (ao di rfl (by exact (h.blk.from_ ag.rfl_).rd 3 rfl)) ?_)))))))))))));refine ah (ae (aM rfl (fun Q1=>?_) (fun Q1=>?_)))
 ·refine af (ab (ass rfl (asi rfl (ah (ae (aC (aF (gj (v:=.slice _ _ _) (v':=.int _ _) rfl rfl rfl ?_))))))));have hof:off=true:=by first | assumption | simp_all
  rw [hof];exact ⟨⟨none,0,0,rfl,rfl,World.ownsRow_nil _ _ _ _⟩,ag.rfl_⟩
 refine aE (ae (af (ab (ass rfl (ah (ae (af (af (ab (mvp rfl (aa (au rfl) (aa (ai cd rfl) (aa (ao dG rfl (by exact (h.blk.from_ ag.rfl_).rd 0 rfl)) ?_)))))))))))));refine aa (bb eH rfl) (mvi rfl (ah (ae (aP (cH (G:=Nat×Option Addr×Nat) [6,17,18,19,20,21,22,23,24,25] (fun (i,A4,c4)=>[(4,.slice A4 i c4),(16,.int .i64 (i:Nat))]) (fun (i,A4,c4) w'=>i≤fs.length∧w'.ownsRow w.heap.size 9 1 (.slice A4 i c4) i (List.map (fun f=>Value.string f.nm) (fs.take i))∧ag w w') (fun (i,_,_)=>fs.length-i) ((0,none,0)) ⟨rfl,rfl,trivial⟩ ?_ ?_)))))
 ·exact ⟨Nat.zero_le _,World.ownsRow_nil _ _ _ _,ag.rfl_⟩
 rintro ⟨i,A4,c4⟩ ρ2 w2 ⟨hi,ho,hB⟩;refine af (ab (aa (cl rfl rfl) (ah (ae (af (BM rfl (fun Q3=>?_) (fun Q3=>?_)))))))
 ·obtain ⟨bp,op,rfl,hcd⟩:=(kY h.row).2 (by omega);have hil:i<fs.length:=by omega
  have hce:=hcd i hil;refine aE (ae (af (aP (af (ab (aa (bf bK rfl rfl (by omega)) (aa (aG (cs:=[_,_,_]) iT ff rfl (by exact dU hB hce)) ?_)))))));refine aZ kS ?_;intro b6 w4 E6 hb6 hk6;have hg6:w.heap.size≤b6:=by rw [hb6];exact (hB).size
  refine aV (vs:=[_,_,_]) ff rfl rfl (by simp [Value.oneCell']) (hk6) rfl ?_;intro w5 O6 P6;have ho6:=ho.kept_from (E6.only O6 (by rw [hb6];exact Nat.le_refl _));refine ah (ae (ab (mvs rfl (aa (ai gf rfl) (aa (ao bY rfl (by exact (P6.from_ ag.rfl_).rd 0 rfl)) ?_)))));refine j5 (v:=.string _) de rfl rfl rfl ?_;intro b23 w6 E23 hb23 hk23;refine wP (a0:=w) de rfl rfl ((ho6.kept_from (ag.rfl_.next E23))) (((hB.next E6).only O6 (hg6)).next E23) rfl hk23 rfl (by omega) (by omega) ?_;intro A24 c24 w7 ho24 B24 hg24;refine ass rfl (ah (bI (ae (ab (aa (cf (b:=1) rfl rfl (by omega)) (mvi rfl (ah ?_)))))));refine bW ((i+1,A24,c24)) ⟨(by first | rfl | (refine bD ?_;omega)),(by first | rfl | (refine bD ?_;omega)),trivial⟩ (by (iterate 24 refine bg rfl ?_);exact bw) ⟨?_,?_⟩
  ·exact ⟨by omega,by rw [List.take_succ_eq_append_getElem hil,List.map_append];exact ho24,B24⟩
  ·show fs.length-(i+1)<fs.length-i;omega
 refine cx (bc (bc (bX (ae (af (ab (mvs rfl (ass rfl (asi rfl (ah (ae (aC (gj (v:=.slice _ _ _) (v':=.int _ _) rfl rfl rfl ?_)))))))))))));have hof:off=false:=by first | assumption | simp_all
 obtain rfl:i=fs.length:=by omega
 rw [List.take_length] at ho;rw [hof];exact ⟨⟨A4,c4,fs.length,rfl,(aR fs).symm,by have e:(aS fs).map (fun e=>Value.string e.1)=fs.map fun f=>Value.string f.nm:=List.map_map;rw [if_neg (by decide),e];exact ho⟩,hB⟩
end Go.Proofs.YtaohnmneccbljaaGreatDoor
namespace Go.Proofs.YtaohnmneccbljaaGreatDoor
open Go.Proofs.Tryz (prog)
open Go.RowKit Go.ChangeShapes Go.WideShapes Go.ChangeAt
section
variable {P:Program} {ρ:Operand→Value} {w:World}
theorem sW {s x:Operand} {t e size by_ m cap j c2 base:Nat} {A A2:Option Addr} {z:Value} {olds news:List Value} (hq:eU P t=some (e,size,by_,z)) (hzs:z.cells.size=size)
 (hs:ρ s=.slice A m cap) (hx:ρ x=.slice A2 j c2) (hol:olds.length=m*size) (hold:0<olds.length→∃ b o,A=some ⟨b,o,none⟩∧w.rangeAt b o olds) (hl:news.length=j*size) (hsrc:∃ b o,A2=some ⟨b,o,none⟩∧w.rangeAt b o news) (h1:∀ u∈news,u.oneCell'=true)
 (hg:cap<m+j) (h63:m+j≤maxLen) (hby:(m+j)*by_≤140737488355328) (hB:base≤w.heap.size) :
 ∃ c' w',RO P ρ (.call { callee:=.builtin .append,args:=#[s,x],argTypes:=#[t,t] }) w (.slice (some ⟨w.heap.size,0,none⟩) (m+j) c') w'∧ag w w'∧w'.ownsRow base e size (.slice (some ⟨w.heap.size,0,none⟩) (m+j) c') (m+j) (olds++news):=by
 obtain ⟨i,hu,hi,hsz,hb,hz⟩:=jd hq;subst hsz;subst hb;obtain ⟨b2,o2,rfl,hr2⟩:=hsrc
 have hld:(Builtin.firstCells i.size m (.slice A m cap)).run P w.drew=.ok olds.toArray w.drew:=by
  have:=j8 (P:=P) (w:=w.drew) (n:=m*i.size) hol (fun h=>let ⟨b,o,h1,h2⟩:=hold h;⟨b,o,h1,fun j v hv=>h2 j v hv⟩);cases A <;> exact this
 have hnx:Builtin.nextslicecap (m+j) cap*i.bytes≤281474976710656:=growslice_fits hg hby;have hS:Src P i.size t (.slice (some ⟨b2,o2,none⟩) j c2) j news w:=Src.ofSlice w hu ⟨b2,o2,none⟩ j c2 news hl (fun k v hk=>by rw [Go.WideShapes.add_plain];exact hr2 k v hk) h1;have hrun:=fun ty=>run_append_grow_src (P:=P) w t t ty e i z hu hi hz A m cap olds hld (.slice (some ⟨b2,o2,none⟩) j c2) j news hS hg (by unfold maxLen at h63;omega) hnx
 have hcge:=grownCap_ge w (m+j) cap e;have hcle:=grownCap_le_maxLen w (m+j) cap e h63
 generalize grownCap w (m+j) cap e=c' at hrun hcge hcle
 have hlen:(olds++news).length=(m+j)*i.size:=by rw [List.length_append,hol,hl,Nat.add_mul]
 refine ⟨c',w.drew.alloc (.cells ((olds++news).toArray++Builtin.zeroCells z.cells (c'-(m+j))) e),fun dst ty pos after gg=>?_,ag.rfl_.d1.new _,⟨hlen,.inr ⟨w.heap.size,c',_,rfl,hB,Blk.new w.drew e _,hcge,hcle,?_,?_⟩⟩⟩
 ·unfold execOp;simp only [resolve,invoke,builtin,Sem.run_bind,Sem.run_pure,Result.andThen_ok,List.map_toArray,List.map_cons,List.map_nil,hs,hx,hrun]
 ·simp only [Array.size_append,size_zeroCells,hzs,List.size_toArray,hlen,←Nat.add_mul]
  congr 1
  omega
 ·rw [Array.toList_append];show (olds++news++_).take _=_;rw [List.take_append_of_le_length (by omega),List.take_of_length_le (by omega)]
theorem sX {s x:Operand} {t e size by_ m cap c2:Nat} {A A2:Option Addr} {z:Value} (hq:eU P t=some (e,size,by_,z)) (hs:ρ s=.slice A m cap) (hx:ρ x=.slice A2 0 c2) (hle:m≤cap) :
 RO P ρ (.call { callee:=.builtin .append,args:=#[s,x],argTypes:=#[t,t] }) w (.slice A m cap) w:=fun dst ty pos after gg=>by
 obtain ⟨i,hu,hi,hsz,hb,hz⟩:=jd hq
 have hS:Src P i.size t (.slice A2 0 c2) 0 [] w:=by
  cases A2 with
  |none=>exact Src.ofNil w hu c2
  |some a=>exact Src.ofSlice w hu a 0 c2 [] (by simp) (fun k v hk=>by simp at hk) (fun u hu=>by cases hu)
 have hrun:=run_append_nothing (P:=P) w t t ty e i hu hi A m cap hle _ hS;unfold execOp;simp only [resolve,invoke,builtin,Sem.run_bind,Sem.run_pure,Result.andThen_ok,List.map_toArray,List.map_cons,List.map_nil,hs,hx,hrun]
end
theorem vZ {ρ : Operand → Value} {s x : Operand} {w : World} {f : Fl} {A2 : Option Addr} {c2 : Nat} {bs : List Nat} (hF : gq w f) (hs : ρ s = .slice f.vA f.vs.length f.vc) (hx : ρ x = .slice A2 bs.length c2) (hb : RB w A2 c2 bs) (hl : f.vs.length + bs.length ≤ 1000000000) :
    ∃ (f' : Fl) (w2 : World), RO prog ρ (.call { callee := .builtin .append, args := #[s, x], argTypes := #[ 91, 91 ] }) w (.slice f'.vA f'.vs.length f'.vc) w2 ∧ f'.nm = f.nm ∧ f'.vs = f.vs ++ bs ∧ f'.ds = f.ds ∧ f'.dA = f.dA ∧ f'.dc = f.dc ∧
      Chg (fun k => f.own = true ∧ f.vA.map (·.block) = some k) w w2 ∧ gq w2 f' ∧ (∀ k, f'.B k → f.B k ∨ w.heap.size ≤ k) ∧ (f'.own = true → ∀ k, f'.vA.map (·.block) = some k → (f.own = true ∧ f.vA.map (·.block) = some k) ∨ w.heap.size ≤ k) := by
  have hq : eU prog 91 = some (5, 1, 1, (.int .u8 0)) := by kernel_rfl
  have hb9 : ∀ b ∈ f.vs ++ bs, b < 256 := fun b h => (List.mem_append.1 h).elim (hF.v.bt b) (hb.bt b)
  rcases Nat.eq_zero_or_pos bs.length with h0 | h0
  · have e0 : bs = [] := List.eq_nil_of_length_eq_zero h0
    subst e0
    exact ⟨f, w, sX hq hs hx hF.v.le, rfl, (List.append_nil _).symm, rfl, rfl, rfl, Chg.rfl_, hF, fun k hk => .inl hk, fun ho k hk => .inl ⟨ho, hk⟩⟩
  obtain ⟨b2, o2, hA2, hr2⟩ := hb.at_ h0
  rcases Nat.lt_or_ge f.vc (f.vs.length + bs.length) with hg | hg
  ·
    obtain ⟨c', w2, hR, hFr, ho⟩ := sW (base := 0) (olds := aK f.vs) (news := aK bs) hq rfl hs hx (by rw [aJ, Nat.mul_one]) (fun h => hF.v.at_ (by rwa [aJ] at h)) (by rw [aJ, Nat.mul_one]) ⟨b2, o2, hA2, hr2⟩ (dP bs) hg (by unfold maxLen; omega) (by omega) (Nat.zero_le _)
    rw [← du] at ho
    have hlen : (f.vs ++ bs).length = f.vs.length + bs.length := List.length_append
    refine ⟨⟨f.nm, some ⟨w.heap.size, 0, none⟩, c', f.dA, f.dc, f.vs ++ bs, f.ds, true⟩, w2, ?_, rfl, rfl, rfl, rfl, rfl, hFr.toChg, ⟨(RB.own ho hb9).2, hF.d.from_ hFr, TyB.own ho, hF.dt.from_ hFr, fun _ => ⟨?_, .inl ?_⟩, fun h => by cases h⟩, fun k hk => ?_, fun _ k hk => ?_⟩
    · show RO _ _ _ _ (.slice _ (f.vs ++ bs).length _) _
      rw [hlen]; exact hR
    · show w2.ownsRow 0 _ 1 (.slice _ (f.vs ++ bs).length _) (f.vs ++ bs).length _
      rw [hlen]; exact ho
    · intro p hp q hq e
      have h1 : w.heap.size = p := by cases hp; rfl
      have := hF.dt.lt q hq
      omega
    · rcases hk with hk | hk
      · exact .inr (by have h1 : w.heap.size = k := by cases hk; rfl
                       omega)
      · exact .inl (.inr hk)
    · exact .inr (by have h1 : w.heap.size = k := by cases hk; rfl
                     omega)
  ·
    have hown : f.own = true := by
      rcases Bool.eq_false_or_eq_true f.own with h | h
      · exact h
      · have := (hF.n h).2; omega
    obtain ⟨ho, hd⟩ := hF.o hown
    rcases ho.2 with ⟨h1, h2⟩ | ⟨g, cap, cur, h1, _, h3, h4, h5, h6, h7⟩
    · simp only [Value.slice.injEq] at h1
      omega
    · simp only [Value.slice.injEq, true_and] at h1
      obtain ⟨hvA, hvc⟩ := h1
      have hcl : cur.toList.length = f.vc := by rw [Array.length_toList, h6, hvc, Nat.mul_one]
      obtain ⟨w2, hR, hO, hP⟩ := nD (g := g) (cur := cur.toList) (news := aK bs) (e := 5) (size := 1) (by kernel_rfl) (hvA ▸ hs) hx (by rw [aJ, Nat.mul_one]) (fun _ => ⟨b2, o2, hA2, hr2⟩) (by simpa [Blk] using h3) (dP bs) hg (by rw [aJ]; omega)
      have hlen : (f.vs ++ bs).length = f.vs.length + bs.length := List.length_append
      have ho2 : w2.ownsRow 0 5 1 (.slice (some ⟨g, 0, none⟩) (f.vs ++ bs).length f.vc) (f.vs ++ bs).length (aK (f.vs ++ bs)) := by
        rw [hlen]
        refine nI (Nat.zero_le _) hP hg (by rw [hvc]; exact h5) ?_ ?_
        · rw [cZ _ _ _ (by rw [aJ]; omega), hcl, Nat.mul_one]
        · rw [du, Nat.mul_one, Nat.mul_one]
          rw [Nat.mul_one] at h7
          unfold over
          rw [h7, List.append_assoc, ← List.append_assoc, List.take_append_of_le_length (by rw [List.length_append, aJ, aJ]; omega), List.take_of_length_le (by rw [List.length_append, aJ, aJ]; omega)]
      have hC : Chg (fun k => f.own = true ∧ f.vA.map (·.block) = some k) w w2 := hO.toChg ⟨hown, by rw [hvA]; rfl⟩
      have hv2 := (RB.own ho2 hb9).2
      refine ⟨⟨f.nm, some ⟨g, 0, none⟩, f.vc, f.dA, f.dc, f.vs ++ bs, f.ds, true⟩, w2, ?_, rfl, rfl, rfl, rfl, rfl, hC, ⟨hv2, ?_, TyB.own ho2, ?_, fun _ => ⟨ho2, ?_⟩, fun h => by cases h⟩, fun k hk => .inl ?_, fun _ k hk => .inl ⟨hown, by rw [hvA]; exact hk⟩⟩
      · show RO _ _ _ _ (.slice _ (f.vs ++ bs).length _) _
        rw [hlen]; exact hR
      · show RB w2 f.dA f.dc f.ds
        rcases hd with hd | ⟨hd, r, hr⟩
        · exact hF.d.chg hC fun q hq hv => hd q hv.2 q hq rfl
        · rw [hd, hvA]
          rw [hr, List.append_assoc] at hv2
          exact hv2.pre.cap hF.d.le hF.d.mx
      · show TyB w2 f.dA
        rcases hd with hd | ⟨hd, r, hr⟩
        · exact hF.dt.chg hC fun q hq hv => hd q hv.2 q hq rfl
        · rw [hd, hvA]; exact TyB.own ho2
      · rcases hd with hd | ⟨hd, r, hr⟩
        · exact .inl (by rw [hvA] at hd; exact hd)
        · exact .inr ⟨by show f.dA = _; rw [hd, hvA], r ++ bs, by show f.vs ++ bs = _; rw [hr, List.append_assoc]⟩
      · rcases hk with hk | hk
        · exact .inl (by rw [hvA]; exact hk)
        · exact .inr hk
section
variable {w w':World} {d:Nat} {fs:List Fl} {Ap:Option Addr} {cp:Nat} {ca:Int} {fu:Nat} {off:Bool}
theorem DkH.put (h:DkH w d fs Ap cp ca fu off) {i:Nat} (hi:i<fs.length) {f':Fl} (c:Chg (fun k=>Ap.map (·.block)=some k∨(fs[i].own=true∧fs[i].vA.map (·.block)=some k)) w w')
 (hr:w'.ownsRow 0 99 3 (.slice Ap fs.length cp) fs.length ((fs.set i f').flatMap flV)) (hf:gq w' f') (hB:∀ k,f'.B k→fs[i].B k∨w.heap.size≤k) (hO:f'.own=true→∀ k,f'.vA.map (·.block)=some k→(fs[i].own=true∧fs[i].vA.map (·.block)=some k)∨w.heap.size≤k):DkH w' d (fs.set i f') Ap cp ca fu off:=by
 have hset:∀ g∈fs.set i f',(∃ j,∃ hj:j<fs.length,j≠i∧g=fs[j])∨g=f':=fun g hg=>by
  obtain ⟨j,hj,rfl⟩:=List.getElem_of_mem hg;rw [List.length_set] at hj;rw [List.getElem_set];by_cases e:i=j
  ·exact .inr (by rw [if_pos e])
  ·exact .inl ⟨j,hj,fun e2=>e e2.symm,by rw [if_neg e]⟩
 have hsep:∀ j (hj:j<fs.length),j≠i→Sep fs[j] fs[i]:=fun j hj hne=>by
  rcases Nat.lt_or_gt_of_ne hne with e | e
  ·exact List.pairwise_iff_getElem.1 h.ap j i hj hi e
  ·exact (List.pairwise_iff_getElem.1 h.ap i j hi hj e).symm
 have hsep2:∀ j (hj:j<fs.length),j≠i→Sep fs[j] f':=fun j hj hne=>by
  refine ⟨fun ho k hk hb=>?_,fun ho k hk hb=>?_⟩
  ·rcases hB k hb with e | e
   ·exact (hsep j hj hne).1 ho k hk e
   ·have:=(h.ok _ (List.getElem_mem hj)).lt (k:=k) (.inl hk);omega
  ·rcases hO ho k hk with e | e
   ·exact (hsep j hj hne).2 e.1 k e.2 hb
   ·have:=(h.ok _ (List.getElem_mem hj)).lt hb;omega
 refine ⟨?_,by rw [List.length_set];exact hr,fun g hg=>?_,?_⟩
 ·rw [List.length_set];refine h.blk.chg c fun hv=>?_
  rcases hv with e | e
  ·exact dX h.row h.blk (by decide) d e rfl
  ·exact h.bd (List.getElem_mem hi) (.inl e.2) rfl
 ·rcases hset g hg with ⟨j,hj,hne,rfl⟩ | rfl
  ·refine (h.ok _ (List.getElem_mem hj)).chg c fun k hk hv=>?_
   rcases hv with e | e
   ·exact h.bp (List.getElem_mem hj) hk e
   ·exact (hsep j hj hne).2 e.1 k e.2 hk
  ·exact hf
 ·rw [List.pairwise_iff_getElem];intro a b ha hb hab;rw [List.length_set] at ha hb;rw [List.getElem_set,List.getElem_set];by_cases ea:i=a
  ·subst ea;rw [if_pos rfl,if_neg (by omega)];exact (hsep2 b hb (by omega)).symm
  ·rw [if_neg ea];by_cases eb:i=b
   ·subst eb;rw [if_pos rfl];exact hsep2 a ha (by omega)
   ·rw [if_neg eb];exact List.pairwise_iff_getElem.1 h.ap a b ha hb hab
theorem lB {fs:List Fl} {i:Nat} {f':Fl}:aS (fs.set i f')=(aS fs).set i f'.abs:=List.map_set
def Nx (U:Nat→Prop) (w w':World) (k:Nat):Prop:=U k∨(w.heap.size≤k∧k<w'.heap.size)
end
end Go.Proofs.YtaohnmneccbljaaGreatDoor
namespace Go.Proofs.YtaohnmneccbljaaGreatDoor
open Go.Proofs.Tryz (prog)
open Go.RowKit
open Go.ChangeShapes Go.WideShapes Go.ChangeAt
theorem eA:eU prog 88=some (99,3,64,(.agg #[.string ⟨#[]⟩,.slice none 0 0,.slice none 0 0])):=by kernel_rfl
theorem sv:aH prog 107=true:=by kernel_rfl
theorem hH:cS prog 88=some 1:=by kernel_rfl
theorem kQ:cS prog 91=some 1:=by kernel_rfl
theorem kR:aH prog 79=true:=by kernel_rfl
theorem fx:ch prog 97 1=some 1:=by kernel_rfl
theorem B3 {fs:List Fl} {i:Nat}:(fs.flatMap flV).take (i*3)++(fs.flatMap flV).drop ((i+1)*3)=(fs.take i++fs.drop (i+1)).flatMap flV:=by rw [List.flatMap_append,l6 gy,kd gy]
theorem Ax {fs:List Fl} {i:Nat} (x:Fl):(fs.flatMap flV).take (i*3)++flV x++(fs.flatMap flV).drop (i*3)=(fs.take i++x::fs.drop i).flatMap flV:=by rw [List.flatMap_append,List.flatMap_cons,l6 gy,kd gy,List.append_assoc]
theorem BH {fs:List Fl} {i:Nat} (hi:i<fs.length):(fs.take i++fs.drop (i+1)).length=fs.length-(i+1-i):=by rw [List.length_append,List.length_take,List.length_drop];omega
theorem zG {fs:List Fl} {i:Nat} (hi:i≤fs.length) (x:Fl):(fs.take i++x::fs.drop i).length=fs.length+1:=by rw [List.length_append,List.length_cons,List.length_take,List.length_drop];omega
theorem qv {α:Type} (l:List α) (i:Nat):(l.take i++l.drop (i+1)).Sublist l:=by
 rw [←List.eraseIdx_eq_take_drop_succ];exact List.eraseIdx_sublist ..
theorem yC (fs:List Fl) (i:Nat):aS (fs.take i++fs.drop (i+1))=(aS fs).take i++(aS fs).drop (i+1):=by unfold aS;rw [List.map_append,List.map_take,List.map_drop]
theorem r7 (fs:List Fl) (i:Nat) (x:Fl):aS (fs.take i++x::fs.drop i)=(aS fs).take i++x.abs::(aS fs).drop i:=by unfold aS;rw [List.map_append,List.map_cons,List.map_take,List.map_drop]
theorem gq.from_ {w w':World} {f:Fl} (h:gq w f) (hF:ag w w'):gq w' f:=h.chg (V:=fun _=>False) hF.toChg fun _ _ h=>h
def opE (D:List Fe) (ok:Bool) (fu:Nat) (off:Bool) (nm:ByteArray):Int:=if bE ok fu off≠0 then bE ok fu off else if gv D nm then 0 else 3
section
variable {U:Nat→Prop} {w w':World} {d:Nat} {fs fs':List Fl} {Ap Ap':Option Addr} {cp cp':Nat} {ca ca':Int} {fu fu':Nat} {off off':Bool} {nm:ByteArray} {i:Nat} {fd:Bool}
theorem dJ (hU:∀ k,lM d Ap fs k→U k) (h:DkH w' d fs' Ap' cp' ca' fu' off') (hok:DOk (aS fs')) (hfu:fu'≤9223372036854775807) (hf:∀ k,lM d Ap' fs' k→lM d Ap fs k∨w.heap.size≤k):cP w' (Nx U w w') d (aS fs') fu' off':=
 ⟨fs',Ap',cp',ca',h,rfl,hok,hfu,fun k hk=>(hf k hk).elim (fun e=>.inl (hU k e)) fun e=>.inr ⟨e,h.lt hk⟩⟩
theorem c_ (h:fu≤9223372036854775807) (ok:Bool):fuB ok fu≤9223372036854775807:=by unfold fuB;split <;> omega
theorem ru (h:DkH w d fs Ap cp ca fu off) (hs:KS (aS fs)) (hl:fs.length≤16) (hfu0:fu≤9223372036854775807) (hn:nm.size≤140737488351232) {b:Nat} (hb:Blk w b 9 #[.string nm]) (hbd:b≠d):Rt prog 79 [.pointer (some ⟨d,0,none⟩),.slice (some ⟨b,0,none⟩) 1 1] w fun v w'=>
 ((bE (okN nm) fu off≠0∧v=.tuple #[.pointer none,.int .i64 (bE (okN nm) fu off)])∨(bE (okN nm) fu off=0∧∃ i fd,Fnd fs nm i fd∧((fd=false∧v=.tuple #[.pointer none,.int .i64 3])∨(fd=true∧∃ g,Ap=some ⟨g,0,none⟩∧v=.tuple #[.pointer (some ⟨g,i*3,none⟩),.int .i64 0]))))∧(∃ ca',DkH w' d fs Ap cp ca' (fuB (okN nm) fu) (kk (okN nm) fu off))∧Chg (fun k=>k=d) w w':=
 (ur d fs Ap cp ca fu off w h hs hl hfu0 (some ⟨b,0,none⟩) 1 1 [nm] (mn hb) rfl (by omega) (fun s hs=>by rw [List.mem_singleton.1 hs];exact hn) (Nat.zero_lt_succ _) (fun q hq=>by cases hq;exact hbd)).mono fun v w' h=>by
  have e:[nm].all okN=okN nm:=by simp
  rw [e] at h;exact h
theorem xr {n2:ByteArray} (h:DkH w d fs Ap cp ca fu off) (hs:KS (aS fs)) (hl:fs.length≤16) (hfu0:fu≤9223372036854775807) (hn:nm.size≤140737488351232) (hn2:n2.size≤140737488351232) {b:Nat} (hb:Blk w b 9 #[.string nm,.string n2]) (hbd:b≠d):Rt prog 79 [.pointer (some ⟨d,0,none⟩),.slice (some ⟨b,0,none⟩) 2 2] w fun v w'=>
 ((bE (okN nm&&okN n2) fu off≠0∧v=.tuple #[.pointer none,.int .i64 (bE (okN nm&&okN n2) fu off)])∨(bE (okN nm&&okN n2) fu off=0∧∃ i fd,Fnd fs nm i fd∧((fd=false∧v=.tuple #[.pointer none,.int .i64 3])∨(fd=true∧∃ g,Ap=some ⟨g,0,none⟩∧v=.tuple #[.pointer (some ⟨g,i*3,none⟩),.int .i64 0]))))∧(∃ ca',DkH w' d fs Ap cp ca' (fuB (okN nm&&okN n2) fu) (kk (okN nm&&okN n2) fu off))∧Chg (fun k=>k=d) w w':=
 (ur d fs Ap cp ca fu off w h hs hl hfu0 (some ⟨b,0,none⟩) 2 2 [nm,n2] (By hb) rfl (by omega) (fun s hs=>by
  rcases List.mem_cons.1 hs with rfl | hs
  ·exact hn
  ·rw [List.mem_singleton.1 hs];exact hn2) (Nat.zero_lt_succ _) (fun q hq=>by cases hq;exact hbd)).mono fun v w' h=>by
  have e:[nm,n2].all okN=(okN nm&&okN n2):=by simp
  rw [e] at h;exact h
theorem vW (h:DkH w d fs Ap cp ca fu off) (hs:KS (aS fs)) (hl:fs.length≤16) (hfu0:fu≤9223372036854775807) (hn:nm.size≤140737488351232) {b:Nat} (hb:Blk w b 9 #[.string nm]):Rt prog 97 [.pointer (some ⟨d,0,none⟩),.slice (some ⟨b,0,none⟩) 1 1] w fun v w'=>
 v=.int .i64 (bE (okN nm) fu off)∧(∃ ca',DkH w' d fs Ap cp ca' (fuB (okN nm) fu) (kk (okN nm) fu off))∧Chg (fun k=>k=d) w w':=
 (rZ d fs Ap cp ca fu off w h hs hl hfu0 (some ⟨b,0,none⟩) 1 1 [nm] (mn hb) rfl (by omega) (fun s hs=>by rw [List.mem_singleton.1 hs];exact hn)).mono fun v w' h=>by
  have e:[nm].all okN=okN nm:=by simp
  rw [e] at h;exact h
theorem DOk.set (h:DOk (aS fs)) (hs:KS (aS fs)) (hi:i<fs.length) (f':Fl) (hn:f'.nm=fs[i].nm) (hv:f'.vs.length≤1048576) (hd:f'.ds.length≤1048576):DOk (aS (fs.set i f')):=by
 have hia:i<(aS fs).length:=by rw [aR];exact hi
 refine ⟨?_,by rw [aR,List.length_set,←aR];exact h.2.1,fun e he=>?_⟩
 ·rw [lB]
  have e1:(aS fs).set i f'.abs=(aS fs).map fun e=>if e.1=fs[i].nm then f'.abs else e:=by
   rw [s9 hs hia (id:=fs[i].nm) (by rw [bP];rfl) (fun _=>f'.abs)]
  rw [e1]
  exact hs.map fun e=>by
   split
   ·rename_i h9;rw [h9];exact hn
   ·rfl
 ·rw [lB] at he;rcases List.mem_or_eq_of_mem_set he with he | he
  ·exact h.2.2 e he
  ·rw [he];exact ⟨hv,hd⟩
end
theorem nV (base:Nat) (A:Option Addr) (c n i m b vo vc:Nat) (xs vs:List Value) (tv:TypeId) (csv:Array Value) (w:World) (ho:w.ownsRow base 99 3 (.slice A n c) n xs) (hbs:base≤w.heap.size) (hi:i≤n) (hm:0<m) (hvl:vs.length=m*3) (hvr:w.rangeAt b vo vs) (hvb:Blk w b tv csv) (hne:∀ k,A.map (·.block)=some k→k≠b) (h1:∀ u∈xs,u.oneCell'=true) (h1v:∀ u∈vs,u.oneCell'=true) (hl:n+m≤100000000000) :
 Rt prog 98 [.slice A n c,.int .i64 (i:Nat),.slice (some ⟨b,vo,none⟩) m vc] w (fun v w'=>(∃ A' c',v=.slice A' (n+m) c'∧w'.ownsRow base 99 3 (.slice A' (n+m) c') (n+m) (xs.take (i*3)++vs++xs.drop (i*3))∧∀ q,A'.map (·.block)=some q→A.map (·.block)=some q∨w.heap.size≤q)∧w.grownBy w' (A.map (·.block))):=by
 have hxl:xs.length=n*3:=ho.1;have hdl:(xs.drop (i*3)).length=(n-i)*3:=by rw [List.length_drop,hxl];omega
 have hcap:=zn ho;refine enter (n:=95) Tryz.func98 rfl rfl rfl (af (ab (ass rfl (ah (ae (af (ab (mvs rfl (mvi rfl (aa (bk (l:=i) (h:=n) bK rfl (.inr ⟨_,_,_,rfl,rfl,rfl⟩) (.inl ⟨rfl,rfl⟩) (by omega) (by omega)) (ah (ae (af (ab (mvs rfl ?_)))))))))))))));refine aa (bb eH rfl) (asi rfl (ah (ae (af (af (ab (mvi rfl (aa (a7 rfl rfl) (ah (ae (BL rfl (fun Q1=>?_) (fun Q1=>?_))))))))))))
 ·exfalso;omega
 refine aE (ae (af (ab (mvs rfl (aa (bb eH rfl) (asi rfl (ah (ae (af (af (ab (mvi rfl (mvi rfl (aa (a7 rfl rfl) (ah (ae ?_))))))))))))))));refine BL rfl (fun Q2=>?_) (fun Q2=>?_)
 ·obtain rfl:i=n:=by omega
  refine af (ab (mvs rfl (mvs rfl ?_)));have hs25:=Nat.le_refl (w).heap.size;refine sK eA rfl (by decide) rfl ho hbs rfl hvl ⟨b,vo,rfl,hvr⟩ h1v (by omega) (by omega) ?_;intro A25 c25 w3 ho25 hg25 hL25;refine ass rfl (ah (ae (aC (aF (bz (v:=.slice _ _ _) rfl rfl ?_)))));exact ⟨⟨A25,c25,rfl,by rw [List.take_of_length_le (by omega),List.drop_of_length_le (by omega),List.append_nil];exact ho25,fun q hq=>hL25.elim (fun e=>.inl (e ▸ hq)) (fun e=>.inr (by rw [e] at hq;cases hq;exact hs25))⟩,hg25⟩
 obtain ⟨g,cur,rfl,hg,hbk,hnc,hcm,hcl,hct⟩:=ka ho (by omega);have hgb:g≠b:=hne g rfl;have hbz:w.grownBy w (some g):=World.grownBy.refl _ _;refine aE (ae (af (af (ab (mvi rfl (mvi rfl (aa (cf rfl rfl (by omega)) (mvs rfl (aa (AN eH rfl) (aa (cn rfl rfl) (ah (ae (BM rfl (fun Q4=>?_) (fun Q4=>?_))))))))))))))
 ·refine af (ab (mvs rfl (mvi rfl (aa (bH (v':=.slice (some ⟨g,0,none⟩) i c) (bk (l:=0) (h:=i) bK rfl (.inl ⟨rfl,rfl⟩) (.inr ⟨_,_,_,rfl,rfl,rfl⟩) (by omega) (by omega)) (by rw [ep,Nat.sub_zero,Nat.sub_zero])) ?_))));refine mvi rfl (mvi rfl (aa (cf rfl rfl (by omega)) (mvi rfl (aa (kZ rfl rfl (by omega)) (sH (kn:=.i64) (olds:=xs.take (i*3)) eA (by kernel_rfl) rfl (by decide) rfl rfl (by rw [List.length_take,hxl];omega) (fun _=>⟨g,0,rfl,ny hbk hct⟩) (by omega) (by omega) (by unfold maxLen;omega) (by omega) (by omega) ?_)))));intro g2 c2 w5 cur2 hg2 E40 hb2 hc2 hc2m hcl2 hct2;obtain hc2:n+m≤c2:=by omega
  replace hbz:=dw hbz (ag.grown E40 _);replace hbk:=hbk.from_ E40;have hgg:g≠g2:=by have:=ho.lt g rfl;omega
  have hvr2:=dU E40 hvr;have hbg2:b≠g2:=by have:=hvb.lt;omega
  refine ass rfl (ah (ae (af (ab (mvs rfl (mvi rfl (aa (bk (l:=i) (h:=i+(n+m-i)) bK rfl (.inr ⟨_,_,_,rfl,rfl,rfl⟩) (.inl ⟨rfl,rfl⟩) (by omega) (by omega)) (mvs rfl (gP (news:=vs) (g:=g2) (o:=i*3) bK rfl rfl (by rw [hvl];congr 1;omega) (fun h=>by rw [bT (by omega),Nat.zero_add]) (fun h=>⟨b,vo,rfl,hvr2⟩) hb2 (by rw [hvl,hcl2];omega) h1v ?_)))))))));intro w6 O45 P45;replace hbz:=pA hbz O45 (by have:=hbk.lt;have:=ho.lt g rfl;omega);replace hbk:=hbk.only O45 hgg;refine ah (ae (af ?_));apply bO 8 [(46,eqp _),(47,eqp _),(48,eqp _),(49,eqp _),(50,eqp _),(51,eqp _),(52,eqp _),(53,eqp _)] (by repeat first | exact cr | refine cq ?_ | refine bU ?_) (by kernel_rfl) (by kernel_rfl) ⟨aj _,aj _,aj _,aj _,aj _,aj _,aj _,aj _,trivial⟩
  case hop=>
   constructor
   ·rintro-w8 D8;exact an (aB (v:=.slice _ _ _) rfl) rfl
   constructor
   ·rintro-w9 D9;exact an (aB (v:=.int _ _) rfl) rfl
   constructor
   ·rintro-w10 D10;exact an (aB (v:=.int _ _) rfl) rfl
   constructor
   ·rintro-w11 D11;rintro _ rfl _ rfl;exact an (cf rfl rfl (by omega)) rfl
   constructor
   ·rintro-w12 D12;rintro _ rfl _ rfl;exact an (bk (l:=i+m) (h:=i+(n+m-i)) bK rfl (.inr ⟨_,_,_,rfl,rfl,rfl⟩) (.inl ⟨rfl,rfl⟩) (by omega) (by omega)) rfl
   constructor
   ·rintro-w13 D13;exact an (aB (v:=.slice _ _ _) rfl) rfl
   constructor
   ·rintro-w14 D14;exact an (aB (v:=.int _ _) rfl) rfl
   constructor
   ·rintro-w15 D15;rintro _ rfl _ rfl;exact an (bk (l:=i) (h:=n) bK rfl (.inr ⟨_,_,_,rfl,rfl,rfl⟩) (.inl ⟨rfl,rfl⟩) (by omega) (by omega)) rfl
   exact trivial
  case hend=>
   intro w16 D16;rintro _ rfl _ rfl _ rfl _ rfl _ rfl _ rfl _ rfl _ rfl;show St ..;replace hbz:=dw hbz (ag.grown D16 _);replace hbk:=hbk.from_ D16;replace P45:=P45.from_ D16;refine gP (news:=xs.drop (i*3)) (g:=g2) (o:=(i+m)*3) bK rfl rfl (by rw [hdl];congr 1;omega) (fun h=>by rw [bT (by rw [hdl] at h;omega),Nat.zero_add]) (fun h=>⟨g,i*3,by rw [bT (by omega),Nat.zero_add],nz hbk hct⟩) P45 (by rw [hdl,cZ _ _ _ (by rw [hvl,hcl2];omega),hcl2];omega) (fun v hv=>h1 v (List.mem_of_mem_drop hv)) ?_;intro w17 O54 P54;replace hbz:=pA hbz O54 (by have:=ho.lt g rfl;omega);refine ah (ae (af (ab (mvs rfl (ass rfl (ah (ae (aC (aF (bz (v:=.slice _ _ _) rfl rfl ?_))))))))));have hnm:i+(n+m-i)=n+m:=by omega
   rw [hnm];have hbg:base≤g2:=by omega
   exact ⟨⟨_,_,rfl,nI hbg P54 hc2 hc2m (by rw [cZ _ _ _ (by rw [hdl,cZ _ _ _ (by rw [hvl,hcl2];omega),hcl2];omega),cZ _ _ _ (by rw [hvl,hcl2];omega),hcl2]) (rI hi hc2 hcl2 hxl hct2 hvl).2,fun q hq=>.inr (by cases hq;show w.heap.size≤g2;omega)⟩,hbz⟩
 refine aE (ae (af (ab (mvs rfl (mvi rfl (mvi rfl (aa (cf rfl rfl (by omega)) (aa (bH (v':=.slice (some ⟨g,0,none⟩) (n+m) c) (bk (l:=0) (h:=n+m) bK rfl (.inl ⟨rfl,rfl⟩) (.inr ⟨_,_,_,rfl,rfl,rfl⟩) (by omega) (by omega)) (by rw [ep,Nat.sub_zero,Nat.sub_zero])) ?_))))))));refine ass rfl (ah (ae (af (af (ab (mvs rfl (mvs rfl (mvi rfl (mvi rfl (aa (cf rfl rfl (by omega)) (aa (bk (l:=i+m) (h:=n+m) bK rfl (.inr ⟨_,_,_,rfl,rfl,rfl⟩) (.inl ⟨rfl,rfl⟩) (by omega) (by omega)) ?_)))))))))));refine aa (q_ (tS:=88) (tR:=4) (g1:=b) (o1:=vo) (g2:=g) (o2:=(i+m)*3) Tryz.func111 (by kernel_rfl) (by kernel_rfl) (by kernel_rfl) (by kernel_rfl) bK rfl (by show Value.slice _ _ _=_;rw [bT (by omega),Nat.zero_add]) hgb.symm hvb hbk (by simp only [List.size_toArray,hcl];omega)) ?_;refine aa (cU (bG rfl) rfl) (ah (ae (aY rfl (af ?_))));apply bO 8 [(69,eqp _),(70,eqp _),(71,eqp _),(72,eqp _),(73,eqp _),(74,eqp _),(75,eqp _),(76,eqp _)] (by repeat first | exact cr | refine cq ?_ | refine bU ?_) (by kernel_rfl) (by kernel_rfl) ⟨aj _,aj _,aj _,aj _,aj _,aj _,aj _,aj _,trivial⟩
 case hop=>
  constructor
  ·rintro-w19 D19;exact an (aB (v:=.slice _ _ _) rfl) rfl
  constructor
  ·rintro-w20 D20;exact an (aB (v:=.int _ _) rfl) rfl
  constructor
  ·rintro-w21 D21;exact an (aB (v:=.int _ _) rfl) rfl
  constructor
  ·rintro-w22 D22;rintro _ rfl _ rfl;exact an (cf rfl rfl (by omega)) rfl
  constructor
  ·rintro-w23 D23;rintro _ rfl _ rfl;exact an (bk (l:=i+m) (h:=n+m) bK rfl (.inr ⟨_,_,_,rfl,rfl,rfl⟩) (.inl ⟨rfl,rfl⟩) (by omega) (by omega)) rfl
  constructor
  ·rintro-w24 D24;exact an (aB (v:=.slice _ _ _) rfl) rfl
  constructor
  ·rintro-w25 D25;exact an (aB (v:=.int _ _) rfl) rfl
  constructor
  ·rintro-w26 D26;rintro _ rfl _ rfl;exact an (bk (l:=i) (h:=n+m) bK rfl (.inr ⟨_,_,_,rfl,rfl,rfl⟩) (.inl ⟨rfl,rfl⟩) (by omega) (by omega)) rfl
  exact trivial
 case hend=>
  intro w27 D27;rintro _ rfl _ rfl _ rfl _ rfl _ rfl _ rfl _ rfl _ rfl;show St ..;replace hbz:=dw hbz (ag.grown D27 _);replace hbk:=hbk.from_ D27;have hvr2:=dU D27 hvr;refine gP (news:=xs.drop (i*3)) (g:=g) (o:=(i+m)*3) bK rfl rfl (by rw [hdl];congr 1;omega) (fun h=>by rw [bT (by rw [hdl] at h;omega),Nat.zero_add]) (fun h=>⟨g,i*3,by rw [bT (by omega),Nat.zero_add],nz hbk hct⟩) hbk (by rw [hdl,hcl];omega) (fun v hv=>h1 v (List.mem_of_mem_drop hv)) ?_;intro w28 O77 P77;replace hbz:=dw hbz (cY.grown O77);refine ah (ae (af (ab (mvs rfl (mvi rfl (aa (bk (l:=i) (h:=n+m) bK rfl (.inr ⟨_,_,_,rfl,rfl,rfl⟩) (.inl ⟨rfl,rfl⟩) (by omega) (by omega)) (mvs rfl ?_)))))));refine gP (news:=vs) (g:=g) (o:=i*3) bK rfl rfl (by rw [hvl];congr 1;omega) (fun h=>by rw [bT (by omega),Nat.zero_add]) (fun h=>⟨b,vo,rfl,fun j v hv=>(O77.cell (Ne.symm hgb)).trans (hvr2 j v hv)⟩) P77 (by rw [hvl,cZ _ _ _ (by rw [hdl,hcl];omega),hcl];omega) h1v ?_;intro w29 O82 P82;replace hbz:=dw hbz (cY.grown O82);refine ah (ae (af (ab (mvs rfl (ass rfl (ah (ae (aC (aF (bz (v:=.slice _ _ _) rfl rfl ?_))))))))));have hct3:cur.take (i*3)=xs.take (i*3):=by rw [←hct,List.take_take,Nat.min_eq_left (by omega)]
  exact ⟨⟨_,_,rfl,nI hg P82 (by omega) hcm (by rw [cZ _ _ _ (by rw [hvl,cZ _ _ _ (by rw [hdl,hcl];omega),hcl];omega),cZ _ _ _ (by rw [hdl,hcl];omega),hcl]) (rI hi (by omega) hcl hxl hct3 hvl).1,fun q hq=>.inl hq⟩,hbz⟩
theorem tt (base:Nat) (A:Option Addr) (c n i j:Nat) (xs:List Value) (w:World) (ho:w.ownsRow base 99 3 (.slice A n c) n xs) (hij:i<j) (hj:j≤n) (h1:∀ u∈xs,u.oneCell'=true) (hl:n≤100000000000) :
 Rt prog 107 [.slice A n c,.int .i64 (i:Nat),.int .i64 (j:Nat)] w (fun v w'=>(∃ A' c',v=.slice A' (n-(j-i)) c'∧w'.ownsRow base 99 3 (.slice A' (n-(j-i)) c') (n-(j-i)) (xs.take (i*3)++xs.drop (j*3))∧∀ q,A'.map (·.block)=some q→A.map (·.block)=some q)∧w.grownBy w' (A.map (·.block))):=by
 obtain ⟨g,cur,rfl,hg,hbk,hnc,hcm,hcl,hct⟩:=ka ho (by omega);have hxl:xs.length=n*3:=ho.1;have hdl:(xs.drop (j*3)).length=(n-j)*3:=by rw [List.length_drop,hxl];omega
 have hno:n-(j-i)=i+(n-j):=by omega
 have hbz:w.grownBy w (some g):=World.grownBy.refl _ _;refine enter (n:=33) Tryz.func107 rfl rfl rfl (af (ab (ass rfl (ah (ae (af (ab (mvs rfl (mvi rfl (mvi rfl (mvs rfl (aa (bb eH rfl) ?_))))))))))));refine aa (u5 (l:=i) (h:=j) (mx:=n) bK rfl rfl rfl rfl (by omega) (by omega) (by omega)) (ah (ae (af (af (ab (mvi rfl (mvi rfl (aa (a7 rfl rfl) (ah (ae (BL rfl (fun Q1=>?_) (fun Q1=>?_))))))))))))
 ·exfalso;omega
 refine aE (ae (af (ab (mvs rfl (aa (bb eH rfl) (asi rfl (ah (ae (af ?_)))))))));apply bO 6 [(20,eqp _),(21,eqp _),(22,eqp _),(23,eqp _),(24,eqp _),(25,eqp _)] (by repeat first | exact cr | refine cq ?_ | refine bU ?_) (by kernel_rfl) (by kernel_rfl) ⟨aj _,aj _,aj _,aj _,aj _,aj _,trivial⟩
 case hop=>
  constructor
  ·rintro-w3 D3;exact an (aB (v:=.slice _ _ _) rfl) rfl
  constructor
  ·rintro-w4 D4;exact an (aB (v:=.int _ _) rfl) rfl
  constructor
  ·rintro-w5 D5;rintro _ rfl _ rfl;exact an (bH (v':=.slice (some ⟨g,0,none⟩) i c) (bk (l:=0) (h:=i) bK rfl (.inl ⟨rfl,rfl⟩) (.inr ⟨_,_,_,rfl,rfl,rfl⟩) (by omega) (by omega)) (by rw [ep,Nat.sub_zero,Nat.sub_zero])) rfl
  constructor
  ·rintro-w6 D6;exact an (aB (v:=.slice _ _ _) rfl) rfl
  constructor
  ·rintro-w7 D7;exact an (aB (v:=.int _ _) rfl) rfl
  constructor
  ·rintro-w8 D8;rintro _ rfl _ rfl;exact an (bk (l:=j) (h:=n) bK rfl (.inr ⟨_,_,_,rfl,rfl,rfl⟩) (.inl ⟨rfl,rfl⟩) (by omega) (by omega)) rfl
  exact trivial
 case hend=>
  intro w9 D9;rintro _ rfl _ rfl _ rfl _ rfl _ rfl _ rfl;show St ..;replace hbz:=dw hbz (ag.grown D9 _);replace hbk:=hbk.from_ D9;refine sJ (news:=xs.drop (j*3)) (cur:=cur) bK rfl rfl hdl (fun h=>⟨g,j*3,by rw [bT (by omega),Nat.zero_add],nz hbk hct⟩) hbk (fun v hv=>h1 v (List.mem_of_mem_drop hv)) (by omega) (by rw [hdl,hcl];omega) ?_;intro w10 O26 P26;replace hbz:=dw hbz (cY.grown O26);refine ass rfl (ah (ae (af (ab (mvs rfl (mvs rfl (aa (bb eH rfl) (mvi rfl (aa (bk (l:=i+(n-j)) (h:=n) bK rfl (.inr ⟨_,_,_,rfl,rfl,by omega⟩) (.inr ⟨_,_,_,rfl,rfl,rfl⟩) (by omega) (by omega)) ?_)))))))));refine uY (g:=g) (o:=(i+(n-j))*3) eA rfl rfl (fun h=>by rw [bT (by omega),Nat.zero_add]) P26 (by rw [cZ _ _ _ (by rw [hdl,hcl];omega),hcl];omega) (by decide) ?_;intro w11 zs O6 hzl P6;replace hbz:=dw hbz (cY.grown O6);have hzl2:zs.length=(j-i)*3:=by rw [hzl];congr 1;omega
  refine ah (ae (af (ab (mvs rfl (ass rfl (ah (ae (aC (bz (v:=.slice _ _ _) rfl rfl ?_)))))))));rw [hno];exact ⟨⟨_,_,rfl,nI hg P6 (by omega) hcm (by rw [cZ _ _ _ (by rw [cZ _ _ _ (by rw [hdl,hcl];omega),hzl2,hcl];omega),cZ _ _ _ (by rw [hdl,hcl];omega),hcl]) (yi (by omega) hj hnc hcl hct hzl2),fun q hq=>hq⟩,hbz⟩
theorem da (d:Nat) (fs:List Fl) (Ap:Option Addr) (cp:Nat) (ca:Int) (fu:Nat) (off:Bool) (w:World) (h:DkH w d fs Ap cp ca fu off) (hs:KS (aS fs)) (hl:fs.length≤16) (hfu0:fu≤9223372036854775807) (id:ByteArray) :
 Rt prog 92 [.pointer (some ⟨d,0,none⟩),.string id] w (fun v w'=>v=.tuple #[]∧∃ fs' Ap' cp',DkH w' d fs' Ap' cp' ca fu off∧aS fs'=ic (aS fs) id∧Chg (fun k=>k=d∨Ap.map (·.block)=some k) w w'∧(∀ f,f∈fs'→f∈fs)∧(∀ k,Ap'.map (·.block)=some k→Ap.map (·.block)=some k)):=by
 refine enter (n:=24) Tryz.func92 rfl rfl rfl (af (ab (mvp rfl (mvg rfl (av h_ (lu d fs Ap cp ca fu off _ (h.from_ ag.rfl_) hs hl hfu0 id) ?_)))));rintro v9 w1 ⟨⟨i,fd,rfl,hf⟩,E9⟩;refine mvt rfl (aa (ar rfl rfl) (aa (ar rfl rfl) (asi rfl (asb rfl (ah (ae (af (ab (mvb rfl (ah (ae (aM rfl (fun Q2=>?_) (fun Q2=>?_)))))))))))))
 ·(try with_reducible first | (replace Q2 := dT_ Q2; trace "@MK N da:c12+ 1.1") | (replace Q2 := dF_ Q2; trace "@MK N da:c12+ 1.2") | (replace Q2 := gA Q2; trace "@MK N da:c12+ 1.3") | (replace Q2 := gB Q2; trace "@MK N da:c12+ 1.4"))
  (try with_reducible first | (replace Q2 := dT_ Q2; trace "@MK N da:c12+ 2.1") | (replace Q2 := dF_ Q2; trace "@MK N da:c12+ 2.2") | (replace Q2 := fI Q2; trace "@MK N da:c12+ 2.3") | (replace Q2 := fJ Q2; trace "@MK N da:c12+ 2.4") | (replace Q2 := iz Q2; trace "@MK N da:c12+ 2.5") | (replace Q2 := iA Q2; trace "@MK N da:c12+ 2.6"))
  have hfd:fd=true:=by first | assumption | simp_all
  obtain ⟨hi,hi2⟩:=hf.2.1 hfd;refine ab (mvp rfl (mvp rfl (aa (au rfl) (aa (ai cd rfl) (aa (ao dG rfl (by exact (h.blk.from_ (ag.rfl_.next E9)).rd 0 rfl)) ?_)))));refine mvi rfl (mvi rfl (aa (cf (b:=1) rfl rfl (by omega)) ?_));have hF21:=(ag.rfl_.next E9);refine av sv (tt 0 Ap cp fs.length i (i+1) (fs.flatMap flV) _ (h.row.kept_from (ag.rfl_.next E9)) (by omega) (by omega) (qt _) (by omega)) ?_;rintro v21 w3 ⟨⟨A21,c21,rfl,ho21,hA21⟩,hg21⟩;have hb21:=(h.blk.from_ hF21).grown hg21 (dX (h.row.kept_from hF21) (h.blk.from_ hF21) (by decide));rw [B3] at ho21;refine aa (au rfl) (aa (ai cd rfl) (cT (v:=.slice _ _ _) hH rfl rfl rfl (hb21) (by show 0<4;decide) ?_));intro w4 O2 P2;refine ah (m_ (zf rfl ?_));have hC:Chg (fun k=>k=d∨Ap.map (·.block)=some k) w _:=(hF21.toChg.next (Chg.of_grown hg21 fun k e=>.inr e)).next (O2.toChg (.inl rfl));have hr:=eE ho21 O2 (dX ho21 hb21 (by decide));rw [←BH hi] at hr;refine ⟨rfl,_,A21,c21,h.setR hC (by rw [BH hi];exact P2) hr (fun f hf=>.inl ((qv fs i).subset hf)) (h.ap.sublist (qv fs i)),?_,hC,fun f hf=>(qv fs i).subset hf,hA21⟩;rw [yC,zS hs (i:=i) (by rw [aR];exact hi) (by rw [bP];exact hi2)]
 (try with_reducible first | (replace Q2 := dT_ Q2; trace "@MK N da:c12- 1.1") | (replace Q2 := dF_ Q2; trace "@MK N da:c12- 1.2") | (replace Q2 := gA Q2; trace "@MK N da:c12- 1.3") | (replace Q2 := gB Q2; trace "@MK N da:c12- 1.4"))
 (try with_reducible first | (replace Q2 := dT_ Q2; trace "@MK N da:c12- 2.1") | (replace Q2 := dF_ Q2; trace "@MK N da:c12- 2.2") | (replace Q2 := fI Q2; trace "@MK N da:c12- 2.3") | (replace Q2 := fJ Q2; trace "@MK N da:c12- 2.4") | (replace Q2 := iz Q2; trace "@MK N da:c12- 2.5") | (replace Q2 := iA Q2; trace "@MK N da:c12- 2.6"))
 have hfd:fd=false:=by first | assumption | simp_all
 refine aE (m_ (zf rfl ?_));have hno:gv (aS fs) id=false:=by rw [hf.has hs,hfd]
 exact ⟨rfl,fs,Ap,cp,h.from_ (ag.rfl_.next E9),(zR fun e he h9=>by have:=iM.2 ⟨e,he,h9⟩;rw [hno] at this;cases this).symm,((ag.rfl_.next E9)).toChg,fun f hf=>hf,fun k hk=>hk⟩
def gO (D:List Fe) (fu:Nat) (off:Bool) (nm:ByteArray):List Fe:=if opE D (okN nm) fu off nm=0 then s3 D nm (eB D nm) else D
def lT (D:List Fe) (fu:Nat) (off:Bool) (nm:ByteArray):List Fe:=if opE D (okN nm) fu off nm=0 then ic D nm else D
def B5 (D:List Fe) (fu:Nat) (off:Bool) (nm:ByteArray) (n:Int):Int:=if n<0 then 1 else if opE D (okN nm) fu off nm≠0 then opE D (okN nm) fu off nm else if ((eB D nm).length:Int)<n then 1 else 0
def Cp (D:List Fe) (fu:Nat) (off:Bool) (nm:ByteArray) (n:Int):List Fe:=if B5 D fu off nm n=0 then qe D nm ((eB D nm).take n.toNat) else D
theorem uc (U:Nat→Prop) (d:Nat) (D:List Fe) (fu:Nat) (off:Bool) (w:World) (hd:cP w U d D fu off) (nm:ByteArray) (hn:nm.size≤140737488351232) :
 Rt prog 62 [.pointer (some ⟨d,0,none⟩),.string nm] w (fun v w'=>v=.int .i64 (opE D (okN nm) fu off nm)∧cP w' (Nx U w w') d (gO D fu off nm) (fuB (okN nm) fu) (kk (okN nm) fu off)∧Chg U w w'):=by
 have hd0:=hd;obtain ⟨fs,Ap,cp,ca,h,hD,hok,hfu0,hU⟩:=hd;subst hD;obtain ⟨hs,hl,hz⟩:=hok;rw [aR] at hl;refine enter (n:=26) Tryz.func62 rfl rfl rfl (af (ab (asi rfl (ah (ae (af (ab (mvp rfl (mvg rfl (j5 (v:=.string _) de rfl rfl rfl ?_))))))))));intro b10 w1 E10 hb10 hk10;have hF11:ag w _:=(ag.rfl_.next E10);have hbd:b10≠d:=by have:=h.blk.lt;omega
 refine av kR (ru (h.from_ (ag.rfl_.next E10)) hs hl hfu0 hn hk10 hbd) ?_;rintro v11 w2 ⟨hop,⟨ca2,h2⟩,hC11⟩;have hT:=(hF11.toChg (U:=U)).next (hC11.wide fun k hk=>.inl (by rw [hk];exact hU d (.inl rfl)));rcases hop with ⟨hz0,rfl⟩ | ⟨hz0,i,fd,hf,⟨hfd,rfl⟩ | ⟨hfd,g,rfl,rfl⟩⟩
 ·refine mvt rfl (aa (ar rfl rfl) (aa (ar rfl rfl) (asp rfl (asi rfl (ah (ae (af (af (ab (mvi rfl (aa (cv rfl rfl) (ah (ae ?_)))))))))))));refine BJ rfl (fun Q3=>?_) (fun Q3=>?_);rotate_left
  ·exfalso;omega
  refine af (ab (mvi rfl (asi rfl (ah (ae (aC (aF (bz (v:=.int _ _) rfl rfl ?_))))))))
  first
   |(have e1:opE (aS fs) (okN nm) fu off nm=bE (okN nm) fu off:=by unfold opE;rw [if_pos hz0]
     rw [e1];refine ⟨rfl,?_,hT.next (ag.rfl_).toChg⟩;rw [show gO (aS fs) fu off nm=aS fs by unfold gO;rw [e1,if_neg hz0]];exact dJ hU (h2.from_ ag.rfl_) ⟨hs,by rw [aR];exact hl,hz⟩ (c_ hfu0 _) fun k hk=>.inl hk)
   |(have e1:opE (aS fs) (okN nm) fu off nm=3:=by unfold opE;rw [if_neg (by omega),hf.has hs,hfd];rfl
     rw [e1];refine ⟨rfl,?_,hT.next (ag.rfl_).toChg⟩;rw [show gO (aS fs) fu off nm=aS fs by unfold gO;rw [e1,if_neg (by decide)]];exact dJ hU (h2.from_ ag.rfl_) ⟨hs,by rw [aR];exact hl,hz⟩ (c_ hfu0 _) fun k hk=>.inl hk)
 ·refine mvt rfl (aa (ar rfl rfl) (aa (ar rfl rfl) (asp rfl (asi rfl (ah (ae (af (af (ab (mvi rfl (aa (cv rfl rfl) (ah (ae ?_)))))))))))));refine BJ rfl (fun Q5=>?_) (fun Q5=>?_);rotate_left
  ·exfalso;omega
  refine af (ab (mvi rfl (asi rfl (ah (ae (aC (aF (bz (v:=.int _ _) rfl rfl ?_))))))))
  first
   |(have e1:opE (aS fs) (okN nm) fu off nm=bE (okN nm) fu off:=by unfold opE;rw [if_pos hz0]
     rw [e1];refine ⟨rfl,?_,hT.next (ag.rfl_).toChg⟩;rw [show gO (aS fs) fu off nm=aS fs by unfold gO;rw [e1,if_neg hz0]];exact dJ hU (h2.from_ ag.rfl_) ⟨hs,by rw [aR];exact hl,hz⟩ (c_ hfu0 _) fun k hk=>.inl hk)
   |(have e1:opE (aS fs) (okN nm) fu off nm=3:=by unfold opE;rw [if_neg (by omega),hf.has hs,hfd];rfl
     rw [e1];refine ⟨rfl,?_,hT.next (ag.rfl_).toChg⟩;rw [show gO (aS fs) fu off nm=aS fs by unfold gO;rw [e1,if_neg (by decide)]];exact dJ hU (h2.from_ ag.rfl_) ⟨hs,by rw [aR];exact hl,hz⟩ (c_ hfu0 _) fun k hk=>.inl hk)
 obtain ⟨hi,hi2⟩:=hf.2.1 hfd;have hia:i<(aS fs).length:=by rw [aR];exact hi
 have hk1:(aS fs)[i].1=nm:=by rw [bP];exact hi2
 have hzi:=hz _ (List.getElem_mem hia);rw [bP] at hzi;have hz1:fs[i].vs.length≤1048576:=hzi.1;have hz2:fs[i].ds.length≤1048576:=hzi.2;have hgv:eB (aS fs) nm=fs[i].vs:=by rw [jf hs hia hk1,bP];rfl
 obtain ⟨bp,op,e9,hcd⟩:=(kY h2.row).2 (by omega);cases e9;have hce:=hcd i hi;have hfi:=h2.ok _ (List.getElem_mem hi);refine mvt rfl (aa (ar rfl rfl) (aa (ar rfl rfl) (asp rfl (asi rfl (ah (ae (af (af (ab (mvi rfl (aa (cv rfl rfl) (ah (ae ?_)))))))))))));refine BJ rfl (fun Q7=>?_) (fun Q7=>?_)
 ·exfalso;omega
 refine aE (ae (af (ab (mvp rfl (mvp rfl (aa (au rfl) (aa (ai cQ rfl) (aa (ai cR rfl) (aa (ao bQ rfl (by have h9:=hce 1 _ rfl;simpa [Nat.add_assoc] using Ct ag.rfl_ h9)) ?_)))))))));refine aa (au rfl) (aa (ai cQ rfl) (aa (ai fx rfl) ?_));have hF4:ag _ w2:=ag.rfl_;refine kA (o:=i*3+2) (v:=.slice fs[i].vA fs[i].vs.length fs[i].vc) kQ rfl rfl rfl (h2.row.kept_from hF4) (by omega) ?_;intro w8 O4 P4;refine ah (ae (af (ab (asi rfl (ah (ae (aC (bz (v:=.int _ _) rfl rfl ?_))))))));have e1:opE (aS fs) (okN nm) fu off nm=0:=by unfold opE;rw [if_neg (by omega),hf.has hs,hfd];rfl
 obtain ⟨f2,hf2⟩:∃ f2:Fl,f2={ fs[i] with dA:=fs[i].vA,dc:=fs[i].vc,ds:=fs[i].vs }:=⟨_,rfl⟩;have hP:=P4;rw [q7 gy fs i 2 hi (by decide) f2 (.slice fs[i].vA fs[i].vs.length fs[i].vc) (by rw [hf2];rfl)] at hP;have hk:=h2.put hi (f':=f2) (w':=w8) (hF4.toChg.next (O4.toChg (.inl rfl))) hP (by rw [hf2];exact ⟨(hfi.from_ hF4).v.chg (O4.toChg (U:=fun k=>k=g) rfl) (fun q hq e=>h2.bp (List.getElem_mem hi) (.inl hq) (by rw [e];rfl)),(hfi.from_ hF4).v.chg (O4.toChg (U:=fun k=>k=g) rfl) (fun q hq e=>h2.bp (List.getElem_mem hi) (.inl hq) (by rw [e];rfl)),(hfi.from_ hF4).vt.chg (O4.toChg (U:=fun k=>k=g) rfl) (fun q hq e=>h2.bp (List.getElem_mem hi) (.inl hq) (by rw [e];rfl)),(hfi.from_ hF4).vt.chg (O4.toChg (U:=fun k=>k=g) rfl) (fun q hq e=>h2.bp (List.getElem_mem hi) (.inl hq) (by rw [e];rfl)),fun ho=>⟨eX (((hfi.from_ hF4).o ho).1) (O4.toChg (U:=fun k=>k=g) rfl) (fun q hq e=>h2.bp (List.getElem_mem hi) (.inl hq) (by rw [e];rfl)),.inr ⟨rfl,[],(List.append_nil _).symm⟩⟩,hfi.n⟩) (by rw [hf2];exact fun k hk=>.inl (hk.elim .inl .inl)) (by rw [hf2];exact fun ho k hk=>.inl ⟨ho,hk⟩);have hD:aS (fs.set i f2)=s3 (aS fs) nm (eB (aS fs) nm):=by rw [lB,zk hs hia hk1,hgv,bP,hf2,←hi2];rfl
 rw [e1];refine ⟨rfl,?_,hT.next (hF4.toChg.next (O4.toChg (hU g (.inr (.inl rfl)))))⟩;rw [show gO (aS fs) fu off nm=aS (fs.set i f2) by unfold gO;rw [e1,if_pos rfl,hD]];refine dJ hU hk (DOk.set ⟨hs,by rw [aR];exact hl,hz⟩ hs hi f2 (by rw [hf2]) (by rw [hf2];exact hz1) (by rw [hf2];exact hz1)) (c_ hfu0 _) fun k hk=>?_
 rcases hk with e | e | ⟨f3,h3,e⟩
 ·exact .inl (.inl e)
 ·exact .inl (.inr (.inl e))
 ·rcases List.mem_or_eq_of_mem_set h3 with h3 | h3
  ·exact .inl (.inr (.inr ⟨f3,h3,e⟩))
  ·exact .inl (.inr (.inr ⟨fs[i],List.getElem_mem hi,by rw [h3,hf2] at e;exact e.elim .inl .inl⟩))
end Go.Proofs.YtaohnmneccbljaaGreatDoor
namespace Go.Proofs.YtaohnmneccbljaaGreatDoor
open Go.Proofs.Tryz (prog)
open Go.RowKit
open Go.ChangeShapes Go.WideShapes Go.ChangeAt
theorem kT:aH prog 92=true:=by kernel_rfl
theorem sR {P:Program} {w:World} {t:TypeId} {x:Operand} {ρ:Operand→Value} {e sz h mx m c:Nat} {A:Option Addr} {y2 y3:Operand} {k2 k3:IntKind} (ht:dq P t=some (e,sz)) (hx:ρ x=.slice A m c) (hh:ρ y2=.int k2 (h:Nat)) (hm:ρ y3=.int k3 (mx:Nat)) (h2:h≤mx) (h3:mx≤c) :
 RO P ρ (.slice t x none (some y2) (some y3)) w (.slice A h mx) w:=by
 have key:RO P ρ (.slice t x none (some y2) (some y3)) w (.slice (dm A mx 0 sz) (h-0) (mx-0)) w:=fun _ _ _ _ _=>by
  obtain ⟨hu,hs⟩:=fS ht;have hE:P.elem t=e:=by simp [Program.elem,hu]
  have hu':P.underlying t=some (.slice (P.elem t)):=by rw [hE];exact hu
  simp only [execOp,hx,hh,hm,Option.map_some,Option.map_none,Sem.run_bind];rw [run_sliceAt_slice w t _ _ _ _ hu',run_slice_hm w t _ m c hu' k2 k3 (h:Int) (mx:Int) (by omega) (by omega) (by omega),hE,dD hs,Result.andThen_ok];simp only [Int.toNat_natCast,sliced,dm];rfl
 rw [ep,Nat.sub_zero,Nat.sub_zero] at key;exact key
theorem vf (U:Nat→Prop) (d:Nat) (D:List Fe) (fu:Nat) (off:Bool) (w:World) (hd:cP w U d D fu off) (nm:ByteArray) (hn:nm.size≤140737488351232) :
 Rt prog 71 [.pointer (some ⟨d,0,none⟩),.string nm] w (fun v w'=>v=.int .i64 (opE D (okN nm) fu off nm)∧cP w' (Nx U w w') d (lT D fu off nm) (fuB (okN nm) fu) (kk (okN nm) fu off)∧Chg U w w'):=by
 have hd0:=hd;obtain ⟨fs,Ap,cp,ca,h,hD,hok,hfu0,hU⟩:=hd;subst hD;obtain ⟨hs,hl,hz⟩:=hok;rw [aR] at hl;refine enter (n:=20) Tryz.func71 rfl rfl rfl (af (ab (asi rfl (ah (ae (af (af (ab (mvp rfl (mvg rfl (j5 (v:=.string _) de rfl rfl rfl ?_)))))))))));intro b10 w1 E10 hb10 hk10;have hF11:ag w _:=(ag.rfl_.next E10);have hbd:b10≠d:=by have:=h.blk.lt;omega
 refine av kR (ru (h.from_ (ag.rfl_.next E10)) hs hl hfu0 hn hk10 hbd) ?_;rintro v11 w2 ⟨hop,⟨ca2,h2⟩,hC11⟩;have hT:=(hF11.toChg (U:=U)).next (hC11.wide fun k hk=>.inl (by rw [hk];exact hU d (.inl rfl)));rcases hop with ⟨hz0,rfl⟩ | ⟨hz0,i,fd,hf,⟨hfd,rfl⟩ | ⟨hfd,g,rfl,rfl⟩⟩
 ·refine mvt rfl (aa (ar rfl rfl) (aa (ar rfl rfl) (asp rfl (asi rfl (ah (ae (af (ab (mvi rfl (aa (cv rfl rfl) (ah (ae ?_))))))))))));refine BJ rfl (fun Q3=>?_) (fun Q3=>?_);rotate_left
  ·exfalso;omega
  refine af (ab (mvi rfl (asi rfl (ah (ae (aC (aF (bz (v:=.int _ _) rfl rfl ?_))))))))
  first
   |(have q1:opE (aS fs) (okN nm) fu off nm=bE (okN nm) fu off:=by unfold opE;rw [if_pos hz0]
     have e1:opE (aS fs) (okN nm) fu off nm=bE (okN nm) fu off:=by rw [q1]
     rw [e1];refine ⟨rfl,?_,hT.next (ag.rfl_).toChg⟩;rw [show lT (aS fs) fu off nm=aS fs by unfold lT;rw [e1,if_neg hz0]];exact dJ hU (h2.from_ ag.rfl_) ⟨hs,by rw [aR];exact hl,hz⟩ (c_ hfu0 _) fun k hk=>.inl hk)
   |(have q1:opE (aS fs) (okN nm) fu off nm=3:=by unfold opE;rw [if_neg (by omega),hf.has hs,hfd];rfl
     have e1:opE (aS fs) (okN nm) fu off nm=3:=by rw [q1]
     rw [e1];refine ⟨rfl,?_,hT.next (ag.rfl_).toChg⟩;rw [show lT (aS fs) fu off nm=aS fs by unfold lT;rw [e1,if_neg (by decide)]];exact dJ hU (h2.from_ ag.rfl_) ⟨hs,by rw [aR];exact hl,hz⟩ (c_ hfu0 _) fun k hk=>.inl hk)
 ·refine mvt rfl (aa (ar rfl rfl) (aa (ar rfl rfl) (asp rfl (asi rfl (ah (ae (af (ab (mvi rfl (aa (cv rfl rfl) (ah (ae ?_))))))))))));refine BJ rfl (fun Q5=>?_) (fun Q5=>?_);rotate_left
  ·exfalso;omega
  refine af (ab (mvi rfl (asi rfl (ah (ae (aC (aF (bz (v:=.int _ _) rfl rfl ?_))))))))
  first
   |(have q1:opE (aS fs) (okN nm) fu off nm=bE (okN nm) fu off:=by unfold opE;rw [if_pos hz0]
     have e1:opE (aS fs) (okN nm) fu off nm=bE (okN nm) fu off:=by rw [q1]
     rw [e1];refine ⟨rfl,?_,hT.next (ag.rfl_).toChg⟩;rw [show lT (aS fs) fu off nm=aS fs by unfold lT;rw [e1,if_neg hz0]];exact dJ hU (h2.from_ ag.rfl_) ⟨hs,by rw [aR];exact hl,hz⟩ (c_ hfu0 _) fun k hk=>.inl hk)
   |(have q1:opE (aS fs) (okN nm) fu off nm=3:=by unfold opE;rw [if_neg (by omega),hf.has hs,hfd];rfl
     have e1:opE (aS fs) (okN nm) fu off nm=3:=by rw [q1]
     rw [e1];refine ⟨rfl,?_,hT.next (ag.rfl_).toChg⟩;rw [show lT (aS fs) fu off nm=aS fs by unfold lT;rw [e1,if_neg (by decide)]];exact dJ hU (h2.from_ ag.rfl_) ⟨hs,by rw [aR];exact hl,hz⟩ (c_ hfu0 _) fun k hk=>.inl hk)
 obtain ⟨hi,hi2⟩:=hf.2.1 hfd;have hia:i<(aS fs).length:=by rw [aR];exact hi
 have hk1:(aS fs)[i].1=nm:=by rw [bP];exact hi2
 have hzi:=hz _ (List.getElem_mem hia);rw [bP] at hzi;have hz1:fs[i].vs.length≤1048576:=hzi.1;have hz2:fs[i].ds.length≤1048576:=hzi.2;have hgv:eB (aS fs) nm=fs[i].vs:=by rw [jf hs hia hk1,bP];rfl
 obtain ⟨bp,op,e9,hcd⟩:=(kY h2.row).2 (by omega);cases e9;have hce:=hcd i hi;have hfi:=h2.ok _ (List.getElem_mem hi);refine mvt rfl (aa (ar rfl rfl) (aa (ar rfl rfl) (asp rfl (asi rfl (ah (ae (af (ab (mvi rfl (aa (cv rfl rfl) (ah (ae ?_))))))))))));refine BJ rfl (fun Q7=>?_) (fun Q7=>?_)
 ·exfalso;omega
 refine aE (ae (af (ab (mvp rfl (mvg rfl ?_)))));have hF19:ag _ w2:=ag.rfl_;refine av kT (da d fs _ cp ca2 _ _ _ (h2.from_ ag.rfl_) hs hl (c_ hfu0 _) nm) ?_;rintro v19 w8 ⟨rfl,fs2,Ap2,cp2,h3,hab,hC19,hsub,hA2⟩;have hT2:=(hT.next hF19.toChg).next (hC19.wide fun k hk=>.inl (hU k (hk.elim .inl fun e=>.inr (.inl e))));refine ah (ae (af (ab (asi rfl (ah (ae (aC (bz (v:=.int _ _) rfl rfl ?_))))))));have q1:opE (aS fs) (okN nm) fu off nm=0:=by unfold opE;rw [if_neg (by omega),hf.has hs,hfd];rfl
 rw [q1,show lT (aS fs) fu off nm=aS fs2 by unfold lT;rw [q1,if_pos rfl,hab]];refine ⟨rfl,dJ hU (h3.from_ ag.rfl_) ?_ (c_ hfu0 _) fun k hk=>.inl (hk.elim .inl fun e=>.inr (e.elim (fun e=>.inl (hA2 k e)) fun ⟨f3,h4,e⟩=>.inr ⟨f3,hsub f3 h4,e⟩)),hT2.next (ag.rfl_).toChg⟩;rw [hab];exact ⟨hs.del nm,Nat.le_trans (List.length_filter_le _ _) (by rw [aR];exact hl),fun e he=>hz e (jO.1 he).1⟩
end Go.Proofs.YtaohnmneccbljaaGreatDoor
namespace Go.Proofs.YtaohnmneccbljaaGreatDoor
open Go.Proofs.Tryz (prog)
open Go.RowKit
abbrev PT:=List (Nat×Nat×((Nat→Bool)→Value→World→Prop))
def jY (L:List (Nat×Value)) (T:PT) (S:Nat→Bool) (L':List (Nat×Value)) (w:World):Prop:=
 (∀ t,(∀ p∈T,p.2.1≠t)→aT L' t=aT L t)∧(∀ p∈T,S p.1=true→p.2.2 S (aT L' p.2.1) w)∧∀ p∈T,S p.1=false→aT L' p.2.1=aT L p.2.1
def oZ:List (Nat×Nat)→Prop
 |[]=>True
 |p::r=>(∀ q∈r,q.1≠p.1∧q.2≠p.2)∧oZ r
def yN:List (Nat×Nat)→Bool
 |[]=>true
 |p::r=>(r.all fun q=> !(Nat.beq q.1 p.1)&&!(Nat.beq q.2 p.2))&&yN r
theorem xC {a b:Nat}:Nat.beq a b=false↔a≠b:=by
 refine ⟨fun h e=>?_,fun h=>?_⟩
 ·subst e;rw [Nat.beq_refl] at h;cases h
 ·rcases hb:Nat.beq a b with _ | _
  ·rfl
  ·exact absurd (Nat.eq_of_beq_eq_true hb) h
theorem ua:∀ {l:List (Nat×Nat)},yN l=true→oZ l
 |[],_=>trivial
 |p::r,h=>by
  simp only [yN,Bool.and_eq_true,List.all_eq_true,Bool.not_eq_true',xC] at h;exact ⟨fun q hq=>h.1 q hq,ua h.2⟩
theorem mV:∀ {T:PT},oZ (T.map fun p=>(p.1,p.2.1))→∀ {p q:Nat×Nat×((Nat→Bool)→Value→World→Prop)},p∈T→q∈T→p.1=q.1∨p.2.1=q.2.1→p=q
 |_::_,⟨h1,h2⟩,p,q,hp,hq,he=>by
  rcases List.mem_cons.1 hp with rfl | hp' <;> rcases List.mem_cons.1 hq with rfl | hq'
  ·rfl
  ·rcases he with e | e
   ·exact absurd e.symm (h1 _ (List.mem_map_of_mem (f:=fun p=>(p.1,p.2.1)) hq')).1
   ·exact absurd e.symm (h1 _ (List.mem_map_of_mem (f:=fun p=>(p.1,p.2.1)) hq')).2
  ·rcases he with e | e
   ·exact absurd e (h1 _ (List.mem_map_of_mem (f:=fun p=>(p.1,p.2.1)) hp')).1
   ·exact absurd e (h1 _ (List.mem_map_of_mem (f:=fun p=>(p.1,p.2.1)) hp')).2
  ·exact mV h2 hp' hq' he
theorem jY.get {L:List (Nat×Value)} {T:PT} {S:Nat→Bool} {L':List (Nat×Value)} {w:World} {i d:Nat} {R:(Nat→Bool)→Value→World→Prop} (h:jY L T S L' w) (hp:(i,d,R)∈T) (hs:S i=true):∃ v,aT L' d=v∧R S v w:=⟨_,rfl,h.2.1 _ hp hs⟩
theorem lP {S:Nat→Bool} {i k:Nat} (h:df S i k=false):S k=false:=by
 unfold df at h;split at h
 ·cases h
 ·exact h
theorem mP {S:Nat→Bool} {i k:Nat} (hk:k≠i) (h:df S i k=true):S k=true:=by
 unfold df at h
 rwa [if_neg hk] at h
theorem mQ (S:Nat→Bool) (i:Nat):df S i i=true:=by unfold df;rw [if_pos rfl]
theorem Bx {S:Nat→Bool} {i k:Nat} (hk:k≠i):df S i k=S k:=by unfold df;rw [if_neg hk]
def mK (Mu:List Nat):PT→Prop
 |[]=>True
 |p::r=>(∀ S i v w1 w2,Mu.elem i=false→ag w1 w2→p.2.2 S v w1→p.2.2 (df S i) v w2)∧mK Mu r
def ChP (i:Nat) (S:Nat→Bool) (w1 w2:World):PT→Prop
 |[]=>True
 |p::r=>(Nat.beq p.1 i=false→S p.1=true→∀ v,p.2.2 S v w1→p.2.2 (df S i) v w2)∧ChP i S w1 w2 r
theorem rz {Mu:List Nat}:∀ {T:PT},mK Mu T→∀ p∈T,∀ S i v w1 w2,Mu.elem i=false→ag w1 w2→p.2.2 S v w1→p.2.2 (df S i) v w2
 |_::_,⟨h1,h2⟩,p,hp=>by
  rcases List.mem_cons.1 hp with rfl | hp
  ·exact h1
  ·exact rz h2 p hp
theorem qA {i:Nat} {S:Nat→Bool} {w1 w2:World}:∀ {T:PT},ChP i S w1 w2 T→∀ p∈T,p.1≠i→S p.1=true→∀ v,p.2.2 S v w1→p.2.2 (df S i) v w2
 |_::_,⟨h1,h2⟩,p,hp=>by
  rcases List.mem_cons.1 hp with rfl | hp
  ·exact fun hne=>h1 (by rw [xC];exact hne)
  ·exact qA h2 p hp
theorem jY.next {L:List (Nat×Value)} {T:PT} {S:Nat→Bool} {L':List (Nat×Value)} {w w':World} {i d:Nat} {v:Value} {R:(Nat→Bool)→Value→World→Prop} (h:jY L T S L' w) (hU:oZ (T.map fun p=>(p.1,p.2.1))) (hp:(i,d,R)∈T) (hR:R (df S i) v w')
 (hst:∀ p∈T,p.1≠i→S p.1=true→∀ v,p.2.2 S v w→p.2.2 (df S i) v w'):jY L T (df S i) ((d,v)::L') w':=by
 refine ⟨fun t ht=>?_,fun p hq hs=>?_,fun p hq hs=>?_⟩
 ·rw [bF,if_neg (fun e=>ht _ hp e.symm)];exact h.1 t ht
 ·rw [bF];by_cases e:p.2.1=d
  ·rw [if_pos e,mV hU hq hp (.inr e)];exact hR
  ·rw [if_neg e];have e2:p.1≠i:=fun e2=>e (congrArg (·.2.1) (mV hU hq hp (.inl e2)))
   have hs':=mP e2 hs;exact hst p hq e2 hs' _ (h.2.1 p hq hs')
 ·have hs':=lP hs;have e2:p.1≠i:=fun e2=>by rw [e2,mQ] at hs;cases hs
  rw [bF,if_neg (fun e=>e2 (congrArg (·.1) (mV hU hq hp (.inr e))))];exact h.2.2 p hq hs'
theorem jY.same {L:List (Nat×Value)} {T:PT} {S:Nat→Bool} {L':List (Nat×Value)} {w w':World} {i:Nat} (h:jY L T S L' w) (hi:∀ p∈T,p.1≠i)
 (hst:∀ p∈T,p.1≠i→S p.1=true→∀ v,p.2.2 S v w→p.2.2 (df S i) v w'):jY L T (df S i) L' w':=by
 refine ⟨h.1,fun p hq hs=>?_,fun p hq hs=>h.2.2 p hq (lP hs)⟩;have hs':=mP (hi p hq) hs;exact hst p hq (hi p hq) hs' _ (h.2.1 p hq hs')
def sA (L':List (Nat×Value)):List (Nat×Value)→Prop
 |[]=>True
 |(t,v)::r=>aT L' t=v∧sA L' r
theorem pM {L':List (Nat×Value)}:∀ {M:List (Nat×Value)},sA L' M→∀ t,(M.map Prod.fst).elem t=true→aT M t=aT L' t
 |(k,v)::r,⟨h1,h2⟩,t,ht=>by
  rw [bF];by_cases e:t=k
  ·rw [if_pos e,e,h1]
  ·rw [if_neg e];refine pM h2 t ?_;simpa [e] using ht
section
variable {P:Program} {Q:Exit→Act→World→Prop} {n:Fr} {L L' M:List (Nat×Value)} {w w' w'':World} {l:List Oper} {T:PT} {Mem:(Nat→Bool)→World→Prop} {Mu:List Nat} {S:Nat→Bool} {op:Op} {ty:TypeId} {pos:String} {after:Array Edge} {i d:Nat} {v:Value} {R:(Nat→Bool)→Value→World→Prop}
theorem jM {dst:Option Nat} (hs:cK op=false) (hk:(((⟨dst,op,ty,pos,after,none⟩:Oper).looksAt #[]).all fun t=>(M.map Prod.fst).elem t)=true) (hag:sA L' M):execOp (ev n L') ⟨dst,op,ty,pos,after,none⟩=execOp (ev n M) ⟨dst,op,ty,pos,after,none⟩:=by
 have h:∀ t,((⟨dst,op,ty,pos,after,none⟩:Oper).looksAt #[]).elem t=true→aT M t=aT L' t:=fun t ht=>
  pM hag t (List.all_eq_true.1 hk t (List.elem_iff.1 ht))
 exact (eF (n:=n) (ops:=#[]) (o:=⟨dst,op,ty,pos,after,none⟩) hs h).1.symm
abbrev oN (P:Program) (n:Fr) (L:List (Nat×Value)) (T:PT) (Mem:(Nat→Bool)→World→Prop) (S:Nat→Bool) (i:Nat) (o:Oper) (L':List (Nat×Value)) (w':World):Prop:=fA P n o (fun L2 w2=>jY L T (df S i) L2 w2∧Mem (df S i) w2) L' w'
theorem xn (hmo:mK Mu T) (hq:Mu.elem i=false) (hF:ag w' w''):∀ p∈T,p.1≠i→S p.1=true→∀ v,p.2.2 S v w'→p.2.2 (df S i) v w'':=fun p hp _ _ v h=>rz hmo p hp S i v w' w'' hq hF h
theorem aN (M:List (Nat×Value)) (hU:oZ (T.map fun p=>(p.1,p.2.1))) (hmo:mK Mu T) (hme:∀ S i w1 w2,Mu.elem i=false→ag w1 w2→Mem S w1→Mem (df S i) w2) (hI:jY L T S L' w') (hM:Mem S w') (hp:(i,d,R)∈T) (hq:Mu.elem i=false)
 (hs:cK op=false) (hk:(((⟨some d,op,ty,pos,after,none⟩:Oper).looksAt #[]).all fun t=>(M.map Prod.fst).elem t)=true) (hag:sA L' M) (hr:RO P (ev n M) op w' v w'') (hF:ag w' w'') (hR:R (df S i) v w''):oN P n L T Mem S i ⟨some d,op,ty,pos,after,none⟩ L' w':=
 .inl ⟨d,v,w'',rfl,by rw [jM hs hk hag];exact hr _ _ _ _ _,hI.next hU hp hR (xn hmo hq hF),hme S i _ _ hq hF hM⟩
theorem fB (M:List (Nat×Value)) {f:FuncId} {al:List Operand} {ats:Array TypeId} (hU:oZ (T.map fun p=>(p.1,p.2.1))) (hmo:mK Mu T) (hme:∀ S i w1 w2,Mu.elem i=false→ag w1 w2→Mem S w1→Mem (df S i) w2) (hI:jY L T S L' w') (hM:Mem S w') (hp:(i,d,R)∈T) (hq:Mu.elem i=false)
 (hk:(((⟨some d,.call { callee:=.value (.func f),args:=al.toArray,argTypes:=ats },ty,pos,after,none⟩:Oper).looksAt #[]).all fun t=>(M.map Prod.fst).elem t)=true) (hag:sA L' M) (hf:aH P f=true) (hc:Rt P f (al.map (ev n M)) w' fun v w''=>ag w' w''∧R (df S i) v w'') :
 oN P n L T Mem S i ⟨some d,.call { callee:=.value (.func f),args:=al.toArray,argTypes:=ats },ty,pos,after,none⟩ L' w':=
 .inr (.inr ⟨d,f,al.map (ev n M),rfl,by rw [jM rfl hk hag,fc (fun _=>rfl),fk hf],Calls.mono hc fun e w2 ⟨v,he,hF,hR⟩=>⟨v,he,hI.next hU hp hR (xn hmo hq hF),hme S i _ _ hq hF hM⟩⟩)
theorem wO (M:List (Nat×Value)) (hU:oZ (T.map fun p=>(p.1,p.2.1))) (hI:jY L T S L' w') (hp:(i,d,R)∈T)
 (hs:cK op=false) (hk:(((⟨some d,op,ty,pos,after,none⟩:Oper).looksAt #[]).all fun t=>(M.map Prod.fst).elem t)=true) (hag:sA L' M) (hr:RO P (ev n M) op w' v w'') (hM:Mem (df S i) w'') (hR:R (df S i) v w'') (hC:ChP i S w' w'' T):oN P n L T Mem S i ⟨some d,op,ty,pos,after,none⟩ L' w':=
 .inl ⟨d,v,w'',rfl,by rw [jM hs hk hag];exact hr _ _ _ _ _,hI.next hU hp hR (qA hC),hM⟩
theorem eY (M:List (Nat×Value)) {f:FuncId} {al:List Operand} {ats:Array TypeId} (hU:oZ (T.map fun p=>(p.1,p.2.1))) (hI:jY L T S L' w') (hp:(i,d,R)∈T)
 (hk:(((⟨some d,.call { callee:=.value (.func f),args:=al.toArray,argTypes:=ats },ty,pos,after,none⟩:Oper).looksAt #[]).all fun t=>(M.map Prod.fst).elem t)=true) (hag:sA L' M) (hf:aH P f=true) (hc:Rt P f (al.map (ev n M)) w' fun v w''=>Mem (df S i) w''∧R (df S i) v w''∧ChP i S w' w'' T) :
 oN P n L T Mem S i ⟨some d,.call { callee:=.value (.func f),args:=al.toArray,argTypes:=ats },ty,pos,after,none⟩ L' w':=
 .inr (.inr ⟨d,f,al.map (ev n M),rfl,by rw [jM rfl hk hag,fc (fun _=>rfl),fk hf],Calls.mono hc fun e w2 ⟨v,he,hM,hR,hC⟩=>⟨v,he,hI.next hU hp hR (qA hC),hM⟩⟩)
theorem qX (M:List (Nat×Value)) (hI:jY L T S L' w') (hi:∀ p∈T,p.1≠i)
 (hs:cK op=false) (hk:(((⟨none,op,ty,pos,after,none⟩:Oper).looksAt #[]).all fun t=>(M.map Prod.fst).elem t)=true) (hag:sA L' M) (hr:RS P (ev n M) op w' w'') (hM:Mem (df S i) w'') (hC:ChP i S w' w'' T):oN P n L T Mem S i ⟨none,op,ty,pos,after,none⟩ L' w':=
 .inr (.inl ⟨w'',rfl,by rw [jM hs hk hag];exact hr _ _ _ _ _,hI.same hi (qA hC),hM⟩)
def Al (S:Nat→Bool) (w:World):PT→(List (Nat×Value)→Prop)→Prop
 |[],K=>K []
 |p::r,K=>∀ v,p.2.2 S v w→Al S w r fun M=>K ((p.2.1,v)::M)
theorem fq {S:Nat→Bool} {w:World} {K:List (Nat×Value)→Prop} (h:K []):Al S w [] K:=h
theorem uL {S:Nat→Bool} {w:World} (ρ:Nat→Value):∀ (l:PT) {K:List (Nat×Value)→Prop},(∀ p∈l,p.2.2 S (ρ p.2.1) w)→Al S w l K→K (l.map fun p=>(p.2.1,ρ p.2.1))
 |[],_,_,h=>h
 |p::r,_,hr,h=>uL ρ r (fun e he=>hr e (List.mem_cons_of_mem _ he)) (h (ρ p.2.1) (hr p (List.mem_cons_self ..)))
theorem vz (ρ:Nat→Value) (T:PT) (L:List (Nat×Value)) (t:Nat):((∃ p∈T,p.2.1=t)∧aT (T.map (fun p=>(p.2.1,ρ p.2.1))++L) t=ρ t)∨((∀ p∈T,p.2.1≠t)∧aT (T.map (fun p=>(p.2.1,ρ p.2.1))++L) t=aT L t):=by
 induction T with
 |nil=>exact .inr ⟨fun p hp=>by simp at hp,rfl⟩
 |cons q r ih=>
  rw [List.map_cons,List.cons_append,bF];by_cases e:t=q.2.1
  ·rw [if_pos e,←e];exact .inl ⟨⟨q,.head _,e.symm⟩,rfl⟩
  ·rw [if_neg e];rcases ih with ⟨⟨p,hp,h1⟩,h2⟩ | ⟨h1,h2⟩
   ·exact .inl ⟨⟨p,.tail _ hp,h1⟩,h2⟩
   ·refine .inr ⟨fun p hp=>?_,h2⟩;rcases List.mem_cons.1 hp with rfl | hp2
    ·exact fun e2=>e e2.symm
    ·exact h1 p hp2
theorem fj {T:PT} {t:Nat} (h:(T.map fun p=>p.2.1).elem t=false):∀ p∈T,p.2.1≠t:=fun p hp e=>by
 have:t∈T.map fun p=>p.2.1:=List.mem_map.2 ⟨p,hp,e⟩
 rw [List.elem_eq_mem,decide_eq_false_iff_not] at h;exact h this
theorem BE {T:PT} {i:Nat} (h:(T.map fun p=>p.1).elem i=false):∀ p∈T,p.1≠i:=fun p hp e=>by
 have:i∈T.map fun p=>p.1:=List.mem_map.2 ⟨p,hp,e⟩
 rw [List.elem_eq_mem,decide_eq_false_iff_not] at h;exact h this
theorem fA.mono {o:Oper} {I1 I2:List (Nat×Value)→World→Prop} (hi:∀ L2 w2,I1 L2 w2→I2 L2 w2) (h:fA P n o I1 L' w'):fA P n o I2 L' w':=by
 rcases h with ⟨d,v,w2,h1,h2,h3⟩ | ⟨w2,h1,h2,h3⟩ | ⟨d,f,args,h1,h2,h3⟩
 ·exact .inl ⟨d,v,w2,h1,h2,hi _ _ h3⟩
 ·exact .inr (.inl ⟨w2,h1,h2,hi _ _ h3⟩)
 ·exact .inr (.inr ⟨d,f,args,h1,h2,Calls.mono h3 fun e w2 ⟨v,he,h⟩=>⟨v,he,hi _ _ h⟩⟩)
def kj (l:List Oper) (S:Nat→Bool):Prop:=∀ j o,l[j]? =some o→S j=true→∀ e∈o.after,Region.binds .any e=true→S e.on=true
theorem ay {j i:Nat} {o:Oper} (hC:kj l S) (ho:l[j]? =some o) (he:(o.after.toList.any fun e=>Region.binds .any e&&Nat.beq e.on i)=true) (hS:S i=false):S j=false:=by
 rcases hj:S j with _ | _
 ·rfl
 ·obtain ⟨e,h1,h2⟩:=List.any_eq_true.1 he;rw [Bool.and_eq_true] at h2;have:=hC j o ho hj e (by simpa using h1) h2.1;rw [Nat.eq_of_beq_eq_true h2.2,hS] at this;cases this
theorem rX {i:Nat} {o:Oper} (hC:kj l S) (ho:l[i]? =some o) (hE:∀ e∈o.after,Region.binds .any e=true→S e.on=true):kj l (df S i):=fun j o' hj hs e he hb=>by
 have up:∀ k,S k=true→df S i k=true:=fun k hk=>by
  unfold df;split
  ·rfl
  ·exact hk
 by_cases hji:j=i
 ·subst hji;rw [ho] at hj;cases hj;exact up _ (hE e he hb)
 ·exact up _ (hC j o' hj (mP hji hs) e he hb)
def tX (P:Program) (n:Fr) (L:List (Nat×Value)) (T:PT) (Mu:List Nat) (Mem:(Nat→Bool)→World→Prop) (l:List Oper):Nat→List Oper→Prop
 |_,[]=>True
 |i,o::r=>(∀ S L' w',oZ (T.map fun p=>(p.1,p.2.1))→mK Mu T→(∀ S i w1 w2,Mu.elem i=false→ag w1 w2→Mem S w1→Mem (df S i) w2)→jY L T S L' w'→Mem S w'→kj l S→S i=false→jz S o.after.toList→oN P n L T Mem S i o L' w')∧tX P n L T Mu Mem l (i+1) r
theorem pd {L0:List (Nat×Value)} {l0:List Oper}:∀ {r:List Oper} {k:Nat},tX P n L0 T Mu Mem l0 k r→oZ (T.map fun p=>(p.1,p.2.1))→mK Mu T→(∀ S i w1 w2,Mu.elem i=false→ag w1 w2→Mem S w1→Mem (df S i) w2)→∀ (i:Nat) (o:Oper),r[i]? =some o→∀ S L' w',jY L0 T S L' w'→Mem S w'→kj l0 S→S (k+i)=false→jz S o.after.toList→oN P n L0 T Mem S (k+i) o L' w'
 |[],_,_,_,_,_,i,o,h=>by simp at h
 |x::r,k,⟨h1,h2⟩,a,b,c,0,o,h=>by
  simp only [List.getElem?_cons_zero,Option.some.injEq] at h;subst h;exact fun S L' w'=>h1 S L' w' a b c
 |x::r,k,⟨h1,h2⟩,a,b,c,i+1,o,h=>by
  have:=pd h2 a b c i o (by simpa using h)
  rwa [show k+1+i=k+(i+1) by omega] at this
theorem gz {id:Nat} (T:PT) (Mu:List Nat) (Mem:(Nat→Bool)→World→Prop) (hm:P.follows .mixedOrders=true) (hwf:qu l=true) (hlt:(T.all fun p=>Nat.blt p.1 l.length)=true) (hU:yN (T.map fun p=>(p.1,p.2.1))=true) (hmo:mK Mu T) (hme:∀ S i w1 w2,Mu.elem i=false→ag w1 w2→Mem S w1→Mem (df S i) w2) (h0:Mem (fun _=>false) { w with drawn:=w.drawn+1 })
 (hstep:tX P n L T Mu Mem l 0 l) (hend:∀ w',Mem (fun i=>decide (i<l.length)) w'→Al (fun i=>decide (i<l.length)) w' T fun M=>Q .normal (mkA n (M++L)) w'):Cd P (.region id l.toArray true) Q n L w:=
 yw (fun S L' w'=>jY L T S L' w'∧Mem S w'∧kj l S) hm hwf ⟨⟨fun _ _=>rfl,fun _ _ h=>(by cases h),fun _ _ _=>rfl⟩,h0,fun _ _ _ h=>by cases h⟩ (fun i o S L' w' ho ⟨hI,hM,hC⟩ hS hE=>by
  have:=pd hstep (ua hU) hmo hme i o ho S L' w' hI hM hC (by rw [Nat.zero_add];exact hS) (lv fun e he=>hE e (by simpa using he));rw [Nat.zero_add] at this;exact fA.mono (fun L2 w2 h=>⟨h.1,h.2,rX hC ho hE⟩) this) fun L' w' ⟨hI,hM,_⟩=>by
  have hlt':∀ p∈T,p.1<l.length:=fun p hp=>by
   have:=List.all_eq_true.1 hlt p hp;exact Nat.le_of_ble_eq_true this
  have h:=uL (aT L') T (fun p hp=>hI.2.1 p hp (decide_eq_true (hlt' p hp))) (hend w' hM)
  have e:mkA n L'=mkA n (T.map (fun p=>(p.2.1,aT L' p.2.1))++L):=by
   unfold mkA;rw [kb fun t _=>?_];rcases vz (aT L') T L t with ⟨_,h2⟩ | ⟨h1,h2⟩
   ·exact h2.symm
   ·rw [h2];exact hI.1 t h1
  rw [e];exact h
end
end Go.Proofs.YtaohnmneccbljaaGreatDoor
