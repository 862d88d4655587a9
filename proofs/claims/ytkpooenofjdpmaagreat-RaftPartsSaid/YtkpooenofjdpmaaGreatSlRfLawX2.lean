/- texts that the claim stands on. -/
import Derived.Test.YtkpooenofjdpmaaGreatSlRfLawX1
import Derived.Laws.CopyRow
import Derived.Lib.LazyBuf
import Derived.Lib.AppendZerosOnto
import Derived.Lib.Overlaps
import Derived.Deep.AppendLies
import Derived.RangeFuncBox
import Derived.RangeFuncLeaves
import Derived.Shelf.Abstract
import Derived.OwnWalkIn
import Derived.TacticsInMore
import Derived.LoopNIn
import Derived.LoopIn
import Derived.Maps.AppendAt
import Derived.Shelf.Small.Bits
import Derived.Shelf.Small.Wraps
import Derived.Shelf.Strconv.Itoa0
import Derived.Shelf.Sort.Plain
import Derived.Shelf.Slices.Turned
import Derived.Shelf.Slices.Reverse
import Derived.Ground.Names2Prog
import Derived.Shelf.Slices.Clone
import Derived.Shelf.Slices.SearchI
import Derived.Shelf.Slices.Cells
import Derived.Shelf.Slices.In.SortNone
import Derived.Shelf.Slices.Empties
import Derived.Sort.OwnSortedInts
set_option maxRecDepth 100000
set_option maxHeartbeats 4000000
namespace Go.Proofs.YtkpooenofjdpmaaGreat
open Go.Proofs.Tryz (prog)
open Go.RowKit
def jv (Ex:List Nat) (RL:List (Nat×(Value→World→Prop))) (t:Nat):Value→World→Prop:=bif Ex.elem t then fun _ _=>True else fW RL t
theorem rE {Ex:List Nat} {l:List (Nat×(Value→World→Prop))} (h:oo l):∀ t v w1 w2,ai w1 w2→jv Ex l t v w1→jv Ex l t v w2:=by
 intro t v w1 w2 hF h1;unfold jv at h1 ⊢;cases hb:Ex.elem t with
 |true=>trivial
 |false=>rw [hb] at h1;exact ga h t v w1 w2 hF h1
theorem uM {Ex:List Nat} {l:List (Nat×(Value→World→Prop))}:∀ t v w,fW l t v w→jv Ex l t v w:=by
 intro t v w h;unfold jv;cases hb:Ex.elem t with
 |true=>trivial
 |false=>exact h
def MuR (Ex:List Nat) (d:Nat) (w1 w2:World):List (Nat×(Value→World→Prop))→Prop
 |[]=>True
 |(k,R)::r=>((Ex.elem k||Nat.beq k d)=true∨∀ u,R u w1→R u w2)∧MuR Ex d w1 w2 r
theorem mM {Ex:List Nat} {d:Nat} {w1 w2:World}:∀ {RL:List (Nat×(Value→World→Prop))},MuR Ex d w1 w2 RL→∀ t u,t≠d→fW RL t u w1→jv Ex RL t u w2
 |[],_,t,u,_,_=>by unfold jv;cases Ex.elem t <;> trivial
 |(k,R)::r,⟨h1,h2⟩,t,u,hd,h=>by
  have e:fW ((k,R)::r) t=bif Nat.beq t k then R else fW r t:=rfl
  have ih:=mM h2 t u hd;unfold jv at ih ⊢;rw [e] at h ⊢;cases hx:Ex.elem t with
  |true=>trivial
  |false=>
   rw [hx] at ih;simp only [cond_false] at ih ⊢;cases hb:Nat.beq t k with
   |true=>
    have hk:t=k:=Nat.eq_of_beq_eq_true hb;subst hk;rw [hb] at h;rcases h1 with h1 | h1
    ·rw [hx,Bool.false_or] at h1;exact absurd (Nat.eq_of_beq_eq_true h1) hd
    ·exact h1 u h
   |false=>rw [hb] at h;exact ih h
def wC (l:List Oper):Nat→Oper→Nat→Bool
 |0,o,j=>gJ o j
 |n+1,o,j=>gJ o j||o.after.toList.any fun e=>Region.binds .any e&&match l[e.on]? with | some o'=>wC l n o' j | none=>false
def lf (l:List Oper) (o:Oper) (j:Nat):Bool:=wC l 3 o j
def gm (l:List Oper) (listed:Array Bool):Prop:=∀ i o,l[i]? =some o→listed.getD i false=true→∀ e∈o.after,Region.binds .any e=true→listed.getD e.on false=true
theorem eM {l:List Oper} {listed:Array Bool} (hcl:gm l listed) {o:Oper} {j:Nat} (hall:∀ e∈o.after,Region.binds .any e=true→listed.getD e.on false=true) (h:lf l o j=true):listed.getD j false=true:=by
 have direct:∀ (x:Oper),(∀ e∈x.after,Region.binds .any e=true→listed.getD e.on false=true)→gJ x j=true→listed.getD j false=true:=by
  intro x hx he;obtain ⟨e,he,he2⟩:=List.any_eq_true.1 he;simp only [Bool.and_eq_true,beq_iff_eq] at he2;have:=hx e (by simpa using he) he2.1
  rwa [he2.2] at this
 have all:∀ (n:Nat) (x:Oper),(∀ e∈x.after,Region.binds .any e=true→listed.getD e.on false=true)→wC l n x j=true→listed.getD j false=true:=by
  intro n
  induction n with
  |zero=>intro x hx h;exact direct x hx h
  |succ n ih=>
   intro x hx h;unfold wC at h;rcases Bool.or_eq_true_iff.1 h with h | h
   ·exact direct x hx h
   ·obtain ⟨e,he,he2⟩:=List.any_eq_true.1 h;simp only [Bool.and_eq_true] at he2;have h1:=hx e (by simpa using he) he2.1;cases ho:l[e.on]? with
    |none=>rw [ho] at he2;cases he2.2
    |some o'=>
     rw [ho] at he2;exact ih o' (hcl e.on o' ho h1) he2.2
 exact all 3 o hall h
theorem jc {l:List Oper} {listed:Array Bool} (hcl:gm l listed) {i:Nat} {o:Oper} (ho:l[i]? =some o) (hall:∀ e∈o.after,Region.binds .any e=true→listed.getD e.on false=true):gm l (listed.setIfInBounds i true):=by
 have up:∀ k,listed.getD k false=true→(listed.setIfInBounds i true).getD k false=true:=by
  intro k hk;by_cases e:i=k
  ·subst e
   have:i<listed.size:=by
    rcases Nat.lt_or_ge i listed.size with h | h
    ·exact h
    ·simp [Array.getD,show ¬ i<listed.size by omega] at hk
   simp [this]
  ·rw [getD_set_ne false e];exact hk
 intro k x hx hk e he hb;by_cases h:i=k
 ·subst h;rw [ho] at hx;cases hx;exact up _ (hall e he hb)
 ·rw [getD_set_ne false h] at hk;exact up _ (hcl k x hx hk e he hb)
theorem lA (l:List Oper) (n:Nat):gm l (Array.replicate n false):=by
 intro i o _ h;simp [Array.getD] at h
def wc (l:List Oper) (K i t:Nat):Bool:=(List.range K).any fun j=>match l[j]? with | some oj=>(oj.dst==some t)&&lf l oj i | none=>false
def ff (l:List Oper) (K i:Nat) (o:Oper):List Nat:=(eZ l K).filter fun t=>(o.looksAt l.toArray).elem t&&!wc l K i t
def ln (P:Program) (ops:Array Oper) (n:Fr) (L:List (Nat×Value)) (I2:World→Prop) (R1 R2:Nat→Value→World→Prop) (l0:List Oper) (K:Nat) (mu:Nat):Nat→List Oper→Prop
 |_,[]=>True
 |i,o::r=>(Nat.beq i mu=false→∀ w',I2 w'→iv R2 w' (ff l0 K i o) fun M=>ax P ops n (M++L) o w' (R1 (o.dst.getD 0)))∧ln P ops n L I2 R1 R2 l0 K mu (i+1) r
theorem nS {P:Program} {ops:Array Oper} {n:Fr} {L:List (Nat×Value)} {I2:World→Prop} {R1 R2:Nat→Value→World→Prop} {l0:List Oper} {K mu:Nat}:∀ {l:List Oper} {k:Nat},ln P ops n L I2 R1 R2 l0 K mu k l→∀ (i:Nat) (o:Oper),l[i]? =some o→k+i≠mu→
 ∀ w',I2 w'→iv R2 w' (ff l0 K (k+i) o) fun M=>ax P ops n (M++L) o w' (R1 (o.dst.getD 0))
 |[],_,_,i,o,h,_=>by simp at h
 |x::r,k,⟨h1,h2⟩,0,o,h,hne=>by
  simp only [List.getElem?_cons_zero,Option.some.injEq] at h;subst h;rw [Nat.add_zero] at hne ⊢;refine h1 ?_;rw [←Bool.not_eq_true];intro hb;exact hne (Nat.eq_of_beq_eq_true hb)
 |x::r,k,⟨h1,h2⟩,i+1,o,h,hne=>by
  have:=nS h2 i o (by simpa using h) (by omega)
  rwa [show k+1+i=k+(i+1) by omega] at this
theorem mK {P:Program} {ops:Array Oper} {n:Fr} {L:List (Nat×Value)} {I2:World→Prop} {R1 R2:Nat→Value→World→Prop} {l0:List Oper} {K mu:Nat} {l:List Oper} (h:ln P ops n L I2 R1 R2 l0 K mu 0 l) (i:Nat) (o:Oper) (ho:l[i]? =some o) (hne:i≠mu)
 (w':World) (hw:I2 w'):iv R2 w' (ff l0 K i o) fun M=>ax P ops n (M++L) o w' (R1 (o.dst.getD 0)):=by
 have:=nS h i o ho (by rw [Nat.zero_add];exact hne) w' hw
 rwa [Nat.zero_add] at this
def sh (P:Program) (ops:Array Oper) (n:Fr) (L:List (Nat×Value)) (o:Oper) (w:World) (post:Value→World→Prop):Prop:=
 Region.wanted o (yielded ops (mkT n.n L))=true∧((∃ v w',(execOp (ev n L) o).run P w=.ok (.value v) w'∧post v w')∨(∃ f l,(execOp (ev n L) o).run P w=.ok (.enter f (List.toArray l)) w∧Rt P f l w post))
def wO (P:Program) (ops:Array Oper) (n:Fr) (L:List (Nat×Value)) (I1 I2:World→Prop) (R1 R2:Nat→Value→World→Prop) (l0:List Oper) (K mu:Nat):Option Oper→Prop
 |none=>True
 |some o=>∀ w',I1 w'→iv R1 w' (ff l0 K mu o) fun M=>sh P ops n (M++L) o w' fun v w''=>I2 w''∧R2 (o.dst.getD 0) v w''∧∀ t u,t≠o.dst.getD 0→R1 t u w'→R2 t u w''
def dQ (l:List Oper) (K j:Nat):Bool:=(List.range l.length).any fun i=>decide (K≤i)&&(match l[i]? with | some o=> !lf l o j | none=>false)
def wV (l:List Oper) (K:Nat):Bool:=
 (List.range K).all fun j=> !dQ l K j||match l[j]? with
  |none=>false
  |some o=>mR o.op&&o.guard.isNone&&o.dst.isSome&&(List.range l.length).all fun i=>i==j||match l[i]? with
   |none=>false
   |some y=>(if i<K then !dQ l K i else lf l y j)||o.apart l.toArray y
def jX (l:List Oper) (K:Nat):Bool:=
 let ops:=l.toArray
 let dst (i:Nat):Option Nat:=(l[i]?).bind (·.dst)
 (decide (K≤l.length)&&
 (List.range l.length).all fun i=>match l[i]? with
  |none=>false
  |some o=>
   (o.after.toList.all fun e=> !Region.binds .any e||decide (e.on<i))&&!de o.op&&
   (if i<K then
    (match o.dst with
     |none=>false
     |some d=>(List.range K).all (fun j=>j==i||dst j != some d)&&!((o.looksAt ops).elem d))&&
    (List.range K).all (fun j=>match dst j with
     |none=>false
     |some d=> !(o.looksAt ops).elem d||wc l K i d||(decide (j<i)&&lf l o j))
    else (List.range i).all (fun j=>lf l o j||decide (j<K))))&&wV l K
section late
variable {P:Program} {Q:Exit→Act→World→Prop} {n:Fr} {L:List (Nat×Value)} {w:World} {l:List Oper} {K:Nat} {R:Nat→Value→World→Prop}
theorem g_ (hc:wV l K=true) {j:Nat} {o:Oper} (hj:j<K) (ho:l[j]? =some o) (hl:dQ l K j=true) :
 mR o.op=true∧o.guard=none∧∀ i y,l[i]? =some y→i≠j→((i<K∧dQ l K i=true)∨(K≤i∧lf l y j=false))→o.apart l.toArray y=true:=by
 have h:=List.all_eq_true.1 hc j (List.mem_range.2 hj);rw [hl,ho] at h;simp only [Bool.not_true,Bool.false_or,Bool.and_eq_true] at h;refine ⟨h.1.1.1,by simpa using h.1.1.2,fun i y hi hne hcase=>?_⟩;have h2:=List.all_eq_true.1 h.2 i (List.mem_range.2 (List.getElem?_eq_some_iff.1 hi).1);rw [hi] at h2;simp only [beq_iff_eq,hne,Bool.or_eq_true,false_or] at h2;rcases hcase with ⟨h3,h4⟩ | ⟨h3,h4⟩
 ·simp [h3,h4] at h2;exact h2
 ·simp [show ¬ i<K by omega,h4] at h2;exact h2
theorem jW {i j:Nat} {o:Oper} (hl:dQ l K j=false) (ho:l[i]? =some o) (hi:K≤i):lf l o j=true:=by
 unfold dQ at hl;have:=List.any_eq_false.1 hl i (List.mem_range.2 (List.getElem?_eq_some_iff.1 ho).1);rw [ho] at this;simpa [hi] using this
theorem mn (hQ:PQ Q) (hc:jX l K=true) {f:Nat→Value}:∀ (m k:Nat) (listed:Array Bool) (U:List Nat) (a:Act) (w':World),gm l listed→listed.toList.count false=m→listed.size=l.length→K≤k→k≤l.length→
 (∀ j,K≤j→j<l.length→listed.getD j true=decide (j<k))→U.Nodup→(∀ j,j<K→(listed.getD j true=false↔j∈U))→(∀ j∈U,j<K∧dQ l K j=true∧∃ o,l[j]? =some o∧Yields P l.toArray o (f j) a)→
 wpList P l.toArray Q (l.drop k) (gI l f U a) w'→wpAny P .any l.toArray Q m listed a w':=by
 have hc1:=(Bool.and_eq_true_iff.1 hc).1;have hlate:=(Bool.and_eq_true_iff.1 hc).2;have hKl:K≤l.length:=dT_ (Bool.and_eq_true_iff.1 hc1).1;have hck:=(List.all_eq_true.1 (Bool.and_eq_true_iff.1 hc1).2);intro m
 induction m with
 |zero=>
  intro k listed U a w' hcl hcount hs hK hkl htail hn hU hUl h
  have hall:∀ j,j<l.length→listed.getD j true=true:=by
   intro j hj;have hm:listed[j]'(by omega)∈listed.toList:=by simp
   cases hb:listed[j]'(by omega) with
   |true=>simp [Array.getD,show j<listed.size by omega,hb]
   |false=>
    rw [hb] at hm;exact absurd hcount (Nat.pos_iff_ne_zero.1 (List.count_pos_iff.2 hm))
  have hU0:U=[]:=by
   rw [List.eq_nil_iff_forall_not_mem];intro j hj;have h1:=(hU j (hUl j hj).1).2 hj;rw [hall j (by have:=(hUl j hj).1;omega)] at h1;cases h1
  have hke:k=l.length:=by
   rcases Nat.lt_or_ge k l.length with hlt | hge
   ·have h1:=htail k hK hlt;rw [hall k hlt] at h1;simp at h1
   ·omega
  subst hU0 hke;refine ⟨?_,by simpa [gI,wpList] using h⟩;rw [List.eq_nil_iff_forall_not_mem];intro j hj;obtain ⟨h0,o,ho,_⟩:=mem_ready.1 hj;rw [List.getElem?_toArray] at ho;rw [hall j (List.getElem?_eq_some_iff.1 ho).1] at h0;cases h0
 |succ m ih=>
  intro k listed U a w' hcl hcount hs hK hkl htail hn hU hUl h
  have hex:∃ i,i<l.length∧listed.getD i true=false:=by
   obtain ⟨i,hi,hb⟩:=List.mem_iff_getElem.1 (List.count_pos_iff.1 (by rw [hcount];omega:0<listed.toList.count false));have hi':i<listed.size:=by simpa using hi
   exact ⟨i,by omega,by simpa [Array.getD,hi'] using hb⟩
  obtain ⟨i0,hi0,hmin⟩:=exists_least hex
  have hready:i0∈Region.ready .any l.toArray listed:=by
   refine mem_ready.2 ⟨hi0.2,l[i0]'hi0.1,by rw [List.getElem?_toArray,List.getElem?_eq_getElem hi0.1],fun e he hb=>?_⟩;have hx:=hck i0 (List.mem_range.2 hi0.1);rw [List.getElem?_eq_getElem hi0.1] at hx;simp only [Bool.and_eq_true] at hx;have he2:=List.all_eq_true.1 hx.1.1 e (by simpa using he);rw [hb] at he2;simp at he2;rw [←bt (by omega)];cases hb2:listed.getD e.on true with
   |true=>rfl
   |false=>exact absurd (hmin e.on ⟨by omega,hb2⟩) (by omega)
  refine ⟨fun h0=>(by rw [h0] at hready;cases hready),fun i hi=>?_⟩;obtain ⟨h0,o,ho,hall⟩:=mem_ready.1 hi;rw [List.getElem?_toArray] at ho;have hil:i<l.length:=(List.getElem?_eq_some_iff.1 ho).1;have hx:=hck i (List.mem_range.2 hil);rw [ho] at hx;simp only [Bool.and_eq_true] at hx;have hsel:de o.op=false:=by simpa using hx.1.2
  have hcnt:(listed.setIfInBounds i true).toList.count false=m:=by
   have hil':i<listed.size:=by omega
   have hfalse:listed.toList[i]? =some false:=by
    rw [Array.getElem?_toList,Array.getElem?_eq_getElem hil'];simp [Array.getD,hil'] at h0;rw [h0]
   rw [Array.toList_setIfInBounds];have:=eG (l:=listed.toList) (i:=i) hfalse;omega
  by_cases hiK:i<K
  ·
   have hiU:=(hU i hiK).1 h0;obtain ⟨_,hil8,o',ho',hy⟩:=hUl i hiU;rw [ho] at ho';cases ho';obtain ⟨_,_,hap⟩:=g_ hlate hiK ho hil8;refine Yields.wpOp (by rw [List.getElem?_toArray];exact ho) hy ?_;have he:a.put o.dst (f i)=a.put ((l[i]?).bind (·.dst)) (f i):=by rw [ho];rfl
   refine ih k _ (U.erase i) _ w' (jc hcl ho hall) hcnt (by simpa using hs) hK hkl (fun j h1 h2=>by rw [getD_set_ne true (by omega)];exact htail j h1 h2) (hn.erase i) (fun j hj=>?_) (fun j hj=>?_) ?_
   ·by_cases e:i=j
    ·subst e;simp [hs,hil,hn.not_mem_erase]
    ·rw [getD_set_ne true e,hU j hj];exact (List.mem_erase_of_ne (Ne.symm e)).symm
   ·have hjU:=List.mem_of_mem_erase hj;obtain ⟨h1,h2,oj,h3,h4⟩:=hUl j hjU;have hne:i≠j:=fun e=>by subst e;exact (hn.not_mem_erase) hj
    obtain ⟨_,_,hapj⟩:=g_ hlate h1 h3 h2;have hxj:=hck j (List.mem_range.2 (by omega));rw [h3] at hxj;simp only [Bool.and_eq_true] at hxj;exact ⟨h1,h2,oj,h3,(mb (by simpa using hxj.1.2) (hapj i o ho hne (.inl ⟨hiK,hil8⟩))).2 h4⟩
   ·rw [he,mG U a hiU hn (fun j hj hne d hd=>?_)]
    ·exact h
    ·obtain ⟨h1,h2,oj,h3,h4⟩:=hUl j hj;have h5:=(Oper.apart_spec (hap j oj h3 hne (.inl ⟨h1,h2⟩))).2.1 d (by rw [ho] at hd;exact hd);rw [h3];exact h5
  ·
   have hik:i=k:=by
    rw [htail i (by omega) hil] at h0;have h0':k≤i:=by simpa using h0
    rcases Nat.eq_or_lt_of_le h0' with e | hlt
    ·exact e.symm
    ·exfalso;have h3:=hx.2;rw [if_neg hiK] at h3;have h4:=List.all_eq_true.1 h3 k (List.mem_range.2 hlt);simp only [show ¬ k<K by omega,decide_false,Bool.or_false] at h4;have h5:=eM hcl hall h4;rw [←bt (by omega),htail k hK (by omega)] at h5;simp at h5
   subst hik
   have hdrop:l.drop i=o::l.drop (i+1):=by
    rw [List.drop_eq_getElem_cons hil];rw [List.getElem?_eq_getElem hil] at ho;cases ho;rfl
   rw [hdrop] at h
   have hk2:wpOp P l.toArray Q i (wpList P l.toArray Q (l.drop (i+1))) (gI l f U a) w':=by
    unfold wpOp;rw [List.getElem?_toArray,ho];exact h
   have hne:∀ j∈U,j≠i:=fun j hj e=>by have:=(hUl j hj).1;omega
   have hk3:=nC hQ ho hsel U _ a hn (fun j hj=>by
    obtain ⟨h1,h2,oj,h3,h4⟩:=hUl j hj;obtain ⟨_,_,hapj⟩:=g_ hlate h1 h3 h2;have hxj:=hck j (List.mem_range.2 (by omega));rw [h3] at hxj;simp only [Bool.and_eq_true] at hxj;refine ⟨oj,h3,by simpa using hxj.1.2,hapj i o ho (Ne.symm (hne j hj)) (.inr ⟨by omega,?_⟩),h4,fun j' hj' hne'=>?_⟩
    ·cases hE:lf l o j with
     |false=>rfl
     |true=>
      have h5:=eM hcl hall hE;rw [←bt (by omega),(hU j h1).2 hj] at h5;cases h5
    ·obtain ⟨h1',h2',oj',h3',_⟩:=hUl j' hj';exact ⟨oj',h3',hapj j' oj' h3' hne' (.inl ⟨h1',h2'⟩)⟩) hk2
   refine wpOp_mono (fun a' w'' hh=>?_) hk3;refine ih (i+1) _ U a' w'' (jc hcl ho hall) hcnt (by simpa using hs) (by omega) (by omega) (fun j h1 h2=>?_) hn (fun j hj=>?_) (fun j hj=>?_) hh.2
   ·by_cases e:i=j
    ·subst e;simp [hs,hil]
    ·rw [getD_set_ne true e,htail j h1 h2];have:(j<i+1)↔(j<i):=by omega
     simp [this]
   ·rw [getD_set_ne true (by omega)];exact hU j hj
   ·obtain ⟨h1,h2,oj,h3,_⟩:=hUl j hj;exact ⟨h1,h2,oj,h3,hh.1 j hj oj h3⟩
end late
section late
variable {P:Program} {Q:Exit→Act→World→Prop} {n:Fr} {L:List (Nat×Value)} {w:World} {l:List Oper} {K mu:Nat} {I1 I2:World→Prop} {R1 R:Nat→Value→World→Prop}
theorem yo (hc:jX l K=true) {j j':Nat} {oj oj':Oper} {t:Nat} (hj:j<K) (hj':j'<K) (hoj:l[j]? =some oj) (hoj':l[j']? =some oj') (hd:oj.dst=some t) (hd':oj'.dst=some t):j=j':=by
 have hc1:=(Bool.and_eq_true_iff.1 hc).1;have hck:=(List.all_eq_true.1 (Bool.and_eq_true_iff.1 hc1).2);have hx:=hck j' (List.mem_range.2 (List.getElem?_eq_some_iff.1 hoj').1);rw [hoj'] at hx;simp only [Bool.and_eq_true] at hx;have h3:=hx.2;rw [if_pos hj'] at h3;simp only [Bool.and_eq_true] at h3;have h3a:=h3.1;rw [hd'] at h3a;simp only [Bool.and_eq_true] at h3a;have h5:=List.all_eq_true.1 h3a.1 j (List.mem_range.2 hj);rw [hoj] at h5;simpa [hd] using h5
theorem tc {i t:Nat} (h:wc l K i t=true):∃ j oj,j<K∧l[j]? =some oj∧oj.dst=some t∧lf l oj i=true:=by
 obtain ⟨j,hj,h2⟩:=List.any_eq_true.1 h;cases hoj:l[j]? with
 |none=>rw [hoj] at h2;cases h2
 |some oj=>
  rw [hoj] at h2;simp only [Bool.and_eq_true,beq_iff_eq] at h2;exact ⟨j,oj,List.mem_range.1 hj,hoj,h2.1,h2.2⟩
theorem iz (hc:jX l K=true) {i t:Nat} {o:Oper} (hi:i<K) (ho:l[i]? =some o) (ht:t∈ff l K i o):(o.looksAt l.toArray).elem t=true∧∃ j oj,j<K∧l[j]? =some oj∧oj.dst=some t∧j<i∧lf l o j=true:=by
 obtain ⟨ht1,ht2⟩:=List.mem_filter.1 ht;simp only [Bool.and_eq_true,Bool.not_eq_true'] at ht2;obtain ⟨oj,hoj,hdj⟩:=List.mem_filterMap.1 ht1;obtain ⟨j,hj⟩:=List.mem_iff_getElem?.1 hoj;rw [List.getElem?_take] at hj;split at hj
 ·rename_i hjK;refine ⟨ht2.1,j,oj,hjK,hj,hdj,?_⟩;have hc1:=(Bool.and_eq_true_iff.1 hc).1;have hck:=(List.all_eq_true.1 (Bool.and_eq_true_iff.1 hc1).2);have hx:=hck i (List.mem_range.2 (List.getElem?_eq_some_iff.1 ho).1);rw [ho] at hx;simp only [Bool.and_eq_true] at hx;have h3:=hx.2;rw [if_pos hi] at h3;simp only [Bool.and_eq_true] at h3;have h5:=List.all_eq_true.1 h3.2 j (List.mem_range.2 hjK);rw [hj] at h5;have h6:t∈o.looksAt l.toArray:=by simpa using ht2.1
  simpa [hdj,h6,ht2.2] using h5
 ·cases hj
theorem oJ (hc:jX l K=true) {listed:Array Bool} (hcl:gm l listed) (hs:listed.size=l.length) {i:Nat} {o:Oper} (_ho:l[i]? =some o) (hil:i<l.length) (h0:listed.getD i true=false) {L':List (Nat×Value)}
 (hfr:∀ t,(∀ i o,i<K→l[i]? =some o→listed.getD i true=true→o.dst≠some t)→bc L' t=bc L t):∀ t,(o.looksAt l.toArray).elem t=true→bc ((ff l K i o).map (fun d=>(d,bc L' d))++L) t=bc L' t:=by
 intro t ht;rw [iQ];split
 ·rfl
 ·rename_i hne;refine (hfr t fun j oj hj hoj hlj hd=>?_).symm;have hmem:t∈eZ l K:=List.mem_filterMap.2 ⟨oj,List.mem_iff_getElem?.2 ⟨j,by rw [List.getElem?_take,if_pos hj];exact hoj⟩,hd⟩;cases hb:wc l K i t with
  |false=>
   apply hne;simp only [List.elem_eq_mem,decide_eq_true_eq];exact List.mem_filter.2 ⟨hmem,by rw [ht,hb];rfl⟩
  |true=>
   obtain ⟨j',oj',hj',hoj',hd',hdep⟩:=tc hb;have hjj:=yo hc hj hj' hoj hoj' hd hd';subst hjj;rw [hoj] at hoj';cases hoj';have hjl:j<l.length:=(List.getElem?_eq_some_iff.1 hoj).1;have h1:=eM hcl (hcl j oj hoj (by rw [←bt (by omega)];exact hlj)) hdep;rw [←bt (by omega),h0] at h1;cases h1
theorem nW (hQ:PQ Q) (hc:jX l K=true) (hop:ln P l.toArray n L I2 R1 R l K mu 0 (l.take K)) (h12:∀ t v w,R1 t v w→R t v w) (hmuL:mu<K→dQ l K mu=false)
 (hend:∀ w',I2 w'→iv R w' (eZ l K) fun M=>St P l.toArray Q (l.drop K) n (M++L) w') (m:Nat) (listed:Array Bool) (L':List (Nat×Value)) (w':World) (hcl:gm l listed) (hcount:listed.toList.count false=m) (hs:listed.size=l.length)
 (htail:∀ j,K≤j→j<l.length→listed.getD j true=false) (hF:I2 w')
 (hfr:∀ t,(∀ i o,i<K→l[i]? =some o→listed.getD i true=true→o.dst≠some t)→bc L' t=bc L t)
 (hR:∀ i o d,i<K→l[i]? =some o→listed.getD i true=true→o.dst=some d→R d (bc L' d) w') (hpre:∀ i,i<K→listed.getD i true=false→dQ l K i=true):wpAny P .any l.toArray Q m listed (mkA n L') w':=by
 have hc1:=(Bool.and_eq_true_iff.1 hc).1;have hlate:=(Bool.and_eq_true_iff.1 hc).2;have hKl:K≤l.length:=dT_ (Bool.and_eq_true_iff.1 hc1).1;have hck:=(List.all_eq_true.1 (Bool.and_eq_true_iff.1 hc1).2)
 have hhead:∀ i,i<K→∃ o d,l[i]? =some o∧o.dst=some d∧de o.op=false∧(∀ j oj,j<K→j≠i→l[j]? =some oj→oj.dst≠some d):=by
  intro i hi;have hil:i<l.length:=by omega
  have hx:=hck i (List.mem_range.2 hil);rw [List.getElem?_eq_getElem hil] at hx;simp only [Bool.and_eq_true] at hx;have h3:=hx.2;rw [if_pos hi] at h3;simp only [Bool.and_eq_true] at h3;obtain ⟨h3a,h3b⟩:=h3;cases hod:(l[i]).dst with
  |none=>rw [hod] at h3a;cases h3a
  |some d=>
   rw [hod] at h3a;simp only [Bool.and_eq_true] at h3a;refine ⟨l[i],d,List.getElem?_eq_getElem hil,hod,by simpa using hx.1.2,fun j oj hj hne hoj e=>?_⟩;have h5:=List.all_eq_true.1 h3a.1 j (List.mem_range.2 hj);rw [hoj] at h5;simp [hne,e] at h5
 have hval:∀ i,i<K→listed.getD i true=false→∃ v,∀ o d,l[i]? =some o→o.dst=some d→Yields P l.toArray o v (mkA n L')∧R d v w':=by
  intro i hi hf;have hil8:=hpre i hi hf;obtain ⟨o,d,ho,hd,hsel,_⟩:=hhead i hi;obtain ⟨hk,hg,hap⟩:=g_ hlate hi ho hil8
  have hfact:∀ t∈ff l K i o,R t (bc L' t) w':=by
   intro t ht;obtain ⟨ht2,j,oj,hjK,hj,hdj,hji,_⟩:=iz hc hi ho ht;refine hR j oj t hjK hj ?_ hdj;cases hb:listed.getD j true with
   |true=>rfl
   |false=>
    have h6:=hpre j hjK hb;have h7:=(Oper.apart_spec (hap j oj hj (by omega) (.inl ⟨hjK,h6⟩))).2.2 t hdj;exact absurd (by simpa using ht2) h7
  have hlooks:=oJ (L:=L) hc hcl hs ho (by omega) hf hfr;have hok:=fp (bc L') _ hfact (mK hop i o (by rw [List.getElem?_take,if_pos hi];exact ho) (by intro e;rw [e,hmuL (by omega)] at hil8;cases hil8) w' hF);obtain ⟨hE,hW⟩:=eT (n:=n) (ops:=l.toArray) (o:=o) hsel hlooks;rw [hd] at hok;simp only [Option.getD_some] at hok
  have hyl:∃ v,Yields P l.toArray o v (mkA n L')∧R d v w':=by
   unfold ax at hok;rw [hE,hW] at hok;rcases hok with ⟨hw,⟨v,w'',hr,hF',hRv⟩ | ⟨f,args,hr,hcall⟩⟩ | ⟨hw,hRv⟩
   ·obtain ⟨rfl,hall⟩:=pM hk hr;refine ⟨v,.inl ⟨hw,fun w2=>?_⟩,h12 _ _ _ hRv⟩;rw [cT];exact hall w2
   ·exfalso;obtain ⟨dst,op,ty,pos,after,guard⟩:=o;cases op <;> simp only [mR,Bool.false_eq_true] at hk <;> simp only [execOp,Sem.run_pure,Sem.run_bind,Result.ok.injEq] at hr
    ·cases hr.1
    ·cases hr.1
    ·rename_i x i';cases hx:ev n L' x <;> simp only [hx,Instr.extract] at hr <;> (try (simp at hr;done))
     rename_i vs;cases hv:vs[i']? <;> simp [hv] at hr
   ·exact ⟨undef,.inr ⟨hw,rfl⟩,h12 _ _ _ hRv⟩
  obtain ⟨v,hv1,hv2⟩:=hyl;refine ⟨v,fun o' d' ho' hd'=>?_⟩;rw [ho] at ho';cases ho';rw [hd] at hd';cases hd';exact ⟨hv1,hv2⟩
 obtain ⟨f,hf⟩:∃ f:Nat→Value,∀ i,i<K→listed.getD i true=false→∀ o d,l[i]? =some o→o.dst=some d→Yields P l.toArray o (f i) (mkA n L')∧R d (f i) w':=by
  refine ⟨fun i=>open Classical in if h:∃ v,∀ o d,l[i]? =some o→o.dst=some d→Yields P l.toArray o v (mkA n L')∧R d v w' then h.choose else undef,fun i hi hl=>?_⟩;have h:=hval i hi hl;simp only [dif_pos h];exact h.choose_spec
 have hUm:∀ i,i∈(List.range K).filter (fun i=> !listed.getD i true)↔i<K∧listed.getD i true=false:=fun i=>by
  rw [List.mem_filter,List.mem_range];simp
 obtain ⟨U,hU,hUn⟩:∃ U:List Nat,(∀ i,i∈U↔i<K∧listed.getD i true=false)∧U.Nodup:=⟨_,hUm,List.nodup_range.sublist (List.filter_sublist ..)⟩;have hbind:∀ {i:Nat} {o:Oper},l[i]? =some o→(l[i]?).bind (·.dst)=o.dst:=fun h=>by rw [h];rfl
 have hRall:∀ d∈eZ l K,R d (bc ((U.filterMap fun i=>((l[i]?).bind (·.dst)).map fun d=>(d,f i))++L') d) w':=by
  intro d hd;obtain ⟨o,ho,hod⟩:=List.mem_filterMap.1 hd;obtain ⟨i,hi⟩:=List.mem_iff_getElem?.1 ho;rw [List.getElem?_take] at hi;split at hi
  ·rename_i hiK;obtain ⟨o',d',ho',hd',_,hdist⟩:=hhead i hiK;rw [hi] at ho';cases ho';rw [hod] at hd';cases hd'
   have hne:∀ j∈U,j≠i→(l[j]?).bind (·.dst)≠some d:=fun j hj hji=>by
    have hjK:=((hU j).1 hj).1;obtain ⟨oj,dj,hoj,_⟩:=hhead j hjK;rw [hbind hoj];exact hdist j oj hjK hji hoj
   cases hb:listed.getD i true with
   |true=>
    rw [gR U fun j hj=>hne j hj (fun e=>by subst e;have:=((hU j).1 hj).2;rw [hb] at this;cases this)];exact hR i o d hiK hi hb hod
   |false=>
    rw [jb U ((hU i).2 ⟨hiK,hb⟩) ((hbind hi).trans hod) hne];exact (hf i hiK hb o d hi hod).2
  ·cases hi
 have he:=fp _ (eZ l K) hRall (hend w' hF)
 have hL:mkA n ((eZ l K).map (fun d=>(d,bc ((U.filterMap fun i=>((l[i]?).bind (·.dst)).map fun d=>(d,f i))++L') d))++L)=gI l f U (mkA n L'):=by
  rw [mF];refine fZ fun t _=>?_
  rw [iQ];split
  ·rfl
  ·rename_i hne
   have hnd:∀ i,i<K→∀ o,l[i]? =some o→o.dst≠some t:=fun i hi o ho hod=>hne (by
    simp only [List.elem_eq_mem,decide_eq_true_eq];exact List.mem_filterMap.2 ⟨o,List.mem_iff_getElem?.2 ⟨i,by rw [List.getElem?_take,if_pos hi];exact ho⟩,hod⟩)
   rw [gR U fun j hj=>by
    have hjK:=((hU j).1 hj).1;obtain ⟨oj,dj,hoj,_⟩:=hhead j hjK;rw [hbind hoj];exact hnd j hjK oj hoj]
   exact (hfr t fun i o hi ho _ hod=>hnd i hi o ho hod).symm
 replace he:=he.out;rw [hL] at he;refine mn hQ hc m K listed U _ w' hcl hcount hs (Nat.le_refl _) hKl (fun j h1 h2=>by rw [htail j h1 h2];simp [h1]) hUn (fun j hj=>⟨fun h=>(hU j).2 ⟨hj,h⟩,fun h=>((hU j).1 h).2⟩) (fun j hj=>?_) he;obtain ⟨h1,h2⟩:=(hU j).1 hj;obtain ⟨oj,dj,hoj,hdj,_⟩:=hhead j h1;exact ⟨h1,hpre j h1 h2,oj,hoj,(hf j h1 h2 oj dj hoj hdj).1⟩
theorem wg (hQ:PQ Q) (hc:jX l K=true) (hm1:∀ w1 w2,ai w1 w2→I1 w1→I1 w2) (hm2:∀ w1 w2,ai w1 w2→I2 w1→I2 w2) (hmono1:∀ t v w1 w2,ai w1 w2→R1 t v w1→R1 t v w2) (hmono:∀ t v w1 w2,ai w1 w2→R t v w1→R t v w2)
 (hop:ln P l.toArray n L I2 R1 R l K mu 0 (l.take K)) (h12:∀ t v w,R1 t v w→R t v w) (hmuL:mu<K→dQ l K mu=false) (hmu:wO P l.toArray n L I1 I2 R1 R l K mu l[mu]?)
 (hend:∀ w',I2 w'→iv R w' (eZ l K) fun M=>St P l.toArray Q (l.drop K) n (M++L) w') :
 ∀ (m:Nat) (listed:Array Bool) (L':List (Nat×Value)) (w':World),gm l listed→listed.toList.count false=m→listed.size=l.length→(∀ j,K≤j→j<l.length→listed.getD j true=false)→I2 w'→(listed.getD mu true=false→I1 w')→
  (∀ t,(∀ i o,i<K→l[i]? =some o→listed.getD i true=true→o.dst≠some t)→bc L' t=bc L t)→
  (∀ i o d,i<K→l[i]? =some o→listed.getD i true=true→o.dst=some d→R d (bc L' d) w')→(listed.getD mu true=false→∀ i o d,i<K→l[i]? =some o→listed.getD i true=true→o.dst=some d→R1 d (bc L' d) w')→wpAny P .any l.toArray Q m listed (mkA n L') w':=by
 have hc1:=(Bool.and_eq_true_iff.1 hc).1;have hlate:=(Bool.and_eq_true_iff.1 hc).2;have hKl:K≤l.length:=dT_ (Bool.and_eq_true_iff.1 hc1).1;have hck:=(List.all_eq_true.1 (Bool.and_eq_true_iff.1 hc1).2);intro m
 induction m with
 |zero=>
  intro listed L' w' hcl hcount hs htail hF hF1 hfr hR hR1
  exact nW hQ hc hop h12 hmuL hend 0 listed L' w' hcl hcount hs htail hF hfr hR (fun i hi h=>by
   have hm:listed[i]'(by omega)∈listed.toList:=by simp
   have hb:listed[i]'(by omega)=false:=by simpa [Array.getD,show i<listed.size by omega] using h
   rw [hb] at hm;exact absurd hcount (Nat.pos_iff_ne_zero.1 (List.count_pos_iff.2 hm)))
 |succ m ih=>
  intro listed L' w' hcl hcount hs htail hF hF1 hfr hR hR1;by_cases hpre:∀ i,i<K→listed.getD i true=false→dQ l K i=true
  ·exact nW hQ hc hop h12 hmuL hend (m+1) listed L' w' hcl hcount hs htail hF hfr hR hpre
  ·
   have hn0:∃ i,i<K∧listed.getD i true=false∧dQ l K i=false:=by
    refine Classical.byContradiction fun hno=>hpre fun i hi hf=>?_
    cases hb:dQ l K i with
    |true=>rfl
    |false=>exact absurd ⟨i,hi,hf,hb⟩ hno
   obtain ⟨n0,hn0⟩:=hn0;obtain ⟨i0,hi0,hmin⟩:=exists_least (p:=fun i=>i<K∧listed.getD i true=false) ⟨n0,hn0.1,hn0.2.1⟩;have hi0l:i0<l.length:=by omega
   have hready:i0∈Region.ready .any l.toArray listed:=by
    refine mem_ready.2 ⟨hi0.2,l[i0],by rw [List.getElem?_toArray,List.getElem?_eq_getElem hi0l],fun e he hb=>?_⟩;have hx:=hck i0 (List.mem_range.2 hi0l);rw [List.getElem?_eq_getElem hi0l] at hx;simp only [Bool.and_eq_true] at hx;have he2:=List.all_eq_true.1 hx.1.1 e (by simpa using he);rw [hb] at he2;simp at he2;rw [←bt (by omega)];cases hb2:listed.getD e.on true with
    |true=>rfl
    |false=>exact absurd (hmin e.on ⟨by omega,hb2⟩) (by omega)
   refine ⟨fun h0=>(by rw [h0] at hready;cases hready),fun i hi=>?_⟩;obtain ⟨h0,o,ho,hall⟩:=mem_ready.1 hi;rw [List.getElem?_toArray] at ho;have hil:i<l.length:=(List.getElem?_eq_some_iff.1 ho).1;have hx:=hck i (List.mem_range.2 hil);rw [ho] at hx;simp only [Bool.and_eq_true] at hx
   have hiK:i<K:=by
    rcases Nat.lt_or_ge i K with h | h
    ·exact h
    ·exfalso;have h5:=eM hcl hall (jW hn0.2.2 ho h);rw [←bt (by omega),hn0.2.1] at h5;cases h5
   have h3:=hx.2;rw [if_pos hiK] at h3;simp only [Bool.and_eq_true] at h3;obtain ⟨h3a,h3b⟩:=h3;cases hod:o.dst with
   |none=>rw [hod] at h3a;cases h3a
   |some d=>
    rw [hod] at h3a;simp only [Bool.and_eq_true] at h3a;have hlooks:=oJ (L:=L) hc hcl hs ho hil h0 hfr
    have hfactG:∀ (RR:Nat→Value→World→Prop),(∀ i o d,i<K→l[i]? =some o→listed.getD i true=true→o.dst=some d→RR d (bc L' d) w')→∀ t∈ff l K i o,RR t (bc L' t) w':=by
     intro RR hRR t ht;obtain ⟨_,j,oj,hjK,hj,hd,_,hdep⟩:=iz hc hiK ho ht;have h6:=eM hcl hall hdep;exact hRR j oj t hjK hj (by rw [bt (by omega)];exact h6) hd
    have hsel:de o.op=false:=by simpa using hx.1.2
    obtain ⟨hE,hW⟩:=eT (n:=n) (ops:=l.toArray) (o:=o) hsel hlooks
    have next:∀ v w'',I2 w''→(i≠mu→listed.getD mu true=false→I1 w'')→R d v w''→(i≠mu→R1 d v w'')→(∀ t u,t≠d→R t u w'→(i=mu→R1 t u w')→R t u w'')→(i≠mu→∀ t u,R1 t u w'→R1 t u w'')→wpAny P .any l.toArray Q m (listed.setIfInBounds i true) ((mkA n L').put (some d) v) w'':=by
     intro v w'' hI2' hI1' hRv hR1v hst hst1;rw [fm]
     have hne:∀ j oj d',j<K→l[j]? =some oj→j≠i→oj.dst=some d'→d'≠d:=by
      intro j oj d' hj hoj hji hd e;have h5:=List.all_eq_true.1 h3a.1 j (List.mem_range.2 hj);rw [hoj] at h5;simp [hji,hd,e] at h5
     refine ih _ _ w'' (jc hcl ho hall) ?_ (by simpa using hs) (fun j hj1 hj2=>?_) hI2' (fun hml=>?_) (fun t ht=>?_) (fun j oj d' hj hoj hlj hd=>?_) (fun hml j oj d' hj hoj hlj hd=>?_)
     ·have hil':i<listed.size:=by omega
      have hfalse:listed.toList[i]? =some false:=by
       rw [Array.getElem?_toList,Array.getElem?_eq_getElem hil'];simp [Array.getD,hil'] at h0;rw [h0]
      rw [Array.toList_setIfInBounds];have:=eG (l:=listed.toList) (i:=i) hfalse;omega
     ·rw [getD_set_ne true (by omega)];exact htail j hj1 hj2
     ·have him:i≠mu:=fun e=>by subst e;simp [show i<listed.size by omega] at hml
      rw [getD_set_ne true him] at hml;exact hI1' him hml
     ·have htd:t≠d:=fun e=>ht i o hiK ho (by simp [show i<listed.size by omega]) (by rw [hod,e])
      rw [b_,if_neg htd];refine hfr t fun j oj hj hoj hlj=>ht j oj hj hoj ?_
      by_cases e:i=j
      ·subst e;rw [h0] at hlj;cases hlj
      ·rw [getD_set_ne true e];exact hlj
     ·rw [b_];by_cases e:j=i
      ·subst e;rw [ho] at hoj;cases hoj;rw [hod] at hd;cases hd;rw [if_pos rfl];exact hRv
      ·have hdd:=hne j oj d' hj hoj e hd;rw [if_neg hdd];rw [getD_set_ne true (Ne.symm e)] at hlj;refine hst _ _ hdd (hR j oj d' hj hoj hlj hd) (fun e2=>?_);subst e2;exact hR1 h0 j oj d' hj hoj hlj hd
     ·have him:i≠mu:=fun e=>by subst e;simp [show i<listed.size by omega] at hml
      rw [getD_set_ne true him] at hml;rw [b_];by_cases e:j=i
      ·subst e;rw [ho] at hoj;cases hoj;rw [hod] at hd;cases hd;rw [if_pos rfl];exact hR1v him
      ·rw [if_neg (hne j oj d' hj hoj e hd)];rw [getD_set_ne true (Ne.symm e)] at hlj;exact hst1 him _ _ (hR1 hml j oj d' hj hoj hlj hd)
    unfold wpOp;rw [List.getElem?_toArray,ho];show if Region.wanted o (yielded l.toArray (mkT n.n L'))=true then _ else _
    by_cases him:i=mu
    ·subst him;rw [ho] at hmu;have hok:=fp (bc L') _ (hfactG R1 (hR1 h0)) (hmu w' (hF1 h0));rw [hod] at hok;simp only [Option.getD_some] at hok;unfold sh at hok;rw [hE,hW] at hok;obtain ⟨hw,⟨v,w'',hr,hI,hRv,hst⟩ | ⟨f,args,hr,hcall⟩⟩:=hok
     ·rw [if_pos hw];refine .inl ?_;unfold Oper.wp;rw [cT,hr,Oper.upon_value,hod];exact next v w'' hI (fun h=>absurd rfl h) hRv (fun h=>absurd rfl h) (fun t u ht _ h1=>hst t u ht (h1 rfl)) (fun h=>absurd rfl h)
     ·rw [if_pos hw];refine .inl ?_;unfold Oper.wp;rw [cT,hr,Oper.upon_enter,hod];refine Calls.mono hcall fun e w'' ⟨v,he,hI,hRv,hst⟩=>?_
      subst he;exact next v w'' hI (fun h=>absurd rfl h) hRv (fun h=>absurd rfl h) (fun t u ht _ h1=>hst t u ht (h1 rfl)) (fun h=>absurd rfl h)
    ·have hok:=fp (bc L') _ (hfactG R hR) (mK hop i o (by rw [List.getElem?_take,if_pos hiK];exact ho) him w' hF);rw [hod] at hok;simp only [Option.getD_some] at hok;unfold ax at hok;rw [hE,hW] at hok
     have next':∀ v w'',ai w' w''→R1 d v w''→wpAny P .any l.toArray Q m (listed.setIfInBounds i true) ((mkA n L').put (some d) v) w'':=fun v w'' hF' hRv=>
      next v w'' (hm2 _ _ hF' hF) (fun _ h=>hm1 _ _ hF' (hF1 h)) (h12 _ _ _ hRv) (fun _=>hRv) (fun t u _ h _=>hmono _ _ _ _ hF' h) (fun _ t u h=>hmono1 _ _ _ _ hF' h)
     rcases hok with ⟨hw,⟨v,w'',hr,hF',hRv⟩ | ⟨f,args,hr,hcall⟩⟩ | ⟨hw,hRv⟩
     ·rw [if_pos hw];refine .inl ?_;unfold Oper.wp;rw [cT,hr,Oper.upon_value,hod];exact next' v w'' hF' hRv
     ·rw [if_pos hw];refine .inl ?_;unfold Oper.wp;rw [cT,hr,Oper.upon_enter,hod];refine Calls.mono hcall fun e w'' ⟨v,he,hF',hRv⟩=>?_
      subst he;exact next' v w'' hF' hRv
     ·rw [if_neg (by rw [hw];simp),hod];exact next' undef w' ai.rfl_ hRv
theorem br {id:Nat} (K:Nat) (RL:List (Nat×(Value→World→Prop))) (hQ:PQ Q) (hm:P.follows .mixedOrders=true) (hc:jX l K=true) (hmono:oo RL)
 (hop:ln P l.toArray n L (ai w) (fW RL) (fW RL) l K l.length 0 (l.take K)) (hend:∀ w',ai w w'→iv (fW RL) w' (eZ l K) fun M=>St P l.toArray Q (l.drop K) n (M++L) w'):Cd P (.region id l.toArray true) Q n L w:=by
 refine ⟨wp_region_any hm ?_⟩;have hKl:K≤l.length:=dT_ (Bool.and_eq_true_iff.1 (Bool.and_eq_true_iff.1 hc).1).1
 have:=wg (Q:=Q) (mu:=l.length) (I1:=ai w) (I2:=ai w) (R1:=fW RL) hQ hc (fun _ _ hF h=>h.next hF) (fun _ _ hF h=>h.next hF) (ga hmono) (ga hmono) hop (fun _ _ _ h=>h) (fun h=>absurd h (by omega)) (by simp [wO]) hend l.length (Array.replicate l.length false) L { w with drawn:=w.drawn+1 } (lA l _) (by simp) (by simp)
  (fun j _ hj=>by simp [Array.getD,hj]) ai.rfl_.d1 (fun _=>ai.rfl_.d1) (fun _ _=>rfl) (fun i o d hi _ hl=>by
   have:i<l.length:=by omega
   simp [Array.getD,this] at hl) (fun _ i o d hi _ hl=>by
   have:i<l.length:=by omega
   simp [Array.getD,this] at hl)
 simpa using this
end late
end Go.Proofs.YtkpooenofjdpmaaGreat
namespace Go.Proofs.YtkpooenofjdpmaaGreat
open Go.Proofs.Tryz (prog)
open Go.RowKit
theorem fO {w:World} {bs e s n c m:Nat} {A:Option Addr} {l:List Value} (h:w.ownsRow bs e s (.slice A n c) m l):∀ k,A.map (·.block)=some k→bs≤k∧k<w.heap.size:=fun k hk=>h.lt k (by rw [←hk];cases A <;> rfl)
end Go.Proofs.YtkpooenofjdpmaaGreat
namespace Go.Proofs.YtkpooenofjdpmaaGreat
open Go.Proofs.Tryz (prog)
open Go.RowKit
section
variable {P:Program} {ops:Array Oper} {Q:Exit→Act→World→Prop} {rest:List Oper} {n:Fr} {L:List (Nat×Value)} {w:World} {ty:TypeId} {pos:String} {after:Array Edge} {d:Nat} {x:Operand}
theorem pw {ρ:Operand→Value} {f:FuncId} {l1 l2:List Operand}:RO P ρ (.makeFunc (.func f) l1.toArray l2.toArray) w (.func (.func f) (l1.map ρ).toArray (l2.map ρ).toArray) w:=fun _ _ _ _ _=>by
 simp [execOp,Instr.makeFunc]
end
end Go.Proofs.YtkpooenofjdpmaaGreat
namespace Go.Proofs.YtkpooenofjdpmaaGreat
open Go.Proofs.Tryz (prog)
open Go.RowKit Go.ChangeShapes Go.WideShapes Go.ChangeAt
theorem oE {w:World} {base e s n c m g t:Nat} {A:Option Addr} {xs:List Value} {cs:Array Value} (h:w.ownsRow base e s (.slice A n c) m xs) (hb:Blk w g t cs) (hne:t≠e):∀ k,A.map (·.block)=some k→k≠g:=by
 rintro k hk rfl;rcases h.2 with ⟨h0,_⟩ | ⟨g',cap,cur,hv,hg,hh,r⟩
 ·simp only [Value.slice.injEq] at h0;rw [h0.1] at hk;cases hk
 ·simp only [Value.slice.injEq] at hv;rw [hv.1] at hk;simp only [Option.map_some,Option.some.injEq] at hk;subst hk;unfold Blk at hb;rw [hh] at hb;simp only [Option.some.injEq,Obj.cells.injEq] at hb;exact hne hb.2.1.symm
theorem fY {w w':World} {base e s n c g:Nat} {A:Option Addr} {xs:List Value} (h:w.ownsRow base e s (.slice A n c) n xs) (o:dw g w w') (hne:∀ k,A.map (·.block)=some k→k≠g):w'.ownsRow base e s (.slice A n c) n xs:=by
 refine ⟨h.1,?_⟩;rcases h.2 with h2 | ⟨g',cap,cur,hv,hg,hh,r⟩
 ·exact .inl h2
 ·refine .inr ⟨g',cap,cur,hv,hg,?_,r⟩;simp only [Value.slice.injEq] at hv;rw [o.block g' (hne g' (by rw [hv.1];rfl))];exact hh
theorem fE {w:World} {base base' size n:Nat} {e:TypeId} {v:Value} {xs:List Value} (h:w.ownsRow base e size v n xs) (hb:base'≤base):w.ownsRow base' e size v n xs:=by
 refine ⟨h.1,?_⟩;rcases h.2 with h0 | ⟨g,cap,cur,hv,hg,r⟩
 ·exact .inl h0
 ·exact .inr ⟨g,cap,cur,hv,by omega,r⟩
theorem o8 {H:Type} {enc:TypeId×Value→H} {F:FuncId} {T:TypeId} (t u:Ty) (hf:(Ty.pr t u).fits prog (.inl T)=true)
 (h:∀ (cs:Array Value) (x:(Ty.pr t u).den) (w:World),cs.size=(Ty.pr t u).size→(Ty.pr t u).At w (fun j=>cs[j]?) x→Rt prog F [.agg cs] w fun v w'=>v=.bool true∧ai w w')
 (W:World) (base:Nat) (v:Value) (d:DataW H) (p:List MemPlace) (hok:Value.okWide prog W .any base T v) (ht:DataW.Trod enc prog W 0 (fun _=>true) true T v d p) (hsz:∀ n∈d.weights prog T,n≤140737488351232) :
 Calls prog F #[v] W fun e W'=>e=.returned (.bool true)∧ai W W':=by
 obtain ⟨cs,x,rfl,hs,ha⟩:=yc t u hf hok ht hsz;exact Rt.to (h cs x W hs ha)
end Go.Proofs.YtkpooenofjdpmaaGreat
namespace Go.Proofs.YtkpooenofjdpmaaGreat
open Go.Proofs.Tryz (prog)
open Go.RowKit
section
variable {α:Type} {f:α→List Value} {s:Nat}
theorem kD (hf:∀ x,(f x).length=s):∀ (L:List α),(L.flatMap f).length=L.length*s
 |[]=>by simp
 |x::r=>by rw [List.flatMap_cons,List.length_append,hf,kD hf r,List.length_cons,Nat.succ_mul];omega
theorem n4 (hf:∀ x,(f x).length=s):∀ (L:List α) (k:Nat),(L.flatMap f).drop (k*s)=(L.drop k).flatMap f
 |[],k=>by simp
 |x::r,0=>by simp
 |x::r,k+1=>by
  rw [List.flatMap_cons,List.drop_succ_cons,←n4 hf r k,List.drop_append,hf];rw [show (k+1)*s-s=k*s by rw [Nat.succ_mul];omega,List.drop_of_length_le (by rw [hf,Nat.succ_mul];omega),List.nil_append]
theorem sF (hf:∀ x,(f x).length=s) (L:List α) (i:Nat) (hi:i<L.length) (j:Nat) (hj:j<s):(L.flatMap f)[i*s+j]? =(f L[i])[j]? :=by
 have h1:((L.flatMap f).drop (i*s))[j]? =(L.flatMap f)[i*s+j]? :=by rw [List.getElem?_drop]
 rw [←h1,n4 hf,List.drop_eq_getElem_cons hi,List.flatMap_cons,List.getElem?_append_left (by rw [hf];exact hj)]
theorem uU {L:List α} (h:∀ x∈L,∀ u∈f x,u.oneCell'=true):∀ u∈L.flatMap f,u.oneCell'=true:=fun u hu=>by
 obtain ⟨x,hx,hu⟩:=List.mem_flatMap.1 hu;exact h x hx u hu
def jU (s:Nat) (f:α→List Value) (w:World) (A:Option Addr) (L:List α):Prop:=0<L.length→∃ b o,A=some ⟨b,o,none⟩∧∀ i (h:i<L.length),w.rangeAt b (o+i*s) (f L[i])
theorem jU.from_ {w w':World} {A:Option Addr} {L:List α} (h:jU s f w A L) (hF:ai w w'):jU s f w' A L:=fun h0=>
 let ⟨b,o,hA,hc⟩:=h h0
 ⟨b,o,hA,fun i hi=>fL hF (hc i hi)⟩
theorem jU.flat (hf:∀ x,(f x).length=s) {w:World} {A:Option Addr} {L:List α} (h:jU s f w A L):0<L.length→∃ b o,A=some ⟨b,o,none⟩∧w.rangeAt b o (L.flatMap f):=fun h0=>by
 obtain ⟨b,o,hA,hc⟩:=h h0;refine ⟨b,o,hA,fun j v hv=>?_⟩
 have hlt:j<L.length*s:=by
  rw [←kD hf];rcases Nat.lt_or_ge j (L.flatMap f).length with a | a
  ·exact a
  ·rw [List.getElem?_eq_none a] at hv;cases hv
 have hs:0<s:=by
  rcases Nat.eq_zero_or_pos s with h | h
  ·subst h;omega
  ·exact h
 have hi:j/s<L.length:=by rw [Nat.div_lt_iff_lt_mul hs];exact hlt
 have hj:j/s*s+j%s=j:=by rw [Nat.mul_comm];exact Nat.div_add_mod j s
 rw [←hj,sF hf L _ hi _ (Nat.mod_lt _ hs)] at hv;have:=hc _ hi _ v hv
 rwa [Nat.add_assoc,hj] at this
theorem jU.own (hf:∀ x,(f x).length=s) (hs:0<s) {w:World} {base e n c:Nat} {A:Option Addr} {L:List α} (h:w.ownsRow base e s (.slice A n c) n (L.flatMap f)):L.length=n∧jU s f w A L:=by
 have hn:L.length=n:=by
  have:=h.1;rw [kD hf] at this;exact Nat.eq_of_mul_eq_mul_right hs this
 refine ⟨hn,fun h0=>?_⟩;obtain ⟨g,rfl⟩:=du h (by omega);refine ⟨g,0,rfl,fun i hi j v hv=>?_⟩
 have hj:j<s:=by
  rw [←hf L[i]];rcases Nat.lt_or_ge j (f L[i]).length with a | a
  ·exact a
  ·rw [List.getElem?_eq_none a] at hv;cases hv
 have hlt:i*s+j<n*s:=by
  have:(i+1)*s≤n*s:=Nat.mul_le_mul_right s (by omega);rw [Nat.succ_mul] at this;omega
 rw [Nat.zero_add,h.cellAt _ hlt,sF hf L i hi j hj];exact hv
end
theorem vZ {w:World} {base e size n c:Nat} {A:Option Addr} {xs:List Value} (h:w.ownsRow base e size (.slice A n c) n xs) (hn:0<n) :
 ∃ g cur,A=some ⟨g,0,none⟩∧base≤g∧Blk w g e (List.toArray cur)∧n≤c∧c≤maxLen∧cur.length=c*size∧cur.take (n*size)=xs:=by
 rcases h.2 with ⟨_,h0⟩ | ⟨g,cap,cur,hv,hg,hh,h1,h2,h3,h4⟩
 ·omega
 ·simp only [Value.slice.injEq,true_and] at hv;obtain ⟨rfl,rfl⟩:=hv;exact ⟨g,cur.toList,rfl,hg,by simpa [Blk] using hh,h1,h2,by simpa using h3,h4⟩
theorem oF {w:World} {base e size n c g:Nat} {cur xs:List Value} (hg:base≤g) (hb:Blk w g e cur.toArray) (h1:n≤c) (h2:c≤maxLen) (h3:cur.length=c*size) (h4:cur.take (n*size)=xs) :
 w.ownsRow base e size (.slice (some ⟨g,0,none⟩) n c) n xs:=by
 refine ⟨?_,.inr ⟨g,c,cur.toArray,rfl,hg,hb,h1,h2,by simpa using h3,by simpa using h4⟩⟩;rw [←h4,List.length_take,h3];exact Nat.min_eq_left (Nat.mul_le_mul_right _ h1)
theorem eQ (cs vs:List Value) (o:Nat) (h:o+vs.length≤cs.length):(gp cs o vs).length=cs.length:=by simp [gp];omega
theorem ux (cs:List Value) (o:Nat):gp cs o []=cs:=by simp [gp]
theorem gk (cs vs:List Value) (o j:Nat) (h:o+vs.length≤cs.length):(gp cs o vs)[j]? =if o≤j∧j<o+vs.length then vs[j-o]? else cs[j]? :=by
 unfold gp;by_cases h1:j<o
 ·rw [if_neg (by omega),List.append_assoc,List.getElem?_append_left (by simp;omega),List.getElem?_take_of_lt h1]
 ·by_cases h2:j<o+vs.length
  ·rw [if_pos ⟨by omega,h2⟩,List.append_assoc,List.getElem?_append_right (by simp;omega),List.getElem?_append_left (by simp;omega)]
   congr 1
   simp;omega
  ·rw [if_neg (by omega),List.getElem?_append_right (by simp;omega),List.getElem?_drop]
   congr 1
   simp;omega
section
variable {P:Program} {ρ:Operand→Value} {w:World}
theorem yr {t s:Nat} (h:dr P t=some s):∃ i,P.info? t=some i∧i.size=s:=by
 unfold dr at h;cases hi:P.info? t with
 |none=>simp [hi] at h
 |some i=>exact ⟨i,rfl,by simpa [hi] using h⟩
theorem s6 {g o:Nat} {u:TypeId} {cur vs:List Value} {A:Option Addr} (hA:0<vs.length→A=some ⟨g,o,none⟩) (hb:Blk w g u cur.toArray) (hfit:o+vs.length≤cur.length) (h1:∀ v∈vs,v.oneCell'=true) :
 ∃ w',(match A with | some a=>storeCells a vs | none=>(pure ():Sem Unit)).run P w=.ok () w'∧dw g w w'∧Blk w' g u (gp cur o vs).toArray:=by
 cases vs with
 |nil=>
  refine ⟨w,?_,dw.rfl_,by rw [ux];exact hb⟩;cases A <;> simp [storeCells]
 |cons v vs=>
  obtain rfl:=hA (by simp);have:=run_storeCells_at P g o u (v::vs) 0 cur.toArray w hb (by simpa using hfit) h1;refine ⟨_,this,?_,?_⟩
  ·exact ⟨rfl,rfl,rfl,by simp [World.setRow],fun k hk=>setRow_other w g k _ hk⟩
  ·have h2:=setRow_heap w g cur.toArray ((cur.toArray.toList.take (o+0)++(v::vs)++cur.toArray.toList.drop (o+0+(v::vs).length)).toArray) u (0,0) hb;exact h2
theorem nL {cs:List Value} {n:Nat} {A:Option Addr} (hn:cs.length=n) (h:0<cs.length→∃ b o,A=some ⟨b,o,none⟩∧w.rangeAt b o cs) :
 (match A with | some a=>loadCells a n | none=>(pure #[]:Sem (Array Value))).run P w=.ok cs.toArray w:=by
 subst hn;cases cs with
 |nil=>cases A <;> simp [loadCells,loadCellsFrom]
 |cons c cs=>
  obtain ⟨b,o,rfl,hr⟩:=h (by simp);exact run_loadCells_list (P:=P) w ⟨b,o,none⟩ (c::cs) (fun j v hv=>by rw [Addr.add_mid];exact hr j v hv)
theorem ui {d s:Operand} {dT sT e size g o m c j c2:Nat} {A A2:Option Addr} {u:TypeId} {cur news:List Value} (ht:e_ P dT=some (e,size)) (hd:ρ d=.slice A m c) (hs:ρ s=.slice A2 j c2) (hn:news.length=min j m*size)
 (hA:0<news.length→A=some ⟨g,o,none⟩) (hsrc:0<news.length→∃ b o,A2=some ⟨b,o,none⟩∧w.rangeAt b o news) (hb:Blk w g u cur.toArray) (hfit:o+news.length≤cur.length) (h1:∀ v∈news,v.oneCell'=true) :
 ∃ w',RO P ρ (.call { callee:=.builtin .copy,args:=#[d,s],argTypes:=#[dT,sT] }) w (.int .i64 (min j m:Nat)) w'∧dw g w w'∧Blk w' g u (gp cur o news).toArray:=by
 obtain ⟨hu,hsz⟩:=jR ht;obtain ⟨i,hi,hs2⟩:=yr hsz;subst hs2;obtain ⟨w',hst,ho,hbl⟩:=s6 (P:=P) (A:=A) hA hb hfit h1;have hl:=nL (P:=P) (n:=min j m*i.size) hn hsrc
 have key:∀ ty,(Builtin.copy_ #[dT,sT] ty #[.slice A m c,.slice A2 j c2]).run P w=.ok (.int .i64 (min j m:Nat)) w':=fun ty=>by
  have e1:Nat.min j m=min j m:=rfl;cases A2 with
  |none=>
   cases A with
   |none=>simp_all [Builtin.copy_,run_underlying hu,Builtin.lenOf,Builtin.firstCells,sizeOf,typeInfo,goInt]
   |some a=>simp_all [Builtin.copy_,run_underlying hu,Builtin.lenOf,Builtin.firstCells,sizeOf,typeInfo,goInt]
  |some a2=>
   simp only at hl;cases A with
   |none=>simp_all [Builtin.copy_,run_underlying hu,Builtin.lenOf,Builtin.firstCells,sizeOf,typeInfo,goInt]
   |some a=>simp_all [Builtin.copy_,run_underlying hu,Builtin.lenOf,Builtin.firstCells,sizeOf,typeInfo,goInt]
 refine ⟨w',fun dst ty pos after gg=>?_,ho,hbl⟩;unfold execOp;simp only [resolve,invoke,builtin,Sem.run_bind,Sem.run_pure,Result.andThen_ok,List.map_toArray,List.map_cons,List.map_nil,hd,hs,key]
theorem rp {s x:Operand} {t tn e size by_ m cap k:Nat} {A:Option Addr} {z:Value} {kn:IntKind} {olds:List Value} (hq:gA P t=some (e,size,by_,z)) (htn:P.underlying tn=some (.int kn)) (hzs:z.cells.size=size) (hs0:0<size)
 (hs:ρ s=.slice A m cap) (hx:ρ x=.int .i64 (k:Nat)) (hol:olds.length=m*size) (hold:0<olds.length→∃ b o,A=some ⟨b,o,none⟩∧w.rangeAt b o olds) (h0:0<k) (hg:cap<m+k) (h63:m+k≤maxLen) (hby:(m+k)*by_≤140737488355328) (_:m≤cap) :
 ∃ c' w' cur,RO P ρ (.call { callee:=.builtin .append,args:=#[s,x],argTypes:=#[t,tn] }) w (.slice (some ⟨w.heap.size,0,none⟩) (m+k) c') w'∧ai w w'∧Blk w' w.heap.size e (List.toArray cur)∧m+k≤c'∧c'≤maxLen∧cur.length=c'*size∧cur.take (m*size)=olds:=by
 obtain ⟨i,hu,hi,hsz,hb,hz⟩:=kd hq;subst hsz;subst hb
 have hld:(Builtin.firstCells i.size m (.slice A m cap)).run P w.drew=.ok olds.toArray w.drew:=by
  have:=nL (P:=P) (w:=w.drew) (n:=m*i.size) hol (fun h=>let ⟨b,o,h1,h2⟩:=hold h;⟨b,o,h1,fun j v hv=>h2 j v hv⟩);cases A <;> exact this
 have hnx:Builtin.nextslicecap (m+k) cap*i.bytes≤281474976710656:=growslice_fits hg hby
 have hrun:=fun ty=>Lib.run_append_grow_zeros (P:=P) w t tn ty e i z .i64 kn hu htn hi hz A m cap olds hld k h0 hs0 hg (by unfold maxLen at h63;omega) (by
  have:k*i.bytes≤(m+k)*i.bytes:=Nat.mul_le_mul_right _ (by omega);omega) hnx
 have hcge:=grownCap_ge w (m+k) cap e;have hcle:=grownCap_le_maxLen w (m+k) cap e h63
 generalize grownCap w (m+k) cap e=c' at hrun hcge hcle
 refine ⟨c',w.drew.alloc (.cells (olds.toArray++Builtin.zeroCells z.cells k++Builtin.zeroCells z.cells (c'-(m+k))) e),olds++(Builtin.zeroCells z.cells k).toList++(Builtin.zeroCells z.cells (c'-(m+k))).toList,fun dst ty pos after gg=>?_,ai.rfl_.d1.new _,?_,hcge,hcle,?_,?_⟩
 ·unfold execOp;simp only [resolve,invoke,builtin,Sem.run_bind,Sem.run_pure,Result.andThen_ok,List.map_toArray,List.map_cons,List.map_nil,hs,hx,hrun]
 ·have:=Blk.new w.drew e (olds.toArray++Builtin.zeroCells z.cells k++Builtin.zeroCells z.cells (c'-(m+k)))
  have e1:(olds++(Builtin.zeroCells z.cells k).toList++(Builtin.zeroCells z.cells (c'-(m+k))).toList).toArray=olds.toArray++Builtin.zeroCells z.cells k++Builtin.zeroCells z.cells (c'-(m+k)):=by
   apply Array.toList_inj.1;simp
  rw [e1];exact this
 ·simp only [List.length_append,Array.length_toList,size_zeroCells,hzs,hol,←Nat.add_mul]
  congr 1
  omega
 ·rw [List.append_assoc,List.take_append_of_le_length (by omega),List.take_of_length_le (by omega)]
end
end Go.Proofs.YtkpooenofjdpmaaGreat
namespace Go.Proofs.YtkpooenofjdpmaaGreat
open Go.Proofs.Tryz (prog)
open Go.RowKit
section
variable {P:Program} {ops:Array Oper} {Q:Exit→Act→World→Prop} {rest:List Oper} {n:Fr} {L:List (Nat×Value)} {w:World} {ty:TypeId} {pos:String} {after:Array Edge} {d:Nat} {t:TypeId} {x s:Operand}
theorem kt {dT sT e size g o m c j c2:Nat} {A A2:Option Addr} {u:TypeId} {cur news:List Value} (ht:e_ P dT=some (e,size)) (hd:ev n L x=.slice A m c) (hs:ev n L s=.slice A2 j c2) (hn:news.length=min j m*size)
 (hA:0<news.length→A=some ⟨g,o,none⟩) (hsrc:0<news.length→∃ b o,A2=some ⟨b,o,none⟩∧w.rangeAt b o news) (hb:Blk w g u cur.toArray) (hfit:o+news.length≤cur.length) (h1:∀ v∈news,v.oneCell'=true)
 (k:∀ w',dw g w w'→Blk w' g u (gp cur o news).toArray→St P ops Q rest n ((d,.int .i64 (min j m:Nat))::L) w') :
 St P ops Q (⟨some d,.call { callee:=.builtin .copy,args:=#[x,s],argTypes:=#[dT,sT] },ty,pos,after,none⟩::rest) n L w:=
 let ⟨w',hr,ho,hb'⟩:=ui (sT:=sT) ht hd hs hn hA hsrc hb hfit h1
 ab hr (k w' ho hb')
theorem q9 {tn e size by_ m cap k0:Nat} {A:Option Addr} {z:Value} {kn:IntKind} {olds:List Value} (hq:gA P t=some (e,size,by_,z)) (htn:P.underlying tn=some (.int kn)) (hzs:z.cells.size=size) (hs0:0<size)
 (hs:ev n L s=.slice A m cap) (hx:ev n L x=.int .i64 (k0:Nat)) (hol:olds.length=m*size) (hold:0<olds.length→∃ b o,A=some ⟨b,o,none⟩∧w.rangeAt b o olds) (h0:0<k0) (hg:cap<m+k0) (h63:m+k0≤maxLen) (hby:(m+k0)*by_≤140737488355328) (hmc:m≤cap)
 (k:∀ g c' w' cur,g=w.heap.size→ai w w'→Blk w' g e (List.toArray cur)→m+k0≤c'→c'≤maxLen→cur.length=c'*size→cur.take (m*size)=olds→St P ops Q rest n ((d,.slice (some ⟨g,0,none⟩) (m+k0) c')::L) w') :
 St P ops Q (⟨some d,.call { callee:=.builtin .append,args:=#[s,x],argTypes:=#[t,tn] },ty,pos,after,none⟩::rest) n L w:=
 let ⟨c',w',cur,hr,hF,hb,h1,h2,h3,h4⟩:=rp hq htn hzs hs0 hs hx hol hold h0 hg h63 hby hmc
 ab hr (k _ c' w' cur rfl hF hb h1 h2 h3 h4)
theorem xJ {ρ:Operand→Value} {A:Option Addr} {m c:Nat} (ht:(e_ P t).isSome=true) (hx:ρ x=.slice A m c):RO P ρ (.call { callee:=.builtin .cap,args:=#[x],argTypes:=#[t] }) w (.int .i64 c) w:=fun _ _ _ _ _=>by
 obtain ⟨⟨e,sz⟩,he⟩:=Option.isSome_iff_exists.mp ht;obtain ⟨hu,_⟩:=jR he;simp [BigFrame.execOp_builtin,BigFrame.builtin_cap,Builtin.cap_,run_underlying hu,hx,goInt]
theorem ps {f : FuncId} {fn : Func} {tS tR e size : Nat} {a b : Operand} {ats : Array TypeId} {g1 o1 g2 o2 la ca lb cb : Nat} {t1 t2 : TypeId} {cs1 cs2 : Array Value} (hf : P.funcs[f]? = some fn) (hname : (fn.name == "runtime.NumGoroutine") = false)
 (hb:fn.body.isNone=true) (hnx:Extern.findNext fn=none) (he:Extern.find fn=some (Extern.SlicesOverlaps.overlaps #[tS,tS] #[tR])) (ht:e_ P tS=some (e,size)) (ha:ev n L a=.slice (some ⟨g1,o1,none⟩) la ca) (hb2:ev n L b=.slice (some ⟨g2,o2,none⟩) lb cb) (hne:g1≠g2)
 (hA:Blk w g1 t1 cs1) (hB:Blk w g2 t2 cs2) (h0:cs2.size≠0):RO P (ev n L) (.call { callee:=.value (.func f),args:=#[a,b],argTypes:=ats }) w (.bool false) w:=fun dst ty pos after g=>by
 obtain ⟨hu,hs⟩:=jR ht;have h1:=Lib.run_overlaps_apart (P:=P) w tS tR e hu size (fun w=>eS hs) ⟨g1,o1,none⟩ ⟨g2,o2,none⟩ la ca lb cb hne t1 t2 cs1.size cs2.size (by unfold Blk at hA;simp [World.shape?,hA]) (by unfold Blk at hB;simp [World.shape?,hB]) h0 (hA.frozen _) (hA.frozen _);rw [show (#[a,b]:Array Operand)=[a,b].toArray from rfl,gd (fun _=>rfl)];simp only [List.map_cons,List.map_nil,ha,hb2];rw [run_callFunc_extern hf hname hb hnx he,h1];rfl
theorem vT {ρ:Operand→Value} {e size by_:Nat} {z:Value} (hq:gA P t=some (e,size,by_,z)):RO P ρ (.buildSlice t 0 #[]) w (.slice (some ⟨w.heap.size,0,none⟩) 0 0) (w.alloc (.cells #[] e)):=fun _ _ _ _ _=>by
 obtain ⟨i,hu,hi,hs,_,hz⟩:=kd hq;simp [execOp,Instr.buildSlice,run_underlying hu,sizeOf,typeInfo,hi,Instr.fill,newRow];have:(Array.range 0)=#[]:=by simp [Array.range]
 rw [this,Array.map_empty]
theorem so {e size by_:Nat} {z:Value} (hq:gA P t=some (e,size,by_,z)) (base:Nat) (hbs:base≤w.heap.size) (k:∀ g w',ai w w'→g=w.heap.size→w'.ownsRow base e size (.slice (some ⟨g,0,none⟩) 0 0) 0 []→St P ops Q rest n ((d,.slice (some ⟨g,0,none⟩) 0 0)::L) w') :
 St P ops Q (⟨some d,.buildSlice t 0 #[],ty,pos,after,none⟩::rest) n L w:=
 ab (vT hq) (k _ _ (ai.rfl_.new _) rfl ⟨by simp,.inr ⟨w.heap.size,0,#[],rfl,hbs,heap_alloc_new w _,Nat.le_refl _,by decide,by simp,by simp⟩⟩)
theorem mB {ρ:Operand→Value} {e yt:TypeId} {y:Operand} {a:Option Addr} {m c:Nat} (ht:P.underlying t=some (.slice e)) (hx:ρ x=.slice a m c) (hy:ρ y=.slice none 0 0):RO P ρ (.binOp .eql t x y yt) w (.bool a.isNone) w:=
 kU hx hy (by unfold eqGuard;cases a <;> rfl) (run_eql_slice_nil w t e a m c ht)
end
section
variable {P:Program} {ops:Array Oper} {Q:Exit→Act→World→Prop} {rest:List Oper} {n:Fr} {L:List (Nat×Value)} {w:World} {ty:TypeId} {pos:String} {after:Array Edge} {t:TypeId} {x y:Operand}
theorem mq {base e size m c g o:Nat} {xs:List Value} {v:Value} (ht:dr P t=some 1) (hx:ev n L x=.pointer (some ⟨g,o,none⟩)) (hy:ev n L y=v) (h1:v.oneCell'=true)
 (ho:w.ownsRow base e size (.slice (some ⟨g,0,none⟩) m c) m xs) (hi:o<m*size)
 (k:∀ w',dw g w w'→w'.ownsRow base e size (.slice (some ⟨g,0,none⟩) m c) m (xs.set o v)→St P ops Q rest n L w'):St P ops Q (⟨none,.store t x y,ty,pos,after,none⟩::rest) n L w:=by
 have hlen:xs.length=m*size:=ho.1;have hc:w.cell? ⟨g,o,none⟩=some (xs[o]'(by omega)):=by rw [ho.cellAt o hi];simp [hlen,hi]
 exact ks (kx ht hx hy h1 hc (ho.frozenAt o)) (k _ (dw.setCell w g o v) (ho.stored o v).1)
end
section
variable {α:Type} {f:α→List Value} {s:Nat}
theorem pT {cur xs vs:List Value} {n i m c:Nat} (hi:i≤n) (hc:n+m≤c) (h3:cur.length=c*s) (hx:xs.length=n*s) (h4:cur.take (i*s)=xs.take (i*s)) (hv:vs.length=m*s) :
 (gp (gp cur ((i+m)*s) (xs.drop (i*s))) (i*s) vs).take ((n+m)*s)=xs.take (i*s)++vs++xs.drop (i*s)∧(gp (gp cur (i*s) vs) ((i+m)*s) (xs.drop (i*s))).take ((n+m)*s)=xs.take (i*s)++vs++xs.drop (i*s):=by
 have hd:(xs.drop (i*s)).length=(n-i)*s:=by rw [List.length_drop,hx,Nat.sub_mul]
 have e1:(i+m)*s=i*s+m*s:=Nat.add_mul ..;have e4:(n+m)*s=(i+m)*s+(n-i)*s:=by rw [←Nat.add_mul];congr 1;omega
 have e5:(n+m)*s≤c*s:=Nat.mul_le_mul_right _ hc;have e6:i*s≤n*s:=Nat.mul_le_mul_right _ hi;have ht:(cur.take (i*s)).length=i*s:=by rw [List.length_take];omega
 have key:∀ l:List Value,l.length=c*s→(∀ k,k<i*s→l[k]? =xs[k]?)→(∀ k,k<m*s→l[i*s+k]? =vs[k]?)→(∀ k,k<(n-i)*s→l[(i+m)*s+k]? =(xs.drop (i*s))[k]?)→l.take ((n+m)*s)=xs.take (i*s)++vs++xs.drop (i*s):=by
  intro l hl k1 k2 k3;apply List.ext_getElem?;intro k;rw [List.getElem?_take];by_cases h1:k<i*s
  ·rw [if_pos (by omega),k1 k h1,List.append_assoc,List.getElem?_append_left (by rw [List.length_take];omega),List.getElem?_take_of_lt h1]
  ·by_cases h2:k<(i+m)*s
   ·have:=k2 (k-i*s) (by omega);rw [show i*s+(k-i*s)=k by omega] at this;rw [if_pos (by omega),this,List.append_assoc,List.getElem?_append_right (by rw [List.length_take];omega),List.length_take,Nat.min_eq_left (by omega),List.getElem?_append_left (by omega)]
   ·by_cases h5:k<(n+m)*s
    ·have:=k3 (k-(i+m)*s) (by omega);rw [show (i+m)*s+(k-(i+m)*s)=k by omega] at this;rw [if_pos h5,this,List.getElem?_append_right (by rw [List.length_append,List.length_take];omega)]
     congr 1
     rw [List.length_append,List.length_take];omega
    ·rw [if_neg h5,List.getElem?_eq_none (by rw [List.length_append,List.length_append,List.length_take];omega)]
 have hk:∀ k,k<i*s→cur[k]? =xs[k]? :=fun k hk=>by
  have:=congrArg (fun l=>l[k]?) h4;simpa [List.getElem?_take_of_lt hk] using this
 have l1:(gp cur ((i+m)*s) (xs.drop (i*s))).length=cur.length:=eQ _ _ _ (by omega);have l2:(gp cur (i*s) vs).length=cur.length:=eQ _ _ _ (by omega);refine ⟨key _ (by rw [eQ _ _ _ (by omega),l1,h3]) ?_ ?_ ?_,key _ (by rw [eQ _ _ _ (by omega),l2,h3]) ?_ ?_ ?_⟩
 ·intro k hk';rw [gk _ _ _ _ (by omega),if_neg (by omega),gk _ _ _ _ (by omega),if_neg (by omega)];exact hk k hk'
 ·intro k hk';rw [gk _ _ _ _ (by omega),if_pos (by omega)]
  congr 1
  omega
 ·intro k hk';rw [gk _ _ _ _ (by omega),if_neg (by omega),gk _ _ _ _ (by omega),if_pos (by omega)]
  congr 1
  omega
 ·intro k hk';rw [gk _ _ _ _ (by omega),if_neg (by omega),gk _ _ _ _ (by omega),if_neg (by omega)];exact hk k hk'
 ·intro k hk';rw [gk _ _ _ _ (by omega),if_neg (by omega),gk _ _ _ _ (by omega),if_pos (by omega)]
  congr 1
  omega
 ·intro k hk';rw [gk _ _ _ _ (by omega),if_pos (by omega)]
  congr 1
  omega
end
end Go.Proofs.YtkpooenofjdpmaaGreat
namespace Go.Proofs.YtkpooenofjdpmaaGreat
open Go.Proofs.Tryz (prog)
open Go.RowKit
theorem lx {A:Option Addr} {c s:Nat}:fK A c 0 s=A:=by
 unfold fK;split
 ·rfl
 ·cases A with
  |none=>rfl
  |some a=>simp [Addr.add_zero']
theorem fC {g o c l s:Nat} (h:l<c):fK (some ⟨g,o,none⟩) c l s=some ⟨g,o+l*s,none⟩:=by
 unfold fK;rw [if_neg (by omega)];simp [Addr.add_mid]
theorem vY {w:World} {base e s n c m:Nat} {A:Option Addr} {xs:List Value} (h:w.ownsRow base e s (.slice A n c) m xs):m≤c:=by
 rcases h.2 with ⟨_,h0⟩ | ⟨g,cap,cur,hv,_,_,h3,_⟩
 ·omega
 ·simp only [Value.slice.injEq] at hv;omega
theorem pn {w:World} {g e n o:Nat} {cur xs:List Value} (hb:Blk w g e cur.toArray) (hct:cur.take n=xs):w.rangeAt g o (xs.drop o):=hb.range o _ fun j v hv=>by
 rw [List.getElem?_drop,←hct,List.getElem?_take] at hv;split at hv
 ·exact hv
 ·cases hv
theorem ud {w:World} {g e n o:Nat} {cur xs:List Value} (hb:Blk w g e cur.toArray) (hct:cur.take n=xs):w.rangeAt g 0 (xs.take o):=hb.range 0 _ fun j v hv=>by
 rw [List.getElem?_take] at hv;rw [Nat.zero_add];split at hv
 ·rw [←hct,List.getElem?_take] at hv;split at hv
  ·exact hv
  ·cases hv
 ·cases hv
theorem nZ {w w1 w2:World} {r:Option Nat} {g:Nat} (h:w.grownBy w1 r) (o:dw g w1 w2) (hg:w.heap.size≤g):w.grownBy w2 r:=
 ⟨o.os.trans h.os,o.tape.trans h.tape,o.output.trans h.output,by rw [o.size];exact h.size,fun k hk hr=>(o.block k (by omega)).trans (h.block k hk hr)⟩
end Go.Proofs.YtkpooenofjdpmaaGreat
namespace Go.Proofs.YtkpooenofjdpmaaGreat
open Go.Proofs.Tryz (prog)
open Go.RowKit
def lz (l:List Oper) (K mu i:Nat):Bool:=Nat.blt mu K&&match l[mu]? with | some om=>lf l om i | none=>false
theorem mW {l:List Oper} {K mu i:Nat} (h:lz l K mu i=true):mu<K∧∃ om,l[mu]? =some om∧lf l om i=true:=by
 unfold lz at h;rw [Bool.and_eq_true] at h;refine ⟨Nat.le_of_ble_eq_true h.1,?_⟩;have h2:=h.2;split at h2
 ·rename_i om hom;exact ⟨om,hom,h2⟩
 ·cases h2
def km (P:Program) (ops:Array Oper) (n:Fr) (L:List (Nat×Value)) (I1 I2:World→Prop) (R1 R2:Nat→Value→World→Prop) (l0:List Oper) (K:Nat) (mu:Nat):Nat→List Oper→Prop
 |_,[]=>True
 |i,o::r=>(Nat.beq i mu=false→match lz l0 K mu i with
   |true=>∀ w',I1 w'→iv R1 w' (ff l0 K i o) fun M=>ax P ops n (M++L) o w' (R1 (o.dst.getD 0))
   |false=>∀ w',I2 w'→iv R2 w' (ff l0 K i o) fun M=>ax P ops n (M++L) o w' (R1 (o.dst.getD 0)))∧km P ops n L I1 I2 R1 R2 l0 K mu (i+1) r
theorem kY {P:Program} {ops:Array Oper} {n:Fr} {L:List (Nat×Value)} {I1 I2:World→Prop} {R1 R2:Nat→Value→World→Prop} {l0:List Oper} {K mu:Nat}:∀ {l:List Oper} {k:Nat},km P ops n L I1 I2 R1 R2 l0 K mu k l→∀ (i:Nat) (o:Oper),l[i]? =some o→k+i≠mu→
 match lz l0 K mu (k+i) with
  |true=>∀ w',I1 w'→iv R1 w' (ff l0 K (k+i) o) fun M=>ax P ops n (M++L) o w' (R1 (o.dst.getD 0))
  |false=>∀ w',I2 w'→iv R2 w' (ff l0 K (k+i) o) fun M=>ax P ops n (M++L) o w' (R1 (o.dst.getD 0))
 |[],_,_,i,o,h,_=>by simp at h
 |x::r,k,⟨h1,h2⟩,0,o,h,hne=>by
  simp only [List.getElem?_cons_zero,Option.some.injEq] at h;subst h;rw [Nat.add_zero] at hne ⊢;refine h1 ?_;rw [←Bool.not_eq_true];intro hb;exact hne (Nat.eq_of_beq_eq_true hb)
 |x::r,k,⟨h1,h2⟩,i+1,o,h,hne=>by
  have:=kY h2 i o (by simpa using h) (by omega)
  rwa [show k+1+i=k+(i+1) by omega] at this
theorem mJ {P:Program} {ops:Array Oper} {n:Fr} {L:List (Nat×Value)} {I1 I2:World→Prop} {R1 R2:Nat→Value→World→Prop} {l0:List Oper} {K mu:Nat} {l:List Oper} (h:km P ops n L I1 I2 R1 R2 l0 K mu 0 l) (i:Nat) (o:Oper) (ho:l[i]? =some o) (hne:i≠mu) (hd:lz l0 K mu i=false)
 (w':World) (hw:I2 w'):iv R2 w' (ff l0 K i o) fun M=>ax P ops n (M++L) o w' (R1 (o.dst.getD 0)):=by
 have:=kY h i o ho (by rw [Nat.zero_add];exact hne);rw [Nat.zero_add,hd] at this;exact this w' hw
theorem rv {P:Program} {ops:Array Oper} {n:Fr} {L:List (Nat×Value)} {I1 I2:World→Prop} {R1 R2:Nat→Value→World→Prop} {l0:List Oper} {K mu:Nat} {l:List Oper} (h:km P ops n L I1 I2 R1 R2 l0 K mu 0 l) (i:Nat) (o:Oper) (ho:l[i]? =some o) (hne:i≠mu) (hd:lz l0 K mu i=true)
 (w':World) (hw:I1 w'):iv R1 w' (ff l0 K i o) fun M=>ax P ops n (M++L) o w' (R1 (o.dst.getD 0)):=by
 have:=kY h i o ho (by rw [Nat.zero_add];exact hne);rw [Nat.zero_add,hd] at this;exact this w' hw
section late
variable {P:Program} {Q:Exit→Act→World→Prop} {n:Fr} {L:List (Nat×Value)} {w:World} {l:List Oper} {K mu:Nat} {I1 I2:World→Prop} {R1 R:Nat→Value→World→Prop}
theorem nV (hQ:PQ Q) (hc:jX l K=true) (hop:km P l.toArray n L I1 I2 R1 R l K mu 0 (l.take K)) (h12:∀ t v w,R1 t v w→R t v w) (hmuL:mu<K→dQ l K mu=false)
 (hend:∀ w',I2 w'→iv R w' (eZ l K) fun M=>St P l.toArray Q (l.drop K) n (M++L) w') (m:Nat) (listed:Array Bool) (L':List (Nat×Value)) (w':World) (hcl:gm l listed) (hcount:listed.toList.count false=m) (hs:listed.size=l.length)
 (htail:∀ j,K≤j→j<l.length→listed.getD j true=false) (hF:I2 w')
 (hfr:∀ t,(∀ i o,i<K→l[i]? =some o→listed.getD i true=true→o.dst≠some t)→bc L' t=bc L t)
 (hR:∀ i o d,i<K→l[i]? =some o→listed.getD i true=true→o.dst=some d→R d (bc L' d) w') (hpre:∀ i,i<K→listed.getD i true=false→dQ l K i=true):wpAny P .any l.toArray Q m listed (mkA n L') w':=by
 have hc1:=(Bool.and_eq_true_iff.1 hc).1;have hlate:=(Bool.and_eq_true_iff.1 hc).2;have hKl:K≤l.length:=dT_ (Bool.and_eq_true_iff.1 hc1).1;have hck:=(List.all_eq_true.1 (Bool.and_eq_true_iff.1 hc1).2)
 have hhead:∀ i,i<K→∃ o d,l[i]? =some o∧o.dst=some d∧de o.op=false∧(∀ j oj,j<K→j≠i→l[j]? =some oj→oj.dst≠some d):=by
  intro i hi;have hil:i<l.length:=by omega
  have hx:=hck i (List.mem_range.2 hil);rw [List.getElem?_eq_getElem hil] at hx;simp only [Bool.and_eq_true] at hx;have h3:=hx.2;rw [if_pos hi] at h3;simp only [Bool.and_eq_true] at h3;obtain ⟨h3a,h3b⟩:=h3;cases hod:(l[i]).dst with
  |none=>rw [hod] at h3a;cases h3a
  |some d=>
   rw [hod] at h3a;simp only [Bool.and_eq_true] at h3a;refine ⟨l[i],d,List.getElem?_eq_getElem hil,hod,by simpa using hx.1.2,fun j oj hj hne hoj e=>?_⟩;have h5:=List.all_eq_true.1 h3a.1 j (List.mem_range.2 hj);rw [hoj] at h5;simp [hne,e] at h5
 have hval:∀ i,i<K→listed.getD i true=false→∃ v,∀ o d,l[i]? =some o→o.dst=some d→Yields P l.toArray o v (mkA n L')∧R d v w':=by
  intro i hi hf;have hil8:=hpre i hi hf;obtain ⟨o,d,ho,hd,hsel,_⟩:=hhead i hi;obtain ⟨hk,hg,hap⟩:=g_ hlate hi ho hil8
  have hfact:∀ t∈ff l K i o,R t (bc L' t) w':=by
   intro t ht;obtain ⟨ht2,j,oj,hjK,hj,hdj,hji,_⟩:=iz hc hi ho ht;refine hR j oj t hjK hj ?_ hdj;cases hb:listed.getD j true with
   |true=>rfl
   |false=>
    have h6:=hpre j hjK hb;have h7:=(Oper.apart_spec (hap j oj hj (by omega) (.inl ⟨hjK,h6⟩))).2.2 t hdj;exact absurd (by simpa using ht2) h7
  have hlooks:=oJ (L:=L) hc hcl hs ho (by omega) hf hfr
  have hnd:lz l K mu i=false:=by
   rw [←Bool.not_eq_true];intro hd;obtain ⟨hmK,om,hom,hdep⟩:=mW hd
   have hml:listed.getD mu true=true:=by
    cases hb:listed.getD mu true with
    |true=>rfl
    |false=>exact absurd (hpre mu hmK hb) (by rw [hmuL hmK];simp)
   have hml2:listed.getD mu false=true:=by rw [←bt (by omega)];exact hml
   have:=eM hcl (fun e he hb=>hcl mu om hom hml2 e he hb) hdep;rw [←bt (by omega),hf] at this;cases this
  have hok:=fp (bc L') _ hfact (mJ hop i o (by rw [List.getElem?_take,if_pos hi];exact ho) (by intro e;rw [e,hmuL (by omega)] at hil8;cases hil8) hnd w' hF);obtain ⟨hE,hW⟩:=eT (n:=n) (ops:=l.toArray) (o:=o) hsel hlooks;rw [hd] at hok;simp only [Option.getD_some] at hok
  have hyl:∃ v,Yields P l.toArray o v (mkA n L')∧R d v w':=by
   unfold ax at hok;rw [hE,hW] at hok;rcases hok with ⟨hw,⟨v,w'',hr,hF',hRv⟩ | ⟨f,args,hr,hcall⟩⟩ | ⟨hw,hRv⟩
   ·obtain ⟨rfl,hall⟩:=pM hk hr;refine ⟨v,.inl ⟨hw,fun w2=>?_⟩,h12 _ _ _ hRv⟩;rw [cT];exact hall w2
   ·exfalso;obtain ⟨dst,op,ty,pos,after,guard⟩:=o;cases op <;> simp only [mR,Bool.false_eq_true] at hk <;> simp only [execOp,Sem.run_pure,Sem.run_bind,Result.ok.injEq] at hr
    ·cases hr.1
    ·cases hr.1
    ·rename_i x i';cases hx:ev n L' x <;> simp only [hx,Instr.extract] at hr <;> (try (simp at hr;done))
     rename_i vs;cases hv:vs[i']? <;> simp [hv] at hr
   ·exact ⟨undef,.inr ⟨hw,rfl⟩,h12 _ _ _ hRv⟩
  obtain ⟨v,hv1,hv2⟩:=hyl;refine ⟨v,fun o' d' ho' hd'=>?_⟩;rw [ho] at ho';cases ho';rw [hd] at hd';cases hd';exact ⟨hv1,hv2⟩
 obtain ⟨f,hf⟩:∃ f:Nat→Value,∀ i,i<K→listed.getD i true=false→∀ o d,l[i]? =some o→o.dst=some d→Yields P l.toArray o (f i) (mkA n L')∧R d (f i) w':=by
  refine ⟨fun i=>open Classical in if h:∃ v,∀ o d,l[i]? =some o→o.dst=some d→Yields P l.toArray o v (mkA n L')∧R d v w' then h.choose else undef,fun i hi hl=>?_⟩;have h:=hval i hi hl;simp only [dif_pos h];exact h.choose_spec
 have hUm:∀ i,i∈(List.range K).filter (fun i=> !listed.getD i true)↔i<K∧listed.getD i true=false:=fun i=>by
  rw [List.mem_filter,List.mem_range];simp
 obtain ⟨U,hU,hUn⟩:∃ U:List Nat,(∀ i,i∈U↔i<K∧listed.getD i true=false)∧U.Nodup:=⟨_,hUm,List.nodup_range.sublist (List.filter_sublist ..)⟩;have hbind:∀ {i:Nat} {o:Oper},l[i]? =some o→(l[i]?).bind (·.dst)=o.dst:=fun h=>by rw [h];rfl
 have hRall:∀ d∈eZ l K,R d (bc ((U.filterMap fun i=>((l[i]?).bind (·.dst)).map fun d=>(d,f i))++L') d) w':=by
  intro d hd;obtain ⟨o,ho,hod⟩:=List.mem_filterMap.1 hd;obtain ⟨i,hi⟩:=List.mem_iff_getElem?.1 ho;rw [List.getElem?_take] at hi;split at hi
  ·rename_i hiK;obtain ⟨o',d',ho',hd',_,hdist⟩:=hhead i hiK;rw [hi] at ho';cases ho';rw [hod] at hd';cases hd'
   have hne:∀ j∈U,j≠i→(l[j]?).bind (·.dst)≠some d:=fun j hj hji=>by
    have hjK:=((hU j).1 hj).1;obtain ⟨oj,dj,hoj,_⟩:=hhead j hjK;rw [hbind hoj];exact hdist j oj hjK hji hoj
   cases hb:listed.getD i true with
   |true=>
    rw [gR U fun j hj=>hne j hj (fun e=>by subst e;have:=((hU j).1 hj).2;rw [hb] at this;cases this)];exact hR i o d hiK hi hb hod
   |false=>
    rw [jb U ((hU i).2 ⟨hiK,hb⟩) ((hbind hi).trans hod) hne];exact (hf i hiK hb o d hi hod).2
  ·cases hi
 have he:=fp _ (eZ l K) hRall (hend w' hF)
 have hL:mkA n ((eZ l K).map (fun d=>(d,bc ((U.filterMap fun i=>((l[i]?).bind (·.dst)).map fun d=>(d,f i))++L') d))++L)=gI l f U (mkA n L'):=by
  rw [mF];refine fZ fun t _=>?_
  rw [iQ];split
  ·rfl
  ·rename_i hne
   have hnd:∀ i,i<K→∀ o,l[i]? =some o→o.dst≠some t:=fun i hi o ho hod=>hne (by
    simp only [List.elem_eq_mem,decide_eq_true_eq];exact List.mem_filterMap.2 ⟨o,List.mem_iff_getElem?.2 ⟨i,by rw [List.getElem?_take,if_pos hi];exact ho⟩,hod⟩)
   rw [gR U fun j hj=>by
    have hjK:=((hU j).1 hj).1;obtain ⟨oj,dj,hoj,_⟩:=hhead j hjK;rw [hbind hoj];exact hnd j hjK oj hoj]
   exact (hfr t fun i o hi ho _ hod=>hnd i hi o ho hod).symm
 replace he:=he.out;rw [hL] at he;refine mn hQ hc m K listed U _ w' hcl hcount hs (Nat.le_refl _) hKl (fun j h1 h2=>by rw [htail j h1 h2];simp [h1]) hUn (fun j hj=>⟨fun h=>(hU j).2 ⟨hj,h⟩,fun h=>((hU j).1 h).2⟩) (fun j hj=>?_) he;obtain ⟨h1,h2⟩:=(hU j).1 hj;obtain ⟨oj,dj,hoj,hdj,_⟩:=hhead j h1;exact ⟨h1,hpre j h1 h2,oj,hoj,(hf j h1 h2 oj dj hoj hdj).1⟩
theorem uE (hQ:PQ Q) (hc:jX l K=true) (hm1:∀ w1 w2,ai w1 w2→I1 w1→I1 w2) (hm2:∀ w1 w2,ai w1 w2→I2 w1→I2 w2) (hmono1:∀ t v w1 w2,ai w1 w2→R1 t v w1→R1 t v w2) (hmono:∀ t v w1 w2,ai w1 w2→R t v w1→R t v w2)
 (hop:km P l.toArray n L I1 I2 R1 R l K mu 0 (l.take K)) (h12:∀ t v w,R1 t v w→R t v w) (hmuL:mu<K→dQ l K mu=false) (hmu:wO P l.toArray n L I1 I2 R1 R l K mu l[mu]?)
 (hend:∀ w',I2 w'→iv R w' (eZ l K) fun M=>St P l.toArray Q (l.drop K) n (M++L) w') :
 ∀ (m:Nat) (listed:Array Bool) (L':List (Nat×Value)) (w':World),gm l listed→listed.toList.count false=m→listed.size=l.length→(∀ j,K≤j→j<l.length→listed.getD j true=false)→I2 w'→(listed.getD mu true=false→I1 w')→
  (∀ t,(∀ i o,i<K→l[i]? =some o→listed.getD i true=true→o.dst≠some t)→bc L' t=bc L t)→
  (∀ i o d,i<K→l[i]? =some o→listed.getD i true=true→o.dst=some d→R d (bc L' d) w')→(listed.getD mu true=false→∀ i o d,i<K→l[i]? =some o→listed.getD i true=true→o.dst=some d→R1 d (bc L' d) w')→wpAny P .any l.toArray Q m listed (mkA n L') w':=by
 have hc1:=(Bool.and_eq_true_iff.1 hc).1;have hlate:=(Bool.and_eq_true_iff.1 hc).2;have hKl:K≤l.length:=dT_ (Bool.and_eq_true_iff.1 hc1).1;have hck:=(List.all_eq_true.1 (Bool.and_eq_true_iff.1 hc1).2);intro m
 induction m with
 |zero=>
  intro listed L' w' hcl hcount hs htail hF hF1 hfr hR hR1
  exact nV hQ hc hop h12 hmuL hend 0 listed L' w' hcl hcount hs htail hF hfr hR (fun i hi h=>by
   have hm:listed[i]'(by omega)∈listed.toList:=by simp
   have hb:listed[i]'(by omega)=false:=by simpa [Array.getD,show i<listed.size by omega] using h
   rw [hb] at hm;exact absurd hcount (Nat.pos_iff_ne_zero.1 (List.count_pos_iff.2 hm)))
 |succ m ih=>
  intro listed L' w' hcl hcount hs htail hF hF1 hfr hR hR1;by_cases hpre:∀ i,i<K→listed.getD i true=false→dQ l K i=true
  ·exact nV hQ hc hop h12 hmuL hend (m+1) listed L' w' hcl hcount hs htail hF hfr hR hpre
  ·
   have hn0:∃ i,i<K∧listed.getD i true=false∧dQ l K i=false:=by
    refine Classical.byContradiction fun hno=>hpre fun i hi hf=>?_
    cases hb:dQ l K i with
    |true=>rfl
    |false=>exact absurd ⟨i,hi,hf,hb⟩ hno
   obtain ⟨n0,hn0⟩:=hn0;obtain ⟨i0,hi0,hmin⟩:=exists_least (p:=fun i=>i<K∧listed.getD i true=false) ⟨n0,hn0.1,hn0.2.1⟩;have hi0l:i0<l.length:=by omega
   have hready:i0∈Region.ready .any l.toArray listed:=by
    refine mem_ready.2 ⟨hi0.2,l[i0],by rw [List.getElem?_toArray,List.getElem?_eq_getElem hi0l],fun e he hb=>?_⟩;have hx:=hck i0 (List.mem_range.2 hi0l);rw [List.getElem?_eq_getElem hi0l] at hx;simp only [Bool.and_eq_true] at hx;have he2:=List.all_eq_true.1 hx.1.1 e (by simpa using he);rw [hb] at he2;simp at he2;rw [←bt (by omega)];cases hb2:listed.getD e.on true with
    |true=>rfl
    |false=>exact absurd (hmin e.on ⟨by omega,hb2⟩) (by omega)
   refine ⟨fun h0=>(by rw [h0] at hready;cases hready),fun i hi=>?_⟩;obtain ⟨h0,o,ho,hall⟩:=mem_ready.1 hi;rw [List.getElem?_toArray] at ho;have hil:i<l.length:=(List.getElem?_eq_some_iff.1 ho).1;have hx:=hck i (List.mem_range.2 hil);rw [ho] at hx;simp only [Bool.and_eq_true] at hx
   have hiK:i<K:=by
    rcases Nat.lt_or_ge i K with h | h
    ·exact h
    ·exfalso;have h5:=eM hcl hall (jW hn0.2.2 ho h);rw [←bt (by omega),hn0.2.1] at h5;cases h5
   have h3:=hx.2;rw [if_pos hiK] at h3;simp only [Bool.and_eq_true] at h3;obtain ⟨h3a,h3b⟩:=h3;cases hod:o.dst with
   |none=>rw [hod] at h3a;cases h3a
   |some d=>
    rw [hod] at h3a;simp only [Bool.and_eq_true] at h3a;have hlooks:=oJ (L:=L) hc hcl hs ho hil h0 hfr
    have hfactG:∀ (RR:Nat→Value→World→Prop),(∀ i o d,i<K→l[i]? =some o→listed.getD i true=true→o.dst=some d→RR d (bc L' d) w')→∀ t∈ff l K i o,RR t (bc L' t) w':=by
     intro RR hRR t ht;obtain ⟨_,j,oj,hjK,hj,hd,_,hdep⟩:=iz hc hiK ho ht;have h6:=eM hcl hall hdep;exact hRR j oj t hjK hj (by rw [bt (by omega)];exact h6) hd
    have hsel:de o.op=false:=by simpa using hx.1.2
    obtain ⟨hE,hW⟩:=eT (n:=n) (ops:=l.toArray) (o:=o) hsel hlooks
    have next:∀ v w'',I2 w''→(i≠mu→listed.getD mu true=false→I1 w'')→R d v w''→(i≠mu→R1 d v w'')→(∀ t u,t≠d→R t u w'→(i=mu→R1 t u w')→R t u w'')→(i≠mu→∀ t u,R1 t u w'→R1 t u w'')→wpAny P .any l.toArray Q m (listed.setIfInBounds i true) ((mkA n L').put (some d) v) w'':=by
     intro v w'' hI2' hI1' hRv hR1v hst hst1;rw [fm]
     have hne:∀ j oj d',j<K→l[j]? =some oj→j≠i→oj.dst=some d'→d'≠d:=by
      intro j oj d' hj hoj hji hd e;have h5:=List.all_eq_true.1 h3a.1 j (List.mem_range.2 hj);rw [hoj] at h5;simp [hji,hd,e] at h5
     refine ih _ _ w'' (jc hcl ho hall) ?_ (by simpa using hs) (fun j hj1 hj2=>?_) hI2' (fun hml=>?_) (fun t ht=>?_) (fun j oj d' hj hoj hlj hd=>?_) (fun hml j oj d' hj hoj hlj hd=>?_)
     ·have hil':i<listed.size:=by omega
      have hfalse:listed.toList[i]? =some false:=by
       rw [Array.getElem?_toList,Array.getElem?_eq_getElem hil'];simp [Array.getD,hil'] at h0;rw [h0]
      rw [Array.toList_setIfInBounds];have:=eG (l:=listed.toList) (i:=i) hfalse;omega
     ·rw [getD_set_ne true (by omega)];exact htail j hj1 hj2
     ·have him:i≠mu:=fun e=>by subst e;simp [show i<listed.size by omega] at hml
      rw [getD_set_ne true him] at hml;exact hI1' him hml
     ·have htd:t≠d:=fun e=>ht i o hiK ho (by simp [show i<listed.size by omega]) (by rw [hod,e])
      rw [b_,if_neg htd];refine hfr t fun j oj hj hoj hlj=>ht j oj hj hoj ?_
      by_cases e:i=j
      ·subst e;rw [h0] at hlj;cases hlj
      ·rw [getD_set_ne true e];exact hlj
     ·rw [b_];by_cases e:j=i
      ·subst e;rw [ho] at hoj;cases hoj;rw [hod] at hd;cases hd;rw [if_pos rfl];exact hRv
      ·have hdd:=hne j oj d' hj hoj e hd;rw [if_neg hdd];rw [getD_set_ne true (Ne.symm e)] at hlj;refine hst _ _ hdd (hR j oj d' hj hoj hlj hd) (fun e2=>?_);subst e2;exact hR1 h0 j oj d' hj hoj hlj hd
     ·have him:i≠mu:=fun e=>by subst e;simp [show i<listed.size by omega] at hml
      rw [getD_set_ne true him] at hml;rw [b_];by_cases e:j=i
      ·subst e;rw [ho] at hoj;cases hoj;rw [hod] at hd;cases hd;rw [if_pos rfl];exact hR1v him
      ·rw [if_neg (hne j oj d' hj hoj e hd)];rw [getD_set_ne true (Ne.symm e)] at hlj;exact hst1 him _ _ (hR1 hml j oj d' hj hoj hlj hd)
    unfold wpOp;rw [List.getElem?_toArray,ho];show if Region.wanted o (yielded l.toArray (mkT n.n L'))=true then _ else _
    by_cases him:i=mu
    ·subst him;rw [ho] at hmu;have hok:=fp (bc L') _ (hfactG R1 (hR1 h0)) (hmu w' (hF1 h0));rw [hod] at hok;simp only [Option.getD_some] at hok;unfold sh at hok;rw [hE,hW] at hok;obtain ⟨hw,⟨v,w'',hr,hI,hRv,hst⟩ | ⟨f,args,hr,hcall⟩⟩:=hok
     ·rw [if_pos hw];refine .inl ?_;unfold Oper.wp;rw [cT,hr,Oper.upon_value,hod];exact next v w'' hI (fun h=>absurd rfl h) hRv (fun h=>absurd rfl h) (fun t u ht _ h1=>hst t u ht (h1 rfl)) (fun h=>absurd rfl h)
     ·rw [if_pos hw];refine .inl ?_;unfold Oper.wp;rw [cT,hr,Oper.upon_enter,hod];refine Calls.mono hcall fun e w'' ⟨v,he,hI,hRv,hst⟩=>?_
      subst he;exact next v w'' hI (fun h=>absurd rfl h) hRv (fun h=>absurd rfl h) (fun t u ht _ h1=>hst t u ht (h1 rfl)) (fun h=>absurd rfl h)
    ·have hok:ax P l.toArray n (((ff l K i o).map fun d=>(d,bc L' d))++L) o w' (R1 (o.dst.getD 0)):=by
      cases hdm:lz l K mu i with
      |false=>exact fp (bc L') _ (hfactG R hR) (mJ hop i o (by rw [List.getElem?_take,if_pos hiK];exact ho) him hdm w' hF)
      |true=>
       have hml:listed.getD mu true=false:=by
        obtain ⟨hmK,om,hom,hdep⟩:=mW hdm;rw [←Bool.not_eq_true];intro hml;have hml2:listed.getD mu false=true:=by rw [←bt (by omega)];exact hml
        have:=eM hcl (fun e he hb=>hcl mu om hom hml2 e he hb) hdep;rw [←bt (by omega),h0] at this;cases this
       exact fp (bc L') _ (hfactG R1 (hR1 hml)) (rv hop i o (by rw [List.getElem?_take,if_pos hiK];exact ho) him hdm w' (hF1 hml))
     rw [hod] at hok;simp only [Option.getD_some] at hok;unfold ax at hok;rw [hE,hW] at hok
     have next':∀ v w'',ai w' w''→R1 d v w''→wpAny P .any l.toArray Q m (listed.setIfInBounds i true) ((mkA n L').put (some d) v) w'':=fun v w'' hF' hRv=>
      next v w'' (hm2 _ _ hF' hF) (fun _ h=>hm1 _ _ hF' (hF1 h)) (h12 _ _ _ hRv) (fun _=>hRv) (fun t u _ h _=>hmono _ _ _ _ hF' h) (fun _ t u h=>hmono1 _ _ _ _ hF' h)
     rcases hok with ⟨hw,⟨v,w'',hr,hF',hRv⟩ | ⟨f,args,hr,hcall⟩⟩ | ⟨hw,hRv⟩
     ·rw [if_pos hw];refine .inl ?_;unfold Oper.wp;rw [cT,hr,Oper.upon_value,hod];exact next' v w'' hF' hRv
     ·rw [if_pos hw];refine .inl ?_;unfold Oper.wp;rw [cT,hr,Oper.upon_enter,hod];refine Calls.mono hcall fun e w'' ⟨v,he,hF',hRv⟩=>?_
      subst he;exact next' v w'' hF' hRv
     ·rw [if_neg (by rw [hw];simp),hod];exact next' undef w' ai.rfl_ hRv
theorem vg {id:Nat} (K mu:Nat) (Ex:List Nat) (RL:List (Nat×(Value→World→Prop))) (I1 I2:World→Prop) (hQ:PQ Q) (hm:P.follows .mixedOrders=true) (hc:jX l K=true) (hl:dQ l K mu=false) (hmono:oo RL)
 (h0:I1 { w with drawn:=w.drawn+1 }) (h0':I2 { w with drawn:=w.drawn+1 }) (hm1:∀ w1 w2,ai w1 w2→I1 w1→I1 w2) (hm2:∀ w1 w2,ai w1 w2→I2 w1→I2 w2)
 (hop:km P l.toArray n L I1 I2 (fW RL) (jv Ex RL) l K mu 0 (l.take K)) (hmu:wO P l.toArray n L I1 I2 (fW RL) (jv Ex RL) l K mu l[mu]?)
 (hend:∀ w',I2 w'→iv (jv Ex RL) w' (eZ l K) fun M=>St P l.toArray Q (l.drop K) n (M++L) w'):Cd P (.region id l.toArray true) Q n L w:=by
 refine ⟨wp_region_any hm ?_⟩;have hKl:K≤l.length:=dT_ (Bool.and_eq_true_iff.1 (Bool.and_eq_true_iff.1 hc).1).1
 have:=uE (Q:=Q) hQ hc hm1 hm2 (ga hmono) (rE hmono) hop uM (fun _=>hl) hmu hend l.length (Array.replicate l.length false) L { w with drawn:=w.drawn+1 } (lA l _) (by simp) (by simp)
  (fun j _ hj=>by simp [Array.getD,hj]) h0' (fun _=>h0) (fun _ _=>rfl) (fun i o d hi _ hl=>by
   have:i<l.length:=by omega
   simp [Array.getD,this] at hl) (fun _ i o d hi _ hl=>by
   have:i<l.length:=by omega
   simp [Array.getD,this] at hl)
 simpa using this
end late
section
variable {P:Program} {ops:Array Oper} {n:Fr} {L:List (Nat×Value)} {w:World} {ty:TypeId} {pos:String} {after:Array Edge} {dst:Option Nat}
theorem we {f:FuncId} {l:List Operand} {ats:Array TypeId} {R post:Value→World→Prop} (hf:aN P f=true) (hc:Rt P f (l.map (ev n L)) w R) (k:∀ v w',R v w'→post v w') :
 sh P ops n L ⟨dst,.call { callee:=.value (.func f),args:=l.toArray,argTypes:=ats },ty,pos,after,none⟩ w post:=
 ⟨rfl,.inr ⟨f,l.map (ev n L),by rw [gd (fun _=>rfl),iN hf],hc.mono k⟩⟩
end
end Go.Proofs.YtkpooenofjdpmaaGreat
namespace Go.Proofs.YtkpooenofjdpmaaGreat
open Go.Proofs.Tryz (prog)
open Go.RowKit
def atL {α:Type _}:List α→Nat→Option α
 |[],_=>none
 |x::_,0=>some x
 |_::r,k+1=>atL r k
theorem gM {α:Type _} {x:α}:∀ {l:List α} (k:Nat),atL l k=some x→x∈l
 |[],_,h=>by cases h
 |y::r,0,h=>by
  cases h;exact List.mem_cons_self
 |y::r,k+1,h=>List.mem_cons_of_mem _ (gM k h)
def mU (l:List Oper):Bool:=(List.range l.length).all fun i=>match l[i]? with
 |none=>false
 |some o=>o.guard.isNone&&o.after.toList.all fun e=> !Region.binds .any e||decide (e.on<i)
def di (S:Nat→Bool) (i:Nat):Nat→Bool:=fun j=>if j=i then true else S j
def iE (P:Program) (n:Fr) (o:Oper) (Inv:List (Nat×Value)→World→Prop) (L':List (Nat×Value)) (w':World):Prop:=
 (∃ d v w'',o.dst=some d∧(execOp (ev n L') o).run P w'=.ok (.value v) w''∧Inv ((d,v)::L') w'')∨
 (∃ w'',o.dst=none∧(execOp (ev n L') o).run P w'=.ok .skip w''∧Inv L' w'')∨
 (∃ d f args,o.dst=some d∧(execOp (ev n L') o).run P w'=.ok (.enter f (List.toArray args)) w'∧Rt P f args w' fun v w''=>Inv ((d,v)::L') w'')
section
variable {P:Program} {Q:Exit→Act→World→Prop} {n:Fr} {L:List (Nat×Value)} {w:World} {l:List Oper}
theorem wt {Inv:(Nat→Bool)→List (Nat×Value)→World→Prop} (hwf:mU l=true)
 (hstep:∀ (i:Nat) (o:Oper) (S:Nat→Bool) (L':List (Nat×Value)) (w':World),l[i]? =some o→Inv S L' w'→S i=false→(∀ e∈o.after,Region.binds .any e=true→S e.on=true)→iE P n o (Inv (di S i)) L' w')
 (hend:∀ L' w',Inv (fun i=>decide (i<l.length)) L' w'→Q .normal (mkA n L') w') :
 ∀ (m:Nat) (listed:Array Bool) (L':List (Nat×Value)) (w':World),listed.toList.count false=m→listed.size=l.length→Inv (fun i=>listed.getD i false) L' w'→wpAny P .any l.toArray Q m listed (mkA n L') w':=by
 have hck:=List.all_eq_true.1 hwf;intro m
 induction m with
 |zero=>
  intro listed L' w' hcount hs hI
  have hall:∀ i,i<l.length→listed.getD i false=true:=fun i hi=>by
   have hm:listed[i]'(by omega)∈listed.toList:=by simp
   cases hb:listed[i]'(by omega) with
   |true=>simp [Array.getD,show i<listed.size by omega,hb]
   |false=>rw [hb] at hm;exact absurd hcount (Nat.pos_iff_ne_zero.1 (List.count_pos_iff.2 hm))
  have e:(fun i=>listed.getD i false)=fun i=>decide (i<l.length):=by
   funext i
   by_cases hi:i<l.length
   ·rw [hall i hi,decide_eq_true hi]
   ·rw [decide_eq_false hi];simp [Array.getD,show ¬ i<listed.size by omega]
  rw [e] at hI;refine ⟨?_,hend L' w' hI⟩;cases hr:Region.ready .any l.toArray listed with
  |nil=>rfl
  |cons i r=>
   exfalso;obtain ⟨h0,o,ho,_⟩:=mem_ready.1 (show i∈Region.ready .any l.toArray listed by rw [hr];simp);rw [List.getElem?_toArray] at ho;have hil:i<l.length:=(List.getElem?_eq_some_iff.1 ho).1;have:=hall i hil;rw [←bt (by omega),h0] at this;cases this
 |succ m ih=>
  intro listed L' w' hcount hs hI
  have hn0:∃ i,i<l.length∧listed.getD i true=false:=by
   have hpos:0<listed.toList.count false:=by omega
   obtain ⟨i,hi,hb⟩:=List.getElem_of_mem (List.count_pos_iff.1 hpos);rw [Array.length_toList] at hi;refine ⟨i,by omega,?_⟩;rw [Array.getElem_toList] at hb;simp [Array.getD,hi,hb]
  obtain ⟨i0,hi0,hmin⟩:=exists_least (p:=fun i=>i<l.length∧listed.getD i true=false) hn0
  have hready:i0∈Region.ready .any l.toArray listed:=by
   refine mem_ready.2 ⟨hi0.2,l[i0]'hi0.1,by rw [List.getElem?_toArray,List.getElem?_eq_getElem hi0.1],fun e he hb=>?_⟩;have hx:=hck i0 (List.mem_range.2 hi0.1);rw [List.getElem?_eq_getElem hi0.1] at hx;simp only [Bool.and_eq_true] at hx;have he2:=List.all_eq_true.1 hx.2 e (by simpa using he);rw [hb] at he2;simp at he2;have:=hi0.1;rw [←bt (by omega)];cases hb2:listed.getD e.on true with
   |true=>rfl
   |false=>exact absurd (hmin e.on ⟨by omega,hb2⟩) (by omega)
  refine ⟨fun h0=>(by rw [h0] at hready;cases hready),fun i hi=>?_⟩;obtain ⟨h0,o,ho,hall⟩:=mem_ready.1 hi;rw [List.getElem?_toArray] at ho;have hil:i<l.length:=(List.getElem?_eq_some_iff.1 ho).1;have hx:=hck i (List.mem_range.2 hil);rw [ho] at hx;simp only [Bool.and_eq_true] at hx;have hg:o.guard=none:=by simpa using hx.1
  have h0f:listed.getD i false=false:=by rw [←bt (by omega)];exact h0
  have hset:(fun j=>(listed.setIfInBounds i true).getD j false)=di (fun j=>listed.getD j false) i:=by
   funext j
   unfold di;by_cases e:j=i
   ·subst e;simp [Array.getD,show j<listed.size by omega]
   ·rw [if_neg e,getD_set_ne false (Ne.symm e)]
  have hcnt:(listed.setIfInBounds i true).toList.count false=m:=by
   have hil':i<listed.size:=by omega
   have hfalse:listed.toList[i]? =some false:=by
    rw [Array.getElem?_toList,Array.getElem?_eq_getElem hil'];simp [Array.getD,hil'] at h0;rw [h0]
   rw [Array.toList_setIfInBounds];have:=eG (l:=listed.toList) (i:=i) hfalse;omega
  have next:∀ L2 w2,Inv (di (fun j=>listed.getD j false) i) L2 w2→wpAny P .any l.toArray Q m (listed.setIfInBounds i true) (mkA n L2) w2:=fun L2 w2 h=>
   ih _ L2 w2 hcnt (by simpa using hs) (by rw [hset];exact h)
  unfold wpOp;rw [List.getElem?_toArray,ho];show if Region.wanted o (yielded l.toArray (mkT n.n L'))=true then _ else _
  rw [if_pos (by unfold Region.wanted;rw [hg])];refine .inl ?_;unfold Oper.wp;rw [cT];rcases hstep i o _ L' w' ho hI h0f hall with ⟨d,v,w'',hd,hr,hI2⟩ | ⟨w'',hd,hr,hI2⟩ | ⟨d,f,args,hd,hr,hc⟩
  ·rw [hr,Oper.upon_value,hd,fm];exact next _ _ hI2
  ·rw [hr,Oper.upon_skip,hd];exact next _ _ hI2
  ·rw [hr,Oper.upon_enter,hd];refine Calls.mono hc fun e w'' ⟨v,he,hI2⟩=>?_
   subst he;show wpAny P .any l.toArray Q m (listed.setIfInBounds i true) ((mkA n L').put (some d) v) w'';rw [fm];exact next _ _ hI2
theorem rP {id:Nat} (Inv:(Nat→Bool)→List (Nat×Value)→World→Prop) (hm:P.follows .mixedOrders=true) (hwf:mU l=true) (h0:Inv (fun _=>false) L { w with drawn:=w.drawn+1 })
 (hstep:∀ (i:Nat) (o:Oper) (S:Nat→Bool) (L':List (Nat×Value)) (w':World),l[i]? =some o→Inv S L' w'→S i=false→(∀ e∈o.after,Region.binds .any e=true→S e.on=true)→iE P n o (Inv (di S i)) L' w')
 (hend:∀ L' w',Inv (fun i=>decide (i<l.length)) L' w'→Q .normal (mkA n L') w'):Cd P (.region id l.toArray true) Q n L w:=by
 refine ⟨wp_region_any hm ?_⟩
 have:=wt (Q:=Q) hwf hstep hend l.length (Array.replicate l.length false) L { w with drawn:=w.drawn+1 } (by simp) (by simp) (by
  have e:(fun i=>(Array.replicate l.length false).getD i false)=fun _=>false:=by
   funext i
   by_cases hi:i<l.length <;> simp [Array.getD,hi]
  rw [e];exact h0)
 simpa using this
theorem bu {d:Nat} {op:Op} {ty:TypeId} {pos:String} {after:Array Edge} {v:Value} {w' w'':World} {L':List (Nat×Value)} {Inv:List (Nat×Value)→World→Prop} (h:RO P (ev n L') op w' v w'') (hI:Inv ((d,v)::L') w''):iE P n ⟨some d,op,ty,pos,after,none⟩ Inv L' w':=
 .inl ⟨d,v,w'',rfl,h _ _ _ _ _,hI⟩
theorem iy {op:Op} {ty:TypeId} {pos:String} {after:Array Edge} {w' w'':World} {L':List (Nat×Value)} {Inv:List (Nat×Value)→World→Prop} (h:RS P (ev n L') op w' w'') (hI:Inv L' w''):iE P n ⟨none,op,ty,pos,after,none⟩ Inv L' w':=
 .inr (.inl ⟨w'',rfl,h _ _ _ _ _,hI⟩)
def gC (L:List (Nat×Value)) (T:List (Nat×Nat×Value)) (S:Nat→Bool) (L':List (Nat×Value)):Prop:=
 (∀ t,(∀ p∈T,p.2.1≠t)→bc L' t=bc L t)∧(∀ p∈T,S p.1=true→bc L' p.2.1=p.2.2)∧∀ p∈T,S p.1=false→bc L' p.2.1=bc L p.2.1
def kg:List (Nat×Nat×Value)→Prop
 |[]=>True
 |p::r=>(∀ q∈r,q.1≠p.1∧q.2.1≠p.2.1)∧kg r
theorem ox:∀ {T:List (Nat×Nat×Value)},kg T→∀ {p q:Nat×Nat×Value},p∈T→q∈T→p.1=q.1∨p.2.1=q.2.1→p=q
 |_::_,⟨h1,h2⟩,p,q,hp,hq,he=>by
  rcases List.mem_cons.1 hp with rfl | hp' <;> rcases List.mem_cons.1 hq with rfl | hq'
  ·rfl
  ·rcases he with e | e
   ·exact absurd e.symm (h1 _ hq').1
   ·exact absurd e.symm (h1 _ hq').2
  ·rcases he with e | e
   ·exact absurd e (h1 _ hp').1
   ·exact absurd e (h1 _ hp').2
  ·exact ox h2 hp' hq' he
theorem gC.put {T:List (Nat×Nat×Value)} {S:Nat→Bool} {L':List (Nat×Value)} {i d:Nat} {v:Value} (h:gC L T S L') (hU:kg T) (hp:(i,d,v)∈T):gC L T (di S i) ((d,v)::L'):=by
 refine ⟨fun t ht=>?_,fun p hq hs=>?_,fun p hq hs=>?_⟩
 ·rw [b_,if_neg (fun e=>ht _ hp e.symm)];exact h.1 t ht
 ·rw [b_];by_cases e:p.2.1=d
  ·rw [if_pos e,ox hU hq hp (.inr e)]
  ·rw [if_neg e];refine h.2.1 p hq ?_;unfold di at hs;by_cases e2:p.1=i
   ·exact absurd (congrArg (·.2.1) (ox hU hq hp (.inl e2))) e
   ·rwa [if_neg e2] at hs
 ·unfold di at hs;by_cases e2:p.1=i
  ·rw [if_pos e2] at hs;cases hs
  ·rw [if_neg e2] at hs;rw [b_,if_neg (fun e=>e2 (congrArg (·.1) (ox hU hq hp (.inr e))))];exact h.2.2 p hq hs
theorem gC.skip {T:List (Nat×Nat×Value)} {S:Nat→Bool} {L':List (Nat×Value)} {i:Nat} (h:gC L T S L') (hi:∀ p∈T,p.1≠i):gC L T (di S i) L':=by
 refine ⟨h.1,fun p hq hs=>h.2.1 p hq ?_,fun p hq hs=>h.2.2 p hq ?_⟩ <;> (unfold di at hs;rwa [if_neg (hi p hq)] at hs)
theorem gC.get {T:List (Nat×Nat×Value)} {S:Nat→Bool} {L':List (Nat×Value)} {i d:Nat} {v:Value} (h:gC L T S L') (hp:(i,d,v)∈T) (hs:S i=true):bc L' d=v:=h.2.1 _ hp hs
def gO (S:Nat→Bool):List Edge→Prop
 |[]=>True
 |e::r=>(bif Region.binds .any e then S e.on=true else True)∧gO S r
theorem kE {S:Nat→Bool}:∀ {es:List Edge},(∀ e∈es,Region.binds .any e=true→S e.on=true)→gO S es
 |[],_=>trivial
 |e::r,h=>by
  refine ⟨?_,kE fun e' he=>h e' (.tail _ he)⟩;cases hb:Region.binds .any e with
  |true=>exact h e (.head _) hb
  |false=>trivial
def r4 (P:Program) (n:Fr) (L:List (Nat×Value)) (T:List (Nat×Nat×Value)) (Mem:(Nat→Bool)→World→Prop):Nat→List Oper→Prop
 |_,[]=>True
 |i,o::r=>(∀ S L' w',gC L T S L'→Mem S w'→S i=false→gO S o.after.toList→iE P n o (fun L2 w2=>gC L T (di S i) L2∧Mem (di S i) w2) L' w')∧r4 P n L T Mem (i+1) r
theorem nF {T:List (Nat×Nat×Value)} {Mem:(Nat→Bool)→World→Prop}:∀ {r:List Oper} {k:Nat},r4 P n L T Mem k r→∀ (i:Nat) (o:Oper),r[i]? =some o→∀ S L' w',gC L T S L'→Mem S w'→S (k+i)=false→gO S o.after.toList→iE P n o (fun L2 w2=>gC L T (di S (k+i)) L2∧Mem (di S (k+i)) w2) L' w'
 |[],_,_,i,o,h=>by simp at h
 |x::r,k,⟨h1,h2⟩,0,o,h=>by
  simp only [List.getElem?_cons_zero,Option.some.injEq] at h;subst h;exact h1
 |x::r,k,⟨h1,h2⟩,i+1,o,h=>by
  have:=nF h2 i o (by simpa using h)
  rwa [show k+1+i=k+(i+1) by omega] at this
theorem pK {T:List (Nat×Nat×Value)} (_:kg T) {L L':List (Nat×Value)} {S:Nat→Bool} (h:gC L T S L') (hS:∀ p∈T,S p.1=true) (t:Nat):bc L' t=bc (T.map (fun p=>(p.2.1,p.2.2))++L) t:=by
 have key:∀ T':List (Nat×Nat×Value),(∀ p∈T',p∈T)→(∃ p∈T',p.2.1=t)∨(∀ p∈T',p.2.1≠t)→(∃ p∈T',p.2.1=t∧bc (T'.map (fun p=>(p.2.1,p.2.2))++L) t=p.2.2)∨((∀ p∈T',p.2.1≠t)∧bc (T'.map (fun p=>(p.2.1,p.2.2))++L) t=bc L t):=by
  intro T'
  induction T' with
  |nil=>exact fun _ _=>.inr ⟨fun p hp=>by simp at hp,rfl⟩
  |cons q r ih=>
   intro hsub _;rw [List.map_cons,List.cons_append,b_];by_cases e:q.2.1=t
   ·rw [if_pos e.symm];exact .inl ⟨q,.head _,e,rfl⟩
   ·rw [if_neg (Ne.symm e)];rcases ih (fun p hp=>hsub p (.tail _ hp)) (by by_cases hx:∃ p∈r,p.2.1=t;exact .inl hx;exact .inr fun p hp he=>hx ⟨p,hp,he⟩) with ⟨p,hp,h1,h2⟩ | ⟨h1,h2⟩
    ·exact .inl ⟨p,.tail _ hp,h1,h2⟩
    ·refine .inr ⟨fun p hp=>?_,h2⟩;rcases List.mem_cons.1 hp with rfl | hp2
     ·exact e
     ·exact h1 p hp2
 rcases key T (fun _ hp=>hp) (by by_cases hx:∃ p∈T,p.2.1=t;exact .inl hx;exact .inr fun p hp he=>hx ⟨p,hp,he⟩) with ⟨p,hp,h1,h2⟩ | ⟨h1,h2⟩
 ·rw [h2,←h1];exact h.2.1 p hp (hS p hp)
 ·rw [h2];exact h.1 t h1
theorem l_ {id:Nat} (T:List (Nat×Nat×Value)) (Mem:(Nat→Bool)→World→Prop) (hm:P.follows .mixedOrders=true) (hwf:mU l=true) (hU:kg T) (hlt:∀ p∈T,p.1<l.length) (h0:Mem (fun _=>false) { w with drawn:=w.drawn+1 })
 (hstep:r4 P n L T Mem 0 l) (hend:∀ w',Mem (fun i=>decide (i<l.length)) w'→Q .normal (mkA n (T.map (fun p=>(p.2.1,p.2.2))++L)) w'):Cd P (.region id l.toArray true) Q n L w:=by
 refine rP (fun S L' w'=>gC L T S L'∧Mem S w') hm hwf ⟨⟨fun _ _=>rfl,fun _ _ h=>(by cases h),fun _ _ _=>rfl⟩,h0⟩ (fun i o S L' w' ho ⟨hI,hM⟩ hS hE=>?_) fun L' w' ⟨hI,hM⟩=>?_
 ·have:=nF hstep i o ho S L' w' hI hM (by rw [Nat.zero_add];exact hS) (kE fun e he=>hE e (by simpa using he))
  rwa [Nat.zero_add] at this
 ·have h:=hend w' hM
  have e:mkA n L'=mkA n (T.map (fun p=>(p.2.1,p.2.2))++L):=by
   unfold mkA;rw [jO fun t _=>pK hU hI (fun p hp=>decide_eq_true (hlt p hp)) t]
  rw [e];exact h
theorem j9 {t:TypeId} {x y:Operand} {g i:Nat} {u:TypeId} {cs:Array Value} {v:Value} (ht:dr P t=some 1) (hx:ev n L x=.pointer (some ⟨g,i,none⟩)) (hy:ev n L y=v) (h1:v.oneCell'=true) (hb:Blk w g u cs) (hi:i<cs.size) :
 ∃ w',RS P (ev n L) (.store t x y) w w'∧dw g w w'∧Blk w' g u (cs.setIfInBounds i v):=by
 have hc:w.cell? ⟨g,i,none⟩=some (cs[i]'hi):=by rw [hb.cell];simp [hi]
 exact ⟨_,kx ht hx hy h1 hc (hb.frozen i),dw.setCell w g i v,hb.set_ i v⟩
end
end Go.Proofs.YtkpooenofjdpmaaGreat
namespace Go.Proofs.YtkpooenofjdpmaaGreat
open Go.Proofs.Tryz (prog)
open Go.RowKit
def zD (w:World) (base:Nat) (e:TypeId) (A:Option Addr) (n c:Nat) (xs:List Value):Prop:=
 xs.length=n∧n≤c∧c≤maxLen∧∃ g off cs,A=some ⟨g,off,none⟩∧base≤g∧Blk w g e cs∧off+c≤cs.size∧(cs.toList.drop off).take n=xs
section
variable {P:Program} {Q:Exit→Act→World→Prop} {n:Fr} {L:List (Nat×Value)} {w:World} {l:List Oper}
def yg (P:Program) (n:Fr) (Inv:(Nat→Bool)→List (Nat×Value)→World→Prop):Nat→List Oper→Prop
 |_,[]=>True
 |i,o::r=>(∀ S L' w',Inv S L' w'→S i=false→gO S o.after.toList→iE P n o (Inv (di S i)) L' w')∧yg P n Inv (i+1) r
theorem wq {T:List (Nat×Nat×Value)} {S:Nat→Bool} {L':List (Nat×Value)} (hU:kg T) (hS:∀ p∈T,S p.1=true) (hI:gC L T S L'):mkA n L'=mkA n (T.map (fun p=>(p.2.1,p.2.2))++L):=by
 unfold mkA;rw [jO fun t _=>pK hU hI hS t]
end
theorem j_ {P:Program} {ρ:Operand→Value} {w:World} {s x:Operand} {t base:Nat} {A A2:Option Addr} {m j cap c2 e size by_:Nat} {z:Value} {xs news:List Value} (hq:gA P t=some (e,size,by_,z)) (hzs:z.cells.size=size) (hs0:0<size)
 (hs:ρ s=.slice A m cap) (hown:w.ownsRow base e size (.slice A m cap) m xs) (hB:base≤w.heap.size)
 (hx:ρ x=.slice A2 j c2) (hl:news.length=j*size) (hsrc:∃ b o,A2=some ⟨b,o,none⟩∧w.rangeAt b o news) (h1:∀ u∈news,u.oneCell'=true) (h63:m+j≤9223372036854775807) (hby:(m+j)*by_≤140737488355328) :
 ∃ A' cap' w',RO P ρ (.call { callee:=.builtin .append,args:=#[s,x],argTypes:=#[t,t] }) w (.slice A' (m+j) cap') w'∧w'.ownsRow base e size (.slice A' (m+j) cap') (m+j) (xs++news)∧w.grownBy w' (A.map (·.block))∧(A'.map (·.block)=A.map (·.block)∨A'.map (·.block)=some w.heap.size):=by
 obtain ⟨i,hu,hi,hsz,hb,hz⟩:=kd hq;obtain ⟨b,o,rfl,hr⟩:=hsrc;have hobl:∀ (A:Option Addr) (m c:Nat),(Value.slice A m c).ownBlock=A.map (·.block):=fun A m c=>by cases A <;> rfl
 obtain ⟨v',w',hrun,hown',hg,_,h5⟩:=run_append_own_at (P:=P) w base t 0 e i z size by_ hu hi hz hsz hb hzs hs0 _ m xs hown ⟨b,o,none⟩ j c2 news hl (fun i u hu=>by rw [Addr.add_mid];exact hr i u hu) h1 (by unfold maxLen;omega) hby hB;obtain ⟨A',cap',rfl⟩:=fM hown';rw [hobl,hobl] at h5;refine ⟨A',cap',w',fun dst ty pos after g=>?_,hown',by rw [←hobl A m cap];exact hg,h5⟩;have hty:(Builtin.append_ #[t,t] ty #[.slice A m cap,.slice (some ⟨b,o,none⟩) j c2]).run P w=(Builtin.append_ #[t,t] 0 #[.slice A m cap,.slice (some ⟨b,o,none⟩) j c2]).run P w:=rfl;unfold execOp;simp only [resolve,invoke,builtin,Sem.run_bind,Sem.run_pure,Result.andThen_ok,List.map_toArray,List.map_cons,List.map_nil,hs,hx,hty,hrun]
end Go.Proofs.YtkpooenofjdpmaaGreat
namespace Go.Proofs.YtkpooenofjdpmaaGreat
open Go.Proofs.Tryz (prog)
open Go.RowKit Go.ChangeShapes Go.WideShapes Go.ChangeAt
def zv (A B:Option Addr):Prop:=∀ p,A.map (·.block)=some p→∀ q,B.map (·.block)=some q→p≠q
theorem pE {w:World} {base e s n c:Nat} {xs:List Value} (h:w.ownsRow base e s (.slice none n c) n xs):c=0:=by
 rcases h.2 with ⟨h1,_⟩ | ⟨g,cap,cur,hv,_⟩
 ·simp only [Value.slice.injEq] at h1;omega
 ·simp only [Value.slice.injEq] at hv;cases hv.1
theorem nP {w:World} {base e s n c:Nat} {xs:List Value} (h:w.ownsRow base e s (.slice none n c) n xs):n=0:=by
 rcases h.2 with ⟨h1,_⟩ | ⟨g,cap,cur,hv,_⟩
 ·simp only [Value.slice.injEq] at h1;omega
 ·simp only [Value.slice.injEq] at hv;cases hv.1
section
variable {P:Program} {ops:Array Oper} {Q:Exit→Act→World→Prop} {rest:List Oper} {n:Fr} {L:List (Nat×Value)} {w:World} {ty:TypeId} {pos:String} {after:Array Edge} {d:Nat} {t:TypeId} {s x y:Operand}
theorem ra {base:Nat} {A A2:Option Addr} {m j cap c2 e size by_:Nat} {z:Value} {xs news:List Value} (hq:gA P t=some (e,size,by_,z)) (hzs:z.cells.size=size) (hs0:0<size)
 (hs:ev n L s=.slice A m cap) (hown:w.ownsRow base e size (.slice A m cap) m xs) (hB:base≤w.heap.size)
 (hx:ev n L x=.slice A2 j c2) (hl:news.length=j*size) (hsrc:∃ b o,A2=some ⟨b,o,none⟩∧w.rangeAt b o news) (h1:∀ u∈news,u.oneCell'=true) (h63:m+j≤9223372036854775807) (hby:(m+j)*by_≤140737488355328)
 (k:∀ A' cap' w',w'.ownsRow base e size (.slice A' (m+j) cap') (m+j) (xs++news)→w.grownBy w' (A.map (·.block))→(A'.map (·.block)=A.map (·.block)∨A'.map (·.block)=some w.heap.size)→St P ops Q rest n ((d,.slice A' (m+j) cap')::L) w') :
 St P ops Q (⟨some d,.call { callee:=.builtin .append,args:=#[s,x],argTypes:=#[t,t] },ty,pos,after,none⟩::rest) n L w:=by
 obtain ⟨A',cap',w',hR,h2,h3,h4⟩:=j_ (P:=P) (ρ:=ev n L) (s:=s) (x:=x) (w:=w) hq hzs hs0 hs hown hB hx hl hsrc h1 h63 hby;exact ab hR (k A' cap' w' h2 h3 h4)
end
end Go.Proofs.YtkpooenofjdpmaaGreat
namespace Go.Proofs.YtkpooenofjdpmaaGreat
open Go.Proofs.Tryz (prog)
open Go.RowKit Go.ChangeShapes Go.WideShapes Go.ChangeAt
structure Chg (U:Nat→Prop) (w w':World):Prop where
 os:w'.os=w.os
 tape:w'.tape=w.tape
 output:w'.output=w.output
 size:w.heap.size≤w'.heap.size
 block:∀ k,k<w.heap.size→¬ U k→w'.heap[k]? =w.heap[k]?
section
variable {U V:Nat→Prop} {a w w' w2:World}
theorem Chg.rfl_:Chg U w w:=⟨rfl,rfl,rfl,Nat.le_refl _,fun _ _ _=>rfl⟩
theorem ai.toChg (h:ai w w'):Chg U w w':=⟨h.os,h.tape,h.output,h.size,fun k hk _=>h.block k hk⟩
theorem dw.toChg {g:Nat} (h:dw g w w') (hg:U g):Chg U w w':=⟨h.os,h.tape,h.output,Nat.le_of_eq h.size.symm,fun k _ hu=>h.block k (fun e=>hu (e ▸ hg))⟩
theorem Chg.of_grown {r:Option Nat} (h:w.grownBy w' r) (hr:∀ k,r=some k→U k):Chg U w w':=⟨h.os,h.tape,h.output,h.size,fun k hk hu=>h.block k hk (fun e=>hu (hr k e.symm))⟩
theorem Chg.trans (h:Chg U w w') (k:Chg V w' w2) (hV:∀ i,V i→U i∨w.heap.size≤i):Chg U w w2:=⟨k.os.trans h.os,k.tape.trans h.tape,k.output.trans h.output,Nat.le_trans h.size k.size,fun i hi hu=>by
 refine (k.block i (Nat.lt_of_lt_of_le hi h.size) fun hv=>?_).trans (h.block i hi hu);rcases hV i hv with e | e
 ·exact hu e
 ·omega⟩
theorem Chg.next (h:Chg U w w') (k:Chg U w' w2):Chg U w w2:=h.trans k fun _ h=>.inl h
theorem Chg.wide (h:Chg U w w') (hV:∀ i,U i→V i∨w.heap.size≤i):Chg V w w':=(Chg.rfl_ (U:=V)).trans h hV
theorem ai.chg (h:ai a w) (c:Chg U w w') (hU:∀ k,U k→a.heap.size≤k):ai a w':=⟨c.os.trans h.os,c.tape.trans h.tape,c.output.trans h.output,Nat.le_trans h.size c.size,fun k hk=>(c.block k (Nat.lt_of_lt_of_le hk h.size) (fun hu=>by have:=hU k hu;omega)).trans (h.block k hk)⟩
theorem Blk.chg {g:Nat} {t:TypeId} {cs:Array Value} (h:Blk w g t cs) (c:Chg U w w') (hg:¬ U g):Blk w' g t cs:=(c.block g h.lt hg).trans h
theorem eK {base e s n c:Nat} {A:Option Addr} {xs:List Value} (h:w.ownsRow base e s (.slice A n c) n xs) (hc:Chg U w w') (hA:∀ q,A.map (·.block)=some q→¬ U q):w'.ownsRow base e s (.slice A n c) n xs:=by
 refine ⟨h.1,?_⟩;rcases h.2 with h0 | ⟨g,cap,cur,h1,h2,h3,h4⟩
 ·exact .inl h0
 ·refine .inr ⟨g,cap,cur,h1,h2,?_,h4⟩;simp only [Value.slice.injEq] at h1;obtain ⟨rfl,_,_⟩:=h1
  have hlt:g<w.heap.size:=by
   rcases Nat.lt_or_ge g w.heap.size with a | a
   ·exact a
   ·rw [Array.getElem?_eq_none a] at h3;cases h3
  exact (hc.block g hlt (hA g rfl)).trans h3
end
def zA (w w':World) (n:Nat):World:={ w' with heap:=w'.heap.mapIdx fun i o=>if i<n then o else (w.heap[i]?).getD o }
end Go.Proofs.YtkpooenofjdpmaaGreat
namespace Go.Proofs.YtkpooenofjdpmaaGreat
open Go.Proofs.Tryz (prog)
open Go.RowKit
open Go.ChangeShapes Go.WideShapes Go.ChangeAt
open Go.RowKit
def eY (w:World) (base:Nat) (e s:Nat) (A:Option Addr) (n c:Nat) (xs:List Value):Prop:=
 xs.length=n*s∧n≤c∧c≤maxLen∧((A=none∧n=0∧c=0)∨∃ g off cs,A=some ⟨g,off,none⟩∧base≤g∧Blk w g e cs∧off+c*s≤cs.size∧(cs.toList.drop off).take (n*s)=xs)
section
variable {w w':World} {base e s n c:Nat} {A:Option Addr} {xs:List Value}
theorem eY.of_own (h:w.ownsRow base e s (.slice A n c) n xs):eY w base e s A n c xs:=by
 have hl:xs.length=n*s:=by simpa using h.1
 rcases h.2 with ⟨h0,hx⟩ | ⟨g,cap,cur,hv,hbg,hg,hnc,hcm,hcs,htake⟩
 ·simp only [Value.slice.injEq] at h0;obtain ⟨rfl,rfl,rfl⟩:=h0;exact ⟨hl,Nat.le_refl _,by unfold maxLen;omega,.inl ⟨rfl,rfl,rfl⟩⟩
 ·simp only [Value.slice.injEq] at hv;obtain ⟨rfl,_,rfl⟩:=hv;exact ⟨hl,hnc,hcm,.inr ⟨g,0,cur,rfl,hbg,hg,by omega,by simpa using htake⟩⟩
theorem eY.chg {U:Nat→Prop} (h:eY w base e s A n c xs) (hC:Chg U w w') (hA:∀ q,A.map (·.block)=some q→¬ U q):eY w' base e s A n c xs:=by
 obtain ⟨h1,h2,h3,h4⟩:=h;refine ⟨h1,h2,h3,h4.imp id ?_⟩;rintro ⟨g,off,cs,rfl,hb,hB,h5,h6⟩;exact ⟨g,off,cs,rfl,hb,hB.chg hC (hA g rfl),h5,h6⟩
theorem eY.from_ (h:eY w base e s A n c xs) (hF:ai w w'):eY w' base e s A n c xs:=h.chg (U:=fun _=>False) hF.toChg fun _ _ h=>h
theorem eY.le {b2:Nat} (h:eY w base e s A n c xs) (hb:b2≤base):eY w b2 e s A n c xs:=by
 obtain ⟨h1,h2,h3,h4⟩:=h;refine ⟨h1,h2,h3,h4.imp id ?_⟩;rintro ⟨g,off,cs,rfl,hb2,hB,h5,h6⟩;exact ⟨g,off,cs,rfl,Nat.le_trans hb hb2,hB,h5,h6⟩
theorem eY.at_ (h:eY w base e s A n c xs):∀ k,A.map (·.block)=some k→base≤k∧k<w.heap.size:=by
 obtain ⟨_,_,_,h4⟩:=h;intro k hk;rcases h4 with ⟨rfl,_⟩ | ⟨g,off,cs,rfl,hb,hB,_⟩
 ·cases hk
 ·cases hk;exact ⟨hb,hB.lt⟩
theorem eY.off {b T:Nat} {cs:Array Value} (h:eY w base e s A n c xs) (hb:Blk w b T cs) (hT:T≠e):∀ k,A.map (·.block)=some k→k≠b:=by
 obtain ⟨_,_,_,h4⟩:=h;intro k hk;rcases h4 with ⟨rfl,_⟩ | ⟨g,off,cs2,rfl,_,hB,_⟩
 ·cases hk
 ·cases hk;intro e1;subst e1;have:=hB.symm.trans hb;simp only [Option.some.injEq,Obj.cells.injEq] at this;exact hT this.2.1.symm
theorem eY.range (h:eY w base e s A n c xs):0<n→∃ b o,A=some ⟨b,o,none⟩∧b<w.heap.size∧w.rangeAt b o xs:=by
 obtain ⟨h1,h2,h3,h4⟩:=h;intro h0;rcases h4 with ⟨_,h5,_⟩ | ⟨g,off,cs,rfl,hb,hB,h5,h6⟩
 ·omega
 ·refine ⟨g,off,rfl,hB.lt,fun j v hv=>?_⟩;have hj:j<n*s:=by have:=(List.getElem?_eq_some_iff.1 hv).1;omega
  rw [hB.cell,←Array.getElem?_toList,←List.getElem?_drop,←hv,←h6,List.getElem?_take_of_lt hj]
theorem eY.rest {k:Nat} (h:eY w base e s A n c xs) (hk:k≤n):eY w base e s (fK A c k s) (n-k) (c-k) (xs.drop (k*s)):=by
 obtain ⟨h1,h2,h3,h4⟩:=h;have hm:(n-k)*s=n*s-k*s:=Nat.sub_mul _ _ _;have hm2:(c-k)*s=c*s-k*s:=Nat.sub_mul _ _ _;have hm3:k*s≤c*s:=Nat.mul_le_mul_right _ (Nat.le_trans hk h2);have hm4:n*s≤c*s:=Nat.mul_le_mul_right _ h2;refine ⟨by rw [List.length_drop];omega,by omega,by omega,?_⟩;unfold fK;rcases h4 with ⟨rfl,h5,h7⟩ | ⟨g,off,cs,rfl,hb,hB,h5,h6⟩
 ·refine .inl ⟨by split <;> rfl,by omega,by omega⟩
 ·by_cases hc:c=k
  ·obtain rfl:n=k:=by omega
   rw [if_pos hc];exact .inr ⟨g,off,cs,rfl,hb,hB,by omega,by rw [Nat.sub_self,Nat.zero_mul,List.take_zero,List.drop_of_length_le (by omega)]⟩
  ·rw [if_neg hc];exact .inr ⟨g,off+k*s,cs,by simp [Addr.add_mid],hb,hB,by omega,by rw [←h6,hm,List.drop_take,List.drop_drop]⟩
end
theorem kR {P:Program} (w:World) (t ty e:TypeId) (i:TypeInfo) (ht:P.underlying t=some (.slice e)) (hi:P.info? e=some i)
 (g off sLen sCap:Nat) (cur:Array Value) (hg:w.heap[g]? =some (.cells cur e (0,0)))
 (a:Addr) (m c:Nat) (news:List Value) (hl:news.length=m*i.size) (hnews:∀ j u,news[j]? =some u→w.cell? (a.add j)=some u) (h1:∀ u∈news,u.oneCell'=true)
 (hroom:sLen+m≤sCap) (hfit:off+sLen*i.size+news.length≤cur.size) :
 (Builtin.append_ #[t,t] ty #[.slice (some ⟨g,off,none⟩) sLen sCap,.slice (some a) m c]).run P w=
  .ok (.slice (some ⟨g,off,none⟩) (sLen+m) sCap) (w.setRow g (cur.toList.take (off+sLen*i.size)++news++cur.toList.drop (off+sLen*i.size+news.length)).toArray):=by
 have hf:=run_firstCells_some (P:=P) w i.size m a m c news hl hnews;have hst:=run_storeCells_at P g (off+sLen*i.size) e news 0 cur w hg (by simpa using hfit) h1;simp only [Nat.add_zero] at hst;simp [Builtin.append_,run_underlying ht,sizeOf,typeInfo,hi,Builtin.lenOf,hroom,hf,Addr.add_mid,hst]
theorem rq {P:Program} {ρ:Operand→Value} {w:World} {s x:Operand} {t base:Nat} {A A2:Option Addr} {m j cap c2 e size by_:Nat} {z:Value} {xs news:List Value} (hq:gA P t=some (e,size,by_,z)) (hzs:z.cells.size=size) (hs0:0<size)
 (hs:ρ s=.slice A m cap) (hown:eY w base e size A m cap xs) (hB:base≤w.heap.size)
 (hx:ρ x=.slice A2 j c2) (hl:news.length=j*size) (hsrc:∃ b o,A2=some ⟨b,o,none⟩∧w.rangeAt b o news) (h1:∀ u∈news,u.oneCell'=true) (h63:m+j≤9223372036854775807) (hby:(m+j)*by_≤140737488355328) :
 ∃ A' cap' w',RO P ρ (.call { callee:=.builtin .append,args:=#[s,x],argTypes:=#[t,t] }) w (.slice A' (m+j) cap') w'∧eY w' base e size A' (m+j) cap' (xs++news)∧w.grownBy w' (A.map (·.block)):=by
 have hown0:=hown;obtain ⟨g1,g2,g3,hA⟩:=hown;rcases hA with ⟨rfl,rfl,rfl⟩ | ⟨g,off,cur,rfl,hbg,hg,g4,g5⟩
 ·have hx0:xs=[]:=List.eq_nil_of_length_eq_zero (by omega);subst hx0;obtain ⟨A',cap',w',h1,h2,h3,_⟩:=j_ (P:=P) (ρ:=ρ) (w:=w) (s:=s) (x:=x) (t:=t) (base:=base) (A:=none) (A2:=A2) (m:=0) (j:=j) (cap:=0) (c2:=c2) hq hzs hs0 hs (World.ownsRow_nil _ _ _ _) hB hx hl hsrc h1 h63 hby;exact ⟨A',cap',w',h1,eY.of_own h2,h3⟩
 obtain ⟨i,hu,hi,hsz,hb,hz⟩:=kd hq;obtain ⟨b,o,rfl,hr⟩:=hsrc;subst hsz;have hnews:∀ k u,news[k]? =some u→w.cell? ((⟨b,o,none⟩:Addr).add k)=some u:=fun k u hk=>by rw [Addr.add_mid];exact hr k u hk
 have hmj:(m+j)*i.size=m*i.size+j*i.size:=Nat.add_mul _ _ _
 have key:∀ ty,∃ A' cap' w',(Builtin.append_ #[t,t] ty #[.slice (some ⟨g,off,none⟩) m cap,.slice (some ⟨b,o,none⟩) j c2]).run P w=.ok (.slice A' (m+j) cap') w'∧eY w' base e i.size A' (m+j) cap' (xs++news)∧w.grownBy w' (some g):=fun ty=>by
  by_cases hroom:m+j≤cap
  ·have hrc:(m+j)*i.size≤cap*i.size:=Nat.mul_le_mul_right _ hroom;have hrun:=kR w t ty e i hu hi g off m cap cur hg _ j c2 news hl hnews h1 hroom (by omega);refine ⟨_,_,_,hrun,⟨by rw [List.length_append];omega,hroom,g3,.inr ⟨g,off,_,rfl,hbg,setRow_heap w g cur _ e _ hg,?_,?_⟩⟩,⟨rfl,rfl,rfl,by simp,fun k _ hk=>setRow_other w g k _ (fun e=>hk (by rw [e]))⟩⟩
   ·simp only [List.size_toArray,List.length_append,List.length_take,List.length_drop,Array.length_toList];omega
   ·show ((List.take (off+m*i.size) cur.toList++news++List.drop (off+m*i.size+news.length) cur.toList).drop off).take ((m+j)*i.size)=xs++news;have hcl:cur.toList.length=cur.size:=Array.length_toList;rw [List.append_assoc,List.drop_append_of_le_length (by rw [List.length_take];omega),List.drop_take,show off+m*i.size-off=m*i.size by omega,g5,←List.append_assoc];exact List.take_left' (by rw [List.length_append];omega)
  ·have holds:∀ k u,xs[k]? =some u→w.cell? ((⟨g,off,none⟩:Addr).add k)=some u:=fun k u hk=>by
    rw [Addr.add_mid];have hkl:k<m*i.size:=by have:=(List.getElem?_eq_some_iff.1 hk).1;omega
    rw [hg.cell,←Array.getElem?_toList,←List.getElem?_drop,←hk,←g5,List.getElem?_take_of_lt hkl]
   have hrun:=run_append_grow (P:=P) w t ty e i z hu hi hz ⟨g,off,none⟩ m cap xs g1 holds ⟨b,o,none⟩ j c2 news hl hnews (by omega) (by omega) (by rw [hb];exact growslice_fits (by omega) hby);have hge:=grownCap_ge w (m+j) cap e;refine ⟨_,_,_,hrun,⟨by rw [List.length_append];omega,hge,grownCap_le_maxLen w (m+j) cap e (by unfold maxLen;omega),.inr ⟨w.heap.size,0,_,rfl,hB,heap_alloc_new w.drew _,?_,?_⟩⟩,⟨rfl,rfl,rfl,by simp,fun k hk _=>heap_alloc_old w.drew _ hk⟩⟩
   ·have h9:(m+j)*i.size+(grownCap w (m+j) cap e-(m+j))*i.size=grownCap w (m+j) cap e*i.size:=by rw [←Nat.add_mul];congr 1;omega
    simp only [Array.size_append,List.size_toArray,size_zeroCells,hzs,g1,hl];omega
   ·simp only [Array.toList_append,List.drop_zero];exact List.take_left' (by rw [List.length_append];omega)
 obtain ⟨A',cap',w',hrun,hown',hgr⟩:=key 0;refine ⟨A',cap',w',fun dst ty pos after g=>?_,hown',hgr⟩;have hty:∀ y:Value,(Builtin.append_ #[t,t] ty #[y,.slice (some ⟨b,o,none⟩) j c2]).run P w=(Builtin.append_ #[t,t] 0 #[y,.slice (some ⟨b,o,none⟩) j c2]).run P w:=fun _=>rfl
 unfold execOp;simp only [resolve,invoke,builtin,Sem.run_bind,Sem.run_pure,Result.andThen_ok,List.map_toArray,List.map_cons,List.map_nil,hs,hx,hty,hrun]
section
variable {P:Program} {ops:Array Oper} {Q:Exit→Act→World→Prop} {rest:List Oper} {n:Fr} {L:List (Nat×Value)} {w:World} {ty:TypeId} {pos:String} {after:Array Edge} {d:Nat} {t:TypeId} {x s:Operand}
theorem q_ {base:Nat} {A A2:Option Addr} {m j cap c2 e size by_:Nat} {z:Value} {xs news:List Value} (hq:gA P t=some (e,size,by_,z)) (hzs:z.cells.size=size) (hs0:0<size)
 (hs:ev n L s=.slice A m cap) (hown:eY w base e size A m cap xs) (hB:base≤w.heap.size)
 (hx:ev n L x=.slice A2 j c2) (hl:news.length=j*size) (hsrc:∃ b o,A2=some ⟨b,o,none⟩∧w.rangeAt b o news) (h1:∀ u∈news,u.oneCell'=true) (h63:m+j≤9223372036854775807) (hby:(m+j)*by_≤140737488355328)
 (k:∀ A' cap' w',eY w' base e size A' (m+j) cap' (xs++news)→w.grownBy w' (A.map (·.block))→St P ops Q rest n ((d,.slice A' (m+j) cap')::L) w') :
 St P ops Q (⟨some d,.call { callee:=.builtin .append,args:=#[s,x],argTypes:=#[t,t] },ty,pos,after,none⟩::rest) n L w:=by
 obtain ⟨A',cap',w',h1,h2,h3⟩:=rq hq hzs hs0 hs hown hB hx hl hsrc h1 h63 hby;exact ab h1 (k A' cap' w' h2 h3)
end
abbrev zF (w:World) (base:Nat) (A:Option Addr) (n c:Nat) (es:List Ent):Prop:=eY w base 99 3 A n c (dV es)
theorem uX {w:World} {b:Nat} {e:Ent} (h:Blk w b 99 #[.int .i64 e.i,.int .i64 e.t,.string e.d]):cQ w (.slice (some ⟨b,0,none⟩) 1 1) [e]:=
 ⟨some ⟨b,0,none⟩,1,rfl,Nat.le_refl _,by decide,fun h=>(by cases h),fun _=>⟨b,0,rfl,h.lt,fun i hi=>by
  obtain rfl:i=0:=by have:i<1:=hi;omega
  exact ⟨by rw [h.cell];rfl,by rw [h.cell];rfl,by rw [h.cell];rfl⟩⟩⟩
structure Msg where
 k:Int
 f:Int
 t:Int
 tm:Int
 ix:Int
 lt:Int
 cm:Int
 rd:Int
 ok:Bool
 a:Int
 d:ByteArray
 dn:Bool
 E:Option Addr
 c:Nat
 es:List Ent
def bT (x:Msg):List Value:=[.int .i64 x.k,.int .i64 x.f,.int .i64 x.t,.int .i64 x.tm,.int .i64 x.ix,.int .i64 x.lt,.int .i64 x.cm,.int .i64 x.rd,.bool x.ok,.slice x.E x.es.length x.c,.int .i64 x.a,.string x.d,.bool x.dn]
def pl (x:Msg):Msg:={ x with E:=none,c:=0 }
end Go.Proofs.YtkpooenofjdpmaaGreat
namespace Go.Proofs.YtkpooenofjdpmaaGreat
open Go.Proofs.Tryz (prog)
open Go.RowKit
def leB (x y:Int):Bool:=decide (x≤y)
def srt (L:List Int):List Int:=L.mergeSort leB
def cnt (L:List Int) (x:Int):Nat:=L.countP fun y=>decide (x≤y)
def med (L:List Int):Int:=(srt L).getD ((L.length-1)/2) 0
def Fit (L:List Int):Prop:=1≤L.length∧L.length≤7∧∀ x∈L,0≤x
theorem mw (L:List Int):(srt L).Perm L:=List.mergeSort_perm L leB
theorem oz (L:List Int):(srt L).length=L.length:=(mw L).length_eq
theorem uJ {L:List Int} (h:1≤L.length):∃ h2:(L.length-1)/2<(srt L).length,med L=(srt L)[(L.length-1)/2]:=by
 have h2:(L.length-1)/2<(srt L).length:=by rw [oz];omega
 refine ⟨h2,?_⟩;unfold med;rw [List.getD_eq_getElem?_getD,List.getElem?_eq_getElem h2];rfl
theorem oH {L:List Int} (h:1≤L.length):med L∈L:=by
 obtain ⟨h2,e⟩:=uJ h;rw [e];exact (mw L).mem_iff.1 (List.getElem_mem _)
def cv (V:List Int) (n:Nat):Nat:=(List.range n).countP fun i=>decide (((i+1:Nat):Int)∈V)
theorem sJ (V:List Int) (j:Nat):cv V (j+1)=cv V j+if ((j+1:Nat):Int)∈V then 1 else 0:=by
 unfold cv;rw [List.range_succ,List.countP_append];simp [List.countP_cons]
theorem yM (V:List Int) (n:Nat):cv V n≤n:=by
 have:=List.countP_le_length (p:=fun i:Nat=>decide (((i+1:Nat):Int)∈V)) (l:=List.range n);rw [List.length_range] at this;exact this
theorem jP {V:List Int} {k:Nat} (h:k<V.length) (x:Int):x∈V.take (k+1)↔x∈V.take k∨x=V[k]:=by
 rw [List.take_add_one,List.getElem?_eq_getElem h,List.mem_append];simp only [Option.toList,List.mem_singleton]
theorem l9 {V:List Int} {k n:Nat} (h:k<V.length) (hx:¬ (1≤V[k]∧V[k]≤n)∨V[k]∈V.take k):cv (V.take (k+1)) n=cv (V.take k) n:=by
 unfold cv;apply List.countP_congr;intro i hi;rw [List.mem_range] at hi;simp only [decide_eq_true_eq,jP h];constructor
 ·rintro (h1 | h1)
  ·exact h1
  ·rcases hx with h2 | h2
   ·omega
   ·rw [h1];exact h2
 ·exact .inl
theorem u3 {V:List Int} {k:Nat} (h:k<V.length) (hx:V[k] ∉ V.take k):∀ n:Nat,1≤V[k]→V[k]≤n→cv (V.take (k+1)) n=cv (V.take k) n+1
 |0,h1,h2=>by omega
 |n+1,h1,h2=>by
  rw [sJ,sJ];by_cases he:V[k]=((n+1:Nat):Int)
  ·rw [if_pos ((jP h _).2 (.inr he.symm)),if_neg (by rw [←he];exact hx),l9 h (.inl (by omega))]
  ·rw [u3 h hx n h1 (by omega)]
   have:((n+1:Nat):Int)∈V.take (k+1)↔((n+1:Nat):Int)∈V.take k:=by
    rw [jP h];exact ⟨fun hh=>hh.elim id fun e=>absurd e.symm he,.inl⟩
   simp only [this];omega
def vt (V:List Int) (n i:Nat):Bool:=decide (1≤i∧i≤n∧(i:Int)∈V)
def ko (V:List Int) (n:Nat):List Value:=(List.range 8).map fun i=>.bool (vt V n i)
theorem pb (V:List Int) (n i:Nat) (h:i<8):(ko V n).toArray[0+i*1]? =some (.bool (vt V n i)):=by
 unfold ko;simp [h]
theorem kN {V:List Int} {k n:Nat} (h:k<V.length) (hx:¬ (1≤V[k]∧V[k]≤n)∨V[k]∈V.take k):ko (V.take (k+1)) n=ko (V.take k) n:=by
 unfold ko;apply List.map_congr_left;intro i _
 congr 1
 unfold vt;rw [decide_eq_decide,jP h];constructor
 ·rintro ⟨h1,h2,h3 | h3⟩
  ·exact ⟨h1,h2,h3⟩
  ·rcases hx with h4 | h4
   ·omega
   ·exact ⟨h1,h2,by rw [h3];exact h4⟩
 ·rintro ⟨h1,h2,h3⟩;exact ⟨h1,h2,.inl h3⟩
theorem tO {V:List Int} {k n:Nat} (h:k<V.length) (h1:1≤V[k]) (h2:V[k]≤n) (hn:n≤7):(ko (V.take k) n).toArray.setIfInBounds (0+V[k].toNat*1) (.bool true)=(ko (V.take (k+1)) n).toArray:=by
 apply Array.ext_getElem?;intro i;rw [Array.getElem?_setIfInBounds];by_cases hi:i<8
 ·have g:=fun U=>pb U n i hi
  rw [Nat.zero_add,Nat.mul_one] at g;rw [g,g];by_cases he:0+V[k].toNat*1=i
  ·rw [if_pos he,if_pos (by unfold ko;simp;omega)]
   congr 2
   symm;unfold vt;rw [decide_eq_true_eq,jP h];exact ⟨by omega,by omega,.inr (by omega)⟩
  ·rw [if_neg he]
   congr 2
   unfold vt;rw [decide_eq_decide,jP h];constructor
   ·rintro ⟨a,b,c⟩;exact ⟨a,b,.inl c⟩
   ·rintro ⟨a,b,c | c⟩
    ·exact ⟨a,b,c⟩
    ·omega
 ·have:∀ U,(ko U n).toArray[i]? =none:=fun U=>by unfold ko;simp;omega
  rw [this,this,if_neg (by omega)]
theorem tN (n:Nat):ko [] n=[.bool false,.bool false,.bool false,.bool false,.bool false,.bool false,.bool false,.bool false]:=by
 unfold ko vt;simp [List.range_succ]
def xsh (s:Int) (m:Int):Int:=bits BinOp.xor IntKind.u64 s (IntKind.u64.wrap (s*m))
def xsr (s:Int):Int:=bits BinOp.xor IntKind.u64 s (s/128)
def nx (s:Int):Int:=xsh (xsr (xsh (if s=0 then 11400714819323198485 else s) 8192)) 131072
def za (s:Int):Nat→Int
 |0=>s
 |1=>xsh s 8192
 |2=>xsr (xsh s 8192)
 |_=>xsh (xsr (xsh s 8192)) 131072
theorem xU (s:Int) (b:Nat) (w:World) (h0:w.cell? ⟨b,0,none⟩=some (.int .i64 13)) (h1:w.cell? ⟨b,1,none⟩=some (.int .i64 (-7))) (h2:w.cell? ⟨b,2,none⟩=some (.int .i64 17)) :
 Calls prog 173 #[.int .u64 s,.slice (some ⟨b,0,none⟩) 3 3] w fun e w'=>e=.returned (.int .u64 (xsh (xsr (xsh s 8192)) 131072))∧w=w':=by
 go_enter Tryz.func173,Tryz.ntmps173
 go_wp2
 go_loop [0,9] (fun x i=>∃ k:Nat,k≤3∧i=.int .i64 k∧x=.int .u64 (za s k)) (fun _ i=>3-(intOf i).toNat)
 case atStart=>exact ⟨0,by omega,rfl,rfl⟩
 case round=>
  obtain ⟨k,hk,rfl,rfl⟩:=hrel;obtain rfl | rfl | rfl | rfl:k=0∨k=1∨k=2∨k=3:=by omega
  ·go_wp2
   go_round
   case rel=>exact ⟨1,by omega,rfl,rfl⟩
   case measure=>simp [intOf]
  ·go_wp2
   go_round
   case rel=>exact ⟨2,by omega,rfl,rfl⟩
   case measure=>simp [intOf]
  ·go_wp2
   go_round
   case rel=>exact ⟨3,by omega,rfl,rfl⟩
   case measure=>simp [intOf]
  ·go_wp2
   go_ret
   exact ⟨rfl,rfl⟩
def st0 (s:Int):Int:=if s=0 then 11400714819323198485 else s
theorem uA (s:Int) (w:World) :
 Calls prog 159 #[.int .u64 s] w fun e w'=>e=.returned (.agg #[.int .u64 (st0 s)])∧ai w w':=by
 by_cases hs:s=0
 ·subst hs
  go_enter Tryz.func159,Tryz.ntmps159
  go_wp2
  exact bodyPost_ret (v:=.agg #[.int .u64 11400714819323198485]) (by simp [results,Tryz.results159,go_sem]) rfl ⟨rfl,ai.rfl_.new _⟩
 ·have hs':(s==0)=false:=by simpa using hs
  go_enter Tryz.func159,Tryz.ntmps159
  go_wp2
  exact bodyPost_ret (v:=.agg #[.int .u64 s]) (by simp [results,Tryz.results159,go_sem]) rfl ⟨by simp [st0,hs],ai.rfl_.new _⟩
theorem yu (s:Int) (w:World) :
 Calls prog 160 #[.agg #[.int .u64 s]] w fun e w'=>e=.returned (.agg #[.int .u64 (xsh (xsr (xsh s 8192)) 131072)])∧ai w w':=by
 go_enter Tryz.func160,Tryz.ntmps160
 go_wp2_with (first
  |(go_at_call 173
    refine (xU _ _ _ ?_ ?_ ?_).mono ?_
    ·go_simp
    ·go_simp
    ·go_simp
    rintro e w1 ⟨rfl,rfl⟩))
 exact bodyPost_ret (v:=.agg #[.int .u64 (xsh (xsr (xsh s 8192)) 131072)]) (by simp [results,Tryz.results160,go_sem]) rfl ⟨rfl,((ai.rfl_.new _).new _).new _⟩
theorem next (s:Int) (w:World) :
 Calls prog 130 #[.int .u64 s] w fun e w'=>e=.returned (.int .u64 (nx s))∧ai w w':=by
 have hfd:∀ (a:Int) (w:World),(Instr.field 171 (.agg #[.int .u64 a]) 0).run prog w=.ok (.int .u64 a) w:=fun _ _=>by kernel_rfl
 go_enter Tryz.func130,Tryz.ntmps130
 go_wp2_with (first | (go_at_call 159;refine (uA _ _).mono ?_;rintro e w1 ⟨rfl,hb1⟩) | (go_at_call 160;refine (yu _ _).mono ?_;rintro e w2 ⟨rfl,hb2⟩))
 go_ret
 exact ⟨rfl,hb1.next hb2⟩
def bl (s n:Int):Int:=if n<1 then 0 else wrap64 ((nx s).tmod n)
theorem wZ {s n:Int} (h:1≤n):bl s n=wrap64 ((nx s).tmod n):=by unfold bl;rw [if_neg (by omega)]
theorem below (s n:Int) (w:World) (hn:n≤9223372036854775807) :
 Calls prog 94 #[.int .u64 s,.int .i64 n] w fun e w'=>e=.returned (.tuple #[.int .u64 (nx s),.int .i64 (bl s n)])∧ai w w':=by
 by_cases h:n<1
 ·go_enter Tryz.func94,Tryz.ntmps94
  go_wp2_with (go_at_call 130;refine (next _ _).mono ?_;rintro e w1 ⟨rfl,hb1⟩)
  go_ret2
  exact ⟨by simp [bl,h],hb1⟩
 ·have h1:1≤n:=by omega
  have hz:(n==0)=false:=by simp;omega
  go_enter Tryz.func94,Tryz.ntmps94
  go_wp2_with (go_at_call 130;refine (next _ _).mono ?_;rintro e w1 ⟨rfl,hb1⟩)
  go_quiet (fail)
  go_wp2
  go_ret2
  exact ⟨by rw [wZ h1];rfl,hb1.dn _⟩
end Go.Proofs.YtkpooenofjdpmaaGreat
namespace Go.Proofs.YtkpooenofjdpmaaGreat
open Go.Proofs.Tryz (prog)
open Go.RowKit
open Go.ChangeShapes Go.WideShapes Go.ChangeAt
open Go.RowKit
structure Rd where
 id:Int
 ix:Int
 rn:Int
 acks:List Int
structure Rf where
 id:Int
 nodes:Int
 role:Int
 term:Int
 vote:Int
 leader:Int
 b:Int
 t:Int
 es:List Ent
 snap:ByteArray
 commit:Int
 elapsed:Int
 timeout:Int
 seed:Int
 votes:List Int
 next:List Int
 mtch:List Int
 sent:List Int
 round:Int
 reads:List Rd
 part:ByteArray
 partOf:Int
def zR:Rf:=⟨0,0,0,0,0,0,0,0,[],⟨#[]⟩,0,0,0,0,[],[],[],[],0,[],⟨#[]⟩,0⟩
def zM:Msg:={ k:=0,f:=0,t:=0,tm:=0,ix:=0,lt:=0,cm:=0,rd:=0,ok:=false,a:=0,d:=⟨#[]⟩,dn:=false,E:=none,c:=0,es:=[] }
def dZ:Int:=1099511627775
def fB:List Int→Bool
 |a::b::r=>decide (a<b)&&fB (b::r)
 |_=>true
def eL (l:List Int) (n:Int):Bool:=l.all (fun x=>decide (1≤x)&&decide (x≤n))&&fB l
def kF (l:List Int) (n:Nat) (lo hi:Int):Bool:=decide (l.length=n)&&l.all fun x=>decide (lo≤x)&&decide (x≤hi)
def gD (s:Rf) (q:Rd):Bool:=inb 1 1099511627776 q.id&&inb 0 s.commit q.ix&&inb 0 s.round q.rn&&eL q.acks s.nodes
def fu (s:Rf):Nat:=if s.role=2 then s.nodes.toNat else 0
def aQ (s:Rf):Int:=cW s.b s.es
def jo (s:Rf):Bool:=
 decide (1≤s.nodes)&&decide (s.nodes≤7)&&inb 1 s.nodes s.id&&inb 0 2 s.role&&inb 0 dZ s.term&&inb 0 s.nodes s.vote&&inb 0 s.nodes s.leader&&cn s.b s.t s.es&&decide (s.snap.size≤524288)&&(decide (s.b≠0)||decide (s.snap.size=0))&&
 inb 0 dZ s.elapsed&&inb 0 dZ s.timeout&&inb 0 dZ s.round&&eL s.votes s.nodes&&decide (dE s.t s.es≤s.term)&&inb s.b (aQ s) s.commit&&decide (s.part.size≤524288)&&inb 0 1099511625728 s.partOf&&(decide (s.partOf≠0)||decide (s.part.size=0))&&
 kF s.next (fu s) 1 (aQ s+1)&&kF s.mtch (fu s) 0 (aQ s)&&kF s.sent (fu s) 0 s.snap.size&&decide (s.reads.length≤32)&&(decide (fu s≠0)||decide (s.reads.length=0))&&s.reads.all (gD s)
structure Sp where
 s:Rf
 out:List Msg
def at1 (l:List Int) (id:Int):Int:=l.getD (id-1).toNat 0
def ck (l:List Int) (id v:Int):List Int:=l.set (id-1).toNat v
def gB (s:Rf):Rf:={ s with seed:=nx s.seed,timeout:=10+bl s.seed 10,elapsed:=0 }
def pH (id n seed:Int):Rf:=gB { zR with id:=id,nodes:=n,seed:=seed }
def ig (s:Rf):Rf:={ s with votes:=[],next:=[],mtch:=[],sent:=[],reads:=[] }
def cF (s:Rf) (tm:Int):Rf:=
 let a:={ ig s with role:=0,leader:=0 }
 if s.term<tm then { a with term:=tm,vote:=0,part:=⟨#[]⟩,partOf:=0 } else a
def pU (s:Rf) (m:Msg):Msg:={ m with f:=s.id,tm:=s.term }
def Sp.tell (p:Sp) (m:Msg):Sp:=⟨p.s,p.out++[pU p.s m]⟩
def kv (s:Rf) (to:Int):Msg:=
 let nx:=at1 s.next to
 if nx≤s.b then
  let a:=at1 s.sent to
  let e:=min (a.toNat+1024) s.snap.size
  { zM with k:=5,t:=to,ix:=s.b,lt:=s.t,rd:=s.round,a:=a,d:=s.snap.extract a.toNat e,dn:=decide (e=s.snap.size) }
 else { zM with k:=3,t:=to,ix:=nx-1,lt:=dz s.b s.t s.es (nx-1),cm:=s.commit,rd:=s.round,es:=(s.es.drop (nx-1-s.b).toNat).take 16 }
def c_ (s:Rf):List Int:=((List.range s.nodes.toNat).map fun k=>((k+1:Nat):Int)).filter fun k=>decide (k≠s.id)
def Sp.send (p:Sp) (to:Int):Sp:=p.tell (kv p.s to)
def Sp.sends:Sp→List Int→Sp
 |p,[]=>p
 |p,x::r=>Sp.sends (p.send x) r
def Sp.all (p:Sp):Sp:=p.sends (c_ p.s)
def eD (n:Int) (l:List Int):Bool:=decide (n.toNat<2*cv l n.toNat)
def cH (s:Rf):Rf:=
 let m:=ck s.mtch s.id (aQ s)
 let i:=med m
 { s with mtch:=m,commit:=if s.commit<i∧dz s.b s.t s.es i=s.term then i else s.commit }
def gF (s:Rf):Bool:=decide (s.es.length=512)||decide (aQ s=1099511627776)
def eI (s:Rf) (d:ByteArray):Rf:={ s with es:=s.es++[⟨aQ s+1,s.term,d⟩] }
def pL (p:Sp):Sp:=
 if gF p.s then ⟨cF p.s p.s.term,p.out⟩ else
 let l:=aQ p.s
 let a:={ ig p.s with role:=2,leader:=p.s.id,elapsed:=0,next:=List.replicate p.s.nodes.toNat (l+1),mtch:=List.replicate p.s.nodes.toNat 0,sent:=List.replicate p.s.nodes.toNat 0 }
 let q:=Sp.all ⟨eI a ⟨#[]⟩,p.out⟩
 ⟨cH q.s,q.out⟩
def lq (p:Sp):Sp:=if eD p.s.nodes p.s.votes then pL p else p
def ic (s:Rf):Sp:=
 if s.term=dZ then ⟨gB s,[]⟩ else
 let a:=gB { ig s with term:=s.term+1,vote:=s.id,role:=1,leader:=0,votes:=[s.id],part:=⟨#[]⟩,partOf:=0 }
 lq ((c_ a).foldl (fun (p:Sp) k=>p.tell { zM with k:=1,t:=k,ix:=aQ a,lt:=dE a.t a.es }) (⟨a,[]⟩:Sp))
def fJ (s:Rf):Sp:=
 let a:={ s with elapsed:=min (s.elapsed+1) dZ }
 if s.role=2 then (if 2≤a.elapsed then Sp.all ⟨{ a with elapsed:=0,round:=min (a.round+1) dZ },[]⟩ else ⟨a,[]⟩)
 else if a.timeout≤a.elapsed then ic a else ⟨a,[]⟩
def eB (l:List Int) (x:Int):List Int:=if l.contains x then l else l.takeWhile (fun y=>decide (y<x))++x::l.dropWhile fun y=>decide (y<x)
def iM (p:Sp) (m:Msg) (ok:Bool) (i:Int):Sp:=p.tell { zM with k:=4,t:=m.f,ok:=ok,ix:=i,rd:=m.rd }
def yn (s:Rf) (m:Msg):Sp:=
 let ok:=y9 s.b s.t s.es m.ix m.lt&&(decide (s.vote=0)||decide (s.vote=m.f))
 Sp.tell ⟨if ok then { s with vote:=m.f,elapsed:=0 } else s,[]⟩ { zM with k:=2,t:=m.f,ok:=ok }
def xh (s:Rf) (m:Msg):Sp:=if s.role=1∧m.ok=true then lq ⟨{ s with votes:=eB s.votes m.f },[]⟩ else ⟨s,[]⟩
def jd (s:Rf) (id rn:Int):Rf:={ s with reads:=s.reads.map fun q=>if q.rn≤rn then { q with acks:=eB q.acks id } else q }
def fV (s0:Rf) (m:Msg):Sp:=
 if s0.role≠2 then ⟨s0,[]⟩ else
 let s:=jd s0 m.f m.rd
 if m.k=6 then
  (if m.ix=s.b∧at1 s.next m.f≤s.b∧m.a≤s.snap.size then Sp.send ⟨{ s with sent:=ck s.sent m.f m.a },[]⟩ m.f else ⟨s,[]⟩)
 else if m.ok=false then
  Sp.send ⟨{ s with next:=ck s.next m.f (max (min (at1 s.next m.f-1) (m.ix+1)) (at1 s.mtch m.f+1)),sent:=ck s.sent m.f 0 },[]⟩ m.f
 else if m.ix≤aQ s then
  let x:=max (at1 s.mtch m.f) m.ix
  let a:=cH { s with mtch:=ck s.mtch m.f x,next:=ck s.next m.f (x+1),sent:=ck s.sent m.f 0 }
  if x+1≤aQ s then Sp.send ⟨a,[]⟩ m.f else ⟨a,[]⟩
 else ⟨s,[]⟩
def sx (s:Rf) (m:Msg):Sp:=
 if m.ix≤s.commit∨m.lt<dz s.b s.t s.es s.commit then iM ⟨s,[]⟩ m true s.commit else
 let a:=if s.partOf≠m.ix then { s with partOf:=m.ix,part:=⟨#[]⟩ } else s
 let fits:=decide (m.a=a.part.size)&&decide (a.part.size+m.d.size≤524288)
 let c:=if fits then { a with part:=a.part++m.d } else a
 if fits&&m.dn then
  let keep:=decide (m.ix≤aQ c∧dz c.b c.t c.es m.ix=m.lt)
  let x:={ c with b:=m.ix,t:=m.lt,es:=if keep then c.es.drop (m.ix-c.b).toNat else [],snap:=c.part,commit:=m.ix,part:=⟨#[]⟩,partOf:=0 }
  iM ⟨x,[]⟩ m true x.commit
 else Sp.tell ⟨c,[]⟩ { zM with k:=6,t:=m.f,ix:=m.ix,a:=c.part.size,rd:=m.rd }
def yO (s:Rf) (i:Int) (d:ByteArray):Rf:={ s with b:=i,t:=dz s.b s.t s.es i,es:=s.es.drop (i-s.b).toNat,snap:=d,sent:=s.sent.map fun _=>0 }
def yy (s:Rf) (d:ByteArray):Sp:=
 let a:=eI s d
 let p:=((c_ a).filter fun k=>decide (at1 a.next k=aQ a)).foldl (fun (p:Sp) k=>p.send k) (⟨a,[]⟩:Sp)
 ⟨cH p.s,p.out⟩
def zo (s:Rf) (id:Int):Sp:=Sp.all ⟨{ s with round:=s.round+1,reads:=s.reads++[⟨id,s.commit,s.round+1,[s.id]⟩] },[]⟩
def y8 (s:Rf):Rf×List Rd:=({ s with reads:=s.reads.filter fun q=> !eD s.nodes q.acks },s.reads.filter fun q=>eD s.nodes q.acks)
def yN (s:Rf) (m:Msg):Bool:=match rB s.b s.t s.es (wU s.b m.ix m.es) with
 |[]=>false
 |e::_=>decide (e.i≤aQ s)&&decide (e.i≤s.commit)
def wJ (s:Rf) (m:Msg):Sp:=
 let r:=xW s.b s.t m.ix m.lt s.es m.es
 if r.1≠0 then ⟨s,[]⟩
 else if r.2.1=true then iM ⟨s,[]⟩ m false (max 0 (min (m.ix-1) (aQ s)))
 else if yN s m then ⟨s,[]⟩
 else
  let j:=max (m.ix+(m.es.length:Int)) s.b
  iM ⟨{ s with es:=r.2.2,commit:=max s.commit (min m.cm j) },[]⟩ m true j
def iZ (s:Rf) (m:Msg):Sp:=
 if m.k=1 then Sp.tell ⟨s,[]⟩ { zM with k:=2,t:=m.f } else if m.k=3∨m.k=5 then iM ⟨s,[]⟩ m false 0 else ⟨s,[]⟩
def nY (s:Rf) (m:Msg):Sp:=
 if s.role=2 then ⟨s,[]⟩ else
 let c:=if s.role=1 then cF s s.term else s
 let d:={ c with leader:=m.f,elapsed:=0 }
 if m.k=3 then wJ d m else sx d m
def cp (s:Rf) (m:Msg):Sp:=
 let a:=if s.term<m.tm then cF s m.tm else s
 if m.tm<a.term then iZ a m
 else if m.k=1 then yn a m
 else if m.k=2 then xh a m
 else if m.k=3∨m.k=5 then nY a m
 else fV a m
def uT (s:Rf) (m:Msg):Bool:=decide (m.t=s.id)&&decide (m.f≠s.id)&&decide (m.f≤s.nodes)&&(!(decide (m.k=3)||decide (m.k=5))||(decide (m.lt≤m.tm)&&m.es.all fun e=>decide (e.t≤m.tm)))
theorem ec (s:Rf) (tm:Int):(cF s tm).term=max s.term tm:=by
 unfold cF ig;simp only;split
 ·show tm=_;omega
 ·show s.term=_;omega
theorem ia (s:Rf) (tm:Int):(cF s tm).b=s.b∧(cF s tm).t=s.t∧(cF s tm).es=s.es∧(cF s tm).id=s.id∧(cF s tm).nodes=s.nodes∧(cF s tm).role=0∧(cF s tm).commit=s.commit:=by
 unfold cF ig;simp only;split <;> exact ⟨rfl,rfl,rfl,rfl,rfl,rfl,rfl⟩
theorem lu {a:Int} {l:List Int} (h:fB (a::l)=true):fB l=true:=by
 cases l with
 |nil=>rfl
 |cons b r=>simp only [fB,Bool.and_eq_true] at h;exact h.2
theorem nN {a:Int} {l:List Int} (h:fB (a::l)=true):∀ x∈l,a<x:=by
 induction l generalizing a with
 |nil=>intro x hx;cases hx
 |cons b r ih=>
  intro x hx;simp only [fB,Bool.and_eq_true,decide_eq_true_eq] at h;rcases List.mem_cons.1 hx with e | e
  ·omega
  ·have:=ih h.2 x e;omega
structure RfF (s:Rf):Prop where
 n:1≤s.nodes∧s.nodes≤7
 i:1≤s.id∧s.id≤s.nodes
 ro:0≤s.role∧s.role≤2
 te:0≤s.term∧s.term≤1099511627775
 vo:0≤s.vote∧s.vote≤s.nodes
 le:0≤s.leader∧s.leader≤s.nodes
 lg:cn s.b s.t s.es=true
 sn:s.snap.size≤524288
 sb:s.b≠0∨s.snap.size=0
 el:0≤s.elapsed∧s.elapsed≤1099511627775
 ti:0≤s.timeout∧s.timeout≤1099511627775
 rn:0≤s.round∧s.round≤1099511627775
 vs:eL s.votes s.nodes=true
 lt:dE s.t s.es≤s.term
 co:s.b≤s.commit∧s.commit≤aQ s
 pa:s.part.size≤524288
 po:0≤s.partOf∧s.partOf≤1099511625728
 pp:s.partOf≠0∨s.part.size=0
 nx:s.next.length=fu s∧∀ x∈s.next,1≤x∧x≤aQ s+1
 ma:s.mtch.length=fu s∧∀ x∈s.mtch,0≤x∧x≤aQ s
 se:s.sent.length=fu s∧∀ x∈s.sent,0≤x∧x≤(s.snap.size:Int)
 rl:s.reads.length≤32
 r0:fu s≠0∨s.reads.length=0
 rd:∀ q∈s.reads,gD s q=true
theorem oO {l:List Int} {n:Nat} {lo hi:Int} (h:kF l n lo hi=true):l.length=n∧∀ x∈l,lo≤x∧x≤hi:=by
 unfold kF at h;simp only [Bool.and_eq_true,List.all_eq_true,decide_eq_true_eq] at h;exact h
theorem mQ {s:Rf} (h:jo s=true):RfF s:=by
 unfold jo dZ at h;simp only [Bool.and_eq_true,Bool.or_eq_true,decide_eq_true_eq,List.all_eq_true] at h;obtain ⟨⟨⟨⟨⟨⟨⟨⟨⟨⟨⟨⟨⟨⟨⟨⟨⟨⟨⟨⟨⟨⟨⟨⟨h1,h2⟩,h3⟩,h4⟩,h5⟩,h6⟩,h7⟩,h8⟩,h9⟩,h10⟩,h11⟩,h12⟩,h13⟩,h14⟩,h15⟩,h16⟩,h17⟩,h18⟩,h19⟩,h20⟩,h21⟩,h22⟩,h23⟩,h24⟩,h25⟩:=h;exact ⟨⟨h1,h2⟩,da h3,da h4,da h5,da h6,da h7,h8,h9,h10,da h11,da h12,da h13,h14,h15,da h16,h17,da h18,h19,oO h20,oO h21,oO h22,h23,h24,h25⟩
theorem dP {s:Rf} (h:s.role=2):fu s=s.nodes.toNat:=by unfold fu;rw [if_pos h]
theorem l7 {s:Rf} (h:s.role≠2):fu s=0:=by unfold fu;rw [if_neg h]
theorem RfF.free {s:Rf} (h:RfF s) (hr:s.role≠2):s.next=[]∧s.mtch=[]∧s.sent=[]∧s.reads=[]:=by
 have h0:=l7 hr;refine ⟨List.eq_nil_of_length_eq_zero (by rw [h.nx.1,h0]),List.eq_nil_of_length_eq_zero (by rw [h.ma.1,h0]),List.eq_nil_of_length_eq_zero (by rw [h.se.1,h0]),List.eq_nil_of_length_eq_zero (h.r0.resolve_left fun e=>e h0)⟩
theorem ju {l:List Int} {n:Int} (h:eL l n=true):(∀ x∈l,1≤x∧x≤n)∧fB l=true:=by
 unfold eL at h;simp only [Bool.and_eq_true,List.all_eq_true,decide_eq_true_eq] at h;exact h
theorem iO:∀ (l:List Int) (a b:Int),fB l=true→(∀ x∈l,a<x∧x≤b)→(l.length:Int)≤max 0 (b-a)
 |[],_,_,_,_=>by simp;omega
 |x::r,a,b,h,hx=>by
  have h1:=iO r x b (lu h) fun y hy=>⟨nN h y hy,(hx y (List.mem_cons_of_mem _ hy)).2⟩
  have h2:=hx x (List.mem_cons_self);rw [List.length_cons];omega
theorem RfF.vl {s:Rf} (h:RfF s):s.votes.length≤7:=by
 have h1:=ju h.vs;have h2:=iO s.votes 0 s.nodes h1.2 fun x hx=>⟨by have:=(h1.1 x hx).1;omega,(h1.1 x hx).2⟩
 have:=h.n.2;omega
theorem pP (B:Int) (e:Ent) (r:List Ent):cW B (e::r)=cW e.i r:=by
 unfold cW;cases r with
 |nil=>rfl
 |cons a s=>
  rw [List.getLast?_cons_cons];cases h:(a::s).getLast? with
  |none=>simp at h
  |some x=>rfl
theorem pO (T:Int) (e:Ent) (r:List Ent):dE T (e::r)=dE e.t r:=by
 unfold dE;cases r with
 |nil=>rfl
 |cons a s=>
  rw [List.getLast?_cons_cons];cases h:(a::s).getLast? with
  |none=>simp at h
  |some x=>rfl
theorem nJ:∀ (xs:List Ent) (p t:Int) (e:Ent),fw xs p t=true→gG e (cW p xs) (dE t xs)=true→fw (xs++[e]) p t=true
 |[],p,t,e,_,h=>by show (gG e p t&&true)=true;rw [Bool.and_true];exact h
 |x::r,p,t,e,h,he=>by
  have h':(gG x p t&&fw r (p+1) x.t)=true:=h;rw [Bool.and_eq_true] at h'
  have hx:x.i=p+1:=by
   have:=h'.1;unfold gG at this;simp only [Bool.and_eq_true,decide_eq_true_eq] at this;exact this.1.1.1
  rw [pP,pO,hx] at he;show (gG x p t&&fw (r++[e]) (p+1) x.t)=true;rw [h'.1,nJ r _ _ e h'.2 he];rfl
theorem RfF.add {s:Rf} (h:RfF s) (hf:gF s=false) (d:ByteArray) (hd:d.size≤4096):cn s.b s.t (eI s d).es=true∧aQ (eI s d)=aQ s+1∧(eI s d).es.length=s.es.length+1:=by
 have hl:=gr h.lg;have hm:=h.lg;unfold cn at hm;simp only [Bool.and_eq_true,decide_eq_true_eq] at hm;obtain ⟨⟨⟨m1,m2⟩,m3⟩,m4⟩:=hm;unfold gF at hf;simp only [Bool.or_eq_false_iff,decide_eq_false_iff_not] at hf;have hte:=h.te;have hlt:=h.lt;have hlr:aQ s=s.b+s.es.length:=hl.1
 have e1:gG ⟨aQ s+1,s.term,d⟩ (cW s.b s.es) (dE s.t s.es)=true:=by
  unfold gG;simp only [Bool.and_eq_true,decide_eq_true_eq];exact ⟨⟨⟨rfl,eh ⟨by show 1≤aQ s+1;omega,by show aQ s+1≤_;omega⟩⟩,eh ⟨by show max (dE s.t s.es) 0≤s.term;omega,hte.2⟩⟩,hd⟩
 have hr:=nJ s.es s.b s.t _ m4 e1;have hlen:(eI s d).es.length=s.es.length+1:=by unfold eI;simp
 have hmay:cn s.b s.t (eI s d).es=true:=by
  unfold cn;simp only [Bool.and_eq_true,decide_eq_true_eq];exact ⟨⟨⟨m1,m2⟩,by rw [hlen];omega⟩,hr⟩
 refine ⟨hmay,?_,hlen⟩;have:=(gr hmay).1;show cW s.b (eI s d).es=_;rw [this,hlen,hlr];omega
def iP (id:Int) (k:Nat):List Int:=((List.range k).map fun j=>((j+1:Nat):Int)).filter fun j=>decide (j≠id)
theorem nR (id:Int) (k:Nat):iP id (k+1)=if ((k+1:Nat):Int)=id then iP id k else iP id k++[((k+1:Nat):Int)]:=by
 unfold iP;rw [List.range_succ,List.map_append,List.filter_append];by_cases h:((k+1:Nat):Int)=id
 ·rw [if_pos h];simp;omega
 ·rw [if_neg h];simp;omega
theorem uz {id:Int} {k:Nat} {x:Int} (h:x∈iP id k):1≤x∧x≤(k:Int)∧x≠id:=by
 unfold iP at h;simp only [List.mem_filter,List.mem_map,List.mem_range,decide_eq_true_eq] at h;obtain ⟨⟨j,hj,rfl⟩,h2⟩:=h;exact ⟨by omega,by omega,h2⟩
theorem nI:∀ (l r:List Int) (p:Sp),p.sends (l++r)=(p.sends l).sends r
 |[],_,_=>rfl
 |x::l,r,p=>nI l r (p.send x)
theorem ku:∀ (l:List Int) (p:Sp),p.sends l=⟨p.s,p.out++l.map fun k=>pU p.s (kv p.s k)⟩
 |[],p=>by show p=_;rw [List.map_nil,List.append_nil]
 |x::l,p=>by
  show (p.send x).sends l=_;rw [ku l (p.send x)];show (⟨p.s,(p.out++[pU p.s (kv p.s x)])++l.map fun k=>pU p.s (kv p.s k)⟩:Sp)=_;rw [List.append_assoc];rfl
theorem nc (p:Sp):p.all=⟨p.s,p.out++(c_ p.s).map fun k=>pU p.s (kv p.s k)⟩:=ku _ _
theorem o7 {l:List Int} {x:Int} (h:x∈l):eB l x=l:=by unfold eB;rw [if_pos (by simpa using h)]
theorem sS {l:List Int} {x:Int} (h:x ∉ l) (k:Nat) (hk:k≤l.length) (h1:∀ j (hj:j<l.length),j<k→l[j]<x) (h2:∀ j (hj:j<l.length),k≤j→x≤l[j]):eB l x=l.take k++x::l.drop k:=by
 unfold eB;rw [if_neg (by simpa using h)]
 induction l generalizing k with
 |nil=>simp
 |cons a r ih=>
  cases k with
  |zero=>
   have:=h2 0 (by simp) (Nat.zero_le _);have h3:decide (a<x)=false:=decide_eq_false (by simp at this;omega);simp [h3]
  |succ k=>
   have h0:=h1 0 (by simp) (Nat.succ_pos _);have h3:decide (a<x)=true:=decide_eq_true (by simpa using h0);have h4:=ih (fun e=>h (List.mem_cons_of_mem _ e)) k (by simpa using hk) (fun j hj hjk=>by have:=h1 (j+1) (by simpa using hj) (by omega);simpa using this) (fun j hj hjk=>by have:=h2 (j+1) (by simpa using hj) (by omega);simpa using this);simp only [List.takeWhile_cons,List.dropWhile_cons,h3,if_true,List.cons_append,List.take_succ_cons,List.drop_succ_cons];rw [h4]
structure Ra where
 E:Option Addr
 Ec:Nat
 V:Option Addr
 Vc:Nat
 X:Option Addr
 Xc:Nat
 M:Option Addr
 Mc:Nat
 S:Option Addr
 Sc:Nat
 Q:Option Addr
 Qc:Nat
 L:List (Rd×Option Addr×Nat)
def rdV (q:Rd×Option Addr×Nat):List Value:=[.int .i64 q.1.id,.int .i64 q.1.ix,.int .i64 q.1.rn,.slice q.2.1 q.1.acks.length q.2.2]
theorem iB (q:Rd×Option Addr×Nat):(rdV q).length=4:=rfl
theorem vV (L:List (Rd×Option Addr×Nat)):∀ u∈L.flatMap rdV,u.oneCell'=true:=uU (fun x _=>by simp [rdV,Value.oneCell'])
def rfV (s:Rf) (a:Ra):List Value:=[.int .i64 s.id,.int .i64 s.nodes,.int .i64 s.role,.int .i64 s.term,.int .i64 s.vote,.int .i64 s.leader,.int .i64 s.b,.int .i64 s.t,.slice a.E s.es.length a.Ec,.string s.snap,.int .i64 s.commit,.int .i64 s.elapsed,.int .i64 s.timeout,.int .u64 s.seed,.slice a.V s.votes.length a.Vc,.slice a.X s.next.length a.Xc,.slice a.M s.mtch.length a.Mc,.slice a.S s.sent.length a.Sc,.int .i64 s.round,.slice a.Q a.L.length a.Qc,.string s.part,.int .i64 s.partOf]
def a0:Ra:=⟨none,0,none,0,none,0,none,0,none,0,none,0,[]⟩
def IR (w:World) (A:Option Addr) (c:Nat) (l:List Int):Prop:=ew iV w A l∧l.length≤c∧c≤9223372036854775807∧(A=none→l.length=0∧c=0)
theorem IR.from_ {w w':World} {A:Option Addr} {c:Nat} {l:List Int} (h:IR w A c l) (hF:ai w w'):IR w' A c l:=⟨h.1.from_ hF,h.2⟩
theorem IR.nil {w:World}:IR w none 0 []:=⟨ew.nil,Nat.le_refl _,by decide,fun _=>⟨rfl,rfl⟩⟩
theorem kA {w:World} {base e s n c:Nat} {A:Option Addr} {xs:List Value} (h:w.ownsRow base e s (.slice A n c) n xs):n≤c∧c≤9223372036854775807:=by
 rcases h.2 with ⟨h0,hx⟩ | ⟨g,cap,cur,hv,_,_,h3,h4,_⟩
 ·simp only [Value.slice.injEq] at h0;obtain ⟨_,rfl,rfl⟩:=h0;exact ⟨Nat.le_refl _,by omega⟩
 ·simp only [Value.slice.injEq] at hv;obtain ⟨_,_,rfl⟩:=hv;exact ⟨h3,h4⟩
theorem kX {w:World} {base c:Nat} {A:Option Addr} {l:List Int} (h:w.ownsRow base 3 1 (.slice A l.length c) l.length (l.map iV)):IR w A c l:=⟨(ew.own h).2,(kA h).1,(kA h).2,fun e=>by subst e;exact ⟨nP h,pE h⟩⟩
structure jj (w:World) (s:Rf) (a:Ra):Prop where
 e:cQ w (.slice a.E s.es.length a.Ec) s.es
 v:IR w a.V a.Vc s.votes
 x:IR w a.X a.Xc s.next
 m:IR w a.M a.Mc s.mtch
 n:IR w a.S a.Sc s.sent
 r:a.L.map (fun q=>q.1)=s.reads
 q:jU 4 rdV w a.Q a.L
 qc:a.L.length≤a.Qc∧a.Qc≤9223372036854775807∧(a.Q=none→a.L.length=0∧a.Qc=0)
 k:∀ q∈a.L,IR w q.2.1 q.2.2 q.1.acks
theorem jj.from_ {w w':World} {s:Rf} {a:Ra} (h:jj w s a) (hF:ai w w'):jj w' s a:=
 ⟨h.e.from_ hF,h.v.from_ hF,h.x.from_ hF,h.m.from_ hF,h.n.from_ hF,h.r,h.q.from_ hF,h.qc,fun q hq=>(h.k q hq).from_ hF⟩
def Col (tag:Nat→Nat) (c:Nat) (A:Option Addr):Prop:=∀ k,A.map (·.block)=some k→tag k=c
theorem Col.none {tag:Nat→Nat} {c:Nat}:Col tag c none:=fun _ h=>by cases h
theorem Col.not {tag:Nat→Nat} {c d:Nat} {A:Option Addr} (h:Col tag c A) (hne:c≠d):∀ k,A.map (·.block)=some k→¬ tag k=d:=fun k hk e=>hne ((h k hk).symm.trans e)
def dO (n c:Nat) (tag:Nat→Nat):Nat→Nat:=fun k=>if k<n then tag k else c
theorem cy {n c k:Nat} {tag:Nat→Nat} (h:k<n):dO n c tag k=tag k:=if_pos h
theorem ef {n c k:Nat} {tag:Nat→Nat} (h:n≤k):dO n c tag k=c:=if_neg (Nat.not_lt.2 h)
theorem Col.re {tag:Nat→Nat} {c d n:Nat} {A:Option Addr} (h:Col tag c A) (hB:∀ k,A.map (·.block)=some k→k<n):Col (dO n d tag) c A:=fun k hk=>(cy (hB k hk)).trans (h k hk)
theorem Col.new {tag:Nat→Nat} {c n:Nat} {A A':Option Addr} (h:Col tag c A) (hB:∀ k,A.map (·.block)=some k→k<n) (hA:∀ k,A'.map (·.block)=some k→A.map (·.block)=some k∨n≤k):Col (dO n c tag) c A':=fun k hk=>by
 rcases hA k hk with e | e
 ·exact (cy (hB k e)).trans (h k e)
 ·exact ef e
theorem dI {w:World} {bs e s n c m:Nat} {A:Option Addr} {l:List Value} (h:w.ownsRow bs e s (.slice A n c) m l):∀ k,A.map (·.block)=some k→k<w.heap.size:=fun k hk=>(fO h k hk).2
structure cJ (y:Nat) (w:World) (tag:Nat→Nat) (s:Rf) (a:Ra):Prop where
 e:y≠0→w.ownsRow 0 99 3 (.slice a.E s.es.length a.Ec) s.es.length (dV s.es)∧Col tag 0 a.E
 v:y≠1→w.ownsRow 0 3 1 (.slice a.V s.votes.length a.Vc) s.votes.length (s.votes.map iV)∧Col tag 1 a.V
 x:y≠2→w.ownsRow 0 3 1 (.slice a.X s.next.length a.Xc) s.next.length (s.next.map iV)∧Col tag 2 a.X
 m:y≠3→w.ownsRow 0 3 1 (.slice a.M s.mtch.length a.Mc) s.mtch.length (s.mtch.map iV)∧Col tag 3 a.M
 n:y≠4→w.ownsRow 0 3 1 (.slice a.S s.sent.length a.Sc) s.sent.length (s.sent.map iV)∧Col tag 4 a.S
 r:y≠5→a.L.map (fun q=>q.1)=s.reads
 q:y≠5→w.ownsRow 0 54 4 (.slice a.Q a.L.length a.Qc) a.L.length (a.L.flatMap rdV)∧Col tag 5 a.Q
 k:∀ (i:Nat) (h:i<a.L.length),y≠1001+2*i→w.ownsRow 0 3 1 (.slice a.L[i].2.1 a.L[i].1.acks.length a.L[i].2.2) a.L[i].1.acks.length (a.L[i].1.acks.map iV)∧Col tag (1001+2*i) a.L[i].2.1
abbrev aY (w:World) (tag:Nat→Nat) (s:Rf) (a:Ra):Prop:=cJ 7 w tag s a
theorem eF {w w':World} {tag:Nat→Nat} {c d base e s n cc:Nat} {A:Option Addr} {xs:List Value} (hC:Chg (fun k=>tag k=c) w w') (hne:d≠c) (h:w.ownsRow base e s (.slice A n cc) n xs∧Col tag d A):w'.ownsRow base e s (.slice A n cc) n xs∧Col (dO w.heap.size c tag) d A:=
 ⟨eK h.1 hC (h.2.not hne),h.2.re (dI h.1)⟩
theorem aY.but {w w':World} {c:Nat} {tag:Nat→Nat} {s:Rf} {a:Ra} (h:aY w tag s a) (hC:Chg (fun k=>tag k=c) w w'):cJ c w' (dO w.heap.size c tag) s a:=
 ⟨fun hx=>eF hC hx.symm (h.e (by decide)),fun hx=>eF hC hx.symm (h.v (by decide)),fun hx=>eF hC hx.symm (h.x (by decide)),fun hx=>eF hC hx.symm (h.m (by decide)),fun hx=>eF hC hx.symm (h.n (by decide)),fun _=>h.r (by decide),fun hx=>eF hC hx.symm (h.q (by decide)),fun i hi hx=>eF hC hx.symm (h.k i hi (by omega))⟩
section
variable {w w':World} {tag:Nat→Nat} {s:Rf} {a:Ra}
theorem cJ.log (h:cJ 0 w tag s a) {A:Option Addr} {c n:Nat} {l:List Ent} (B T:Int) (hn:n=l.length) (ho:w.ownsRow 0 99 3 (.slice A n c) n (dV l)) (hc:Col tag 0 A):aY w tag { s with b:=B,t:=T,es:=l } { a with E:=A,Ec:=c }:=by
 subst hn;exact ⟨fun _=>⟨ho,hc⟩,fun _=>h.v (by decide),fun _=>h.x (by decide),fun _=>h.m (by decide),fun _=>h.n (by decide),fun _=>h.r (by decide),fun _=>h.q (by decide),fun i hi _=>h.k i hi (by omega)⟩
theorem cJ.votes (h:cJ 1 w tag s a) {A:Option Addr} {c n:Nat} {l:List Int} (hn:n=l.length) (ho:w.ownsRow 0 3 1 (.slice A n c) n (l.map iV)) (hc:Col tag 1 A):aY w tag { s with votes:=l } { a with V:=A,Vc:=c }:=by
 subst hn;exact ⟨fun _=>h.e (by decide),fun _=>⟨ho,hc⟩,fun _=>h.x (by decide),fun _=>h.m (by decide),fun _=>h.n (by decide),fun _=>h.r (by decide),fun _=>h.q (by decide),fun i hi _=>h.k i hi (by omega)⟩
theorem cJ.next (h:cJ 2 w tag s a) {A:Option Addr} {c n:Nat} {l:List Int} (hn:n=l.length) (ho:w.ownsRow 0 3 1 (.slice A n c) n (l.map iV)) (hc:Col tag 2 A):aY w tag { s with next:=l } { a with X:=A,Xc:=c }:=by
 subst hn;exact ⟨fun _=>h.e (by decide),fun _=>h.v (by decide),fun _=>⟨ho,hc⟩,fun _=>h.m (by decide),fun _=>h.n (by decide),fun _=>h.r (by decide),fun _=>h.q (by decide),fun i hi _=>h.k i hi (by omega)⟩
theorem cJ.mtch (h:cJ 3 w tag s a) {A:Option Addr} {c n:Nat} {l:List Int} (hn:n=l.length) (ho:w.ownsRow 0 3 1 (.slice A n c) n (l.map iV)) (hc:Col tag 3 A):aY w tag { s with mtch:=l } { a with M:=A,Mc:=c }:=by
 subst hn;exact ⟨fun _=>h.e (by decide),fun _=>h.v (by decide),fun _=>h.x (by decide),fun _=>⟨ho,hc⟩,fun _=>h.n (by decide),fun _=>h.r (by decide),fun _=>h.q (by decide),fun i hi _=>h.k i hi (by omega)⟩
theorem cJ.sent (h:cJ 4 w tag s a) {A:Option Addr} {c n:Nat} {l:List Int} (hn:n=l.length) (ho:w.ownsRow 0 3 1 (.slice A n c) n (l.map iV)) (hc:Col tag 4 A):aY w tag { s with sent:=l } { a with S:=A,Sc:=c }:=by
 subst hn;exact ⟨fun _=>h.e (by decide),fun _=>h.v (by decide),fun _=>h.x (by decide),fun _=>h.m (by decide),fun _=>⟨ho,hc⟩,fun _=>h.r (by decide),fun _=>h.q (by decide),fun i hi _=>h.k i hi (by omega)⟩
theorem dB {e s:Nat}:w.ownsRow 0 e s (.slice none 0 0) 0 []:=World.ownsRow_nil _ _ _ _
theorem aY.alone (h:aY w tag s a):aY w tag (ig s) { a0 with E:=a.E,Ec:=a.Ec }:=
 ⟨fun _=>h.e (by decide),fun _=>⟨dB,Col.none⟩,fun _=>⟨dB,Col.none⟩,fun _=>⟨dB,Col.none⟩,fun _=>⟨dB,Col.none⟩,fun _=>rfl,fun _=>⟨dB,Col.none⟩,fun i hi _=>absurd hi (Nat.not_lt_zero _)⟩
theorem aY.same {s':Rf} (h:aY w tag s a) (he:s'.es=s.es) (hv:s'.votes=s.votes) (hx:s'.next=s.next) (hm:s'.mtch=s.mtch) (hn:s'.sent=s.sent) (hr:s'.reads=s.reads):aY w tag s' a:=
 ⟨by rw [he];exact h.e,by rw [hv];exact h.v,by rw [hx];exact h.x,by rw [hm];exact h.m,by rw [hn];exact h.n,by rw [hr];exact h.r,h.q,h.k⟩
theorem aY.from_ (h:aY w tag s a) (hF:ai w w'):aY w' tag s a:=
 ⟨fun hx=>⟨(h.e hx).1.kept_from hF,(h.e hx).2⟩,fun hx=>⟨(h.v hx).1.kept_from hF,(h.v hx).2⟩,fun hx=>⟨(h.x hx).1.kept_from hF,(h.x hx).2⟩,fun hx=>⟨(h.m hx).1.kept_from hF,(h.m hx).2⟩,fun hx=>⟨(h.n hx).1.kept_from hF,(h.n hx).2⟩,h.r,fun hx=>⟨(h.q hx).1.kept_from hF,(h.q hx).2⟩,fun i hi hx=>⟨(h.k i hi hx).1.kept_from hF,(h.k i hi hx).2⟩⟩
theorem aY.re (h:aY w tag s a) (d:Nat):aY w (dO w.heap.size d tag) s a:=
 ⟨fun hx=>⟨(h.e hx).1,(h.e hx).2.re (dI (h.e hx).1)⟩,fun hx=>⟨(h.v hx).1,(h.v hx).2.re (dI (h.v hx).1)⟩,fun hx=>⟨(h.x hx).1,(h.x hx).2.re (dI (h.x hx).1)⟩,fun hx=>⟨(h.m hx).1,(h.m hx).2.re (dI (h.m hx).1)⟩,fun hx=>⟨(h.n hx).1,(h.n hx).2.re (dI (h.n hx).1)⟩,h.r,fun hx=>⟨(h.q hx).1,(h.q hx).2.re (dI (h.q hx).1)⟩,fun i hi hx=>⟨(h.k i hi hx).1,(h.k i hi hx).2.re (dI (h.k i hi hx).1)⟩⟩
theorem aY.rd (h:aY w tag s a):jj w s a:=
 ⟨cQ.of_own (h.e (by decide)).1 rfl,kX (h.v (by decide)).1,kX (h.x (by decide)).1,kX (h.m (by decide)).1,kX (h.n (by decide)).1,h.r (by decide),(jU.own iB (by decide) (h.q (by decide)).1).2,⟨(kA (h.q (by decide)).1).1,(kA (h.q (by decide)).1).2,fun e=>by have h9:=(h.q (by decide)).1;rw [e] at h9;exact ⟨nP h9,pE h9⟩⟩,fun q hq=>by
  obtain ⟨i,hi,rfl⟩:=List.getElem_of_mem hq;exact kX (h.k i hi (by omega)).1⟩
theorem cJ.reads (h:cJ 5 w tag s a) {A:Option Addr} {c n:Nat} (hn:n=a.L.length) (ho:w.ownsRow 0 54 4 (.slice A n c) n (a.L.flatMap rdV)) (hc:Col tag 5 A):aY w tag { s with reads:=a.L.map (fun q=>q.1) } { a with Q:=A,Qc:=c }:=by
 subst hn;exact ⟨fun _=>h.e (by decide),fun _=>h.v (by decide),fun _=>h.x (by decide),fun _=>h.m (by decide),fun _=>h.n (by decide),fun _=>rfl,fun _=>⟨ho,hc⟩,fun i hi _=>h.k i hi (by omega)⟩
theorem cJ.ack (h:cJ 5 w tag s a) (hF:ai w w') {q:Rd} {A:Option Addr} {c:Nat} (ho:w'.ownsRow w.heap.size 3 1 (.slice A q.acks.length c) q.acks.length (q.acks.map iV)):cJ 5 w' (dO w.heap.size (1001+2*a.L.length) tag) s { a with L:=a.L++[(q,A,c)] }:=by
 have re:∀ {d e s n cc:Nat} {A:Option Addr} {xs:List Value},w.ownsRow 0 e s (.slice A n cc) n xs∧Col tag d A→w'.ownsRow 0 e s (.slice A n cc) n xs∧Col (dO w.heap.size (1001+2*a.L.length) tag) d A:=fun h=>⟨h.1.kept_from hF,h.2.re (dI h.1)⟩
 refine ⟨fun _=>re (h.e (by decide)),fun _=>re (h.v (by decide)),fun _=>re (h.x (by decide)),fun _=>re (h.m (by decide)),fun _=>re (h.n (by decide)),fun e=>absurd rfl e,fun e=>absurd rfl e,fun i hi _=>?_⟩;by_cases hi':i<a.L.length
 ·simp only [List.getElem_append_left hi'];exact re (h.k i hi' (by omega))
 ·obtain rfl:i=a.L.length:=by simp only [List.length_append,List.length_singleton] at hi;omega
  simp only [List.getElem_append_right (Nat.le_refl _),Nat.sub_self,List.getElem_singleton];exact ⟨fE ho (Nat.zero_le _),fun k hk=>ef (fO ho k hk).1⟩
theorem cJ.five {g:Nat} (h:cJ 5 w tag s a) (hO:dw g w w') (hg:tag g=5):cJ 5 w' tag s a:=by
 have re:∀ {d e s n cc:Nat} {A:Option Addr} {xs:List Value},d≠5→w.ownsRow 0 e s (.slice A n cc) n xs∧Col tag d A→w'.ownsRow 0 e s (.slice A n cc) n xs∧Col tag d A:=fun hd h=>⟨fY h.1 hO fun k hk e=>hd ((h.2 k hk).symm.trans (e ▸ hg)),h.2⟩
 exact ⟨fun _=>re (by decide) (h.e (by decide)),fun _=>re (by decide) (h.v (by decide)),fun _=>re (by decide) (h.x (by decide)),fun _=>re (by decide) (h.m (by decide)),fun _=>re (by decide) (h.n (by decide)),fun e=>absurd rfl e,fun e=>absurd rfl e,fun i hi _=>re (by omega) (h.k i hi (by omega))⟩
theorem cJ.from_ {y:Nat} (h:cJ y w tag s a) (hF:ai w w'):cJ y w' tag s a:=
 ⟨fun hx=>⟨(h.e hx).1.kept_from hF,(h.e hx).2⟩,fun hx=>⟨(h.v hx).1.kept_from hF,(h.v hx).2⟩,fun hx=>⟨(h.x hx).1.kept_from hF,(h.x hx).2⟩,fun hx=>⟨(h.m hx).1.kept_from hF,(h.m hx).2⟩,fun hx=>⟨(h.n hx).1.kept_from hF,(h.n hx).2⟩,h.r,fun hx=>⟨(h.q hx).1.kept_from hF,(h.q hx).2⟩,fun i hi hx=>⟨(h.k i hi hx).1.kept_from hF,(h.k i hi hx).2⟩⟩
theorem aY.zero:aY w tag zR a0:=
 ⟨fun _=>⟨dB,Col.none⟩,fun _=>⟨dB,Col.none⟩,fun _=>⟨dB,Col.none⟩,fun _=>⟨dB,Col.none⟩,fun _=>⟨dB,Col.none⟩,fun _=>rfl,fun _=>⟨dB,Col.none⟩,fun _ hi _=>absurd hi (Nat.not_lt_zero _)⟩
end
structure fz (w:World) (tag:Nat→Nat) (out:List Msg) (O:Option Addr) (oc:Nat) (L:List Msg):Prop where
 o:w.ownsRow 0 39 13 (.slice O L.length oc) L.length (L.flatMap bT)
 l:L.map pl=out
 e:∀ (j:Nat) (h:j<L.length),w.ownsRow 0 99 3 (.slice L[j].E L[j].es.length L[j].c) L[j].es.length (dV L[j].es)∧Col tag (1000+2*j) L[j].E
 c:Col tag 6 O
def StC (c:Nat):Prop:=c≤5∨∃ i,c=1001+2*i
section
variable {w0 w w' w1 w2:World} {tag:Nat→Nat} {out:List Msg} {O:Option Addr} {oc c T g:Nat} {L:List Msg} {Z Z':Nat→Prop} {p p':Sp} {a a':Ra} {s':Rf}
theorem fz.chg (h:fz w tag out O oc L) (hC:Chg (fun k=>tag k=c) w w') (h6:6≠c) (hj:∀ j,j<L.length→1000+2*j≠c):fz w' (dO w.heap.size c tag) out O oc L:=
 ⟨(eF hC h6 ⟨h.o,h.c⟩).1,h.l,fun j hj'=>eF hC (hj j hj') (h.e j hj'),(eF hC h6 ⟨h.o,h.c⟩).2⟩
theorem fz.from_ (h:fz w tag out O oc L) (hF:ai w w'):fz w' tag out O oc L:=
 ⟨h.o.kept_from hF,h.l,fun j hj=>⟨(h.e j hj).1.kept_from hF,(h.e j hj).2⟩,h.c⟩
theorem fz.re (h:fz w tag out O oc L) (d:Nat):fz w (dO w.heap.size d tag) out O oc L:=
 ⟨h.o,h.l,fun j hj=>⟨(h.e j hj).1,(h.e j hj).2.re (dI (h.e j hj).1)⟩,h.c.re (dI h.o)⟩
theorem StC.six (h:StC c):6≠c:=by rcases h with h | ⟨i,h⟩ <;> omega
theorem StC.eight (h:StC c):8≠c:=by rcases h with h | ⟨i,h⟩ <;> omega
theorem StC.even (h:StC c) (j:Nat):1000+2*j≠c:=by rcases h with h | ⟨i,h⟩ <;> omega
structure eN (w:World) (Z:Nat→Prop) (T g:Nat) (tag:Nat→Nat) (p:Sp) (a:Ra) (O:Option Addr) (oc:Nat) (L:List Msg):Prop where
 b:Blk w g T (rfV p.s a++[Value.slice O L.length oc]).toArray
 f:aY w tag p.s a
 m:fz w tag p.out O oc L
 gc:tag g=7
 z:∀ k,Z k→tag k=8
theorem eN.from_ (h:eN w Z T g tag p a O oc L) (hF:ai w w'):eN w' Z T g tag p a O oc L:=⟨h.b.from_ hF,h.f.from_ hF,h.m.from_ hF,h.gc,h.z⟩
structure aF (w0:World) (Z:Nat→Prop) (w:World) (T g:Nat) (p:Sp):Prop where
 ex:∃ tag a O oc L,eN w Z T g tag p a O oc L
 zl:∀ k,Z k→k<w0.heap.size
 fr:Chg (fun k=>¬ Z k) w0 w
theorem aF.from_ (h:aF w0 Z w T g p) (hF:ai w w'):aF w0 Z w' T g p:=by
 obtain ⟨tag,a,O,oc,L,hs⟩:=h.ex;exact ⟨⟨tag,a,O,oc,L,hs.from_ hF⟩,h.zl,h.fr.next hF.toChg⟩
theorem aF.zw (h:aF w0 Z w T g p):∀ k,Z k→k<w.heap.size:=fun k hk=>Nat.lt_of_lt_of_le (h.zl k hk) h.fr.size
theorem eN.new (h:eN w Z T g tag p a O oc L) (hZ:∀ k,Z k→k<w.heap.size) (hF:ai w w') (d:Nat):eN w' Z T g (dO w.heap.size d tag) p a O oc L:=
 ⟨h.b.from_ hF,(h.f.re d).from_ hF,(h.m.re d).from_ hF,(cy h.b.lt).trans h.gc,fun k hk=>(cy (hZ k hk)).trans (h.z k hk)⟩
theorem aF.at_ (h:aF w0 Z w T g p) (hF:ai w w1) (hZ:∀ k,Z' k→k<w1.heap.size∧(Z k∨w.heap.size≤k)):aF w1 Z' w1 T g p:=by
 obtain ⟨tag,a,O,oc,L,hs⟩:=h.ex;refine ⟨⟨dO w.heap.size 8 tag,a,O,oc,L,⟨hs.b.from_ hF,(hs.f.re 8).from_ hF,(hs.m.re 8).from_ hF,(cy hs.b.lt).trans hs.gc,fun k hk=>?_⟩⟩,fun k hk=>(hZ k hk).1,Chg.rfl_⟩;rcases Nat.lt_or_ge k w.heap.size with e | e
 ·rw [cy e];exact hs.z k ((hZ k hk).2.resolve_right (by omega))
 ·exact ef e
theorem aF.back (h:aF w0 Z w T g p) (hF:ai w w1) (h':aF w1 Z' w' T g p') (hZ:∀ k,Z k→Z' k):aF w0 Z w' T g p':=by
 obtain ⟨tag,a,O,oc,L,hs⟩:=h'.ex;exact ⟨⟨tag,a,O,oc,L,⟨hs.b,hs.f,hs.m,hs.gc,fun k hk=>hs.z k (hZ k hk)⟩⟩,h.zl,(h.fr.next hF.toChg).next (h'.fr.wide fun k hk=>.inl fun e=>hk (hZ k e))⟩
theorem aF.kept {k t:Nat} {cs:Array Value} (h:aF w0 Z w T g p) (hk:Z k) (hb:Blk w0 k t cs):Blk w k t cs:=hb.chg h.fr fun e=>e hk
theorem fN {w w':World} {tag:Nat→Nat} {g d base e s n cc:Nat} {A:Option Addr} {xs:List Value} (hC:Chg (fun k=>k=g) w w') (hg:tag g=7) (hd:d≠7) (h:w.ownsRow base e s (.slice A n cc) n xs∧Col tag d A):w'.ownsRow base e s (.slice A n cc) n xs∧Col tag d A:=
 ⟨eK h.1 hC (fun k hk e=>hd ((h.2 k hk).symm.trans (by rw [show k=g from e];exact hg))),h.2⟩
theorem aY.chgG (h:aY w tag s' a) (hC:Chg (fun k=>k=g) w w') (hg:tag g=7):aY w' tag s' a:=
 ⟨fun hx=>fN hC hg (by decide) (h.e hx),fun hx=>fN hC hg (by decide) (h.v hx),fun hx=>fN hC hg (by decide) (h.x hx),fun hx=>fN hC hg (by decide) (h.m hx),fun hx=>fN hC hg (by decide) (h.n hx),h.r,fun hx=>fN hC hg (by decide) (h.q hx),fun i hi hx=>fN hC hg (by omega) (h.k i hi hx)⟩
theorem fz.chgG (h:fz w tag out O oc L) (hC:Chg (fun k=>k=g) w w') (hg:tag g=7):fz w' tag out O oc L:=
 ⟨(fN hC hg (by decide) ⟨h.o,h.c⟩).1,h.l,fun j hj=>fN hC hg (by omega) (h.e j hj),h.c⟩
theorem aF.put (h:aF w0 Z w T g p) (hs:eN w Z T g tag p a O oc L) (hC:Chg (fun k=>tag k=c) w w1) (hc:StC c) (hf:aY w1 (dO w.heap.size c tag) s' a') (hO:Chg (fun k=>k=g) w1 w2) (hb:Blk w2 g T (rfV s' a'++[Value.slice O L.length oc]).toArray):eN w2 Z T g (dO w.heap.size c tag) ⟨s',p.out⟩ a' O oc L∧aF w0 Z w2 T g ⟨s',p.out⟩:=by
 have hg:dO w.heap.size c tag g=7:=(cy hs.b.lt).trans hs.gc;have hz:∀ k,Z k→dO w.heap.size c tag k=8:=fun k hk=>(cy (Nat.lt_of_lt_of_le (h.zl k hk) h.fr.size)).trans (hs.z k hk)
 have h1:eN w2 Z T g (dO w.heap.size c tag) ⟨s',p.out⟩ a' O oc L:=⟨hb,hf.chgG hO hg,(hs.m.chg hC hc.six (fun j _=>hc.even j)).chgG hO hg,hg,hz⟩;refine ⟨h1,⟨⟨_,_,_,_,_,h1⟩,h.zl,?_⟩⟩;refine (h.fr.next (hC.wide fun k hk=>.inl fun hz1=>?_)).next (hO.wide fun k hk=>.inl fun hz1=>?_)
 ·exact hc.eight ((hs.z k hz1).symm.trans hk)
 ·have:=hz k hz1;rw [show k=g from hk,hg] at this;cases this
theorem aF.set (h:aF w0 Z w T g p) (hs:eN w Z T g tag p a O oc L) (hO:Chg (fun k=>k=g) w w2) (hf:aY w tag s' a') (hb:Blk w2 g T (rfV s' a'++[Value.slice O L.length oc]).toArray):eN w2 Z T g tag ⟨s',p.out⟩ a' O oc L∧aF w0 Z w2 T g ⟨s',p.out⟩:=by
 have h1:eN w2 Z T g tag ⟨s',p.out⟩ a' O oc L:=⟨hb,hf.chgG hO hs.gc,hs.m.chgG hO hs.gc,hs.gc,hs.z⟩;refine ⟨h1,⟨⟨_,_,_,_,_,h1⟩,h.zl,h.fr.next (hO.wide fun k hk=>.inl fun hz1=>?_)⟩⟩;have:=hs.z k hz1;rw [show k=g from hk,hs.gc] at this;cases this
theorem cJ.six (h:cJ 6 w tag s' a):aY w tag s' a:=
 ⟨fun _=>h.e (by decide),fun _=>h.v (by decide),fun _=>h.x (by decide),fun _=>h.m (by decide),fun _=>h.n (by decide),fun _=>h.r (by decide),fun _=>h.q (by decide),fun i hi _=>h.k i hi (by omega)⟩
theorem aF.push {w3:World} {O':Option Addr} {n' oc':Nat} {x:Msg} (h:aF w0 Z w T g p) (hs:eN w Z T g tag p a O oc L) (hE:w.ownsRow 0 99 3 (.slice x.E x.es.length x.c) x.es.length (dV x.es)∧Col tag (1000+2*L.length) x.E) (hF:ai w w1) (hG:w1.grownBy w2 (O.map (·.block)))
 (ho:w2.ownsRow 0 39 13 (.slice O' n' oc') n' (L.flatMap bT++bT x)) (hn:n'=L.length+1) (hL:∀ k,O'.map (·.block)=some k→O.map (·.block)=some k∨w.heap.size≤k) (hO:dw g w2 w3) (hb:Blk w3 g T (rfV p.s a++[Value.slice O' n' oc']).toArray):aF w0 Z w3 T g ⟨p.s,p.out++[pl x]⟩:=by
 subst hn;have hC:Chg (fun k=>tag k=6) w w2:=(ai.toChg hF).next (Chg.of_grown hG fun k hk=>hs.m.c k hk);have hg:dO w.heap.size 6 tag g=7:=(cy hs.b.lt).trans hs.gc;have hz:∀ k,Z k→dO w.heap.size 6 tag k=8:=fun k hk=>(cy (Nat.lt_of_lt_of_le (h.zl k hk) h.fr.size)).trans (hs.z k hk)
 have hm:fz w2 (dO w.heap.size 6 tag) (p.out++[pl x]) O' oc' (L++[x]):=by
  refine ⟨?_,by rw [List.map_append,hs.m.l];rfl,fun j hj=>?_,hs.m.c.new (dI hs.m.o) hL⟩
  ·rw [List.flatMap_append,List.length_append];simpa using ho
  ·by_cases hj':j<L.length
   ·rw [List.getElem_append_left hj'];exact eF hC (by omega) (hs.m.e j hj')
   ·have hj2:j=L.length:=by rw [List.length_append,List.length_singleton] at hj;omega
    subst hj2;rw [List.getElem_append_right (Nat.le_refl _)];simp only [Nat.sub_self,List.getElem_singleton];exact eF hC (by omega) hE
 have hO2:Chg (fun k=>k=g) w2 w3:=hO.toChg rfl;have h1:eN w3 Z T g (dO w.heap.size 6 tag) ⟨p.s,p.out++[pl x]⟩ a O' oc' (L++[x]):=⟨by rw [List.length_append];exact hb,((hs.f.but hC).six).chgG hO2 hg,hm.chgG hO2 hg,hg,hz⟩;refine ⟨⟨_,_,_,_,_,h1⟩,h.zl,(h.fr.next (hC.wide fun k hk=>.inl fun hz1=>?_)).next (hO2.wide fun k hk=>.inl fun hz1=>?_)⟩
 ·have:=hs.z k hz1;rw [hk] at this;cases this
 ·have:=hz k hz1;rw [show k=g from hk,hg] at this;cases this
end
section
variable {P:Program} {ops:Array Oper} {Q:Exit→Act→World→Prop} {rest:List Oper} {n:Fr} {L:List (Nat×Value)} {w:World} {ty:TypeId} {pos:String} {after:Array Edge} {t:TypeId} {x y:Operand} {T g:Nat} {s s':Rf} {a a':Ra} {R:List Value}
theorem iA (s:Rf) (a:Ra):(rfV s a).length=22:=rfl
theorem cB (hb:Blk w g T (rfV s a++R).toArray) (k:Nat) {v:Value} (h:(rfV s a)[k]? =some v):w.cell? ⟨g,k,none⟩=some v:=by
 rw [hb.cell,←h];have hk:k<(rfV s a).length:=(List.getElem?_eq_some_iff.1 h).1;simp only [List.getElem?_toArray];exact List.getElem?_append_left hk
theorem um {k:Nat} {v:Value} (hP:Blk w g T ((rfV s a++R).toArray.setIfInBounds k v)) (e:k<22∧(rfV s a).set k v=rfV s' a'):Blk w g T (rfV s' a'++R).toArray:=by
 rw [List.setIfInBounds_toArray,List.set_append_left _ _ (by rw [iA];exact e.1),e.2] at hP;exact hP
theorem cY {k:Nat} {v:Value} (ht:dr P t=some 1) (hx:ev n L x=.pointer (some ⟨g,k,none⟩)) (hy:ev n L y=v) (h1:v.oneCell'=true) (hb:Blk w g T (rfV s a++R).toArray) (e:k<22∧(rfV s a).set k v=rfV s' a')
 (kk:∀ w',dw g w w'→Blk w' g T (rfV s' a'++R).toArray→St P ops Q rest n L w'):St P ops Q (⟨none,.store t x y,ty,pos,after,none⟩::rest) n L w:=
 fv ht hx hy h1 hb (by have:=e.1;simp [iA];omega) fun w' o b=>kk w' o (um b e)
theorem sX {b t9:Int} {E:Option Addr} {n9 c:Nat} {es:List Ent} (hn:n9=es.length) (ht:dr P t=some 3) (hx:ev n L x=.pointer (some ⟨g,6,none⟩)) (hy:ev n L y=.agg #[.int .i64 b,.int .i64 t9,.slice E n9 c]) (hb:Blk w g T (rfV s a++R).toArray)
 (kk:∀ w',dw g w w'→Blk w' g T (rfV { s with b:=b,t:=t9,es:=es } { a with E:=E,Ec:=c }++R).toArray→St P ops Q rest n L w'):St P ops Q (⟨none,.store t x y,ty,pos,after,none⟩::rest) n L w:=by
 subst hn;refine sm (vs:=[.int .i64 b,.int .i64 t9,.slice E es.length c]) ht hx hy (by simp [Value.oneCell']) hb (by simp [iA];omega) fun w' o k=>kk w' o ?_
 have e:gp (rfV s a++R) 6 [.int .i64 b,.int .i64 t9,.slice E es.length c]=rfV { s with b:=b,t:=t9,es:=es } { a with E:=E,Ec:=c }++R:=rfl;rw [e] at k;exact k
theorem kV (hb:Blk w g T (rfV s a++R).toArray):w.rangeAt g 6 [.int .i64 s.b,.int .i64 s.t,.slice a.E s.es.length a.Ec]:=fun j v hv=>by
 match j,hv with
 |0,hv=>exact cB hb 6 hv
 |1,hv=>exact cB hb 7 hv
 |2,hv=>exact cB hb 8 hv
 |j+3,hv=>simp at hv
theorem rr (hb:Blk w g T (rfV s a++R).toArray):w.rangeAt g 0 (rfV s a):=fun j v hv=>by rw [Nat.zero_add];exact cB hb j hv
theorem rA {dst:Option Nat} {post:Value→World→Prop} {base:Nat} {A A2:Option Addr} {m j cap c2 e size by_:Nat} {z:Value} {xs news:List Value} (hq:gA P t=some (e,size,by_,z)) (hzs:z.cells.size=size) (hs0:0<size)
 (hs:ev n L x=.slice A m cap) (hown:w.ownsRow base e size (.slice A m cap) m xs) (hB:base≤w.heap.size)
 (hx:ev n L y=.slice A2 j c2) (hl:news.length=j*size) (hsrc:∃ b o,A2=some ⟨b,o,none⟩∧w.rangeAt b o news) (h1:∀ u∈news,u.oneCell'=true) (h63:m+j≤9223372036854775807) (hby:(m+j)*by_≤140737488355328)
 (k:∀ A' cap' w',w'.ownsRow base e size (.slice A' (m+j) cap') (m+j) (xs++news)→w.grownBy w' (A.map (·.block))→(∀ q,A'.map (·.block)=some q→A.map (·.block)=some q∨w.heap.size≤q)→post (.slice A' (m+j) cap') w') :
 sh P ops n L ⟨dst,.call { callee:=.builtin .append,args:=#[x,y],argTypes:=#[t,t] },ty,pos,after,none⟩ w post:=by
 obtain ⟨A',cap',w',hr,ho,hg,hl⟩:=j_ (P:=P) (ρ:=ev n L) hq hzs hs0 hs hown hB hx hl hsrc h1 h63 hby;refine ⟨rfl,.inl ⟨_,w',hr _ _ _ _ _,k A' cap' w' ho hg fun q hq=>?_⟩⟩;rcases hl with e | e
 ·exact .inl (e ▸ hq)
 ·rw [e] at hq;cases hq;exact .inr (Nat.le_refl _)
theorem Chg.only {U:Nat→Prop} {w w1 w2:World} {g:Nat} (h:Chg U w w1) (o:dw g w1 w2) (hg:U g):Chg U w w2:=h.next (o.toChg hg)
end
end Go.Proofs.YtkpooenofjdpmaaGreat
namespace Go.Proofs.YtkpooenofjdpmaaGreat
open Go.Proofs.Tryz (prog)
open Go.RowKit
open Go.ChangeShapes Go.WideShapes Go.ChangeAt
open Go.RowKit
theorem mP {s s':Rf} (hc:s.commit≤s'.commit) (hr:s.round≤s'.round) (hn:s'.nodes=s.nodes) {q:Rd} (h:gD s q=true):gD s' q=true:=by
 unfold gD at h ⊢;simp only [Bool.and_eq_true] at h ⊢;obtain ⟨⟨⟨h1,h2⟩,h3⟩,h4⟩:=h;have h2':=da h2;have h3':=da h3;exact ⟨⟨⟨h1,eh (by omega)⟩,eh (by omega)⟩,by rw [hn];exact h4⟩
theorem RfF.elapse {s:Rf} (h:RfF s) {x:Int} (hx:0≤x∧x≤1099511627775):RfF { s with elapsed:=x }:={ h with el:=hx }
theorem RfF.beat {s:Rf} (h:RfF s) {x r:Int} (hx:0≤x∧x≤1099511627775) (hr:s.round≤r∧r≤1099511627775):RfF { s with elapsed:=x,round:=r }:=
 { h with el:=hx,rn:=by have h9:=h.rn;exact ⟨by show 0≤r;omega,hr.2⟩,rd:=fun q hq=>mP (s:=s) (s':={ s with elapsed:=x,round:=r }) (Int.le_refl _) hr.1 rfl (h.rd q hq) }
theorem z40:(0:Int)≤1099511627775:=by decide
theorem z11:(0:Int)≤1099511625728:=by decide
theorem z2:(0:Int)≤2:=by decide
theorem RfF.n0 {s:Rf} (h:RfF s):0≤s.nodes:=by have:=h.n;omega
theorem p5 (s:Int):-10<bl s 10∧bl s 10<10:=by
 rw [wZ (by decide)];have h1:=Int.tmod_lt_of_pos (nx s) (show (0:Int)<10 by decide);have h2:=Int.lt_tmod_of_pos (nx s) (show (0:Int)<10 by decide);rw [IntWalk.wrap64_in _ (by omega)];omega
theorem RfF.draws {s:Rf} (h:RfF s):RfF (gB s):=by
 have:=p5 s.seed;exact { h with el:=⟨Int.le_refl _,z40⟩,ti:=⟨by show 0≤10+bl s.seed 10;omega,by show 10+bl s.seed 10≤_;omega⟩ }
theorem RfF.alone {s:Rf} (h:RfF s) {r l:Int} (hr:r=0∨r=1) (hl:0≤l∧l≤s.nodes):RfF { ig s with role:=r,leader:=l }:=by
 have h0:fu { ig s with role:=r,leader:=l }=0:=l7 (by show r≠2;omega);exact { n:=h.n,i:=h.i,ro:=by (show 0≤r∧r≤2);omega,te:=h.te,vo:=h.vo,le:=hl,lg:=h.lg,sn:=h.sn,sb:=h.sb,el:=h.el,ti:=h.ti,rn:=h.rn,vs:=rfl,lt:=h.lt,co:=h.co,pa:=h.pa,po:=h.po,pp:=h.pp,nx:=⟨h0.symm,fun x hx=>by cases hx⟩,ma:=⟨h0.symm,fun x hx=>by cases hx⟩,se:=⟨h0.symm,fun x hx=>by cases hx⟩,rl:=by (show 0≤32);decide,r0:=.inr rfl,rd:=fun q hq=>by cases hq }
theorem RfF.termed {s:Rf} (h:RfF s) {tm:Int} (ht:s.term≤tm∧tm≤1099511627775) {v:Int} (hv:0≤v∧v≤s.nodes):RfF { s with term:=tm,vote:=v,part:=⟨#[]⟩,partOf:=0 }:=
 { h with te:=by have:=h.te;exact ⟨by show 0≤tm;omega,ht.2⟩,vo:=hv,lt:=by have:=h.lt;show dE s.t s.es≤tm;omega,pa:=by (show 0≤524288);decide,po:=⟨Int.le_refl _,z11⟩,pp:=.inr rfl }
theorem RfF.falls {s:Rf} (h:RfF s) {tm:Int} (ht:tm≤1099511627775):RfF (cF s tm):=by
 have h1:=h.alone (r:=0) (l:=0) (.inl rfl) ⟨Int.le_refl _,h.n0⟩;unfold cF;simp only;split
 ·rename_i h2;exact h1.termed (tm:=tm) (v:=0) ⟨by show s.term≤tm;omega,ht⟩ ⟨Int.le_refl _,h.n0⟩
 ·exact h1
theorem rz {n x:Int} (h:1≤x∧x≤n):eL [x] n=true:=by
 unfold eL;simp only [List.all_cons,List.all_nil,Bool.and_true,fB,Bool.and_eq_true,decide_eq_true_eq];exact h
def dF (s:Rf):Rf:=gB { ig s with term:=s.term+1,vote:=s.id,role:=1,leader:=0,votes:=[s.id],part:=⟨#[]⟩,partOf:=0 }
theorem RfF.cand {s:Rf} (h:RfF s) (ht:s.term≠dZ):RfF (dF s):=by
 have h1:=h.alone (r:=1) (l:=0) (.inr rfl) ⟨Int.le_refl _,h.n0⟩;have hi:=h.i;have h2:=h1.termed (tm:=s.term+1) (v:=s.id) ⟨by show s.term≤s.term+1;omega,by have:=h.te;unfold dZ at ht;omega⟩ ⟨by omega,hi.2⟩;exact RfF.draws { h2 with vs:=rz hi }
def dN (s:Rf):Rf:={ ig s with role:=2,leader:=s.id,elapsed:=0,next:=List.replicate s.nodes.toNat (aQ s+1),mtch:=List.replicate s.nodes.toNat 0,sent:=List.replicate s.nodes.toNat 0 }
theorem RfF.last {s:Rf} (h:RfF s):aQ s=s.b+s.es.length∧0≤s.b∧s.b≤aQ s∧s.es.length≤512∧s.b≤1099511625728:=by
 obtain ⟨h1,h2,h3,h4⟩:=gr h.lg;have h5:aQ s=s.b+s.es.length:=h1;exact ⟨h5,h2,by omega,h4,h3⟩
theorem RfF.chief {s:Rf} (h:RfF s):RfF (dN s):=by
 have hl:=h.last;have hn:=h.n;have h0:fu (dN s)=s.nodes.toNat:=dP rfl;exact { n:=h.n,i:=h.i,ro:=⟨z2,Int.le_refl _⟩,te:=h.te,vo:=h.vo,le:=⟨by have:=h.i;show 0≤s.id;omega,h.i.2⟩,lg:=h.lg,sn:=h.sn,sb:=h.sb,el:=⟨Int.le_refl _,z40⟩,ti:=h.ti,rn:=h.rn,vs:=rfl,lt:=h.lt,co:=h.co,pa:=h.pa,po:=h.po,pp:=h.pp,nx:=⟨by rw [h0];exact List.length_replicate,fun x hx=>by rw [List.eq_of_mem_replicate hx];exact ⟨by omega,Int.le_refl _⟩⟩,ma:=⟨by rw [h0];exact List.length_replicate,fun x hx=>by rw [List.eq_of_mem_replicate hx];exact ⟨Int.le_refl _,by show 0≤aQ s;omega⟩⟩,se:=⟨by rw [h0];exact List.length_replicate,fun x hx=>by rw [List.eq_of_mem_replicate hx];exact ⟨Int.le_refl _,by omega⟩⟩,rl:=by (show 0≤32);decide,r0:=.inr rfl,rd:=fun q hq=>by cases hq }
theorem rF (T:Int) (xs:List Ent) (e:Ent):dE T (xs++[e])=e.t:=by unfold dE;simp
theorem RfF.added {s:Rf} (h:RfF s) (hf:gF s=false) (d:ByteArray) (hd:d.size≤4096):RfF (eI s d)∧aQ (eI s d)=aQ s+1:=by
 obtain ⟨h1,h2,h3⟩:=h.add hf d hd;refine ⟨{ h with lg:=h1,lt:=by (show dE s.t (s.es++[_])≤s.term);rw [rF];exact Int.le_refl _,co:=⟨h.co.1,by rw [h2];have:=h.co.2;show s.commit≤aQ s+1;omega⟩,nx:=⟨h.nx.1,fun x hx=>by rw [h2];have:=h.nx.2 x hx;omega⟩,ma:=⟨h.ma.1,fun x hx=>by rw [h2];have:=h.ma.2 x hx;omega⟩ },h2⟩
theorem eg (l:List Int) (k v:Int):(ck l k v).length=l.length:=List.length_set
theorem kz {l:List Int} {k v x:Int} (h:x∈ck l k v):x∈l∨x=v:=List.mem_or_eq_of_mem_set h
theorem RfF.settle {s:Rf} (h:RfF s) (hr:s.role=2):RfF (cH s):=by
 have hl:=h.last;have hn:=h.n;have hm:(ck s.mtch s.id (aQ s)).length=fu s:=by rw [eg];exact h.ma.1
 have hall:∀ x∈ck s.mtch s.id (aQ s),0≤x∧x≤aQ s:=fun x hx=>by
  rcases kz hx with e | e
  ·exact h.ma.2 x e
  ·omega
 have hmed:=hall _ (oH (L:=ck s.mtch s.id (aQ s)) (by rw [hm,dP hr];omega));have hc:=h.co
 have hcm:s.commit≤(cH s).commit∧(cH s).commit≤aQ s:=by
  unfold cH;simp only;split <;> omega
 exact { h with co:=⟨by have:=hcm.1;show s.b≤(cH s).commit;omega,hcm.2⟩,ma:=⟨hm,hall⟩,rd:=fun q hq=>mP (s:=s) (s':=cH s) hcm.1 (Int.le_refl _) rfl (h.rd q hq) }
theorem RfF.lead {s:Rf} (h:RfF s) (hf:gF s=false):RfF (eI (dN s) ⟨#[]⟩):=(h.chief.added hf ⟨#[]⟩ (by decide)).1
end Go.Proofs.YtkpooenofjdpmaaGreat
namespace Go.Proofs.YtkpooenofjdpmaaGreat
open Go.Proofs.Tryz (prog)
open Go.RowKit Go.Shelf
attribute [local go_sem] Oper.semAt_some
theorem uQ:(prog.info? 3).map (fun i=>(i.zero,i.size,i.bytes))=some (some (.int .i64 0),1,8):=by kernel_rfl
def nth (L:List Int) (k:Nat):Int:=L[k]?.getD 0
theorem ph {L:List Int} {k:Nat} (h:k<L.length):L.take (k+1)=L.take k++[nth L k]:=by
 unfold nth;rw [List.take_add_one,List.getElem?_eq_getElem h];rfl
theorem wB (n l Bs n₀ b off cap:Nat) (L:List Int) (hn:1≤n) (hL:L.length*8≤140737488351232) (hb:b<n₀) (J Jx:List Int→World→Prop)
 (hY:∀ pre x W,J pre W→pre.length<L.length→YieldAt Fence.wide (n-1) prog l #[.int .i64 x] W fun e W'=>(e=.returned (.bool true)∧J (pre++[x]) W'∧Below n₀ W W')∨(e=.returned (.bool false)∧Jx (pre++[x]) W'))
 (W:World) (hBs:W.cell? ⟨Bs,0,none⟩=some (.slice (some ⟨b,off,none⟩) L.length cap)) (hc:∀ j,j<L.length→W.cell? ⟨b,off+j,none⟩=some (.int .i64 (nth L j))) (h0:J [] W) :
 CallsIn Fence.wide n prog 170 #[.func (.yield l) #[] #[],.pointer (some ⟨Bs,0,none⟩)] W fun e W'=>(∃ v,e=.returned v)∧((∃ ys,ys=L∧J ys W')∨(∃ pre,pre <+: L∧Jx pre W')):=by
 refine callsIn_of_wp Tryz.func170 rfl trivial ?_ rfl;simp only [Tryz.ntmps170,List.size_toArray,List.length_cons,List.length_nil,Nat.reduceAdd,Nat.reduceSub,Array.replicate_succ,Array.replicate_zero,List.push_toArray,List.append_toArray,List.nil_append,List.cons_append]
 gi_wp2
 gi_loopw [7] (fun i wr=>∃ k:Nat,k≤L.length∧i=.int .i64 k∧J (L.take k) wr∧Below n₀ W wr) (fun i _=>L.length-(intOf i).toNat)
 case atStart=>exact ⟨0,Nat.zero_le _,rfl,by simpa using h0,Below.refl _ _⟩
 case round=>
  obtain ⟨k,hk,rfl,hJ,hB⟩:=hrel;by_cases hlt:k<L.length
  ·obtain ⟨fn,tmps,assign,body,hy,hR⟩:=hY _ (nth L k) wr hJ (by rw [List.length_take];omega);have hck:wr.cell? ⟨b,off+k,none⟩=some (.int .i64 (nth L k)):=(hB.cell (p:=⟨b,off+k,none⟩) hb).trans (hc k hlt)
   gi_wp2
   refine hR.mono ?_;rintro e W3 (⟨rfl,hJ3,hk3⟩ | ⟨rfl,hJx3⟩)
   ·gi_wp2
    go_roundw
    case rel=>exact ⟨k+1,by omega,by simp,by rw [ph hlt];exact hJ3,hB.trans hk3⟩
    case measure=>simp [intOf];omega
   ·gi_wp2
    refine bodyPost_ret (results_none rfl _ _ _) rfl ?_;exact ⟨⟨_,rfl⟩,.inr ⟨_,by rw [←ph hlt];exact List.take_prefix _ _,hJx3⟩⟩
  ·obtain rfl:k=L.length:=by omega
   gi_wp2
   go_end0
   exact ⟨⟨_,rfl⟩,.inl ⟨_,rfl,by rw [List.take_length] at hJ;exact hJ⟩⟩
theorem rL (n Bs n₀ b off cap:Nat) (L:List Int) (hn:1≤n) (hL:L.length*8≤140737488351232) (hb:b<n₀) (w:World) (hBs:Bs<w.heap.size) (hn₀:n₀≤w.heap.size)
 (hs:w.cell? ⟨Bs,0,none⟩=some (.slice (some ⟨b,off,none⟩) L.length cap)) (hc:∀ j,j<L.length→w.cell? ⟨b,off+j,none⟩=some (.int .i64 (nth L j))) :
 SeqStopsK Fence.wide n prog 170 #[.pointer (some ⟨Bs,0,none⟩)] (fun x:Int=>#[Value.int .i64 x]) (Below n₀) (fun ys=>ys=L) (fun pre=>pre <+: L) L.length w:=fun l J Jx W hW _ _ hY h0=>
 wB n l Bs n₀ b off cap L hn hL hb J Jx hY W ((hW.cell (p:=⟨Bs,0,none⟩) hBs).trans hs) (fun j hj=>(hW.cell (p:=⟨b,off+j,none⟩) (show b<_ by omega)).trans (hc j hj)) h0
theorem oU (n Bs b off cap:Nat) (L:List Int) (hn:3≤n) (hL:L.length*8≤140737488351232) (w:World) (hb:b<w.heap.size) (hBs:Bs<w.heap.size)
 (hs:w.cell? ⟨Bs,0,none⟩=some (.slice (some ⟨b,off,none⟩) L.length cap)) (hc:∀ j,j<L.length→w.cell? ⟨b,off+j,none⟩=some (.int .i64 (nth L j))) :
 CallsIn Fence.wide n prog 179 #[.slice none 0 0,.func (.func 170) #[] #[.pointer (some ⟨Bs,0,none⟩)]] w fun e W'=>
  ∃ v,e=.returned v∧W'.ownsRow w.heap.size 3 1 v L.length (L.map (Value.int .i64))∧Below w.heap.size w W':=by
 have h1:1≤n:=by omega
 obtain ⟨i0,hi,hz0,hz1,hz2⟩:=info_parts uQ;refine callsIn_of_wp_marks Tryz.func179 rfl trivial ?_ rfl;simp only [Tryz.ntmps179,List.size_toArray,List.length_cons,List.length_nil,Nat.reduceAdd,Nat.reduceSub,Array.replicate_succ,Array.replicate_zero,List.push_toArray,List.append_toArray,List.nil_append,List.cons_append]
 gi_wp2
 have bO:=Boxed.new w 26 (.slice none 0 0);have hB0:Below w.heap.size w (w.alloc (.cells #[.slice none 0 0] 26)):=(Below.refl _ w).alloc (Nat.le_refl _) _
 refine wpIn_rangeFunc_ownG rfl h1 (gf:=170) (lb:=#[.pointer (some ⟨Bs,0,none⟩)]) rfl trivial (enters_of Tryz.func170 (by kernel_rfl) rfl)
  (rL (n-1) Bs w.heap.size b off cap L (by omega) hL hb _ (by simp;omega) (by simp) ((hB0.cell (p:=⟨Bs,0,none⟩) hBs).trans hs) (fun j hj=>(hB0.cell (p:=⟨b,off+j,none⟩) hb).trans (hc j hj))) belowK_t (belowK_b (by simp)) (Below.refl _ _) (fun _=>rfl)
  (fun pre W=>(∃ v,Boxed W w.heap.size 26 v∧W.ownsRow w.heap.size 3 1 v pre.length (pre.map (Value.int .i64))∧True)∧Below w.heap.size w W)
  (fun _ _ _=>False)
  (OwnFrom.and (Own.from (holdsRow_own w.heap.size w.heap.size 26 3 1 (fun pre:List Int=>pre.length) (fun pre=>pre.map (Value.int .i64)) (fun _ _=>True)) _) (ownFrom_below (Nat.le_refl _) (by simp)))
  (fun _ _ _ _ _ hs _ _=>hs)
  ⟨⟨_,bO,World.ownsRow_nil _ _ _ _,trivial⟩,hB0⟩
  (fun x=>{ tmps:=#[.slice none 0 0,.func (.func 170) #[] #[.pointer (some ⟨Bs,0,none⟩)],.pointer (some ⟨w.heap.size,0,none⟩),undef,.slice none 0 0,.int .i64 x,.func (.func 170) #[] #[.pointer (some ⟨Bs,0,none⟩)],.int .i64 x,undef,undef,undef,undef,undef],defers:=[] }) ?assign ?body ?done ?stop
 case assign=>
  intro l x W K hK
  gi_wp2
  exact hK
 case body=>
  rintro l pre x W ⟨⟨v,hv,hrow,_⟩,hB⟩ hlt;have hc:=hv.cell
  gi_wp2_with (gi_at_builtin;refine wpListIn_append_own _ rfl _ _ 26 rfl w.heap.size 3 i0 (.int .i64 0) 1 8 Tryz.underlying26 hi hz0 hz1 hz2 rfl (by decide) _ _ _ rfl (hrow.alloc _) ⟨W.heap.size,0,none⟩ 1 1 [.int .i64 x] rfl rfl (cell_one_new _ _ _) (by simp [Value.oneCell']) (by unfold maxLen;omega) (by omega) (by have:=hB.size;simp;omega) ?_;intro v' w1 hown' hgrow _;obtain ⟨g',cap',rfl⟩:=ownsRow_succ hown';obtain ⟨hv1,hv2,hr2,hk2,hb2⟩:=hv.appended (by decide) hrow hB.size (Nat.le_refl _) hown' hgrow;have hc1:=hv1.cell;have hf1:=hv1.frozen)
  exact ⟨hk2.from _,hb2,⟨_,hv2,by simpa using hr2,trivial⟩,hB.trans hb2⟩
 case done=>
  rintro D ys W hD rfl ⟨⟨v,hv,hrow,_⟩,hB⟩ hK;have hc:=hv.cell
  gi_wp2
  refine ⟨by simp,.inl ⟨_,_,rfl,run_takeDeferred hK,?_⟩⟩;exact ⟨_,results_tmp rfl _ _ _,v,rfl,ownsRow_putObj hrow _ hK rfl,hB.trans (belowK_b (w:=w) (Nat.le_refl _) W D _ _ (by simp at hD;omega) hK rfl rfl)⟩
 case stop=>
  rintro D c pre W _ _ h _;exact h.elim
theorem oT (Bs b off cap:Nat) (L:List Int) (w:World) (hL:L.length≤1000000) (hb:b<w.heap.size) (hBs:Bs<w.heap.size)
 (hs:w.cell? ⟨Bs,0,none⟩=some (.slice (some ⟨b,off,none⟩) L.length cap)) (hc:∀ j (h:j<L.length),w.cell? ⟨b,off+j,none⟩=some (.int .i64 L[j])) :
 Rt prog 179 [.slice none 0 0,.func (.func 170) #[] #[.pointer (some ⟨Bs,0,none⟩)]] w fun v w'=>
  (∃ A c,v=.slice A L.length c∧w'.ownsRow w.heap.size 3 1 (.slice A L.length c) L.length (L.map iV))∧ai w w':=by
 refine Calls.mono (callsIn_wide.1 (oU 3 Bs b off cap L (Nat.le_refl _) (by omega) w hb hBs hs (fun j hj=>by unfold nth;rw [List.getElem?_eq_getElem hj];exact hc j hj))) fun e w' ⟨v,he,ho,hB⟩=>?_
 obtain ⟨A,c,rfl⟩:=fM ho;exact ⟨_,he,⟨A,c,rfl,ho⟩,hB⟩
end Go.Proofs.YtkpooenofjdpmaaGreat
namespace Go.Proofs
open Go.Shelf
def Tryz.lays128_ren:Go.Shelf.Ren:=⟨fun | 128=>192 | n=>n,fun | 51=>197 | 3=>3 | 4=>4 | 46=>108 | 5=>5 | 9=>9 | n=>n,fun | n=>n⟩
def Tryz.lays125_ren:Go.Shelf.Ren:=⟨fun | 125=>181 | 128=>192 | 129=>193 | n=>n,fun | 46=>108 | 3=>3 | 51=>197 | 53=>25 | 4=>4 | 5=>5 | 9=>9 | n=>n,fun | n=>n⟩
def Tryz.lays215_ren:Go.Shelf.Ren:=⟨fun | 215=>182 | n=>n,fun | 3=>3 | 4=>4 | n=>n,fun | n=>n⟩
def Tryz.lays129_ren:Go.Shelf.Ren:=⟨fun | 129=>193 | n=>n,fun | 53=>25 | 3=>3 | 4=>4 | 46=>108 | 5=>5 | 9=>9 | n=>n,fun | n=>n⟩
def Tryz.lays189_ren:Go.Shelf.Ren:=⟨fun | 189=>169 | 125=>181 | 257=>180 | 128=>192 | 129=>193 | 294=>184 | 295=>185 | 296=>186 | 297=>187 | 298=>188 | 299=>189 | 216=>174 | 300=>190 | 301=>191 | 328=>195 | 329=>196 | 330=>197 | 331=>198 | 332=>199 | 215=>182 | 343=>200 | n=>n,fun | 28=>26 | 3=>3 | 46=>108 | 0=>0 | 51=>197 | 53=>25 | 4=>4 | 183=>191 | 182=>190 | 131=>119 | 5=>5 | 9=>9 | 218=>199 | 222=>156 | 228=>204 | 229=>105 | n=>n,fun | n=>n⟩
theorem Tryz.lays189:Go.Proofs.Lays.n189 prog Tryz.lays189_ren:={
 mixed:=by kernel_rfl
 f125:=Tryz.func181.trans (congrArg some (by kernel_rfl))
 f128:=Tryz.func192.trans (congrArg some (by kernel_rfl))
 f129:=Tryz.func193.trans (congrArg some (by kernel_rfl))
 f189:=Tryz.func169.trans (congrArg some (by kernel_rfl))
 f215:=Tryz.func182.trans (congrArg some (by kernel_rfl))
 f216:=Tryz.func174.trans (congrArg some (by kernel_rfl))
 f257:=Tryz.func180.trans (congrArg some (by kernel_rfl))
 f294:=Tryz.func184.trans (congrArg some (by kernel_rfl))
 f295:=Tryz.func185.trans (congrArg some (by kernel_rfl))
 f296:=Tryz.func186.trans (congrArg some (by kernel_rfl))
 f297:=Tryz.func187.trans (congrArg some (by kernel_rfl))
 f298:=Tryz.func188.trans (congrArg some (by kernel_rfl))
 f299:=Tryz.func189.trans (congrArg some (by kernel_rfl))
 f300:=Tryz.func190.trans (congrArg some (by kernel_rfl))
 f301:=Tryz.func191.trans (congrArg some (by kernel_rfl))
 f328:=Tryz.func195.trans (congrArg some (by kernel_rfl))
 f329:=Tryz.func196.trans (congrArg some (by kernel_rfl))
 f330:=Tryz.func197.trans (congrArg some (by kernel_rfl))
 f331:=Tryz.func198.trans (congrArg some (by kernel_rfl))
 f332:=Tryz.func199.trans (congrArg some (by kernel_rfl))
 f343:=Tryz.func200.trans (congrArg some (by kernel_rfl))
 t0:=Tryz.underlying0
 a0:=Tryz.isAgg0
 z0:=Tryz.sizeOf0
 v0:=Tryz.zeroValue0
 t3:=Tryz.underlying3
 a3:=Tryz.isAgg3
 z3:=Tryz.sizeOf3
 v3:=Tryz.zeroValue3
 t4:=Tryz.underlying4
 a4:=Tryz.isAgg4
 z4:=Tryz.sizeOf4
 v4:=Tryz.zeroValue4
 t5:=Tryz.underlying5
 a5:=Tryz.isAgg5
 z5:=Tryz.sizeOf5
 v5:=Tryz.zeroValue5
 t9:=Tryz.underlying9
 a9:=Tryz.isAgg9
 z9:=Tryz.sizeOf9
 v9:=Tryz.zeroValue9
 t28:=Tryz.underlying26
 a28:=Tryz.isAgg26
 z28:=Tryz.sizeOf26
 v28:=Tryz.zeroValue26
 t46:=Tryz.underlying108
 a46:=Tryz.isAgg108
 z46:=Tryz.sizeOf108
 v46:=Tryz.zeroValue108
 t51:=Tryz.underlying197
 a51:=Tryz.isAgg197
 z51:=Tryz.sizeOf197
 v51:=Tryz.zeroValue197
 t53:=Tryz.underlying25
 a53:=Tryz.isAgg25
 z53:=Tryz.sizeOf25
 v53:=Tryz.zeroValue25
 t131:=Tryz.underlying119
 a131:=Tryz.isAgg119
 z131:=Tryz.sizeOf119
 v131:=Tryz.zeroValue119
 t182:=Tryz.underlying190
 a182:=Tryz.isAgg190
 z182:=Tryz.sizeOf190
 v182:=Tryz.zeroValue190
 t183:=Tryz.underlying191
 a183:=Tryz.isAgg191
 z183:=Tryz.sizeOf191
 v183:=Tryz.zeroValue191
 t218:=Tryz.underlying199
 a218:=Tryz.isAgg199
 z218:=Tryz.sizeOf199
 v218:=Tryz.zeroValue199
 t222:=Tryz.underlying156
 a222:=Tryz.isAgg156
 z222:=Tryz.sizeOf156
 v222:=Tryz.zeroValue156
 t228:=Tryz.underlying204
 a228:=Tryz.isAgg204
 z228:=Tryz.sizeOf204
 v228:=Tryz.zeroValue204
 t229:=Tryz.underlying105
 a229:=Tryz.isAgg105
 z229:=Tryz.sizeOf105
 v229:=Tryz.zeroValue105 }
open Go.Sort Go.RowKit in
theorem Tryz.slices_Sort_int (blk off cap:Nat) (zs:List Int) (w:World) (hH:Holds (Value.int .i64) w blk off zs.toArray) (hblk:blk<w.heap.size) (hsz:zs.length<4611686018427387904) :
 Calls prog 169 #[.slice (some ⟨blk,off,none⟩) zs.length cap] w fun e w'=>
  e=.returned (.tuple #[])∧∃ n os,w'=grow (putRow (Value.int .i64) (Sort.ahead w n) blk off (zs.mergeSort fun x y=>decide (x≤y)).toArray) os:=Any.slices_Sort_int Tryz.lays189 blk off cap zs w hH hblk hsz
def Tryz.lays114_ren:Go.Shelf.Ren:=⟨fun | 114=>155 | n=>n,fun | 28=>26 | 3=>3 | 4=>4 | 9=>9 | 20=>20 | 0=>0 | n=>n,fun | n=>n⟩
def Tryz.lays112_ren:Go.Shelf.Ren:=⟨fun | 112=>194 | n=>n,fun | 28=>26 | 3=>3 | 4=>4 | 0=>0 | n=>n,fun | n=>n⟩
def Tryz.laysNm215_ren:Go.Shelf.Ren:=⟨fun | 15=>136 | n=>n,fun | 22=>26 | 3=>3 | 4=>4 | n=>n,fun | n=>n⟩
def Tryz.laysNm237_ren:Go.Shelf.Ren:=⟨fun | 37=>182 | n=>n,fun | 3=>3 | 4=>4 | n=>n,fun | n=>n⟩
def Tryz.laysNm232_ren:Go.Shelf.Ren:=⟨fun | 32=>175 | n=>n,fun | 3=>3 | 4=>4 | n=>n,fun | n=>n⟩
def Tryz.laysNm231_ren:Go.Shelf.Ren:=⟨fun | 31=>174 | 37=>182 | n=>n,fun | 3=>3 | 4=>4 | n=>n,fun | n=>n⟩
def Tryz.laysNm225_ren:Go.Shelf.Ren:=⟨fun | 25=>163 | 31=>174 | 32=>175 | 37=>182 | n=>n,fun | 22=>26 | 3=>3 | 4=>4 | 40=>108 | 0=>0 | n=>n,fun | n=>n⟩
end Go.Proofs
namespace Go.Proofs.YtkpooenofjdpmaaGreat
open Go.Proofs.Tryz (prog)
open Go.RowKit
open Go.ChangeShapes Go.WideShapes Go.ChangeAt
theorem bX:(e_ prog 26).isSome=true:=by kernel_rfl
theorem a_:e_ prog 26=some (3,1):=by kernel_rfl
theorem qN:aN prog 179=true:=by kernel_rfl
theorem qP:aN prog 168=true:=by kernel_rfl
theorem qO:aN prog 169=true:=by kernel_rfl
theorem qT:aN prog 155=true:=by kernel_rfl
theorem qQ:aN prog 157=true:=by kernel_rfl
theorem qS:aN prog 156=true:=by kernel_rfl
theorem xV (A:Option Addr) (c:Nat) (L:List Int) (w:World) (hr:ew iV w A L) (hn:1≤L.length) (hl:L.length≤1000000) :
 Rt prog 155 [.slice A L.length c] w (fun v w'=>(∃ m,v=.int .i64 m∧m∈L∧∀ x∈L,m≤x)∧w=w'):=by
 obtain ⟨ba,oa,rfl,hca⟩:=hr (by omega);refine enter (n:=25) Tryz.func155 rfl rfl rfl (ao (ag (asi rfl (aq (ah (ao (ao (ag (mvs rfl (ab (b0 bX rfl) (ab (bL (cA rfl rfl) (decide_eq_false (by omega))) (aq (ah (aU rfl ?_))))))))))))));refine aI (ah (ao (ag (mvs rfl (ab (db (i:=0) a_ rfl rfl (by omega)) (ab (au ak rfl (by exact hca 0 (by omega))) ?_))))));refine asi rfl (aq (ah (ao (ao (ag (asi rfl (aq (ah (bk (dC (G:=Int×Nat) [12,13,14,15,16,17,18,19,20,21,22,23] (fun (m,k)=>[(3,.int .i64 m),(4,.int .i64 (k:Nat))]) (fun (m,k) w'=>1≤k∧k≤L.length∧m∈L∧(∀ i (h:i<L.length),i<k→m≤L[i])∧w=w') (fun (_,k)=>L.length-k) ((L[0],1)) ⟨rfl,rfl,trivial⟩ ?_ ?_))))))))))
 ·exact ⟨Nat.le_refl _,hn,List.getElem_mem _,fun i h h0=>by (obtain rfl:i=0:=by omega);exact Int.le_refl _,rfl⟩
 rintro ⟨m,k⟩ ρ1 w1 ⟨hk1,hk,hm,hle,rfl⟩;refine ao (ao (ag (mvi rfl (mvs rfl (ab (b0 bX rfl) (ab (cA rfl rfl) (aq (ah (yS rfl (fun Q2=>?_) (fun Q2=>?_))))))))))
 ·refine aI (ah (ao (bk (ag (mvi rfl (mvs rfl (mvi rfl (ab (db a_ rfl rfl (by omega)) (ab (au ak rfl (by exact hca k (by omega))) ?_)))))))));refine ab (kT rfl rfl) (asi rfl (aq (bI (ah (ag (mvi rfl (ab (cx (b:=1) rfl rfl (by omega)) (asi rfl (aq ?_)))))))));refine cu ((min m L[k],k+1)) ⟨(by first | rfl | (refine aZ ?_;omega)),(by first | rfl | (refine aZ ?_;omega)),trivial⟩ (by (iterate 28 refine bC rfl ?_);exact bP) ⟨?_,?_⟩
  ·refine ⟨by omega,by omega,?_,fun i h h0=>?_,rfl⟩
   ·rcases Int.le_total m L[k] with a | a
    ·rw [Int.min_eq_left a];exact hm
    ·rw [Int.min_eq_right a];exact List.getElem_mem _
   ·rcases Nat.lt_or_ge i k with a | a
    ·have:=hle i h a;omega
    ·obtain rfl:i=k:=by omega
     omega
  ·show _-_<_-_;omega
 refine cL (bw (bw (cr (ah (ao (ag (mvi rfl (asi rfl (aq (ah (aG (bF (v:=.int _ _) rfl rfl ?_))))))))))));obtain rfl:k=L.length:=by omega
 exact ⟨⟨m,rfl,hm,fun x hx=>by obtain ⟨i,hi,rfl⟩:=List.getElem_of_mem hx;exact hle i hi hi⟩,rfl⟩
theorem sV (A:Option Addr) (n c:Nat) (w:World) :
 Rt prog 157 [.slice A n c] w (fun v w'=>(∃ Bs,v=.func (.func 170) #[] #[.pointer (some ⟨Bs,0,none⟩)]∧w'.cell? ⟨Bs,0,none⟩=some (.slice A n c)∧Bs<w'.heap.size)∧ai w w'):=by
 refine enter (n:=4) Tryz.func157 rfl rfl rfl (ao (ag (cj (v:=.slice _ _ _) rfl ?_)));intro b1 w1 E1 hb1 hk1;refine ab (cS (v:=.nilFunc) rfl) (aq (ah (ao (ag (ab (pw (l1:=[]) (l2:=[.tmp 1])) (ab (cS (v:=.func _ _ _) rfl) (aq (ah (aG (bF (v:=.func _ _ _) rfl rfl (⟨⟨b1,rfl,(hk1.from_ ai.rfl_).rd 0 rfl,(hk1.from_ ai.rfl_).lt⟩,(ai.rfl_.next E1)⟩)))))))))))
theorem rO (Bs b off cap:Nat) (L:List Int) (w:World) (hL:L.length≤1000000) (hb:b<w.heap.size) (hBs:Bs<w.heap.size) (hs:w.cell? ⟨Bs,0,none⟩=some (.slice (some ⟨b,off,none⟩) L.length cap)) (hc:∀ j (h:j<L.length),w.cell? ⟨b,off+j,none⟩=some (.int .i64 L[j])) :
 Rt prog 168 [.func (.func 170) #[] #[.pointer (some ⟨Bs,0,none⟩)]] w (fun v w'=>(∃ A c,v=.slice A L.length c∧w'.ownsRow w.heap.size 3 1 (.slice A L.length c) L.length (L.map iV))∧ai w w'):=by
 refine enter (n:=5) Tryz.func168 rfl rfl rfl (ao (ag (ass rfl (aq (ah (ao (ag (ab (aC (v:=.func _ _ _) rfl) (aE qN (oT Bs b off cap L _ hL hb hBs hs hc) ?_)))))))));rintro v4 w1 ⟨⟨A4,c4,rfl,ho4⟩,E4⟩;refine ass rfl (aq (ah (aG (bF (v:=.slice _ _ _) rfl rfl (⟨⟨A4,c4,rfl,ho4⟩,(ai.rfl_.next E4)⟩)))))
theorem tX (base c:Nat) (A:Option Addr) (L:List Int) (w:World) (ho:w.ownsRow base 3 1 (.slice A L.length c) L.length (L.map iV)) (hn:1≤L.length) (hl:L.length≤1000000) :
 Rt prog 169 [.slice A L.length c] w fun _ w'=>w'.ownsRow base 3 1 (.slice A L.length c) L.length ((srt L).map iV)∧w.grownBy w' (A.map (·.block)):=by
 rcases ho.2 with ⟨_,hz⟩ | ⟨g,cap,cur,hv,hbase,hb,h1,h2,h3,h4⟩
 ·omega
 ·simp only [Value.slice.injEq] at hv;obtain ⟨rfl,_,rfl⟩:=hv;refine Calls.mono (Tryz.slices_Sort_int g 0 c L w (holds_of_blockI hb (by simpa using h4)) (Array.getElem?_eq_some_iff.1 hb).1 (by omega)) fun e w' ⟨he,n,os,hw⟩=>⟨_,he,?_,?_⟩
  ·rw [hw];exact ownsRow_sortedI (oz L) hbase hb h1 h2 h3
  ·rw [hw];exact grownBy_sortedI _
theorem sY (Bs b off cap:Nat) (L:List Int) (w:World) (hL:L.length≤1000000) (hb:b<w.heap.size) (hBs:Bs<w.heap.size) (hs:w.cell? ⟨Bs,0,none⟩=some (.slice (some ⟨b,off,none⟩) L.length cap)) (hc:∀ j (h:j<L.length),w.cell? ⟨b,off+j,none⟩=some (.int .i64 L[j])) (hn:1≤L.length) :
 Rt prog 156 [.func (.func 170) #[] #[.pointer (some ⟨Bs,0,none⟩)]] w (fun v w'=>(∃ A c,v=.slice A L.length c∧w'.ownsRow w.heap.size 3 1 (.slice A L.length c) L.length ((srt L).map iV))∧ai w w'):=by
 refine enter (n:=9) Tryz.func156 rfl rfl rfl (ao (ag (ass rfl (aq (ah (ao (ag (ab (aC (v:=.func _ _ _) rfl) (aE qP (rO Bs b off cap L _ hL hb hBs hs hc) ?_)))))))));rintro v5 w1 ⟨⟨A5,c5,rfl,ho5⟩,E5⟩;refine ass rfl (aq (ah (ao (ag (mvs rfl (aE qO (tX _ c5 A5 L _ ho5 hn hL) ?_))))));rintro v7 w2 ⟨ho7,hg7⟩;refine aq (ah (ao (ag (mvs rfl (ass rfl (aq (ah (aG (bF (v:=.slice _ _ _) rfl rfl (⟨⟨A5,c5,rfl,ho7⟩,((ai.rfl_.next E5).grew hg7 (fun k hk=>(fO ho5 k hk).1))⟩))))))))))
def yh (L:List Int) (v:Value):Prop:=(Fit L∧v=.tuple #[.int .i64 (med L),.int .i64 0])∨(¬ Fit L∧v=.tuple #[.int .i64 0,.int .i64 1])
theorem uR (A:Option Addr) (c:Nat) (L:List Int) (w:World) (hr:ew iV w A L) :
 Rt prog 115 [.slice A L.length c] w (fun v w'=>yh L v∧ai w w'):=by
 refine enter (n:=28) Tryz.func115 rfl rfl rfl (ao (ag (asi rfl (asi rfl (aq (ah (ao (ao (ag (mvs rfl (ab (b0 bX rfl) (ab (cA rfl rfl) (mvb rfl ?_)))))))))))));refine ym (t:=8) rfl (fun Q1=>?_) (fun Q1=>?_)
 ·refine ar rfl rfl (ar rfl rfl (ar rfl rfl (ab (aJ (v:=.bool _) rfl rfl) (mvb rfl (ar rfl rfl (ar rfl rfl (ar rfl rfl (ab (aJ (v:=.bool _) rfl rfl) ?_))))))));refine aq (ah (aW rfl (ao (ag (asi rfl (asi rfl (aq (ah (aG (aH (lO (v:=.int _ _) (v':=.int _ _) rfl rfl rfl (⟨.inr ⟨fun hf=>?_,rfl⟩,ai.rfl_⟩))))))))))));obtain ⟨f1,f2,f3⟩:=hf
  first
   |omega
   |(have:=f3 _ hm15;omega)
 refine aj rfl (mvs rfl (aj rfl (ab (b0 bX rfl) (aj rfl (ab (ct rfl rfl) (ab (aB (v:=.bool _) rfl rfl) (mvb rfl (ym (t:=13) rfl (fun Q2=>?_) (fun Q2=>?_)))))))))
 ·refine ar rfl rfl (ar rfl rfl (ar rfl rfl (ab (aJ (v:=.bool _) rfl rfl) (aq (ah (aW rfl (ao (ag (asi rfl (asi rfl ?_))))))))));refine aq (ah (aG (aH (lO (v:=.int _ _) (v':=.int _ _) rfl rfl rfl (⟨.inr ⟨fun hf=>?_,rfl⟩,ai.rfl_⟩)))));obtain ⟨f1,f2,f3⟩:=hf
  first
   |omega
   |(have:=f3 _ hm15;omega)
 refine aj rfl (mvs rfl (aj rfl (aE qT (xV A c L _ (hr.from_ ai.rfl_) (by omega) (by omega)) ?_)));rintro v15 w3 ⟨⟨m15,rfl,hm15,hle15⟩,rfl⟩;refine aj rfl (ab (cA rfl rfl) (ab (aB (v:=.bool _) rfl rfl) (aq (ah (yS rfl (fun Q4=>?_) (fun Q4=>?_))))))
 ·refine ao (ag (asi rfl (asi rfl (aq (ah (aG (aH (lO (v:=.int _ _) (v':=.int _ _) rfl rfl rfl (⟨.inr ⟨fun hf=>?_,rfl⟩,ai.rfl_⟩)))))))));obtain ⟨f1,f2,f3⟩:=hf
  first
   |omega
   |(have:=f3 _ hm15;omega)
 refine aI (ah (ao (ag (mvs rfl ?_))));have hfit:Fit L:=⟨by omega,by omega,fun x hx=>by have:=hle15 x hx;omega⟩;obtain ⟨ba,oa,rfl,hca⟩:=hr (by omega);refine aE qQ (sV _ L.length c _) ?_;rintro v19 w5 ⟨⟨Bs,rfl,hs19,hl19⟩,E19⟩;refine aE qS (sY Bs ba oa c L _ (by omega) (by have:=World.block_lt_of_cell? _ _ (hca 0 (by omega));have:=E19.size;exact Nat.lt_of_lt_of_le ‹_› ‹_›) hl19 hs19 (fun j h=>eH (ai.rfl_.next E19) (hca j h)) (by omega)) ?_;rintro v20 w6 ⟨⟨A20,c20,rfl,ho20⟩,E20⟩;obtain ⟨g20,rfl⟩:=du ho20 (by omega);refine ass rfl (aq (ah (ao (ag (mvs rfl (mvs rfl (ab (b0 bX rfl) (ab (sr (b:=1) rfl rfl (by omega)) (ab (vR (b:=2) rfl rfl (by omega)) (ab (bS a_ rfl rfl (by omega)) ?_))))))))));refine ab (au ak rfl (by have h27:=gY (l:=srt L) ho20 ((L.length-1)/2) (by rw [oz];omega);exact h27)) ?_;refine asi rfl (asi rfl (aq (ah (aG (lO (v:=.int _ _) (v':=.int _ _) rfl rfl rfl ?_)))));obtain ⟨h2,e⟩:=uJ hfit.1;exact ⟨.inl ⟨hfit,by rw [e]⟩,((ai.rfl_.next E19).next E20)⟩
theorem sg:jq prog 166=some (.agg #[.bool false,.bool false,.bool false,.bool false,.bool false,.bool false,.bool false,.bool false]):=by kernel_rfl
theorem nn:wI prog 166=some (8,1):=by kernel_rfl
theorem im:iJ prog 4=some false:=by kernel_rfl
theorem nm:dr prog 4=some 1:=by kernel_rfl
theorem x8 (n:Nat):cv [] n=0:=by
 unfold cv;rw [List.countP_eq_zero];simp
def okV (n:Int) (L:List Int):Bool:=decide (1≤n∧n≤7)&&decide (n<2*(cv L n.toNat:Nat))
def eV (n:Int):Int:=if 1≤n∧n≤7 then 0 else 1
theorem xS {N:Nat} (h:1≤(N:Int)∧(N:Int)≤7) (L:List Int):okV N L=decide ((N:Int)<2*(cv L N:Nat)):=by
 unfold okV;rw [decide_eq_true h,Bool.true_and,Int.toNat_natCast]
theorem sA {n:Int} (h:¬ (1≤n∧n≤7)) (L:List Int):okV n L=false:=by
 unfold okV;rw [decide_eq_false h,Bool.false_and]
theorem yL {n:Int} (h:1≤n∧n≤7):eV n=0:=if_pos h
theorem u2 {n:Int} (h:¬ (1≤n∧n≤7)):eV n=1:=if_neg h
theorem yp {a b:Bool} {x:Value} (h:a=b):Value.tuple #[.bool a,x]=.tuple #[.bool b,x]:=by rw [h]
theorem tq (A:Option Addr) (c:Nat) (n:Int) (L:List Int) (w:World) (hr:ew iV w A L) (hl:L.length≤1000000) :
 Rt prog 123 [.int .i64 n,.slice A L.length c] w (fun v w'=>v=.tuple #[.bool (okV n L),.int .i64 (eV n)]∧ai w w'):=by
 refine enter (n:=43) Tryz.func123 rfl rfl rfl (ao (ag (asb rfl (asi rfl (aq (ah (ao (ao (ag (mvi rfl (ab (cA rfl rfl) (mvb rfl (ym (t:=12) rfl (fun Q1=>?_) (fun Q1=>?_))))))))))))))
 ·refine ar rfl rfl (ar rfl rfl (ab (aJ (v:=.bool _) rfl rfl) (aq (ah (aW rfl (ao (ag (asb rfl (asi rfl (aq (ah (aG (aH ?_)))))))))))));refine lO (v:=.bool _) (v':=.int _ _) rfl rfl rfl (⟨?_,ai.rfl_⟩);rw [sA (by omega),u2 (by omega)]
 refine aj rfl (mvi rfl (aj rfl (ab (ct rfl rfl) (ab (aB (v:=.bool _) rfl rfl) (aq (ah (yS rfl (fun Q2=>?_) (fun Q2=>?_))))))))
 ·refine ao (ag (asb rfl (asi rfl (aq (ah (aG (aH (lO (v:=.bool _) (v':=.int _ _) rfl rfl rfl (⟨?_,ai.rfl_⟩)))))))));rw [sA (by omega),u2 (by omega)]
 refine aI (ah (ao (ag ?_)));obtain ⟨N,rfl⟩:∃ N:Nat,n=N:=⟨n.toNat,by omega⟩;have hB6:ai w w:=ai.rfl_;refine dq sg ?_;intro b6 w3 E6 hb6 hk6;have hg6:w.heap.size≤b6:=by have:=hB6.size;omega
 refine aq (ah (ao (ag (asi rfl (aq (ah (ao (ao (ag (mvs rfl (ab (b0 bX rfl) (mvi rfl (aq (ah (bk (dC (G:=Nat) [9,19,20,21,22,23,24,25,26,27,28,29,30,31,32,33,34,35,36,37,38] (fun k=>[(7,.int .i64 (cv (L.take k) N:Nat)),(18,.int .i64 (k:Nat))]) (fun k w'=>k≤L.length∧Blk w' b6 166 (ko (L.take k) N).toArray∧ai w w') (fun k=>L.length-k) (0) ⟨(aZ (by rw [List.take_zero,x8];rfl)),rfl,trivial⟩ ?_ ?_))))))))))))))))
 ·exact ⟨Nat.zero_le _,by rw [List.take_zero,tN];exact hk6.from_ ai.rfl_,(ai.rfl_.next E6)⟩
 rintro k ρ4 w4 ⟨hk,hP,hB⟩;have hcl:=yM (L.take k) N;refine ao (ag (ab (cA rfl rfl) (aq (ah (ao (yS rfl (fun Q5=>?_) (fun Q5=>?_)))))))
 ·obtain ⟨ba,oa,rfl,hca⟩:=hr (by omega);refine aI (ah (ao (bk (ao (ag (ab (db a_ rfl rfl (by omega)) (ab (au ak rfl (by exact eH hB (hca k (by omega)))) ?_)))))));refine asi rfl (aq (ah (ao (ao (ag (mvi rfl (ab (cA rfl rfl) (mvb rfl (ym (t:=24) rfl (fun Q6=>?_) (fun Q6=>?_))))))))))
  ·have hsk:¬ (1≤L[k]∧L[k]≤N)∨L[k]∈L.take k:=.inl (by omega);have hV:=hP;rw [←kN (by omega) hsk] at hV;have hC:=l9 (n:=N) (by omega) hsk;refine ar rfl rfl (ar rfl rfl (ar rfl rfl (ab (aJ (v:=.bool _) rfl rfl) (mvb rfl (ar rfl rfl (ar rfl rfl (ar rfl rfl (ab (aJ (v:=.bool _) rfl rfl) ?_))))))));refine aq (ah (aW rfl (cL (bw (cr (ah (ag (ab (cx (b:=1) rfl rfl (by omega)) (mvi rfl (aq ?_))))))))));refine cu (k+1) ⟨(by first | rfl | (refine aZ ?_;omega)),(by first | rfl | (refine aZ ?_;omega)),trivial⟩ (by (iterate 42 refine bC rfl ?_);exact bP) ⟨?_,?_⟩
   ·exact ⟨by omega,hV,hB⟩
   ·omega
  refine aj rfl (mvi rfl (aj rfl (mvi rfl (aj rfl (ab (ct rfl rfl) (ab (aB (v:=.bool _) rfl rfl) (mvb rfl (ym (t:=29) rfl (fun Q7=>?_) (fun Q7=>?_)))))))))
  ·have hsk:¬ (1≤L[k]∧L[k]≤N)∨L[k]∈L.take k:=.inl (by omega);have hV:=hP;rw [←kN (by omega) hsk] at hV;have hC:=l9 (n:=N) (by omega) hsk;refine ar rfl rfl (ar rfl rfl (ar rfl rfl (ab (aJ (v:=.bool _) rfl rfl) (aq (ah (aW rfl (cL (bw (cr (ah (ag (ab (cx (b:=1) rfl rfl (by omega)) ?_))))))))))));refine mvi rfl (aq ?_);refine cu (k+1) ⟨(by first | rfl | (refine aZ ?_;omega)),(by first | rfl | (refine aZ ?_;omega)),trivial⟩ (by (iterate 43 refine bC rfl ?_);exact bP) ⟨?_,?_⟩
   ·exact ⟨by omega,hV,hB⟩
   ·omega
  refine aj rfl (mvi rfl (aj rfl (ab (jV nn rfl rfl (by omega)) (aj rfl (ab (au im rfl (by exact hP.rd _ (pb _ N _ (by omega)))) ?_)))));refine ab (aB (v:=.bool _) rfl rfl) (aq (ah (yS rfl (fun Q8=>?_) (fun Q8=>?_))))
  ·have h9:=Q8;have hsk:¬ (1≤L[k]∧L[k]≤N)∨L[k]∈L.take k:=.inr (by have h8:=h9.2.2;rwa [Int.toNat_of_nonneg (by omega)] at h8);have hV:=hP;rw [←kN (by omega) hsk] at hV;have hC:=l9 (n:=N) (by omega) hsk;refine cL (bw (cr (ah (ag (ab (cx (b:=1) rfl rfl (by omega)) (mvi rfl (aq ?_)))))));refine cu (k+1) ⟨(by first | rfl | (refine aZ ?_;omega)),(by first | rfl | (refine aZ ?_;omega)),trivial⟩ (by (iterate 43 refine bC rfl ?_);exact bP) ⟨?_,?_⟩
   ·exact ⟨by omega,hV,hB⟩
   ·omega
  have h9:=Q8;have hnew:L[k] ∉ L.take k:=fun hm=>h9 ⟨by omega,by omega,by rw [Int.toNat_of_nonneg (by omega)];exact hm⟩
  have hC:=u3 (by omega) hnew N (by omega) (by omega);refine aI (ah (ao (ag (mvi rfl (ab (jV nn rfl rfl (by omega)) (fv (v:=.bool _) nm rfl rfl rfl (hP) (by simp [ko];omega) ?_))))));intro w9 O9 P9;have hV:=P9;rw [tO (by omega) (by omega) (by omega) (by omega)] at hV;refine aq (ah (ag (mvi rfl (ab (cx (b:=1) rfl rfl (by omega)) (asi rfl (aq (bI (ah (ag (ab (cx (b:=1) rfl rfl (by omega)) (mvi rfl (aq ?_))))))))))));refine cu (k+1) ⟨(by first | rfl | (refine aZ ?_;omega)),(by first | rfl | (refine aZ ?_;omega)),trivial⟩ (by (iterate 48 refine bC rfl ?_);exact bP) ⟨?_,?_⟩
  ·exact ⟨by omega,hV,(hB.only O9 (hg6))⟩
  ·omega
 refine cL (bw (bw (cr (ah (ao (ag (mvi rfl (ab (vS (a:=2) rfl rfl (by omega)) (mvi rfl (ab (ct rfl rfl) (asb rfl (asi rfl (aq (ah (aG ?_)))))))))))))));refine lO (v:=.bool _) (v':=.int _ _) rfl rfl rfl ?_;obtain rfl:k=L.length:=by omega
 refine ⟨?_,hB⟩;rw [xS (by omega),yL (by omega),List.take_length];exact yp (decide_eq_decide.2 (by omega))
end Go.Proofs.YtkpooenofjdpmaaGreat
