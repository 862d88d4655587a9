/- texts that the claim stands on. -/
import Derived.Test.YtkpooenofjdpmaaGreatSlRfLawV51
import Derived.Laws.CopyRow
import Derived.Lib.LazyBuf
import Derived.Lib.AppendZerosOnto
import Derived.Lib.Overlaps
import Derived.Deep.AppendLies
import Derived.RangeFuncBox
import Derived.RangeFuncLeaves
import Derived.Shelf.Abstract
import Derived.OwnWalkIn
import Derived.TacticsInMore
import Derived.LoopNIn
import Derived.LoopIn
import Derived.Maps.AppendAt
import Derived.Shelf.Small.Bits
import Derived.Shelf.Small.Wraps
import Derived.Shelf.Strconv.Itoa0
import Derived.Shelf.Sort.Plain
import Derived.Shelf.Slices.Turned
import Derived.Shelf.Slices.Reverse
import Derived.Ground.Names2Prog
import Derived.Shelf.Slices.Clone
import Derived.Shelf.Slices.SearchI
import Derived.Shelf.Slices.Cells
import Derived.Shelf.Slices.In.SortNone
import Derived.Shelf.Slices.Empties
import Derived.Sort.OwnSortedInts
set_option maxRecDepth 100000
set_option maxHeartbeats 4000000
namespace Go.Proofs.YtkpooenofjdpmaaGreat
open Go.Proofs.Tryz (prog)
open Go.RowKit
open Go.ChangeShapes Go.WideShapes Go.ChangeAt
theorem s8 (B T:Int) (e:Ent) (r:List Ent) (k:Nat):de B T (e::r) (B+((k+1:Nat):Int))=de (B+1) e.t r (B+1+(k:Int)):=by
 unfold de;rw [if_neg (by omega)];cases k with
 |zero=>
  rw [if_pos (by omega)];have:(B+((0+1:Nat):Int)-B-1).toNat=0:=by omega
  rw [this];rfl
 |succ k=>
  rw [if_neg (by omega)];have h1:(B+((k+1+1:Nat):Int)-B-1).toNat=k+1:=by omega
  have h2:(B+1+((k+1:Nat):Int)-(B+1)-1).toNat=k:=by omega
  rw [h1,h2];rfl
theorem s7 (B T:Int) (xs:List Ent):de B T xs (B+((0:Nat):Int))=T:=by unfold de;rw [if_pos (by omega)]
theorem tw (T:Int) (e:Ent) (r:List Ent):cV T (e::r)=cV e.t r:=by
 unfold cV;cases r with
 |nil=>rfl
 |cons f r=>rw [List.getLast?_cons_cons,List.getLast?_eq_getElem?,List.getElem?_eq_getElem (by simp)]
theorem pM:∀ (xs:List Ent) (k:Nat) (B T:Int),k≤xs.length→eD xs B T=true→inb 0 1099511627775 T=true→
 eD (xs.drop k) (B+k) (de B T xs (B+k))=true∧inb 0 1099511627775 (de B T xs (B+k))=true∧cV (de B T xs (B+k)) (xs.drop k)=cV T xs
 |xs,0,B,T,_,h,hT=>by
  rw [s7,List.drop_zero];exact ⟨by simpa using h,hT,rfl⟩
 |[],k+1,_,_,hk,_,_=>by simp at hk
 |e::r,k+1,B,T,hk,h,hT=>by
  simp only [eD,Bool.and_eq_true] at h;obtain ⟨h1,h2⟩:=h
  have he:inb 0 1099511627775 e.t=true:=by
   simp only [ga,Bool.and_eq_true,decide_eq_true_eq] at h1;have:=dw h1.1.2;exact fv ⟨by omega,this.2⟩
  have ih:=pM r k (B+1) e.t (by simpa using hk) h2 he;rw [s8,List.drop_succ_cons,tw];have e1:B+((k+1:Nat):Int)=B+1+(k:Int):=by omega
  rw [e1];exact ih
theorem yR (B T:Int) (A:Option Addr) (n c:Nat) (xs:List Ent) (w:World) (h:cC w (.slice A n c) xs) (hm:cj B T xs=true) :
 Rt prog 152 [.agg #[.int .i64 B,.int .i64 T,.slice A n c]] w fun v w'=>v=.tuple #[.int .i64 (dh B xs),.int .i64 (cV T xs),.int .i64 0]∧ag w w':=
 Rt.mono (Rt.of (r3 B T _ xs w h)) fun v w' h=>⟨by rw [h.1];unfold uN;rw [if_pos hm],h.2⟩
theorem yp (B T i:Int) (A:Option Addr) (n c:Nat) (xs:List Ent) (w:World) (h:cC w (.slice A n c) xs) (hm:cj B T xs=true) (hi:B≤i∧i≤dh B xs) :
 Rt prog 121 [.agg #[.int .i64 B,.int .i64 T,.slice A n c],.int .i64 i] w fun v w'=>v=.tuple #[.int .i64 (de B T xs i),.int .i64 0]∧ag w w':=
 Rt.mono (Rt.of (ru B T i _ xs w h)) fun v w' h=>⟨by rw [h.1];unfold uv;rw [if_pos hm,if_pos hi],h.2⟩
end Go.Proofs.YtkpooenofjdpmaaGreat
namespace Go.Proofs.YtkpooenofjdpmaaGreat
open Go.Proofs.Tryz (prog)
open Go.RowKit
def nq (B p:Int) (es:List Ent):List Ent:=if p<B then es.drop (min (B-p) es.length).toNat else es
def mgP (B p:Int):Int:=if p<B then B else p
def mgQ (B T p q:Int):Int:=if p<B then T else q
def gJ (B T:Int) (xs:List Ent):List Ent→List Ent
 |[]=>[]
 |e::r=>if e.i≤B+xs.length∧de B T xs e.i=e.t then gJ B T xs r else e::r
def uK (B:Int) (xs:List Ent):List Ent→Nat | []=>xs.length | e::_=>(e.i-1-B).toNat
def mg2 (B T:Int) (xs ys:List Ent):Int×Bool×List Ent:=
 if 512<uK B xs ys+ys.length then (6,false,[]) else if cj B T (xs.take (uK B xs ys)++ys)=true then (0,false,xs.take (uK B xs ys)++ys) else (1,false,[])
def lL (B T p q:Int) (xs es:List Ent):Int×Bool×List Ent:=
 if cj B T xs=true∧inb 0 1099511627776 p=true∧inb 0 1099511627775 q=true∧eD es p q=true then
  if B+xs.length<mgP B p∨¬ de B T xs (mgP B p)=mgQ B T p q then (0,true,xs) else mg2 B T xs (gJ B T xs (nq B p es))
 else (1,false,[])
def Bu (w w':World) (B T:Int) (r:Int×Bool×List Ent) (v:Value):Prop:=
 ∃ (X Y:Int) (A:Option Addr) (m c:Nat),v=.tuple #[.agg #[.int .i64 X,.int .i64 Y,.slice A m c],.bool r.2.1,.int .i64 r.1]∧
  (r.1≠0→X=0∧Y=0∧A=none∧m=0∧c=0)∧(r.1=0→X=B∧Y=T∧m=r.2.2.length∧w'.ownsRow w.heap.size 99 3 (.slice A m c) m (dT r.2.2))
theorem zK {w:World} {b o:Nat} {x y z:Value} (h0:w.cell? ⟨b,o,none⟩=some x) (h1:w.cell? ⟨b,o+1,none⟩=some y) (h2:w.cell? ⟨b,o+2,none⟩=some z):w.rangeAt b o [x,y,z]:=fun j v hv=>by
 match j,hv with
 |0,hv=>cases hv;exact h0
 |1,hv=>cases hv;exact h1
 |2,hv=>cases hv;exact h2
theorem wx {B p q:Int} {es:List Ent} (_:0≤B) (h:eD es p q=true) (hq:inb 0 1099511627775 q=true):∃ t,eD (nq B p es) (mgP B p) t=true:=by
 unfold nq mgP;split
 ·rename_i hp;by_cases hl:B-p≤es.length
  ·have:=(pM es (B-p).toNat p q (by omega) h hq).1;rw [show p+(((B-p).toNat:Nat):Int)=B by omega] at this;rw [show min (B-p) (es.length:Int)=B-p by omega];exact ⟨_,this⟩
  ·rw [show (min (B-p) (es.length:Int)).toNat=es.length by omega,List.drop_length];exact ⟨0,rfl⟩
 ·exact ⟨q,h⟩
theorem pL {e:Ent} {r:List Ent} {p t:Int} (h:eD (e::r) p t=true):e.i=p+1∧eD r (p+1) e.t=true:=by
 simp only [eD,ga,Bool.and_eq_true,decide_eq_true_eq] at h;exact ⟨h.1.1.1.1,h.2⟩
theorem rX {B T:Int} {xs:List Ent} {e:Ent} {r:List Ent} (h:¬ (e.i≤B+xs.length∧de B T xs e.i=e.t)):gJ B T xs (e::r)=e::r:=by
 unfold gJ;rw [if_neg h]
theorem vx {B T:Int} {xs:List Ent} {e:Ent} {r:List Ent} (h:e.i≤B+xs.length∧de B T xs e.i=e.t):gJ B T xs (e::r)=gJ B T xs r:=by
 rw [gJ,if_pos h]
def Aw (B T:Int) (xs ys:List Ent):Int:=if eD ys (dh B xs) (cV T xs)=true then (if xs.length+ys.length≤512 then 0 else 6) else 1
theorem mx:aQ prog 59=true:=by kernel_rfl
theorem iR:aQ prog 82=true:=by kernel_rfl
theorem lR:∀ (a0:Int) (a1:Int) (a2:Option Addr) (a3 a4:Nat),prog.built 24 [(0,.int .i64 a0),(1,.int .i64 a1),(2,.slice a2 a3 a4)]=some #[.int .i64 a0,.int .i64 a1,.slice a2 a3 a4]:=by intros;kernel_rfl
theorem tK (B T:Int) (A:Option Addr) (n c:Nat) (xs:List Ent) (w:World) (h:cC w (.slice A n c) xs) (hl:xs.length≤400000000000) :
 Rt prog 27 [.agg #[.int .i64 B,.int .i64 T,.slice A n c]] w fun v w'=>∃ A' c',v=.agg #[.int .i64 B,.int .i64 T,.slice A' xs.length c']∧w'.ownsRow w.heap.size 99 3 (.slice A' xs.length c') xs.length (dT xs)∧cC w' (.slice A' xs.length c') xs∧ag w w':=
 Calls.mono (sf B T _ xs w h hl) fun e w' ⟨v',he,ho,hF⟩=>⟨_,he,by obtain ⟨A',c',rfl⟩:=fS ho;exact ⟨A',c',rfl,ho,cC.of_own ho rfl,hF⟩⟩
theorem sg (A:Option Addr) (n c:Nat) (xs:List Ent) (w:World) (h:cC w (.slice A n c) xs) (hl:xs.length≤400000000000) :
 Rt prog 59 [.slice A n c] w fun v w'=>∃ A' c',v=.slice A' xs.length c'∧w'.ownsRow w.heap.size 99 3 (.slice A' xs.length c') xs.length (dT xs)∧cC w' (.slice A' xs.length c') xs∧ag w w':=
 Calls.mono (kn _ xs w h hl) fun e w' ⟨v',he,ho,hF⟩=>⟨v',he,by obtain ⟨A',c',rfl⟩:=fS ho;exact ⟨A',c',rfl,ho,cC.of_own ho rfl,hF⟩⟩
theorem cC.lenR {w:World} {A:Option Addr} {n c:Nat} {xs:List Ent} (h:cC w (.slice A n c) xs):n=xs.length∧xs.length≤c:=by
 obtain ⟨A',c',hv,h1,_⟩:=h;simp only [Value.slice.injEq] at hv;obtain ⟨_,rfl,rfl⟩:=hv;exact ⟨rfl,h1⟩
theorem oC (B T i:Int) (A:Option Addr) (n c:Nat) (xs:List Ent) (w:World) (h:cC w (.slice A n c) xs) (hm:cj B T xs=true) (hi:B≤i∧i≤B+xs.length) :
 Rt prog 82 [.agg #[.int .i64 B,.int .i64 T,.slice A n c],.int .i64 i] w fun v w'=>v=.tuple #[.int .i64 (de B T xs i),.bool true]∧ag w w':=
 Rt.mono (Rt.of (nk B T i _ xs w h hm)) fun v w' h=>⟨by rw [h.1];unfold lY;rw [if_pos ⟨hi.1,by rw [(eU hm).1];exact hi.2⟩],h.2⟩
def Bb (B T:Int) (xs:List Ent) (i t:Int):Bool:=decide (cV T xs<t∨(t=cV T xs∧dh B xs≤i))
theorem pt (B T i:Int) (A:Option Addr) (c:Nat) (xs:List Ent) (w:World) (h:cC w (.slice A xs.length c) xs) (hm:cj B T xs=true) (hi:B≤i∧i≤B+xs.length) :
 Rt prog 80 [.agg #[.int .i64 B,.int .i64 T,.slice A xs.length c],.int .i64 i] w (fun v w'=>∃ A' k' c',v=.agg #[.int .i64 i,.int .i64 (de B T xs i),.slice A' k' c']∧w'.ownsRow w.heap.size 99 3 (.slice A' k' c') k' (dT (xs.drop (i-B).toNat))∧ag w w'):=by
 obtain ⟨hl,hB0,hB1,hx⟩:=eU hm;have hcap:=h.lenR;refine enter (n:=24) Tryz.func80 rfl rfl rfl (ao (ah (bZ (v:=.agg _) rfl ?_)));intro b2 w1 E2 hb2 hk2;have hl2:=hk2.lt;refine bS gO ?_;intro b4 w2 E4 hb4 hk4;replace hk2:=hk2.from_ E4;have hg4:w.heap.size≤b4:=by rw [hb4];exact E2.size
 refine an (ai (ao (ah (ab (aH (cs:=[_,_,_]) bQ bh rfl (by first | (first | exact (hk2.from_ ag.rfl_).whole | exact (hk2.from_ ag.rfl_).rd 0 rfl | exact (hk2.from_ ag.rfl_).rd 1 rfl | exact (hk2.from_ ag.rfl_).rd 2 rfl))) ?_))));refine mvi rfl (aC iR (oC B T i A _ c xs _ (h.from_ ((ag.rfl_.next E2).next E4)) hm hi) ?_);rintro v10 w3 ⟨rfl,E10⟩;refine mvt rfl (ab (a_ rfl rfl) (ab (a_ rfl rfl) (asi rfl (asb rfl (an (ai (ao (ah (mvi rfl (mvi rfl (ab (aa di rfl) ?_)))))))))));refine ab (ar bR rfl (by first | (first | exact (hk2.from_ (ag.rfl_.next E10)).whole | exact (hk2.from_ (ag.rfl_.next E10)).rd 0 rfl | exact (hk2.from_ (ag.rfl_.next E10)).rd 1 rfl | exact (hk2.from_ (ag.rfl_.next E10)).rd 2 rfl))) ?_;refine mvi rfl (ab (aa dE rfl) (ab (ar ak rfl (by first | (first | exact (hk2.from_ (ag.rfl_.next E10)).whole | exact (hk2.from_ (ag.rfl_.next E10)).rd 0 rfl | exact (hk2.from_ (ag.rfl_.next E10)).rd 1 rfl | exact (hk2.from_ (ag.rfl_.next E10)).rd 2 rfl))) ?_));refine ab (eJ rfl rfl (by omega)) (ab (pN (l:=(i-B).toNat) dP rfl (.inr ⟨_,_,_,rfl,rfl,(by omega)⟩) (.inl ⟨rfl,rfl⟩) (by omega) (by omega)) ?_);have hl4:=(hk4.from_ (ag.rfl_.next E10)).lt;refine aC mx (sg _ _ _ _ _ ((h.from_ (((ag.rfl_.next E2).next E4).next E10)).restA (k:=(i-B).toNat) (by omega)) (by rw [List.length_drop];omega)) ?_;rintro v22 w4 ⟨A22,c22,rfl,ho22,he22,E22⟩;refine ab (cl (l:=[(0,.tmp 13),(1,.tmp 14),(2,.tmp 22)]) (lR _ _ _ _ _)) (cg (vs:=[_,_,_]) bh rfl rfl (by simp [Value.oneCell']) (hk4.from_ ((ag.rfl_.next E10).next E22)) rfl ?_);intro w5 O2 P2;refine an (ai (aE (ly rfl (dI (cs:=[_,_,_]) bQ bh rfl (by exact P2.whole)) ?_)));exact ⟨_,_,_,rfl,fK (rR ho22 O2 hl4) (by omega),(((((ag.rfl_.next E2).next E4).next E10).next E22).only O2 (hg4))⟩
def kG (Ex:List Nat) (RL:List (Nat×(Value→World→Prop))) (t:Nat):Value→World→Prop:=bif Ex.elem t then fun _ _=>True else gR RL t
theorem tu {Ex:List Nat} {l:List (Nat×(Value→World→Prop))} (h:qk l):∀ t v w1 w2,ag w1 w2→kG Ex l t v w1→kG Ex l t v w2:=by
 intro t v w1 w2 hF h1;unfold kG at h1 ⊢;cases hb:Ex.elem t with
 |true=>trivial
 |false=>rw [hb] at h1;exact g_ h t v w1 w2 hF h1
theorem xy {Ex:List Nat} {l:List (Nat×(Value→World→Prop))}:∀ t v w,gR l t v w→kG Ex l t v w:=by
 intro t v w h;unfold kG;cases hb:Ex.elem t with
 |true=>trivial
 |false=>exact h
def MuR (Ex:List Nat) (d:Nat) (w1 w2:World):List (Nat×(Value→World→Prop))→Prop
 |[]=>True
 |(k,R)::r=>((Ex.elem k||Nat.beq k d)=true∨∀ u,R u w1→R u w2)∧MuR Ex d w1 w2 r
theorem oN {Ex:List Nat} {d:Nat} {w1 w2:World}:∀ {RL:List (Nat×(Value→World→Prop))},MuR Ex d w1 w2 RL→∀ t u,t≠d→gR RL t u w1→kG Ex RL t u w2
 |[],_,t,u,_,_=>by unfold kG;cases Ex.elem t <;> trivial
 |(k,R)::r,⟨h1,h2⟩,t,u,hd,h=>by
  have e:gR ((k,R)::r) t=bif Nat.beq t k then R else gR r t:=rfl
  have ih:=oN h2 t u hd;unfold kG at ih ⊢;rw [e] at h ⊢;cases hx:Ex.elem t with
  |true=>trivial
  |false=>
   rw [hx] at ih;simp only [cond_false] at ih ⊢;cases hb:Nat.beq t k with
   |true=>
    have hk:t=k:=Nat.eq_of_beq_eq_true hb;subst hk;rw [hb] at h;rcases h1 with h1 | h1
    ·rw [hx,Bool.false_or] at h1;exact absurd (Nat.eq_of_beq_eq_true h1) hd
    ·exact h1 u h
   |false=>rw [hb] at h;exact ih h
def y8 (l:List Oper):Nat→Oper→Nat→Bool
 |0,o,j=>iO o j
 |n+1,o,j=>iO o j||o.after.toList.any fun e=>Region.binds .any e&&match l[e.on]? with | some o'=>y8 l n o' j | none=>false
def mS (l:List Oper) (o:Oper) (j:Nat):Bool:=y8 l 3 o j
def il (l:List Oper) (listed:Array Bool):Prop:=∀ i o,l[i]? =some o→listed.getD i false=true→∀ e∈o.after,Region.binds .any e=true→listed.getD e.on false=true
theorem fM {l:List Oper} {listed:Array Bool} (hcl:il l listed) {o:Oper} {j:Nat} (hall:∀ e∈o.after,Region.binds .any e=true→listed.getD e.on false=true) (h:mS l o j=true):listed.getD j false=true:=by
 have direct:∀ (x:Oper),(∀ e∈x.after,Region.binds .any e=true→listed.getD e.on false=true)→iO x j=true→listed.getD j false=true:=by
  intro x hx he;obtain ⟨e,he,he2⟩:=List.any_eq_true.1 he;simp only [Bool.and_eq_true,beq_iff_eq] at he2;have:=hx e (by simpa using he) he2.1
  rwa [he2.2] at this
 have all:∀ (n:Nat) (x:Oper),(∀ e∈x.after,Region.binds .any e=true→listed.getD e.on false=true)→y8 l n x j=true→listed.getD j false=true:=by
  intro n
  induction n with
  |zero=>intro x hx h;exact direct x hx h
  |succ n ih=>
   intro x hx h;unfold y8 at h;rcases Bool.or_eq_true_iff.1 h with h | h
   ·exact direct x hx h
   ·obtain ⟨e,he,he2⟩:=List.any_eq_true.1 h;simp only [Bool.and_eq_true] at he2;have h1:=hx e (by simpa using he) he2.1;cases ho:l[e.on]? with
    |none=>rw [ho] at he2;cases he2.2
    |some o'=>
     rw [ho] at he2;exact ih o' (hcl e.on o' ho h1) he2.2
 exact all 3 o hall h
theorem ka {l:List Oper} {listed:Array Bool} (hcl:il l listed) {i:Nat} {o:Oper} (ho:l[i]? =some o) (hall:∀ e∈o.after,Region.binds .any e=true→listed.getD e.on false=true):il l (listed.setIfInBounds i true):=by
 have up:∀ k,listed.getD k false=true→(listed.setIfInBounds i true).getD k false=true:=by
  intro k hk;by_cases e:i=k
  ·subst e
   have:i<listed.size:=by
    rcases Nat.lt_or_ge i listed.size with h | h
    ·exact h
    ·simp [Array.getD,show ¬ i<listed.size by omega] at hk
   simp [this]
  ·rw [getD_set_ne false e];exact hk
 intro k x hx hk e he hb;by_cases h:i=k
 ·subst h;rw [ho] at hx;cases hx;exact up _ (hall e he hb)
 ·rw [getD_set_ne false h] at hk;exact up _ (hcl k x hx hk e he hb)
theorem nw (l:List Oper) (n:Nat):il l (Array.replicate n false):=by
 intro i o _ h;simp [Array.getD] at h
def yI (l:List Oper) (K i t:Nat):Bool:=(List.range K).any fun j=>match l[j]? with | some oj=>(oj.dst==some t)&&mS l oj i | none=>false
def f_ (l:List Oper) (K i:Nat) (o:Oper):List Nat:=(fV l K).filter fun t=>(o.looksAt l.toArray).elem t&&!yI l K i t
def nd (P:Program) (ops:Array Oper) (n:Fr) (L:List (Nat×Value)) (I2:World→Prop) (R1 R2:Nat→Value→World→Prop) (l0:List Oper) (K:Nat) (mu:Nat):Nat→List Oper→Prop
 |_,[]=>True
 |i,o::r=>(Nat.beq i mu=false→∀ w',I2 w'→ju R2 w' (f_ l0 K i o) fun M=>aw P ops n (M++L) o w' (R1 (o.dst.getD 0)))∧nd P ops n L I2 R1 R2 l0 K mu (i+1) r
theorem pW {P:Program} {ops:Array Oper} {n:Fr} {L:List (Nat×Value)} {I2:World→Prop} {R1 R2:Nat→Value→World→Prop} {l0:List Oper} {K mu:Nat}:∀ {l:List Oper} {k:Nat},nd P ops n L I2 R1 R2 l0 K mu k l→∀ (i:Nat) (o:Oper),l[i]? =some o→k+i≠mu→
 ∀ w',I2 w'→ju R2 w' (f_ l0 K (k+i) o) fun M=>aw P ops n (M++L) o w' (R1 (o.dst.getD 0))
 |[],_,_,i,o,h,_=>by simp at h
 |x::r,k,⟨h1,h2⟩,0,o,h,hne=>by
  simp only [List.getElem?_cons_zero,Option.some.injEq] at h;subst h;rw [Nat.add_zero] at hne ⊢;refine h1 ?_;rw [←Bool.not_eq_true];intro hb;exact hne (Nat.eq_of_beq_eq_true hb)
 |x::r,k,⟨h1,h2⟩,i+1,o,h,hne=>by
  have:=pW h2 i o (by simpa using h) (by omega)
  rwa [show k+1+i=k+(i+1) by omega] at this
theorem oJ {P:Program} {ops:Array Oper} {n:Fr} {L:List (Nat×Value)} {I2:World→Prop} {R1 R2:Nat→Value→World→Prop} {l0:List Oper} {K mu:Nat} {l:List Oper} (h:nd P ops n L I2 R1 R2 l0 K mu 0 l) (i:Nat) (o:Oper) (ho:l[i]? =some o) (hne:i≠mu)
 (w':World) (hw:I2 w'):ju R2 w' (f_ l0 K i o) fun M=>aw P ops n (M++L) o w' (R1 (o.dst.getD 0)):=by
 have:=pW h i o ho (by rw [Nat.zero_add];exact hne) w' hw
 rwa [Nat.zero_add] at this
def vP (P:Program) (ops:Array Oper) (n:Fr) (L:List (Nat×Value)) (o:Oper) (w:World) (post:Value→World→Prop):Prop:=
 Region.wanted o (yielded ops (mkT n.n L))=true∧((∃ v w',(execOp (ev n L) o).run P w=.ok (.value v) w'∧post v w')∨(∃ f l,(execOp (ev n L) o).run P w=.ok (.enter f (List.toArray l)) w∧Rt P f l w post))
def zo (P:Program) (ops:Array Oper) (n:Fr) (L:List (Nat×Value)) (I1 I2:World→Prop) (R1 R2:Nat→Value→World→Prop) (l0:List Oper) (K mu:Nat):Option Oper→Prop
 |none=>True
 |some o=>∀ w',I1 w'→ju R1 w' (f_ l0 K mu o) fun M=>vP P ops n (M++L) o w' fun v w''=>I2 w''∧R2 (o.dst.getD 0) v w''∧∀ t u,t≠o.dst.getD 0→R1 t u w'→R2 t u w''
def eG (l:List Oper) (K j:Nat):Bool:=(List.range l.length).any fun i=>decide (K≤i)&&(match l[i]? with | some o=> !mS l o j | none=>false)
def zq (l:List Oper) (K:Nat):Bool:=
 (List.range K).all fun j=> !eG l K j||match l[j]? with
  |none=>false
  |some o=>oQ o.op&&o.guard.isNone&&o.dst.isSome&&(List.range l.length).all fun i=>i==j||match l[i]? with
   |none=>false
   |some y=>(if i<K then !eG l K i else mS l y j)||o.apart l.toArray y
def lA (l:List Oper) (K:Nat):Bool:=
 let ops:=l.toArray
 let dst (i:Nat):Option Nat:=(l[i]?).bind (·.dst)
 (decide (K≤l.length)&&
 (List.range l.length).all fun i=>match l[i]? with
  |none=>false
  |some o=>
   (o.after.toList.all fun e=> !Region.binds .any e||decide (e.on<i))&&!dO o.op&&
   (if i<K then
    (match o.dst with
     |none=>false
     |some d=>(List.range K).all (fun j=>j==i||dst j != some d)&&!((o.looksAt ops).elem d))&&
    (List.range K).all (fun j=>match dst j with
     |none=>false
     |some d=> !(o.looksAt ops).elem d||yI l K i d||(decide (j<i)&&mS l o j))
    else (List.range i).all (fun j=>mS l o j||decide (j<K))))&&zq l K
section late
variable {P:Program} {Q:Exit→Act→World→Prop} {n:Fr} {L:List (Nat×Value)} {w:World} {l:List Oper} {K:Nat} {R:Nat→Value→World→Prop}
theorem jd (hc:zq l K=true) {j:Nat} {o:Oper} (hj:j<K) (ho:l[j]? =some o) (hl:eG l K j=true) :
 oQ o.op=true∧o.guard=none∧∀ i y,l[i]? =some y→i≠j→((i<K∧eG l K i=true)∨(K≤i∧mS l y j=false))→o.apart l.toArray y=true:=by
 have h:=List.all_eq_true.1 hc j (List.mem_range.2 hj);rw [hl,ho] at h;simp only [Bool.not_true,Bool.false_or,Bool.and_eq_true] at h;refine ⟨h.1.1.1,by simpa using h.1.1.2,fun i y hi hne hcase=>?_⟩;have h2:=List.all_eq_true.1 h.2 i (List.mem_range.2 (List.getElem?_eq_some_iff.1 hi).1);rw [hi] at h2;simp only [beq_iff_eq,hne,Bool.or_eq_true,false_or] at h2;rcases hcase with ⟨h3,h4⟩ | ⟨h3,h4⟩
 ·simp [h3,h4] at h2;exact h2
 ·simp [show ¬ i<K by omega,h4] at h2;exact h2
theorem lz {i j:Nat} {o:Oper} (hl:eG l K j=false) (ho:l[i]? =some o) (hi:K≤i):mS l o j=true:=by
 unfold eG at hl;have:=List.any_eq_false.1 hl i (List.mem_range.2 (List.getElem?_eq_some_iff.1 ho).1);rw [ho] at this;simpa [hi] using this
theorem oi (hQ:PQ Q) (hc:lA l K=true) {f:Nat→Value}:∀ (m k:Nat) (listed:Array Bool) (U:List Nat) (a:Act) (w':World),il l listed→listed.toList.count false=m→listed.size=l.length→K≤k→k≤l.length→
 (∀ j,K≤j→j<l.length→listed.getD j true=decide (j<k))→U.Nodup→(∀ j,j<K→(listed.getD j true=false↔j∈U))→(∀ j∈U,j<K∧eG l K j=true∧∃ o,l[j]? =some o∧Yields P l.toArray o (f j) a)→
 wpList P l.toArray Q (l.drop k) (iM l f U a) w'→wpAny P .any l.toArray Q m listed a w':=by
 have hc1:=(Bool.and_eq_true_iff.1 hc).1;have hlate:=(Bool.and_eq_true_iff.1 hc).2;have hKl:K≤l.length:=dT_ (Bool.and_eq_true_iff.1 hc1).1;have hck:=(List.all_eq_true.1 (Bool.and_eq_true_iff.1 hc1).2);intro m
 induction m with
 |zero=>
  intro k listed U a w' hcl hcount hs hK hkl htail hn hU hUl h
  have hall:∀ j,j<l.length→listed.getD j true=true:=by
   intro j hj;have hm:listed[j]'(by omega)∈listed.toList:=by simp
   cases hb:listed[j]'(by omega) with
   |true=>simp [Array.getD,show j<listed.size by omega,hb]
   |false=>
    rw [hb] at hm;exact absurd hcount (Nat.pos_iff_ne_zero.1 (List.count_pos_iff.2 hm))
  have hU0:U=[]:=by
   rw [List.eq_nil_iff_forall_not_mem];intro j hj;have h1:=(hU j (hUl j hj).1).2 hj;rw [hall j (by have:=(hUl j hj).1;omega)] at h1;cases h1
  have hke:k=l.length:=by
   rcases Nat.lt_or_ge k l.length with hlt | hge
   ·have h1:=htail k hK hlt;rw [hall k hlt] at h1;simp at h1
   ·omega
  subst hU0 hke;refine ⟨?_,by simpa [iM,wpList] using h⟩;rw [List.eq_nil_iff_forall_not_mem];intro j hj;obtain ⟨h0,o,ho,_⟩:=mem_ready.1 hj;rw [List.getElem?_toArray] at ho;rw [hall j (List.getElem?_eq_some_iff.1 ho).1] at h0;cases h0
 |succ m ih=>
  intro k listed U a w' hcl hcount hs hK hkl htail hn hU hUl h
  have hex:∃ i,i<l.length∧listed.getD i true=false:=by
   obtain ⟨i,hi,hb⟩:=List.mem_iff_getElem.1 (List.count_pos_iff.1 (by rw [hcount];omega:0<listed.toList.count false));have hi':i<listed.size:=by simpa using hi
   exact ⟨i,by omega,by simpa [Array.getD,hi'] using hb⟩
  obtain ⟨i0,hi0,hmin⟩:=exists_least hex
  have hready:i0∈Region.ready .any l.toArray listed:=by
   refine mem_ready.2 ⟨hi0.2,l[i0]'hi0.1,by rw [List.getElem?_toArray,List.getElem?_eq_getElem hi0.1],fun e he hb=>?_⟩;have hx:=hck i0 (List.mem_range.2 hi0.1);rw [List.getElem?_eq_getElem hi0.1] at hx;simp only [Bool.and_eq_true] at hx;have he2:=List.all_eq_true.1 hx.1.1 e (by simpa using he);rw [hb] at he2;simp at he2;rw [←bM (by omega)];cases hb2:listed.getD e.on true with
   |true=>rfl
   |false=>exact absurd (hmin e.on ⟨by omega,hb2⟩) (by omega)
  refine ⟨fun h0=>(by rw [h0] at hready;cases hready),fun i hi=>?_⟩;obtain ⟨h0,o,ho,hall⟩:=mem_ready.1 hi;rw [List.getElem?_toArray] at ho;have hil:i<l.length:=(List.getElem?_eq_some_iff.1 ho).1;have hx:=hck i (List.mem_range.2 hil);rw [ho] at hx;simp only [Bool.and_eq_true] at hx;have hsel:dO o.op=false:=by simpa using hx.1.2
  have hcnt:(listed.setIfInBounds i true).toList.count false=m:=by
   have hil':i<listed.size:=by omega
   have hfalse:listed.toList[i]? =some false:=by
    rw [Array.getElem?_toList,Array.getElem?_eq_getElem hil'];simp [Array.getD,hil'] at h0;rw [h0]
   rw [Array.toList_setIfInBounds];have:=eW (l:=listed.toList) (i:=i) hfalse;omega
  by_cases hiK:i<K
  ·
   have hiU:=(hU i hiK).1 h0;obtain ⟨_,hil8,o',ho',hy⟩:=hUl i hiU;rw [ho] at ho';cases ho';obtain ⟨_,_,hap⟩:=jd hlate hiK ho hil8;refine Yields.wpOp (by rw [List.getElem?_toArray];exact ho) hy ?_;have he:a.put o.dst (f i)=a.put ((l[i]?).bind (·.dst)) (f i):=by rw [ho];rfl
   refine ih k _ (U.erase i) _ w' (ka hcl ho hall) hcnt (by simpa using hs) hK hkl (fun j h1 h2=>by rw [getD_set_ne true (by omega)];exact htail j h1 h2) (hn.erase i) (fun j hj=>?_) (fun j hj=>?_) ?_
   ·by_cases e:i=j
    ·subst e;simp [hs,hil,hn.not_mem_erase]
    ·rw [getD_set_ne true e,hU j hj];exact (List.mem_erase_of_ne (Ne.symm e)).symm
   ·have hjU:=List.mem_of_mem_erase hj;obtain ⟨h1,h2,oj,h3,h4⟩:=hUl j hjU;have hne:i≠j:=fun e=>by subst e;exact (hn.not_mem_erase) hj
    obtain ⟨_,_,hapj⟩:=jd hlate h1 h3 h2;have hxj:=hck j (List.mem_range.2 (by omega));rw [h3] at hxj;simp only [Bool.and_eq_true] at hxj;exact ⟨h1,h2,oj,h3,(nX (by simpa using hxj.1.2) (hapj i o ho hne (.inl ⟨hiK,hil8⟩))).2 h4⟩
   ·rw [he,oG U a hiU hn (fun j hj hne d hd=>?_)]
    ·exact h
    ·obtain ⟨h1,h2,oj,h3,h4⟩:=hUl j hj;have h5:=(Oper.apart_spec (hap j oj h3 hne (.inl ⟨h1,h2⟩))).2.1 d (by rw [ho] at hd;exact hd);rw [h3];exact h5
  ·
   have hik:i=k:=by
    rw [htail i (by omega) hil] at h0;have h0':k≤i:=by simpa using h0
    rcases Nat.eq_or_lt_of_le h0' with e | hlt
    ·exact e.symm
    ·exfalso;have h3:=hx.2;rw [if_neg hiK] at h3;have h4:=List.all_eq_true.1 h3 k (List.mem_range.2 hlt);simp only [show ¬ k<K by omega,decide_false,Bool.or_false] at h4;have h5:=fM hcl hall h4;rw [←bM (by omega),htail k hK (by omega)] at h5;simp at h5
   subst hik
   have hdrop:l.drop i=o::l.drop (i+1):=by
    rw [List.drop_eq_getElem_cons hil];rw [List.getElem?_eq_getElem hil] at ho;cases ho;rfl
   rw [hdrop] at h
   have hk2:wpOp P l.toArray Q i (wpList P l.toArray Q (l.drop (i+1))) (iM l f U a) w':=by
    unfold wpOp;rw [List.getElem?_toArray,ho];exact h
   have hne:∀ j∈U,j≠i:=fun j hj e=>by have:=(hUl j hj).1;omega
   have hk3:=pD hQ ho hsel U _ a hn (fun j hj=>by
    obtain ⟨h1,h2,oj,h3,h4⟩:=hUl j hj;obtain ⟨_,_,hapj⟩:=jd hlate h1 h3 h2;have hxj:=hck j (List.mem_range.2 (by omega));rw [h3] at hxj;simp only [Bool.and_eq_true] at hxj;refine ⟨oj,h3,by simpa using hxj.1.2,hapj i o ho (Ne.symm (hne j hj)) (.inr ⟨by omega,?_⟩),h4,fun j' hj' hne'=>?_⟩
    ·cases hE:mS l o j with
     |false=>rfl
     |true=>
      have h5:=fM hcl hall hE;rw [←bM (by omega),(hU j h1).2 hj] at h5;cases h5
    ·obtain ⟨h1',h2',oj',h3',_⟩:=hUl j' hj';exact ⟨oj',h3',hapj j' oj' h3' hne' (.inl ⟨h1',h2'⟩)⟩) hk2
   refine wpOp_mono (fun a' w'' hh=>?_) hk3;refine ih (i+1) _ U a' w'' (ka hcl ho hall) hcnt (by simpa using hs) (by omega) (by omega) (fun j h1 h2=>?_) hn (fun j hj=>?_) (fun j hj=>?_) hh.2
   ·by_cases e:i=j
    ·subst e;simp [hs,hil]
    ·rw [getD_set_ne true e,htail j h1 h2];have:(j<i+1)↔(j<i):=by omega
     simp [this]
   ·rw [getD_set_ne true (by omega)];exact hU j hj
   ·obtain ⟨h1,h2,oj,h3,_⟩:=hUl j hj;exact ⟨h1,h2,oj,h3,hh.1 j hj oj h3⟩
end late
section late
variable {P:Program} {Q:Exit→Act→World→Prop} {n:Fr} {L:List (Nat×Value)} {w:World} {l:List Oper} {K mu:Nat} {I1 I2:World→Prop} {R1 R:Nat→Value→World→Prop}
theorem Aq (hc:lA l K=true) {j j':Nat} {oj oj':Oper} {t:Nat} (hj:j<K) (hj':j'<K) (hoj:l[j]? =some oj) (hoj':l[j']? =some oj') (hd:oj.dst=some t) (hd':oj'.dst=some t):j=j':=by
 have hc1:=(Bool.and_eq_true_iff.1 hc).1;have hck:=(List.all_eq_true.1 (Bool.and_eq_true_iff.1 hc1).2);have hx:=hck j' (List.mem_range.2 (List.getElem?_eq_some_iff.1 hoj').1);rw [hoj'] at hx;simp only [Bool.and_eq_true] at hx;have h3:=hx.2;rw [if_pos hj'] at h3;simp only [Bool.and_eq_true] at h3;have h3a:=h3.1;rw [hd'] at h3a;simp only [Bool.and_eq_true] at h3a;have h5:=List.all_eq_true.1 h3a.1 j (List.mem_range.2 hj);rw [hoj] at h5;simpa [hd] using h5
theorem vv {i t:Nat} (h:yI l K i t=true):∃ j oj,j<K∧l[j]? =some oj∧oj.dst=some t∧mS l oj i=true:=by
 obtain ⟨j,hj,h2⟩:=List.any_eq_true.1 h;cases hoj:l[j]? with
 |none=>rw [hoj] at h2;cases h2
 |some oj=>
  rw [hoj] at h2;simp only [Bool.and_eq_true,beq_iff_eq] at h2;exact ⟨j,oj,List.mem_range.1 hj,hoj,h2.1,h2.2⟩
theorem jx (hc:lA l K=true) {i t:Nat} {o:Oper} (hi:i<K) (ho:l[i]? =some o) (ht:t∈f_ l K i o):(o.looksAt l.toArray).elem t=true∧∃ j oj,j<K∧l[j]? =some oj∧oj.dst=some t∧j<i∧mS l o j=true:=by
 obtain ⟨ht1,ht2⟩:=List.mem_filter.1 ht;simp only [Bool.and_eq_true,Bool.not_eq_true'] at ht2;obtain ⟨oj,hoj,hdj⟩:=List.mem_filterMap.1 ht1;obtain ⟨j,hj⟩:=List.mem_iff_getElem?.1 hoj;rw [List.getElem?_take] at hj;split at hj
 ·rename_i hjK;refine ⟨ht2.1,j,oj,hjK,hj,hdj,?_⟩;have hc1:=(Bool.and_eq_true_iff.1 hc).1;have hck:=(List.all_eq_true.1 (Bool.and_eq_true_iff.1 hc1).2);have hx:=hck i (List.mem_range.2 (List.getElem?_eq_some_iff.1 ho).1);rw [ho] at hx;simp only [Bool.and_eq_true] at hx;have h3:=hx.2;rw [if_pos hi] at h3;simp only [Bool.and_eq_true] at h3;have h5:=List.all_eq_true.1 h3.2 j (List.mem_range.2 hjK);rw [hj] at h5;have h6:t∈o.looksAt l.toArray:=by simpa using ht2.1
  simpa [hdj,h6,ht2.2] using h5
 ·cases hj
theorem qA (hc:lA l K=true) {listed:Array Bool} (hcl:il l listed) (hs:listed.size=l.length) {i:Nat} {o:Oper} (_ho:l[i]? =some o) (hil:i<l.length) (h0:listed.getD i true=false) {L':List (Nat×Value)}
 (hfr:∀ t,(∀ i o,i<K→l[i]? =some o→listed.getD i true=true→o.dst≠some t)→bu L' t=bu L t):∀ t,(o.looksAt l.toArray).elem t=true→bu ((f_ l K i o).map (fun d=>(d,bu L' d))++L) t=bu L' t:=by
 intro t ht;rw [jP];split
 ·rfl
 ·rename_i hne;refine (hfr t fun j oj hj hoj hlj hd=>?_).symm;have hmem:t∈fV l K:=List.mem_filterMap.2 ⟨oj,List.mem_iff_getElem?.2 ⟨j,by rw [List.getElem?_take,if_pos hj];exact hoj⟩,hd⟩;cases hb:yI l K i t with
  |false=>
   apply hne;simp only [List.elem_eq_mem,decide_eq_true_eq];exact List.mem_filter.2 ⟨hmem,by rw [ht,hb];rfl⟩
  |true=>
   obtain ⟨j',oj',hj',hoj',hd',hdep⟩:=vv hb;have hjj:=Aq hc hj hj' hoj hoj' hd hd';subst hjj;rw [hoj] at hoj';cases hoj';have hjl:j<l.length:=(List.getElem?_eq_some_iff.1 hoj).1;have h1:=fM hcl (hcl j oj hoj (by rw [←bM (by omega)];exact hlj)) hdep;rw [←bM (by omega),h0] at h1;cases h1
theorem p5 (hQ:PQ Q) (hc:lA l K=true) (hop:nd P l.toArray n L I2 R1 R l K mu 0 (l.take K)) (h12:∀ t v w,R1 t v w→R t v w) (hmuL:mu<K→eG l K mu=false)
 (hend:∀ w',I2 w'→ju R w' (fV l K) fun M=>St P l.toArray Q (l.drop K) n (M++L) w') (m:Nat) (listed:Array Bool) (L':List (Nat×Value)) (w':World) (hcl:il l listed) (hcount:listed.toList.count false=m) (hs:listed.size=l.length)
 (htail:∀ j,K≤j→j<l.length→listed.getD j true=false) (hF:I2 w')
 (hfr:∀ t,(∀ i o,i<K→l[i]? =some o→listed.getD i true=true→o.dst≠some t)→bu L' t=bu L t)
 (hR:∀ i o d,i<K→l[i]? =some o→listed.getD i true=true→o.dst=some d→R d (bu L' d) w') (hpre:∀ i,i<K→listed.getD i true=false→eG l K i=true):wpAny P .any l.toArray Q m listed (mkA n L') w':=by
 have hc1:=(Bool.and_eq_true_iff.1 hc).1;have hlate:=(Bool.and_eq_true_iff.1 hc).2;have hKl:K≤l.length:=dT_ (Bool.and_eq_true_iff.1 hc1).1;have hck:=(List.all_eq_true.1 (Bool.and_eq_true_iff.1 hc1).2)
 have hhead:∀ i,i<K→∃ o d,l[i]? =some o∧o.dst=some d∧dO o.op=false∧(∀ j oj,j<K→j≠i→l[j]? =some oj→oj.dst≠some d):=by
  intro i hi;have hil:i<l.length:=by omega
  have hx:=hck i (List.mem_range.2 hil);rw [List.getElem?_eq_getElem hil] at hx;simp only [Bool.and_eq_true] at hx;have h3:=hx.2;rw [if_pos hi] at h3;simp only [Bool.and_eq_true] at h3;obtain ⟨h3a,h3b⟩:=h3;cases hod:(l[i]).dst with
  |none=>rw [hod] at h3a;cases h3a
  |some d=>
   rw [hod] at h3a;simp only [Bool.and_eq_true] at h3a;refine ⟨l[i],d,List.getElem?_eq_getElem hil,hod,by simpa using hx.1.2,fun j oj hj hne hoj e=>?_⟩;have h5:=List.all_eq_true.1 h3a.1 j (List.mem_range.2 hj);rw [hoj] at h5;simp [hne,e] at h5
 have hval:∀ i,i<K→listed.getD i true=false→∃ v,∀ o d,l[i]? =some o→o.dst=some d→Yields P l.toArray o v (mkA n L')∧R d v w':=by
  intro i hi hf;have hil8:=hpre i hi hf;obtain ⟨o,d,ho,hd,hsel,_⟩:=hhead i hi;obtain ⟨hk,hg,hap⟩:=jd hlate hi ho hil8
  have hfact:∀ t∈f_ l K i o,R t (bu L' t) w':=by
   intro t ht;obtain ⟨ht2,j,oj,hjK,hj,hdj,hji,_⟩:=jx hc hi ho ht;refine hR j oj t hjK hj ?_ hdj;cases hb:listed.getD j true with
   |true=>rfl
   |false=>
    have h6:=hpre j hjK hb;have h7:=(Oper.apart_spec (hap j oj hj (by omega) (.inl ⟨hjK,h6⟩))).2.2 t hdj;exact absurd (by simpa using ht2) h7
  have hlooks:=qA (L:=L) hc hcl hs ho (by omega) hf hfr;have hok:=gn (bu L') _ hfact (oJ hop i o (by rw [List.getElem?_take,if_pos hi];exact ho) (by intro e;rw [e,hmuL (by omega)] at hil8;cases hil8) w' hF);obtain ⟨hE,hW⟩:=fT (n:=n) (ops:=l.toArray) (o:=o) hsel hlooks;rw [hd] at hok;simp only [Option.getD_some] at hok
  have hyl:∃ v,Yields P l.toArray o v (mkA n L')∧R d v w':=by
   unfold aw at hok;rw [hE,hW] at hok;rcases hok with ⟨hw,⟨v,w'',hr,hF',hRv⟩ | ⟨f,args,hr,hcall⟩⟩ | ⟨hw,hRv⟩
   ·obtain ⟨rfl,hall⟩:=rZ hk hr;refine ⟨v,.inl ⟨hw,fun w2=>?_⟩,h12 _ _ _ hRv⟩;rw [dy];exact hall w2
   ·exfalso;obtain ⟨dst,op,ty,pos,after,guard⟩:=o;cases op <;> simp only [oQ,Bool.false_eq_true] at hk <;> simp only [execOp,Sem.run_pure,Sem.run_bind,Result.ok.injEq] at hr
    ·cases hr.1
    ·cases hr.1
    ·rename_i x i';cases hx:ev n L' x <;> simp only [hx,Instr.extract] at hr <;> (try (simp at hr;done))
     rename_i vs;cases hv:vs[i']? <;> simp [hv] at hr
   ·exact ⟨undef,.inr ⟨hw,rfl⟩,h12 _ _ _ hRv⟩
  obtain ⟨v,hv1,hv2⟩:=hyl;refine ⟨v,fun o' d' ho' hd'=>?_⟩;rw [ho] at ho';cases ho';rw [hd] at hd';cases hd';exact ⟨hv1,hv2⟩
 obtain ⟨f,hf⟩:∃ f:Nat→Value,∀ i,i<K→listed.getD i true=false→∀ o d,l[i]? =some o→o.dst=some d→Yields P l.toArray o (f i) (mkA n L')∧R d (f i) w':=by
  refine ⟨fun i=>open Classical in if h:∃ v,∀ o d,l[i]? =some o→o.dst=some d→Yields P l.toArray o v (mkA n L')∧R d v w' then h.choose else undef,fun i hi hl=>?_⟩;have h:=hval i hi hl;simp only [dif_pos h];exact h.choose_spec
 have hUm:∀ i,i∈(List.range K).filter (fun i=> !listed.getD i true)↔i<K∧listed.getD i true=false:=fun i=>by
  rw [List.mem_filter,List.mem_range];simp
 obtain ⟨U,hU,hUn⟩:∃ U:List Nat,(∀ i,i∈U↔i<K∧listed.getD i true=false)∧U.Nodup:=⟨_,hUm,List.nodup_range.sublist (List.filter_sublist ..)⟩;have hbind:∀ {i:Nat} {o:Oper},l[i]? =some o→(l[i]?).bind (·.dst)=o.dst:=fun h=>by rw [h];rfl
 have hRall:∀ d∈fV l K,R d (bu ((U.filterMap fun i=>((l[i]?).bind (·.dst)).map fun d=>(d,f i))++L') d) w':=by
  intro d hd;obtain ⟨o,ho,hod⟩:=List.mem_filterMap.1 hd;obtain ⟨i,hi⟩:=List.mem_iff_getElem?.1 ho;rw [List.getElem?_take] at hi;split at hi
  ·rename_i hiK;obtain ⟨o',d',ho',hd',_,hdist⟩:=hhead i hiK;rw [hi] at ho';cases ho';rw [hod] at hd';cases hd'
   have hne:∀ j∈U,j≠i→(l[j]?).bind (·.dst)≠some d:=fun j hj hji=>by
    have hjK:=((hU j).1 hj).1;obtain ⟨oj,dj,hoj,_⟩:=hhead j hjK;rw [hbind hoj];exact hdist j oj hjK hji hoj
   cases hb:listed.getD i true with
   |true=>
    rw [iT U fun j hj=>hne j hj (fun e=>by subst e;have:=((hU j).1 hj).2;rw [hb] at this;cases this)];exact hR i o d hiK hi hb hod
   |false=>
    rw [j_ U ((hU i).2 ⟨hiK,hb⟩) ((hbind hi).trans hod) hne];exact (hf i hiK hb o d hi hod).2
  ·cases hi
 have he:=gn _ (fV l K) hRall (hend w' hF)
 have hL:mkA n ((fV l K).map (fun d=>(d,bu ((U.filterMap fun i=>((l[i]?).bind (·.dst)).map fun d=>(d,f i))++L') d))++L)=iM l f U (mkA n L'):=by
  rw [oF];refine gZ fun t _=>?_
  rw [jP];split
  ·rfl
  ·rename_i hne
   have hnd:∀ i,i<K→∀ o,l[i]? =some o→o.dst≠some t:=fun i hi o ho hod=>hne (by
    simp only [List.elem_eq_mem,decide_eq_true_eq];exact List.mem_filterMap.2 ⟨o,List.mem_iff_getElem?.2 ⟨i,by rw [List.getElem?_take,if_pos hi];exact ho⟩,hod⟩)
   rw [iT U fun j hj=>by
    have hjK:=((hU j).1 hj).1;obtain ⟨oj,dj,hoj,_⟩:=hhead j hjK;rw [hbind hoj];exact hnd j hjK oj hoj]
   exact (hfr t fun i o hi ho _ hod=>hnd i hi o ho hod).symm
 replace he:=he.out;rw [hL] at he;refine oi hQ hc m K listed U _ w' hcl hcount hs (Nat.le_refl _) hKl (fun j h1 h2=>by rw [htail j h1 h2];simp [h1]) hUn (fun j hj=>⟨fun h=>(hU j).2 ⟨hj,h⟩,fun h=>((hU j).1 h).2⟩) (fun j hj=>?_) he;obtain ⟨h1,h2⟩:=(hU j).1 hj;obtain ⟨oj,dj,hoj,hdj,_⟩:=hhead j h1;exact ⟨h1,hpre j h1 h2,oj,hoj,(hf j h1 h2 oj dj hoj hdj).1⟩
theorem yM (hQ:PQ Q) (hc:lA l K=true) (hm1:∀ w1 w2,ag w1 w2→I1 w1→I1 w2) (hm2:∀ w1 w2,ag w1 w2→I2 w1→I2 w2) (hmono1:∀ t v w1 w2,ag w1 w2→R1 t v w1→R1 t v w2) (hmono:∀ t v w1 w2,ag w1 w2→R t v w1→R t v w2)
 (hop:nd P l.toArray n L I2 R1 R l K mu 0 (l.take K)) (h12:∀ t v w,R1 t v w→R t v w) (hmuL:mu<K→eG l K mu=false) (hmu:zo P l.toArray n L I1 I2 R1 R l K mu l[mu]?)
 (hend:∀ w',I2 w'→ju R w' (fV l K) fun M=>St P l.toArray Q (l.drop K) n (M++L) w') :
 ∀ (m:Nat) (listed:Array Bool) (L':List (Nat×Value)) (w':World),il l listed→listed.toList.count false=m→listed.size=l.length→(∀ j,K≤j→j<l.length→listed.getD j true=false)→I2 w'→(listed.getD mu true=false→I1 w')→
  (∀ t,(∀ i o,i<K→l[i]? =some o→listed.getD i true=true→o.dst≠some t)→bu L' t=bu L t)→
  (∀ i o d,i<K→l[i]? =some o→listed.getD i true=true→o.dst=some d→R d (bu L' d) w')→(listed.getD mu true=false→∀ i o d,i<K→l[i]? =some o→listed.getD i true=true→o.dst=some d→R1 d (bu L' d) w')→wpAny P .any l.toArray Q m listed (mkA n L') w':=by
 have hc1:=(Bool.and_eq_true_iff.1 hc).1;have hlate:=(Bool.and_eq_true_iff.1 hc).2;have hKl:K≤l.length:=dT_ (Bool.and_eq_true_iff.1 hc1).1;have hck:=(List.all_eq_true.1 (Bool.and_eq_true_iff.1 hc1).2);intro m
 induction m with
 |zero=>
  intro listed L' w' hcl hcount hs htail hF hF1 hfr hR hR1
  exact p5 hQ hc hop h12 hmuL hend 0 listed L' w' hcl hcount hs htail hF hfr hR (fun i hi h=>by
   have hm:listed[i]'(by omega)∈listed.toList:=by simp
   have hb:listed[i]'(by omega)=false:=by simpa [Array.getD,show i<listed.size by omega] using h
   rw [hb] at hm;exact absurd hcount (Nat.pos_iff_ne_zero.1 (List.count_pos_iff.2 hm)))
 |succ m ih=>
  intro listed L' w' hcl hcount hs htail hF hF1 hfr hR hR1;by_cases hpre:∀ i,i<K→listed.getD i true=false→eG l K i=true
  ·exact p5 hQ hc hop h12 hmuL hend (m+1) listed L' w' hcl hcount hs htail hF hfr hR hpre
  ·
   have hn0:∃ i,i<K∧listed.getD i true=false∧eG l K i=false:=by
    refine Classical.byContradiction fun hno=>hpre fun i hi hf=>?_
    cases hb:eG l K i with
    |true=>rfl
    |false=>exact absurd ⟨i,hi,hf,hb⟩ hno
   obtain ⟨n0,hn0⟩:=hn0;obtain ⟨i0,hi0,hmin⟩:=exists_least (p:=fun i=>i<K∧listed.getD i true=false) ⟨n0,hn0.1,hn0.2.1⟩;have hi0l:i0<l.length:=by omega
   have hready:i0∈Region.ready .any l.toArray listed:=by
    refine mem_ready.2 ⟨hi0.2,l[i0],by rw [List.getElem?_toArray,List.getElem?_eq_getElem hi0l],fun e he hb=>?_⟩;have hx:=hck i0 (List.mem_range.2 hi0l);rw [List.getElem?_eq_getElem hi0l] at hx;simp only [Bool.and_eq_true] at hx;have he2:=List.all_eq_true.1 hx.1.1 e (by simpa using he);rw [hb] at he2;simp at he2;rw [←bM (by omega)];cases hb2:listed.getD e.on true with
    |true=>rfl
    |false=>exact absurd (hmin e.on ⟨by omega,hb2⟩) (by omega)
   refine ⟨fun h0=>(by rw [h0] at hready;cases hready),fun i hi=>?_⟩;obtain ⟨h0,o,ho,hall⟩:=mem_ready.1 hi;rw [List.getElem?_toArray] at ho;have hil:i<l.length:=(List.getElem?_eq_some_iff.1 ho).1;have hx:=hck i (List.mem_range.2 hil);rw [ho] at hx;simp only [Bool.and_eq_true] at hx
   have hiK:i<K:=by
    rcases Nat.lt_or_ge i K with h | h
    ·exact h
    ·exfalso;have h5:=fM hcl hall (lz hn0.2.2 ho h);rw [←bM (by omega),hn0.2.1] at h5;cases h5
   have h3:=hx.2;rw [if_pos hiK] at h3;simp only [Bool.and_eq_true] at h3;obtain ⟨h3a,h3b⟩:=h3;cases hod:o.dst with
   |none=>rw [hod] at h3a;cases h3a
   |some d=>
    rw [hod] at h3a;simp only [Bool.and_eq_true] at h3a;have hlooks:=qA (L:=L) hc hcl hs ho hil h0 hfr
    have hfactG:∀ (RR:Nat→Value→World→Prop),(∀ i o d,i<K→l[i]? =some o→listed.getD i true=true→o.dst=some d→RR d (bu L' d) w')→∀ t∈f_ l K i o,RR t (bu L' t) w':=by
     intro RR hRR t ht;obtain ⟨_,j,oj,hjK,hj,hd,_,hdep⟩:=jx hc hiK ho ht;have h6:=fM hcl hall hdep;exact hRR j oj t hjK hj (by rw [bM (by omega)];exact h6) hd
    have hsel:dO o.op=false:=by simpa using hx.1.2
    obtain ⟨hE,hW⟩:=fT (n:=n) (ops:=l.toArray) (o:=o) hsel hlooks
    have next:∀ v w'',I2 w''→(i≠mu→listed.getD mu true=false→I1 w'')→R d v w''→(i≠mu→R1 d v w'')→(∀ t u,t≠d→R t u w'→(i=mu→R1 t u w')→R t u w'')→(i≠mu→∀ t u,R1 t u w'→R1 t u w'')→wpAny P .any l.toArray Q m (listed.setIfInBounds i true) ((mkA n L').put (some d) v) w'':=by
     intro v w'' hI2' hI1' hRv hR1v hst hst1;rw [fJ]
     have hne:∀ j oj d',j<K→l[j]? =some oj→j≠i→oj.dst=some d'→d'≠d:=by
      intro j oj d' hj hoj hji hd e;have h5:=List.all_eq_true.1 h3a.1 j (List.mem_range.2 hj);rw [hoj] at h5;simp [hji,hd,e] at h5
     refine ih _ _ w'' (ka hcl ho hall) ?_ (by simpa using hs) (fun j hj1 hj2=>?_) hI2' (fun hml=>?_) (fun t ht=>?_) (fun j oj d' hj hoj hlj hd=>?_) (fun hml j oj d' hj hoj hlj hd=>?_)
     ·have hil':i<listed.size:=by omega
      have hfalse:listed.toList[i]? =some false:=by
       rw [Array.getElem?_toList,Array.getElem?_eq_getElem hil'];simp [Array.getD,hil'] at h0;rw [h0]
      rw [Array.toList_setIfInBounds];have:=eW (l:=listed.toList) (i:=i) hfalse;omega
     ·rw [getD_set_ne true (by omega)];exact htail j hj1 hj2
     ·have him:i≠mu:=fun e=>by subst e;simp [show i<listed.size by omega] at hml
      rw [getD_set_ne true him] at hml;exact hI1' him hml
     ·have htd:t≠d:=fun e=>ht i o hiK ho (by simp [show i<listed.size by omega]) (by rw [hod,e])
      rw [cM,if_neg htd];refine hfr t fun j oj hj hoj hlj=>ht j oj hj hoj ?_
      by_cases e:i=j
      ·subst e;rw [h0] at hlj;cases hlj
      ·rw [getD_set_ne true e];exact hlj
     ·rw [cM];by_cases e:j=i
      ·subst e;rw [ho] at hoj;cases hoj;rw [hod] at hd;cases hd;rw [if_pos rfl];exact hRv
      ·have hdd:=hne j oj d' hj hoj e hd;rw [if_neg hdd];rw [getD_set_ne true (Ne.symm e)] at hlj;refine hst _ _ hdd (hR j oj d' hj hoj hlj hd) (fun e2=>?_);subst e2;exact hR1 h0 j oj d' hj hoj hlj hd
     ·have him:i≠mu:=fun e=>by subst e;simp [show i<listed.size by omega] at hml
      rw [getD_set_ne true him] at hml;rw [cM];by_cases e:j=i
      ·subst e;rw [ho] at hoj;cases hoj;rw [hod] at hd;cases hd;rw [if_pos rfl];exact hR1v him
      ·rw [if_neg (hne j oj d' hj hoj e hd)];rw [getD_set_ne true (Ne.symm e)] at hlj;exact hst1 him _ _ (hR1 hml j oj d' hj hoj hlj hd)
    unfold wpOp;rw [List.getElem?_toArray,ho];show if Region.wanted o (yielded l.toArray (mkT n.n L'))=true then _ else _
    by_cases him:i=mu
    ·subst him;rw [ho] at hmu;have hok:=gn (bu L') _ (hfactG R1 (hR1 h0)) (hmu w' (hF1 h0));rw [hod] at hok;simp only [Option.getD_some] at hok;unfold vP at hok;rw [hE,hW] at hok;obtain ⟨hw,⟨v,w'',hr,hI,hRv,hst⟩ | ⟨f,args,hr,hcall⟩⟩:=hok
     ·rw [if_pos hw];refine .inl ?_;unfold Oper.wp;rw [dy,hr,Oper.upon_value,hod];exact next v w'' hI (fun h=>absurd rfl h) hRv (fun h=>absurd rfl h) (fun t u ht _ h1=>hst t u ht (h1 rfl)) (fun h=>absurd rfl h)
     ·rw [if_pos hw];refine .inl ?_;unfold Oper.wp;rw [dy,hr,Oper.upon_enter,hod];refine Calls.mono hcall fun e w'' ⟨v,he,hI,hRv,hst⟩=>?_
      subst he;exact next v w'' hI (fun h=>absurd rfl h) hRv (fun h=>absurd rfl h) (fun t u ht _ h1=>hst t u ht (h1 rfl)) (fun h=>absurd rfl h)
    ·have hok:=gn (bu L') _ (hfactG R hR) (oJ hop i o (by rw [List.getElem?_take,if_pos hiK];exact ho) him w' hF);rw [hod] at hok;simp only [Option.getD_some] at hok;unfold aw at hok;rw [hE,hW] at hok
     have next':∀ v w'',ag w' w''→R1 d v w''→wpAny P .any l.toArray Q m (listed.setIfInBounds i true) ((mkA n L').put (some d) v) w'':=fun v w'' hF' hRv=>
      next v w'' (hm2 _ _ hF' hF) (fun _ h=>hm1 _ _ hF' (hF1 h)) (h12 _ _ _ hRv) (fun _=>hRv) (fun t u _ h _=>hmono _ _ _ _ hF' h) (fun _ t u h=>hmono1 _ _ _ _ hF' h)
     rcases hok with ⟨hw,⟨v,w'',hr,hF',hRv⟩ | ⟨f,args,hr,hcall⟩⟩ | ⟨hw,hRv⟩
     ·rw [if_pos hw];refine .inl ?_;unfold Oper.wp;rw [dy,hr,Oper.upon_value,hod];exact next' v w'' hF' hRv
     ·rw [if_pos hw];refine .inl ?_;unfold Oper.wp;rw [dy,hr,Oper.upon_enter,hod];refine Calls.mono hcall fun e w'' ⟨v,he,hF',hRv⟩=>?_
      subst he;exact next' v w'' hF' hRv
     ·rw [if_neg (by rw [hw];simp),hod];exact next' undef w' ag.rfl_ hRv
theorem bK {id:Nat} (K:Nat) (RL:List (Nat×(Value→World→Prop))) (hQ:PQ Q) (hm:P.follows .mixedOrders=true) (hc:lA l K=true) (hmono:qk RL)
 (hop:nd P l.toArray n L (ag w) (gR RL) (gR RL) l K l.length 0 (l.take K)) (hend:∀ w',ag w w'→ju (gR RL) w' (fV l K) fun M=>St P l.toArray Q (l.drop K) n (M++L) w'):Cd P (.region id l.toArray true) Q n L w:=by
 refine ⟨wp_region_any hm ?_⟩;have hKl:K≤l.length:=dT_ (Bool.and_eq_true_iff.1 (Bool.and_eq_true_iff.1 hc).1).1
 have:=yM (Q:=Q) (mu:=l.length) (I1:=ag w) (I2:=ag w) (R1:=gR RL) hQ hc (fun _ _ hF h=>h.next hF) (fun _ _ hF h=>h.next hF) (g_ hmono) (g_ hmono) hop (fun _ _ _ h=>h) (fun h=>absurd h (by omega)) (by simp [zo]) hend l.length (Array.replicate l.length false) L { w with drawn:=w.drawn+1 } (nw l _) (by simp) (by simp)
  (fun j _ hj=>by simp [Array.getD,hj]) ag.rfl_.d1 (fun _=>ag.rfl_.d1) (fun _ _=>rfl) (fun i o d hi _ hl=>by
   have:i<l.length:=by omega
   simp [Array.getD,this] at hl) (fun _ i o d hi _ hl=>by
   have:i<l.length:=by omega
   simp [Array.getD,this] at hl)
 simpa using this
end late
end Go.Proofs.YtkpooenofjdpmaaGreat
namespace Go.Proofs.YtkpooenofjdpmaaGreat
open Go.Proofs.Tryz (prog)
open Go.RowKit
theorem eO {w:World} {bs e s n c m:Nat} {A:Option Addr} {l:List Value} (h:w.ownsRow bs e s (.slice A n c) m l):∀ k,A.map (·.block)=some k→bs≤k∧k<w.heap.size:=fun k hk=>h.lt k (by rw [←hk];cases A <;> rfl)
end Go.Proofs.YtkpooenofjdpmaaGreat
namespace Go.Proofs.YtkpooenofjdpmaaGreat
open Go.Proofs.Tryz (prog)
open Go.RowKit
section
variable {P:Program} {ops:Array Oper} {Q:Exit→Act→World→Prop} {rest:List Oper} {n:Fr} {L:List (Nat×Value)} {w:World} {ty:TypeId} {pos:String} {after:Array Edge} {d:Nat} {x:Operand}
theorem rH {ρ:Operand→Value} {f:FuncId} {l1 l2:List Operand}:RO P ρ (.makeFunc (.func f) l1.toArray l2.toArray) w (.func (.func f) (l1.map ρ).toArray (l2.map ρ).toArray) w:=fun _ _ _ _ _=>by
 simp [execOp,Instr.makeFunc]
end
end Go.Proofs.YtkpooenofjdpmaaGreat
namespace Go.Proofs.YtkpooenofjdpmaaGreat
open Go.Proofs.Tryz (prog)
open Go.RowKit Go.ChangeShapes Go.WideShapes Go.ChangeAt
theorem gy {P:Program} {ops:Array Oper} {n:Fr} {L:List (Nat×Value)} {w:World} {op:Op} {ty:TypeId} {pos:String} {after:Array Edge} {d:Option Nat} {R:Value→World→Prop} {j:Nat} {b:Bool} (hg:jv ops n L j=undef) (hR:R undef w):aw P ops n L ⟨d,op,ty,pos,after,some (j,b)⟩ w R:=
 .inr ⟨by show (yielded ops (mkT n.n L) j==some b)=false;rw [lr hg];rfl,hR⟩
theorem j7 {w:World} {base e s n c m g t:Nat} {A:Option Addr} {xs:List Value} {cs:Array Value} (h:w.ownsRow base e s (.slice A n c) m xs) (hb:Blk w g t cs) (hne:t≠e):∀ k,A.map (·.block)=some k→k≠g:=by
 rintro k hk rfl;rcases h.2 with ⟨h0,_⟩ | ⟨g',cap,cur,hv,hg,hh,r⟩
 ·simp only [Value.slice.injEq] at h0;rw [h0.1] at hk;cases hk
 ·simp only [Value.slice.injEq] at hv;rw [hv.1] at hk;simp only [Option.map_some,Option.some.injEq] at hk;subst hk;unfold Blk at hb;rw [hh] at hb;simp only [Option.some.injEq,Obj.cells.injEq] at hb;exact hne hb.2.1.symm
theorem gk {w w':World} {base e s n c g:Nat} {A:Option Addr} {xs:List Value} (h:w.ownsRow base e s (.slice A n c) n xs) (o:eM g w w') (hne:∀ k,A.map (·.block)=some k→k≠g):w'.ownsRow base e s (.slice A n c) n xs:=by
 refine ⟨h.1,?_⟩;rcases h.2 with h2 | ⟨g',cap,cur,hv,hg,hh,r⟩
 ·exact .inl h2
 ·refine .inr ⟨g',cap,cur,hv,hg,?_,r⟩;simp only [Value.slice.injEq] at hv;rw [o.block g' (hne g' (by rw [hv.1];rfl))];exact hh
theorem dW {w:World} {base base' size n:Nat} {e:TypeId} {v:Value} {xs:List Value} (h:w.ownsRow base e size v n xs) (hb:base'≤base):w.ownsRow base' e size v n xs:=by
 refine ⟨h.1,?_⟩;rcases h.2 with h0 | ⟨g,cap,cur,hv,hg,r⟩
 ·exact .inl h0
 ·exact .inr ⟨g,cap,cur,hv,by omega,r⟩
theorem rm {H:Type} {enc:TypeId×Value→H} {F:FuncId} {T:TypeId} (t u:Ty) (hf:(Ty.pr t u).fits prog (.inl T)=true)
 (h:∀ (cs:Array Value) (x:(Ty.pr t u).den) (w:World),cs.size=(Ty.pr t u).size→(Ty.pr t u).At w (fun j=>cs[j]?) x→Rt prog F [.agg cs] w fun v w'=>v=.bool true∧ag w w')
 (W:World) (base:Nat) (v:Value) (d:DataW H) (p:List MemPlace) (hok:Value.okWide prog W .any base T v) (ht:DataW.Trod enc prog W 0 (fun _=>true) true T v d p) (hsz:∀ n∈d.weights prog T,n≤140737488351232) :
 Calls prog F #[v] W fun e W'=>e=.returned (.bool true)∧ag W W':=by
 obtain ⟨cs,x,rfl,hs,ha⟩:=Ag t u hf hok ht hsz;exact Rt.to (h cs x W hs ha)
end Go.Proofs.YtkpooenofjdpmaaGreat
namespace Go.Proofs.YtkpooenofjdpmaaGreat
open Go.Proofs.Tryz (prog)
open Go.RowKit
section
variable {α:Type} {f:α→List Value} {s:Nat}
theorem mi (hf:∀ x,(f x).length=s):∀ (L:List α),(L.flatMap f).length=L.length*s
 |[]=>by simp
 |x::r=>by rw [List.flatMap_cons,List.length_append,hf,mi hf r,List.length_cons,Nat.succ_mul];omega
theorem p7 (hf:∀ x,(f x).length=s):∀ (L:List α) (k:Nat),(L.flatMap f).take (k*s)=(L.take k).flatMap f
 |[],k=>by simp
 |x::r,0=>by simp
 |x::r,k+1=>by
  rw [List.flatMap_cons,List.take_succ_cons,List.flatMap_cons,←p7 hf r k,List.take_append,hf];rw [show (k+1)*s-s=k*s by rw [Nat.succ_mul];omega,List.take_of_length_le (by rw [hf,Nat.succ_mul];omega)]
theorem mR (hf:∀ x,(f x).length=s):∀ (L:List α) (k:Nat),(L.flatMap f).drop (k*s)=(L.drop k).flatMap f
 |[],k=>by simp
 |x::r,0=>by simp
 |x::r,k+1=>by
  rw [List.flatMap_cons,List.drop_succ_cons,←mR hf r k,List.drop_append,hf];rw [show (k+1)*s-s=k*s by rw [Nat.succ_mul];omega,List.drop_of_length_le (by rw [hf,Nat.succ_mul];omega),List.nil_append]
theorem uQ (hf:∀ x,(f x).length=s) (L:List α) (i:Nat) (hi:i<L.length) (j:Nat) (hj:j<s):(L.flatMap f)[i*s+j]? =(f L[i])[j]? :=by
 have h1:((L.flatMap f).drop (i*s))[j]? =(L.flatMap f)[i*s+j]? :=by rw [List.getElem?_drop]
 rw [←h1,mR hf,List.drop_eq_getElem_cons hi,List.flatMap_cons,List.getElem?_append_left (by rw [hf];exact hj)]
theorem xG {L:List α} (h:∀ x∈L,∀ u∈f x,u.oneCell'=true):∀ u∈L.flatMap f,u.oneCell'=true:=fun u hu=>by
 obtain ⟨x,hx,hu⟩:=List.mem_flatMap.1 hu;exact h x hx u hu
def iu (s:Nat) (f:α→List Value) (w:World) (A:Option Addr) (L:List α):Prop:=0<L.length→∃ b o,A=some ⟨b,o,none⟩∧∀ i (h:i<L.length),w.rangeAt b (o+i*s) (f L[i])
theorem iu.from_ {w w':World} {A:Option Addr} {L:List α} (h:iu s f w A L) (hF:ag w w'):iu s f w' A L:=fun h0=>
 let ⟨b,o,hA,hc⟩:=h h0
 ⟨b,o,hA,fun i hi=>fB hF (hc i hi)⟩
theorem iu.flat (hf:∀ x,(f x).length=s) {w:World} {A:Option Addr} {L:List α} (h:iu s f w A L):0<L.length→∃ b o,A=some ⟨b,o,none⟩∧w.rangeAt b o (L.flatMap f):=fun h0=>by
 obtain ⟨b,o,hA,hc⟩:=h h0;refine ⟨b,o,hA,fun j v hv=>?_⟩
 have hlt:j<L.length*s:=by
  rw [←mi hf];rcases Nat.lt_or_ge j (L.flatMap f).length with a | a
  ·exact a
  ·rw [List.getElem?_eq_none a] at hv;cases hv
 have hs:0<s:=by
  rcases Nat.eq_zero_or_pos s with h | h
  ·subst h;omega
  ·exact h
 have hi:j/s<L.length:=by rw [Nat.div_lt_iff_lt_mul hs];exact hlt
 have hj:j/s*s+j%s=j:=by rw [Nat.mul_comm];exact Nat.div_add_mod j s
 rw [←hj,uQ hf L _ hi _ (Nat.mod_lt _ hs)] at hv;have:=hc _ hi _ v hv
 rwa [Nat.add_assoc,hj] at this
theorem iu.own (hf:∀ x,(f x).length=s) (hs:0<s) {w:World} {base e n c:Nat} {A:Option Addr} {L:List α} (h:w.ownsRow base e s (.slice A n c) n (L.flatMap f)):L.length=n∧iu s f w A L:=by
 have hn:L.length=n:=by
  have:=h.1;rw [mi hf] at this;exact Nat.eq_of_mul_eq_mul_right hs this
 refine ⟨hn,fun h0=>?_⟩;obtain ⟨g,rfl⟩:=fR h (by omega);refine ⟨g,0,rfl,fun i hi j v hv=>?_⟩
 have hj:j<s:=by
  rw [←hf L[i]];rcases Nat.lt_or_ge j (f L[i]).length with a | a
  ·exact a
  ·rw [List.getElem?_eq_none a] at hv;cases hv
 have hlt:i*s+j<n*s:=by
  have:(i+1)*s≤n*s:=Nat.mul_le_mul_right s (by omega);rw [Nat.succ_mul] at this;omega
 rw [Nat.zero_add,h.cellAt _ hlt,uQ hf L i hi j hj];exact hv
end
theorem nQ {w:World} {base e size n c:Nat} {A:Option Addr} {xs:List Value} (h:w.ownsRow base e size (.slice A n c) n xs) (hn:0<n) :
 ∃ g cur,A=some ⟨g,0,none⟩∧base≤g∧Blk w g e (List.toArray cur)∧n≤c∧c≤maxLen∧cur.length=c*size∧cur.take (n*size)=xs:=by
 rcases h.2 with ⟨_,h0⟩ | ⟨g,cap,cur,hv,hg,hh,h1,h2,h3,h4⟩
 ·omega
 ·simp only [Value.slice.injEq,true_and] at hv;obtain ⟨rfl,rfl⟩:=hv;exact ⟨g,cur.toList,rfl,hg,by simpa [Blk] using hh,h1,h2,by simpa using h3,h4⟩
theorem tf {w:World} {base e size n c g:Nat} {cur xs:List Value} (hg:base≤g) (hb:Blk w g e cur.toArray) (h1:n≤c) (h2:c≤maxLen) (h3:cur.length=c*size) (h4:cur.take (n*size)=xs) :
 w.ownsRow base e size (.slice (some ⟨g,0,none⟩) n c) n xs:=by
 refine ⟨?_,.inr ⟨g,c,cur.toArray,rfl,hg,hb,h1,h2,by simpa using h3,by simpa using h4⟩⟩;rw [←h4,List.length_take,h3];exact Nat.min_eq_left (Nat.mul_le_mul_right _ h1)
theorem wR (cs vs:List Value) (o:Nat) (h:o+vs.length≤cs.length):(iN cs o vs).length=cs.length:=by simp [iN];omega
theorem vu (cs vs:List Value) (o k:Nat) (h:o+vs.length≤k) (hk:k≤cs.length):(iN cs o vs).take k=iN (cs.take k) o vs:=by
 unfold iN;rw [List.take_append,List.take_of_length_le (by simp;omega)];rw [List.take_take,Nat.min_eq_left (by omega),List.drop_take]
 congr 2
 simp;omega
theorem AA (cs:List Value) (o:Nat):iN cs o []=cs:=by simp [iN]
end Go.Proofs.YtkpooenofjdpmaaGreat
namespace Go.Proofs.YtkpooenofjdpmaaGreat
open Go.Proofs.Tryz (prog)
open Go.RowKit
section
variable {P:Program} {ops:Array Oper} {Q:Exit→Act→World→Prop} {rest:List Oper} {n:Fr} {L:List (Nat×Value)} {w:World} {ty:TypeId} {pos:String} {after:Array Edge} {d:Nat} {t:TypeId} {x s:Operand}
theorem yA {ρ:Operand→Value} {e size by_:Nat} {z:Value} (hq:kq P t=some (e,size,by_,z)):RO P ρ (.buildSlice t 0 #[]) w (.slice (some ⟨w.heap.size,0,none⟩) 0 0) (w.alloc (.cells #[] e)):=fun _ _ _ _ _=>by
 obtain ⟨i,hu,hi,hs,_,hz⟩:=qB hq;simp [execOp,Instr.buildSlice,run_underlying hu,sizeOf,typeInfo,hi,Instr.fill,newRow];have:(Array.range 0)=#[]:=by simp [Array.range]
 rw [this,Array.map_empty]
theorem uz {e size by_:Nat} {z:Value} (hq:kq P t=some (e,size,by_,z)) (base:Nat) (hbs:base≤w.heap.size) (k:∀ g w',ag w w'→g=w.heap.size→w'.ownsRow base e size (.slice (some ⟨g,0,none⟩) 0 0) 0 []→St P ops Q rest n ((d,.slice (some ⟨g,0,none⟩) 0 0)::L) w') :
 St P ops Q (⟨some d,.buildSlice t 0 #[],ty,pos,after,none⟩::rest) n L w:=
 ab (yA hq) (k _ _ (ag.rfl_.new _) rfl ⟨by simp,.inr ⟨w.heap.size,0,#[],rfl,hbs,heap_alloc_new w _,Nat.le_refl _,by decide,by simp,by simp⟩⟩)
theorem oA {ρ:Operand→Value} {e yt:TypeId} {y:Operand} {a:Option Addr} {m c:Nat} (ht:P.underlying t=some (.slice e)) (hx:ρ x=.slice a m c) (hy:ρ y=.slice none 0 0):RO P ρ (.binOp .eql t x y yt) w (.bool a.isNone) w:=
 lI hx hy (by unfold eqGuard;cases a <;> rfl) (run_eql_slice_nil w t e a m c ht)
end
theorem wQ {w w':World} {base e size n c g o:Nat} {xs vs:List Value} (h:w.ownsRow base e size (.slice (some ⟨g,0,none⟩) n c) n xs) (hn:0<n) (hv:o+vs.length≤n*size) (hb:∀ cur,Blk w g e (List.toArray cur)→o+vs.length≤cur.length→Blk w' g e (iN cur o vs).toArray) :
 w'.ownsRow base e size (.slice (some ⟨g,0,none⟩) n c) n (iN xs o vs):=by
 obtain ⟨g',cur,hA,hg,hbk,h1,h2,h3,h4⟩:=nQ h hn;simp only [Option.some.injEq,Addr.mk.injEq,and_true] at hA;subst hA;have hle:n*size≤cur.length:=by rw [h3];exact Nat.mul_le_mul_right _ h1
 refine tf hg (hb cur hbk (by omega)) h1 h2 ?_ ?_
 ·rw [wR _ _ _ (by omega),h3]
 ·rw [vu _ _ _ _ hv hle,h4]
section
variable {P:Program} {ops:Array Oper} {Q:Exit→Act→World→Prop} {rest:List Oper} {n:Fr} {L:List (Nat×Value)} {w:World} {ty:TypeId} {pos:String} {after:Array Edge} {t:TypeId} {x y:Operand}
theorem lF {base e size m c g o:Nat} {xs vs:List Value} (ht:ea P t=some vs.length) (hx:ev n L x=.pointer (some ⟨g,o,none⟩)) (hy:ev n L y=.agg vs.toArray) (h1:∀ v∈vs,v.oneCell'=true)
 (ho:w.ownsRow base e size (.slice (some ⟨g,0,none⟩) m c) m xs) (hm:0<m) (hi:o+vs.length≤m*size)
 (k:∀ w',eM g w w'→w'.ownsRow base e size (.slice (some ⟨g,0,none⟩) m c) m (iN xs o vs)→St P ops Q rest n L w'):St P ops Q (⟨none,.store t x y,ty,pos,after,none⟩::rest) n L w:=by
 obtain ⟨g',cur,hA,hg,hbk,h2,h3,h4,h5⟩:=nQ ho hm;simp only [Option.some.injEq,Addr.mk.injEq,and_true] at hA;subst hA;have hle:m*size≤cur.length:=by rw [h4];exact Nat.mul_le_mul_right _ h2
 refine kB (k8 ht hx hy h1 (hbk.there o vs.length (by simp;omega))) (k _ (eM.sets vs o w) ?_);exact wQ ho hm hi fun cur' hb' hl=>Blk.sets vs o hb' hl
theorem s9 {base e size m c g o:Nat} {xs:List Value} {v:Value} (ht:ea P t=some 1) (hx:ev n L x=.pointer (some ⟨g,o,none⟩)) (hy:ev n L y=v) (h1:v.oneCell'=true)
 (ho:w.ownsRow base e size (.slice (some ⟨g,0,none⟩) m c) m xs) (hi:o<m*size)
 (k:∀ w',eM g w w'→w'.ownsRow base e size (.slice (some ⟨g,0,none⟩) m c) m (xs.set o v)→St P ops Q rest n L w'):St P ops Q (⟨none,.store t x y,ty,pos,after,none⟩::rest) n L w:=by
 have hlen:xs.length=m*size:=ho.1;have hc:w.cell? ⟨g,o,none⟩=some (xs[o]'(by omega)):=by rw [ho.cellAt o hi];simp [hlen,hi]
 exact kB (lX ht hx hy h1 hc (ho.frozenAt o)) (k _ (eM.setCell w g o v) (ho.stored o v).1)
end
section
variable {α:Type} {f:α→List Value} {s:Nat}
theorem pT (hf:∀ x,(f x).length=s) (L:List α) (i:Nat) (hi:i<L.length) (x:α):iN (L.flatMap f) (i*s) (f x)=(L.set i x).flatMap f:=by
 unfold iN;rw [p7 hf,hf,←Nat.succ_mul,mR hf]
 conv=>rhs;rw [List.set_eq_take_append_cons_drop,if_pos hi]
 simp
end
end Go.Proofs.YtkpooenofjdpmaaGreat
namespace Go.Proofs.YtkpooenofjdpmaaGreat
open Go.Proofs.Tryz (prog)
open Go.RowKit
end Go.Proofs.YtkpooenofjdpmaaGreat
namespace Go.Proofs.YtkpooenofjdpmaaGreat
open Go.Proofs.Tryz (prog)
open Go.RowKit
def nv (l:List Oper) (K mu i:Nat):Bool:=Nat.blt mu K&&match l[mu]? with | some om=>mS l om i | none=>false
theorem o0 {l:List Oper} {K mu i:Nat} (h:nv l K mu i=true):mu<K∧∃ om,l[mu]? =some om∧mS l om i=true:=by
 unfold nv at h;rw [Bool.and_eq_true] at h;refine ⟨Nat.le_of_ble_eq_true h.1,?_⟩;have h2:=h.2;split at h2
 ·rename_i om hom;exact ⟨om,hom,h2⟩
 ·cases h2
def lQ (P:Program) (ops:Array Oper) (n:Fr) (L:List (Nat×Value)) (I1 I2:World→Prop) (R1 R2:Nat→Value→World→Prop) (l0:List Oper) (K:Nat) (mu:Nat):Nat→List Oper→Prop
 |_,[]=>True
 |i,o::r=>(Nat.beq i mu=false→match nv l0 K mu i with
   |true=>∀ w',I1 w'→ju R1 w' (f_ l0 K i o) fun M=>aw P ops n (M++L) o w' (R1 (o.dst.getD 0))
   |false=>∀ w',I2 w'→ju R2 w' (f_ l0 K i o) fun M=>aw P ops n (M++L) o w' (R1 (o.dst.getD 0)))∧lQ P ops n L I1 I2 R1 R2 l0 K mu (i+1) r
theorem mM {P:Program} {ops:Array Oper} {n:Fr} {L:List (Nat×Value)} {I1 I2:World→Prop} {R1 R2:Nat→Value→World→Prop} {l0:List Oper} {K mu:Nat}:∀ {l:List Oper} {k:Nat},lQ P ops n L I1 I2 R1 R2 l0 K mu k l→∀ (i:Nat) (o:Oper),l[i]? =some o→k+i≠mu→
 match nv l0 K mu (k+i) with
  |true=>∀ w',I1 w'→ju R1 w' (f_ l0 K (k+i) o) fun M=>aw P ops n (M++L) o w' (R1 (o.dst.getD 0))
  |false=>∀ w',I2 w'→ju R2 w' (f_ l0 K (k+i) o) fun M=>aw P ops n (M++L) o w' (R1 (o.dst.getD 0))
 |[],_,_,i,o,h,_=>by simp at h
 |x::r,k,⟨h1,h2⟩,0,o,h,hne=>by
  simp only [List.getElem?_cons_zero,Option.some.injEq] at h;subst h;rw [Nat.add_zero] at hne ⊢;refine h1 ?_;rw [←Bool.not_eq_true];intro hb;exact hne (Nat.eq_of_beq_eq_true hb)
 |x::r,k,⟨h1,h2⟩,i+1,o,h,hne=>by
  have:=mM h2 i o (by simpa using h) (by omega)
  rwa [show k+1+i=k+(i+1) by omega] at this
theorem oI {P:Program} {ops:Array Oper} {n:Fr} {L:List (Nat×Value)} {I1 I2:World→Prop} {R1 R2:Nat→Value→World→Prop} {l0:List Oper} {K mu:Nat} {l:List Oper} (h:lQ P ops n L I1 I2 R1 R2 l0 K mu 0 l) (i:Nat) (o:Oper) (ho:l[i]? =some o) (hne:i≠mu) (hd:nv l0 K mu i=false)
 (w':World) (hw:I2 w'):ju R2 w' (f_ l0 K i o) fun M=>aw P ops n (M++L) o w' (R1 (o.dst.getD 0)):=by
 have:=mM h i o ho (by rw [Nat.zero_add];exact hne);rw [Nat.zero_add,hd] at this;exact this w' hw
theorem tj {P:Program} {ops:Array Oper} {n:Fr} {L:List (Nat×Value)} {I1 I2:World→Prop} {R1 R2:Nat→Value→World→Prop} {l0:List Oper} {K mu:Nat} {l:List Oper} (h:lQ P ops n L I1 I2 R1 R2 l0 K mu 0 l) (i:Nat) (o:Oper) (ho:l[i]? =some o) (hne:i≠mu) (hd:nv l0 K mu i=true)
 (w':World) (hw:I1 w'):ju R1 w' (f_ l0 K i o) fun M=>aw P ops n (M++L) o w' (R1 (o.dst.getD 0)):=by
 have:=mM h i o ho (by rw [Nat.zero_add];exact hne);rw [Nat.zero_add,hd] at this;exact this w' hw
section late
variable {P:Program} {Q:Exit→Act→World→Prop} {n:Fr} {L:List (Nat×Value)} {w:World} {l:List Oper} {K mu:Nat} {I1 I2:World→Prop} {R1 R:Nat→Value→World→Prop}
theorem p4 (hQ:PQ Q) (hc:lA l K=true) (hop:lQ P l.toArray n L I1 I2 R1 R l K mu 0 (l.take K)) (h12:∀ t v w,R1 t v w→R t v w) (hmuL:mu<K→eG l K mu=false)
 (hend:∀ w',I2 w'→ju R w' (fV l K) fun M=>St P l.toArray Q (l.drop K) n (M++L) w') (m:Nat) (listed:Array Bool) (L':List (Nat×Value)) (w':World) (hcl:il l listed) (hcount:listed.toList.count false=m) (hs:listed.size=l.length)
 (htail:∀ j,K≤j→j<l.length→listed.getD j true=false) (hF:I2 w')
 (hfr:∀ t,(∀ i o,i<K→l[i]? =some o→listed.getD i true=true→o.dst≠some t)→bu L' t=bu L t)
 (hR:∀ i o d,i<K→l[i]? =some o→listed.getD i true=true→o.dst=some d→R d (bu L' d) w') (hpre:∀ i,i<K→listed.getD i true=false→eG l K i=true):wpAny P .any l.toArray Q m listed (mkA n L') w':=by
 have hc1:=(Bool.and_eq_true_iff.1 hc).1;have hlate:=(Bool.and_eq_true_iff.1 hc).2;have hKl:K≤l.length:=dT_ (Bool.and_eq_true_iff.1 hc1).1;have hck:=(List.all_eq_true.1 (Bool.and_eq_true_iff.1 hc1).2)
 have hhead:∀ i,i<K→∃ o d,l[i]? =some o∧o.dst=some d∧dO o.op=false∧(∀ j oj,j<K→j≠i→l[j]? =some oj→oj.dst≠some d):=by
  intro i hi;have hil:i<l.length:=by omega
  have hx:=hck i (List.mem_range.2 hil);rw [List.getElem?_eq_getElem hil] at hx;simp only [Bool.and_eq_true] at hx;have h3:=hx.2;rw [if_pos hi] at h3;simp only [Bool.and_eq_true] at h3;obtain ⟨h3a,h3b⟩:=h3;cases hod:(l[i]).dst with
  |none=>rw [hod] at h3a;cases h3a
  |some d=>
   rw [hod] at h3a;simp only [Bool.and_eq_true] at h3a;refine ⟨l[i],d,List.getElem?_eq_getElem hil,hod,by simpa using hx.1.2,fun j oj hj hne hoj e=>?_⟩;have h5:=List.all_eq_true.1 h3a.1 j (List.mem_range.2 hj);rw [hoj] at h5;simp [hne,e] at h5
 have hval:∀ i,i<K→listed.getD i true=false→∃ v,∀ o d,l[i]? =some o→o.dst=some d→Yields P l.toArray o v (mkA n L')∧R d v w':=by
  intro i hi hf;have hil8:=hpre i hi hf;obtain ⟨o,d,ho,hd,hsel,_⟩:=hhead i hi;obtain ⟨hk,hg,hap⟩:=jd hlate hi ho hil8
  have hfact:∀ t∈f_ l K i o,R t (bu L' t) w':=by
   intro t ht;obtain ⟨ht2,j,oj,hjK,hj,hdj,hji,_⟩:=jx hc hi ho ht;refine hR j oj t hjK hj ?_ hdj;cases hb:listed.getD j true with
   |true=>rfl
   |false=>
    have h6:=hpre j hjK hb;have h7:=(Oper.apart_spec (hap j oj hj (by omega) (.inl ⟨hjK,h6⟩))).2.2 t hdj;exact absurd (by simpa using ht2) h7
  have hlooks:=qA (L:=L) hc hcl hs ho (by omega) hf hfr
  have hnd:nv l K mu i=false:=by
   rw [←Bool.not_eq_true];intro hd;obtain ⟨hmK,om,hom,hdep⟩:=o0 hd
   have hml:listed.getD mu true=true:=by
    cases hb:listed.getD mu true with
    |true=>rfl
    |false=>exact absurd (hpre mu hmK hb) (by rw [hmuL hmK];simp)
   have hml2:listed.getD mu false=true:=by rw [←bM (by omega)];exact hml
   have:=fM hcl (fun e he hb=>hcl mu om hom hml2 e he hb) hdep;rw [←bM (by omega),hf] at this;cases this
  have hok:=gn (bu L') _ hfact (oI hop i o (by rw [List.getElem?_take,if_pos hi];exact ho) (by intro e;rw [e,hmuL (by omega)] at hil8;cases hil8) hnd w' hF);obtain ⟨hE,hW⟩:=fT (n:=n) (ops:=l.toArray) (o:=o) hsel hlooks;rw [hd] at hok;simp only [Option.getD_some] at hok
  have hyl:∃ v,Yields P l.toArray o v (mkA n L')∧R d v w':=by
   unfold aw at hok;rw [hE,hW] at hok;rcases hok with ⟨hw,⟨v,w'',hr,hF',hRv⟩ | ⟨f,args,hr,hcall⟩⟩ | ⟨hw,hRv⟩
   ·obtain ⟨rfl,hall⟩:=rZ hk hr;refine ⟨v,.inl ⟨hw,fun w2=>?_⟩,h12 _ _ _ hRv⟩;rw [dy];exact hall w2
   ·exfalso;obtain ⟨dst,op,ty,pos,after,guard⟩:=o;cases op <;> simp only [oQ,Bool.false_eq_true] at hk <;> simp only [execOp,Sem.run_pure,Sem.run_bind,Result.ok.injEq] at hr
    ·cases hr.1
    ·cases hr.1
    ·rename_i x i';cases hx:ev n L' x <;> simp only [hx,Instr.extract] at hr <;> (try (simp at hr;done))
     rename_i vs;cases hv:vs[i']? <;> simp [hv] at hr
   ·exact ⟨undef,.inr ⟨hw,rfl⟩,h12 _ _ _ hRv⟩
  obtain ⟨v,hv1,hv2⟩:=hyl;refine ⟨v,fun o' d' ho' hd'=>?_⟩;rw [ho] at ho';cases ho';rw [hd] at hd';cases hd';exact ⟨hv1,hv2⟩
 obtain ⟨f,hf⟩:∃ f:Nat→Value,∀ i,i<K→listed.getD i true=false→∀ o d,l[i]? =some o→o.dst=some d→Yields P l.toArray o (f i) (mkA n L')∧R d (f i) w':=by
  refine ⟨fun i=>open Classical in if h:∃ v,∀ o d,l[i]? =some o→o.dst=some d→Yields P l.toArray o v (mkA n L')∧R d v w' then h.choose else undef,fun i hi hl=>?_⟩;have h:=hval i hi hl;simp only [dif_pos h];exact h.choose_spec
 have hUm:∀ i,i∈(List.range K).filter (fun i=> !listed.getD i true)↔i<K∧listed.getD i true=false:=fun i=>by
  rw [List.mem_filter,List.mem_range];simp
 obtain ⟨U,hU,hUn⟩:∃ U:List Nat,(∀ i,i∈U↔i<K∧listed.getD i true=false)∧U.Nodup:=⟨_,hUm,List.nodup_range.sublist (List.filter_sublist ..)⟩;have hbind:∀ {i:Nat} {o:Oper},l[i]? =some o→(l[i]?).bind (·.dst)=o.dst:=fun h=>by rw [h];rfl
 have hRall:∀ d∈fV l K,R d (bu ((U.filterMap fun i=>((l[i]?).bind (·.dst)).map fun d=>(d,f i))++L') d) w':=by
  intro d hd;obtain ⟨o,ho,hod⟩:=List.mem_filterMap.1 hd;obtain ⟨i,hi⟩:=List.mem_iff_getElem?.1 ho;rw [List.getElem?_take] at hi;split at hi
  ·rename_i hiK;obtain ⟨o',d',ho',hd',_,hdist⟩:=hhead i hiK;rw [hi] at ho';cases ho';rw [hod] at hd';cases hd'
   have hne:∀ j∈U,j≠i→(l[j]?).bind (·.dst)≠some d:=fun j hj hji=>by
    have hjK:=((hU j).1 hj).1;obtain ⟨oj,dj,hoj,_⟩:=hhead j hjK;rw [hbind hoj];exact hdist j oj hjK hji hoj
   cases hb:listed.getD i true with
   |true=>
    rw [iT U fun j hj=>hne j hj (fun e=>by subst e;have:=((hU j).1 hj).2;rw [hb] at this;cases this)];exact hR i o d hiK hi hb hod
   |false=>
    rw [j_ U ((hU i).2 ⟨hiK,hb⟩) ((hbind hi).trans hod) hne];exact (hf i hiK hb o d hi hod).2
  ·cases hi
 have he:=gn _ (fV l K) hRall (hend w' hF)
 have hL:mkA n ((fV l K).map (fun d=>(d,bu ((U.filterMap fun i=>((l[i]?).bind (·.dst)).map fun d=>(d,f i))++L') d))++L)=iM l f U (mkA n L'):=by
  rw [oF];refine gZ fun t _=>?_
  rw [jP];split
  ·rfl
  ·rename_i hne
   have hnd:∀ i,i<K→∀ o,l[i]? =some o→o.dst≠some t:=fun i hi o ho hod=>hne (by
    simp only [List.elem_eq_mem,decide_eq_true_eq];exact List.mem_filterMap.2 ⟨o,List.mem_iff_getElem?.2 ⟨i,by rw [List.getElem?_take,if_pos hi];exact ho⟩,hod⟩)
   rw [iT U fun j hj=>by
    have hjK:=((hU j).1 hj).1;obtain ⟨oj,dj,hoj,_⟩:=hhead j hjK;rw [hbind hoj];exact hnd j hjK oj hoj]
   exact (hfr t fun i o hi ho _ hod=>hnd i hi o ho hod).symm
 replace he:=he.out;rw [hL] at he;refine oi hQ hc m K listed U _ w' hcl hcount hs (Nat.le_refl _) hKl (fun j h1 h2=>by rw [htail j h1 h2];simp [h1]) hUn (fun j hj=>⟨fun h=>(hU j).2 ⟨hj,h⟩,fun h=>((hU j).1 h).2⟩) (fun j hj=>?_) he;obtain ⟨h1,h2⟩:=(hU j).1 hj;obtain ⟨oj,dj,hoj,hdj,_⟩:=hhead j h1;exact ⟨h1,hpre j h1 h2,oj,hoj,(hf j h1 h2 oj dj hoj hdj).1⟩
theorem w_ (hQ:PQ Q) (hc:lA l K=true) (hm1:∀ w1 w2,ag w1 w2→I1 w1→I1 w2) (hm2:∀ w1 w2,ag w1 w2→I2 w1→I2 w2) (hmono1:∀ t v w1 w2,ag w1 w2→R1 t v w1→R1 t v w2) (hmono:∀ t v w1 w2,ag w1 w2→R t v w1→R t v w2)
 (hop:lQ P l.toArray n L I1 I2 R1 R l K mu 0 (l.take K)) (h12:∀ t v w,R1 t v w→R t v w) (hmuL:mu<K→eG l K mu=false) (hmu:zo P l.toArray n L I1 I2 R1 R l K mu l[mu]?)
 (hend:∀ w',I2 w'→ju R w' (fV l K) fun M=>St P l.toArray Q (l.drop K) n (M++L) w') :
 ∀ (m:Nat) (listed:Array Bool) (L':List (Nat×Value)) (w':World),il l listed→listed.toList.count false=m→listed.size=l.length→(∀ j,K≤j→j<l.length→listed.getD j true=false)→I2 w'→(listed.getD mu true=false→I1 w')→
  (∀ t,(∀ i o,i<K→l[i]? =some o→listed.getD i true=true→o.dst≠some t)→bu L' t=bu L t)→
  (∀ i o d,i<K→l[i]? =some o→listed.getD i true=true→o.dst=some d→R d (bu L' d) w')→(listed.getD mu true=false→∀ i o d,i<K→l[i]? =some o→listed.getD i true=true→o.dst=some d→R1 d (bu L' d) w')→wpAny P .any l.toArray Q m listed (mkA n L') w':=by
 have hc1:=(Bool.and_eq_true_iff.1 hc).1;have hlate:=(Bool.and_eq_true_iff.1 hc).2;have hKl:K≤l.length:=dT_ (Bool.and_eq_true_iff.1 hc1).1;have hck:=(List.all_eq_true.1 (Bool.and_eq_true_iff.1 hc1).2);intro m
 induction m with
 |zero=>
  intro listed L' w' hcl hcount hs htail hF hF1 hfr hR hR1
  exact p4 hQ hc hop h12 hmuL hend 0 listed L' w' hcl hcount hs htail hF hfr hR (fun i hi h=>by
   have hm:listed[i]'(by omega)∈listed.toList:=by simp
   have hb:listed[i]'(by omega)=false:=by simpa [Array.getD,show i<listed.size by omega] using h
   rw [hb] at hm;exact absurd hcount (Nat.pos_iff_ne_zero.1 (List.count_pos_iff.2 hm)))
 |succ m ih=>
  intro listed L' w' hcl hcount hs htail hF hF1 hfr hR hR1;by_cases hpre:∀ i,i<K→listed.getD i true=false→eG l K i=true
  ·exact p4 hQ hc hop h12 hmuL hend (m+1) listed L' w' hcl hcount hs htail hF hfr hR hpre
  ·
   have hn0:∃ i,i<K∧listed.getD i true=false∧eG l K i=false:=by
    refine Classical.byContradiction fun hno=>hpre fun i hi hf=>?_
    cases hb:eG l K i with
    |true=>rfl
    |false=>exact absurd ⟨i,hi,hf,hb⟩ hno
   obtain ⟨n0,hn0⟩:=hn0;obtain ⟨i0,hi0,hmin⟩:=exists_least (p:=fun i=>i<K∧listed.getD i true=false) ⟨n0,hn0.1,hn0.2.1⟩;have hi0l:i0<l.length:=by omega
   have hready:i0∈Region.ready .any l.toArray listed:=by
    refine mem_ready.2 ⟨hi0.2,l[i0],by rw [List.getElem?_toArray,List.getElem?_eq_getElem hi0l],fun e he hb=>?_⟩;have hx:=hck i0 (List.mem_range.2 hi0l);rw [List.getElem?_eq_getElem hi0l] at hx;simp only [Bool.and_eq_true] at hx;have he2:=List.all_eq_true.1 hx.1.1 e (by simpa using he);rw [hb] at he2;simp at he2;rw [←bM (by omega)];cases hb2:listed.getD e.on true with
    |true=>rfl
    |false=>exact absurd (hmin e.on ⟨by omega,hb2⟩) (by omega)
   refine ⟨fun h0=>(by rw [h0] at hready;cases hready),fun i hi=>?_⟩;obtain ⟨h0,o,ho,hall⟩:=mem_ready.1 hi;rw [List.getElem?_toArray] at ho;have hil:i<l.length:=(List.getElem?_eq_some_iff.1 ho).1;have hx:=hck i (List.mem_range.2 hil);rw [ho] at hx;simp only [Bool.and_eq_true] at hx
   have hiK:i<K:=by
    rcases Nat.lt_or_ge i K with h | h
    ·exact h
    ·exfalso;have h5:=fM hcl hall (lz hn0.2.2 ho h);rw [←bM (by omega),hn0.2.1] at h5;cases h5
   have h3:=hx.2;rw [if_pos hiK] at h3;simp only [Bool.and_eq_true] at h3;obtain ⟨h3a,h3b⟩:=h3;cases hod:o.dst with
   |none=>rw [hod] at h3a;cases h3a
   |some d=>
    rw [hod] at h3a;simp only [Bool.and_eq_true] at h3a;have hlooks:=qA (L:=L) hc hcl hs ho hil h0 hfr
    have hfactG:∀ (RR:Nat→Value→World→Prop),(∀ i o d,i<K→l[i]? =some o→listed.getD i true=true→o.dst=some d→RR d (bu L' d) w')→∀ t∈f_ l K i o,RR t (bu L' t) w':=by
     intro RR hRR t ht;obtain ⟨_,j,oj,hjK,hj,hd,_,hdep⟩:=jx hc hiK ho ht;have h6:=fM hcl hall hdep;exact hRR j oj t hjK hj (by rw [bM (by omega)];exact h6) hd
    have hsel:dO o.op=false:=by simpa using hx.1.2
    obtain ⟨hE,hW⟩:=fT (n:=n) (ops:=l.toArray) (o:=o) hsel hlooks
    have next:∀ v w'',I2 w''→(i≠mu→listed.getD mu true=false→I1 w'')→R d v w''→(i≠mu→R1 d v w'')→(∀ t u,t≠d→R t u w'→(i=mu→R1 t u w')→R t u w'')→(i≠mu→∀ t u,R1 t u w'→R1 t u w'')→wpAny P .any l.toArray Q m (listed.setIfInBounds i true) ((mkA n L').put (some d) v) w'':=by
     intro v w'' hI2' hI1' hRv hR1v hst hst1;rw [fJ]
     have hne:∀ j oj d',j<K→l[j]? =some oj→j≠i→oj.dst=some d'→d'≠d:=by
      intro j oj d' hj hoj hji hd e;have h5:=List.all_eq_true.1 h3a.1 j (List.mem_range.2 hj);rw [hoj] at h5;simp [hji,hd,e] at h5
     refine ih _ _ w'' (ka hcl ho hall) ?_ (by simpa using hs) (fun j hj1 hj2=>?_) hI2' (fun hml=>?_) (fun t ht=>?_) (fun j oj d' hj hoj hlj hd=>?_) (fun hml j oj d' hj hoj hlj hd=>?_)
     ·have hil':i<listed.size:=by omega
      have hfalse:listed.toList[i]? =some false:=by
       rw [Array.getElem?_toList,Array.getElem?_eq_getElem hil'];simp [Array.getD,hil'] at h0;rw [h0]
      rw [Array.toList_setIfInBounds];have:=eW (l:=listed.toList) (i:=i) hfalse;omega
     ·rw [getD_set_ne true (by omega)];exact htail j hj1 hj2
     ·have him:i≠mu:=fun e=>by subst e;simp [show i<listed.size by omega] at hml
      rw [getD_set_ne true him] at hml;exact hI1' him hml
     ·have htd:t≠d:=fun e=>ht i o hiK ho (by simp [show i<listed.size by omega]) (by rw [hod,e])
      rw [cM,if_neg htd];refine hfr t fun j oj hj hoj hlj=>ht j oj hj hoj ?_
      by_cases e:i=j
      ·subst e;rw [h0] at hlj;cases hlj
      ·rw [getD_set_ne true e];exact hlj
     ·rw [cM];by_cases e:j=i
      ·subst e;rw [ho] at hoj;cases hoj;rw [hod] at hd;cases hd;rw [if_pos rfl];exact hRv
      ·have hdd:=hne j oj d' hj hoj e hd;rw [if_neg hdd];rw [getD_set_ne true (Ne.symm e)] at hlj;refine hst _ _ hdd (hR j oj d' hj hoj hlj hd) (fun e2=>?_);subst e2;exact hR1 h0 j oj d' hj hoj hlj hd
     ·have him:i≠mu:=fun e=>by subst e;simp [show i<listed.size by omega] at hml
      rw [getD_set_ne true him] at hml;rw [cM];by_cases e:j=i
      ·subst e;rw [ho] at hoj;cases hoj;rw [hod] at hd;cases hd;rw [if_pos rfl];exact hR1v him
      ·rw [if_neg (hne j oj d' hj hoj e hd)];rw [getD_set_ne true (Ne.symm e)] at hlj;exact hst1 him _ _ (hR1 hml j oj d' hj hoj hlj hd)
    unfold wpOp;rw [List.getElem?_toArray,ho];show if Region.wanted o (yielded l.toArray (mkT n.n L'))=true then _ else _
    by_cases him:i=mu
    ·subst him;rw [ho] at hmu;have hok:=gn (bu L') _ (hfactG R1 (hR1 h0)) (hmu w' (hF1 h0));rw [hod] at hok;simp only [Option.getD_some] at hok;unfold vP at hok;rw [hE,hW] at hok;obtain ⟨hw,⟨v,w'',hr,hI,hRv,hst⟩ | ⟨f,args,hr,hcall⟩⟩:=hok
     ·rw [if_pos hw];refine .inl ?_;unfold Oper.wp;rw [dy,hr,Oper.upon_value,hod];exact next v w'' hI (fun h=>absurd rfl h) hRv (fun h=>absurd rfl h) (fun t u ht _ h1=>hst t u ht (h1 rfl)) (fun h=>absurd rfl h)
     ·rw [if_pos hw];refine .inl ?_;unfold Oper.wp;rw [dy,hr,Oper.upon_enter,hod];refine Calls.mono hcall fun e w'' ⟨v,he,hI,hRv,hst⟩=>?_
      subst he;exact next v w'' hI (fun h=>absurd rfl h) hRv (fun h=>absurd rfl h) (fun t u ht _ h1=>hst t u ht (h1 rfl)) (fun h=>absurd rfl h)
    ·have hok:aw P l.toArray n (((f_ l K i o).map fun d=>(d,bu L' d))++L) o w' (R1 (o.dst.getD 0)):=by
      cases hdm:nv l K mu i with
      |false=>exact gn (bu L') _ (hfactG R hR) (oI hop i o (by rw [List.getElem?_take,if_pos hiK];exact ho) him hdm w' hF)
      |true=>
       have hml:listed.getD mu true=false:=by
        obtain ⟨hmK,om,hom,hdep⟩:=o0 hdm;rw [←Bool.not_eq_true];intro hml;have hml2:listed.getD mu false=true:=by rw [←bM (by omega)];exact hml
        have:=fM hcl (fun e he hb=>hcl mu om hom hml2 e he hb) hdep;rw [←bM (by omega),h0] at this;cases this
       exact gn (bu L') _ (hfactG R1 (hR1 hml)) (tj hop i o (by rw [List.getElem?_take,if_pos hiK];exact ho) him hdm w' (hF1 hml))
     rw [hod] at hok;simp only [Option.getD_some] at hok;unfold aw at hok;rw [hE,hW] at hok
     have next':∀ v w'',ag w' w''→R1 d v w''→wpAny P .any l.toArray Q m (listed.setIfInBounds i true) ((mkA n L').put (some d) v) w'':=fun v w'' hF' hRv=>
      next v w'' (hm2 _ _ hF' hF) (fun _ h=>hm1 _ _ hF' (hF1 h)) (h12 _ _ _ hRv) (fun _=>hRv) (fun t u _ h _=>hmono _ _ _ _ hF' h) (fun _ t u h=>hmono1 _ _ _ _ hF' h)
     rcases hok with ⟨hw,⟨v,w'',hr,hF',hRv⟩ | ⟨f,args,hr,hcall⟩⟩ | ⟨hw,hRv⟩
     ·rw [if_pos hw];refine .inl ?_;unfold Oper.wp;rw [dy,hr,Oper.upon_value,hod];exact next' v w'' hF' hRv
     ·rw [if_pos hw];refine .inl ?_;unfold Oper.wp;rw [dy,hr,Oper.upon_enter,hod];refine Calls.mono hcall fun e w'' ⟨v,he,hF',hRv⟩=>?_
      subst he;exact next' v w'' hF' hRv
     ·rw [if_neg (by rw [hw];simp),hod];exact next' undef w' ag.rfl_ hRv
theorem xX {id:Nat} (K mu:Nat) (Ex:List Nat) (RL:List (Nat×(Value→World→Prop))) (I1 I2:World→Prop) (hQ:PQ Q) (hm:P.follows .mixedOrders=true) (hc:lA l K=true) (hl:eG l K mu=false) (hmono:qk RL)
 (h0:I1 { w with drawn:=w.drawn+1 }) (h0':I2 { w with drawn:=w.drawn+1 }) (hm1:∀ w1 w2,ag w1 w2→I1 w1→I1 w2) (hm2:∀ w1 w2,ag w1 w2→I2 w1→I2 w2)
 (hop:lQ P l.toArray n L I1 I2 (gR RL) (kG Ex RL) l K mu 0 (l.take K)) (hmu:zo P l.toArray n L I1 I2 (gR RL) (kG Ex RL) l K mu l[mu]?)
 (hend:∀ w',I2 w'→ju (kG Ex RL) w' (fV l K) fun M=>St P l.toArray Q (l.drop K) n (M++L) w'):Cd P (.region id l.toArray true) Q n L w:=by
 refine ⟨wp_region_any hm ?_⟩;have hKl:K≤l.length:=dT_ (Bool.and_eq_true_iff.1 (Bool.and_eq_true_iff.1 hc).1).1
 have:=w_ (Q:=Q) hQ hc hm1 hm2 (g_ hmono) (tu hmono) hop xy (fun _=>hl) hmu hend l.length (Array.replicate l.length false) L { w with drawn:=w.drawn+1 } (nw l _) (by simp) (by simp)
  (fun j _ hj=>by simp [Array.getD,hj]) h0' (fun _=>h0) (fun _ _=>rfl) (fun i o d hi _ hl=>by
   have:i<l.length:=by omega
   simp [Array.getD,this] at hl) (fun _ i o d hi _ hl=>by
   have:i<l.length:=by omega
   simp [Array.getD,this] at hl)
 simpa using this
end late
end Go.Proofs.YtkpooenofjdpmaaGreat
namespace Go.Proofs.YtkpooenofjdpmaaGreat
open Go.Proofs.Tryz (prog)
open Go.RowKit
def atL {α:Type _}:List α→Nat→Option α
 |[],_=>none
 |x::_,0=>some x
 |_::r,k+1=>atL r k
theorem gM {α:Type _} {x:α}:∀ {l:List α} (k:Nat),atL l k=some x→x∈l
 |[],_,h=>by cases h
 |y::r,0,h=>by
  cases h;exact List.mem_cons_self
 |y::r,k+1,h=>List.mem_cons_of_mem _ (gM k h)
def oY (l:List Oper):Bool:=(List.range l.length).all fun i=>match l[i]? with
 |none=>false
 |some o=>o.guard.isNone&&o.after.toList.all fun e=> !Region.binds .any e||decide (e.on<i)
def dH (S:Nat→Bool) (i:Nat):Nat→Bool:=fun j=>if j=i then true else S j
def gD (P:Program) (n:Fr) (o:Oper) (Inv:List (Nat×Value)→World→Prop) (L':List (Nat×Value)) (w':World):Prop:=
 (∃ d v w'',o.dst=some d∧(execOp (ev n L') o).run P w'=.ok (.value v) w''∧Inv ((d,v)::L') w'')∨
 (∃ w'',o.dst=none∧(execOp (ev n L') o).run P w'=.ok .skip w''∧Inv L' w'')∨
 (∃ d f args,o.dst=some d∧(execOp (ev n L') o).run P w'=.ok (.enter f (List.toArray args)) w'∧Rt P f args w' fun v w''=>Inv ((d,v)::L') w'')
section
variable {P:Program} {Q:Exit→Act→World→Prop} {n:Fr} {L:List (Nat×Value)} {w:World} {l:List Oper}
theorem yT {Inv:(Nat→Bool)→List (Nat×Value)→World→Prop} (hwf:oY l=true)
 (hstep:∀ (i:Nat) (o:Oper) (S:Nat→Bool) (L':List (Nat×Value)) (w':World),l[i]? =some o→Inv S L' w'→S i=false→(∀ e∈o.after,Region.binds .any e=true→S e.on=true)→gD P n o (Inv (dH S i)) L' w')
 (hend:∀ L' w',Inv (fun i=>decide (i<l.length)) L' w'→Q .normal (mkA n L') w') :
 ∀ (m:Nat) (listed:Array Bool) (L':List (Nat×Value)) (w':World),listed.toList.count false=m→listed.size=l.length→Inv (fun i=>listed.getD i false) L' w'→wpAny P .any l.toArray Q m listed (mkA n L') w':=by
 have hck:=List.all_eq_true.1 hwf;intro m
 induction m with
 |zero=>
  intro listed L' w' hcount hs hI
  have hall:∀ i,i<l.length→listed.getD i false=true:=fun i hi=>by
   have hm:listed[i]'(by omega)∈listed.toList:=by simp
   cases hb:listed[i]'(by omega) with
   |true=>simp [Array.getD,show i<listed.size by omega,hb]
   |false=>rw [hb] at hm;exact absurd hcount (Nat.pos_iff_ne_zero.1 (List.count_pos_iff.2 hm))
  have e:(fun i=>listed.getD i false)=fun i=>decide (i<l.length):=by
   funext i
   by_cases hi:i<l.length
   ·rw [hall i hi,decide_eq_true hi]
   ·rw [decide_eq_false hi];simp [Array.getD,show ¬ i<listed.size by omega]
  rw [e] at hI;refine ⟨?_,hend L' w' hI⟩;cases hr:Region.ready .any l.toArray listed with
  |nil=>rfl
  |cons i r=>
   exfalso;obtain ⟨h0,o,ho,_⟩:=mem_ready.1 (show i∈Region.ready .any l.toArray listed by rw [hr];simp);rw [List.getElem?_toArray] at ho;have hil:i<l.length:=(List.getElem?_eq_some_iff.1 ho).1;have:=hall i hil;rw [←bM (by omega),h0] at this;cases this
 |succ m ih=>
  intro listed L' w' hcount hs hI
  have hn0:∃ i,i<l.length∧listed.getD i true=false:=by
   have hpos:0<listed.toList.count false:=by omega
   obtain ⟨i,hi,hb⟩:=List.getElem_of_mem (List.count_pos_iff.1 hpos);rw [Array.length_toList] at hi;refine ⟨i,by omega,?_⟩;rw [Array.getElem_toList] at hb;simp [Array.getD,hi,hb]
  obtain ⟨i0,hi0,hmin⟩:=exists_least (p:=fun i=>i<l.length∧listed.getD i true=false) hn0
  have hready:i0∈Region.ready .any l.toArray listed:=by
   refine mem_ready.2 ⟨hi0.2,l[i0]'hi0.1,by rw [List.getElem?_toArray,List.getElem?_eq_getElem hi0.1],fun e he hb=>?_⟩;have hx:=hck i0 (List.mem_range.2 hi0.1);rw [List.getElem?_eq_getElem hi0.1] at hx;simp only [Bool.and_eq_true] at hx;have he2:=List.all_eq_true.1 hx.2 e (by simpa using he);rw [hb] at he2;simp at he2;have:=hi0.1;rw [←bM (by omega)];cases hb2:listed.getD e.on true with
   |true=>rfl
   |false=>exact absurd (hmin e.on ⟨by omega,hb2⟩) (by omega)
  refine ⟨fun h0=>(by rw [h0] at hready;cases hready),fun i hi=>?_⟩;obtain ⟨h0,o,ho,hall⟩:=mem_ready.1 hi;rw [List.getElem?_toArray] at ho;have hil:i<l.length:=(List.getElem?_eq_some_iff.1 ho).1;have hx:=hck i (List.mem_range.2 hil);rw [ho] at hx;simp only [Bool.and_eq_true] at hx;have hg:o.guard=none:=by simpa using hx.1
  have h0f:listed.getD i false=false:=by rw [←bM (by omega)];exact h0
  have hset:(fun j=>(listed.setIfInBounds i true).getD j false)=dH (fun j=>listed.getD j false) i:=by
   funext j
   unfold dH;by_cases e:j=i
   ·subst e;simp [Array.getD,show j<listed.size by omega]
   ·rw [if_neg e,getD_set_ne false (Ne.symm e)]
  have hcnt:(listed.setIfInBounds i true).toList.count false=m:=by
   have hil':i<listed.size:=by omega
   have hfalse:listed.toList[i]? =some false:=by
    rw [Array.getElem?_toList,Array.getElem?_eq_getElem hil'];simp [Array.getD,hil'] at h0;rw [h0]
   rw [Array.toList_setIfInBounds];have:=eW (l:=listed.toList) (i:=i) hfalse;omega
  have next:∀ L2 w2,Inv (dH (fun j=>listed.getD j false) i) L2 w2→wpAny P .any l.toArray Q m (listed.setIfInBounds i true) (mkA n L2) w2:=fun L2 w2 h=>
   ih _ L2 w2 hcnt (by simpa using hs) (by rw [hset];exact h)
  unfold wpOp;rw [List.getElem?_toArray,ho];show if Region.wanted o (yielded l.toArray (mkT n.n L'))=true then _ else _
  rw [if_pos (by unfold Region.wanted;rw [hg])];refine .inl ?_;unfold Oper.wp;rw [dy];rcases hstep i o _ L' w' ho hI h0f hall with ⟨d,v,w'',hd,hr,hI2⟩ | ⟨w'',hd,hr,hI2⟩ | ⟨d,f,args,hd,hr,hc⟩
  ·rw [hr,Oper.upon_value,hd,fJ];exact next _ _ hI2
  ·rw [hr,Oper.upon_skip,hd];exact next _ _ hI2
  ·rw [hr,Oper.upon_enter,hd];refine Calls.mono hc fun e w'' ⟨v,he,hI2⟩=>?_
   subst he;show wpAny P .any l.toArray Q m (listed.setIfInBounds i true) ((mkA n L').put (some d) v) w'';rw [fJ];exact next _ _ hI2
theorem tQ {id:Nat} (Inv:(Nat→Bool)→List (Nat×Value)→World→Prop) (hm:P.follows .mixedOrders=true) (hwf:oY l=true) (h0:Inv (fun _=>false) L { w with drawn:=w.drawn+1 })
 (hstep:∀ (i:Nat) (o:Oper) (S:Nat→Bool) (L':List (Nat×Value)) (w':World),l[i]? =some o→Inv S L' w'→S i=false→(∀ e∈o.after,Region.binds .any e=true→S e.on=true)→gD P n o (Inv (dH S i)) L' w')
 (hend:∀ L' w',Inv (fun i=>decide (i<l.length)) L' w'→Q .normal (mkA n L') w'):Cd P (.region id l.toArray true) Q n L w:=by
 refine ⟨wp_region_any hm ?_⟩
 have:=yT (Q:=Q) hwf hstep hend l.length (Array.replicate l.length false) L { w with drawn:=w.drawn+1 } (by simp) (by simp) (by
  have e:(fun i=>(Array.replicate l.length false).getD i false)=fun _=>false:=by
   funext i
   by_cases hi:i<l.length <;> simp [Array.getD,hi]
  rw [e];exact h0)
 simpa using this
theorem bq {d:Nat} {op:Op} {ty:TypeId} {pos:String} {after:Array Edge} {v:Value} {w' w'':World} {L':List (Nat×Value)} {Inv:List (Nat×Value)→World→Prop} (h:RO P (ev n L') op w' v w'') (hI:Inv ((d,v)::L') w''):gD P n ⟨some d,op,ty,pos,after,none⟩ Inv L' w':=
 .inl ⟨d,v,w'',rfl,h _ _ _ _ _,hI⟩
theorem fI {op:Op} {ty:TypeId} {pos:String} {after:Array Edge} {w' w'':World} {L':List (Nat×Value)} {Inv:List (Nat×Value)→World→Prop} (h:RS P (ev n L') op w' w'') (hI:Inv L' w''):gD P n ⟨none,op,ty,pos,after,none⟩ Inv L' w':=
 .inr (.inl ⟨w'',rfl,h _ _ _ _ _,hI⟩)
def iG (L:List (Nat×Value)) (T:List (Nat×Nat×Value)) (S:Nat→Bool) (L':List (Nat×Value)):Prop:=
 (∀ t,(∀ p∈T,p.2.1≠t)→bu L' t=bu L t)∧(∀ p∈T,S p.1=true→bu L' p.2.1=p.2.2)∧∀ p∈T,S p.1=false→bu L' p.2.1=bu L p.2.1
def ke:List (Nat×Nat×Value)→Prop
 |[]=>True
 |p::r=>(∀ q∈r,q.1≠p.1∧q.2.1≠p.2.1)∧ke r
theorem qn:∀ {T:List (Nat×Nat×Value)},ke T→∀ {p q:Nat×Nat×Value},p∈T→q∈T→p.1=q.1∨p.2.1=q.2.1→p=q
 |_::_,⟨h1,h2⟩,p,q,hp,hq,he=>by
  rcases List.mem_cons.1 hp with rfl | hp' <;> rcases List.mem_cons.1 hq with rfl | hq'
  ·rfl
  ·rcases he with e | e
   ·exact absurd e.symm (h1 _ hq').1
   ·exact absurd e.symm (h1 _ hq').2
  ·rcases he with e | e
   ·exact absurd e (h1 _ hp').1
   ·exact absurd e (h1 _ hp').2
  ·exact qn h2 hp' hq' he
theorem iG.put {T:List (Nat×Nat×Value)} {S:Nat→Bool} {L':List (Nat×Value)} {i d:Nat} {v:Value} (h:iG L T S L') (hU:ke T) (hp:(i,d,v)∈T):iG L T (dH S i) ((d,v)::L'):=by
 refine ⟨fun t ht=>?_,fun p hq hs=>?_,fun p hq hs=>?_⟩
 ·rw [cM,if_neg (fun e=>ht _ hp e.symm)];exact h.1 t ht
 ·rw [cM];by_cases e:p.2.1=d
  ·rw [if_pos e,qn hU hq hp (.inr e)]
  ·rw [if_neg e];refine h.2.1 p hq ?_;unfold dH at hs;by_cases e2:p.1=i
   ·exact absurd (congrArg (·.2.1) (qn hU hq hp (.inl e2))) e
   ·rwa [if_neg e2] at hs
 ·unfold dH at hs;by_cases e2:p.1=i
  ·rw [if_pos e2] at hs;cases hs
  ·rw [if_neg e2] at hs;rw [cM,if_neg (fun e=>e2 (congrArg (·.1) (qn hU hq hp (.inr e))))];exact h.2.2 p hq hs
theorem iG.skip {T:List (Nat×Nat×Value)} {S:Nat→Bool} {L':List (Nat×Value)} {i:Nat} (h:iG L T S L') (hi:∀ p∈T,p.1≠i):iG L T (dH S i) L':=by
 refine ⟨h.1,fun p hq hs=>h.2.1 p hq ?_,fun p hq hs=>h.2.2 p hq ?_⟩ <;> (unfold dH at hs;rwa [if_neg (hi p hq)] at hs)
theorem iG.get {T:List (Nat×Nat×Value)} {S:Nat→Bool} {L':List (Nat×Value)} {i d:Nat} {v:Value} (h:iG L T S L') (hp:(i,d,v)∈T) (hs:S i=true):bu L' d=v:=h.2.1 _ hp hs
def iS (S:Nat→Bool):List Edge→Prop
 |[]=>True
 |e::r=>(bif Region.binds .any e then S e.on=true else True)∧iS S r
theorem kK {S:Nat→Bool}:∀ {es:List Edge},(∀ e∈es,Region.binds .any e=true→S e.on=true)→iS S es
 |[],_=>trivial
 |e::r,h=>by
  refine ⟨?_,kK fun e' he=>h e' (.tail _ he)⟩;cases hb:Region.binds .any e with
  |true=>exact h e (.head _) hb
  |false=>trivial
def tY (P:Program) (n:Fr) (L:List (Nat×Value)) (T:List (Nat×Nat×Value)) (Mem:(Nat→Bool)→World→Prop):Nat→List Oper→Prop
 |_,[]=>True
 |i,o::r=>(∀ S L' w',iG L T S L'→Mem S w'→S i=false→iS S o.after.toList→gD P n o (fun L2 w2=>iG L T (dH S i) L2∧Mem (dH S i) w2) L' w')∧tY P n L T Mem (i+1) r
theorem pG {T:List (Nat×Nat×Value)} {Mem:(Nat→Bool)→World→Prop}:∀ {r:List Oper} {k:Nat},tY P n L T Mem k r→∀ (i:Nat) (o:Oper),r[i]? =some o→∀ S L' w',iG L T S L'→Mem S w'→S (k+i)=false→iS S o.after.toList→gD P n o (fun L2 w2=>iG L T (dH S (k+i)) L2∧Mem (dH S (k+i)) w2) L' w'
 |[],_,_,i,o,h=>by simp at h
 |x::r,k,⟨h1,h2⟩,0,o,h=>by
  simp only [List.getElem?_cons_zero,Option.some.injEq] at h;subst h;exact h1
 |x::r,k,⟨h1,h2⟩,i+1,o,h=>by
  have:=pG h2 i o (by simpa using h)
  rwa [show k+1+i=k+(i+1) by omega] at this
theorem rY {T:List (Nat×Nat×Value)} (_:ke T) {L L':List (Nat×Value)} {S:Nat→Bool} (h:iG L T S L') (hS:∀ p∈T,S p.1=true) (t:Nat):bu L' t=bu (T.map (fun p=>(p.2.1,p.2.2))++L) t:=by
 have key:∀ T':List (Nat×Nat×Value),(∀ p∈T',p∈T)→(∃ p∈T',p.2.1=t)∨(∀ p∈T',p.2.1≠t)→(∃ p∈T',p.2.1=t∧bu (T'.map (fun p=>(p.2.1,p.2.2))++L) t=p.2.2)∨((∀ p∈T',p.2.1≠t)∧bu (T'.map (fun p=>(p.2.1,p.2.2))++L) t=bu L t):=by
  intro T'
  induction T' with
  |nil=>exact fun _ _=>.inr ⟨fun p hp=>by simp at hp,rfl⟩
  |cons q r ih=>
   intro hsub _;rw [List.map_cons,List.cons_append,cM];by_cases e:q.2.1=t
   ·rw [if_pos e.symm];exact .inl ⟨q,.head _,e,rfl⟩
   ·rw [if_neg (Ne.symm e)];rcases ih (fun p hp=>hsub p (.tail _ hp)) (by by_cases hx:∃ p∈r,p.2.1=t;exact .inl hx;exact .inr fun p hp he=>hx ⟨p,hp,he⟩) with ⟨p,hp,h1,h2⟩ | ⟨h1,h2⟩
    ·exact .inl ⟨p,.tail _ hp,h1,h2⟩
    ·refine .inr ⟨fun p hp=>?_,h2⟩;rcases List.mem_cons.1 hp with rfl | hp2
     ·exact e
     ·exact h1 p hp2
 rcases key T (fun _ hp=>hp) (by by_cases hx:∃ p∈T,p.2.1=t;exact .inl hx;exact .inr fun p hp he=>hx ⟨p,hp,he⟩) with ⟨p,hp,h1,h2⟩ | ⟨h1,h2⟩
 ·rw [h2,←h1];exact h.2.1 p hp (hS p hp)
 ·rw [h2];exact h.1 t h1
theorem lj {id:Nat} (T:List (Nat×Nat×Value)) (Mem:(Nat→Bool)→World→Prop) (hm:P.follows .mixedOrders=true) (hwf:oY l=true) (hU:ke T) (hlt:∀ p∈T,p.1<l.length) (h0:Mem (fun _=>false) { w with drawn:=w.drawn+1 })
 (hstep:tY P n L T Mem 0 l) (hend:∀ w',Mem (fun i=>decide (i<l.length)) w'→Q .normal (mkA n (T.map (fun p=>(p.2.1,p.2.2))++L)) w'):Cd P (.region id l.toArray true) Q n L w:=by
 refine tQ (fun S L' w'=>iG L T S L'∧Mem S w') hm hwf ⟨⟨fun _ _=>rfl,fun _ _ h=>(by cases h),fun _ _ _=>rfl⟩,h0⟩ (fun i o S L' w' ho ⟨hI,hM⟩ hS hE=>?_) fun L' w' ⟨hI,hM⟩=>?_
 ·have:=pG hstep i o ho S L' w' hI hM (by rw [Nat.zero_add];exact hS) (kK fun e he=>hE e (by simpa using he))
  rwa [Nat.zero_add] at this
 ·have h:=hend w' hM
  have e:mkA n L'=mkA n (T.map (fun p=>(p.2.1,p.2.2))++L):=by
   unfold mkA;rw [jO fun t _=>rY hU hI (fun p hp=>decide_eq_true (hlt p hp)) t]
  rw [e];exact h
theorem gV {t:TypeId} {x y:Operand} {g i:Nat} {u:TypeId} {cs:Array Value} {v:Value} (ht:ea P t=some 1) (hx:ev n L x=.pointer (some ⟨g,i,none⟩)) (hy:ev n L y=v) (h1:v.oneCell'=true) (hb:Blk w g u cs) (hi:i<cs.size) :
 ∃ w',RS P (ev n L) (.store t x y) w w'∧eM g w w'∧Blk w' g u (cs.setIfInBounds i v):=by
 have hc:w.cell? ⟨g,i,none⟩=some (cs[i]'hi):=by rw [hb.cell];simp [hi]
 exact ⟨_,lX ht hx hy h1 hc (hb.frozen i),eM.setCell w g i v,hb.set_ i v⟩
end
end Go.Proofs.YtkpooenofjdpmaaGreat
namespace Go.Proofs.YtkpooenofjdpmaaGreat
open Go.Proofs.Tryz (prog)
open Go.RowKit
def BA (w:World) (base:Nat) (e:TypeId) (A:Option Addr) (n c:Nat) (xs:List Value):Prop:=
 xs.length=n∧n≤c∧c≤maxLen∧∃ g off cs,A=some ⟨g,off,none⟩∧base≤g∧Blk w g e cs∧off+c≤cs.size∧(cs.toList.drop off).take n=xs
section
variable {P:Program} {Q:Exit→Act→World→Prop} {n:Fr} {L:List (Nat×Value)} {w:World} {l:List Oper}
def Ak (P:Program) (n:Fr) (Inv:(Nat→Bool)→List (Nat×Value)→World→Prop):Nat→List Oper→Prop
 |_,[]=>True
 |i,o::r=>(∀ S L' w',Inv S L' w'→S i=false→iS S o.after.toList→gD P n o (Inv (dH S i)) L' w')∧Ak P n Inv (i+1) r
theorem yS {T:List (Nat×Nat×Value)} {S:Nat→Bool} {L':List (Nat×Value)} (hU:ke T) (hS:∀ p∈T,S p.1=true) (hI:iG L T S L'):mkA n L'=mkA n (T.map (fun p=>(p.2.1,p.2.2))++L):=by
 unfold mkA;rw [jO fun t _=>rY hU hI hS t]
end
theorem oB {P:Program} {ρ:Operand→Value} {w:World} {s x:Operand} {t base:Nat} {A A2:Option Addr} {m j cap c2 e size by_:Nat} {z:Value} {xs news:List Value} (hq:kq P t=some (e,size,by_,z)) (hzs:z.cells.size=size) (hs0:0<size)
 (hs:ρ s=.slice A m cap) (hown:w.ownsRow base e size (.slice A m cap) m xs) (hB:base≤w.heap.size)
 (hx:ρ x=.slice A2 j c2) (hl:news.length=j*size) (hsrc:∃ b o,A2=some ⟨b,o,none⟩∧w.rangeAt b o news) (h1:∀ u∈news,u.oneCell'=true) (h63:m+j≤9223372036854775807) (hby:(m+j)*by_≤140737488355328) :
 ∃ A' cap' w',RO P ρ (.call { callee:=.builtin .append,args:=#[s,x],argTypes:=#[t,t] }) w (.slice A' (m+j) cap') w'∧w'.ownsRow base e size (.slice A' (m+j) cap') (m+j) (xs++news)∧w.grownBy w' (A.map (·.block))∧(A'.map (·.block)=A.map (·.block)∨A'.map (·.block)=some w.heap.size):=by
 obtain ⟨i,hu,hi,hsz,hb,hz⟩:=qB hq;obtain ⟨b,o,rfl,hr⟩:=hsrc;have hobl:∀ (A:Option Addr) (m c:Nat),(Value.slice A m c).ownBlock=A.map (·.block):=fun A m c=>by cases A <;> rfl
 obtain ⟨v',w',hrun,hown',hg,_,h5⟩:=run_append_own_at (P:=P) w base t 0 e i z size by_ hu hi hz hsz hb hzs hs0 _ m xs hown ⟨b,o,none⟩ j c2 news hl (fun i u hu=>by rw [Addr.add_mid];exact hr i u hu) h1 (by unfold maxLen;omega) hby hB;obtain ⟨A',cap',rfl⟩:=fS hown';rw [hobl,hobl] at h5;refine ⟨A',cap',w',fun dst ty pos after g=>?_,hown',by rw [←hobl A m cap];exact hg,h5⟩;have hty:(Builtin.append_ #[t,t] ty #[.slice A m cap,.slice (some ⟨b,o,none⟩) j c2]).run P w=(Builtin.append_ #[t,t] 0 #[.slice A m cap,.slice (some ⟨b,o,none⟩) j c2]).run P w:=rfl;unfold execOp;simp only [resolve,invoke,builtin,Sem.run_bind,Sem.run_pure,Result.andThen_ok,List.map_toArray,List.map_cons,List.map_nil,hs,hx,hty,hrun]
end Go.Proofs.YtkpooenofjdpmaaGreat
namespace Go.Proofs.YtkpooenofjdpmaaGreat
open Go.Proofs.Tryz (prog)
open Go.RowKit Go.ChangeShapes Go.WideShapes Go.ChangeAt
def Bv (A B:Option Addr):Prop:=∀ p,A.map (·.block)=some p→∀ q,B.map (·.block)=some q→p≠q
theorem rS {w:World} {base e s n c:Nat} {xs:List Value} (h:w.ownsRow base e s (.slice none n c) n xs):c=0:=by
 rcases h.2 with ⟨h1,_⟩ | ⟨g,cap,cur,hv,_⟩
 ·simp only [Value.slice.injEq] at h1;omega
 ·simp only [Value.slice.injEq] at hv;cases hv.1
theorem pS {w:World} {base e s n c:Nat} {xs:List Value} (h:w.ownsRow base e s (.slice none n c) n xs):n=0:=by
 rcases h.2 with ⟨h1,_⟩ | ⟨g,cap,cur,hv,_⟩
 ·simp only [Value.slice.injEq] at h1;omega
 ·simp only [Value.slice.injEq] at hv;cases hv.1
section
variable {P:Program} {ops:Array Oper} {Q:Exit→Act→World→Prop} {rest:List Oper} {n:Fr} {L:List (Nat×Value)} {w:World} {ty:TypeId} {pos:String} {after:Array Edge} {d:Nat} {t:TypeId} {s x y:Operand}
theorem s_ {base:Nat} {A A2:Option Addr} {m j cap c2 e size by_:Nat} {z:Value} {xs news:List Value} (hq:kq P t=some (e,size,by_,z)) (hzs:z.cells.size=size) (hs0:0<size)
 (hs:ev n L s=.slice A m cap) (hown:w.ownsRow base e size (.slice A m cap) m xs) (hB:base≤w.heap.size)
 (hx:ev n L x=.slice A2 j c2) (hl:news.length=j*size) (hsrc:∃ b o,A2=some ⟨b,o,none⟩∧w.rangeAt b o news) (h1:∀ u∈news,u.oneCell'=true) (h63:m+j≤9223372036854775807) (hby:(m+j)*by_≤140737488355328)
 (k:∀ A' cap' w',w'.ownsRow base e size (.slice A' (m+j) cap') (m+j) (xs++news)→w.grownBy w' (A.map (·.block))→(A'.map (·.block)=A.map (·.block)∨A'.map (·.block)=some w.heap.size)→St P ops Q rest n ((d,.slice A' (m+j) cap')::L) w') :
 St P ops Q (⟨some d,.call { callee:=.builtin .append,args:=#[s,x],argTypes:=#[t,t] },ty,pos,after,none⟩::rest) n L w:=by
 obtain ⟨A',cap',w',hR,h2,h3,h4⟩:=oB (P:=P) (ρ:=ev n L) (s:=s) (x:=x) (w:=w) hq hzs hs0 hs hown hB hx hl hsrc h1 h63 hby;exact ab hR (k A' cap' w' h2 h3 h4)
end
end Go.Proofs.YtkpooenofjdpmaaGreat
namespace Go.Proofs.YtkpooenofjdpmaaGreat
open Go.Proofs.Tryz (prog)
open Go.RowKit Go.ChangeShapes Go.WideShapes Go.ChangeAt
structure Chg (U:Nat→Prop) (w w':World):Prop where
 os:w'.os=w.os
 tape:w'.tape=w.tape
 output:w'.output=w.output
 size:w.heap.size≤w'.heap.size
 block:∀ k,k<w.heap.size→¬ U k→w'.heap[k]? =w.heap[k]?
section
variable {U V:Nat→Prop} {a w w' w2:World}
theorem Chg.rfl_:Chg U w w:=⟨rfl,rfl,rfl,Nat.le_refl _,fun _ _ _=>rfl⟩
theorem ag.toChg (h:ag w w'):Chg U w w':=⟨h.os,h.tape,h.output,h.size,fun k hk _=>h.block k hk⟩
theorem eM.toChg {g:Nat} (h:eM g w w') (hg:U g):Chg U w w':=⟨h.os,h.tape,h.output,Nat.le_of_eq h.size.symm,fun k _ hu=>h.block k (fun e=>hu (e ▸ hg))⟩
theorem Chg.of_grown {r:Option Nat} (h:w.grownBy w' r) (hr:∀ k,r=some k→U k):Chg U w w':=⟨h.os,h.tape,h.output,h.size,fun k hk hu=>h.block k hk (fun e=>hu (hr k e.symm))⟩
theorem Chg.trans (h:Chg U w w') (k:Chg V w' w2) (hV:∀ i,V i→U i∨w.heap.size≤i):Chg U w w2:=⟨k.os.trans h.os,k.tape.trans h.tape,k.output.trans h.output,Nat.le_trans h.size k.size,fun i hi hu=>by
 refine (k.block i (Nat.lt_of_lt_of_le hi h.size) fun hv=>?_).trans (h.block i hi hu);rcases hV i hv with e | e
 ·exact hu e
 ·omega⟩
theorem Chg.next (h:Chg U w w') (k:Chg U w' w2):Chg U w w2:=h.trans k fun _ h=>.inl h
theorem Chg.wide (h:Chg U w w') (hV:∀ i,U i→V i∨w.heap.size≤i):Chg V w w':=(Chg.rfl_ (U:=V)).trans h hV
theorem ag.chg (h:ag a w) (c:Chg U w w') (hU:∀ k,U k→a.heap.size≤k):ag a w':=⟨c.os.trans h.os,c.tape.trans h.tape,c.output.trans h.output,Nat.le_trans h.size c.size,fun k hk=>(c.block k (Nat.lt_of_lt_of_le hk h.size) (fun hu=>by have:=hU k hu;omega)).trans (h.block k hk)⟩
theorem Blk.chg {g:Nat} {t:TypeId} {cs:Array Value} (h:Blk w g t cs) (c:Chg U w w') (hg:¬ U g):Blk w' g t cs:=(c.block g h.lt hg).trans h
theorem eE {base e s n c:Nat} {A:Option Addr} {xs:List Value} (h:w.ownsRow base e s (.slice A n c) n xs) (hc:Chg U w w') (hA:∀ q,A.map (·.block)=some q→¬ U q):w'.ownsRow base e s (.slice A n c) n xs:=by
 refine ⟨h.1,?_⟩;rcases h.2 with h0 | ⟨g,cap,cur,h1,h2,h3,h4⟩
 ·exact .inl h0
 ·refine .inr ⟨g,cap,cur,h1,h2,?_,h4⟩;simp only [Value.slice.injEq] at h1;obtain ⟨rfl,_,_⟩:=h1
  have hlt:g<w.heap.size:=by
   rcases Nat.lt_or_ge g w.heap.size with a | a
   ·exact a
   ·rw [Array.getElem?_eq_none a] at h3;cases h3
  exact (hc.block g hlt (hA g rfl)).trans h3
end
def Bx (w w':World) (n:Nat):World:={ w' with heap:=w'.heap.mapIdx fun i o=>if i<n then o else (w.heap[i]?).getD o }
end Go.Proofs.YtkpooenofjdpmaaGreat
namespace Go.Proofs.YtkpooenofjdpmaaGreat
open Go.Proofs.Tryz (prog)
open Go.RowKit
open Go.ChangeShapes Go.WideShapes Go.ChangeAt
open Go.RowKit
def Bm (w:World) (base:Nat) (e s:Nat) (A:Option Addr) (n c:Nat) (xs:List Value):Prop:=
 xs.length=n*s∧n≤c∧c≤maxLen∧((A=none∧n=0∧c=0)∨∃ g off cs,A=some ⟨g,off,none⟩∧base≤g∧Blk w g e cs∧off+c*s≤cs.size∧(cs.toList.drop off).take (n*s)=xs)
abbrev BB (w:World) (base:Nat) (A:Option Addr) (n c:Nat) (es:List Ent):Prop:=Bm w base 99 3 A n c (dT es)
theorem xM {w:World} {b:Nat} {e:Ent} (h:Blk w b 99 #[.int .i64 e.i,.int .i64 e.t,.string e.d]):cC w (.slice (some ⟨b,0,none⟩) 1 1) [e]:=
 ⟨some ⟨b,0,none⟩,1,rfl,Nat.le_refl _,by decide,fun h=>(by cases h),fun _=>⟨b,0,rfl,h.lt,fun i hi=>by
  obtain rfl:i=0:=by have:i<1:=hi;omega
  exact ⟨by rw [h.cell];rfl,by rw [h.cell];rfl,by rw [h.cell];rfl⟩⟩⟩
structure Msg where
 k:Int
 f:Int
 t:Int
 tm:Int
 ix:Int
 lt:Int
 cm:Int
 rd:Int
 ok:Bool
 a:Int
 d:ByteArray
 dn:Bool
 E:Option Addr
 c:Nat
 es:List Ent
def bC (x:Msg):List Value:=[.int .i64 x.k,.int .i64 x.f,.int .i64 x.t,.int .i64 x.tm,.int .i64 x.ix,.int .i64 x.lt,.int .i64 x.cm,.int .i64 x.rd,.bool x.ok,.slice x.E x.es.length x.c,.int .i64 x.a,.string x.d,.bool x.dn]
theorem nR (x:Msg):(bC x).length=13:=rfl
def pl (x:Msg):Msg:={ x with E:=none,c:=0 }
end Go.Proofs.YtkpooenofjdpmaaGreat
namespace Go.Proofs.YtkpooenofjdpmaaGreat
open Go.Proofs.Tryz (prog)
open Go.RowKit
def leB (x y:Int):Bool:=decide (x≤y)
def srt (L:List Int):List Int:=L.mergeSort leB
def cnt (L:List Int) (x:Int):Nat:=L.countP fun y=>decide (x≤y)
def med (L:List Int):Int:=(srt L).getD ((L.length-1)/2) 0
def Fit (L:List Int):Prop:=1≤L.length∧L.length≤7∧∀ x∈L,0≤x
theorem ot (L:List Int):(srt L).Perm L:=List.mergeSort_perm L leB
theorem qq (L:List Int):(srt L).length=L.length:=(ot L).length_eq
theorem xo {L:List Int} (h:1≤L.length):∃ h2:(L.length-1)/2<(srt L).length,med L=(srt L)[(L.length-1)/2]:=by
 have h2:(L.length-1)/2<(srt L).length:=by rw [qq];omega
 refine ⟨h2,?_⟩;unfold med;rw [List.getD_eq_getElem?_getD,List.getElem?_eq_getElem h2];rfl
theorem uL {L:List Int} (h:1≤L.length):med L∈L:=by
 obtain ⟨h2,e⟩:=xo h;rw [e];exact (ot L).mem_iff.1 (List.getElem_mem _)
def cv (V:List Int) (n:Nat):Nat:=(List.range n).countP fun i=>decide (((i+1:Nat):Int)∈V)
theorem uX (V:List Int) (j:Nat):cv V (j+1)=cv V j+if ((j+1:Nat):Int)∈V then 1 else 0:=by
 unfold cv;rw [List.range_succ,List.countP_append];simp [List.countP_cons]
theorem AN (V:List Int) (n:Nat):cv V n≤n:=by
 have:=List.countP_le_length (p:=fun i:Nat=>decide (((i+1:Nat):Int)∈V)) (l:=List.range n);rw [List.length_range] at this;exact this
theorem lf {V:List Int} {k:Nat} (h:k<V.length) (x:Int):x∈V.take (k+1)↔x∈V.take k∨x=V[k]:=by
 rw [List.take_add_one,List.getElem?_eq_getElem h,List.mem_append];simp only [Option.toList,List.mem_singleton]
theorem nW {V:List Int} {k n:Nat} (h:k<V.length) (hx:¬ (1≤V[k]∧V[k]≤n)∨V[k]∈V.take k):cv (V.take (k+1)) n=cv (V.take k) n:=by
 unfold cv;apply List.countP_congr;intro i hi;rw [List.mem_range] at hi;simp only [decide_eq_true_eq,lf h];constructor
 ·rintro (h1 | h1)
  ·exact h1
  ·rcases hx with h2 | h2
   ·omega
   ·rw [h1];exact h2
 ·exact .inl
theorem xS {V:List Int} {k:Nat} (h:k<V.length) (hx:V[k] ∉ V.take k):∀ n:Nat,1≤V[k]→V[k]≤n→cv (V.take (k+1)) n=cv (V.take k) n+1
 |0,h1,h2=>by omega
 |n+1,h1,h2=>by
  rw [uX,uX];by_cases he:V[k]=((n+1:Nat):Int)
  ·rw [if_pos ((lf h _).2 (.inr he.symm)),if_neg (by rw [←he];exact hx),nW h (.inl (by omega))]
  ·rw [xS h hx n h1 (by omega)]
   have:((n+1:Nat):Int)∈V.take (k+1)↔((n+1:Nat):Int)∈V.take k:=by
    rw [lf h];exact ⟨fun hh=>hh.elim id fun e=>absurd e.symm he,.inl⟩
   simp only [this];omega
def vt (V:List Int) (n i:Nat):Bool:=decide (1≤i∧i≤n∧(i:Int)∈V)
def lS (V:List Int) (n:Nat):List Value:=(List.range 8).map fun i=>.bool (vt V n i)
theorem rq (V:List Int) (n i:Nat) (h:i<8):(lS V n).toArray[0+i*1]? =some (.bool (vt V n i)):=by
 unfold lS;simp [h]
theorem mz {V:List Int} {k n:Nat} (h:k<V.length) (hx:¬ (1≤V[k]∧V[k]≤n)∨V[k]∈V.take k):lS (V.take (k+1)) n=lS (V.take k) n:=by
 unfold lS;apply List.map_congr_left;intro i _
 congr 1
 unfold vt;rw [decide_eq_decide,lf h];constructor
 ·rintro ⟨h1,h2,h3 | h3⟩
  ·exact ⟨h1,h2,h3⟩
  ·rcases hx with h4 | h4
   ·omega
   ·exact ⟨h1,h2,by rw [h3];exact h4⟩
 ·rintro ⟨h1,h2,h3⟩;exact ⟨h1,h2,.inl h3⟩
theorem vX {V:List Int} {k n:Nat} (h:k<V.length) (h1:1≤V[k]) (h2:V[k]≤n) (hn:n≤7):(lS (V.take k) n).toArray.setIfInBounds (0+V[k].toNat*1) (.bool true)=(lS (V.take (k+1)) n).toArray:=by
 apply Array.ext_getElem?;intro i;rw [Array.getElem?_setIfInBounds];by_cases hi:i<8
 ·have g:=fun U=>rq U n i hi
  rw [Nat.zero_add,Nat.mul_one] at g;rw [g,g];by_cases he:0+V[k].toNat*1=i
  ·rw [if_pos he,if_pos (by unfold lS;simp;omega)]
   congr 2
   symm;unfold vt;rw [decide_eq_true_eq,lf h];exact ⟨by omega,by omega,.inr (by omega)⟩
  ·rw [if_neg he]
   congr 2
   unfold vt;rw [decide_eq_decide,lf h];constructor
   ·rintro ⟨a,b,c⟩;exact ⟨a,b,.inl c⟩
   ·rintro ⟨a,b,c | c⟩
    ·exact ⟨a,b,c⟩
    ·omega
 ·have:∀ U,(lS U n).toArray[i]? =none:=fun U=>by unfold lS;simp;omega
  rw [this,this,if_neg (by omega)]
theorem vW (n:Nat):lS [] n=[.bool false,.bool false,.bool false,.bool false,.bool false,.bool false,.bool false,.bool false]:=by
 unfold lS vt;simp [List.range_succ]
def xsh (s:Int) (m:Int):Int:=bits BinOp.xor IntKind.u64 s (IntKind.u64.wrap (s*m))
def xsr (s:Int):Int:=bits BinOp.xor IntKind.u64 s (s/128)
def nx (s:Int):Int:=xsh (xsr (xsh (if s=0 then 11400714819323198485 else s) 8192)) 131072
def Bc (s:Int):Nat→Int
 |0=>s
 |1=>xsh s 8192
 |2=>xsr (xsh s 8192)
 |_=>xsh (xsr (xsh s 8192)) 131072
theorem zO (s:Int) (b:Nat) (w:World) (h0:w.cell? ⟨b,0,none⟩=some (.int .i64 13)) (h1:w.cell? ⟨b,1,none⟩=some (.int .i64 (-7))) (h2:w.cell? ⟨b,2,none⟩=some (.int .i64 17)) :
 Calls prog 173 #[.int .u64 s,.slice (some ⟨b,0,none⟩) 3 3] w fun e w'=>e=.returned (.int .u64 (xsh (xsr (xsh s 8192)) 131072))∧w=w':=by
 go_enter Tryz.func173,Tryz.ntmps173
 go_wp2
 go_loop [0,9] (fun x i=>∃ k:Nat,k≤3∧i=.int .i64 k∧x=.int .u64 (Bc s k)) (fun _ i=>3-(intOf i).toNat)
 case atStart=>exact ⟨0,by omega,rfl,rfl⟩
 case round=>
  obtain ⟨k,hk,rfl,rfl⟩:=hrel;obtain rfl | rfl | rfl | rfl:k=0∨k=1∨k=2∨k=3:=by omega
  ·go_wp2
   go_round
   case rel=>exact ⟨1,by omega,rfl,rfl⟩
   case measure=>simp [intOf]
  ·go_wp2
   go_round
   case rel=>exact ⟨2,by omega,rfl,rfl⟩
   case measure=>simp [intOf]
  ·go_wp2
   go_round
   case rel=>exact ⟨3,by omega,rfl,rfl⟩
   case measure=>simp [intOf]
  ·go_wp2
   go_ret
   exact ⟨rfl,rfl⟩
def st0 (s:Int):Int:=if s=0 then 11400714819323198485 else s
theorem wW (s:Int) (w:World) :
 Calls prog 159 #[.int .u64 s] w fun e w'=>e=.returned (.agg #[.int .u64 (st0 s)])∧ag w w':=by
 by_cases hs:s=0
 ·subst hs
  go_enter Tryz.func159,Tryz.ntmps159
  go_wp2
  exact bodyPost_ret (v:=.agg #[.int .u64 11400714819323198485]) (by simp [results,Tryz.results159,go_sem]) rfl ⟨rfl,ag.rfl_.new _⟩
 ·have hs':(s==0)=false:=by simpa using hs
  go_enter Tryz.func159,Tryz.ntmps159
  go_wp2
  exact bodyPost_ret (v:=.agg #[.int .u64 s]) (by simp [results,Tryz.results159,go_sem]) rfl ⟨by simp [st0,hs],ag.rfl_.new _⟩
theorem Au (s:Int) (w:World) :
 Calls prog 160 #[.agg #[.int .u64 s]] w fun e w'=>e=.returned (.agg #[.int .u64 (xsh (xsr (xsh s 8192)) 131072)])∧ag w w':=by
 go_enter Tryz.func160,Tryz.ntmps160
 go_wp2_with (first
  |(go_at_call 173
    refine (zO _ _ _ ?_ ?_ ?_).mono ?_
    ·go_simp
    ·go_simp
    ·go_simp
    rintro e w1 ⟨rfl,rfl⟩))
 exact bodyPost_ret (v:=.agg #[.int .u64 (xsh (xsr (xsh s 8192)) 131072)]) (by simp [results,Tryz.results160,go_sem]) rfl ⟨rfl,((ag.rfl_.new _).new _).new _⟩
theorem next (s:Int) (w:World) :
 Calls prog 130 #[.int .u64 s] w fun e w'=>e=.returned (.int .u64 (nx s))∧ag w w':=by
 have hfd:∀ (a:Int) (w:World),(Instr.field 171 (.agg #[.int .u64 a]) 0).run prog w=.ok (.int .u64 a) w:=fun _ _=>by kernel_rfl
 go_enter Tryz.func130,Tryz.ntmps130
 go_wp2_with (first | (go_at_call 159;refine (wW _ _).mono ?_;rintro e w1 ⟨rfl,hb1⟩) | (go_at_call 160;refine (Au _ _).mono ?_;rintro e w2 ⟨rfl,hb2⟩))
 go_ret
 exact ⟨rfl,hb1.next hb2⟩
def bl (s n:Int):Int:=if n<1 then 0 else wrap64 ((nx s).tmod n)
theorem zx {s n:Int} (h:1≤n):bl s n=wrap64 ((nx s).tmod n):=by unfold bl;rw [if_neg (by omega)]
theorem below (s n:Int) (w:World) (hn:n≤9223372036854775807) :
 Calls prog 94 #[.int .u64 s,.int .i64 n] w fun e w'=>e=.returned (.tuple #[.int .u64 (nx s),.int .i64 (bl s n)])∧ag w w':=by
 by_cases h:n<1
 ·go_enter Tryz.func94,Tryz.ntmps94
  go_wp2_with (go_at_call 130;refine (next _ _).mono ?_;rintro e w1 ⟨rfl,hb1⟩)
  go_ret2
  exact ⟨by simp [bl,h],hb1⟩
 ·have h1:1≤n:=by omega
  have hz:(n==0)=false:=by simp;omega
  go_enter Tryz.func94,Tryz.ntmps94
  go_wp2_with (go_at_call 130;refine (next _ _).mono ?_;rintro e w1 ⟨rfl,hb1⟩)
  go_quiet (fail)
  go_wp2
  go_ret2
  exact ⟨by rw [zx h1];rfl,hb1.dn _⟩
end Go.Proofs.YtkpooenofjdpmaaGreat
namespace Go.Proofs.YtkpooenofjdpmaaGreat
open Go.Proofs.Tryz (prog)
open Go.RowKit
open Go.ChangeShapes Go.WideShapes Go.ChangeAt
open Go.RowKit
structure Rd where
 id:Int
 ix:Int
 rn:Int
 acks:List Int
structure Rf where
 id:Int
 nodes:Int
 role:Int
 term:Int
 vote:Int
 leader:Int
 b:Int
 t:Int
 es:List Ent
 snap:ByteArray
 commit:Int
 elapsed:Int
 timeout:Int
 seed:Int
 votes:List Int
 next:List Int
 mtch:List Int
 sent:List Int
 round:Int
 reads:List Rd
 part:ByteArray
 partOf:Int
def zR:Rf:=⟨0,0,0,0,0,0,0,0,[],⟨#[]⟩,0,0,0,0,[],[],[],[],0,[],⟨#[]⟩,0⟩
def zM:Msg:={ k:=0,f:=0,t:=0,tm:=0,ix:=0,lt:=0,cm:=0,rd:=0,ok:=false,a:=0,d:=⟨#[]⟩,dn:=false,E:=none,c:=0,es:=[] }
def eP:Int:=1099511627775
def gu:List Int→Bool
 |a::b::r=>decide (a<b)&&gu (b::r)
 |_=>true
def fC (l:List Int) (n:Int):Bool:=l.all (fun x=>decide (1≤x)&&decide (x≤n))&&gu l
def p_ (l:List Int) (n:Nat) (lo hi:Int):Bool:=decide (l.length=n)&&l.all fun x=>decide (lo≤x)&&decide (x≤hi)
def gQ (s:Rf) (q:Rd):Bool:=inb 1 1099511627776 q.id&&inb 0 s.commit q.ix&&inb 0 s.round q.rn&&fC q.acks s.nodes
def gp (s:Rf):Nat:=if s.role=2 then s.nodes.toNat else 0
def bm (s:Rf):Int:=dh s.b s.es
def im (s:Rf):Bool:=
 decide (1≤s.nodes)&&decide (s.nodes≤7)&&inb 1 s.nodes s.id&&inb 0 2 s.role&&inb 0 eP s.term&&inb 0 s.nodes s.vote&&inb 0 s.nodes s.leader&&cj s.b s.t s.es&&decide (s.snap.size≤524288)&&(decide (s.b≠0)||decide (s.snap.size=0))&&
 inb 0 eP s.elapsed&&inb 0 eP s.timeout&&inb 0 eP s.round&&fC s.votes s.nodes&&decide (cV s.t s.es≤s.term)&&inb s.b (bm s) s.commit&&decide (s.part.size≤524288)&&inb 0 1099511625728 s.partOf&&(decide (s.partOf≠0)||decide (s.part.size=0))&&
 p_ s.next (gp s) 1 (bm s+1)&&p_ s.mtch (gp s) 0 (bm s)&&p_ s.sent (gp s) 0 s.snap.size&&decide (s.reads.length≤32)&&(decide (gp s≠0)||decide (s.reads.length=0))&&s.reads.all (gQ s)
structure Sp where
 s:Rf
 out:List Msg
def at1 (l:List Int) (id:Int):Int:=l.getD (id-1).toNat 0
def eK (l:List Int) (id v:Int):List Int:=l.set (id-1).toNat v
def iD (s:Rf):Rf:={ s with seed:=nx s.seed,timeout:=10+bl s.seed 10,elapsed:=0 }
def rV (id n seed:Int):Rf:=iD { zR with id:=id,nodes:=n,seed:=seed }
def fD (s:Rf):Rf:={ s with votes:=[],next:=[],mtch:=[],sent:=[],reads:=[] }
def cJ (s:Rf) (tm:Int):Rf:=
 let a:={ fD s with role:=0,leader:=0 }
 if s.term<tm then { a with term:=tm,vote:=0,part:=⟨#[]⟩,partOf:=0 } else a
def r8 (s:Rf) (m:Msg):Msg:={ m with f:=s.id,tm:=s.term }
def Sp.tell (p:Sp) (m:Msg):Sp:=⟨p.s,p.out++[r8 p.s m]⟩
def kD (s:Rf) (to:Int):Msg:=
 let nx:=at1 s.next to
 if nx≤s.b then
  let a:=at1 s.sent to
  let e:=min (a.toNat+1024) s.snap.size
  { zM with k:=5,t:=to,ix:=s.b,lt:=s.t,rd:=s.round,a:=a,d:=s.snap.extract a.toNat e,dn:=decide (e=s.snap.size) }
 else { zM with k:=3,t:=to,ix:=nx-1,lt:=de s.b s.t s.es (nx-1),cm:=s.commit,rd:=s.round,es:=(s.es.drop (nx-1-s.b).toNat).take 16 }
def dJ (s:Rf):List Int:=((List.range s.nodes.toNat).map fun k=>((k+1:Nat):Int)).filter fun k=>decide (k≠s.id)
def Sp.send (p:Sp) (to:Int):Sp:=p.tell (kD p.s to)
def Sp.sends:Sp→List Int→Sp
 |p,[]=>p
 |p,x::r=>Sp.sends (p.send x) r
def Sp.all (p:Sp):Sp:=p.sends (dJ p.s)
def fz (n:Int) (l:List Int):Bool:=decide (n.toNat<2*cv l n.toNat)
def dA (s:Rf):Rf:=
 let m:=eK s.mtch s.id (bm s)
 let i:=med m
 { s with mtch:=m,commit:=if s.commit<i∧de s.b s.t s.es i=s.term then i else s.commit }
def ir (s:Rf):Bool:=decide (s.es.length=512)||decide (bm s=1099511627776)
def fF (s:Rf) (d:ByteArray):Rf:={ s with es:=s.es++[⟨bm s+1,s.term,d⟩] }
def mg (p:Sp):Sp:=
 if ir p.s then ⟨cJ p.s p.s.term,p.out⟩ else
 let l:=bm p.s
 let a:={ fD p.s with role:=2,leader:=p.s.id,elapsed:=0,next:=List.replicate p.s.nodes.toNat (l+1),mtch:=List.replicate p.s.nodes.toNat 0,sent:=List.replicate p.s.nodes.toNat 0 }
 let q:=Sp.all ⟨fF a ⟨#[]⟩,p.out⟩
 ⟨dA q.s,q.out⟩
def km (p:Sp):Sp:=if fz p.s.nodes p.s.votes then mg p else p
def jf (s:Rf):Sp:=
 if s.term=eP then ⟨iD s,[]⟩ else
 let a:=iD { fD s with term:=s.term+1,vote:=s.id,role:=1,leader:=0,votes:=[s.id],part:=⟨#[]⟩,partOf:=0 }
 km ((dJ a).foldl (fun (p:Sp) k=>p.tell { zM with k:=1,t:=k,ix:=bm a,lt:=cV a.t a.es }) (⟨a,[]⟩:Sp))
def iH (s:Rf):Sp:=
 let a:={ s with elapsed:=min (s.elapsed+1) eP }
 if s.role=2 then (if 2≤a.elapsed then Sp.all ⟨{ a with elapsed:=0,round:=min (a.round+1) eP },[]⟩ else ⟨a,[]⟩)
 else if a.timeout≤a.elapsed then jf a else ⟨a,[]⟩
def kz (l:List Int) (x:Int):List Int:=if l.contains x then l else l.takeWhile (fun y=>decide (y<x))++x::l.dropWhile fun y=>decide (y<x)
def iI (p:Sp) (m:Msg) (ok:Bool) (i:Int):Sp:=p.tell { zM with k:=4,t:=m.f,ok:=ok,ix:=i,rd:=m.rd }
def vZ (s:Rf) (m:Msg):Sp:=
 let ok:=Bb s.b s.t s.es m.ix m.lt&&(decide (s.vote=0)||decide (s.vote=m.f))
 Sp.tell ⟨if ok then { s with vote:=m.f,elapsed:=0 } else s,[]⟩ { zM with k:=2,t:=m.f,ok:=ok }
def s6 (s:Rf) (m:Msg):Sp:=if s.role=1∧m.ok=true then km ⟨{ s with votes:=kz s.votes m.f },[]⟩ else ⟨s,[]⟩
def ya (s:Rf) (id rn:Int):Rf:={ s with reads:=s.reads.map fun q=>if q.rn≤rn then { q with acks:=kz q.acks id } else q }
def v_ (s0:Rf) (m:Msg):Sp:=
 if s0.role≠2 then ⟨s0,[]⟩ else
 let s:=ya s0 m.f m.rd
 if m.k=6 then
  (if m.ix=s.b∧at1 s.next m.f≤s.b∧m.a≤s.snap.size then Sp.send ⟨{ s with sent:=eK s.sent m.f m.a },[]⟩ m.f else ⟨s,[]⟩)
 else if m.ok=false then
  Sp.send ⟨{ s with next:=eK s.next m.f (max (min (at1 s.next m.f-1) (m.ix+1)) (at1 s.mtch m.f+1)),sent:=eK s.sent m.f 0 },[]⟩ m.f
 else if m.ix≤bm s then
  let x:=max (at1 s.mtch m.f) m.ix
  let a:=dA { s with mtch:=eK s.mtch m.f x,next:=eK s.next m.f (x+1),sent:=eK s.sent m.f 0 }
  if x+1≤bm s then Sp.send ⟨a,[]⟩ m.f else ⟨a,[]⟩
 else ⟨s,[]⟩
def oH (s:Rf) (m:Msg):Sp:=
 if m.ix≤s.commit∨m.lt<de s.b s.t s.es s.commit then iI ⟨s,[]⟩ m true s.commit else
 let a:=if s.partOf≠m.ix then { s with partOf:=m.ix,part:=⟨#[]⟩ } else s
 let fits:=decide (m.a=a.part.size)&&decide (a.part.size+m.d.size≤524288)
 let c:=if fits then { a with part:=a.part++m.d } else a
 if fits&&m.dn then
  let keep:=decide (m.ix≤bm c∧de c.b c.t c.es m.ix=m.lt)
  let x:={ c with b:=m.ix,t:=m.lt,es:=if keep then c.es.drop (m.ix-c.b).toNat else [],snap:=c.part,commit:=m.ix,part:=⟨#[]⟩,partOf:=0 }
  iI ⟨x,[]⟩ m true x.commit
 else Sp.tell ⟨c,[]⟩ { zM with k:=6,t:=m.f,ix:=m.ix,a:=c.part.size,rd:=m.rd }
def AP (s:Rf) (i:Int) (d:ByteArray):Rf:={ s with b:=i,t:=de s.b s.t s.es i,es:=s.es.drop (i-s.b).toNat,snap:=d,sent:=s.sent.map fun _=>0 }
def Ay (s:Rf) (d:ByteArray):Sp:=
 let a:=fF s d
 let p:=((dJ a).filter fun k=>decide (at1 a.next k=bm a)).foldl (fun (p:Sp) k=>p.send k) (⟨a,[]⟩:Sp)
 ⟨dA p.s,p.out⟩
def Bp (s:Rf) (id:Int):Sp:=Sp.all ⟨{ s with round:=s.round+1,reads:=s.reads++[⟨id,s.commit,s.round+1,[s.id]⟩] },[]⟩
def Ba (s:Rf):Rf×List Rd:=({ s with reads:=s.reads.filter fun q=> !fz s.nodes q.acks },s.reads.filter fun q=>fz s.nodes q.acks)
def AO (s:Rf) (m:Msg):Bool:=match gJ s.b s.t s.es (nq s.b m.ix m.es) with
 |[]=>false
 |e::_=>decide (e.i≤bm s)&&decide (e.i≤s.commit)
def qO (s:Rf) (m:Msg):Sp:=
 let r:=lL s.b s.t m.ix m.lt s.es m.es
 if r.1≠0 then ⟨s,[]⟩
 else if r.2.1=true then iI ⟨s,[]⟩ m false (max 0 (min (m.ix-1) (bm s)))
 else if AO s m then ⟨s,[]⟩
 else
  let j:=max (m.ix+(m.es.length:Int)) s.b
  iI ⟨{ s with es:=r.2.2,commit:=max s.commit (min m.cm j) },[]⟩ m true j
def gj (s:Rf) (m:Msg):Sp:=
 if m.k=1 then Sp.tell ⟨s,[]⟩ { zM with k:=2,t:=m.f } else if m.k=3∨m.k=5 then iI ⟨s,[]⟩ m false 0 else ⟨s,[]⟩
def nt (s:Rf) (m:Msg):Sp:=
 if s.role=2 then ⟨s,[]⟩ else
 let c:=if s.role=1 then cJ s s.term else s
 let d:={ c with leader:=m.f,elapsed:=0 }
 if m.k=3 then qO d m else oH d m
def cS (s:Rf) (m:Msg):Sp:=
 let a:=if s.term<m.tm then cJ s m.tm else s
 if m.tm<a.term then gj a m
 else if m.k=1 then vZ a m
 else if m.k=2 then s6 a m
 else if m.k=3∨m.k=5 then nt a m
 else v_ a m
def vA (s:Rf) (m:Msg):Bool:=decide (m.t=s.id)&&decide (m.f≠s.id)&&decide (m.f≤s.nodes)&&(!(decide (m.k=3)||decide (m.k=5))||(decide (m.lt≤m.tm)&&m.es.all fun e=>decide (e.t≤m.tm)))
theorem fG (s:Rf) (tm:Int):(cJ s tm).term=max s.term tm:=by
 unfold cJ fD;simp only;split
 ·show tm=_;omega
 ·show s.term=_;omega
theorem h_ (s:Rf) (tm:Int):(cJ s tm).b=s.b∧(cJ s tm).t=s.t∧(cJ s tm).es=s.es∧(cJ s tm).id=s.id∧(cJ s tm).nodes=s.nodes∧(cJ s tm).role=0∧(cJ s tm).commit=s.commit:=by
 unfold cJ fD;simp only;split <;> exact ⟨rfl,rfl,rfl,rfl,rfl,rfl,rfl⟩
theorem nj {a:Int} {l:List Int} (h:gu (a::l)=true):gu l=true:=by
 cases l with
 |nil=>rfl
 |cons b r=>simp only [gu,Bool.and_eq_true] at h;exact h.2
theorem pP {a:Int} {l:List Int} (h:gu (a::l)=true):∀ x∈l,a<x:=by
 induction l generalizing a with
 |nil=>intro x hx;cases hx
 |cons b r ih=>
  intro x hx;simp only [gu,Bool.and_eq_true,decide_eq_true_eq] at h;rcases List.mem_cons.1 hx with e | e
  ·omega
  ·have:=ih h.2 x e;omega
structure RfF (s:Rf):Prop where
 n:1≤s.nodes∧s.nodes≤7
 i:1≤s.id∧s.id≤s.nodes
 ro:0≤s.role∧s.role≤2
 te:0≤s.term∧s.term≤1099511627775
 vo:0≤s.vote∧s.vote≤s.nodes
 le:0≤s.leader∧s.leader≤s.nodes
 lg:cj s.b s.t s.es=true
 sn:s.snap.size≤524288
 sb:s.b≠0∨s.snap.size=0
 el:0≤s.elapsed∧s.elapsed≤1099511627775
 ti:0≤s.timeout∧s.timeout≤1099511627775
 rn:0≤s.round∧s.round≤1099511627775
 vs:fC s.votes s.nodes=true
 lt:cV s.t s.es≤s.term
 co:s.b≤s.commit∧s.commit≤bm s
 pa:s.part.size≤524288
 po:0≤s.partOf∧s.partOf≤1099511625728
 pp:s.partOf≠0∨s.part.size=0
 nx:s.next.length=gp s∧∀ x∈s.next,1≤x∧x≤bm s+1
 ma:s.mtch.length=gp s∧∀ x∈s.mtch,0≤x∧x≤bm s
 se:s.sent.length=gp s∧∀ x∈s.sent,0≤x∧x≤(s.snap.size:Int)
 rl:s.reads.length≤32
 r0:gp s≠0∨s.reads.length=0
 rd:∀ q∈s.reads,gQ s q=true
theorem qF {l:List Int} {n:Nat} {lo hi:Int} (h:p_ l n lo hi=true):l.length=n∧∀ x∈l,lo≤x∧x≤hi:=by
 unfold p_ at h;simp only [Bool.and_eq_true,List.all_eq_true,decide_eq_true_eq] at h;exact h
theorem mP {s:Rf} (h:im s=true):RfF s:=by
 unfold im eP at h;simp only [Bool.and_eq_true,Bool.or_eq_true,decide_eq_true_eq,List.all_eq_true] at h;obtain ⟨⟨⟨⟨⟨⟨⟨⟨⟨⟨⟨⟨⟨⟨⟨⟨⟨⟨⟨⟨⟨⟨⟨⟨h1,h2⟩,h3⟩,h4⟩,h5⟩,h6⟩,h7⟩,h8⟩,h9⟩,h10⟩,h11⟩,h12⟩,h13⟩,h14⟩,h15⟩,h16⟩,h17⟩,h18⟩,h19⟩,h20⟩,h21⟩,h22⟩,h23⟩,h24⟩,h25⟩:=h;exact ⟨⟨h1,h2⟩,dw h3,dw h4,dw h5,dw h6,dw h7,h8,h9,h10,dw h11,dw h12,dw h13,h14,h15,dw h16,h17,dw h18,h19,qF h20,qF h21,qF h22,h23,h24,h25⟩
theorem jA {s:Rf} (h:s.role=2):gp s=s.nodes.toNat:=by unfold gp;rw [if_pos h]
theorem nT {s:Rf} (h:s.role≠2):gp s=0:=by unfold gp;rw [if_neg h]
theorem RfF.free {s:Rf} (h:RfF s) (hr:s.role≠2):s.next=[]∧s.mtch=[]∧s.sent=[]∧s.reads=[]:=by
 have h0:=nT hr;refine ⟨List.eq_nil_of_length_eq_zero (by rw [h.nx.1,h0]),List.eq_nil_of_length_eq_zero (by rw [h.ma.1,h0]),List.eq_nil_of_length_eq_zero (by rw [h.se.1,h0]),List.eq_nil_of_length_eq_zero (h.r0.resolve_left fun e=>e h0)⟩
theorem mb {l:List Int} {n:Int} (h:fC l n=true):(∀ x∈l,1≤x∧x≤n)∧gu l=true:=by
 unfold fC at h;simp only [Bool.and_eq_true,List.all_eq_true,decide_eq_true_eq] at h;exact h
theorem ld:∀ (l:List Int) (a b:Int),gu l=true→(∀ x∈l,a<x∧x≤b)→(l.length:Int)≤max 0 (b-a)
 |[],_,_,_,_=>by simp;omega
 |x::r,a,b,h,hx=>by
  have h1:=ld r x b (nj h) fun y hy=>⟨pP h y hy,(hx y (List.mem_cons_of_mem _ hy)).2⟩
  have h2:=hx x (List.mem_cons_self);rw [List.length_cons];omega
theorem RfF.vl {s:Rf} (h:RfF s):s.votes.length≤7:=by
 have h1:=mb h.vs;have h2:=ld s.votes 0 s.nodes h1.2 fun x hx=>⟨by have:=(h1.1 x hx).1;omega,(h1.1 x hx).2⟩
 have:=h.n.2;omega
theorem r6 (B:Int) (e:Ent) (r:List Ent):dh B (e::r)=dh e.i r:=by
 unfold dh;cases r with
 |nil=>rfl
 |cons a s=>
  rw [List.getLast?_cons_cons];cases h:(a::s).getLast? with
  |none=>simp at h
  |some x=>rfl
theorem ns (T:Int) (e:Ent) (r:List Ent):cV T (e::r)=cV e.t r:=by
 unfold cV;cases r with
 |nil=>rfl
 |cons a s=>
  rw [List.getLast?_cons_cons];cases h:(a::s).getLast? with
  |none=>simp at h
  |some x=>rfl
theorem pJ:∀ (xs:List Ent) (p t:Int) (e:Ent),eD xs p t=true→ga e (dh p xs) (cV t xs)=true→eD (xs++[e]) p t=true
 |[],p,t,e,_,h=>by show (ga e p t&&true)=true;rw [Bool.and_true];exact h
 |x::r,p,t,e,h,he=>by
  have h':(ga x p t&&eD r (p+1) x.t)=true:=h;rw [Bool.and_eq_true] at h'
  have hx:x.i=p+1:=by
   have:=h'.1;unfold ga at this;simp only [Bool.and_eq_true,decide_eq_true_eq] at this;exact this.1.1.1
  rw [r6,ns,hx] at he;show (ga x p t&&eD (r++[e]) (p+1) x.t)=true;rw [h'.1,pJ r _ _ e h'.2 he];rfl
theorem RfF.add {s:Rf} (h:RfF s) (hf:ir s=false) (d:ByteArray) (hd:d.size≤4096):cj s.b s.t (fF s d).es=true∧bm (fF s d)=bm s+1∧(fF s d).es.length=s.es.length+1:=by
 have hl:=eU h.lg;have hm:=h.lg;unfold cj at hm;simp only [Bool.and_eq_true,decide_eq_true_eq] at hm;obtain ⟨⟨⟨m1,m2⟩,m3⟩,m4⟩:=hm;unfold ir at hf;simp only [Bool.or_eq_false_iff,decide_eq_false_iff_not] at hf;have hte:=h.te;have hlt:=h.lt;have hlr:bm s=s.b+s.es.length:=hl.1
 have e1:ga ⟨bm s+1,s.term,d⟩ (dh s.b s.es) (cV s.t s.es)=true:=by
  unfold ga;simp only [Bool.and_eq_true,decide_eq_true_eq];exact ⟨⟨⟨rfl,fv ⟨by show 1≤bm s+1;omega,by show bm s+1≤_;omega⟩⟩,fv ⟨by show max (cV s.t s.es) 0≤s.term;omega,hte.2⟩⟩,hd⟩
 have hr:=pJ s.es s.b s.t _ m4 e1;have hlen:(fF s d).es.length=s.es.length+1:=by unfold fF;simp
 have hmay:cj s.b s.t (fF s d).es=true:=by
  unfold cj;simp only [Bool.and_eq_true,decide_eq_true_eq];exact ⟨⟨⟨m1,m2⟩,by rw [hlen];omega⟩,hr⟩
 refine ⟨hmay,?_,hlen⟩;have:=(eU hmay).1;show dh s.b (fF s d).es=_;rw [this,hlen,hlr];omega
def jN (id:Int) (k:Nat):List Int:=((List.range k).map fun j=>((j+1:Nat):Int)).filter fun j=>decide (j≠id)
theorem pV (id:Int) (k:Nat):jN id (k+1)=if ((k+1:Nat):Int)=id then jN id k else jN id k++[((k+1:Nat):Int)]:=by
 unfold jN;rw [List.range_succ,List.map_append,List.filter_append];by_cases h:((k+1:Nat):Int)=id
 ·rw [if_pos h];simp;omega
 ·rw [if_neg h];simp;omega
theorem wU {id:Int} {k:Nat} {x:Int} (h:x∈jN id k):1≤x∧x≤(k:Int)∧x≠id:=by
 unfold jN at h;simp only [List.mem_filter,List.mem_map,List.mem_range,decide_eq_true_eq] at h;obtain ⟨⟨j,hj,rfl⟩,h2⟩:=h;exact ⟨by omega,by omega,h2⟩
theorem pI:∀ (l r:List Int) (p:Sp),p.sends (l++r)=(p.sends l).sends r
 |[],_,_=>rfl
 |x::l,r,p=>pI l r (p.send x)
theorem kC:∀ (l:List Int) (p:Sp),p.sends l=⟨p.s,p.out++l.map fun k=>r8 p.s (kD p.s k)⟩
 |[],p=>by show p=_;rw [List.map_nil,List.append_nil]
 |x::l,p=>by
  show (p.send x).sends l=_;rw [kC l (p.send x)];show (⟨p.s,(p.out++[r8 p.s (kD p.s x)])++l.map fun k=>r8 p.s (kD p.s k)⟩:Sp)=_;rw [List.append_assoc];rfl
theorem mU (p:Sp):p.all=⟨p.s,p.out++(dJ p.s).map fun k=>r8 p.s (kD p.s k)⟩:=kC _ _
structure Ra where
 E:Option Addr
 Ec:Nat
 V:Option Addr
 Vc:Nat
 X:Option Addr
 Xc:Nat
 M:Option Addr
 Mc:Nat
 S:Option Addr
 Sc:Nat
 Q:Option Addr
 Qc:Nat
 L:List (Rd×Option Addr×Nat)
def rdV (q:Rd×Option Addr×Nat):List Value:=[.int .i64 q.1.id,.int .i64 q.1.ix,.int .i64 q.1.rn,.slice q.2.1 q.1.acks.length q.2.2]
theorem jz (q:Rd×Option Addr×Nat):(rdV q).length=4:=rfl
theorem yC (L:List (Rd×Option Addr×Nat)):∀ u∈L.flatMap rdV,u.oneCell'=true:=xG (fun x _=>by simp [rdV,Value.oneCell'])
def rfV (s:Rf) (a:Ra):List Value:=[.int .i64 s.id,.int .i64 s.nodes,.int .i64 s.role,.int .i64 s.term,.int .i64 s.vote,.int .i64 s.leader,.int .i64 s.b,.int .i64 s.t,.slice a.E s.es.length a.Ec,.string s.snap,.int .i64 s.commit,.int .i64 s.elapsed,.int .i64 s.timeout,.int .u64 s.seed,.slice a.V s.votes.length a.Vc,.slice a.X s.next.length a.Xc,.slice a.M s.mtch.length a.Mc,.slice a.S s.sent.length a.Sc,.int .i64 s.round,.slice a.Q a.L.length a.Qc,.string s.part,.int .i64 s.partOf]
def a0:Ra:=⟨none,0,none,0,none,0,none,0,none,0,none,0,[]⟩
def IR (w:World) (A:Option Addr) (c:Nat) (l:List Int):Prop:=et iV w A l∧l.length≤c∧c≤9223372036854775807∧(A=none→l.length=0∧c=0)
theorem IR.from_ {w w':World} {A:Option Addr} {c:Nat} {l:List Int} (h:IR w A c l) (hF:ag w w'):IR w' A c l:=⟨h.1.from_ hF,h.2⟩
theorem l_ {w:World} {base e s n c:Nat} {A:Option Addr} {xs:List Value} (h:w.ownsRow base e s (.slice A n c) n xs):n≤c∧c≤9223372036854775807:=by
 rcases h.2 with ⟨h0,hx⟩ | ⟨g,cap,cur,hv,_,_,h3,h4,_⟩
 ·simp only [Value.slice.injEq] at h0;obtain ⟨_,rfl,rfl⟩:=h0;exact ⟨Nat.le_refl _,by omega⟩
 ·simp only [Value.slice.injEq] at hv;obtain ⟨_,_,rfl⟩:=hv;exact ⟨h3,h4⟩
theorem mL {w:World} {base c:Nat} {A:Option Addr} {l:List Int} (h:w.ownsRow base 3 1 (.slice A l.length c) l.length (l.map iV)):IR w A c l:=⟨(et.own h).2,(l_ h).1,(l_ h).2,fun e=>by subst e;exact ⟨pS h,rS h⟩⟩
structure eX (w:World) (s:Rf) (a:Ra):Prop where
 e:cC w (.slice a.E s.es.length a.Ec) s.es
 v:IR w a.V a.Vc s.votes
 x:IR w a.X a.Xc s.next
 m:IR w a.M a.Mc s.mtch
 n:IR w a.S a.Sc s.sent
 r:a.L.map (fun q=>q.1)=s.reads
 q:iu 4 rdV w a.Q a.L
 qc:a.L.length≤a.Qc∧a.Qc≤9223372036854775807∧(a.Q=none→a.L.length=0∧a.Qc=0)
 k:∀ q∈a.L,IR w q.2.1 q.2.2 q.1.acks
theorem eX.from_ {w w':World} {s:Rf} {a:Ra} (h:eX w s a) (hF:ag w w'):eX w' s a:=
 ⟨h.e.from_ hF,h.v.from_ hF,h.x.from_ hF,h.m.from_ hF,h.n.from_ hF,h.r,h.q.from_ hF,h.qc,fun q hq=>(h.k q hq).from_ hF⟩
def Col (tag:Nat→Nat) (c:Nat) (A:Option Addr):Prop:=∀ k,A.map (·.block)=some k→tag k=c
theorem Col.none {tag:Nat→Nat} {c:Nat}:Col tag c none:=fun _ h=>by cases h
theorem Col.not {tag:Nat→Nat} {c d:Nat} {A:Option Addr} (h:Col tag c A) (hne:c≠d):∀ k,A.map (·.block)=some k→¬ tag k=d:=fun k hk e=>hne ((h k hk).symm.trans e)
def fP (n c:Nat) (tag:Nat→Nat):Nat→Nat:=fun k=>if k<n then tag k else c
theorem cU {n c k:Nat} {tag:Nat→Nat} (h:k<n):fP n c tag k=tag k:=if_pos h
theorem dN {n c k:Nat} {tag:Nat→Nat} (h:n≤k):fP n c tag k=c:=if_neg (Nat.not_lt.2 h)
theorem Col.re {tag:Nat→Nat} {c d n:Nat} {A:Option Addr} (h:Col tag c A) (hB:∀ k,A.map (·.block)=some k→k<n):Col (fP n d tag) c A:=fun k hk=>(cU (hB k hk)).trans (h k hk)
theorem Col.new {tag:Nat→Nat} {c n:Nat} {A A':Option Addr} (h:Col tag c A) (hB:∀ k,A.map (·.block)=some k→k<n) (hA:∀ k,A'.map (·.block)=some k→A.map (·.block)=some k∨n≤k):Col (fP n c tag) c A':=fun k hk=>by
 rcases hA k hk with e | e
 ·exact (cU (hB k e)).trans (h k e)
 ·exact dN e
theorem ek {w:World} {bs e s n c m:Nat} {A:Option Addr} {l:List Value} (h:w.ownsRow bs e s (.slice A n c) m l):∀ k,A.map (·.block)=some k→k<w.heap.size:=fun k hk=>(eO h k hk).2
structure cO (y:Nat) (w:World) (tag:Nat→Nat) (s:Rf) (a:Ra):Prop where
 e:y≠0→w.ownsRow 0 99 3 (.slice a.E s.es.length a.Ec) s.es.length (dT s.es)∧Col tag 0 a.E
 v:y≠1→w.ownsRow 0 3 1 (.slice a.V s.votes.length a.Vc) s.votes.length (s.votes.map iV)∧Col tag 1 a.V
 x:y≠2→w.ownsRow 0 3 1 (.slice a.X s.next.length a.Xc) s.next.length (s.next.map iV)∧Col tag 2 a.X
 m:y≠3→w.ownsRow 0 3 1 (.slice a.M s.mtch.length a.Mc) s.mtch.length (s.mtch.map iV)∧Col tag 3 a.M
 n:y≠4→w.ownsRow 0 3 1 (.slice a.S s.sent.length a.Sc) s.sent.length (s.sent.map iV)∧Col tag 4 a.S
 r:y≠5→a.L.map (fun q=>q.1)=s.reads
 q:y≠5→w.ownsRow 0 54 4 (.slice a.Q a.L.length a.Qc) a.L.length (a.L.flatMap rdV)∧Col tag 5 a.Q
 k:∀ (i:Nat) (h:i<a.L.length),y≠1001+2*i→w.ownsRow 0 3 1 (.slice a.L[i].2.1 a.L[i].1.acks.length a.L[i].2.2) a.L[i].1.acks.length (a.L[i].1.acks.map iV)∧Col tag (1001+2*i) a.L[i].2.1
abbrev bo (w:World) (tag:Nat→Nat) (s:Rf) (a:Ra):Prop:=cO 7 w tag s a
theorem en {w w':World} {tag:Nat→Nat} {c d base e s n cc:Nat} {A:Option Addr} {xs:List Value} (hC:Chg (fun k=>tag k=c) w w') (hne:d≠c) (h:w.ownsRow base e s (.slice A n cc) n xs∧Col tag d A):w'.ownsRow base e s (.slice A n cc) n xs∧Col (fP w.heap.size c tag) d A:=
 ⟨eE h.1 hC (h.2.not hne),h.2.re (ek h.1)⟩
theorem bo.but {w w':World} {c:Nat} {tag:Nat→Nat} {s:Rf} {a:Ra} (h:bo w tag s a) (hC:Chg (fun k=>tag k=c) w w'):cO c w' (fP w.heap.size c tag) s a:=
 ⟨fun hx=>en hC hx.symm (h.e (by decide)),fun hx=>en hC hx.symm (h.v (by decide)),fun hx=>en hC hx.symm (h.x (by decide)),fun hx=>en hC hx.symm (h.m (by decide)),fun hx=>en hC hx.symm (h.n (by decide)),fun _=>h.r (by decide),fun hx=>en hC hx.symm (h.q (by decide)),fun i hi hx=>en hC hx.symm (h.k i hi (by omega))⟩
section
variable {w w':World} {tag:Nat→Nat} {s:Rf} {a:Ra}
theorem cO.log (h:cO 0 w tag s a) {A:Option Addr} {c n:Nat} {l:List Ent} (B T:Int) (hn:n=l.length) (ho:w.ownsRow 0 99 3 (.slice A n c) n (dT l)) (hc:Col tag 0 A):bo w tag { s with b:=B,t:=T,es:=l } { a with E:=A,Ec:=c }:=by
 subst hn;exact ⟨fun _=>⟨ho,hc⟩,fun _=>h.v (by decide),fun _=>h.x (by decide),fun _=>h.m (by decide),fun _=>h.n (by decide),fun _=>h.r (by decide),fun _=>h.q (by decide),fun i hi _=>h.k i hi (by omega)⟩
theorem cO.votes (h:cO 1 w tag s a) {A:Option Addr} {c n:Nat} {l:List Int} (hn:n=l.length) (ho:w.ownsRow 0 3 1 (.slice A n c) n (l.map iV)) (hc:Col tag 1 A):bo w tag { s with votes:=l } { a with V:=A,Vc:=c }:=by
 subst hn;exact ⟨fun _=>h.e (by decide),fun _=>⟨ho,hc⟩,fun _=>h.x (by decide),fun _=>h.m (by decide),fun _=>h.n (by decide),fun _=>h.r (by decide),fun _=>h.q (by decide),fun i hi _=>h.k i hi (by omega)⟩
theorem cO.next (h:cO 2 w tag s a) {A:Option Addr} {c n:Nat} {l:List Int} (hn:n=l.length) (ho:w.ownsRow 0 3 1 (.slice A n c) n (l.map iV)) (hc:Col tag 2 A):bo w tag { s with next:=l } { a with X:=A,Xc:=c }:=by
 subst hn;exact ⟨fun _=>h.e (by decide),fun _=>h.v (by decide),fun _=>⟨ho,hc⟩,fun _=>h.m (by decide),fun _=>h.n (by decide),fun _=>h.r (by decide),fun _=>h.q (by decide),fun i hi _=>h.k i hi (by omega)⟩
theorem cO.mtch (h:cO 3 w tag s a) {A:Option Addr} {c n:Nat} {l:List Int} (hn:n=l.length) (ho:w.ownsRow 0 3 1 (.slice A n c) n (l.map iV)) (hc:Col tag 3 A):bo w tag { s with mtch:=l } { a with M:=A,Mc:=c }:=by
 subst hn;exact ⟨fun _=>h.e (by decide),fun _=>h.v (by decide),fun _=>h.x (by decide),fun _=>⟨ho,hc⟩,fun _=>h.n (by decide),fun _=>h.r (by decide),fun _=>h.q (by decide),fun i hi _=>h.k i hi (by omega)⟩
theorem cO.sent (h:cO 4 w tag s a) {A:Option Addr} {c n:Nat} {l:List Int} (hn:n=l.length) (ho:w.ownsRow 0 3 1 (.slice A n c) n (l.map iV)) (hc:Col tag 4 A):bo w tag { s with sent:=l } { a with S:=A,Sc:=c }:=by
 subst hn;exact ⟨fun _=>h.e (by decide),fun _=>h.v (by decide),fun _=>h.x (by decide),fun _=>h.m (by decide),fun _=>⟨ho,hc⟩,fun _=>h.r (by decide),fun _=>h.q (by decide),fun i hi _=>h.k i hi (by omega)⟩
theorem du {e s:Nat}:w.ownsRow 0 e s (.slice none 0 0) 0 []:=World.ownsRow_nil _ _ _ _
theorem bo.alone (h:bo w tag s a):bo w tag (fD s) { a0 with E:=a.E,Ec:=a.Ec }:=
 ⟨fun _=>h.e (by decide),fun _=>⟨du,Col.none⟩,fun _=>⟨du,Col.none⟩,fun _=>⟨du,Col.none⟩,fun _=>⟨du,Col.none⟩,fun _=>rfl,fun _=>⟨du,Col.none⟩,fun i hi _=>absurd hi (Nat.not_lt_zero _)⟩
theorem bo.same {s':Rf} (h:bo w tag s a) (he:s'.es=s.es) (hv:s'.votes=s.votes) (hx:s'.next=s.next) (hm:s'.mtch=s.mtch) (hn:s'.sent=s.sent) (hr:s'.reads=s.reads):bo w tag s' a:=
 ⟨by rw [he];exact h.e,by rw [hv];exact h.v,by rw [hx];exact h.x,by rw [hm];exact h.m,by rw [hn];exact h.n,by rw [hr];exact h.r,h.q,h.k⟩
theorem bo.from_ (h:bo w tag s a) (hF:ag w w'):bo w' tag s a:=
 ⟨fun hx=>⟨(h.e hx).1.kept_from hF,(h.e hx).2⟩,fun hx=>⟨(h.v hx).1.kept_from hF,(h.v hx).2⟩,fun hx=>⟨(h.x hx).1.kept_from hF,(h.x hx).2⟩,fun hx=>⟨(h.m hx).1.kept_from hF,(h.m hx).2⟩,fun hx=>⟨(h.n hx).1.kept_from hF,(h.n hx).2⟩,h.r,fun hx=>⟨(h.q hx).1.kept_from hF,(h.q hx).2⟩,fun i hi hx=>⟨(h.k i hi hx).1.kept_from hF,(h.k i hi hx).2⟩⟩
theorem bo.re (h:bo w tag s a) (d:Nat):bo w (fP w.heap.size d tag) s a:=
 ⟨fun hx=>⟨(h.e hx).1,(h.e hx).2.re (ek (h.e hx).1)⟩,fun hx=>⟨(h.v hx).1,(h.v hx).2.re (ek (h.v hx).1)⟩,fun hx=>⟨(h.x hx).1,(h.x hx).2.re (ek (h.x hx).1)⟩,fun hx=>⟨(h.m hx).1,(h.m hx).2.re (ek (h.m hx).1)⟩,fun hx=>⟨(h.n hx).1,(h.n hx).2.re (ek (h.n hx).1)⟩,h.r,fun hx=>⟨(h.q hx).1,(h.q hx).2.re (ek (h.q hx).1)⟩,fun i hi hx=>⟨(h.k i hi hx).1,(h.k i hi hx).2.re (ek (h.k i hi hx).1)⟩⟩
theorem bo.rd (h:bo w tag s a):eX w s a:=
 ⟨cC.of_own (h.e (by decide)).1 rfl,mL (h.v (by decide)).1,mL (h.x (by decide)).1,mL (h.m (by decide)).1,mL (h.n (by decide)).1,h.r (by decide),(iu.own jz (by decide) (h.q (by decide)).1).2,⟨(l_ (h.q (by decide)).1).1,(l_ (h.q (by decide)).1).2,fun e=>by have h9:=(h.q (by decide)).1;rw [e] at h9;exact ⟨pS h9,rS h9⟩⟩,fun q hq=>by
  obtain ⟨i,hi,rfl⟩:=List.getElem_of_mem hq;exact mL (h.k i hi (by omega)).1⟩
theorem cO.reads (h:cO 5 w tag s a) {A:Option Addr} {c n:Nat} (hn:n=a.L.length) (ho:w.ownsRow 0 54 4 (.slice A n c) n (a.L.flatMap rdV)) (hc:Col tag 5 A):bo w tag { s with reads:=a.L.map (fun q=>q.1) } { a with Q:=A,Qc:=c }:=by
 subst hn;exact ⟨fun _=>h.e (by decide),fun _=>h.v (by decide),fun _=>h.x (by decide),fun _=>h.m (by decide),fun _=>h.n (by decide),fun _=>rfl,fun _=>⟨ho,hc⟩,fun i hi _=>h.k i hi (by omega)⟩
theorem cO.ack (h:cO 5 w tag s a) (hF:ag w w') {q:Rd} {A:Option Addr} {c:Nat} (ho:w'.ownsRow w.heap.size 3 1 (.slice A q.acks.length c) q.acks.length (q.acks.map iV)):cO 5 w' (fP w.heap.size (1001+2*a.L.length) tag) s { a with L:=a.L++[(q,A,c)] }:=by
 have re:∀ {d e s n cc:Nat} {A:Option Addr} {xs:List Value},w.ownsRow 0 e s (.slice A n cc) n xs∧Col tag d A→w'.ownsRow 0 e s (.slice A n cc) n xs∧Col (fP w.heap.size (1001+2*a.L.length) tag) d A:=fun h=>⟨h.1.kept_from hF,h.2.re (ek h.1)⟩
 refine ⟨fun _=>re (h.e (by decide)),fun _=>re (h.v (by decide)),fun _=>re (h.x (by decide)),fun _=>re (h.m (by decide)),fun _=>re (h.n (by decide)),fun e=>absurd rfl e,fun e=>absurd rfl e,fun i hi _=>?_⟩;by_cases hi':i<a.L.length
 ·simp only [List.getElem_append_left hi'];exact re (h.k i hi' (by omega))
 ·obtain rfl:i=a.L.length:=by simp only [List.length_append,List.length_singleton] at hi;omega
  simp only [List.getElem_append_right (Nat.le_refl _),Nat.sub_self,List.getElem_singleton];exact ⟨dW ho (Nat.zero_le _),fun k hk=>dN (eO ho k hk).1⟩
theorem cO.five {g:Nat} (h:cO 5 w tag s a) (hO:eM g w w') (hg:tag g=5):cO 5 w' tag s a:=by
 have re:∀ {d e s n cc:Nat} {A:Option Addr} {xs:List Value},d≠5→w.ownsRow 0 e s (.slice A n cc) n xs∧Col tag d A→w'.ownsRow 0 e s (.slice A n cc) n xs∧Col tag d A:=fun hd h=>⟨gk h.1 hO fun k hk e=>hd ((h.2 k hk).symm.trans (e ▸ hg)),h.2⟩
 exact ⟨fun _=>re (by decide) (h.e (by decide)),fun _=>re (by decide) (h.v (by decide)),fun _=>re (by decide) (h.x (by decide)),fun _=>re (by decide) (h.m (by decide)),fun _=>re (by decide) (h.n (by decide)),fun e=>absurd rfl e,fun e=>absurd rfl e,fun i hi _=>re (by omega) (h.k i hi (by omega))⟩
theorem cO.from_ {y:Nat} (h:cO y w tag s a) (hF:ag w w'):cO y w' tag s a:=
 ⟨fun hx=>⟨(h.e hx).1.kept_from hF,(h.e hx).2⟩,fun hx=>⟨(h.v hx).1.kept_from hF,(h.v hx).2⟩,fun hx=>⟨(h.x hx).1.kept_from hF,(h.x hx).2⟩,fun hx=>⟨(h.m hx).1.kept_from hF,(h.m hx).2⟩,fun hx=>⟨(h.n hx).1.kept_from hF,(h.n hx).2⟩,h.r,fun hx=>⟨(h.q hx).1.kept_from hF,(h.q hx).2⟩,fun i hi hx=>⟨(h.k i hi hx).1.kept_from hF,(h.k i hi hx).2⟩⟩
theorem bo.zero:bo w tag zR a0:=
 ⟨fun _=>⟨du,Col.none⟩,fun _=>⟨du,Col.none⟩,fun _=>⟨du,Col.none⟩,fun _=>⟨du,Col.none⟩,fun _=>⟨du,Col.none⟩,fun _=>rfl,fun _=>⟨du,Col.none⟩,fun _ hi _=>absurd hi (Nat.not_lt_zero _)⟩
end
structure eC (w:World) (tag:Nat→Nat) (out:List Msg) (O:Option Addr) (oc:Nat) (L:List Msg):Prop where
 o:w.ownsRow 0 39 13 (.slice O L.length oc) L.length (L.flatMap bC)
 l:L.map pl=out
 e:∀ (j:Nat) (h:j<L.length),w.ownsRow 0 99 3 (.slice L[j].E L[j].es.length L[j].c) L[j].es.length (dT L[j].es)∧Col tag (1000+2*j) L[j].E
 c:Col tag 6 O
def StC (c:Nat):Prop:=c≤5∨∃ i,c=1001+2*i
section
variable {w0 w w' w1 w2:World} {tag:Nat→Nat} {out:List Msg} {O:Option Addr} {oc c T g:Nat} {L:List Msg} {Z Z':Nat→Prop} {p p':Sp} {a a':Ra} {s':Rf}
theorem eC.chg (h:eC w tag out O oc L) (hC:Chg (fun k=>tag k=c) w w') (h6:6≠c) (hj:∀ j,j<L.length→1000+2*j≠c):eC w' (fP w.heap.size c tag) out O oc L:=
 ⟨(en hC h6 ⟨h.o,h.c⟩).1,h.l,fun j hj'=>en hC (hj j hj') (h.e j hj'),(en hC h6 ⟨h.o,h.c⟩).2⟩
theorem eC.from_ (h:eC w tag out O oc L) (hF:ag w w'):eC w' tag out O oc L:=
 ⟨h.o.kept_from hF,h.l,fun j hj=>⟨(h.e j hj).1.kept_from hF,(h.e j hj).2⟩,h.c⟩
theorem eC.re (h:eC w tag out O oc L) (d:Nat):eC w (fP w.heap.size d tag) out O oc L:=
 ⟨h.o,h.l,fun j hj=>⟨(h.e j hj).1,(h.e j hj).2.re (ek (h.e j hj).1)⟩,h.c.re (ek h.o)⟩
theorem StC.six (h:StC c):6≠c:=by rcases h with h | ⟨i,h⟩ <;> omega
theorem StC.eight (h:StC c):8≠c:=by rcases h with h | ⟨i,h⟩ <;> omega
theorem StC.even (h:StC c) (j:Nat):1000+2*j≠c:=by rcases h with h | ⟨i,h⟩ <;> omega
structure gP (w:World) (Z:Nat→Prop) (T g:Nat) (tag:Nat→Nat) (p:Sp) (a:Ra) (O:Option Addr) (oc:Nat) (L:List Msg):Prop where
 b:Blk w g T (rfV p.s a++[Value.slice O L.length oc]).toArray
 f:bo w tag p.s a
 m:eC w tag p.out O oc L
 gc:tag g=7
 z:∀ k,Z k→tag k=8
theorem gP.from_ (h:gP w Z T g tag p a O oc L) (hF:ag w w'):gP w' Z T g tag p a O oc L:=⟨h.b.from_ hF,h.f.from_ hF,h.m.from_ hF,h.gc,h.z⟩
structure aR (w0:World) (Z:Nat→Prop) (w:World) (T g:Nat) (p:Sp):Prop where
 ex:∃ tag a O oc L,gP w Z T g tag p a O oc L
 zl:∀ k,Z k→k<w0.heap.size
 fr:Chg (fun k=>¬ Z k) w0 w
theorem aR.from_ (h:aR w0 Z w T g p) (hF:ag w w'):aR w0 Z w' T g p:=by
 obtain ⟨tag,a,O,oc,L,hs⟩:=h.ex;exact ⟨⟨tag,a,O,oc,L,hs.from_ hF⟩,h.zl,h.fr.next hF.toChg⟩
theorem aR.zw (h:aR w0 Z w T g p):∀ k,Z k→k<w.heap.size:=fun k hk=>Nat.lt_of_lt_of_le (h.zl k hk) h.fr.size
theorem gP.new (h:gP w Z T g tag p a O oc L) (hZ:∀ k,Z k→k<w.heap.size) (hF:ag w w') (d:Nat):gP w' Z T g (fP w.heap.size d tag) p a O oc L:=
 ⟨h.b.from_ hF,(h.f.re d).from_ hF,(h.m.re d).from_ hF,(cU h.b.lt).trans h.gc,fun k hk=>(cU (hZ k hk)).trans (h.z k hk)⟩
theorem aR.at_ (h:aR w0 Z w T g p) (hF:ag w w1) (hZ:∀ k,Z' k→k<w1.heap.size∧(Z k∨w.heap.size≤k)):aR w1 Z' w1 T g p:=by
 obtain ⟨tag,a,O,oc,L,hs⟩:=h.ex;refine ⟨⟨fP w.heap.size 8 tag,a,O,oc,L,⟨hs.b.from_ hF,(hs.f.re 8).from_ hF,(hs.m.re 8).from_ hF,(cU hs.b.lt).trans hs.gc,fun k hk=>?_⟩⟩,fun k hk=>(hZ k hk).1,Chg.rfl_⟩;rcases Nat.lt_or_ge k w.heap.size with e | e
 ·rw [cU e];exact hs.z k ((hZ k hk).2.resolve_right (by omega))
 ·exact dN e
theorem aR.back (h:aR w0 Z w T g p) (hF:ag w w1) (h':aR w1 Z' w' T g p') (hZ:∀ k,Z k→Z' k):aR w0 Z w' T g p':=by
 obtain ⟨tag,a,O,oc,L,hs⟩:=h'.ex;exact ⟨⟨tag,a,O,oc,L,⟨hs.b,hs.f,hs.m,hs.gc,fun k hk=>hs.z k (hZ k hk)⟩⟩,h.zl,(h.fr.next hF.toChg).next (h'.fr.wide fun k hk=>.inl fun e=>hk (hZ k e))⟩
theorem aR.kept {k t:Nat} {cs:Array Value} (h:aR w0 Z w T g p) (hk:Z k) (hb:Blk w0 k t cs):Blk w k t cs:=hb.chg h.fr fun e=>e hk
theorem gI {w w':World} {tag:Nat→Nat} {g d base e s n cc:Nat} {A:Option Addr} {xs:List Value} (hC:Chg (fun k=>k=g) w w') (hg:tag g=7) (hd:d≠7) (h:w.ownsRow base e s (.slice A n cc) n xs∧Col tag d A):w'.ownsRow base e s (.slice A n cc) n xs∧Col tag d A:=
 ⟨eE h.1 hC (fun k hk e=>hd ((h.2 k hk).symm.trans (by rw [show k=g from e];exact hg))),h.2⟩
theorem bo.chgG (h:bo w tag s' a) (hC:Chg (fun k=>k=g) w w') (hg:tag g=7):bo w' tag s' a:=
 ⟨fun hx=>gI hC hg (by decide) (h.e hx),fun hx=>gI hC hg (by decide) (h.v hx),fun hx=>gI hC hg (by decide) (h.x hx),fun hx=>gI hC hg (by decide) (h.m hx),fun hx=>gI hC hg (by decide) (h.n hx),h.r,fun hx=>gI hC hg (by decide) (h.q hx),fun i hi hx=>gI hC hg (by omega) (h.k i hi hx)⟩
theorem eC.chgG (h:eC w tag out O oc L) (hC:Chg (fun k=>k=g) w w') (hg:tag g=7):eC w' tag out O oc L:=
 ⟨(gI hC hg (by decide) ⟨h.o,h.c⟩).1,h.l,fun j hj=>gI hC hg (by omega) (h.e j hj),h.c⟩
theorem aR.put (h:aR w0 Z w T g p) (hs:gP w Z T g tag p a O oc L) (hC:Chg (fun k=>tag k=c) w w1) (hc:StC c) (hf:bo w1 (fP w.heap.size c tag) s' a') (hO:Chg (fun k=>k=g) w1 w2) (hb:Blk w2 g T (rfV s' a'++[Value.slice O L.length oc]).toArray):gP w2 Z T g (fP w.heap.size c tag) ⟨s',p.out⟩ a' O oc L∧aR w0 Z w2 T g ⟨s',p.out⟩:=by
 have hg:fP w.heap.size c tag g=7:=(cU hs.b.lt).trans hs.gc;have hz:∀ k,Z k→fP w.heap.size c tag k=8:=fun k hk=>(cU (Nat.lt_of_lt_of_le (h.zl k hk) h.fr.size)).trans (hs.z k hk)
 have h1:gP w2 Z T g (fP w.heap.size c tag) ⟨s',p.out⟩ a' O oc L:=⟨hb,hf.chgG hO hg,(hs.m.chg hC hc.six (fun j _=>hc.even j)).chgG hO hg,hg,hz⟩;refine ⟨h1,⟨⟨_,_,_,_,_,h1⟩,h.zl,?_⟩⟩;refine (h.fr.next (hC.wide fun k hk=>.inl fun hz1=>?_)).next (hO.wide fun k hk=>.inl fun hz1=>?_)
 ·exact hc.eight ((hs.z k hz1).symm.trans hk)
 ·have:=hz k hz1;rw [show k=g from hk,hg] at this;cases this
theorem aR.set (h:aR w0 Z w T g p) (hs:gP w Z T g tag p a O oc L) (hO:Chg (fun k=>k=g) w w2) (hf:bo w tag s' a') (hb:Blk w2 g T (rfV s' a'++[Value.slice O L.length oc]).toArray):gP w2 Z T g tag ⟨s',p.out⟩ a' O oc L∧aR w0 Z w2 T g ⟨s',p.out⟩:=by
 have h1:gP w2 Z T g tag ⟨s',p.out⟩ a' O oc L:=⟨hb,hf.chgG hO hs.gc,hs.m.chgG hO hs.gc,hs.gc,hs.z⟩;refine ⟨h1,⟨⟨_,_,_,_,_,h1⟩,h.zl,h.fr.next (hO.wide fun k hk=>.inl fun hz1=>?_)⟩⟩;have:=hs.z k hz1;rw [show k=g from hk,hs.gc] at this;cases this
theorem cO.six (h:cO 6 w tag s' a):bo w tag s' a:=
 ⟨fun _=>h.e (by decide),fun _=>h.v (by decide),fun _=>h.x (by decide),fun _=>h.m (by decide),fun _=>h.n (by decide),fun _=>h.r (by decide),fun _=>h.q (by decide),fun i hi _=>h.k i hi (by omega)⟩
theorem aR.push {w3:World} {O':Option Addr} {n' oc':Nat} {x:Msg} (h:aR w0 Z w T g p) (hs:gP w Z T g tag p a O oc L) (hE:w.ownsRow 0 99 3 (.slice x.E x.es.length x.c) x.es.length (dT x.es)∧Col tag (1000+2*L.length) x.E) (hF:ag w w1) (hG:w1.grownBy w2 (O.map (·.block)))
 (ho:w2.ownsRow 0 39 13 (.slice O' n' oc') n' (L.flatMap bC++bC x)) (hn:n'=L.length+1) (hL:∀ k,O'.map (·.block)=some k→O.map (·.block)=some k∨w.heap.size≤k) (hO:eM g w2 w3) (hb:Blk w3 g T (rfV p.s a++[Value.slice O' n' oc']).toArray):aR w0 Z w3 T g ⟨p.s,p.out++[pl x]⟩:=by
 subst hn;have hC:Chg (fun k=>tag k=6) w w2:=(ag.toChg hF).next (Chg.of_grown hG fun k hk=>hs.m.c k hk);have hg:fP w.heap.size 6 tag g=7:=(cU hs.b.lt).trans hs.gc;have hz:∀ k,Z k→fP w.heap.size 6 tag k=8:=fun k hk=>(cU (Nat.lt_of_lt_of_le (h.zl k hk) h.fr.size)).trans (hs.z k hk)
 have hm:eC w2 (fP w.heap.size 6 tag) (p.out++[pl x]) O' oc' (L++[x]):=by
  refine ⟨?_,by rw [List.map_append,hs.m.l];rfl,fun j hj=>?_,hs.m.c.new (ek hs.m.o) hL⟩
  ·rw [List.flatMap_append,List.length_append];simpa using ho
  ·by_cases hj':j<L.length
   ·rw [List.getElem_append_left hj'];exact en hC (by omega) (hs.m.e j hj')
   ·have hj2:j=L.length:=by rw [List.length_append,List.length_singleton] at hj;omega
    subst hj2;rw [List.getElem_append_right (Nat.le_refl _)];simp only [Nat.sub_self,List.getElem_singleton];exact en hC (by omega) hE
 have hO2:Chg (fun k=>k=g) w2 w3:=hO.toChg rfl;have h1:gP w3 Z T g (fP w.heap.size 6 tag) ⟨p.s,p.out++[pl x]⟩ a O' oc' (L++[x]):=⟨by rw [List.length_append];exact hb,((hs.f.but hC).six).chgG hO2 hg,hm.chgG hO2 hg,hg,hz⟩;refine ⟨⟨_,_,_,_,_,h1⟩,h.zl,(h.fr.next (hC.wide fun k hk=>.inl fun hz1=>?_)).next (hO2.wide fun k hk=>.inl fun hz1=>?_)⟩
 ·have:=hs.z k hz1;rw [hk] at this;cases this
 ·have:=hz k hz1;rw [show k=g from hk,hg] at this;cases this
end
section
variable {P:Program} {ops:Array Oper} {Q:Exit→Act→World→Prop} {rest:List Oper} {n:Fr} {L:List (Nat×Value)} {w:World} {ty:TypeId} {pos:String} {after:Array Edge} {t:TypeId} {x y:Operand} {T g:Nat} {s s':Rf} {a a':Ra} {R:List Value}
theorem jy (s:Rf) (a:Ra):(rfV s a).length=22:=rfl
theorem dM (hb:Blk w g T (rfV s a++R).toArray) (k:Nat) {v:Value} (h:(rfV s a)[k]? =some v):w.cell? ⟨g,k,none⟩=some v:=by
 rw [hb.cell,←h];have hk:k<(rfV s a).length:=(List.getElem?_eq_some_iff.1 h).1;simp only [List.getElem?_toArray];exact List.getElem?_append_left hk
theorem wH {k:Nat} {v:Value} (hP:Blk w g T ((rfV s a++R).toArray.setIfInBounds k v)) (e:k<22∧(rfV s a).set k v=rfV s' a'):Blk w g T (rfV s' a'++R).toArray:=by
 rw [List.setIfInBounds_toArray,List.set_append_left _ _ (by rw [jy];exact e.1),e.2] at hP;exact hP
theorem cN {k:Nat} {v:Value} (ht:ea P t=some 1) (hx:ev n L x=.pointer (some ⟨g,k,none⟩)) (hy:ev n L y=v) (h1:v.oneCell'=true) (hb:Blk w g T (rfV s a++R).toArray) (e:k<22∧(rfV s a).set k v=rfV s' a')
 (kk:∀ w',eM g w w'→Blk w' g T (rfV s' a'++R).toArray→St P ops Q rest n L w'):St P ops Q (⟨none,.store t x y,ty,pos,after,none⟩::rest) n L w:=
 ej ht hx hy h1 hb (by have:=e.1;simp [jy];omega) fun w' o b=>kk w' o (wH b e)
theorem mD {b t9:Int} {E:Option Addr} {n9 c:Nat} {es:List Ent} (hn:n9=es.length) (ht:ea P t=some 3) (hx:ev n L x=.pointer (some ⟨g,6,none⟩)) (hy:ev n L y=.agg #[.int .i64 b,.int .i64 t9,.slice E n9 c]) (hb:Blk w g T (rfV s a++R).toArray)
 (kk:∀ w',eM g w w'→Blk w' g T (rfV { s with b:=b,t:=t9,es:=es } { a with E:=E,Ec:=c }++R).toArray→St P ops Q rest n L w'):St P ops Q (⟨none,.store t x y,ty,pos,after,none⟩::rest) n L w:=by
 subst hn;refine uy (vs:=[.int .i64 b,.int .i64 t9,.slice E es.length c]) ht hx hy (by simp [Value.oneCell']) hb (by simp [jy];omega) fun w' o k=>kk w' o ?_
 have e:iN (rfV s a++R) 6 [.int .i64 b,.int .i64 t9,.slice E es.length c]=rfV { s with b:=b,t:=t9,es:=es } { a with E:=E,Ec:=c }++R:=rfl;rw [e] at k;exact k
theorem gW (hb:Blk w g T (rfV s a++R).toArray):w.rangeAt g 6 [.int .i64 s.b,.int .i64 s.t,.slice a.E s.es.length a.Ec]:=fun j v hv=>by
 match j,hv with
 |0,hv=>exact dM hb 6 hv
 |1,hv=>exact dM hb 7 hv
 |2,hv=>exact dM hb 8 hv
 |j+3,hv=>simp at hv
theorem mI (hb:Blk w g T (rfV s a++R).toArray):w.rangeAt g 0 (rfV s a):=fun j v hv=>by rw [Nat.zero_add];exact dM hb j hv
theorem oM {dst:Option Nat} {post:Value→World→Prop} {base:Nat} {A A2:Option Addr} {m j cap c2 e size by_:Nat} {z:Value} {xs news:List Value} (hq:kq P t=some (e,size,by_,z)) (hzs:z.cells.size=size) (hs0:0<size)
 (hs:ev n L x=.slice A m cap) (hown:w.ownsRow base e size (.slice A m cap) m xs) (hB:base≤w.heap.size)
 (hx:ev n L y=.slice A2 j c2) (hl:news.length=j*size) (hsrc:∃ b o,A2=some ⟨b,o,none⟩∧w.rangeAt b o news) (h1:∀ u∈news,u.oneCell'=true) (h63:m+j≤9223372036854775807) (hby:(m+j)*by_≤140737488355328)
 (k:∀ A' cap' w',w'.ownsRow base e size (.slice A' (m+j) cap') (m+j) (xs++news)→w.grownBy w' (A.map (·.block))→(∀ q,A'.map (·.block)=some q→A.map (·.block)=some q∨w.heap.size≤q)→post (.slice A' (m+j) cap') w') :
 vP P ops n L ⟨dst,.call { callee:=.builtin .append,args:=#[x,y],argTypes:=#[t,t] },ty,pos,after,none⟩ w post:=by
 obtain ⟨A',cap',w',hr,ho,hg,hl⟩:=oB (P:=P) (ρ:=ev n L) hq hzs hs0 hs hown hB hx hl hsrc h1 h63 hby;refine ⟨rfl,.inl ⟨_,w',hr _ _ _ _ _,k A' cap' w' ho hg fun q hq=>?_⟩⟩;rcases hl with e | e
 ·exact .inl (e ▸ hq)
 ·rw [e] at hq;cases hq;exact .inr (Nat.le_refl _)
theorem Chg.only {U:Nat→Prop} {w w1 w2:World} {g:Nat} (h:Chg U w w1) (o:eM g w1 w2) (hg:U g):Chg U w w2:=h.next (o.toChg hg)
end
end Go.Proofs.YtkpooenofjdpmaaGreat
namespace Go.Proofs.YtkpooenofjdpmaaGreat
open Go.Proofs.Tryz (prog)
open Go.RowKit
open Go.ChangeShapes Go.WideShapes Go.ChangeAt
open Go.RowKit
theorem oP {s s':Rf} (hc:s.commit≤s'.commit) (hr:s.round≤s'.round) (hn:s'.nodes=s.nodes) {q:Rd} (h:gQ s q=true):gQ s' q=true:=by
 unfold gQ at h ⊢;simp only [Bool.and_eq_true] at h ⊢;obtain ⟨⟨⟨h1,h2⟩,h3⟩,h4⟩:=h;have h2':=dw h2;have h3':=dw h3;exact ⟨⟨⟨h1,fv (by omega)⟩,fv (by omega)⟩,by rw [hn];exact h4⟩
theorem RfF.elapse {s:Rf} (h:RfF s) {x:Int} (hx:0≤x∧x≤1099511627775):RfF { s with elapsed:=x }:={ h with el:=hx }
theorem RfF.beat {s:Rf} (h:RfF s) {x r:Int} (hx:0≤x∧x≤1099511627775) (hr:s.round≤r∧r≤1099511627775):RfF { s with elapsed:=x,round:=r }:=
 { h with el:=hx,rn:=by have h9:=h.rn;exact ⟨by show 0≤r;omega,hr.2⟩,rd:=fun q hq=>oP (s:=s) (s':={ s with elapsed:=x,round:=r }) (Int.le_refl _) hr.1 rfl (h.rd q hq) }
theorem z40:(0:Int)≤1099511627775:=by decide
theorem z11:(0:Int)≤1099511625728:=by decide
theorem z2:(0:Int)≤2:=by decide
theorem RfF.n0 {s:Rf} (h:RfF s):0≤s.nodes:=by have:=h.n;omega
theorem tS (s:Int):-10<bl s 10∧bl s 10<10:=by
 rw [zx (by decide)];have h1:=Int.tmod_lt_of_pos (nx s) (show (0:Int)<10 by decide);have h2:=Int.lt_tmod_of_pos (nx s) (show (0:Int)<10 by decide);rw [IntWalk.wrap64_in _ (by omega)];omega
theorem RfF.draws {s:Rf} (h:RfF s):RfF (iD s):=by
 have:=tS s.seed;exact { h with el:=⟨Int.le_refl _,z40⟩,ti:=⟨by show 0≤10+bl s.seed 10;omega,by show 10+bl s.seed 10≤_;omega⟩ }
theorem RfF.alone {s:Rf} (h:RfF s) {r l:Int} (hr:r=0∨r=1) (hl:0≤l∧l≤s.nodes):RfF { fD s with role:=r,leader:=l }:=by
 have h0:gp { fD s with role:=r,leader:=l }=0:=nT (by show r≠2;omega);exact { n:=h.n,i:=h.i,ro:=by (show 0≤r∧r≤2);omega,te:=h.te,vo:=h.vo,le:=hl,lg:=h.lg,sn:=h.sn,sb:=h.sb,el:=h.el,ti:=h.ti,rn:=h.rn,vs:=rfl,lt:=h.lt,co:=h.co,pa:=h.pa,po:=h.po,pp:=h.pp,nx:=⟨h0.symm,fun x hx=>by cases hx⟩,ma:=⟨h0.symm,fun x hx=>by cases hx⟩,se:=⟨h0.symm,fun x hx=>by cases hx⟩,rl:=by (show 0≤32);decide,r0:=.inr rfl,rd:=fun q hq=>by cases hq }
theorem RfF.termed {s:Rf} (h:RfF s) {tm:Int} (ht:s.term≤tm∧tm≤1099511627775) {v:Int} (hv:0≤v∧v≤s.nodes):RfF { s with term:=tm,vote:=v,part:=⟨#[]⟩,partOf:=0 }:=
 { h with te:=by have:=h.te;exact ⟨by show 0≤tm;omega,ht.2⟩,vo:=hv,lt:=by have:=h.lt;show cV s.t s.es≤tm;omega,pa:=by (show 0≤524288);decide,po:=⟨Int.le_refl _,z11⟩,pp:=.inr rfl }
theorem RfF.falls {s:Rf} (h:RfF s) {tm:Int} (ht:tm≤1099511627775):RfF (cJ s tm):=by
 have h1:=h.alone (r:=0) (l:=0) (.inl rfl) ⟨Int.le_refl _,h.n0⟩;unfold cJ;simp only;split
 ·rename_i h2;exact h1.termed (tm:=tm) (v:=0) ⟨by show s.term≤tm;omega,ht⟩ ⟨Int.le_refl _,h.n0⟩
 ·exact h1
theorem tl {n x:Int} (h:1≤x∧x≤n):fC [x] n=true:=by
 unfold fC;simp only [List.all_cons,List.all_nil,Bool.and_true,gu,Bool.and_eq_true,decide_eq_true_eq];exact h
def eh (s:Rf):Rf:=iD { fD s with term:=s.term+1,vote:=s.id,role:=1,leader:=0,votes:=[s.id],part:=⟨#[]⟩,partOf:=0 }
theorem RfF.cand {s:Rf} (h:RfF s) (ht:s.term≠eP):RfF (eh s):=by
 have h1:=h.alone (r:=1) (l:=0) (.inr rfl) ⟨Int.le_refl _,h.n0⟩;have hi:=h.i;have h2:=h1.termed (tm:=s.term+1) (v:=s.id) ⟨by show s.term≤s.term+1;omega,by have:=h.te;unfold eP at ht;omega⟩ ⟨by omega,hi.2⟩;exact RfF.draws { h2 with vs:=tl hi }
def eB (s:Rf):Rf:={ fD s with role:=2,leader:=s.id,elapsed:=0,next:=List.replicate s.nodes.toNat (bm s+1),mtch:=List.replicate s.nodes.toNat 0,sent:=List.replicate s.nodes.toNat 0 }
theorem RfF.last {s:Rf} (h:RfF s):bm s=s.b+s.es.length∧0≤s.b∧s.b≤bm s∧s.es.length≤512∧s.b≤1099511625728:=by
 obtain ⟨h1,h2,h3,h4⟩:=eU h.lg;have h5:bm s=s.b+s.es.length:=h1;exact ⟨h5,h2,by omega,h4,h3⟩
theorem RfF.chief {s:Rf} (h:RfF s):RfF (eB s):=by
 have hl:=h.last;have hn:=h.n;have h0:gp (eB s)=s.nodes.toNat:=jA rfl;exact { n:=h.n,i:=h.i,ro:=⟨z2,Int.le_refl _⟩,te:=h.te,vo:=h.vo,le:=⟨by have:=h.i;show 0≤s.id;omega,h.i.2⟩,lg:=h.lg,sn:=h.sn,sb:=h.sb,el:=⟨Int.le_refl _,z40⟩,ti:=h.ti,rn:=h.rn,vs:=rfl,lt:=h.lt,co:=h.co,pa:=h.pa,po:=h.po,pp:=h.pp,nx:=⟨by rw [h0];exact List.length_replicate,fun x hx=>by rw [List.eq_of_mem_replicate hx];exact ⟨by omega,Int.le_refl _⟩⟩,ma:=⟨by rw [h0];exact List.length_replicate,fun x hx=>by rw [List.eq_of_mem_replicate hx];exact ⟨Int.le_refl _,by show 0≤bm s;omega⟩⟩,se:=⟨by rw [h0];exact List.length_replicate,fun x hx=>by rw [List.eq_of_mem_replicate hx];exact ⟨Int.le_refl _,by omega⟩⟩,rl:=by (show 0≤32);decide,r0:=.inr rfl,rd:=fun q hq=>by cases hq }
theorem tv (T:Int) (xs:List Ent) (e:Ent):cV T (xs++[e])=e.t:=by unfold cV;simp
theorem RfF.added {s:Rf} (h:RfF s) (hf:ir s=false) (d:ByteArray) (hd:d.size≤4096):RfF (fF s d)∧bm (fF s d)=bm s+1:=by
 obtain ⟨h1,h2,h3⟩:=h.add hf d hd;refine ⟨{ h with lg:=h1,lt:=by (show cV s.t (s.es++[_])≤s.term);rw [tv];exact Int.le_refl _,co:=⟨h.co.1,by rw [h2];have:=h.co.2;show s.commit≤bm s+1;omega⟩,nx:=⟨h.nx.1,fun x hx=>by rw [h2];have:=h.nx.2 x hx;omega⟩,ma:=⟨h.ma.1,fun x hx=>by rw [h2];have:=h.ma.2 x hx;omega⟩ },h2⟩
theorem fQ (l:List Int) (k v:Int):(eK l k v).length=l.length:=List.length_set
theorem wO {l:List Int} {k v x:Int} (h:x∈eK l k v):x∈l∨x=v:=List.mem_or_eq_of_mem_set h
theorem RfF.settle {s:Rf} (h:RfF s) (hr:s.role=2):RfF (dA s):=by
 have hl:=h.last;have hn:=h.n;have hm:(eK s.mtch s.id (bm s)).length=gp s:=by rw [fQ];exact h.ma.1
 have hall:∀ x∈eK s.mtch s.id (bm s),0≤x∧x≤bm s:=fun x hx=>by
  rcases wO hx with e | e
  ·exact h.ma.2 x e
  ·omega
 have hmed:=hall _ (uL (L:=eK s.mtch s.id (bm s)) (by rw [hm,jA hr];omega));have hc:=h.co
 have hcm:s.commit≤(dA s).commit∧(dA s).commit≤bm s:=by
  unfold dA;simp only;split <;> omega
 exact { h with co:=⟨by have:=hcm.1;show s.b≤(dA s).commit;omega,hcm.2⟩,ma:=⟨hm,hall⟩,rd:=fun q hq=>oP (s:=s) (s':=dA s) hcm.1 (Int.le_refl _) rfl (h.rd q hq) }
theorem RfF.lead {s:Rf} (h:RfF s) (hf:ir s=false):RfF (fF (eB s) ⟨#[]⟩):=(h.chief.added hf ⟨#[]⟩ (by decide)).1
end Go.Proofs.YtkpooenofjdpmaaGreat
namespace Go.Proofs.YtkpooenofjdpmaaGreat
open Go.Proofs.Tryz (prog)
open Go.RowKit Go.Shelf
attribute [local go_sem] Oper.semAt_some
theorem xC:(prog.info? 3).map (fun i=>(i.zero,i.size,i.bytes))=some (some (.int .i64 0),1,8):=by kernel_rfl
def nth (L:List Int) (k:Nat):Int:=L[k]?.getD 0
theorem rv {L:List Int} {k:Nat} (h:k<L.length):L.take (k+1)=L.take k++[nth L k]:=by
 unfold nth;rw [List.take_add_one,List.getElem?_eq_getElem h];rfl
theorem y7 (n l Bs n₀ b off cap:Nat) (L:List Int) (hn:1≤n) (hL:L.length*8≤140737488351232) (hb:b<n₀) (J Jx:List Int→World→Prop)
 (hY:∀ pre x W,J pre W→pre.length<L.length→YieldAt Fence.wide (n-1) prog l #[.int .i64 x] W fun e W'=>(e=.returned (.bool true)∧J (pre++[x]) W'∧Below n₀ W W')∨(e=.returned (.bool false)∧Jx (pre++[x]) W'))
 (W:World) (hBs:W.cell? ⟨Bs,0,none⟩=some (.slice (some ⟨b,off,none⟩) L.length cap)) (hc:∀ j,j<L.length→W.cell? ⟨b,off+j,none⟩=some (.int .i64 (nth L j))) (h0:J [] W) :
 CallsIn Fence.wide n prog 170 #[.func (.yield l) #[] #[],.pointer (some ⟨Bs,0,none⟩)] W fun e W'=>(∃ v,e=.returned v)∧((∃ ys,ys=L∧J ys W')∨(∃ pre,pre <+: L∧Jx pre W')):=by
 refine callsIn_of_wp Tryz.func170 rfl trivial ?_ rfl;simp only [Tryz.ntmps170,List.size_toArray,List.length_cons,List.length_nil,Nat.reduceAdd,Nat.reduceSub,Array.replicate_succ,Array.replicate_zero,List.push_toArray,List.append_toArray,List.nil_append,List.cons_append]
 gi_wp2
 gi_loopw [7] (fun i wr=>∃ k:Nat,k≤L.length∧i=.int .i64 k∧J (L.take k) wr∧Below n₀ W wr) (fun i _=>L.length-(intOf i).toNat)
 case atStart=>exact ⟨0,Nat.zero_le _,rfl,by simpa using h0,Below.refl _ _⟩
 case round=>
  obtain ⟨k,hk,rfl,hJ,hB⟩:=hrel;by_cases hlt:k<L.length
  ·obtain ⟨fn,tmps,assign,body,hy,hR⟩:=hY _ (nth L k) wr hJ (by rw [List.length_take];omega);have hck:wr.cell? ⟨b,off+k,none⟩=some (.int .i64 (nth L k)):=(hB.cell (p:=⟨b,off+k,none⟩) hb).trans (hc k hlt)
   gi_wp2
   refine hR.mono ?_;rintro e W3 (⟨rfl,hJ3,hk3⟩ | ⟨rfl,hJx3⟩)
   ·gi_wp2
    go_roundw
    case rel=>exact ⟨k+1,by omega,by simp,by rw [rv hlt];exact hJ3,hB.trans hk3⟩
    case measure=>simp [intOf];omega
   ·gi_wp2
    refine bodyPost_ret (results_none rfl _ _ _) rfl ?_;exact ⟨⟨_,rfl⟩,.inr ⟨_,by rw [←rv hlt];exact List.take_prefix _ _,hJx3⟩⟩
  ·obtain rfl:k=L.length:=by omega
   gi_wp2
   go_end0
   exact ⟨⟨_,rfl⟩,.inl ⟨_,rfl,by rw [List.take_length] at hJ;exact hJ⟩⟩
theorem tJ (n Bs n₀ b off cap:Nat) (L:List Int) (hn:1≤n) (hL:L.length*8≤140737488351232) (hb:b<n₀) (w:World) (hBs:Bs<w.heap.size) (hn₀:n₀≤w.heap.size)
 (hs:w.cell? ⟨Bs,0,none⟩=some (.slice (some ⟨b,off,none⟩) L.length cap)) (hc:∀ j,j<L.length→w.cell? ⟨b,off+j,none⟩=some (.int .i64 (nth L j))) :
 SeqStopsK Fence.wide n prog 170 #[.pointer (some ⟨Bs,0,none⟩)] (fun x:Int=>#[Value.int .i64 x]) (Below n₀) (fun ys=>ys=L) (fun pre=>pre <+: L) L.length w:=fun l J Jx W hW _ _ hY h0=>
 y7 n l Bs n₀ b off cap L hn hL hb J Jx hY W ((hW.cell (p:=⟨Bs,0,none⟩) hBs).trans hs) (fun j hj=>(hW.cell (p:=⟨b,off+j,none⟩) (show b<_ by omega)).trans (hc j hj)) h0
theorem qN (n Bs b off cap:Nat) (L:List Int) (hn:3≤n) (hL:L.length*8≤140737488351232) (w:World) (hb:b<w.heap.size) (hBs:Bs<w.heap.size)
 (hs:w.cell? ⟨Bs,0,none⟩=some (.slice (some ⟨b,off,none⟩) L.length cap)) (hc:∀ j,j<L.length→w.cell? ⟨b,off+j,none⟩=some (.int .i64 (nth L j))) :
 CallsIn Fence.wide n prog 179 #[.slice none 0 0,.func (.func 170) #[] #[.pointer (some ⟨Bs,0,none⟩)]] w fun e W'=>
  ∃ v,e=.returned v∧W'.ownsRow w.heap.size 3 1 v L.length (L.map (Value.int .i64))∧Below w.heap.size w W':=by
 have h1:1≤n:=by omega
 obtain ⟨i0,hi,hz0,hz1,hz2⟩:=info_parts xC;refine callsIn_of_wp_marks Tryz.func179 rfl trivial ?_ rfl;simp only [Tryz.ntmps179,List.size_toArray,List.length_cons,List.length_nil,Nat.reduceAdd,Nat.reduceSub,Array.replicate_succ,Array.replicate_zero,List.push_toArray,List.append_toArray,List.nil_append,List.cons_append]
 gi_wp2
 have bO:=Boxed.new w 26 (.slice none 0 0);have hB0:Below w.heap.size w (w.alloc (.cells #[.slice none 0 0] 26)):=(Below.refl _ w).alloc (Nat.le_refl _) _
 refine wpIn_rangeFunc_ownG rfl h1 (gf:=170) (lb:=#[.pointer (some ⟨Bs,0,none⟩)]) rfl trivial (enters_of Tryz.func170 (by kernel_rfl) rfl)
  (tJ (n-1) Bs w.heap.size b off cap L (by omega) hL hb _ (by simp;omega) (by simp) ((hB0.cell (p:=⟨Bs,0,none⟩) hBs).trans hs) (fun j hj=>(hB0.cell (p:=⟨b,off+j,none⟩) hb).trans (hc j hj))) belowK_t (belowK_b (by simp)) (Below.refl _ _) (fun _=>rfl)
  (fun pre W=>(∃ v,Boxed W w.heap.size 26 v∧W.ownsRow w.heap.size 3 1 v pre.length (pre.map (Value.int .i64))∧True)∧Below w.heap.size w W)
  (fun _ _ _=>False)
  (OwnFrom.and (Own.from (holdsRow_own w.heap.size w.heap.size 26 3 1 (fun pre:List Int=>pre.length) (fun pre=>pre.map (Value.int .i64)) (fun _ _=>True)) _) (ownFrom_below (Nat.le_refl _) (by simp)))
  (fun _ _ _ _ _ hs _ _=>hs)
  ⟨⟨_,bO,World.ownsRow_nil _ _ _ _,trivial⟩,hB0⟩
  (fun x=>{ tmps:=#[.slice none 0 0,.func (.func 170) #[] #[.pointer (some ⟨Bs,0,none⟩)],.pointer (some ⟨w.heap.size,0,none⟩),undef,.slice none 0 0,.int .i64 x,.func (.func 170) #[] #[.pointer (some ⟨Bs,0,none⟩)],.int .i64 x,undef,undef,undef,undef,undef],defers:=[] }) ?assign ?body ?done ?stop
 case assign=>
  intro l x W K hK
  gi_wp2
  exact hK
 case body=>
  rintro l pre x W ⟨⟨v,hv,hrow,_⟩,hB⟩ hlt;have hc:=hv.cell
  gi_wp2_with (gi_at_builtin;refine wpListIn_append_own _ rfl _ _ 26 rfl w.heap.size 3 i0 (.int .i64 0) 1 8 Tryz.underlying26 hi hz0 hz1 hz2 rfl (by decide) _ _ _ rfl (hrow.alloc _) ⟨W.heap.size,0,none⟩ 1 1 [.int .i64 x] rfl rfl (cell_one_new _ _ _) (by simp [Value.oneCell']) (by unfold maxLen;omega) (by omega) (by have:=hB.size;simp;omega) ?_;intro v' w1 hown' hgrow _;obtain ⟨g',cap',rfl⟩:=ownsRow_succ hown';obtain ⟨hv1,hv2,hr2,hk2,hb2⟩:=hv.appended (by decide) hrow hB.size (Nat.le_refl _) hown' hgrow;have hc1:=hv1.cell;have hf1:=hv1.frozen)
  exact ⟨hk2.from _,hb2,⟨_,hv2,by simpa using hr2,trivial⟩,hB.trans hb2⟩
 case done=>
  rintro D ys W hD rfl ⟨⟨v,hv,hrow,_⟩,hB⟩ hK;have hc:=hv.cell
  gi_wp2
  refine ⟨by simp,.inl ⟨_,_,rfl,run_takeDeferred hK,?_⟩⟩;exact ⟨_,results_tmp rfl _ _ _,v,rfl,ownsRow_putObj hrow _ hK rfl,hB.trans (belowK_b (w:=w) (Nat.le_refl _) W D _ _ (by simp at hD;omega) hK rfl rfl)⟩
 case stop=>
  rintro D c pre W _ _ h _;exact h.elim
theorem qM (Bs b off cap:Nat) (L:List Int) (w:World) (hL:L.length≤1000000) (hb:b<w.heap.size) (hBs:Bs<w.heap.size)
 (hs:w.cell? ⟨Bs,0,none⟩=some (.slice (some ⟨b,off,none⟩) L.length cap)) (hc:∀ j (h:j<L.length),w.cell? ⟨b,off+j,none⟩=some (.int .i64 L[j])) :
 Rt prog 179 [.slice none 0 0,.func (.func 170) #[] #[.pointer (some ⟨Bs,0,none⟩)]] w fun v w'=>
  (∃ A c,v=.slice A L.length c∧w'.ownsRow w.heap.size 3 1 (.slice A L.length c) L.length (L.map iV))∧ag w w':=by
 refine Calls.mono (callsIn_wide.1 (qN 3 Bs b off cap L (Nat.le_refl _) (by omega) w hb hBs hs (fun j hj=>by unfold nth;rw [List.getElem?_eq_getElem hj];exact hc j hj))) fun e w' ⟨v,he,ho,hB⟩=>?_
 obtain ⟨A,c,rfl⟩:=fS ho;exact ⟨_,he,⟨A,c,rfl,ho⟩,hB⟩
end Go.Proofs.YtkpooenofjdpmaaGreat
namespace Go.Proofs
open Go.Shelf
def Tryz.lays128_ren:Go.Shelf.Ren:=⟨fun | 128=>192 | n=>n,fun | 51=>197 | 3=>3 | 4=>4 | 46=>108 | 5=>5 | 9=>9 | n=>n,fun | n=>n⟩
def Tryz.lays125_ren:Go.Shelf.Ren:=⟨fun | 125=>181 | 128=>192 | 129=>193 | n=>n,fun | 46=>108 | 3=>3 | 51=>197 | 53=>25 | 4=>4 | 5=>5 | 9=>9 | n=>n,fun | n=>n⟩
def Tryz.lays215_ren:Go.Shelf.Ren:=⟨fun | 215=>182 | n=>n,fun | 3=>3 | 4=>4 | n=>n,fun | n=>n⟩
def Tryz.lays129_ren:Go.Shelf.Ren:=⟨fun | 129=>193 | n=>n,fun | 53=>25 | 3=>3 | 4=>4 | 46=>108 | 5=>5 | 9=>9 | n=>n,fun | n=>n⟩
def Tryz.lays189_ren:Go.Shelf.Ren:=⟨fun | 189=>169 | 125=>181 | 257=>180 | 128=>192 | 129=>193 | 294=>184 | 295=>185 | 296=>186 | 297=>187 | 298=>188 | 299=>189 | 216=>174 | 300=>190 | 301=>191 | 328=>195 | 329=>196 | 330=>197 | 331=>198 | 332=>199 | 215=>182 | 343=>200 | n=>n,fun | 28=>26 | 3=>3 | 46=>108 | 0=>0 | 51=>197 | 53=>25 | 4=>4 | 183=>191 | 182=>190 | 131=>119 | 5=>5 | 9=>9 | 218=>199 | 222=>156 | 228=>204 | 229=>105 | n=>n,fun | n=>n⟩
theorem Tryz.lays189:Go.Proofs.Lays.n189 prog Tryz.lays189_ren:={
 mixed:=by kernel_rfl
 f125:=Tryz.func181.trans (congrArg some (by kernel_rfl))
 f128:=Tryz.func192.trans (congrArg some (by kernel_rfl))
 f129:=Tryz.func193.trans (congrArg some (by kernel_rfl))
 f189:=Tryz.func169.trans (congrArg some (by kernel_rfl))
 f215:=Tryz.func182.trans (congrArg some (by kernel_rfl))
 f216:=Tryz.func174.trans (congrArg some (by kernel_rfl))
 f257:=Tryz.func180.trans (congrArg some (by kernel_rfl))
 f294:=Tryz.func184.trans (congrArg some (by kernel_rfl))
 f295:=Tryz.func185.trans (congrArg some (by kernel_rfl))
 f296:=Tryz.func186.trans (congrArg some (by kernel_rfl))
 f297:=Tryz.func187.trans (congrArg some (by kernel_rfl))
 f298:=Tryz.func188.trans (congrArg some (by kernel_rfl))
 f299:=Tryz.func189.trans (congrArg some (by kernel_rfl))
 f300:=Tryz.func190.trans (congrArg some (by kernel_rfl))
 f301:=Tryz.func191.trans (congrArg some (by kernel_rfl))
 f328:=Tryz.func195.trans (congrArg some (by kernel_rfl))
 f329:=Tryz.func196.trans (congrArg some (by kernel_rfl))
 f330:=Tryz.func197.trans (congrArg some (by kernel_rfl))
 f331:=Tryz.func198.trans (congrArg some (by kernel_rfl))
 f332:=Tryz.func199.trans (congrArg some (by kernel_rfl))
 f343:=Tryz.func200.trans (congrArg some (by kernel_rfl))
 t0:=Tryz.underlying0
 a0:=Tryz.isAgg0
 z0:=Tryz.sizeOf0
 v0:=Tryz.zeroValue0
 t3:=Tryz.underlying3
 a3:=Tryz.isAgg3
 z3:=Tryz.sizeOf3
 v3:=Tryz.zeroValue3
 t4:=Tryz.underlying4
 a4:=Tryz.isAgg4
 z4:=Tryz.sizeOf4
 v4:=Tryz.zeroValue4
 t5:=Tryz.underlying5
 a5:=Tryz.isAgg5
 z5:=Tryz.sizeOf5
 v5:=Tryz.zeroValue5
 t9:=Tryz.underlying9
 a9:=Tryz.isAgg9
 z9:=Tryz.sizeOf9
 v9:=Tryz.zeroValue9
 t28:=Tryz.underlying26
 a28:=Tryz.isAgg26
 z28:=Tryz.sizeOf26
 v28:=Tryz.zeroValue26
 t46:=Tryz.underlying108
 a46:=Tryz.isAgg108
 z46:=Tryz.sizeOf108
 v46:=Tryz.zeroValue108
 t51:=Tryz.underlying197
 a51:=Tryz.isAgg197
 z51:=Tryz.sizeOf197
 v51:=Tryz.zeroValue197
 t53:=Tryz.underlying25
 a53:=Tryz.isAgg25
 z53:=Tryz.sizeOf25
 v53:=Tryz.zeroValue25
 t131:=Tryz.underlying119
 a131:=Tryz.isAgg119
 z131:=Tryz.sizeOf119
 v131:=Tryz.zeroValue119
 t182:=Tryz.underlying190
 a182:=Tryz.isAgg190
 z182:=Tryz.sizeOf190
 v182:=Tryz.zeroValue190
 t183:=Tryz.underlying191
 a183:=Tryz.isAgg191
 z183:=Tryz.sizeOf191
 v183:=Tryz.zeroValue191
 t218:=Tryz.underlying199
 a218:=Tryz.isAgg199
 z218:=Tryz.sizeOf199
 v218:=Tryz.zeroValue199
 t222:=Tryz.underlying156
 a222:=Tryz.isAgg156
 z222:=Tryz.sizeOf156
 v222:=Tryz.zeroValue156
 t228:=Tryz.underlying204
 a228:=Tryz.isAgg204
 z228:=Tryz.sizeOf204
 v228:=Tryz.zeroValue204
 t229:=Tryz.underlying105
 a229:=Tryz.isAgg105
 z229:=Tryz.sizeOf105
 v229:=Tryz.zeroValue105 }
open Go.Sort Go.RowKit in
theorem Tryz.slices_Sort_int (blk off cap:Nat) (zs:List Int) (w:World) (hH:Holds (Value.int .i64) w blk off zs.toArray) (hblk:blk<w.heap.size) (hsz:zs.length<4611686018427387904) :
 Calls prog 169 #[.slice (some ⟨blk,off,none⟩) zs.length cap] w fun e w'=>
  e=.returned (.tuple #[])∧∃ n os,w'=grow (putRow (Value.int .i64) (Sort.ahead w n) blk off (zs.mergeSort fun x y=>decide (x≤y)).toArray) os:=Any.slices_Sort_int Tryz.lays189 blk off cap zs w hH hblk hsz
def Tryz.lays114_ren:Go.Shelf.Ren:=⟨fun | 114=>155 | n=>n,fun | 28=>26 | 3=>3 | 4=>4 | 9=>9 | 20=>20 | 0=>0 | n=>n,fun | n=>n⟩
def Tryz.lays112_ren:Go.Shelf.Ren:=⟨fun | 112=>194 | n=>n,fun | 28=>26 | 3=>3 | 4=>4 | 0=>0 | n=>n,fun | n=>n⟩
def Tryz.laysNm215_ren:Go.Shelf.Ren:=⟨fun | 15=>136 | n=>n,fun | 22=>26 | 3=>3 | 4=>4 | n=>n,fun | n=>n⟩
def Tryz.laysNm237_ren:Go.Shelf.Ren:=⟨fun | 37=>182 | n=>n,fun | 3=>3 | 4=>4 | n=>n,fun | n=>n⟩
def Tryz.laysNm232_ren:Go.Shelf.Ren:=⟨fun | 32=>175 | n=>n,fun | 3=>3 | 4=>4 | n=>n,fun | n=>n⟩
def Tryz.laysNm231_ren:Go.Shelf.Ren:=⟨fun | 31=>174 | 37=>182 | n=>n,fun | 3=>3 | 4=>4 | n=>n,fun | n=>n⟩
def Tryz.laysNm225_ren:Go.Shelf.Ren:=⟨fun | 25=>163 | 31=>174 | 32=>175 | 37=>182 | n=>n,fun | 22=>26 | 3=>3 | 4=>4 | 40=>108 | 0=>0 | n=>n,fun | n=>n⟩
end Go.Proofs
namespace Go.Proofs.YtkpooenofjdpmaaGreat
open Go.Proofs.Tryz (prog)
open Go.RowKit
open Go.ChangeShapes Go.WideShapes Go.ChangeAt
theorem cy:(gT prog 26).isSome=true:=by kernel_rfl
theorem cX:gT prog 26=some (3,1):=by kernel_rfl
theorem sV:aQ prog 179=true:=by kernel_rfl
theorem sX:aQ prog 168=true:=by kernel_rfl
theorem sW:aQ prog 169=true:=by kernel_rfl
theorem s3:aQ prog 155=true:=by kernel_rfl
theorem sY:aQ prog 157=true:=by kernel_rfl
theorem sZ:aQ prog 156=true:=by kernel_rfl
theorem zP (A:Option Addr) (c:Nat) (L:List Int) (w:World) (hr:et iV w A L) (hn:1≤L.length) (hl:L.length≤1000000) :
 Rt prog 155 [.slice A L.length c] w (fun v w'=>(∃ m,v=.int .i64 m∧m∈L∧∀ x∈L,m≤x)∧w=w'):=by
 obtain ⟨ba,oa,rfl,hca⟩:=hr (by omega);refine enter (n:=25) Tryz.func155 rfl rfl rfl (ao (ah (asi rfl (an (ai (ao (ao (ah (mvs rfl (ab (bU cy rfl) (ab (cu (ch rfl rfl) (decide_eq_false (by omega))) (an (ai (bg rfl ?_))))))))))))));refine aO (ai (ao (ah (mvs rfl (ab (db (i:=0) cX rfl rfl (by omega)) (ab (ar ak rfl (by exact hca 0 (by omega))) ?_))))));refine asi rfl (an (ai (ao (ao (ah (asi rfl (an (ai (bk (dr (G:=Int×Nat) [12,13,14,15,16,17,18,19,20,21,22,23] (fun (m,k)=>[(3,.int .i64 m),(4,.int .i64 (k:Nat))]) (fun (m,k) w'=>1≤k∧k≤L.length∧m∈L∧(∀ i (h:i<L.length),i<k→m≤L[i])∧w=w') (fun (_,k)=>L.length-k) ((L[0],1)) ⟨rfl,rfl,trivial⟩ ?_ ?_))))))))))
 ·exact ⟨Nat.le_refl _,hn,List.getElem_mem _,fun i h h0=>by (obtain rfl:i=0:=by omega);exact Int.le_refl _,rfl⟩
 rintro ⟨m,k⟩ ρ1 w1 ⟨hk1,hk,hm,hle,rfl⟩;refine ao (ao (ah (mvi rfl (mvs rfl (ab (bU cy rfl) (ab (ch rfl rfl) (an (ai (AT rfl (fun Q2=>?_) (fun Q2=>?_))))))))))
 ·refine aO (ai (ao (bk (ah (mvi rfl (mvs rfl (mvi rfl (ab (db cX rfl rfl (by omega)) (ab (ar ak rfl (by exact hca k (by omega))) ?_)))))))));refine ab (j6 rfl rfl) (asi rfl (an (bN (ai (ah (mvi rfl (ab (dD (b:=1) rfl rfl (by omega)) (asi rfl (an ?_)))))))));refine bL ((min m L[k],k+1)) ⟨(by first | rfl | (refine bT ?_;omega)),(by first | rfl | (refine bT ?_;omega)),trivial⟩ (by (iterate 28 refine bd rfl ?_);exact br) ⟨?_,?_⟩
  ·refine ⟨by omega,by omega,?_,fun i h h0=>?_,rfl⟩
   ·rcases Int.le_total m L[k] with a | a
    ·rw [Int.min_eq_left a];exact hm
    ·rw [Int.min_eq_right a];exact List.getElem_mem _
   ·rcases Nat.lt_or_ge i k with a | a
    ·have:=hle i h a;omega
    ·obtain rfl:i=k:=by omega
     omega
  ·show _-_<_-_;omega
 refine cL (bB (bB (cw (ai (ao (ah (mvi rfl (asi rfl (an (ai (aE (bA (v:=.int _ _) rfl rfl ?_))))))))))));obtain rfl:k=L.length:=by omega
 exact ⟨⟨m,rfl,hm,fun x hx=>by obtain ⟨i,hi,rfl⟩:=List.getElem_of_mem hx;exact hle i hi hi⟩,rfl⟩
theorem u7 (A:Option Addr) (n c:Nat) (w:World) :
 Rt prog 157 [.slice A n c] w (fun v w'=>(∃ Bs,v=.func (.func 170) #[] #[.pointer (some ⟨Bs,0,none⟩)]∧w'.cell? ⟨Bs,0,none⟩=some (.slice A n c)∧Bs<w'.heap.size)∧ag w w'):=by
 refine enter (n:=4) Tryz.func157 rfl rfl rfl (ao (ah (bZ (v:=.slice _ _ _) rfl ?_)));intro b1 w1 E1 hb1 hk1;refine ab (cZ (v:=.nilFunc) rfl) (an (ai (ao (ah (ab (rH (l1:=[]) (l2:=[.tmp 1])) (ab (cZ (v:=.func _ _ _) rfl) (an (ai (aE (bA (v:=.func _ _ _) rfl rfl (⟨⟨b1,rfl,(hk1.from_ ag.rfl_).rd 0 rfl,(hk1.from_ ag.rfl_).lt⟩,(ag.rfl_.next E1)⟩)))))))))))
theorem tN (Bs b off cap:Nat) (L:List Int) (w:World) (hL:L.length≤1000000) (hb:b<w.heap.size) (hBs:Bs<w.heap.size) (hs:w.cell? ⟨Bs,0,none⟩=some (.slice (some ⟨b,off,none⟩) L.length cap)) (hc:∀ j (h:j<L.length),w.cell? ⟨b,off+j,none⟩=some (.int .i64 L[j])) :
 Rt prog 168 [.func (.func 170) #[] #[.pointer (some ⟨Bs,0,none⟩)]] w (fun v w'=>(∃ A c,v=.slice A L.length c∧w'.ownsRow w.heap.size 3 1 (.slice A L.length c) L.length (L.map iV))∧ag w w'):=by
 refine enter (n:=5) Tryz.func168 rfl rfl rfl (ao (ah (ass rfl (an (ai (ao (ah (ab (aF (v:=.func _ _ _) rfl) (aC sV (qM Bs b off cap L _ hL hb hBs hs hc) ?_)))))))));rintro v4 w1 ⟨⟨A4,c4,rfl,ho4⟩,E4⟩;refine ass rfl (an (ai (aE (bA (v:=.slice _ _ _) rfl rfl (⟨⟨A4,c4,rfl,ho4⟩,(ag.rfl_.next E4)⟩)))))
theorem wj (base c:Nat) (A:Option Addr) (L:List Int) (w:World) (ho:w.ownsRow base 3 1 (.slice A L.length c) L.length (L.map iV)) (hn:1≤L.length) (hl:L.length≤1000000) :
 Rt prog 169 [.slice A L.length c] w fun _ w'=>w'.ownsRow base 3 1 (.slice A L.length c) L.length ((srt L).map iV)∧w.grownBy w' (A.map (·.block)):=by
 rcases ho.2 with ⟨_,hz⟩ | ⟨g,cap,cur,hv,hbase,hb,h1,h2,h3,h4⟩
 ·omega
 ·simp only [Value.slice.injEq] at hv;obtain ⟨rfl,_,rfl⟩:=hv;refine Calls.mono (Tryz.slices_Sort_int g 0 c L w (holds_of_blockI hb (by simpa using h4)) (Array.getElem?_eq_some_iff.1 hb).1 (by omega)) fun e w' ⟨he,n,os,hw⟩=>⟨_,he,?_,?_⟩
  ·rw [hw];exact ownsRow_sortedI (qq L) hbase hb h1 h2 h3
  ·rw [hw];exact grownBy_sortedI _
theorem ve (Bs b off cap:Nat) (L:List Int) (w:World) (hL:L.length≤1000000) (hb:b<w.heap.size) (hBs:Bs<w.heap.size) (hs:w.cell? ⟨Bs,0,none⟩=some (.slice (some ⟨b,off,none⟩) L.length cap)) (hc:∀ j (h:j<L.length),w.cell? ⟨b,off+j,none⟩=some (.int .i64 L[j])) (hn:1≤L.length) :
 Rt prog 156 [.func (.func 170) #[] #[.pointer (some ⟨Bs,0,none⟩)]] w (fun v w'=>(∃ A c,v=.slice A L.length c∧w'.ownsRow w.heap.size 3 1 (.slice A L.length c) L.length ((srt L).map iV))∧ag w w'):=by
 refine enter (n:=9) Tryz.func156 rfl rfl rfl (ao (ah (ass rfl (an (ai (ao (ah (ab (aF (v:=.func _ _ _) rfl) (aC sX (tN Bs b off cap L _ hL hb hBs hs hc) ?_)))))))));rintro v5 w1 ⟨⟨A5,c5,rfl,ho5⟩,E5⟩;refine ass rfl (an (ai (ao (ah (mvs rfl (aC sW (wj _ c5 A5 L _ ho5 hn hL) ?_))))));rintro v7 w2 ⟨ho7,hg7⟩;refine an (ai (ao (ah (mvs rfl (ass rfl (an (ai (aE (bA (v:=.slice _ _ _) rfl rfl (⟨⟨A5,c5,rfl,ho7⟩,((ag.rfl_.next E5).grew hg7 (fun k hk=>(eO ho5 k hk).1))⟩))))))))))
def Al (L:List Int) (v:Value):Prop:=(Fit L∧v=.tuple #[.int .i64 (med L),.int .i64 0])∨(¬ Fit L∧v=.tuple #[.int .i64 0,.int .i64 1])
theorem xD (A:Option Addr) (c:Nat) (L:List Int) (w:World) (hr:et iV w A L) :
 Rt prog 115 [.slice A L.length c] w (fun v w'=>Al L v∧ag w w'):=by
 refine enter (n:=28) Tryz.func115 rfl rfl rfl (ao (ah (asi rfl (asi rfl (an (ai (ao (ao (ah (mvs rfl (ab (bU cy rfl) (ab (ch rfl rfl) (mvb rfl ?_)))))))))))));refine Ap (t:=8) rfl (fun Q1=>?_) (fun Q1=>?_)
 ·refine aq rfl rfl (aq rfl rfl (aq rfl rfl (ab (aM (v:=.bool _) rfl rfl) (mvb rfl (aq rfl rfl (aq rfl rfl (aq rfl rfl (ab (aM (v:=.bool _) rfl rfl) ?_))))))));refine an (ai (aZ rfl (ao (ah (asi rfl (asi rfl (an (ai (aE (aG (ps (v:=.int _ _) (v':=.int _ _) rfl rfl rfl (⟨.inr ⟨fun hf=>?_,rfl⟩,ag.rfl_⟩))))))))))));obtain ⟨f1,f2,f3⟩:=hf
  first
   |omega
   |(have:=f3 _ hm15;omega)
 refine ae rfl (mvs rfl (ae rfl (ab (bU cy rfl) (ae rfl (ab (cq rfl rfl) (ab (ay (v:=.bool _) rfl rfl) (mvb rfl (Ap (t:=13) rfl (fun Q2=>?_) (fun Q2=>?_)))))))))
 ·refine aq rfl rfl (aq rfl rfl (aq rfl rfl (ab (aM (v:=.bool _) rfl rfl) (an (ai (aZ rfl (ao (ah (asi rfl (asi rfl ?_))))))))));refine an (ai (aE (aG (ps (v:=.int _ _) (v':=.int _ _) rfl rfl rfl (⟨.inr ⟨fun hf=>?_,rfl⟩,ag.rfl_⟩)))));obtain ⟨f1,f2,f3⟩:=hf
  first
   |omega
   |(have:=f3 _ hm15;omega)
 refine ae rfl (mvs rfl (ae rfl (aC s3 (zP A c L _ (hr.from_ ag.rfl_) (by omega) (by omega)) ?_)));rintro v15 w3 ⟨⟨m15,rfl,hm15,hle15⟩,rfl⟩;refine ae rfl (ab (ch rfl rfl) (ab (ay (v:=.bool _) rfl rfl) (an (ai (AT rfl (fun Q4=>?_) (fun Q4=>?_))))))
 ·refine ao (ah (asi rfl (asi rfl (an (ai (aE (aG (ps (v:=.int _ _) (v':=.int _ _) rfl rfl rfl (⟨.inr ⟨fun hf=>?_,rfl⟩,ag.rfl_⟩)))))))));obtain ⟨f1,f2,f3⟩:=hf
  first
   |omega
   |(have:=f3 _ hm15;omega)
 refine aO (ai (ao (ah (mvs rfl ?_))));have hfit:Fit L:=⟨by omega,by omega,fun x hx=>by have:=hle15 x hx;omega⟩;obtain ⟨ba,oa,rfl,hca⟩:=hr (by omega);refine aC sY (u7 _ L.length c _) ?_;rintro v19 w5 ⟨⟨Bs,rfl,hs19,hl19⟩,E19⟩;refine aC sZ (ve Bs ba oa c L _ (by omega) (by have:=World.block_lt_of_cell? _ _ (hca 0 (by omega));have:=E19.size;exact Nat.lt_of_lt_of_le ‹_› ‹_›) hl19 hs19 (fun j h=>fy (ag.rfl_.next E19) (hca j h)) (by omega)) ?_;rintro v20 w6 ⟨⟨A20,c20,rfl,ho20⟩,E20⟩;obtain ⟨g20,rfl⟩:=fR ho20 (by omega);refine ass rfl (an (ai (ao (ah (mvs rfl (mvs rfl (ab (bU cy rfl) (ab (yx (b:=1) rfl rfl (by omega)) (ab (yy (b:=2) rfl rfl (by omega)) (ab (eu cX rfl rfl (by omega)) ?_))))))))));refine ab (ar ak rfl (by have h27:=jM (l:=srt L) ho20 ((L.length-1)/2) (by rw [qq];omega);exact h27)) ?_;refine asi rfl (asi rfl (an (ai (aE (ps (v:=.int _ _) (v':=.int _ _) rfl rfl rfl ?_)))));obtain ⟨h2,e⟩:=xo hfit.1;exact ⟨.inl ⟨hfit,by rw [e]⟩,((ag.rfl_.next E19).next E20)⟩
theorem ur:kj prog 166=some (.agg #[.bool false,.bool false,.bool false,.bool false,.bool false,.bool false,.bool false,.bool false]):=by kernel_rfl
theorem pj:zh prog 166=some (8,1):=by kernel_rfl
theorem ft:js prog 4=some false:=by kernel_rfl
theorem ph:ea prog 4=some 1:=by kernel_rfl
theorem zu {α:Type} {a b:List α} {k:Nat} (hl:a.length=b.length) (hk:¬ k<a.length) (h:a.take k=b.take k):a=b:=by
 rw [List.take_of_length_le (by omega),List.take_of_length_le (by omega)] at h;exact h
theorem ux {α:Type} {a b:List α} {k:Nat} (ha:k<a.length) (hb:k<b.length) (h:a.take k=b.take k) (he:a[k]=b[k]):a.take (k+1)=b.take (k+1):=by
 rw [List.take_succ_eq_append_getElem ha,List.take_succ_eq_append_getElem hb,h,he]
theorem Aa (n:Nat):cv [] n=0:=by
 unfold cv;rw [List.countP_eq_zero];simp
def okV (n:Int) (L:List Int):Bool:=decide (1≤n∧n≤7)&&decide (n<2*(cv L n.toNat:Nat))
def eV (n:Int):Int:=if 1≤n∧n≤7 then 0 else 1
theorem zL {N:Nat} (h:1≤(N:Int)∧(N:Int)≤7) (L:List Int):okV N L=decide ((N:Int)<2*(cv L N:Nat)):=by
 unfold okV;rw [decide_eq_true h,Bool.true_and,Int.toNat_natCast]
theorem uJ {n:Int} (h:¬ (1≤n∧n≤7)) (L:List Int):okV n L=false:=by
 unfold okV;rw [decide_eq_false h,Bool.false_and]
theorem AM {n:Int} (h:1≤n∧n≤7):eV n=0:=if_pos h
theorem xR {n:Int} (h:¬ (1≤n∧n≤7)):eV n=1:=if_neg h
theorem Ar {a b:Bool} {x:Value} (h:a=b):Value.tuple #[.bool a,x]=.tuple #[.bool b,x]:=by rw [h]
theorem vE (A:Option Addr) (c:Nat) (n:Int) (L:List Int) (w:World) (hr:et iV w A L) (hl:L.length≤1000000) :
 Rt prog 123 [.int .i64 n,.slice A L.length c] w (fun v w'=>v=.tuple #[.bool (okV n L),.int .i64 (eV n)]∧ag w w'):=by
 refine enter (n:=43) Tryz.func123 rfl rfl rfl (ao (ah (asb rfl (asi rfl (an (ai (ao (ao (ah (mvi rfl (ab (ch rfl rfl) (mvb rfl (Ap (t:=12) rfl (fun Q1=>?_) (fun Q1=>?_))))))))))))))
 ·refine aq rfl rfl (aq rfl rfl (ab (aM (v:=.bool _) rfl rfl) (an (ai (aZ rfl (ao (ah (asb rfl (asi rfl (an (ai (aE (aG ?_)))))))))))));refine ps (v:=.bool _) (v':=.int _ _) rfl rfl rfl (⟨?_,ag.rfl_⟩);rw [uJ (by omega),xR (by omega)]
 refine ae rfl (mvi rfl (ae rfl (ab (cq rfl rfl) (ab (ay (v:=.bool _) rfl rfl) (an (ai (AT rfl (fun Q2=>?_) (fun Q2=>?_))))))))
 ·refine ao (ah (asb rfl (asi rfl (an (ai (aE (aG (ps (v:=.bool _) (v':=.int _ _) rfl rfl rfl (⟨?_,ag.rfl_⟩)))))))));rw [uJ (by omega),xR (by omega)]
 refine aO (ai (ao (ah ?_)));obtain ⟨N,rfl⟩:∃ N:Nat,n=N:=⟨n.toNat,by omega⟩;have hB6:ag w w:=ag.rfl_;refine bS ur ?_;intro b6 w3 E6 hb6 hk6;have hg6:w.heap.size≤b6:=by have:=hB6.size;omega
 refine an (ai (ao (ah (asi rfl (an (ai (ao (ao (ah (mvs rfl (ab (bU cy rfl) (mvi rfl (an (ai (bk (dr (G:=Nat) [9,19,20,21,22,23,24,25,26,27,28,29,30,31,32,33,34,35,36,37,38] (fun k=>[(7,.int .i64 (cv (L.take k) N:Nat)),(18,.int .i64 (k:Nat))]) (fun k w'=>k≤L.length∧Blk w' b6 166 (lS (L.take k) N).toArray∧ag w w') (fun k=>L.length-k) (0) ⟨(bT (by rw [List.take_zero,Aa];rfl)),rfl,trivial⟩ ?_ ?_))))))))))))))))
 ·exact ⟨Nat.zero_le _,by rw [List.take_zero,vW];exact hk6.from_ ag.rfl_,(ag.rfl_.next E6)⟩
 rintro k ρ4 w4 ⟨hk,hP,hB⟩;have hcl:=AN (L.take k) N;refine ao (ah (ab (ch rfl rfl) (an (ai (ao (AT rfl (fun Q5=>?_) (fun Q5=>?_)))))))
 ·obtain ⟨ba,oa,rfl,hca⟩:=hr (by omega);refine aO (ai (ao (bk (ao (ah (ab (db cX rfl rfl (by omega)) (ab (ar ak rfl (by exact fy hB (hca k (by omega)))) ?_)))))));refine asi rfl (an (ai (ao (ao (ah (mvi rfl (ab (ch rfl rfl) (mvb rfl (Ap (t:=24) rfl (fun Q6=>?_) (fun Q6=>?_))))))))))
  ·have hsk:¬ (1≤L[k]∧L[k]≤N)∨L[k]∈L.take k:=.inl (by omega);have hV:=hP;rw [←mz (by omega) hsk] at hV;have hC:=nW (n:=N) (by omega) hsk;refine aq rfl rfl (aq rfl rfl (aq rfl rfl (ab (aM (v:=.bool _) rfl rfl) (mvb rfl (aq rfl rfl (aq rfl rfl (aq rfl rfl (ab (aM (v:=.bool _) rfl rfl) ?_))))))));refine an (ai (aZ rfl (cL (bB (cw (ai (ah (ab (dD (b:=1) rfl rfl (by omega)) (mvi rfl (an ?_))))))))));refine bL (k+1) ⟨(by first | rfl | (refine bT ?_;omega)),(by first | rfl | (refine bT ?_;omega)),trivial⟩ (by (iterate 42 refine bd rfl ?_);exact br) ⟨?_,?_⟩
   ·exact ⟨by omega,hV,hB⟩
   ·omega
  refine ae rfl (mvi rfl (ae rfl (mvi rfl (ae rfl (ab (cq rfl rfl) (ab (ay (v:=.bool _) rfl rfl) (mvb rfl (Ap (t:=29) rfl (fun Q7=>?_) (fun Q7=>?_)))))))))
  ·have hsk:¬ (1≤L[k]∧L[k]≤N)∨L[k]∈L.take k:=.inl (by omega);have hV:=hP;rw [←mz (by omega) hsk] at hV;have hC:=nW (n:=N) (by omega) hsk;refine aq rfl rfl (aq rfl rfl (aq rfl rfl (ab (aM (v:=.bool _) rfl rfl) (an (ai (aZ rfl (cL (bB (cw (ai (ah (ab (dD (b:=1) rfl rfl (by omega)) ?_))))))))))));refine mvi rfl (an ?_);refine bL (k+1) ⟨(by first | rfl | (refine bT ?_;omega)),(by first | rfl | (refine bT ?_;omega)),trivial⟩ (by (iterate 43 refine bd rfl ?_);exact br) ⟨?_,?_⟩
   ·exact ⟨by omega,hV,hB⟩
   ·omega
  refine ae rfl (mvi rfl (ae rfl (ab (lu pj rfl rfl (by omega)) (ae rfl (ab (ar ft rfl (by exact hP.rd _ (rq _ N _ (by omega)))) ?_)))));refine ab (ay (v:=.bool _) rfl rfl) (an (ai (AT rfl (fun Q8=>?_) (fun Q8=>?_))))
  ·have h9:=Q8;have hsk:¬ (1≤L[k]∧L[k]≤N)∨L[k]∈L.take k:=.inr (by have h8:=h9.2.2;rwa [Int.toNat_of_nonneg (by omega)] at h8);have hV:=hP;rw [←mz (by omega) hsk] at hV;have hC:=nW (n:=N) (by omega) hsk;refine cL (bB (cw (ai (ah (ab (dD (b:=1) rfl rfl (by omega)) (mvi rfl (an ?_)))))));refine bL (k+1) ⟨(by first | rfl | (refine bT ?_;omega)),(by first | rfl | (refine bT ?_;omega)),trivial⟩ (by (iterate 43 refine bd rfl ?_);exact br) ⟨?_,?_⟩
   ·exact ⟨by omega,hV,hB⟩
   ·omega
  have h9:=Q8;have hnew:L[k] ∉ L.take k:=fun hm=>h9 ⟨by omega,by omega,by rw [Int.toNat_of_nonneg (by omega)];exact hm⟩
  have hC:=xS (by omega) hnew N (by omega) (by omega);refine aO (ai (ao (ah (mvi rfl (ab (lu pj rfl rfl (by omega)) (ej (v:=.bool _) ph rfl rfl rfl (hP) (by simp [lS];omega) ?_))))));intro w9 O9 P9;have hV:=P9;rw [vX (by omega) (by omega) (by omega) (by omega)] at hV;refine an (ai (ah (mvi rfl (ab (dD (b:=1) rfl rfl (by omega)) (asi rfl (an (bN (ai (ah (ab (dD (b:=1) rfl rfl (by omega)) (mvi rfl (an ?_))))))))))));refine bL (k+1) ⟨(by first | rfl | (refine bT ?_;omega)),(by first | rfl | (refine bT ?_;omega)),trivial⟩ (by (iterate 48 refine bd rfl ?_);exact br) ⟨?_,?_⟩
  ·exact ⟨by omega,hV,(hB.only O9 (hg6))⟩
  ·omega
 refine cL (bB (bB (cw (ai (ao (ah (mvi rfl (ab (yz (a:=2) rfl rfl (by omega)) (mvi rfl (ab (cq rfl rfl) (asb rfl (asi rfl (an (ai (aE ?_)))))))))))))));refine ps (v:=.bool _) (v':=.int _ _) rfl rfl rfl ?_;obtain rfl:k=L.length:=by omega
 refine ⟨?_,hB⟩;rw [zL (by omega),AM (by omega),List.take_length];exact Ar (decide_eq_decide.2 (by omega))
theorem aB:cI prog 91 0=some 0:=by kernel_rfl
theorem bn:cI prog 29 6=some 6:=by kernel_rfl
theorem mo:aQ prog 152=true:=by kernel_rfl
theorem mq:aQ prog 121=true:=by kernel_rfl
theorem gK:aQ prog 111=true:=by kernel_rfl
theorem cT:(gT prog 22).isSome=true:=by kernel_rfl
theorem cd:cI prog 29 1=some 1:=by kernel_rfl
theorem qV:aQ prog 123=true:=by kernel_rfl
theorem gL:cI prog 29 11=some 13:=by kernel_rfl
theorem kU:js prog 25=some false:=by kernel_rfl
theorem sJ:aQ prog 94=true:=by kernel_rfl
theorem sI:ea prog 25=some 1:=by kernel_rfl
theorem eY:cI prog 29 10=some 12:=by kernel_rfl
theorem bc:ea prog 3=some 1:=by kernel_rfl
theorem dp:cI prog 29 9=some 11:=by kernel_rfl
theorem cB:cI prog 29 0=some 0:=by kernel_rfl
theorem zd (s:Int) (w:World):Rt prog 94 [.int .u64 s,.int .i64 10] w fun v w'=>v=.tuple #[.int .u64 (nx s),.int .i64 (bl s 10)]∧ag w w':=Rt.of (below s 10 w (by decide))
theorem y5 (A:Option Addr) (c:Nat) (n:Int) (L:List Int) (w:World) (hr:et iV w A L) (hl:L.length≤1000000) (hn:1≤n∧n≤7):Rt prog 123 [.int .i64 n,.slice A L.length c] w fun v w'=>v=.tuple #[.bool (fz n L),.int .i64 0]∧ag w w':=
 (vE A c n L w hr hl).mono fun v w' h=>⟨by
  rw [h.1];unfold okV eV fz;rw [if_pos hn,decide_eq_true hn,Bool.true_and,show decide (n<2*((cv L n.toNat:Nat):Int))=decide (n.toNat<2*cv L n.toNat) from decide_eq_decide.2 (by omega)],h.2⟩
theorem uI (id:Int) (k:Nat):(jN id k).length≤k:=by
 unfold jN;refine Nat.le_trans (List.length_filter_le _ _) ?_;simp
theorem wT {id:Int} {k:Nat} (h:((k:Int)+1)≠id):jN id (k+1)=jN id k++[(k:Int)+1]:=by
 rw [pV,if_neg (by omega)];rfl
theorem yH {id:Int} {k:Nat} (h:((k:Int)+1)=id):jN id (k+1)=jN id k:=by rw [pV,if_pos (by omega)]
theorem kH (T g:Nat) (s:Rf) (a:Ra) (R:List Value) (w:World) (hb:Blk w g T (rfV s a++R).toArray) (he:cC w (.slice a.E s.es.length a.Ec) s.es) (hm:cj s.b s.t s.es=true) :
 Rt prog 111 [.pointer (some ⟨g,0,none⟩)] w (fun v w'=>v=.tuple #[.int .i64 (bm s),.int .i64 (cV s.t s.es)]∧ag w w'):=by
 refine enter (n:=16) Tryz.func111 rfl rfl rfl (ao (ah (asi rfl (asi rfl (an (ai (ao (ah (mvp rfl (ab (av rfl) (ab (aa aB rfl) (ab (aa bn rfl) ?_))))))))))));refine ab (aH (cs:=[.int .i64 s.b,.int .i64 s.t,.slice a.E s.es.length a.Ec]) bQ bh rfl (gW (hb.from_ ag.rfl_))) (aC mo (yR s.b s.t a.E s.es.length a.Ec s.es _ (he.from_ ag.rfl_) hm) ?_);rintro v10 w1 ⟨rfl,E10⟩;refine mvt rfl (ab (a_ rfl rfl) (ab (a_ rfl rfl) (ab (a_ rfl rfl) (asi rfl (asi rfl (an (ai (ao (ah (mvi rfl (mvi rfl ?_)))))))))));refine asi rfl (asi rfl (an (ai (aE (ps (v:=.int _ _) (v':=.int _ _) rfl rfl rfl (⟨rfl,(ag.rfl_.next E10)⟩))))))
theorem od (T g:Nat) (s:Rf) (a:Ra) (R:List Value) (w:World) (hb:Blk w g T (rfV s a++R).toArray) (he:cC w (.slice a.E s.es.length a.Ec) s.es) (hm:cj s.b s.t s.es=true) (i:Int) (hi:s.b≤i∧i≤bm s) :
 Rt prog 83 [.pointer (some ⟨g,0,none⟩),.int .i64 i] w (fun v w'=>v=.int .i64 (de s.b s.t s.es i)∧ag w w'):=by
 refine enter (n:=18) Tryz.func83 rfl rfl rfl (ao (ah (asi rfl (an (ai (ao (ah (mvp rfl (ab (av rfl) (ab (aa aB rfl) (ab (aa bn rfl) (ab (aH (cs:=[.int .i64 s.b,.int .i64 s.t,.slice a.E s.es.length a.Ec]) bQ bh rfl (gW (hb.from_ ag.rfl_))) ?_))))))))))));refine mvi rfl (aC mq (yp s.b s.t i a.E s.es.length a.Ec s.es _ (he.from_ ag.rfl_) hm hi) ?_);rintro v14 w1 ⟨rfl,E14⟩;refine mvt rfl (ab (a_ rfl rfl) (ab (a_ rfl rfl) (asi rfl (asi rfl (an (ai (ao (ah (mvi rfl (asi rfl (an (ai (aE ?_)))))))))))));refine bA (v:=.int _ _) rfl rfl (⟨rfl,(ag.rfl_.next E14)⟩)
theorem yV (T g:Nat) (s:Rf) (a:Ra) (R:List Value) (w:World) (hb:Blk w g T (rfV s a++R).toArray) (he:cC w (.slice a.E s.es.length a.Ec) s.es) (hm:cj s.b s.t s.es=true) :
 Rt prog 75 [.pointer (some ⟨g,0,none⟩)] w (fun v w'=>v=.bool (ir s)∧ag w w'):=by
 refine enter (n:=22) Tryz.func75 rfl rfl rfl (ao (ah (asb rfl (an (ai (ao (ah (mvp rfl (aC gK (kH T g s a R _ (hb.from_ ag.rfl_) (he.from_ ag.rfl_) hm) ?_)))))))));rintro v7 w1 ⟨rfl,E7⟩;refine mvt rfl (ab (a_ rfl rfl) (ab (a_ rfl rfl) (asi rfl (asi rfl (an (ai (ao (ah (mvp rfl (ab (av rfl) (ab (aa aB rfl) ?_)))))))))));refine ab (aa bn rfl) (ab (aa di rfl) (ab (ar bR rfl (by exact dM (hb.from_ (ag.rfl_.next E7)) 8 rfl)) ?_));refine ab (bU cT rfl) (ab (bf rfl rfl) (mvb rfl (Ao (t:=18) rfl (fun Q2=>?_) (fun Q2=>?_))))
 ·refine aq rfl rfl (aq rfl rfl (ab (aM (v:=.bool _) rfl rfl) (asb rfl (an (ai (aE (bA (v:=.bool _) rfl rfl (⟨congrArg Value.bool ?_,(ag.rfl_.next E7)⟩))))))));unfold ir
  first
   |(rw [Bool.eq_iff_iff];simp only [Bool.or_eq_true,decide_eq_true_eq];omega)
   |(rw [eq_comm,Bool.or_eq_true];left;rw [decide_eq_true_eq];omega)
 refine ae rfl (mvi rfl (ae rfl (ab (bf rfl rfl) (ab (ay (v:=.bool _) rfl rfl) (asb rfl (an (ai (aE (bA (v:=.bool _) rfl rfl (⟨congrArg Value.bool ?_,(ag.rfl_.next E7)⟩))))))))));unfold ir
 first
  |(rw [Bool.eq_iff_iff];simp only [Bool.or_eq_true,decide_eq_true_eq,beq_iff_eq];omega)
  |(rw [eq_comm,Bool.or_eq_true];left;rw [decide_eq_true_eq];omega)
theorem tG (T g:Nat) (s:Rf) (a:Ra) (R:List Value) (w:World) (hb:Blk w g T (rfV s a++R).toArray) (A:Option Addr) (c:Nat) (l:List Int) (hr:et iV w A l) (hl:l.length≤1000000) (hn:1≤s.nodes∧s.nodes≤7) :
 Rt prog 86 [.pointer (some ⟨g,0,none⟩),.slice A l.length c] w (fun v w'=>v=.bool (fz s.nodes l)∧ag w w'):=by
 refine enter (n:=22) Tryz.func86 rfl rfl rfl (ao (ah (asb rfl (an (ai (ao (ah (mvp rfl (ab (av rfl) (ab (aa aB rfl) (ab (aa cd rfl) (ab (ar ak rfl (by exact dM (hb.from_ ag.rfl_) 1 rfl)) ?_))))))))))));refine mvs rfl (aC qV (y5 A c s.nodes l _ (hr.from_ ag.rfl_) hl hn) ?_);rintro v14 w1 ⟨rfl,E14⟩;refine mvt rfl (ab (a_ rfl rfl) (ab (a_ rfl rfl) (asb rfl (asi rfl (an (ai (ao (ah (mvb rfl (mvb rfl (Ap (t:=18) rfl (fun Q2=>?_) (fun Q2=>?_))))))))))))
 ·refine ae rfl (mvi rfl (ae rfl (ab (c6 (bf rfl rfl) rfl) (ab (aM (v:=.bool _) rfl rfl) (asb rfl (an (ai (aE (bA (v:=.bool _) rfl rfl (⟨congrArg Value.bool ?_,(ag.rfl_.next E14)⟩))))))))));unfold fz
  first
   |exact (decide_eq_true (by omega)).symm
   |exact (decide_eq_false (by omega)).symm
 refine aq rfl rfl (aq rfl rfl (ab (ay (v:=.bool _) rfl rfl) (asb rfl (an (ai (aE (bA (v:=.bool _) rfl rfl (⟨congrArg Value.bool ?_,(ag.rfl_.next E14)⟩))))))));unfold fz
 first
  |exact (decide_eq_true (by omega)).symm
  |exact (decide_eq_false (by omega)).symm
theorem qG (T g:Nat) (s:Rf) (a:Ra) (R:List Value) (w:World) (hb:Blk w g T (rfV s a++R).toArray) :
 Rt prog 54 [.pointer (some ⟨g,0,none⟩)] w (fun v w'=>v=.tuple #[]∧Blk w' g T (rfV (iD s) a++R).toArray∧Chg (fun k=>k=g) w w'):=by
 have hbl:=tS s.seed;refine enter (n:=28) Tryz.func54 rfl rfl rfl (ao (ah (mvp rfl (ab (av rfl) (ab (aa aB rfl) (ab (aa gL rfl) (ab (ar kU rfl (by exact dM (hb.from_ ag.rfl_) 13 rfl)) ?_)))))));refine aC sJ (zd s.seed _) ?_;rintro v10 w1 ⟨rfl,E10⟩;refine mvt rfl (ab (a_ rfl rfl) (ab (a_ rfl rfl) (asi rfl (asi rfl (an (ai (ah (mvp rfl (mvp rfl (mvp rfl ?_))))))))));refine mvi rfl (mvi rfl (ab (cn rfl rfl (by omega)) (ab (av rfl) (ab (aa aB rfl) (ab (aa gL rfl) (cN (s':={ s with seed:=nx s.seed }) (a':=a) (v:=.int _ _) sI rfl rfl rfl ((hb.from_ (ag.rfl_.next E10))) (by exact ⟨by decide,rfl⟩) ?_))))));intro w2 O1a P1a;have hC1:Chg (fun k=>k=g) w w2:=(ag.toChg E10).only O1a rfl;refine ab (av rfl) (ab (aa aB rfl) (ab (aa eY rfl) (cN (s':={ s with seed:=nx s.seed,timeout:=10+bl s.seed 10 }) (a':=a) (v:=.int _ _) bc rfl rfl rfl (P1a) (by exact ⟨by decide,rfl⟩) ?_)));intro w3 O1b P1b;replace hC1:=hC1.only O1b rfl;refine ab (av rfl) (ab (aa aB rfl) (ab (aa dp rfl) (cN (s':=iD s) (a':=a) (v:=.int _ _) bc rfl rfl rfl (P1b) (by exact ⟨by decide,rfl⟩) ?_)));intro w4 O1c P1c;replace hC1:=hC1.only O1c rfl;refine an (da (eg rfl (⟨rfl,P1c,hC1⟩)))
theorem pU (T g:Nat) (s:Rf) (a:Ra) (R:List Value) (w:World) (hb:Blk w g T (rfV s a++R).toArray) (hn:0≤s.nodes∧s.nodes≤1000000) :
 Rt prog 77 [.pointer (some ⟨g,0,none⟩)] w (fun v w'=>(∃ A c,v=.slice A (dJ s).length c∧w'.ownsRow w.heap.size 3 1 (.slice A (dJ s).length c) (dJ s).length ((dJ s).map iV))∧ag w w'):=by
 refine enter (n:=26) Tryz.func77 rfl rfl rfl (ao (ah (ass rfl (an (ai (ao (ah (ass rfl (an (ai (ao (ao (ah (asi rfl (an (ai (bk (dr (G:=Nat×Option Addr×Nat) [5,6,7,8,9,10,11,12,13,14,15,16,17,18,19,20,21,22,23,24] (fun (k,A3,c3)=>[(3,.slice A3 (jN s.id k).length c3),(4,.int .i64 ((k:Int)+1))]) (fun (k,A3,c3) w'=>(k:Int)≤s.nodes∧w'.ownsRow w.heap.size 3 1 (.slice A3 (jN s.id k).length c3) (jN s.id k).length ((jN s.id k).map iV)∧ag w w') (fun (k,_,_)=>s.nodes.toNat-k) ((0,none,0)) ⟨rfl,rfl,trivial⟩ ?_ ?_))))))))))))))))))
 ·exact ⟨by omega,World.ownsRow_nil _ _ _ _,ag.rfl_⟩
 rintro ⟨k,A3,c3⟩ ρ1 w1 ⟨hk,ho3,hB⟩;refine ao (ao (ah (mvi rfl (mvp rfl (ab (av rfl) (ab (aa aB rfl) (ab (aa cd rfl) (ab (ar ak rfl (by exact dM (hb.from_ hB) 1 rfl)) ?_))))))));refine ab (eT rfl rfl) (an (ai (AT rfl (fun Q2=>?_) (fun Q2=>?_))))
 ·have hle:=uI s.id k;refine aO (ai (ao (bk (ao (ah (mvi rfl (mvp rfl (ab (av rfl) (ab (aa aB rfl) (ab (aa cB rfl) (ab (ar ak rfl (by exact dM (hb.from_ hB) 0 rfl)) ?_)))))))))));refine ab (dm rfl rfl) (an (ai (aS rfl (fun Q3=>?_) (fun Q3=>?_))))
  ·replace Q3:=dK Q3;replace Q3:=ec Q3;have hoy:=wT (id:=s.id) (k:=k) (by omega);have hol:(jN s.id (k+1)).length=(jN s.id k).length+1:=by rw [hoy,List.length_append];rfl
   refine ah (mvs rfl (mvi rfl (fj (v:=.int _ _) bP rfl rfl rfl ?_)));intro b23 w4 E23 hb23 hk23;refine rC (a0:=w) bP rfl rfl (ho3.kept_from E23) (hB.next E23) rfl hk23 rfl (by omega) (by omega) ?_;intro A24 c24 w5 ho24 B24 hg24;refine ass rfl (an (bN (ai (ah (mvi rfl (ab (cn rfl rfl (by omega)) (asi rfl (an ?_))))))));refine bL ((k+1,A24,c24)) ⟨by first | exact congrArg (fun q=>Value.slice A24 q c24) hol.symm | exact (congrArg (fun q=>Value.slice A24 q c24) hol).symm,bT (by omega),trivial⟩ (by (iterate 44 refine bd rfl ?_);exact br) ⟨?_,?_⟩
   ·exact ⟨by omega,by first | (rw [hoy,List.map_append,List.length_append];exact ho24) | (rw [hoy];exact ho24),B24⟩
   ·show s.nodes.toNat-(k+1)<s.nodes.toNat-k;omega
  replace Q3:=dL Q3;replace Q3:=eb Q3;obtain ⟨A24,rfl⟩:∃ x,x=A3:=⟨_,rfl⟩;obtain ⟨c24,rfl⟩:∃ x,x=c3:=⟨_,rfl⟩;have hoy:=yH (id:=s.id) (k:=k) (by omega);have hol:(jN s.id (k+1)).length=(jN s.id k).length:=by rw [hoy]
  have ho24:=ho3;refine aO (bN (ai (ah (mvi rfl (ab (cn rfl rfl (by omega)) (asi rfl (an ?_)))))));refine bL ((k+1,A24,c24)) ⟨by first | exact congrArg (fun q=>Value.slice A24 q c24) hol.symm | exact (congrArg (fun q=>Value.slice A24 q c24) hol).symm,bT (by omega),trivial⟩ (by (iterate 39 refine bd rfl ?_);exact br) ⟨?_,?_⟩
  ·exact ⟨by omega,by first | (rw [hoy,List.map_append,List.length_append];exact ho24) | (rw [hoy];exact ho24),hB⟩
  ·show s.nodes.toNat-(k+1)<s.nodes.toNat-k;omega
 refine cL (bB (bB (cw (ai (ao (ah (mvs rfl (ass rfl (an (ai (aE (bA (v:=.slice _ _ _) rfl rfl ?_))))))))))));have hkn:k=s.nodes.toNat:=by omega
 subst hkn;exact ⟨⟨A3,c3,rfl,ho3⟩,hB⟩
end Go.Proofs.YtkpooenofjdpmaaGreat
namespace Go.Proofs.YtkpooenofjdpmaaGreat
open Go.Proofs.Tryz (prog)
open Go.RowKit
def ow (B T:Int) (xs:List Ent) (i n:Int):Int:=if cj B T xs=true then (if B+1≤i∧i≤dh B xs+1 then (if n<0 then 1 else 0) else 3) else 1
def AX (w w':World) (ys:List Ent) (c:Int) (v:Value):Prop:=(c≠0→v=.slice none 0 0)∧(c=0→w'.ownsRow w.heap.size 99 3 v ys.length (dT ys))
def Av (A:Option Addr) (cap k:Nat):Option Addr:=if cap=k then A else Option.map (fun x=>x.add (k*3)) A
theorem vf (B T i n:Int) (v:Value) (xs:List Ent) (w:World) (h:cC w v xs) (hn9:n≤9223372036854775807) :
 Calls prog 114 #[.agg #[.int .i64 B,.int .i64 T,v],.int .i64 i,.int .i64 n] w fun e w'=>∃ L,e=.returned (.tuple #[L,.int .i64 (ow B T xs i n)])∧AX w w' ((xs.drop (i-B-1).toNat).take n.toNat) (ow B T xs i n) L∧ag w w':=by
 obtain ⟨f0,f1,f2,hbb,hwb⟩:=fY (w:=w) (B:=B) (T:=T) (v:=v) (t:=24);have hch:=fun w' (hw:ag w w')=>jU B T v xs w' (h.from_ hw)
 have hlo:=fun w' (hw:ag w w')=>je B T v xs w' (h.from_ hw)
 have hwi:=iW;have HW:=Lib.hid hwi;unfold chk at hch;have HE:=Lib.hid h;have hdef:ow B T xs i n=ow B T xs i n:=rfl
 conv at hdef=>rhs;unfold ow
 obtain ⟨A,cap,rfl,hc1,hc2,hc3,hrow⟩:=h;clear hc3 hrow hwi;by_cases hm:cj B T xs=true
 ·rw [if_pos hm] at hch hdef;obtain ⟨hl,hB0,hB1,hx⟩:=pZ hm;rw [hl] at hlo hdef;have HC:=Lib.hid hch;have HL:=Lib.hid hlo;clear hch hlo hm hl;by_cases hin:B+1≤i∧i≤B+xs.length+1
  ·rw [if_pos hin] at hdef;have hib:=fv hin;by_cases hneg:n<0
   ·rw [if_pos hneg] at hdef;rw [hdef];have e1:decide (n<0)=true:=decide_eq_true hneg;clear hdef hin hneg
    go_enter Tryz.func114,Tryz.ntmps114
    go_wp2_with (first
     |(go_at_call 116;(with_reducible refine (HC.out _ hwb).mono ?_);rintro e w1 ⟨rfl,hb1⟩;have hw1:=ag.next (a:=w) hwb hb1;have hbw1:=ag.next (a:=_) hbb hb1)
     |(go_at_call 117;(with_reducible refine (HL.out _ hw1).mono ?_);rintro e w2 ⟨rfl,hb3⟩;have hw2:=ag.next (a:=w) hw1 hb3;have hbw2:=ag.next (a:=_) hbw1 hb3)
     |(go_at_call 118;(with_reducible refine (HW.out _ _ _ _).mono ?_);rintro e w3 ⟨rfl,hb4⟩;have hw3:=ag.next (a:=w) hw2 hb4))
    go_ret2
    exact ⟨_,rfl,⟨fun _=>rfl,fun h=>absurd h (by decide)⟩,hw3⟩
   ·rw [if_neg hneg] at hdef;rw [hdef];obtain ⟨k,hk⟩:∃ k:Nat,i=B+k+1:=⟨(i-B-1).toNat,by omega⟩;obtain ⟨m,hmn⟩:∃ m:Nat,n=m:=⟨n.toNat,by omega⟩;subst hmn;have e1:decide ((m:Int)<0)=false:=decide_eq_false hneg;have hkn:(i-B-1).toNat=k:=by omega
    have hmt:(m:Int).toNat=m:=by omega
    rw [hkn,hmt];have hkl:k≤xs.length:=by omega
    have hrest:=HE.out.rest hkl;have hdl:(xs.drop k).length=xs.length-k:=List.length_drop;obtain ⟨q,hq⟩:∃ q:Nat,q=min m (xs.length-k):=⟨_,rfl⟩;have hql:q≤xs.length-k:=by omega
    have hcut:=hrest.cut (k:=q) (by omega)
    have htk:(xs.drop k).take m=(xs.drop k).take q:=by
     rw [hq];by_cases hle:m≤xs.length-k
     ·rw [Nat.min_eq_left hle]
     ·rw [Nat.min_eq_right (by omega),List.take_of_length_le (by omega),List.take_of_length_le (by omega)]
    rw [htk];have hcl:=fun w' (hw:ag w w')=>qb _ _ w' (hcut.from_ hw) (by rw [List.length_take];omega)
    have HCL:=Lib.hid hcl;have hra:(if cap=k then A else Option.map (fun x=>x.add (k*3)) A)=Av A cap k:=rfl;rw [hra] at HCL;have j0:i-B-1=(k:Int):=by omega
    have j1:(0:Int)≤(k:Int):=by omega
    have j2:(k:Int)≤(xs.length:Int):=by omega
    have j3:(k:Int)≤(cap:Int):=by omega
    have q1:(0:Int)≤(q:Int):=by omega
    have q2:(q:Int)≤((xs.length-k:Nat):Int):=by omega
    have q3:(q:Int)≤((cap-k:Nat):Int):=by omega
    have hHQ:=Lib.hid hq;have HI:=Lib.hid hin;have hii:B+1≤i∧i≤B+600:=by omega
    clear hdef hkn hmt hrest hcut htk hcl hin hneg hq;by_cases hle:m≤xs.length-k
    ·have hqm:q=m:=by have:=hHQ.out;omega
     subst hqm;have e5:min (q:Int) ((xs.length-k:Nat):Int)=(q:Int):=by omega
     have e6:(q:Int)≤((xs.length-k:Nat):Int):=by omega
     clear hk
     go_enter Tryz.func114,Tryz.ntmps114
     go_wp2_with (first
      |(go_at_call 116;(with_reducible refine (HC.out _ hwb).mono ?_);rintro e w1 ⟨rfl,hb1⟩;have hw1:=ag.next (a:=w) hwb hb1;have hbw1:=ag.next (a:=_) hbb hb1)
      |(go_at_call 117;(with_reducible refine (HL.out _ hw1).mono ?_);rintro e w2 ⟨rfl,hb3⟩;have hw2:=ag.next (a:=w) hw1 hb3;have hbw2:=ag.next (a:=_) hbw1 hb3)
      |(go_at_call 118;(with_reducible refine (HW.out _ _ _ _).mono ?_);rintro e w3 ⟨rfl,hb4⟩;have hw3:=ag.next (a:=w) hw2 hb4;have hbw3:=ag.next (a:=_) hbw2 hb4)
      |(go_at_call 120;(with_reducible refine (HCL.out _ hw3).mono ?_);rintro e w4 ⟨v4,rfl,hown4,hb5⟩;have hw4:=ag.next (a:=w) hw3 hb5;have HO:=Lib.hid (And.intro hown4 hw3.size);clear hown4))
     go_ret2
     exact ⟨_,rfl,⟨fun h=>absurd rfl h,fun _=>fK HO.out.1 HO.out.2⟩,hw4⟩
    ·have hqm:q=xs.length-k:=by have:=hHQ.out;omega
     subst hqm;have e5:min (m:Int) ((xs.length-k:Nat):Int)=((xs.length-k:Nat):Int):=by omega
     have e6:¬ (m:Int)≤((xs.length-k:Nat):Int):=by omega
     clear hk
     go_enter Tryz.func114,Tryz.ntmps114
     go_wp2_with (first
      |(go_at_call 116;(with_reducible refine (HC.out _ hwb).mono ?_);rintro e w1 ⟨rfl,hb1⟩;have hw1:=ag.next (a:=w) hwb hb1;have hbw1:=ag.next (a:=_) hbb hb1)
      |(go_at_call 117;(with_reducible refine (HL.out _ hw1).mono ?_);rintro e w2 ⟨rfl,hb3⟩;have hw2:=ag.next (a:=w) hw1 hb3;have hbw2:=ag.next (a:=_) hbw1 hb3)
      |(go_at_call 118;(with_reducible refine (HW.out _ _ _ _).mono ?_);rintro e w3 ⟨rfl,hb4⟩;have hw3:=ag.next (a:=w) hw2 hb4;have hbw3:=ag.next (a:=_) hbw2 hb4)
      |(go_at_call 120;(with_reducible refine (HCL.out _ hw3).mono ?_);rintro e w4 ⟨v4,rfl,hown4,hb5⟩;have hw4:=ag.next (a:=w) hw3 hb5;have HO:=Lib.hid (And.intro hown4 hw3.size);clear hown4))
     go_ret2
     exact ⟨_,rfl,⟨fun h=>absurd rfl h,fun _=>fK HO.out.1 HO.out.2⟩,hw4⟩
  ·rw [if_neg hin] at hdef;rw [hdef];have hib:=qC hin;clear hdef hin
   go_enter Tryz.func114,Tryz.ntmps114
   go_wp2_with (first
    |(go_at_call 116;(with_reducible refine (HC.out _ hwb).mono ?_);rintro e w1 ⟨rfl,hb1⟩;have hw1:=ag.next (a:=w) hwb hb1;have hbw1:=ag.next (a:=_) hbb hb1)
    |(go_at_call 117;(with_reducible refine (HL.out _ hw1).mono ?_);rintro e w2 ⟨rfl,hb3⟩;have hw2:=ag.next (a:=w) hw1 hb3;have hbw2:=ag.next (a:=_) hbw1 hb3)
    |(go_at_call 118;(with_reducible refine (HW.out _ _ _ _).mono ?_);rintro e w3 ⟨rfl,hb4⟩;have hw3:=ag.next (a:=w) hw2 hb4))
   go_ret2
   exact ⟨_,rfl,⟨fun _=>rfl,fun h=>absurd h (by decide)⟩,hw3⟩
 ·rw [if_neg hm] at hch hdef;rw [hdef];have HC:=Lib.hid hch;clear hch hlo hm hdef
  go_enter Tryz.func114,Tryz.ntmps114
  go_wp2_with (first
   |(go_at_call 116;(with_reducible refine (HC.out _ hwb).mono ?_);rintro e w1 ⟨rfl,hb1⟩;have hw1:=ag.next (a:=w) hwb hb1))
  go_ret2
  exact ⟨_,rfl,⟨fun _=>rfl,fun h=>absurd h (by decide)⟩,hw1⟩
end Go.Proofs.YtkpooenofjdpmaaGreat
