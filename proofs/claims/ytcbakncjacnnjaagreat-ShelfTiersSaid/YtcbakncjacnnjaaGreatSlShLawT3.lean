/- texts that the claim stands on. -/
import Derived.Test.YtcbakncjacnnjaaGreatSlShLawT2
import Derived.RangeFuncLeaves
import Derived.RangeFuncWrites
import Derived.OrdersIn
import Derived.TacticsIn
import Derived.TacticsInMore
import Derived.LoopIn
import Derived.LoopNIn
import Derived.Shelf.Abstract
set_option maxRecDepth 100000
set_option maxHeartbeats 4000000
namespace Go.Proofs.YtcbakncjacnnjaaGreat.SA
open Classical
section
variable {n:Nat} {t idx:Nat→Nat}
theorem zV (h:Txt n t):∀ {m i:Nat},m=n-i→FS n t i→lms n t (eL n t m i)∧i≤eL n t m i∧∀ x,i≤x→x<eL n t m i→¬ rz n t x:=by
 intro m
 induction m with
 |zero=>intro i hm hi;have:=hi.1;omega
 |succ m ih=>
  intro i hm hi;unfold eL;by_cases a:rz n t i
  ·simp only [if_pos a];exact ⟨jY hi a,Nat.le_refl _,fun x h1 h2=>by omega⟩
  ·simp only [if_neg a];obtain ⟨h1,h2,h3⟩:=ih (i:=i+1) (by omega) (et h hi.1 a);refine ⟨h1,by omega,fun x g1 g2=>?_⟩;by_cases e:x=i
   ·subst e;exact a
   ·exact h3 x (by omega) g2
theorem zU (h:Txt n t):∀ {m i:Nat},m=n-i→i+1<n→lms n t (eS n t m i)∧i<eS n t m i∧∀ x,i<x→x<eS n t m i→¬ lms n t x:=by
 intro m
 induction m with
 |zero=>intro i hm hi;omega
 |succ m ih=>
  intro i hm hi;by_cases a:rz n t i
  ·have hi2:i+1+1<n:=by
    rcases Nat.lt_or_ge (i+1+1) n with b | b
    ·exact b
    ·have h1:=(nN h hi a).1;rw [show i+1=n-1 by omega,h.last] at h1;have:=h.more i hi;omega
   have e:eS n t (m+1) i=eS n t m (i+1):=by
    conv=>lhs;unfold eS
    rw [if_pos a,if_neg (by omega)]
   rw [e];obtain ⟨h1,h2,h3⟩:=ih (i:=i+1) (by omega) hi2;refine ⟨h1,by omega,fun x g1 g2=>?_⟩;by_cases e:x=i+1
   ·subst e;exact fun l=>l.2.2.2 (by simpa using a)
   ·exact h3 x (by omega) g2
  ·have e:eS n t (m+1) i=eL n t m (i+1):=by
    conv=>lhs;unfold eS
    rw [if_neg a]
    conv=>lhs;unfold eL
    rw [if_neg a]
   rw [e];obtain ⟨h1,h2,h3⟩:=zV h (m:=m) (i:=i+1) (by omega) (et h (by omega) a);exact ⟨h1,by omega,fun x g1 g2 l=>h3 x (by omega) g2 l.2.2.1⟩
theorem oX (h:Txt n t) {i:Nat} (hi:i+1<n):lms n t (eB n t i)∧i<eB n t i∧∀ x,i<x→x<eB n t i→¬ lms n t x:=zU h rfl hi
noncomputable def um (n:Nat) (t:Nat→Nat) (i:Nat):Nat:=2*t i+(if rz n t i then 1 else 0)
noncomputable def nk (n:Nat) (t:Nat→Nat):Nat→Nat→List Nat
 |_,0=>[]
 |i,m+1=>um n t i::nk n t (i+1) m
theorem IM (h:Txt n t):∀ {m i:Nat},m=n-i→FS n t i→gL n t nil_ m i=nk n t i (eL n t m i-i+1):=by
 intro m
 induction m with
 |zero=>intro i hm hi;have:=hi.1;omega
 |succ m ih=>
  intro i hm hi;unfold gL eL;by_cases a:rz n t i
  ·simp only [if_pos a,Nat.sub_self];unfold nk um nk;rw [if_pos a]
  ·simp only [if_neg a];obtain ⟨_,h2,_⟩:=zV h (m:=m) (i:=i+1) (by omega) (et h hi.1 a);rw [ih (i:=i+1) (by omega) (et h hi.1 a),show eL n t m (i+1)-i+1=(eL n t m (i+1)-(i+1)+1)+1 by omega]
   conv=>rhs;unfold nk um
   rw [if_neg a];rfl
theorem x_ (h:Txt n t):∀ {m i:Nat},m=n-i→i+1<n→gS n t nil_ m i=nk n t i (eS n t m i-i+1):=by
 intro m
 induction m with
 |zero=>intro i hm hi;omega
 |succ m ih=>
  intro i hm hi;by_cases a:rz n t i
  ·have hi2:i+1+1<n:=by
    rcases Nat.lt_or_ge (i+1+1) n with b | b
    ·exact b
    ·have h1:=(nN h hi a).1;rw [show i+1=n-1 by omega,h.last] at h1;have:=h.more i hi;omega
   have e:eS n t (m+1) i=eS n t m (i+1):=by
    conv=>lhs;unfold eS
    rw [if_pos a,if_neg (by omega)]
   have e2:gS n t nil_ (m+1) i=(2*t i+1)::gS n t nil_ m (i+1):=by
    conv=>lhs;unfold gS
    rw [if_pos a,if_neg (by omega)]
   obtain ⟨_,h2,_⟩:=zU h (m:=m) (i:=i+1) (by omega) hi2;rw [e,e2,ih (i:=i+1) (by omega) hi2,show eS n t m (i+1)-i+1=(eS n t m (i+1)-(i+1)+1)+1 by omega]
   conv=>rhs;unfold nk um
   rw [if_pos a]
  ·have e:eS n t (m+1) i=eL n t (m+1) i:=by unfold eS;rw [if_neg a]
   have e2:gS n t nil_ (m+1) i=gL n t nil_ (m+1) i:=by unfold gS;rw [if_neg a]
   rw [e,e2];exact IM h hm ⟨by omega,.inl a⟩
theorem rN:∀ (m i:Nat),(nk n t i m).length=m
 |0,_=>rfl
 |m+1,i=>by unfold nk;rw [List.length_cons,rN m]
theorem ui:∀ (m i j:Nat),nk n t i m=nk n t j m↔∀ k,k<m→um n t (i+k)=um n t (j+k)
 |0,_,_=>⟨fun _ k hk=>by omega,fun _=>rfl⟩
 |m+1,i,j=>by
  unfold nk;rw [List.cons.injEq,ui m];constructor
  ·rintro ⟨a,b⟩ k hk;cases k with
   |zero=>exact a
   |succ k=>rw [show i+(k+1)=i+1+k by omega,show j+(k+1)=j+1+k by omega];exact b k (by omega)
  ·intro a;refine ⟨a 0 (by omega),fun k hk=>?_⟩;have:=a (k+1) (by omega)
   rwa [show i+(k+1)=i+1+k by omega,show j+(k+1)=j+1+k by omega] at this
theorem AY (h:Txt n t) {i j:Nat} (hi:i+1<n) (hj:j+1<n):dw n t i=dw n t j↔eB n t i-i=eB n t j-j∧∀ k,k≤eB n t i-i→t (i+k)=t (j+k):=by
 obtain ⟨a1,a2,a3⟩:=oX h hi;obtain ⟨b1,b2,b3⟩:=oX h hj;unfold dw;rw [x_ h rfl hi,x_ h rfl hj];show nk n t i (eB n t i-i+1)=nk n t j (eB n t j-j+1)↔_;constructor
 ·intro e;have hl:=congrArg List.length e;rw [rN,rN] at hl;have hd:eB n t i-i=eB n t j-j:=by omega
  rw [hd] at e ⊢;refine ⟨rfl,fun k hk=>?_⟩;have:=(ui _ _ _).1 e k (by omega);unfold um at this;split at this <;> split at this <;> omega
 ·rintro ⟨hd,hk⟩;rw [hd] at hk ⊢;rw [ui]
  have rzs:∀ d k,k+d=eB n t j-j→(rz n t (i+k)↔rz n t (j+k)):=by
   intro d
   induction d with
   |zero=>
    intro k hkd;rw [show i+k=eB n t i by omega,show j+k=eB n t j by omega];exact ⟨fun _=>b1.2.2.1,fun _=>a1.2.2.1⟩
   |succ d ih=>
    intro k hkd;have e1:=hk k (by omega);have e2:=hk (k+1) (by omega);have e3:=ih (k+1) (by omega);rw [na h (i:=i+k) (by have:=a1.2.1;omega),na h (i:=j+k) (by have:=b1.2.1;omega)];rw [show i+k+1=i+(k+1) by omega,show j+k+1=j+(k+1) by omega,e1,e2,e3]
  intro k hk2;unfold um;rw [hk k (by omega)];have:=rzs (eB n t j-j-k) k (by omega);by_cases r:rz n t (j+k)
  ·rw [if_pos r,if_pos (this.2 r)]
  ·rw [if_neg r,if_neg (fun x=>r (this.1 x))]
theorem nc (h:Txt n t) {i:Nat} (hi:i<n) (he:dw n t i=dw n t (n-1)):i=n-1:=by
 have e1:dw n t (n-1)=[1]:=by
  have:=h.pos;unfold dw;rw [show n-(n-1)=0+1 by omega];unfold gS;rw [if_pos (qk h),if_pos (by omega)]
 rw [e1] at he;rcases Nat.lt_or_ge (i+1) n with a | a
 ·unfold dw at he;rw [x_ h rfl a] at he;unfold nk um at he;simp only [List.cons.injEq] at he;have:=h.more i a;omega
 ·omega
structure dF (n:Nat) (t:Nat→Nat) (m:Nat) (ss:Nat→Nat):Prop where
 is:∀ k,k<m→lms n t (ss k)
 up:∀ a b,a<b→b<m→ss a<ss b
 all:∀ s,lms n t s→∃ k,k<m∧ss k=s
variable {m:Nat} {ss:Nat→Nat}
theorem dF.inj (H:dF n t m ss) {a b:Nat} (ha:a<m) (hb:b<m) (he:ss a=ss b):a=b:=by
 rcases Nat.lt_trichotomy a b with c | c | c
 ·have:=H.up a b c hb;omega
 ·exact c
 ·have:=H.up b a c ha;omega
theorem dF.pos (H:dF n t m ss) (h:Txt n t) (h2:2≤n):0<m:=by
 obtain ⟨k,hk,_⟩:=H.all _ (lX h h2);omega
theorem dF.last (H:dF n t m ss) (h:Txt n t) (h2:2≤n):ss (m-1)=n-1:=by
 obtain ⟨k,hk,e⟩:=H.all _ (lX h h2);by_cases c:k=m-1
 ·rw [←c];exact e
 ·have:=H.up k (m-1) (by omega) (by omega);have:=(H.is (m-1) (by omega)).2.1;omega
theorem dF.next (H:dF n t m ss) (h:Txt n t) {k:Nat} (hk:k+1<m):ss k+1<n∧eB n t (ss k)=ss (k+1):=by
 have h1:=H.up k (k+1) (by omega) hk;have h2:=(H.is (k+1) hk).2.1;have h3:ss k+1<n:=by omega
 obtain ⟨a1,a2,a3⟩:=oX h h3;obtain ⟨q,hq,e⟩:=H.all _ a1;refine ⟨h3,?_⟩;rcases Nat.lt_trichotomy q (k+1) with c | c | c
 ·rcases Nat.lt_or_ge q k with d | d
  ·have:=H.up q k d (by omega);omega
  ·obtain rfl:q=k:=by omega
   omega
 ·subst c;exact e.symm
 ·have:=H.up (k+1) q c hq;exact absurd (H.is (k+1) hk) (a3 _ h1 (by omega))
theorem dF.less (H:dF n t m ss) (h:Txt n t) (h2:2≤n):m<n:=by
 have:∀ k,k<m→k+1≤ss k:=by
  intro k
  induction k with
  |zero=>intro hk;have:=(H.is 0 hk).1;omega
  |succ k ih=>intro hk;have:=ih (by omega);have:=H.up k (k+1) (by omega) hk;omega
 have hm:=H.pos h h2;have:=this (m-1) (by omega);rw [H.last h h2] at this;omega
def xv (f:Nat→Nat) (k v:Nat):Nat→Nat:=fun x=>if x=k then v else f x
theorem ju (f:Nat→Nat) (k v:Nat):xv f k v k=v:=if_pos rfl
theorem ja (f:Nat→Nat) {k x:Nat} (v:Nat) (h:x≠k):xv f k v x=f x:=if_neg h
structure nC (n:Nat) (t idx:Nat→Nat) (m:Nat) (ss:Nat→Nat) (r:Nat) (nm:Nat→Nat) (kinds:Nat):Prop where
 eq:∀ a b,a<m→b<m→pos n t idx (ss a)<r→pos n t idx (ss b)<r→(nm a=nm b↔dw n t (ss a)=dw n t (ss b))
 le:∀ a b,a<m→b<m→pos n t idx (ss a)<r→pos n t idx (ss b)<r→pos n t idx (ss a)≤pos n t idx (ss b)→nm a≤nm b
 top:∀ a,a<m→pos n t idx (ss a)<r→nm a≤kinds
 some:∀ c,c≤kinds→(∃ a,a<m∧pos n t idx (ss a)<r)→∃ a,a<m∧pos n t idx (ss a)<r∧nm a=c
 none:(∀ a,a<m→r≤pos n t idx (ss a))→kinds=0
def sr (n:Nat) (t idx:Nat→Nat) (m:Nat) (ss:Nat→Nat) (r:Nat) (nm:Nat→Nat) (kinds b:Nat):Prop:=b<m∧pos n t idx (ss b)<r∧nm b=kinds∧∀ a,a<m→pos n t idx (ss a)<r→pos n t idx (ss a)≤pos n t idx (ss b)
theorem xU:nC n t idx m ss 0 (fun _=>0) 0:=
 ⟨fun _ _ _ _ h=>by omega,fun _ _ _ _ h=>by omega,fun _ _ h=>by omega,fun _ _ ⟨_,_,h⟩=>by omega,fun _=>rfl⟩
theorem Bl {r:Nat} {nm:Nat→Nat} {kinds:Nat} (hI:nC n t idx m ss r nm kinds) (hno:∀ a,a<m→pos n t idx (ss a)≠r):nC n t idx m ss (r+1) nm kinds∧∀ b,sr n t idx m ss r nm kinds b→sr n t idx m ss (r+1) nm kinds b:=by
 have k:∀ a,a<m→pos n t idx (ss a)<r+1→pos n t idx (ss a)<r:=fun a ha hp=>by have:=hno a ha;omega
 refine ⟨⟨fun a b ha hb p q=>hI.eq a b ha hb (k a ha p) (k b hb q),fun a b ha hb p q=>hI.le a b ha hb (k a ha p) (k b hb q),fun a ha p=>hI.top a ha (k a ha p),fun c hc ⟨a,ha,p⟩=>?_,fun h=>hI.none fun a ha=>by have:=h a ha;omega⟩,fun b hb=>⟨hb.1,by have:=hb.2.1;omega,hb.2.2.1,fun a ha p=>hb.2.2.2 a ha (k a ha p)⟩⟩;obtain ⟨x,x1,x2,x3⟩:=hI.some c hc ⟨a,ha,k a ha p⟩;exact ⟨x,x1,by omega,x3⟩
theorem DJ (h:Txt n t) (ho:Ord n t idx) (H:dF n t m ss) {r:Nat} {nm:Nat→Nat} {kinds kinds2 s:Nat} (hI:nC n t idx m ss r nm kinds) (hs:s<m) (hp:pos n t idx (ss s)=r)
 (hk:(kinds2=0∧∀ a,a<m→r≤pos n t idx (ss a))∨∃ b,sr n t idx m ss r nm kinds b∧((dw n t (ss b)=dw n t (ss s)∧kinds2=kinds)∨(dw n t (ss b)≠dw n t (ss s)∧kinds2=kinds+1))) :
 nC n t idx m ss (r+1) (xv nm s kinds2) kinds2∧sr n t idx m ss (r+1) (xv nm s kinds2) kinds2 s:=by
 have lt:∀ a,a<m→lms n t (ss a):=H.is;have pin:∀ a,a<m→pos n t idx (ss a)=r→a=s:=fun a ha he=>H.inj ha hs (je h ho (lt a ha).2.1 (lt s hs).2.1 (by rw [he,hp]))
 have old:∀ a,a<m→pos n t idx (ss a)<r+1→a≠s→pos n t idx (ss a)<r:=fun a ha p e=>by
  have:pos n t idx (ss a)≠r:=fun e2=>e (pin a ha e2)
  omega
 have ne:∀ a,a<m→pos n t idx (ss a)<r→a≠s:=fun a _ p e=>by subst e;omega
 have key:∀ a,a<m→pos n t idx (ss a)<r→nm a≤kinds2∧(nm a=kinds2↔dw n t (ss a)=dw n t (ss s)):=by
  intro a ha p;rcases hk with ⟨_,hn⟩ | ⟨b,hb,hk⟩
  ·have:=hn a ha;omega
  ·have e1:=hI.eq a b ha hb.1 p hb.2.1;have e2:=hI.top a ha p;rw [hb.2.2.1] at e1;rcases hk with ⟨g1,rfl⟩ | ⟨g1,rfl⟩
   ·exact ⟨e2,by rw [e1,g1]⟩
   ·refine ⟨by omega,⟨fun e=>by omega,fun e=>?_⟩⟩;exfalso;have hb3:=hb.2.2.2 a ha p;by_cases c:a=b
    ·subst c;exact g1 e
    ·have hlt:pos n t idx (ss a)<pos n t idx (ss b):=by
      have:pos n t idx (ss a)≠pos n t idx (ss b):=fun x=>c (H.inj ha hb.1 (je h ho (lt a ha).2.1 (lt b hb.1).2.1 x))
      omega
     have m1:=(mz h ho (lt a ha).2.1 (lt b hb.1).2.1).1 hlt;have m2:=(mz h ho (lt b hb.1).2.1 (lt s hs).2.1).1 (by have:=hb.2.1;omega);exact g1 ((AZ h (lt a ha).2.1 (lt b hb.1).2.1 (lt s hs).2.1 e m1 m2).symm.trans e)
 refine ⟨⟨fun a b ha hb p q=>?_,fun a b ha hb p q o=>?_,fun a ha p=>?_,fun c hc _=>?_,fun hn=>?_⟩,hs,by omega,ju _ _ _,fun a ha p=>by omega⟩
 ·by_cases e1:a=s <;> by_cases e2:b=s
  ·subst e1;subst e2;simp
  ·subst e1;rw [ju,ja _ _ e2];have:=(key b hb (old b hb q e2)).2;exact ⟨fun x=>(this.1 x.symm).symm,fun x=>(this.2 x.symm).symm⟩
  ·subst e2;rw [ju,ja _ _ e1];exact (key a ha (old a ha p e1)).2
  ·rw [ja _ _ e1,ja _ _ e2];exact hI.eq a b ha hb (old a ha p e1) (old b hb q e2)
 ·by_cases e1:a=s <;> by_cases e2:b=s
  ·subst e1;subst e2;exact Nat.le_refl _
  ·subst e1;have:=old b hb q e2;omega
  ·subst e2;rw [ju,ja _ _ e1];exact (key a ha (old a ha p e1)).1
  ·rw [ja _ _ e1,ja _ _ e2];exact hI.le a b ha hb (old a ha p e1) (old b hb q e2) o
 ·by_cases e1:a=s
  ·subst e1;rw [ju];exact Nat.le_refl _
  ·rw [ja _ _ e1];exact (key a ha (old a ha p e1)).1
 ·by_cases e:c=kinds2
  ·exact ⟨s,hs,by omega,by rw [ju,e]⟩
  ·rcases hk with ⟨g0,_⟩ | ⟨b,hb,hk⟩
   ·omega
   ·obtain ⟨a,a1,a2,a3⟩:=hI.some c (by omega) ⟨b,hb.1,hb.2.1⟩;exact ⟨a,a1,by omega,by rw [ja _ _ (ne a a1 a2)];exact a3⟩
 ·have:=hn s hs;omega
theorem zv (h:Txt n t) (h2:2≤n) (_:Ord n t idx) (H:dF n t m ss) {nm:Nat→Nat} {kinds:Nat} (hI:nC n t idx m ss n nm kinds):Txt m nm∧∀ k,k<m→nm k≤kinds:=by
 have hm:=H.pos h h2;have hl:=H.last h h2;have pl:∀ a,a<m→pos n t idx (ss a)<n:=fun a ha=>jF (H.is a ha).2.1
 obtain ⟨a,a1,a2,a3⟩:=hI.some 0 (Nat.zero_le _) ⟨0,hm,pl 0 hm⟩
 have hz:nm (m-1)=0:=by
  have:=hI.le (m-1) a (by omega) a1 (pl _ (by omega)) a2 (by rw [hl,(vO h h2).1];exact Nat.zero_le _);omega
 refine ⟨⟨hm,hz,fun i hi=>?_⟩,fun k hk=>hI.top k hk (pl k hk)⟩;rcases Nat.eq_zero_or_pos (nm i) with e | e
 ·have e2:=(hI.eq i (m-1) (by omega) (by omega) (pl _ (by omega)) (pl _ (by omega))).1 (by rw [e,hz]);rw [hl] at e2;have e3:=nc h (H.is i (by omega)).2.1 e2;have:=H.up i (m-1) (by omega) (by omega);omega
 ·exact e
theorem C1 (h:Txt n t) (_:2≤n) (ho:Ord n t idx) (H:dF n t m ss) {nm:Nat→Nat} {kinds:Nat} (hI:nC n t idx m ss n nm kinds) :
 ∀ {d a b:Nat},d=m-a→a<m→b<m→sl m nm a b→sl n t (ss a) (ss b):=by
 have pl:∀ a,a<m→pos n t idx (ss a)<n:=fun a ha=>jF (H.is a ha).2.1
 have ln:∀ a,a<m→ss a<n:=fun a ha=>(H.is a ha).2.1
 intro d
 induction d with
 |zero=>intro a b hd ha;omega
 |succ d ih=>
  intro a b hd ha hb hs;rcases gu.1 hs with ⟨_,_,c⟩ | ⟨c,g⟩
  ·have hne:dw n t (ss a)≠dw n t (ss b):=fun e=>by
    have:=(hI.eq a b ha hb (pl a ha) (pl b hb)).2 e;omega
   refine (nQ (idx:=idx) h (ln a ha) (ln b hb) hne).1.1 ?_;rw [←mz h ho (ln a ha) (ln b hb)];rcases Nat.lt_or_ge (pos n t idx (ss a)) (pos n t idx (ss b)) with x | x
   ·exact x
   ·have:=hI.le b a hb ha (pl b hb) (pl a ha) x;omega
  ·obtain ⟨g1,g2⟩:=Cy g;have he:=(hI.eq a b ha hb (pl a ha) (pl b hb)).1 c;obtain ⟨a1,a2⟩:=H.next h g1;obtain ⟨b1,b2⟩:=H.next h g2
   have hne:ss a≠ss b:=fun e=>by
    have:=H.inj ha hb e;subst this;exact oJ _ hs
   rw [Dg h (ln a ha) (ln b hb) he hne (by rw [a2];exact ln _ g1) (by rw [b2];exact ln _ g2),a2,b2];exact ih (by omega) g1 g2 g
theorem FU (h:Txt n t) (h2:2≤n) (ho:Ord n t idx) (H:dF n t m ss) {nm:Nat→Nat} {kinds:Nat} (hI:nC n t idx m ss n nm kinds) {a b:Nat} (ha:a<m) (hb:b<m):sl m nm a b↔sl n t (ss a) (ss b):=by
 refine ⟨C1 h h2 ho H hI rfl ha hb,fun hs=>?_⟩;by_cases e:a=b
 ·subst e;exact absurd hs (oJ _)
 ·rcases qM (zv h h2 ho H hI).1 rfl ha hb e with c | c
  ·exact c
  ·exact absurd (C1 h h2 ho H hI rfl hb ha c) (qN hs)
theorem tU (h:Txt n t) (ho:Ord n t idx) (H:dF n t m ss) {nm:Nat→Nat} {kinds:Nat} (hI:nC n t idx m ss n nm kinds) (hk:kinds+1=m) {a b:Nat} (ha:a<m) (hb:b<m):pos n t idx (ss a)<pos n t idx (ss b)↔sl n t (ss a) (ss b):=by
 have pl:∀ a,a<m→pos n t idx (ss a)<n:=fun a ha=>jF (H.is a ha).2.1
 have ln:∀ a,a<m→ss a<n:=fun a ha=>(H.is a ha).2.1
 rw [mz h ho (ln a ha) (ln b hb)];by_cases e:a=b
 ·subst e;exact ⟨fun x=>absurd x (kj _),fun x=>absurd x (oJ _)⟩
 ·refine (nQ (idx:=idx) h (ln a ha) (ln b hb) fun he=>?_).1;have hnm:=(hI.eq a b ha hb (pl a ha) (pl b hb)).2 he
  have hs:∀ c,c<m→∃ x,x<m∧nm x=c:=fun c hc=>by
   obtain ⟨x,x1,_,x3⟩:=hI.some c (by omega) ⟨a,ha,pl a ha⟩;exact ⟨x,x1,x3⟩
  let g:Nat→Nat:=fun c=>if hc:c<m then Classical.choose (hs c hc) else 0
  have hg:∀ c,c<m→g c<m∧nm (g c)=c:=fun c hc=>by
   have:=Classical.choose_spec (hs c hc);show (if hc:c<m then Classical.choose (hs c hc) else 0)<m∧nm (if hc:c<m then Classical.choose (hs c hc) else 0)=c;rw [dif_pos hc];exact this
  have sg:=xz (n:=m) (f:=g) (fun c hc=>(hg c hc).1) (fun c d hc hd x=>by
   have h1:=(hg c hc).2;have h2:=(hg d hd).2;rw [x] at h1;omega)
  obtain ⟨c,c1,c2⟩:=sg a ha;obtain ⟨d,d1,d2⟩:=sg b hb;have h1:=(hg c c1).2;have h2:=(hg d d1).2;rw [c2] at h1;rw [d2] at h2;have:c=d:=by omega
  subst this;omega
end
end Go.Proofs.YtcbakncjacnnjaaGreat.SA
namespace Go.Proofs.YtcbakncjacnnjaaGreat
open Go.Proofs.Tryz (prog)
open Go.RowKit
open Go.Proofs.YtcbakncjacnnjaaGreat.SA
abbrev jV (x:Int):Value:=.int .i32 x
def fA (n:Nat) (f:Nat→Int):Array Value:=((List.range n).map fun i=>jV (f i)).toArray
def jC (n:Nat) (f:Nat→Bool):Array Value:=((List.range n).map fun i=>Value.bool (f i)).toArray
def ku (n:Nat) (f:Nat→Int):Array Value:=((List.range n).map fun i=>iV (f i)).toArray
theorem fQ {n:Nat} {f:Nat→Int}:(fA n f).size=n:=by simp [fA]
theorem jw {n:Nat} {f:Nat→Bool}:(jC n f).size=n:=by simp [jC]
theorem jv {n:Nat} {f:Nat→Int}:(ku n f).size=n:=by simp [ku]
theorem kQ {n i:Nat} {f:Nat→Int} (h:i<n):(fA n f)[i]? =some (jV (f i)):=by simp [fA,h]
theorem mn {n i:Nat} {f:Nat→Bool} (h:i<n):(jC n f)[i]? =some (.bool (f i)):=by simp [jC,h]
theorem qe {n i:Nat} {f:Nat→Int} (h:i<n):(ku n f)[i]? =some (iV (f i)):=by simp [ku,h]
theorem eM {n:Nat} {f g:Nat→Int} (h:∀ i,i<n→f i=g i):fA n f=fA n g:=by
 unfold fA
 congr 1
 exact List.map_congr_left fun i hi=>by rw [h i (List.mem_range.1 hi)]
theorem mY {n:Nat} {f g:Nat→Bool} (h:∀ i,i<n→f i=g i):jC n f=jC n g:=by
 unfold jC
 congr 1
 exact List.map_congr_left fun i hi=>by rw [h i (List.mem_range.1 hi)]
theorem qF {n:Nat} {f g:Nat→Int} (h:∀ i,i<n→f i=g i):ku n f=ku n g:=by
 unfold ku
 congr 1
 exact List.map_congr_left fun i hi=>by rw [h i (List.mem_range.1 hi)]
theorem nF {n i:Nat} {f:Nat→Int} {v:Int}:(fA n f).setIfInBounds i (jV v)=fA n (upd f i v):=by
 apply Array.ext_getElem?;intro j;rw [Array.getElem?_setIfInBounds,fQ];by_cases hj:j<n
 ·rw [kQ hj,kQ hj];by_cases e:i=j
  ·subst e;rw [if_pos rfl,if_pos hj,eF]
  ·rw [if_neg e,fx _ _ (fun h=>e h.symm)]
 ·rw [Array.getElem?_eq_none (xs:=fA n (upd f i v)) (by rw [fQ];omega),Array.getElem?_eq_none (xs:=fA n f) (by rw [fQ];omega)];split
  ·rw [if_neg (by omega)]
  ·rfl
theorem vp {n i:Nat} {f:Nat→Int} {v:Int}:(ku n f).setIfInBounds i (iV v)=ku n (upd f i v):=by
 apply Array.ext_getElem?;intro j;rw [Array.getElem?_setIfInBounds,jv];by_cases hj:j<n
 ·rw [qe hj,qe hj];by_cases e:i=j
  ·subst e;rw [if_pos rfl,if_pos hj,eF]
  ·rw [if_neg e,fx _ _ (fun h=>e h.symm)]
 ·rw [Array.getElem?_eq_none (xs:=ku n (upd f i v)) (by rw [jv];omega),Array.getElem?_eq_none (xs:=ku n f) (by rw [jv];omega)];split
  ·rw [if_neg (by omega)]
  ·rfl
def xw (f:Nat→Bool) (k:Nat) (v:Bool):Nat→Bool:=fun x=>if x=k then v else f x
theorem vq {n i:Nat} {f:Nat→Bool} {v:Bool}:(jC n f).setIfInBounds i (Value.bool v)=jC n (xw f i v):=by
 apply Array.ext_getElem?;intro j;rw [Array.getElem?_setIfInBounds,jw];by_cases hj:j<n
 ·rw [mn hj,mn hj];unfold xw;by_cases e:i=j
  ·subst e;rw [if_pos rfl,if_pos hj,if_pos rfl]
  ·rw [if_neg e,if_neg (fun h=>e h.symm)]
 ·rw [Array.getElem?_eq_none (xs:=jC n (xw f i v)) (by rw [jw];omega),Array.getElem?_eq_none (xs:=jC n f) (by rw [jw];omega)];split
  ·rw [if_neg (by omega)]
  ·rfl
theorem iy (n:Nat):(List.replicate n (Value.int .i32 0)).toArray=fA n fun _=>0:=by
 apply Array.ext_getElem?;intro j;by_cases hj:j<n
 ·rw [kQ hj];simp [hj]
 ·rw [Array.getElem?_eq_none (xs:=fA n fun _=>0) (by rw [fQ];omega),Array.getElem?_eq_none (by simpa using hj)]
theorem sZ (n:Nat):(List.replicate n (Value.int .i64 0)).toArray=ku n fun _=>0:=by
 apply Array.ext_getElem?;intro j;by_cases hj:j<n
 ·rw [qe hj];simp [hj]
 ·rw [Array.getElem?_eq_none (xs:=ku n fun _=>0) (by rw [jv];omega),Array.getElem?_eq_none (by simpa using hj)]
theorem Au (n:Nat):(List.replicate n (Value.bool false)).toArray=jC n fun _=>false:=by
 apply Array.ext_getElem?;intro j;by_cases hj:j<n
 ·rw [mn hj];simp [hj]
 ·rw [Array.getElem?_eq_none (xs:=jC n fun _=>false) (by rw [jw];omega),Array.getElem?_eq_none (by simpa using hj)]
def VJ (w:World) (g K:Nat) (f:Nat→Int):Prop:=∃ cur:Array Value,Blk w g 21 cur∧K≤cur.size∧∀ i,i<K→cur[i]? =some (jV (f i))
theorem VJ.of_blk {w:World} {g n:Nat} {f:Nat→Int} (h:Blk w g 21 (fA n f)):VJ w g n f:=⟨_,h,by rw [fQ];exact Nat.le_refl _,fun _ hi=>kQ hi⟩
theorem VJ.congr {w:World} {g K:Nat} {f f2:Nat→Int} (h:VJ w g K f) (e:∀ i,i<K→f i=f2 i):VJ w g K f2:=by
 obtain ⟨cur,h1,h2,h3⟩:=h;exact ⟨cur,h1,h2,fun i hi=>by rw [h3 i hi,e i hi]⟩
theorem VJ.rd {w:World} {g K i:Nat} {f:Nat→Int} (h:VJ w g K f) (hi:i<K):w.cell? ⟨g,i,none⟩=some (jV (f i)):=by
 obtain ⟨cur,h1,h2,h3⟩:=h;exact h1.rd i (h3 i hi)
theorem VJ.from_ {w w':World} {g K:Nat} {f:Nat→Int} (h:VJ w g K f) (hF:aj w w'):VJ w' g K f:=by
 obtain ⟨cur,h1,h2⟩:=h;exact ⟨cur,h1.from_ hF,h2⟩
theorem VJ.only {w w':World} {g g2 K:Nat} {f:Nat→Int} (h:VJ w g K f) (o:cH g2 w w') (hne:g≠g2):VJ w' g K f:=by
 obtain ⟨cur,h1,h2⟩:=h;exact ⟨cur,h1.only o hne,h2⟩
theorem VJ.grown {w w':World} {g K:Nat} {f:Nat→Int} {r:Option Nat} (h:VJ w g K f) (hg:w.grownBy w' r) (hne:∀ q,r=some q→q≠g):VJ w' g K f:=by
 obtain ⟨cur,h1,h2⟩:=h;exact ⟨cur,h1.grown hg hne,h2⟩
theorem VJ.put {w:World} {g K i:Nat} {f:Nat→Int} {v:Int} {cur:Array Value} (h:Blk w g 21 (cur.setIfInBounds i (jV v))) (hs:K≤cur.size) (hc:∀ i,i<K→cur[i]? =some (jV (f i))) (hi:i<K):VJ w g K (upd f i v):=by
 refine ⟨_,h,by rw [Array.size_setIfInBounds];exact hs,fun j hj=>?_⟩;rw [Array.getElem?_setIfInBounds];by_cases e:i=j
 ·subst e;rw [if_pos rfl,if_pos (by omega),eF]
 ·rw [if_neg e,fx _ _ (fun h=>e h.symm)];exact hc j hj
theorem VJ.range {w:World} {g K k:Nat} {f:Nat→Int} (h:VJ w g K f) (hk:k≤K):w.rangeAt g 0 ((List.range k).map fun i=>jV (f i)):=fun j v hv=>by
 have hj:j<k:=by
  rcases Nat.lt_or_ge j k with a | a
  ·exact a
  ·rw [List.getElem?_eq_none (by simpa using a)] at hv;cases hv
 have e:=h.rd (show j<K by omega);simp [hj] at hv;rw [Nat.zero_add,e,←hv]
theorem VJ.lt {w:World} {g K:Nat} {f:Nat→Int} (h:VJ w g K f):g<w.heap.size:=by
 obtain ⟨cur,h1,_⟩:=h;exact h1.lt
theorem VJ.own {w:World} {base g K c:Nat} {f:Nat→Int} (h:w.ownsRow base 21 1 (.slice (some ⟨g,0,none⟩) K c) K (((List.range K).map f).map jV)) (h0:0<K):VJ w g K f∧base≤g:=by
 obtain ⟨g',cur,hA,hg,hb,h1,h2,h3,h4⟩:=fa h h0;cases hA;refine ⟨⟨_,hb,by rw [List.size_toArray,h3];omega,fun i hi=>?_⟩,hg⟩;rw [List.getElem?_toArray];have e:=congrArg (fun l=>l[i]?) h4;rw [List.getElem?_take,if_pos (by omega)] at e;rw [e];simp [hi]
section
variable {P:Program} {ρ:Operand→Value} {w:World} {t yt:TypeId} {x y:Operand}
theorem i32_in {a:Int} (h:-2147483648≤a∧a≤2147483647):IntKind.i32.wrap a=a:=by
 have e:((2:Int) ^ IntKind.i32.bits)=4294967296:=by decide
 have e2:((2:Int) ^ (IntKind.i32.bits-1))=2147483648:=by decide
 unfold IntKind.wrap;simp only [e,e2,show IntKind.i32.signed=true from rfl,Bool.true_and,decide_eq_true_eq];split <;> omega
theorem gY {a b r:Int} (hx:ρ x=.int .i32 a) (hy:ρ y=.int .i32 b) (he:a+b=r) (h:-2147483648≤r∧r≤2147483647):RO P ρ (.binOp .add t x y yt) w (.int .i32 r) w:=by
 have:=xM (P:=P) (ρ:=ρ) (w:=w) (t:=t) (yt:=yt) hx hy
 rwa [he,i32_in h] at this
theorem kv {a b r:Int} (hx:ρ x=.int .i32 a) (hy:ρ y=.int .i32 b) (he:a-b=r) (h:-2147483648≤r∧r≤2147483647):RO P ρ (.binOp .sub t x y yt) w (.int .i32 r) w:=by
 have:=xG (P:=P) (ρ:=ρ) (w:=w) (t:=t) (yt:=yt) hx hy
 rwa [he,i32_in h] at this
theorem gH {src dst:TypeId} {k:IntKind} {a:Int} (hs:(P.underlying src).isSome=true) (hd:P.underlying dst=some (.int .i32)) (hx:ρ x=.int k a) (h:-2147483648≤a∧a≤2147483647):RO P ρ (.convert src dst x) w (.int .i32 a) w:=
 lT hs hd hx (i32_in h)
theorem zq {e by_ m:Nat} {z:Value} {kl kc:IntKind} (ht:kB P t=some (e,by_,z)) (hz:z.cells=#[z]) (hx:ρ x=.int kl (m:Nat)) (hy:ρ y=.int kc (m:Nat)) (hm:m≤9223372036854775807) (hb:by_*m≤281474976710656) :
 RO P ρ (.makeSlice t x y) w (.slice (some ⟨w.heap.size,0,none⟩) m m) (w.alloc (.cells (List.replicate m z).toArray e)):=by
 unfold kB at ht;split at ht
 ·rename_i e' hu;cases hi:P.info? e' with
  |none=>simp [hi] at ht
  |some i=>
   rw [hi] at ht;simp only [Option.bind_some] at ht;split at ht
   ·rename_i hs;cases hzz:i.zero with
    |none=>simp [hzz] at ht
    |some z'=>
     simp only [hzz,Option.map_some,Option.some.injEq,Prod.mk.injEq] at ht;obtain ⟨rfl,rfl,rfl⟩:=ht
     have hr:=run_make (P:=P) w t e' i z' hu hi hzz kl kc (m:Int) (m:Int) (by omega) (Int.le_refl _) (by
      have:((i.bytes*m:Nat):Int)≤281474976710656:=by omega
      rwa [Int.natCast_mul] at this) (by omega)
     have hcells:madeCells z'.cells ((m:Int).toNat*i.size)=(List.replicate m z').toArray:=by
      rw [hs,Int.toNat_natCast,Nat.mul_one,hz];apply Array.ext_getElem?;intro j;simp only [madeCells,Array.getElem?_map];by_cases hj:j<m
      ·simp [hj,Nat.mod_one]
      ·simp [hj]
     rw [hcells,Int.toNat_natCast] at hr;exact fun _ _ _ _ _=>by simp [execOp,hx,hy,hr]
   ·cases ht
 ·cases ht
end
section
open Classical
noncomputable def rb (n:Nat) (t:Nat→Nat) (i:Nat):Bool:=decide (rz n t i)
theorem lU {n i:Nat} {t:Nat→Nat}:rb n t i=true↔rz n t i:=decide_eq_true_iff
theorem qY {n i:Nat} {t:Nat→Nat}:rb n t i=false↔¬ rz n t i:=decide_eq_false_iff_not
end
def iJ (w:World) (b n K:Nat) (t:Nat→Nat) (m:Nat) (ss:Nat→Nat):Prop:=∃ gl gr AS cs ge,Blk w b 229 #[.slice (some ⟨gl,0,none⟩) n n,.int .i64 (K:Nat),.slice (some ⟨gr,0,none⟩) n n,.slice AS m cs,.slice (some ⟨ge,0,none⟩) K K]∧
 VJ w gl n (fun i=>(t i:Nat))∧Blk w gr 4 (jC n (rb n t))∧(0<m→∃ g,AS=some ⟨g,0,none⟩∧VJ w g m (fun k=>(ss k:Nat)))∧VJ w ge K (fun c=>(less n t (c+1):Nat))
theorem iJ.from_ {w w':World} {b n K m:Nat} {t ss:Nat→Nat} (h:iJ w b n K t m ss) (hF:aj w w'):iJ w' b n K t m ss:=by
 obtain ⟨gl,gr,AS,cs,ge,h1,h2,h3,h4,h5⟩:=h;exact ⟨gl,gr,AS,cs,ge,h1.from_ hF,h2.from_ hF,h3.from_ hF,fun h0=>(let ⟨g,a,b⟩:=h4 h0;⟨g,a,b.from_ hF⟩),h5.from_ hF⟩
end Go.Proofs.YtcbakncjacnnjaaGreat
namespace Go.Proofs.YtcbakncjacnnjaaGreat
open Go.Proofs.Tryz (prog)
open Go.RowKit
open Go.ChangeShapes Go.WideShapes Go.ChangeAt
open Go.Proofs.YtcbakncjacnnjaaGreat.SA
theorem bJ:cN prog 86=some (3,1):=by kernel_rfl
theorem aH:cN prog 137=some (21,1):=by kernel_rfl
theorem bu:(cN prog 86).isSome=true:=by kernel_rfl
theorem aU:fp prog 3=some false:=by kernel_rfl
theorem eO:kB prog 137=some (21,4,(.int .i32 0)):=by kernel_rfl
theorem ij:prog.underlying 21=some (.int .i32):=by kernel_rfl
theorem cJ:dK prog 21=some 1:=by kernel_rfl
theorem dz:fH prog 137=some (21,1,4,(.int .i32 0)):=by kernel_rfl
theorem sQ:prog.underlying 137=some (.slice 21):=by kernel_rfl
def okS (k x:Int):Bool:=decide (0≤x)&&decide (x<k)
theorem tQ {k x:Int} (h:x<0∨k≤x):okS k x=false:=by
 unfold okS;rcases h with h | h
 ·rw [decide_eq_false (by omega)];rfl
 ·rw [decide_eq_false (p:=x<k) (by omega),Bool.and_false]
theorem qn {k x:Int} (h:0≤x) (g:x<k):okS k x=true:=by
 unfold okS;rw [decide_eq_true h,decide_eq_true g];rfl
theorem zC {k x:Int}:okS k x=true↔0≤x∧x<k:=by simp [okS]
theorem wR {p:Int→Bool} {l:List Int} {i:Nat} (hi:i<l.length) (h:(l.take i).all p=true) (hp:p l[i]=true):(l.take (i+1)).all p=true:=by
 rw [List.take_succ_eq_append_getElem hi,List.all_append,h];simp [hp]
theorem Ah {p:Int→Bool} {l:List Int} {i:Nat} (hi:¬ i<l.length) (h:(l.take i).all p=true):l.all p=true:=by
 rwa [List.take_of_length_le (by omega)] at h
theorem uB {p:Int→Bool} {l:List Int} {i:Nat} (hi:i<l.length) (hp:p l[i]=false):l.all p=false:=by
 rw [Bool.eq_false_iff];intro h;have:=List.all_eq_true.1 h _ (List.getElem_mem hi);rw [hp] at this;cases this
theorem xy (A:Option Addr) (c n:Nat) (xs:List Int) (w:World) (hr:bA iV w A xs) (hn:n=xs.length) (hl:n≤1000000000000) :
 Rt prog 133 [.slice A n c] w (fun v w'=>v=.bool (xs.all (okS 512))∧aj w w'):=by
 refine enter (n:=18) Tryz.func133 rfl rfl rfl (af (aa (asb rfl (ah (ab (af (af (aa (mvs rfl (ae (aQ bu rfl) (mvi rfl (ah (ab (aw (a_ (G:=Nat) [2,4,8,9,10,11,12,13,14,15,16,17] (fun k=>[(7,.int .i64 (k:Nat))]) (fun k w'=>k≤n∧(xs.take k).all (okS 512)=true∧aj w w') (fun k=>n-k) (0) ⟨rfl,trivial⟩ ?_ ?_)))))))))))))))
 ·exact ⟨Nat.zero_le _,rfl,aj.rfl_⟩
 rintro k ρ1 w1 ⟨hk,ht,hB⟩;refine af (aa (ae (aW rfl rfl) (ah (ab (af (JV rfl (fun Q2=>?_) (fun Q2=>?_)))))))
 ·have hkn:k<xs.length:=by omega
  obtain ⟨ba,oa,rfl,hca⟩:=hr (by omega);refine av (ab (af (aw (af (aa (ae (aX bJ rfl rfl (by omega)) (ae (an aU rfl (by exact bx hB (hca k hkn))) ?_)))))));refine asi rfl (ah (ab (af (aa (mvi rfl (ae (aW rfl rfl) (mvb rfl (Jk (t:=13) rfl (fun Q3=>?_) (fun Q3=>?_)))))))))
  ·refine aL rfl rfl (aL rfl rfl (ae (bB (v:=.bool _) rfl rfl) (ah (ab (cW rfl (af (aa (asb rfl (ah (ab (ay (bj (aD (aD (bj (aD (bE (v:=.bool _) rfl rfl ?_)))))))))))))))));exact ⟨by rw [uB hkn (tQ (by omega))],hB⟩
  refine ao rfl (mvi rfl (ao rfl (ae (eA rfl rfl) (ae (bk (v:=.bool _) rfl rfl) (ah (ab (JV rfl (fun Q4=>?_) (fun Q4=>?_))))))))
  ·refine af (aa (asb rfl (ah (ab (ay (bj (aD (aD (bj (aD (bE (v:=.bool _) rfl rfl (⟨by rw [uB hkn (tQ (by omega))],hB⟩))))))))))))
  refine av (aI (ab (aa (ae (aG (b:=1) rfl rfl (by omega)) (mvi rfl (ah ?_))))));refine aO (k+1) ⟨(by first | rfl | (refine aK ?_;omega)),trivial⟩ (by (iterate 26 refine aB rfl ?_);exact aJ) ⟨?_,?_⟩
  ·exact ⟨by omega,wR hkn ht (qn (by omega) (by omega)),hB⟩
  ·show n-(k+1)<n-k;omega
 refine bc (aC (aC (aS (ab (af (aa (asb rfl (ah (ab (ay (bE (v:=.bool _) rfl rfl (⟨by rw [Ah (by omega) ht],hB⟩))))))))))))
def bQ (L:List Nat) (i:Nat):Nat:=if h:i<L.length then L[i]+1 else 0
def rH (L:List Nat) (k:Nat) (i:Nat):Int:=if i<k then (bQ L i:Int) else 0
theorem BF {L:List Nat} {k n:Nat}:fA n (upd (rH L k) k (bQ L k:Nat))=fA n (rH L (k+1)):=eM fun i _=>by
 unfold upd rH;by_cases e:i=k
 ·subst e;rw [if_pos rfl,if_pos (by omega)]
 ·rw [if_neg e];by_cases h:i<k
  ·rw [if_pos h,if_pos (by omega)]
  ·rw [if_neg h,if_neg (by omega)]
theorem BG {L:List Nat}:fA (L.length+1) (rH L L.length)=fA (L.length+1) fun i=>(bQ L i:Nat):=eM fun i hi=>by
 unfold rH;by_cases h:i<L.length
 ·rw [if_pos h]
 ·rw [if_neg h];unfold bQ;rw [dif_neg h];rfl
theorem fJ (L:List Nat):Txt (L.length+1) (bQ L):=⟨by omega,by unfold bQ;rw [dif_neg (by omega)],fun i hi=>by unfold bQ;rw [dif_pos (by omega)];omega⟩
theorem xt (A:Option Addr) (c n:Nat) (L:List Nat) (w:World) (hr:bA iV w A (L.map fun x:Nat=>(x:Int))) (hn:n=L.length) (hl:n≤131072) (hx:∀ x∈L,x<512) :
 Rt prog 163 [.slice A n c] w (fun v w'=>(∃ g,v=.slice (some ⟨g,0,none⟩) (n+1) (n+1)∧w.heap.size≤g∧Blk w' g 21 (fA (n+1) fun i=>(bQ L i:Nat)))∧aj w w'):=by
 refine enter (n:=25) Tryz.func163 rfl rfl rfl (af (aa (ass rfl (ah (ab (af (aa (mvs rfl (ae (aQ bu rfl) (ae (aG (b:=1) rfl rfl (by omega)) (gi eO rfl rfl rfl (by omega) (by omega) ?_)))))))))));intro b9 w1 E9 hb9 hk9;have hg9:w.heap.size≤b9:=Nat.le_of_eq hb9.symm;refine ass rfl (ah (ab (af (af (aa (mvs rfl (ae (aQ bu rfl) (mvi rfl (ah (ab (aw (a_ (G:=Nat) [4,5,13,14,15,16,17,18,19,20,21,22,23] (fun k=>[(12,.int .i64 (k:Nat))]) (fun k w'=>k≤n∧Blk w' b9 21 (fA (n+1) (rH L k))∧aj w w') (fun k=>n-k) (0) ⟨rfl,trivial⟩ ?_ ?_))))))))))))
 ·refine ⟨Nat.zero_le _,?_,(aj.rfl_.next E9)⟩;rw [iy] at hk9;exact hk9
 rintro k ρ2 w2 ⟨hk,hT,hB⟩;refine af (aa (ae (aW rfl rfl) (ah (ab (af (JV rfl (fun Q3=>?_) (fun Q3=>?_)))))))
 ·have hkn:k<L.length:=by omega
  obtain ⟨ba,oa,rfl,hca⟩:=hr (by rw [List.length_map];omega);have hck:=hca k (by rw [List.length_map];omega);rw [List.getElem_map] at hck;have hend:bQ L k=L[k]+1:=by unfold bQ;rw [dif_pos hkn]
  have hxk:=hx _ (List.getElem_mem hkn);refine av (ab (af (aw (af (aa (mvi rfl (ae (aX bJ rfl rfl (by omega)) (ae (an aU rfl (by exact bx hB hck)) ?_))))))));refine asi rfl (asi rfl (ah (ab (aa (mvs rfl (mvi rfl (mvi rfl (ae (gH dP ij rfl (by omega)) (ae (gY rfl rfl (r:=(bQ L k:Nat)) (by rw [hend];omega) (by rw [hend];omega)) ?_)))))))));refine ae (aA aH rfl rfl (by omega)) (bH (v:=.int _ _) cJ rfl rfl rfl (hT) (by rw [fQ];omega) ?_);intro w4 O5 P5;have P5b:Blk w4 b9 21 (fA (n+1) (rH L (k+1))):=by rw [←BF,←nF];exact P5
  refine ah (aI (ab (aa (ae (aG (b:=1) rfl rfl (by omega)) (mvi rfl (ah ?_))))));refine aO (k+1) ⟨(by first | rfl | (refine aK ?_;omega)),trivial⟩ (by (iterate 28 refine aB rfl ?_);exact aJ) ⟨?_,?_⟩
  ·exact ⟨by omega,P5b,(hB.only O5 (hg9))⟩
  ·show n-(k+1)<n-k;omega
 refine bc (aC (aC (aS (ab (af (aa (mvs rfl (ass rfl (ah (ab (ay (bE (v:=.slice _ _ _) rfl rfl ?_))))))))))));obtain rfl:k=n:=by omega
 exact ⟨⟨b9,rfl,hg9,by subst hn;rw [←BG];exact hT⟩,hB⟩
theorem cO (A:Option Addr) (c n:Nat) (xs:List Value) (w:World) (hx:xs.length=n*1) (hr:0<n→∃ b o,A=some ⟨b,o,none⟩∧w.rangeAt b o xs) (hn0:A=none→n=0∧c=0) (h1:∀ u∈xs,u.oneCell'=true) (hl:n≤100000000000) :
 Rt prog 185 [.slice A n c] w (fun v w'=>(∃ A' c',v=.slice A' n c'∧w'.ownsRow w.heap.size 21 1 (.slice A' n c') n xs)∧aj w w'):=by
 refine enter (n:=8) Tryz.func185 rfl rfl rfl (af (aa (ass rfl (ah (ab (af (af (aa (mvs rfl (ae (nb sQ rfl rfl) (ah (ab (au rfl (fun Q1=>?_) (fun Q1=>?_))))))))))))))
 ·(try first | (replace Q1 := fm Q1; trace "@MK N cO:c4+ 1.1") | (replace Q1 := fo Q1; trace "@MK N cO:c4+ 1.2"))
  (try first | (replace Q1 := eH Q1; trace "@MK N cO:c4+ 2.1") | (replace Q1 := eI Q1; trace "@MK N cO:c4+ 2.2") | (replace Q1 := fX Q1; trace "@MK N cO:c4+ 2.3") | (replace Q1 := fY Q1; trace "@MK N cO:c4+ 2.4") | (replace Q1 := dT_ Q1; trace "@MK N cO:c4+ 2.5") | (replace Q1 := dF_ Q1; trace "@MK N cO:c4+ 2.6"))
  obtain rfl:A=none:=Option.isNone_iff_eq_none.1 Q1;obtain ⟨rfl,rfl⟩:=hn0 rfl;obtain rfl:xs=[]:=List.eq_nil_of_length_eq_zero (by omega);refine af (aa (ass rfl (ah (ab (ay (aD (bE (v:=.slice _ _ _) rfl rfl (⟨⟨none,0,rfl,World.ownsRow_nil _ _ _ _⟩,aj.rfl_⟩))))))))
 (try first | (replace Q1 := fm Q1; trace "@MK N cO:c4- 1.1") | (replace Q1 := fo Q1; trace "@MK N cO:c4- 1.2"))
 (try first | (replace Q1 := eH Q1; trace "@MK N cO:c4- 2.1") | (replace Q1 := eI Q1; trace "@MK N cO:c4- 2.2") | (replace Q1 := fX Q1; trace "@MK N cO:c4- 2.3") | (replace Q1 := fY Q1; trace "@MK N cO:c4- 2.4") | (replace Q1 := dT_ Q1; trace "@MK N cO:c4- 2.5") | (replace Q1 := dF_ Q1; trace "@MK N cO:c4- 2.6"))
 have hA4:A=none→c=0:=fun h=>by rw [h] at Q1;cases Q1
 refine av (ab (af (aa (tE dz _ (aj.rfl_.size) ?_))));intro b5 w2 E5 hb5 ho5;refine mvs rfl ?_;refine mo (a0:=w) dz rfl (by decide) rfl ho5 (aj.rfl_.next E5) rfl hx (fun h=>(let ⟨b,o,hA,hc⟩:=hr h;⟨b,o,hA,du (aj.rfl_.next E5) hc⟩)) hA4 h1 (by omega) (by omega) ?_;intro A7 c7 w3 ho7 B7 hg7;refine ass rfl (ah (ab (ay (bE (v:=.slice _ _ _) rfl rfl (⟨⟨A7,c7,by rw [Nat.zero_add],by simpa using ho7⟩,B7⟩)))))
theorem Ew (g n:Nat) (t:Nat→Int) (w:World) (hb:VJ w g n t) (h0:0<n) (hl:n≤1000000):Rt prog 185 [.slice (some ⟨g,0,none⟩) n n] w fun v w'=>(∃ g2 c2,v=.slice (some ⟨g2,0,none⟩) n c2∧w.heap.size≤g2∧VJ w' g2 n t)∧aj w w':=by
 refine (cO (some ⟨g,0,none⟩) n n (((List.range n).map t).map jV) w (by simp) (fun _=>⟨g,0,rfl,fun j v hv=>?_⟩) (fun h=>by cases h) (fun u hu=>?_) (by omega)).mono fun v w' h=>?_
 ·have hj:j<n:=by
   rcases Nat.lt_or_ge j n with a | a
   ·exact a
   ·rw [List.getElem?_eq_none (by simpa using a)] at hv;cases hv
  have e:=hb.rd hj;simp [hj] at hv;rw [Nat.zero_add,e,←hv]
 ·obtain ⟨x,_,rfl⟩:=List.mem_map.1 hu;rfl
 ·obtain ⟨⟨A2,c2,rfl,ho⟩,hF⟩:=h;obtain ⟨g2,rfl⟩:=dm ho h0;exact ⟨⟨g2,c2,rfl,(VJ.own ho h0).2,(VJ.own ho h0).1⟩,hF⟩
theorem eD:cG prog 229 4=some 4:=by kernel_rfl
theorem aR:fp prog 137=some false:=by kernel_rfl
theorem p_:cG prog 229 1=some 1:=by kernel_rfl
theorem x5 (n K:Nat) (t:Nat→Nat) (h0:0<K):[jV 0]++((List.range (K-1)).map fun c=>jV (less n t (c+1):Nat))=((List.range K).map fun c=>((less n t c:Nat):Int)).map jV:=by
 obtain ⟨K,rfl⟩:∃ k,K=k+1:=⟨K-1,by omega⟩;have e:less n t 0=0:=h_ fun i _ h=>absurd h (by omega)
 rw [Nat.add_sub_cancel,List.range_succ_eq_map];simp [e]
theorem DT (b n K m:Nat) (t ss:Nat→Nat) (w:World) (hT:iJ w b n K t m ss) (hK0:0<K) (hK:K≤1000000) :
 Rt prog 187 [.pointer (some ⟨b,0,none⟩)] w (fun v w'=>(∃ g c,v=.slice (some ⟨g,0,none⟩) K c∧w.heap.size≤g∧VJ w' g K (fun c=>(less n t c:Nat)))∧aj w w'):=by
 obtain ⟨gl,gr,AS,cs,ge,hb,hl,hr,hs,he⟩:=hT;refine enter (n:=15) Tryz.func187 rfl rfl rfl (af (aa (ass rfl (ah (ab (af ?_))))));apply uu 12 11 [3] [(3,fun v w'=>∃ q,v=.slice (some ⟨q,0,none⟩) 1 1∧w'.ownsRow w.heap.size 21 1 (.slice (some ⟨q,0,none⟩) 1 1) 1 [jV 0]∧(w).heap.size≤q),(4,eqp _),(5,eqp _),(6,eqp _),(7,eqp _),(8,eqp _),(9,eqp _),(10,eqp _),(11,eqp _),(12,eqp _),(13,eqp _),(14,fun v w'=>∃ A2 c2,v=.slice A2 K c2∧w'.ownsRow w.heap.size 21 1 (.slice A2 K c2) K ([jV 0]++((List.range (K-1)).map fun c=>jV (less n t (c+1):Nat))))] (fun w'=>aj w w') (fun w'=>aj w w') (by repeat first | exact cy | refine cm ?_ | refine bO ?_) (by kernel_rfl) (by kernel_rfl) (by kernel_rfl) ⟨(fun _ _ _ hF ⟨q,h1,h2,h3⟩=>⟨q,h1,h2.kept_from hF,h3⟩),ag _,ag _,ag _,ag _,ag _,ag _,ag _,ag _,ag _,ag _,(fun _ _ _ hF ⟨A2,c2,h1,h2⟩=>⟨A2,c2,h1,h2.kept_from hF⟩),trivial⟩ (aj.rfl_.d1) (aj.rfl_.d1) (fun _ _ hF h=>h.next hF) (fun _ _ hF h=>h.next hF)
 case hop=>
  constructor
  ·rintro-w2 D2;exact fG (ql dz rfl rfl rfl) (aj.rfl_.new _) ⟨_,rfl,⟨by simp,.inr ⟨_,1,#[jV 0],rfl,(aj.rfl_.next D2).size,heap_alloc_new _ _,Nat.le_refl _,by decide,by simp,by simp⟩⟩,D2.size⟩
  constructor
  ·rintro-w3 D3;exact ai (aq (v:=.pointer _) rfl) rfl
  constructor
  ·rintro-w4 D4;rintro _ rfl;exact ai (ar rfl) rfl
  constructor
  ·rintro-w5 D5;rintro _ rfl;exact ai (ak eD rfl) rfl
  constructor
  ·rintro-w6 D6;rintro _ rfl;exact ai (an aR rfl (by exact bx (aj.rfl_.next D6) (hb.rd 4 rfl))) rfl
  constructor
  ·rintro-w7 D7;exact ai (aq (v:=.pointer _) rfl) rfl
  constructor
  ·rintro-w8 D8;rintro _ rfl;exact ai (ar rfl) rfl
  constructor
  ·rintro-w9 D9;rintro _ rfl;exact ai (ak p_ rfl) rfl
  constructor
  ·rintro-w10 D10;rintro _ rfl;exact ai (an aU rfl (by exact bx (aj.rfl_.next D10) (hb.rd 1 rfl))) rfl
  constructor
  ·rintro-w11 D11;rintro _ rfl;exact ai (bP (b:=1) rfl rfl (by omega)) rfl
  constructor
  ·rintro-w12 D12;rintro _ rfl _ rfl;exact ai (vG (m:=K-1) aH rfl rfl (by omega)) rfl
  constructor
  ·intro h;cases h
  exact trivial
 case hmu=>
  rintro w14 D14;rintro v14_3 ⟨q14,rfl,hq14,hz14⟩ _ rfl;show mM ..;refine mB dz rfl (by decide) rfl hq14 (aj.rfl_.next D14).size rfl (by simp) ⟨_,_,rfl,(he.from_ (aj.rfl_.next D14)).range (k:=K-1) (by omega)⟩ (by simp [Value.oneCell']) (by omega) (by omega) ?_;intro A3 c3 w3 ho3 hg3;exact ⟨D14.grew hg3 (fun k hk=>by cases hk;exact hz14),⟨A3,c3,by rw [show 1+(K-1)=K by omega],by rw [show 1+(K-1)=K by omega] at ho3;exact ho3⟩,fun t u ht h=>iT (by repeat first | exact trivial | refine ⟨.inl rfl,?_⟩ | refine ⟨.inr (fun _ h=>h),?_⟩) t u ht h⟩
 case hend=>
  rintro w15 D15;rintro v3 _ _ rfl _ rfl _ rfl _ rfl _ rfl _ rfl _ rfl _ rfl _ rfl _ rfl v14 ⟨A14_15,c14_15,rfl,ho14_15⟩;show St ..;rw [x5 n K t hK0] at ho14_15;obtain ⟨g,rfl⟩:=dm ho14_15 hK0;have hv:=VJ.own ho14_15 hK0;refine ass rfl (ah (ab (ay (bE (v:=.slice _ _ _) rfl rfl (⟨⟨g,_,rfl,hv.2,hv.1⟩,(aj.rfl_.next D15)⟩)))))
theorem oi:kB prog 198=some (4,1,(.bool false)):=by kernel_rfl
theorem yz:∀ (a0:Option Addr) (a1 a2:Nat) (a3:Int) (a4:Option Addr) (a5 a6:Nat) (a7:Option Addr) (a8 a9:Nat),prog.built 229 [(0,.slice a0 a1 a2),(1,.int .i64 a3),(2,.slice a4 a5 a6),(4,.slice a7 a8 a9)]=some #[.slice a0 a1 a2,.int .i64 a3,.slice a4 a5 a6,.slice none 0 0,.slice a7 a8 a9]:=by intros;kernel_rfl
theorem ck:(cN prog 137).isSome=true:=by kernel_rfl
theorem dE:cG prog 229 2=some 2:=by kernel_rfl
theorem dZ:fp prog 198=some false:=by kernel_rfl
theorem cS:cN prog 198=some (4,1):=by kernel_rfl
theorem jR:dK prog 4=some 1:=by kernel_rfl
theorem aZ:fp prog 21=some false:=by kernel_rfl
theorem fM:fp prog 4=some false:=by kernel_rfl
theorem cP:cG prog 229 3=some 3:=by kernel_rfl
theorem jn:dK prog 137=some 1:=by kernel_rfl
theorem VJ.rdN {w:World} {g K i:Nat} {t:Nat→Nat} (h:VJ w g K fun i=>(t i:Nat)) (hi:i<K):w.cell? ⟨g,i,none⟩=some (.int .i32 ((t i:Nat):Int)):=h.rd hi
theorem fW {w:World} {g g2 t t2:Nat} {cs cs2:Array Value} (h:Blk w g t cs) (h2:Blk w g2 t2 cs2) (hne:t≠t2):g≠g2:=by
 rintro rfl;unfold Blk at h h2;rw [h] at h2;simp only [Option.some.injEq,Obj.cells.injEq] at h2;exact hne h2.2.1
noncomputable def rT (n:Nat) (t:Nat→Nat) (j:Nat):Array Value:=jC n fun x=>if j≤x then rb n t x else false
theorem C4 {w:World} {q n:Nat} {t:Nat→Nat} (ht:Txt n t) (h:Blk w q 4 ((jC n fun _=>false).setIfInBounds (n-1) (.bool true))):Blk w q 4 (rT n t (n-1)):=by
 rw [vq] at h
 have e:jC n (xw (fun _=>false) (n-1) true)=rT n t (n-1):=mY fun x hx=>by
  unfold xw;by_cases e:x=n-1
  ·subst e;rw [if_pos rfl,if_pos (Nat.le_refl _)];exact (lU.2 (qk ht)).symm
  ·rw [if_neg e,if_neg (by omega)]
 rwa [e] at h
theorem xN {w:World} {q n i:Nat} {t:Nat→Nat} {X:Bool} (hX:rb n t i=X) (h:Blk w q 4 ((rT n t (i+1)).setIfInBounds i (.bool X))):Blk w q 4 (rT n t i):=by
 subst hX;unfold rT at h;rw [vq] at h
 have e:jC n (xw (fun x=>if i+1≤x then rb n t x else false) i (rb n t i))=rT n t i:=mY fun x hx=>by
  unfold xw;by_cases e:x=i
  ·subst e;rw [if_pos rfl,if_pos (Nat.le_refl _)]
  ·rw [if_neg e];show (if i+1≤x then rb n t x else false)=_;by_cases h:i+1≤x
   ·rw [if_pos h,if_pos (by omega)]
   ·rw [if_neg h,if_neg (by omega)]
 rwa [e] at h
theorem C5 {w:World} {q n j i:Nat} {t:Nat→Nat} (h:Blk w q 4 (rT n t j)) (hj:j≤i) (hi:i<n):w.cell? ⟨q,i,none⟩=some (.bool (rb n t i)):=h.rd i (by unfold rT;rw [mn hi,if_pos hj])
theorem FW {n:Nat} {t:Nat→Nat}:rT n t 0=jC n (rb n t):=mY fun _ _=>if_pos (Nat.zero_le _)
theorem tK {n j:Nat} {t:Nat→Nat}:(rT n t j).size=n:=jw
theorem Js {n i:Nat} {t:Nat→Nat} (h:Txt n t) (hi:i+1<n) (hlt:t i<t (i+1)):rb n t i=true:=lU.2 ((na h hi).2 (.inl hlt))
theorem Jt {n i:Nat} {t:Nat→Nat} (h:Txt n t) (hi:i+1<n) (hlt:t (i+1)<t i):rb n t i=false:=qY.2 fun e=>by rcases (na h hi).1 e with a | a <;> omega
theorem Ju {n i:Nat} {t:Nat→Nat} (h:Txt n t) (hi:i+1<n) (he:t i=t (i+1)):rb n t i=rb n t (i+1):=by
 rw [Bool.eq_iff_iff,lU,lU,na h hi];exact ⟨fun a=>a.elim (fun a=>by omega) (fun a=>a.2),fun a=>.inr ⟨he,a⟩⟩
open Classical in
noncomputable def stL (n:Nat) (t:Nat→Nat):Nat→List Nat
 |0=>[]
 |i+1=>stL n t i++if lms n t i then [i] else []
theorem Fk {n i:Nat} {t:Nat→Nat} (hi:0<i) (hn:i<n) (h1:rb n t i=true) (h2:rb n t (i-1)=false):stL n t (i+1)=stL n t i++[i]:=by
 conv=>lhs;unfold stL
 rw [if_pos ⟨hi,hn,lU.1 h1,qY.1 h2⟩]
theorem Cp {n i:Nat} {t:Nat→Nat} (h:rb n t i=false∨rb n t (i-1)=true):stL n t (i+1)=stL n t i:=by
 conv=>lhs;unfold stL
 rw [if_neg,List.append_nil];rintro ⟨_,_,a,b⟩;rcases h with h | h
 ·exact qY.1 h a
 ·exact b (lU.1 h)
theorem zg {n:Nat} {t:Nat→Nat}:stL n t 1=[]:=by
 unfold stL;rw [if_neg (fun h=>absurd h.1 (Nat.lt_irrefl 0))];rfl
theorem qg {n s:Nat} {t:Nat→Nat}:∀ {i:Nat},s∈stL n t i↔s<i∧lms n t s
 |0=>by simp [stL]
 |i+1=>by
  unfold stL;rw [List.mem_append,qg];split
  ·rename_i h;constructor
   ·rintro (⟨a,b⟩ | a)
    ·exact ⟨by omega,b⟩
    ·simp only [List.mem_singleton] at a;subst a;exact ⟨by omega,h⟩
   ·rintro ⟨a,b⟩;by_cases e:s=i
    ·exact .inr (by simp [e])
    ·exact .inl ⟨by omega,b⟩
  ·rename_i h;constructor
   ·rintro (⟨a,b⟩ | a)
    ·exact ⟨by omega,b⟩
    ·cases a
   ·rintro ⟨a,b⟩;refine .inl ⟨?_,b⟩;rcases Nat.lt_or_ge s i with c | c
    ·exact c
    ·obtain rfl:s=i:=by omega
     exact absurd b h
theorem Co {n:Nat} {t:Nat→Nat}:∀ {i:Nat},(stL n t i).Pairwise (·<·)
 |0=>by simp [stL]
 |i+1=>by
  unfold stL;rw [List.pairwise_append];refine ⟨Co,by split <;> simp,fun a ha b hb=>?_⟩;split at hb
  ·simp only [List.mem_singleton] at hb;subst hb;exact (qg.1 ha).1
  ·cases hb
theorem zh {n:Nat} {t:Nat→Nat}:∀ {i:Nat},(stL n t i).length≤i
 |0=>by simp [stL]
 |i+1=>by
  have:=zh (n:=n) (t:=t) (i:=i);unfold stL;rw [List.length_append];split <;> simp <;> omega
noncomputable def stF (n:Nat) (t:Nat→Nat) (k:Nat):Nat:=(stL n t n)[k]?.getD 0
theorem qL {n k:Nat} {t:Nat→Nat} (h:k<(stL n t n).length):stF n t k=(stL n t n)[k]:=by unfold stF;rw [List.getElem?_eq_getElem h];rfl
theorem xC (n:Nat) (t:Nat→Nat):dF n t (stL n t n).length (stF n t):=by
 refine ⟨fun k hk=>?_,fun a b hab hb=>?_,fun s hs=>?_⟩
 ·rw [qL hk];exact (qg.1 (List.getElem_mem hk)).2
 ·rw [qL hb,qL (by omega)];exact List.pairwise_iff_getElem.1 Co a b (by omega) hb hab
 ·obtain ⟨k,hk,e⟩:=List.getElem_of_mem (qg.2 ⟨hs.2.1,hs⟩);exact ⟨k,hk,by rw [qL hk,e]⟩
theorem Fl {n:Nat} {t:Nat→Nat}:((List.range (stL n t n).length).map fun k=>((stF n t k:Nat):Int))=(stL n t n).map fun x:Nat=>(x:Int):=by
 apply List.ext_getElem
 ·simp
 ·intro k h1 h2;have hk:k<(stL n t n).length:=by simpa using h2
  simp [qL hk]
noncomputable def cT (_ K:Nat) (t:Nat→Nat) (k:Nat):Array Value:=fA K fun c=>((cnt k fun i=>t i=c:Nat):Int)
theorem JW {w:World} {p n K k c:Nat} {t:Nat→Nat} (h:Blk w p 21 (cT n K t k)) (hc:c<K):w.cell? ⟨p,c,none⟩=some (.int .i32 (cnt k fun i=>t i=c:Nat)):=h.rd c (kQ hc)
theorem I3 {w:World} {p n K k:Nat} {t:Nat→Nat} (h:Blk w p 21 ((cT n K t k).setIfInBounds (t k) (jV (cnt k (fun i=>t i=t k)+1:Nat)))):Blk w p 21 (cT n K t (k+1)):=by
 unfold cT at h;rw [nF] at h
 have e:fA K (upd (fun c=>((cnt k fun i=>t i=c:Nat):Int)) (t k) ((cnt k (fun i=>t i=t k)+1:Nat):Int))=cT n K t (k+1):=eM fun c _=>by
  conv=>rhs;unfold cnt
  by_cases e:c=t k
  ·subst e;rw [eF,if_pos rfl]
  ·rw [fx _ _ e,if_neg (fun h=>e h.symm)];rfl
 rwa [e] at h
noncomputable def eT (n K:Nat) (t:Nat→Nat) (c:Nat):Array Value:=fA K fun x=>if x<c then ((less n t (x+1):Nat):Int) else ((cnt n fun i=>t i=x:Nat):Int)
theorem IS {n K:Nat} {t:Nat→Nat}:cT n K t n=eT n K t 1:=eM fun c _=>by
 by_cases h:c<1
 ·obtain rfl:c=0:=by omega
  have e:less n t 0=0:=h_ fun i _ h=>absurd h (by omega)
  have:=kD (n:=n) (t:=t) 0;rw [if_pos (by omega)];omega
 ·rw [if_neg h]
theorem JN {w:World} {p n K c x:Nat} {t:Nat→Nat} (h:Blk w p 21 (eT n K t c)) (hx:x+1=c) (hk:x<K):w.cell? ⟨p,x,none⟩=some (.int .i32 (less n t c:Nat)):=h.rd x (by unfold eT;rw [kQ hk,if_pos (by omega),hx])
theorem JO {w:World} {p n K c x:Nat} {t:Nat→Nat} (h:Blk w p 21 (eT n K t c)) (hx:¬ x<c) (hk:x<K):w.cell? ⟨p,x,none⟩=some (.int .i32 (cnt n fun i=>t i=x:Nat)):=h.rd x (by unfold eT;rw [kQ hk,if_neg hx])
theorem IR {w:World} {p n K c:Nat} {t:Nat→Nat} (h:Blk w p 21 ((eT n K t c).setIfInBounds c (jV (less n t (c+1):Nat)))):Blk w p 21 (eT n K t (c+1)):=by
 unfold eT at h;rw [nF] at h
 have e:fA K (upd (fun x=>if x<c then ((less n t (x+1):Nat):Int) else ((cnt n fun i=>t i=x:Nat):Int)) c ((less n t (c+1):Nat):Int))=eT n K t (c+1):=eM fun x _=>by
  by_cases e:x=c
  ·subst e;rw [eF,if_pos (by omega)]
  ·rw [fx _ _ e];by_cases h:x<c
   ·rw [if_pos h,if_pos (by omega)]
   ·rw [if_neg h,if_neg (by omega)]
 rwa [e] at h
theorem IT {n K c:Nat} {t:Nat→Nat} (h:K≤c):eT n K t c=fA K fun x=>((less n t (x+1):Nat):Int):=eM fun x hx=>if_pos (by omega)
theorem GA {n c:Nat} {t:Nat→Nat}:less n t c≤n:=fk n _
theorem cw (gl n K:Nat) (t:Nat→Nat) (w:World) (hl:VJ w gl n (fun i=>(t i:Nat))) (ht:Txt n t) (hkt:∀ i,i<n→t i<K) (hn:n≤200000) (hK:K≤200000) :
 Rt prog 162 [.slice (some ⟨gl,0,none⟩) n n,.int .i64 (K:Nat)] w (fun v w'=>(∃ b m ss,v=.pointer (some ⟨b,0,none⟩)∧iJ w' b n K t m ss∧dF n t m ss)∧aj w w'):=by
 have hn0:=ht.pos;refine enter (n:=147) Tryz.func162 rfl rfl rfl (af (aa (asp rfl (ah (ab (af ?_))))));apply dN 10 [(12,eqp _),(13,eqp _),(14,eqp _),(15,eqp _),(16,fun v w'=>∃ q,v=.slice (some ⟨q,0,none⟩) n n∧w.heap.size≤q∧Blk w' q 4 (jC n fun _=>false)),(17,eqp _),(18,fun v w'=>∃ p,v=.slice (some ⟨p,0,none⟩) K K∧w.heap.size≤p∧Blk w' p 21 (fA K fun _=>0)),(19,fun v w'=>∃ q p,v=.agg #[.slice (some ⟨gl,0,none⟩) n n,.int .i64 (K:Nat),.slice (some ⟨q,0,none⟩) n n,.slice none 0 0,.slice (some ⟨p,0,none⟩) K K]∧(w.heap.size≤q∧Blk w' q 4 (jC n fun _=>false))∧w.heap.size≤p∧Blk w' p 21 (fA K fun _=>0)),(20,fun v w'=>∃ b q p,v=.pointer (some ⟨b,0,none⟩)∧(w.heap.size≤b∧Blk w' b 229 #[.slice (some ⟨gl,0,none⟩) n n,.int .i64 (K:Nat),.slice (some ⟨q,0,none⟩) n n,.slice none 0 0,.slice (some ⟨p,0,none⟩) K K])∧(w.heap.size≤q∧Blk w' q 4 (jC n fun _=>false))∧w.heap.size≤p∧Blk w' p 21 (fA K fun _=>0)),(5,fun v w'=>∃ b q p,v=.pointer (some ⟨b,0,none⟩)∧(w.heap.size≤b∧Blk w' b 229 #[.slice (some ⟨gl,0,none⟩) n n,.int .i64 (K:Nat),.slice (some ⟨q,0,none⟩) n n,.slice none 0 0,.slice (some ⟨p,0,none⟩) K K])∧(w.heap.size≤q∧Blk w' q 4 (jC n fun _=>false))∧w.heap.size≤p∧Blk w' p 21 (fA K fun _=>0))] (by kernel_rfl) (by kernel_rfl) ⟨ag _,ag _,ag _,ag _,(fun _ _ _ hF ⟨q,h1,h2,h3⟩=>⟨q,h1,h2,h3.from_ hF⟩),ag _,(fun _ _ _ hF ⟨q,h1,h2,h3⟩=>⟨q,h1,h2,h3.from_ hF⟩),(fun _ _ _ hF ⟨q,p,h1,⟨h2,h3⟩,h4,h5⟩=>⟨q,p,h1,⟨h2,h3.from_ hF⟩,h4,h5.from_ hF⟩),(fun _ _ _ hF ⟨b,q,p,h1,⟨h6,h7⟩,⟨h2,h3⟩,h4,h5⟩=>⟨b,q,p,h1,⟨h6,h7.from_ hF⟩,⟨h2,h3.from_ hF⟩,h4,h5.from_ hF⟩),(fun _ _ _ hF ⟨b,q,p,h1,⟨h6,h7⟩,⟨h2,h3⟩,h4,h5⟩=>⟨b,q,p,h1,⟨h6,h7.from_ hF⟩,⟨h2,h3.from_ hF⟩,h4,h5.from_ hF⟩),trivial⟩
 case hop=>
  constructor
  ·intro w2 D2;exact ai (aq (v:=.slice _ _ _) rfl) rfl
  constructor
  ·intro w3 D3;exact ai (aq (v:=.int _ _) rfl) rfl
  constructor
  ·intro w4 D4;exact ai (aq (v:=.slice _ _ _) rfl) rfl
  constructor
  ·intro w5 D5;rintro _ rfl;exact ai (aQ ck rfl) rfl
  constructor
  ·intro w6 D6;rintro _ rfl;exact fG (zq oi rfl rfl rfl (by omega) (by omega)) (aj.rfl_.new _) ⟨_,rfl,(aj.rfl_.next D6).size,by rw [←Au];exact Blk.new _ _ _⟩
  constructor
  ·intro w7 D7;exact ai (aq (v:=.int _ _) rfl) rfl
  constructor
  ·intro w8 D8;rintro _ rfl;exact fG (zq eO rfl rfl rfl (by omega) (by omega)) (aj.rfl_.new _) ⟨_,rfl,(aj.rfl_.next D8).size,by rw [←iy];exact Blk.new _ _ _⟩
  constructor
  ·intro w9 D9;rintro _ rfl _ rfl v9_16 ⟨q9,rfl,gq9,hq9⟩ v9_18 ⟨p9,rfl,gp9,hp9⟩;exact ai (cM (yz _ _ _ _ _ _ _ _ _ _)) ⟨_,_,rfl,⟨gq9,hq9⟩,gp9,hp9⟩
  constructor
  ·intro w10 D10;rintro v10_19 ⟨q10,p10,rfl,⟨gq10,hq10⟩,gp10,hp10⟩;exact fG (xH rfl) (aj.rfl_.new _) ⟨_,_,_,rfl,⟨(aj.rfl_.next D10).size,Blk.new _ _ _⟩,⟨gq10,hq10.from_ (aj.rfl_.new _)⟩,gp10,hp10.from_ (aj.rfl_.new _)⟩
  constructor
  ·intro w11 D11;rintro v11_20 ⟨b11,q11,p11,rfl,⟨gb11,hb11⟩,⟨gq11,hq11⟩,gp11,hp11⟩;exact ai (bY rfl) ⟨_,_,_,rfl,⟨gb11,hb11⟩,⟨gq11,hq11⟩,gp11,hp11⟩
  exact trivial
 case hend=>
  intro w12 D12;rintro _ rfl _ rfl _ rfl _ rfl v16 ⟨q12,rfl,gq12,hq12⟩ _ rfl v18 ⟨p12,rfl,gp12,hp12⟩ v19 ⟨q12,p12,rfl,⟨gq12,hq12⟩,gp12,hp12⟩ v20 ⟨b12,q12,p12,rfl,⟨gb12,hb12⟩,⟨gq12,hq12⟩,gp12,hp12⟩ v5 ⟨b,q,p,rfl,⟨gb,hT⟩,⟨gq,hR⟩,gp,hE⟩;show St ..;obtain ⟨z,hz⟩:∃ z,z=(w12).heap.size:=⟨_,rfl⟩;have hpz:=hE.lt;have hwz:w.heap.size≤z:=by omega
  refine ah (ab (af (aa (mvs rfl (ae (aQ ck rfl) (asi rfl (ah (ab (af (aa (mvp rfl (ae (ar rfl) (ae (ak dE rfl) (ae (an dZ rfl (by exact hT.rd 2 rfl)) ?_))))))))))))));refine mvi rfl (ae (bP (b:=1) rfl rfl (by omega)) (ae (aA cS rfl rfl (by omega)) (bH (v:=.bool _) jR rfl rfl rfl (hR) (by rw [jw];omega) ?_)));intro w13 O3 P3;have hT3:=hT.only O3 (fW hT hR (by decide));have hE3:=hE.only O3 (fW hE hR (by decide));have hR3:=C4 ht P3;refine ah (ab (af (af (aa (mvi rfl (ae (fi rfl rfl (by omega)) (asi rfl (ah (ab (aw (a_ (G:=Nat) [32,33,34,35,36,37,38,39,40,41,42,43,44,45,46,47,48,49,50,51,52,53,54,55,56,57,58,59,60,61,62,63,64,65,66,67,68,69,70,71,72,73] (fun j=>[(7,.int .i64 ((j:Nat)-1:Int))]) (fun j w'=>j≤n-1∧Blk w' b 229 #[.slice (some ⟨gl,0,none⟩) n n,.int .i64 (K:Nat),.slice (some ⟨q,0,none⟩) n n,.slice none 0 0,.slice (some ⟨p,0,none⟩) K K]∧Blk w' q 4 (rT n t j)∧Blk w' p 21 (fA K fun _=>0)∧z≤w'.heap.size∧aj w w') (fun j=>j) (n-1) ⟨(aK (by omega)),trivial⟩ ?_ ?_)))))))))))
  ·exact ⟨Nat.le_refl _,hT3.from_ aj.rfl_,hR3.from_ aj.rfl_,hE3.from_ aj.rfl_,by rw [hz];exact Nat.le_trans (Nat.le_of_eq rfl) (O3.size.symm ▸ Nat.le_refl _),((aj.rfl_.next D12).only O3 (gq))⟩
  rintro j ρ14 w14 ⟨hj,hT,hR,hE,hzs,hB⟩;refine af (af (aa (mvi rfl (ae (eA rfl rfl) (ah (ab (JV rfl (fun Q15=>?_) (fun Q15=>?_))))))))
  ·obtain ⟨i,rfl⟩:∃ i,j=i+1:=⟨j-1,by omega⟩;have e7:(Value.int .i64 (((i+1:Nat):Int)-1))=.int .i64 (i:Nat):=aK (by omega);rw [e7];refine av (ab (af (aw ?_)));rcases Nat.lt_trichotomy (t i) (t (i+1)) with h1 | h1 | h1
   ·have hX:=Js ht (by omega) h1;apply dN 38 [(36,eqp _),(37,eqp _),(38,eqp _),(39,eqp _),(40,eqp _),(41,eqp _),(42,eqp _),(43,eqp _),(44,eqp _),(45,eqp _),(46,eqp _),(47,eqp _),(48,eqp _),(49,eqp _),(50,eqp _),(51,eqp _),(52,eqp _),(53,eqp _),(54,eqp _),(55,eqp _),(56,eqp _),(57,eqp _),(58,eqp _),(59,eqp _),(60,eqp _),(61,eqp _),(62,eqp _),(63,eqp _),(64,eqp _),(65,eqp _),(66,eqp _),(67,eqp _),(68,eqp _),(69,eqp _),(70,eqp _),(71,eqp _),(72,eqp _),(73,eqp _)] (by kernel_rfl) (by kernel_rfl) ⟨ag _,ag _,ag _,ag _,ag _,ag _,ag _,ag _,ag _,ag _,ag _,ag _,ag _,ag _,ag _,ag _,ag _,ag _,ag _,ag _,ag _,ag _,ag _,ag _,ag _,ag _,ag _,ag _,ag _,ag _,ag _,ag _,ag _,ag _,ag _,ag _,ag _,ag _,trivial⟩
    case hop=>
     constructor
     ·intro w17 D17;exact ai (aq (v:=.pointer _) rfl) rfl
     constructor
     ·intro w18 D18;rintro _ rfl;exact ai (ar rfl) rfl
     constructor
     ·intro w19 D19;rintro _ rfl;exact ai (ak dE rfl) rfl
     constructor
     ·intro w20 D20;rintro _ rfl;exact ai (an dZ rfl (by exact (hT.from_ (aj.rfl_.next D20)).rd 2 rfl)) rfl
     constructor
     ·intro w21 D21;exact ai (aq (v:=.int _ _) rfl) rfl
     constructor
     ·intro w22 D22;exact ai (aq (v:=.slice _ _ _) rfl) rfl
     constructor
     ·intro w23 D23;exact ai (aq (v:=.int _ _) rfl) rfl
     constructor
     ·intro w24 D24;rintro _ rfl _ rfl;exact ai (aA aH rfl rfl (by omega)) rfl
     constructor
     ·intro w25 D25;rintro _ rfl;exact ai (an aZ rfl (by exact (hl.from_ (hB.next D25)).rdN (by omega))) rfl
     constructor
     ·intro w26 D26;exact ai (aq (v:=.slice _ _ _) rfl) rfl
     constructor
     ·intro w27 D27;exact ai (aq (v:=.int _ _) rfl) rfl
     constructor
     ·intro w28 D28;rintro _ rfl;exact ai (aG (b:=1) rfl rfl (by omega)) rfl
     constructor
     ·intro w29 D29;rintro _ rfl _ rfl;exact ai (aA aH rfl rfl (by omega)) rfl
     constructor
     ·intro w30 D30;rintro _ rfl;exact ai (an aZ rfl (by exact (hl.from_ (hB.next D30)).rdN (by omega))) rfl
     constructor
     ·intro w31 D31;rintro _ rfl _ rfl;exact ai (jE (aW rfl rfl) (decide_eq_true (by omega))) rfl
     constructor
     ·intro w32 D32;rintro _ rfl;exact ai (aq (v:=.bool _) rfl) rfl
     constructor
     ·intro w33 D33;rintro _ rfl;exact bI rfl rfl rfl
     constructor
     ·intro w34 D34;rintro _ rfl;exact bI rfl rfl rfl
     constructor
     ·intro w35 D35;rintro _ rfl _ rfl _ rfl;exact bI rfl rfl rfl
     constructor
     ·intro w36 D36;rintro _ rfl _ rfl;exact bI rfl rfl rfl
     constructor
     ·intro w37 D37;rintro _ rfl;exact bI rfl rfl rfl
     constructor
     ·intro w38 D38;rintro _ rfl;exact bI rfl rfl rfl
     constructor
     ·intro w39 D39;rintro _ rfl _ rfl;exact bI rfl rfl rfl
     constructor
     ·intro w40 D40;rintro _ rfl _ rfl _ rfl;exact bI rfl rfl rfl
     constructor
     ·intro w41 D41;rintro _ rfl _ rfl;exact bI rfl rfl rfl
     constructor
     ·intro w42 D42;rintro _ rfl _ rfl _ rfl;exact bI rfl rfl rfl
     constructor
     ·intro w43 D43;rintro _ rfl _ rfl;exact bI rfl rfl rfl
     constructor
     ·intro w44 D44;rintro _ rfl;exact c0 rfl rfl
     constructor
     ·intro w45 D45;rintro _ rfl _ rfl;exact c0 rfl rfl
     constructor
     ·intro w46 D46;rintro _ rfl _ rfl;exact c0 rfl rfl
     constructor
     ·intro w47 D47;rintro _ rfl _ rfl;exact c0 rfl rfl
     constructor
     ·intro w48 D48;rintro _ rfl;exact c0 rfl rfl
     constructor
     ·intro w49 D49;rintro _ rfl _ rfl;exact c0 rfl rfl
     constructor
     ·intro w50 D50;rintro _ rfl _ rfl _ rfl;exact c0 rfl rfl
     constructor
     ·intro w51 D51;rintro _ rfl _ rfl;exact c0 rfl rfl
     constructor
     ·intro w52 D52;rintro _ rfl _ rfl _ rfl;exact bI rfl rfl rfl
     constructor
     ·intro w53 D53;rintro _ rfl _ rfl;exact ai (bB (v:=.bool _) rfl rfl) rfl
     constructor
     ·intro w54 D54;rintro _ rfl _ rfl;exact ai (aA cS rfl rfl (by omega)) rfl
     exact trivial
    case hend=>
     intro w55 D55;rintro _ rfl _ rfl _ rfl _ rfl _ rfl _ rfl _ rfl _ rfl _ rfl _ rfl _ rfl _ rfl _ rfl _ rfl _ rfl _ rfl _ rfl _ rfl _ rfl _ rfl _ rfl _ rfl _ rfl _ rfl _ rfl _ rfl _ rfl _ rfl _ rfl _ rfl _ rfl _ rfl _ rfl _ rfl _ rfl _ rfl _ rfl _ rfl;show St ..;have hT7q:=hT.from_ D55;have hR7q:=hR.from_ D55;have hE7q:=hE.from_ D55;have hzs7q:=Nat.le_trans hzs D55.size;refine bH (v:=.bool _) jR rfl rfl rfl (hR7q) (by rw [tK];omega) ?_;intro w56 O7 P7;have hT7:=hT7q.only O7 (fW hT7q hR7q (by decide));have hE7:=hE7q.only O7 (fW hE7q hR7q (by decide));have hR7:=xN hX P7;have hzs7:z≤(w56).heap.size:=by rw [O7.size];exact hzs7q
     refine ah (aI (ab (aa (mvi rfl (ae (fi rfl rfl (by omega)) (asi rfl (ah ?_)))))));refine aO (i) ⟨(by first | rfl | (refine aK ?_;omega)),trivial⟩ (by (iterate 86 refine aB rfl ?_);exact aJ) ⟨?_,?_⟩
     ·exact ⟨by omega,hT7.from_ aj.rfl_,hR7.from_ aj.rfl_,hE7.from_ aj.rfl_,Nat.le_trans hzs7 (aj.rfl_).size,((hB.next D55).only O7 (gq))⟩
     ·show i<i+1;omega
   ·have hX:=Ju ht (by omega) h1;apply dN 38 [(36,eqp _),(37,eqp _),(38,eqp _),(39,eqp _),(40,eqp _),(41,eqp _),(42,eqp _),(43,eqp _),(44,eqp _),(45,eqp _),(46,eqp _),(47,eqp _),(48,eqp _),(49,eqp _),(50,eqp _),(51,eqp _),(52,eqp _),(53,eqp _),(54,eqp _),(55,eqp _),(56,eqp _),(57,eqp _),(58,eqp _),(59,eqp _),(60,eqp _),(61,eqp _),(62,eqp _),(63,eqp _),(64,eqp _),(65,eqp _),(66,eqp _),(67,eqp _),(68,eqp _),(69,eqp _),(70,eqp _),(71,eqp _),(72,eqp _),(73,eqp _)] (by kernel_rfl) (by kernel_rfl) ⟨ag _,ag _,ag _,ag _,ag _,ag _,ag _,ag _,ag _,ag _,ag _,ag _,ag _,ag _,ag _,ag _,ag _,ag _,ag _,ag _,ag _,ag _,ag _,ag _,ag _,ag _,ag _,ag _,ag _,ag _,ag _,ag _,ag _,ag _,ag _,ag _,ag _,ag _,trivial⟩
    case hop=>
     constructor
     ·intro w58 D58;exact ai (aq (v:=.pointer _) rfl) rfl
     constructor
     ·intro w59 D59;rintro _ rfl;exact ai (ar rfl) rfl
     constructor
     ·intro w60 D60;rintro _ rfl;exact ai (ak dE rfl) rfl
     constructor
     ·intro w61 D61;rintro _ rfl;exact ai (an dZ rfl (by exact (hT.from_ (aj.rfl_.next D61)).rd 2 rfl)) rfl
     constructor
     ·intro w62 D62;exact ai (aq (v:=.int _ _) rfl) rfl
     constructor
     ·intro w63 D63;exact ai (aq (v:=.slice _ _ _) rfl) rfl
     constructor
     ·intro w64 D64;exact ai (aq (v:=.int _ _) rfl) rfl
     constructor
     ·intro w65 D65;rintro _ rfl _ rfl;exact ai (aA aH rfl rfl (by omega)) rfl
     constructor
     ·intro w66 D66;rintro _ rfl;exact ai (an aZ rfl (by exact (hl.from_ (hB.next D66)).rdN (by omega))) rfl
     constructor
     ·intro w67 D67;exact ai (aq (v:=.slice _ _ _) rfl) rfl
     constructor
     ·intro w68 D68;exact ai (aq (v:=.int _ _) rfl) rfl
     constructor
     ·intro w69 D69;rintro _ rfl;exact ai (aG (b:=1) rfl rfl (by omega)) rfl
     constructor
     ·intro w70 D70;rintro _ rfl _ rfl;exact ai (aA aH rfl rfl (by omega)) rfl
     constructor
     ·intro w71 D71;rintro _ rfl;exact ai (an aZ rfl (by exact (hl.from_ (hB.next D71)).rdN (by omega))) rfl
     constructor
     ·intro w72 D72;rintro _ rfl _ rfl;exact ai (dS (aW rfl rfl) (decide_eq_false (by omega))) rfl
     constructor
     ·intro w73 D73;rintro _ rfl;exact ai (aq (v:=.bool _) rfl) rfl
     constructor
     ·intro w74 D74;rintro _ rfl;exact aP rfl (aq (v:=.slice _ _ _) rfl) rfl
     constructor
     ·intro w75 D75;rintro _ rfl;exact aP rfl (aq (v:=.int _ _) rfl) rfl
     constructor
     ·intro w76 D76;rintro _ rfl _ rfl _ rfl;exact aP rfl (aA aH rfl rfl (by omega)) rfl
     constructor
     ·intro w77 D77;rintro _ rfl _ rfl;exact aP rfl (an aZ rfl (by exact (hl.from_ (hB.next D77)).rdN (by omega))) rfl
     constructor
     ·intro w78 D78;rintro _ rfl;exact aP rfl (aq (v:=.slice _ _ _) rfl) rfl
     constructor
     ·intro w79 D79;rintro _ rfl;exact aP rfl (aq (v:=.int _ _) rfl) rfl
     constructor
     ·intro w80 D80;rintro _ rfl _ rfl;exact aP rfl (aG (b:=1) rfl rfl (by omega)) rfl
     constructor
     ·intro w81 D81;rintro _ rfl _ rfl _ rfl;exact aP rfl (aA aH rfl rfl (by omega)) rfl
     constructor
     ·intro w82 D82;rintro _ rfl _ rfl;exact aP rfl (an aZ rfl (by exact (hl.from_ (hB.next D82)).rdN (by omega))) rfl
     constructor
     ·intro w83 D83;rintro _ rfl _ rfl _ rfl;exact aP rfl (jE (cx rfl rfl) (by rw [h1];exact beq_self_eq_true _)) rfl
     constructor
     ·intro w84 D84;rintro _ rfl _ rfl;exact aP rfl (aq (v:=.bool _) rfl) rfl
     constructor
     ·intro w85 D85;rintro _ rfl;exact aP rfl (aq (v:=.pointer _) rfl) rfl
     constructor
     ·intro w86 D86;rintro _ rfl _ rfl;exact aP rfl (ar rfl) rfl
     constructor
     ·intro w87 D87;rintro _ rfl _ rfl;exact aP rfl (ak dE rfl) rfl
     constructor
     ·intro w88 D88;rintro _ rfl _ rfl;exact aP rfl (an dZ rfl (by exact (hT.from_ (aj.rfl_.next D88)).rd 2 rfl)) rfl
     constructor
     ·intro w89 D89;rintro _ rfl;exact aP rfl (aq (v:=.int _ _) rfl) rfl
     constructor
     ·intro w90 D90;rintro _ rfl _ rfl;exact aP rfl (aG (b:=1) rfl rfl (by omega)) rfl
     constructor
     ·intro w91 D91;rintro _ rfl _ rfl _ rfl;exact aP rfl (aA cS rfl rfl (by omega)) rfl
     constructor
     ·intro w92 D92;rintro _ rfl _ rfl;exact aP rfl (an fM rfl (by exact C5 (hR.from_ (aj.rfl_.next D92)) (Nat.le_refl _) (by omega))) rfl
     constructor
     ·intro w93 D93;rintro _ rfl _ rfl _ rfl;exact aP rfl (bB (v:=.bool _) rfl rfl) rfl
     constructor
     ·intro w94 D94;rintro _ rfl _ rfl;exact ai (bk (v:=.bool _) rfl rfl) rfl
     constructor
     ·intro w95 D95;rintro _ rfl _ rfl;exact ai (aA cS rfl rfl (by omega)) rfl
     exact trivial
    case hend=>
     intro w96 D96;rintro _ rfl _ rfl _ rfl _ rfl _ rfl _ rfl _ rfl _ rfl _ rfl _ rfl _ rfl _ rfl _ rfl _ rfl _ rfl _ rfl _ rfl _ rfl _ rfl _ rfl _ rfl _ rfl _ rfl _ rfl _ rfl _ rfl _ rfl _ rfl _ rfl _ rfl _ rfl _ rfl _ rfl _ rfl _ rfl _ rfl _ rfl _ rfl;show St ..;have hT7q:=hT.from_ D96;have hR7q:=hR.from_ D96;have hE7q:=hE.from_ D96;have hzs7q:=Nat.le_trans hzs D96.size;refine bH (v:=.bool _) jR rfl rfl rfl (hR7q) (by rw [tK];omega) ?_;intro w97 O7 P7;have hT7:=hT7q.only O7 (fW hT7q hR7q (by decide));have hE7:=hE7q.only O7 (fW hE7q hR7q (by decide));have hR7:=xN hX P7;have hzs7:z≤(w97).heap.size:=by rw [O7.size];exact hzs7q
     refine ah (aI (ab (aa (mvi rfl (ae (fi rfl rfl (by omega)) (asi rfl (ah ?_)))))));refine aO (i) ⟨(by first | rfl | (refine aK ?_;omega)),trivial⟩ (by (iterate 86 refine aB rfl ?_);exact aJ) ⟨?_,?_⟩
     ·exact ⟨by omega,hT7.from_ aj.rfl_,hR7.from_ aj.rfl_,hE7.from_ aj.rfl_,Nat.le_trans hzs7 (aj.rfl_).size,((hB.next D96).only O7 (gq))⟩
     ·show i<i+1;omega
   have hX:=Jt ht (by omega) h1;apply dN 38 [(36,eqp _),(37,eqp _),(38,eqp _),(39,eqp _),(40,eqp _),(41,eqp _),(42,eqp _),(43,eqp _),(44,eqp _),(45,eqp _),(46,eqp _),(47,eqp _),(48,eqp _),(49,eqp _),(50,eqp _),(51,eqp _),(52,eqp _),(53,eqp _),(54,eqp _),(55,eqp _),(56,eqp _),(57,eqp _),(58,eqp _),(59,eqp _),(60,eqp _),(61,eqp _),(62,eqp _),(63,eqp _),(64,eqp _),(65,eqp _),(66,eqp _),(67,eqp _),(68,eqp _),(69,eqp _),(70,eqp _),(71,eqp _),(72,eqp _),(73,eqp _)] (by kernel_rfl) (by kernel_rfl) ⟨ag _,ag _,ag _,ag _,ag _,ag _,ag _,ag _,ag _,ag _,ag _,ag _,ag _,ag _,ag _,ag _,ag _,ag _,ag _,ag _,ag _,ag _,ag _,ag _,ag _,ag _,ag _,ag _,ag _,ag _,ag _,ag _,ag _,ag _,ag _,ag _,ag _,ag _,trivial⟩
   case hop=>
    constructor
    ·intro w99 D99;exact ai (aq (v:=.pointer _) rfl) rfl
    constructor
    ·intro w100 D100;rintro _ rfl;exact ai (ar rfl) rfl
    constructor
    ·intro w101 D101;rintro _ rfl;exact ai (ak dE rfl) rfl
    constructor
    ·intro w102 D102;rintro _ rfl;exact ai (an dZ rfl (by exact (hT.from_ (aj.rfl_.next D102)).rd 2 rfl)) rfl
    constructor
    ·intro w103 D103;exact ai (aq (v:=.int _ _) rfl) rfl
    constructor
    ·intro w104 D104;exact ai (aq (v:=.slice _ _ _) rfl) rfl
    constructor
    ·intro w105 D105;exact ai (aq (v:=.int _ _) rfl) rfl
    constructor
    ·intro w106 D106;rintro _ rfl _ rfl;exact ai (aA aH rfl rfl (by omega)) rfl
    constructor
    ·intro w107 D107;rintro _ rfl;exact ai (an aZ rfl (by exact (hl.from_ (hB.next D107)).rdN (by omega))) rfl
    constructor
    ·intro w108 D108;exact ai (aq (v:=.slice _ _ _) rfl) rfl
    constructor
    ·intro w109 D109;exact ai (aq (v:=.int _ _) rfl) rfl
    constructor
    ·intro w110 D110;rintro _ rfl;exact ai (aG (b:=1) rfl rfl (by omega)) rfl
    constructor
    ·intro w111 D111;rintro _ rfl _ rfl;exact ai (aA aH rfl rfl (by omega)) rfl
    constructor
    ·intro w112 D112;rintro _ rfl;exact ai (an aZ rfl (by exact (hl.from_ (hB.next D112)).rdN (by omega))) rfl
    constructor
    ·intro w113 D113;rintro _ rfl _ rfl;exact ai (dS (aW rfl rfl) (decide_eq_false (by omega))) rfl
    constructor
    ·intro w114 D114;rintro _ rfl;exact ai (aq (v:=.bool _) rfl) rfl
    constructor
    ·intro w115 D115;rintro _ rfl;exact aP rfl (aq (v:=.slice _ _ _) rfl) rfl
    constructor
    ·intro w116 D116;rintro _ rfl;exact aP rfl (aq (v:=.int _ _) rfl) rfl
    constructor
    ·intro w117 D117;rintro _ rfl _ rfl _ rfl;exact aP rfl (aA aH rfl rfl (by omega)) rfl
    constructor
    ·intro w118 D118;rintro _ rfl _ rfl;exact aP rfl (an aZ rfl (by exact (hl.from_ (hB.next D118)).rdN (by omega))) rfl
    constructor
    ·intro w119 D119;rintro _ rfl;exact aP rfl (aq (v:=.slice _ _ _) rfl) rfl
    constructor
    ·intro w120 D120;rintro _ rfl;exact aP rfl (aq (v:=.int _ _) rfl) rfl
    constructor
    ·intro w121 D121;rintro _ rfl _ rfl;exact aP rfl (aG (b:=1) rfl rfl (by omega)) rfl
    constructor
    ·intro w122 D122;rintro _ rfl _ rfl _ rfl;exact aP rfl (aA aH rfl rfl (by omega)) rfl
    constructor
    ·intro w123 D123;rintro _ rfl _ rfl;exact aP rfl (an aZ rfl (by exact (hl.from_ (hB.next D123)).rdN (by omega))) rfl
    constructor
    ·intro w124 D124;rintro _ rfl _ rfl _ rfl;exact aP rfl (dS (cx rfl rfl) (beq_false_of_ne (by omega))) rfl
    constructor
    ·intro w125 D125;rintro _ rfl _ rfl;exact aP rfl (aq (v:=.bool _) rfl) rfl
    constructor
    ·intro w126 D126;rintro _ rfl;exact bI rfl rfl rfl
    constructor
    ·intro w127 D127;rintro _ rfl _ rfl;exact bI rfl rfl rfl
    constructor
    ·intro w128 D128;rintro _ rfl _ rfl;exact bI rfl rfl rfl
    constructor
    ·intro w129 D129;rintro _ rfl _ rfl;exact bI rfl rfl rfl
    constructor
    ·intro w130 D130;rintro _ rfl;exact bI rfl rfl rfl
    constructor
    ·intro w131 D131;rintro _ rfl _ rfl;exact bI rfl rfl rfl
    constructor
    ·intro w132 D132;rintro _ rfl _ rfl _ rfl;exact bI rfl rfl rfl
    constructor
    ·intro w133 D133;rintro _ rfl _ rfl;exact bI rfl rfl rfl
    constructor
    ·intro w134 D134;rintro _ rfl _ rfl _ rfl;exact aP rfl (bk (v:=.bool _) rfl rfl) rfl
    constructor
    ·intro w135 D135;rintro _ rfl _ rfl;exact ai (bk (v:=.bool _) rfl rfl) rfl
    constructor
    ·intro w136 D136;rintro _ rfl _ rfl;exact ai (aA cS rfl rfl (by omega)) rfl
    exact trivial
   case hend=>
    intro w137 D137;rintro _ rfl _ rfl _ rfl _ rfl _ rfl _ rfl _ rfl _ rfl _ rfl _ rfl _ rfl _ rfl _ rfl _ rfl _ rfl _ rfl _ rfl _ rfl _ rfl _ rfl _ rfl _ rfl _ rfl _ rfl _ rfl _ rfl _ rfl _ rfl _ rfl _ rfl _ rfl _ rfl _ rfl _ rfl _ rfl _ rfl _ rfl _ rfl;show St ..;have hT7q:=hT.from_ D137;have hR7q:=hR.from_ D137;have hE7q:=hE.from_ D137;have hzs7q:=Nat.le_trans hzs D137.size;refine bH (v:=.bool _) jR rfl rfl rfl (hR7q) (by rw [tK];omega) ?_;intro w138 O7 P7;have hT7:=hT7q.only O7 (fW hT7q hR7q (by decide));have hE7:=hE7q.only O7 (fW hE7q hR7q (by decide));have hR7:=xN hX P7;have hzs7:z≤(w138).heap.size:=by rw [O7.size];exact hzs7q
    refine ah (aI (ab (aa (mvi rfl (ae (fi rfl rfl (by omega)) (asi rfl (ah ?_)))))));refine aO (i) ⟨(by first | rfl | (refine aK ?_;omega)),trivial⟩ (by (iterate 86 refine aB rfl ?_);exact aJ) ⟨?_,?_⟩
    ·exact ⟨by omega,hT7.from_ aj.rfl_,hR7.from_ aj.rfl_,hE7.from_ aj.rfl_,Nat.le_trans hzs7 (aj.rfl_).size,((hB.next D137).only O7 (gq))⟩
    ·show i<i+1;omega
  refine bc (aC (aC (aS (ab (af (af (aa (asi rfl (ah (ab (aw (a_ (G:=Nat×Option Addr×Nat) [74,75,76,77,78,79,80,81,82,83,84,85,86,87,88,89,90,91,92,93,94,95,96,97,98,99,100,101,102,103,104,105,106,107] (fun (i,_,_)=>[(8,.int .i64 (i:Nat))]) (fun (i,A3,c3) w'=>0<i∧i≤n∧Blk w' b 229 #[.slice (some ⟨gl,0,none⟩) n n,.int .i64 (K:Nat),.slice (some ⟨q,0,none⟩) n n,.slice A3 (stL n t i).length c3,.slice (some ⟨p,0,none⟩) K K]∧w'.ownsRow z 21 1 (.slice A3 (stL n t i).length c3) (stL n t i).length ((stL n t i).map fun x:Nat=>jV (x:Nat))∧Blk w' q 4 (rT n t 0)∧Blk w' p 21 (fA K fun _=>0)∧z≤w'.heap.size∧aj w w') (fun (i,_,_)=>n-i) ((1,none,0)) ⟨rfl,trivial⟩ ?_ ?_))))))))))))
  ·obtain rfl:j=0:=by omega
   refine ⟨by omega,ht.pos,?_,?_,hR.from_ aj.rfl_,hE.from_ aj.rfl_,Nat.le_trans hzs (aj.rfl_).size,hB⟩
   ·rw [zg];exact hT.from_ aj.rfl_
   ·rw [zg];exact World.ownsRow_nil _ _ _ _
  rintro ⟨i,A3,c3⟩ ρ139 w139 ⟨hi0,hin,hT,ho,hR,hE,hzs,hB⟩;refine af (af (aa (mvi rfl (mvi rfl (ae (aW rfl rfl) (ah (ab (JV rfl (fun Q140=>?_) (fun Q140=>?_)))))))))
  ·refine av (ab (gz (G:=Option Addr×Nat) [79,80,81,82,83,84,85,86,87,88,89,90,91,92,93,94,95,96,97,98,99,100,101,102,103,104,105,106,107] (fun (_,_)=>[]) (fun (A3,c3) w'=>Blk w' b 229 #[.slice (some ⟨gl,0,none⟩) n n,.int .i64 (K:Nat),.slice (some ⟨q,0,none⟩) n n,.slice A3 (stL n t (i+1)).length c3,.slice (some ⟨p,0,none⟩) K K]∧w'.ownsRow z 21 1 (.slice A3 (stL n t (i+1)).length c3) (stL n t (i+1)).length ((stL n t (i+1)).map fun x:Nat=>jV (x:Nat))∧Blk w' q 4 (rT n t 0)∧Blk w' p 21 (fA K fun _=>0)∧z≤w'.heap.size∧aj w w') ?_ ?_))
   ·refine aw (af (aa (mvp rfl (ae (ar rfl) (ae (ak dE rfl) (ae (an dZ rfl (by exact (hT.from_ aj.rfl_).rd 2 rfl)) ?_))))));refine mvi rfl (ae (aA cS rfl rfl (by omega)) (ae (an fM rfl (by exact C5 (hR.from_ aj.rfl_) (Nat.zero_le _) (by omega))) ?_));refine mvb rfl (bR (t:=86) rfl (fun Q141=>?_) (fun Q141=>?_))
    ·(try with_reducible first | (replace Q141 := dT_ Q141; trace "@MK N cw:c33-.c76+.g86+ 1.1") | (replace Q141 := dF_ Q141; trace "@MK N cw:c33-.c76+.g86+ 1.2") | (replace Q141 := fm Q141; trace "@MK N cw:c33-.c76+.g86+ 1.3") | (replace Q141 := fo Q141; trace "@MK N cw:c33-.c76+.g86+ 1.4"))
     (try with_reducible first | (replace Q141 := dT_ Q141; trace "@MK N cw:c33-.c76+.g86+ 2.1") | (replace Q141 := dF_ Q141; trace "@MK N cw:c33-.c76+.g86+ 2.2") | (replace Q141 := eH Q141; trace "@MK N cw:c33-.c76+.g86+ 2.3") | (replace Q141 := eI Q141; trace "@MK N cw:c33-.c76+.g86+ 2.4") | (replace Q141 := fX Q141; trace "@MK N cw:c33-.c76+.g86+ 2.5") | (replace Q141 := fY Q141; trace "@MK N cw:c33-.c76+.g86+ 2.6"))
     have hq85:rb n t i=true:=Q141;refine ao rfl (mvp rfl (ao rfl (ae (ar rfl) (ao rfl (ae (ak dE rfl) (ao rfl (ae (an dZ rfl (by exact (hT.from_ aj.rfl_).rd 2 rfl)) ?_)))))));refine ao rfl (mvi rfl (ao rfl (ae (bP (b:=1) rfl rfl (by omega)) (ao rfl (ae (aA cS rfl rfl (by omega)) (ao rfl (ae (an fM rfl (by exact C5 (hR.from_ aj.rfl_) (Nat.zero_le _) (by omega))) ?_)))))));refine ao rfl (ae (eQ rfl) (ae (bB (v:=.bool _) rfl rfl) (ah (ab (JT rfl (fun Q142=>?_) (fun Q142=>?_))))))
     ·have hq94:rb n t (i-1)=false:=by simpa using Q142
      refine aa (mvp rfl (mvp rfl (ae (ar rfl) (ae (ak cP rfl) (ae (an aR rfl (by exact (hT.from_ aj.rfl_).rd 3 rfl)) ?_)))));refine mvi rfl (ae (gH dP ij rfl (by omega)) (fy (v:=.int _ _) dz rfl rfl rfl ?_));intro b104 w143 E104 hb104 hk104;have hsl:=zh (n:=n) (t:=t) (i:=i);refine dB (base:=z) dz rfl (by decide) rfl (A:=A3) (xs:=(stL n t i).map fun x:Nat=>jV (x:Nat)) (news:=[jV (i:Nat)]) (ho.kept_from E104) (Nat.le_trans hzs E104.size) rfl rfl (fun _=>⟨b104,0,rfl,hk104.whole⟩) (fun h=>by cases h) (by simp [Value.oneCell']) (by omega) (by omega) ?_;intro A105 c105 w144 ho105 hg105;have HB105:aj w w144:=((hB.next E104)).grew hg105 (fun k hk=>Nat.le_trans hwz (cd ho k hk).1);have hoq:=ho.kept_from E104;have hT105:=(hT.from_ E104).grown hg105 (cY hoq (hT.from_ E104) (by decide));have hR105:=(hR.from_ E104).grown hg105 (cY hoq (hR.from_ E104) (by decide));have hE105:=(hE.from_ E104).grown hg105 (fun k hk=>by have:=(cd ho k hk).1;omega);have hzs105:=Nat.le_trans hzs (Nat.le_trans E104.size hg105.size);refine ae (ar rfl) (ae (ak cP rfl) (bH (v:=.slice _ _ _) jn rfl rfl rfl (hT105) (by show 3<5;decide) ?_));intro w145 O12 P12;have hst:=Fk (by omega) (by omega) hq85 hq94;have hT12:=P12;have ho12:=cf ho105 O12 (cY ho105 hT105 (by decide));have hR12:=hR105.only O12 (fW hR105 hT105 (by decide));have hE12:=hE105.only O12 (fW hE105 hT105 (by decide));have hzs12:z≤(w145).heap.size:=by rw [O12.size];exact hzs105
      refine ah (aI ?_);refine aO ((A105,c105)) trivial (by (iterate 30 refine aB rfl ?_);exact aJ) ?_;exact ⟨by rw [hst,List.length_append];exact hT12,by rw [hst,List.length_append,List.map_append];exact ho12,hR12,hE12,hzs12,(HB105.only O12 gb)⟩
     refine av (aI ?_);refine aO ((A3,c3)) trivial (by (iterate 19 refine aB rfl ?_);exact aJ) ?_;have hst:stL n t (i+1)=stL n t i:=Cp (by simp_all);exact ⟨by rw [hst];exact hT.from_ aj.rfl_,by rw [hst];exact ho.kept_from aj.rfl_,hR.from_ aj.rfl_,hE.from_ aj.rfl_,Nat.le_trans hzs (aj.rfl_).size,hB⟩
    (try with_reducible first | (replace Q141 := dT_ Q141; trace "@MK N cw:c33-.c76+.g86- 1.1") | (replace Q141 := dF_ Q141; trace "@MK N cw:c33-.c76+.g86- 1.2") | (replace Q141 := fm Q141; trace "@MK N cw:c33-.c76+.g86- 1.3") | (replace Q141 := fo Q141; trace "@MK N cw:c33-.c76+.g86- 1.4"))
    (try with_reducible first | (replace Q141 := dT_ Q141; trace "@MK N cw:c33-.c76+.g86- 2.1") | (replace Q141 := dF_ Q141; trace "@MK N cw:c33-.c76+.g86- 2.2") | (replace Q141 := eH Q141; trace "@MK N cw:c33-.c76+.g86- 2.3") | (replace Q141 := eI Q141; trace "@MK N cw:c33-.c76+.g86- 2.4") | (replace Q141 := fX Q141; trace "@MK N cw:c33-.c76+.g86- 2.5") | (replace Q141 := fY Q141; trace "@MK N cw:c33-.c76+.g86- 2.6"))
    refine aL rfl rfl (aL rfl rfl (aL rfl rfl (aL rfl rfl (aL rfl rfl (aL rfl rfl (aL rfl rfl (aL rfl rfl (aL rfl rfl ?_))))))));refine ae (bk (v:=.bool _) rfl rfl) (ah (ab (de rfl (av (aI ?_)))));refine aO ((A3,c3)) trivial (by (iterate 19 refine aB rfl ?_);exact aJ) ?_;have hst:stL n t (i+1)=stL n t i:=Cp (by simp_all);exact ⟨by rw [hst];exact hT.from_ aj.rfl_,by rw [hst];exact ho.kept_from aj.rfl_,hR.from_ aj.rfl_,hE.from_ aj.rfl_,Nat.le_trans hzs (aj.rfl_).size,hB⟩
   rintro ⟨A4,c4⟩ ρ146 w146 ⟨hT2,ho2,hR2,hE2,hzs2,hB⟩;refine aa (mvi rfl (ae (aG (b:=1) rfl rfl (by omega)) (asi rfl (ah ?_))));refine aO ((i+1,A4,c4)) ⟨(by first | rfl | (refine aK ?_;omega)),trivial⟩ (by (iterate 70 refine aB rfl ?_);exact aJ) ⟨?_,?_⟩
   ·exact ⟨by omega,by omega,hT2.from_ aj.rfl_,ho2.kept_from aj.rfl_,hR2.from_ aj.rfl_,hE2.from_ aj.rfl_,Nat.le_trans hzs2 (aj.rfl_).size,hB⟩
   ·show n-(i+1)<n-i;omega
  refine bc (aC (aC (aS (ab (af (af (aa (mvs rfl (ae (aQ ck rfl) (mvi rfl (ah (ab (aw (a_ (G:=Nat) [10,111,112,113,114,115,116,117,118,119,120,121,122,123] (fun k=>[(110,.int .i64 (k:Nat))]) (fun k w'=>k≤n∧Blk w' b 229 #[.slice (some ⟨gl,0,none⟩) n n,.int .i64 (K:Nat),.slice (some ⟨q,0,none⟩) n n,.slice A3 (stL n t n).length c3,.slice (some ⟨p,0,none⟩) K K]∧w'.ownsRow z 21 1 (.slice A3 (stL n t n).length c3) (stL n t n).length ((stL n t n).map fun x:Nat=>jV (x:Nat))∧Blk w' q 4 (rT n t 0)∧Blk w' p 21 (cT n K t k)∧aj w w') (fun k=>n-k) (0) ⟨rfl,trivial⟩ ?_ ?_))))))))))))))
  ·obtain rfl:i=n:=by omega
   exact ⟨Nat.zero_le _,hT.from_ aj.rfl_,ho.kept_from aj.rfl_,hR.from_ aj.rfl_,hE.from_ aj.rfl_,hB⟩
  rintro k ρ147 w147 ⟨hkn,hT,ho,hR,hE,hB⟩;refine af (aa (ae (aW rfl rfl) (ah (ab (af (JV rfl (fun Q148=>?_) (fun Q148=>?_)))))))
  ·refine av (ab (af (aw (af (aa (ae (aA aH rfl rfl (by omega)) (ae (an aZ rfl (by exact (hl.from_ hB).rdN (by omega))) ?_)))))));refine asi rfl (ah (ab (aa (mvp rfl (ae (ar rfl) (ae (ak eD rfl) (ae (an aR rfl (by exact (hT.from_ aj.rfl_).rd 4 rfl)) ?_)))))));refine mvi rfl (ae (aA aH rfl rfl (by exact hkt _ (by omega))) ?_);refine ae (an aZ rfl (by exact JW (hE.from_ aj.rfl_) (hkt _ (by omega)))) ?_;refine ae (gY (r:=((cnt k (fun i=>t i=t k)+1:Nat):Int)) rfl rfl (by omega) (by have:=fk k (fun i=>t i=t k);omega)) ?_;refine ae (aA aH rfl rfl (by exact hkt _ (by omega))) ?_;refine bH (v:=.int _ _) cJ rfl rfl rfl (hE) (by unfold cT;rw [fQ];exact hkt _ (by omega)) ?_;intro w149 O16 P16;have hT16:=hT.only O16 (fW hT hE (by decide));have ho16:=cf ho O16 (fun k hk=>by have:=(cd ho k hk).1;omega);have hR16:=hR.only O16 (fW hR hE (by decide));have hE16:=I3 P16;refine ah (aI (ab (aa (ae (aG (b:=1) rfl rfl (by omega)) (mvi rfl (ah ?_))))));refine aO (k+1) ⟨(by first | rfl | (refine aK ?_;omega)),trivial⟩ (by (iterate 30 refine aB rfl ?_);exact aJ) ⟨?_,?_⟩
   ·exact ⟨by omega,hT16.from_ aj.rfl_,ho16.kept_from aj.rfl_,hR16.from_ aj.rfl_,hE16.from_ aj.rfl_,(hB.only O16 (gp))⟩
   ·show n-(k+1)<n-k;omega
  refine bc (aC (aC (aS (ab (af (af (aa (asi rfl (ah (ab (aw (a_ (G:=Nat) [124,125,126,127,128,129,130,131,132,133,134,135,136,137,138,139,140,141,142,143,144,145] (fun c=>[(11,.int .i64 (c:Nat))]) (fun c w'=>1≤c∧Blk w' b 229 #[.slice (some ⟨gl,0,none⟩) n n,.int .i64 (K:Nat),.slice (some ⟨q,0,none⟩) n n,.slice A3 (stL n t n).length c3,.slice (some ⟨p,0,none⟩) K K]∧w'.ownsRow z 21 1 (.slice A3 (stL n t n).length c3) (stL n t n).length ((stL n t n).map fun x:Nat=>jV (x:Nat))∧Blk w' q 4 (rT n t 0)∧Blk w' p 21 (eT n K t c)∧aj w w') (fun c=>K-c) (1) ⟨rfl,trivial⟩ ?_ ?_))))))))))))
  ·obtain rfl:k=n:=by omega
   exact ⟨Nat.le_refl _,hT.from_ aj.rfl_,ho.kept_from aj.rfl_,hR.from_ aj.rfl_,by rw [←IS];exact hE.from_ aj.rfl_,hB⟩
  rintro c ρ150 w150 ⟨hc,hT,ho,hR,hE,hB⟩;refine af (af (aa (mvi rfl (mvi rfl (ae (aW rfl rfl) (ah (ab (JV rfl (fun Q151=>?_) (fun Q151=>?_)))))))))
  ·refine av (ab (af (aw ?_)));apply dN 17 [(129,eqp _),(130,eqp _),(131,eqp _),(132,eqp _),(133,eqp _),(134,eqp _),(135,eqp _),(136,eqp _),(137,eqp _),(138,eqp _),(139,eqp _),(140,eqp _),(141,eqp _),(142,eqp _),(143,eqp _),(144,eqp _),(145,eqp _)] (by kernel_rfl) (by kernel_rfl) ⟨ag _,ag _,ag _,ag _,ag _,ag _,ag _,ag _,ag _,ag _,ag _,ag _,ag _,ag _,ag _,ag _,ag _,trivial⟩
   case hop=>
    constructor
    ·intro w153 D153;exact ai (aq (v:=.pointer _) rfl) rfl
    constructor
    ·intro w154 D154;rintro _ rfl;exact ai (ar rfl) rfl
    constructor
    ·intro w155 D155;rintro _ rfl;exact ai (ak eD rfl) rfl
    constructor
    ·intro w156 D156;rintro _ rfl;exact ai (an aR rfl (by exact (hT.from_ (aj.rfl_.next D156)).rd 4 rfl)) rfl
    constructor
    ·intro w157 D157;exact ai (aq (v:=.int _ _) rfl) rfl
    constructor
    ·intro w158 D158;rintro _ rfl _ rfl;exact ai (aA aH rfl rfl (by omega)) rfl
    constructor
    ·intro w159 D159;rintro _ rfl;exact ai (an aZ rfl (by exact JO (hE.from_ (aj.rfl_.next D159)) (by omega) (by omega))) rfl
    constructor
    ·intro w160 D160;exact ai (aq (v:=.pointer _) rfl) rfl
    constructor
    ·intro w161 D161;rintro _ rfl;exact ai (ar rfl) rfl
    constructor
    ·intro w162 D162;rintro _ rfl;exact ai (ak eD rfl) rfl
    constructor
    ·intro w163 D163;rintro _ rfl;exact ai (an aR rfl (by exact (hT.from_ (aj.rfl_.next D163)).rd 4 rfl)) rfl
    constructor
    ·intro w164 D164;exact ai (aq (v:=.int _ _) rfl) rfl
    constructor
    ·intro w165 D165;rintro _ rfl;exact ai (bP (b:=1) rfl rfl (by omega)) rfl
    constructor
    ·intro w166 D166;rintro _ rfl _ rfl;exact ai (aA aH rfl rfl (by omega)) rfl
    constructor
    ·intro w167 D167;rintro _ rfl;exact ai (an aZ rfl (by exact JN (hE.from_ (aj.rfl_.next D167)) (by omega) (by omega))) rfl
    constructor
    ·intro w168 D168;rintro _ rfl _ rfl;exact ai (gY (r:=((less n t (c+1):Nat):Int)) rfl rfl (by have:=kD (n:=n) (t:=t) c;omega) (by have:=GA (n:=n) (t:=t) (c:=c+1);omega)) rfl
    constructor
    ·intro w169 D169;rintro _ rfl _ rfl;exact ai (aA aH rfl rfl (by omega)) rfl
    exact trivial
   case hend=>
    intro w170 D170;rintro _ rfl _ rfl _ rfl _ rfl _ rfl _ rfl _ rfl _ rfl _ rfl _ rfl _ rfl _ rfl _ rfl _ rfl _ rfl _ rfl _ rfl;show St ..;have hT21q:=hT.from_ D170;have ho21q:=ho.kept_from D170;have hR21q:=hR.from_ D170;have hE21q:=hE.from_ D170;refine bH (v:=.int _ _) cJ rfl rfl rfl (hE21q) (by unfold eT;rw [fQ];omega) ?_;intro w171 O21 P21;have hT21:=hT21q.only O21 (fW hT21q hE21q (by decide));have ho21:=cf ho21q O21 (fun k hk=>by have:=(cd ho21q k hk).1;omega);have hR21:=hR21q.only O21 (fW hR21q hE21q (by decide));have hE21:=IR P21;refine ah (aI (ab (aa (mvi rfl (ae (aG (b:=1) rfl rfl (by omega)) (asi rfl (ah ?_)))))));refine aO (c+1) ⟨(by first | rfl | (refine aK ?_;omega)),trivial⟩ (by (iterate 46 refine aB rfl ?_);exact aJ) ⟨?_,?_⟩
    ·exact ⟨by omega,hT21.from_ aj.rfl_,ho21.kept_from aj.rfl_,hR21.from_ aj.rfl_,hE21.from_ aj.rfl_,((hB.next D170).only O21 (gp))⟩
    ·show K-(c+1)<K-c;omega
  refine bc (aC (aC (aS (ab (af (aa (mvp rfl (asp rfl (ah (ab (ay (bE (v:=.pointer _) rfl rfl ?_))))))))))));rw [FW] at hR;rw [IT (by omega)] at hE;exact ⟨⟨b,(stL n t n).length,stF n t,rfl,⟨gl,q,A3,c3,p,hT.from_ aj.rfl_,hl.from_ hB,hR.from_ aj.rfl_,(fun h0=>(let ⟨g,e⟩:=dm ho h0;⟨g,e,by rw [e] at ho;exact (VJ.own (f:=fun k=>((stF n t k:Nat):Int)) (by rw [Fl,List.map_map];exact ho.kept_from aj.rfl_) h0).1⟩)),(VJ.of_blk hE).from_ aj.rfl_⟩,xC n t⟩,hB⟩
end Go.Proofs.YtcbakncjacnnjaaGreat
namespace Go.Proofs.YtcbakncjacnnjaaGreat
open Go.Proofs.Tryz (prog)
open Go.RowKit Go.Shelf
theorem AL {n:Nat} {P:Program} {row:String} {args:Array Value} {w:World} {R:Value→World→Prop} (h:Rows P row args w R):RowsIn Fence.wide n P row args w R:=fun c cs _=>
 let ⟨v,w',r,s⟩:=h c cs
 ⟨v,w',r,stepsIn_wide.2 s⟩
structure CdR (l:Nat) (P:Program) (c:Code) (Q:Exit→Act→World→Prop) (n:Fr) (L:List (Nat×Value)) (w:World):Prop where
 out:c.wpIn (Fence.wide.inRound l) 0 P Q (mkA n L) w
def pJ (ops:List Oper):Bool:=ops.all fun o=>match o.op with | .defer _=>false | _=>true
theorem vY {ops:List Oper} {o:Oper} (h:pJ ops=true) (ho:o∈ops):∀ c,o.op≠.defer c:=fun c e=>by
 have:=List.all_eq_true.1 h o ho;rw [e] at this;cases this
section
variable {l:Nat} {P:Program} {ops:Array Oper} {Q:Exit→Act→World→Prop}
theorem Hn {o:Oper} {a:Act} {w:World} {K:Act→World→Prop} (hd:∀ c,o.op≠.defer c) (hQ:¬ LetsOut Q) (h:o.wp P a w K Q∨(o.asks P a w∧LetsOut Q)):o.wpIn (Fence.wide.inRound l) 0 P a w K Q:=by
 refine ⟨fun _ _=>trivial,?_⟩;rcases h with h | ⟨_,h⟩
 ·unfold Oper.wp at h;rw [Fence.inRound_round,Oper.semAt_some _ _ _ hd]
  generalize (execOp a.eval o).run P w=r at h ⊢
  cases r with
  |ok x w'=>
   cases x <;> first
    |exact h
    |exact ⟨fun h=>absurd (show false=true from h) (by decide),(show CallsIn Fence.wide (0-1) P _ _ _ _ from callsIn_wide.2 h)⟩
    |exact ⟨fun h=>absurd (show false=true from h) (by decide),(show RowsIn Fence.wide (0-1) P _ _ _ _ from AL h)⟩
    |exact h.elim
  |halt o w'=>cases o <;> exact h
 ·exact absurd h hQ
theorem rZ (hd:pJ ops.toList=true) (hQ:¬ LetsOut Q):∀ (fuel:Nat) (listed:Array Bool) (a:Act) (w:World),wpAny P .any ops Q fuel listed a w→wpAnyIn (Fence.wide.inRound l) 0 P .any ops Q fuel listed a w
 |0,_,_,_,h=>h
 |fuel+1,listed,a,w,h=>⟨h.1,fun i hi=>by
  have h2:=h.2 i hi;unfold wpOp at h2;unfold wpOpIn;cases ho:ops[i]? with
  |none=>rw [ho] at h2;exact rZ hd hQ fuel _ _ _ h2
  |some o=>
   rw [ho] at h2;simp only at h2 ⊢;have hm:o∈ops.toList:=Array.mem_toList_iff.2 (Array.mem_of_getElem? ho);split at h2
   ·rename_i hw;rw [if_pos hw];exact Hn (vY hd hm) hQ (h2.imp (Oper.wp_mono fun a w=>rZ hd hQ fuel _ a w) id)
   ·rename_i hw;rw [if_neg hw];exact ⟨fun _ _=>trivial,rZ hd hQ fuel _ _ _ h2⟩⟩
theorem tV (hQ:¬ LetsOut Q):∀ {r:List Oper} {a:Act} {w:World},pJ r=true→wpList P ops Q r a w→wpListIn (Fence.wide.inRound l) 0 P ops Q r a w
 |[],_,_,_,h=>h
 |o::r,a,w,hd,h=>by
  have hd2:pJ r=true:=by
   unfold pJ at hd ⊢;rw [List.all_cons,Bool.and_eq_true] at hd;exact hd.2
  unfold wpList at h;unfold wpListIn;split at h
  ·rename_i hw;rw [if_pos hw];exact Hn (vY hd (List.mem_cons_self ..)) hQ (h.imp (Oper.wp_mono fun a w h=>tV hQ hd2 h) id)
  ·rename_i hw;rw [if_neg hw];exact ⟨fun _ _=>trivial,tV hQ hd2 h⟩
variable {n:Fr} {L:List (Nat×Value)} {w:World}
theorem uj {x y:Code} (h:CdR l P x (Exit.then (fun a w=>y.wpIn (Fence.wide.inRound l) 0 P Q a w) Q) n L w):CdR l P (.seq x y) Q n L w:=⟨wpIn_seq h.out⟩
theorem wJ {id:Nat} {c:Code} (h:CdR l P c (Exit.inBlock id Q) n L w):CdR l P (.block id c) Q n L w:=⟨wpIn_block h.out⟩
theorem qo {y:Code} (h:CdR l P y Q n L w):Exit.then (fun a w=>y.wpIn (Fence.wide.inRound l) 0 P Q a w) Q .normal (mkA n L) w:=h.out
theorem mG {id:Nat} {r:List Oper} (hd:pJ r=true) (hQ:¬ LetsOut Q) (h:St P r.toArray Q r n L w):CdR l P (.region id r.toArray false) Q n L w:=⟨wpIn_region_lit (tV hQ hd h.out)⟩
theorem wI {id:Nat} {r:List Oper} (K:Nat) (RL:List (Nat×(Value→World→Prop))) (hm:P.follows .mixedOrders=true) (hc:zD r K=true) (hmono:kN RL) (hd:pJ r=true) (hQ:¬ LetsOut Q)
 (hop:sq P r.toArray n L w (dX RL) (dW r K) (r.take K)) (hend:∀ w',aj w w'→gh (dX RL) w' (dW r K) fun M=>St P r.toArray Q (r.drop K) n (M++L) w'):CdR l P (.region id r.toArray true) Q n L w:=by
 have hKl:K≤r.length:=dT_ (Bool.and_eq_true_iff.1 hc).1
 have:=wb (Q:=Q) (w:=w) hc (dD hmono) hop hend r.length (Array.replicate r.length false) L { w with drawn:=w.drawn+1 } (by simp) (by simp)
  (fun j _ hj=>by simp [Array.getD,hj]) (aj.rfl_.d1) (fun _ _=>rfl) (fun i o d hi _ hl=>by
   have:i<r.length:=by omega
   simp [Array.getD,this] at hl)
 exact ⟨wpIn_region_any hm (rZ (by simpa using hd) hQ _ _ _ _ (by simpa using this))⟩
end
def J8 (I:World→Prop):Exit→Act→World→Prop
 | .normal,_,W=>I W
 |_,_,_=>False
def cX (W W':World):Prop:=∀ (q:Nat) (o:Obj),W.heap[q]? =some o→o.isCells=false→W'.heap[q]? =some o
theorem cX.trans {W W1 W2:World} (h:cX W W1) (k:cX W1 W2):cX W W2:=fun q o hq ho=>k q o (h q o hq ho) ho
theorem cX.from_ {W W':World} (h:aj W W'):cX W W':=fun q o hq _=>by
 rw [h.block q (Array.getElem?_eq_some_iff.1 hq).1];exact hq
theorem cX.only {W W':World} {g t:Nat} {cs:Array Value} (h:cH g W W') (hb:Blk W g t cs):cX W W':=fun q o hq ho=>by
 rw [h.block q (fun e=>by
  subst e;unfold Blk at hb;rw [hb] at hq;cases hq;cases ho)]
 exact hq
theorem d_ {W:World} {q:Nat} {o:Obj}:cH q W (W.putObj q o):=⟨rfl,rfl,rfl,by simp,fun k hk=>World.putObj_heap_other (fun e=>hk (by rw [e]))⟩
theorem bw {W:World} {g t q:Nat} {cs:Array Value} {o:Obj} (hb:Blk W g t cs) (hq:W.heap[q]? =some o) (ho:o.isCells=false):g≠q:=fun e=>by
 subst e;unfold Blk at hb;rw [hb] at hq;cases hq;cases ho
structure EW (P:Program) (gf:Nat) (lb:Array Value) (u v:Nat→Value) (N:Nat) (Rd:World→Prop):Prop where
 out:∀ (l:Nat) (J:Nat→World→Prop) (W:World),(∀ k W',J k W'→Rd W')→(∀ k W1,k<N→J k W1→YieldAt Fence.wide 0 P l #[u k,v k] W1 fun e W'=>e=.returned (.bool true)∧J (k+1) W')→J 0 W→
  CallsIn Fence.wide 1 P gf (#[.func (.yield l) #[] #[]]++lb) W fun e W'=>(∃ v,e=.returned v)∧J N W'
theorem BP {P:Program} {Q:Exit→Act→World→Prop} {n:Fr} {L:List (Nat×Value)} {w:World} {g:Operand} {p1 p2:Nat} {assign body:Code} {gf:Nat} {lb:Array Value} {u v:Nat→Value} {N:Nat} {Rd:World→Prop}
 (hg:ev n L g=.func (.func gf) #[] lb) (he:∀ args w,(callFunc gf args).run P w=.ok (.enter gf args) w) (hit:EW P gf lb u v N Rd) (I:Nat→World→Prop) (LB:Nat→List (Nat×Value)) (hRd:∀ k W,I k W→Rd W)
 (hF:∀ k W W',I k W→aj W W'→I k W') (hO:∀ k W W' q o,W.heap[q]? =some o→o.isCells=false→cH q W W'→w.heap.size≤q→I k W→I k W') (h0:I 0 w)
 (ha:∀ (l k:Nat) (W:World) (K:Act→World→Prop),K (mkA ⟨n.n,[]⟩ (LB k)) W→CdR l P assign (Exit.then K fun _ _ _=>False) ⟨n.n,[]⟩ ((p2,v k)::(p1,u k)::L) W)
 (hb:∀ (l k:Nat) (W:World),k<N→I k W→CdR l P body (J8 fun W'=>I (k+1) W'∧cX W W') ⟨n.n,[]⟩ (LB k) W)
 (hd:∀ (D:Nat) (W:World),w.heap.size≤D→I N W→W.heap[D]? =some (.deferred (some []))→Q .normal (mkA ⟨n.n,{ target:=.collected D,args:=#[] }::n.ds⟩ L) W) :
 Cd P (.rangeFunc g #[p1,p2] assign body) Q n L w:=by
 refine ⟨(wpIn_wide (n:=2)).1 (wpIn_rangeFunc fun fn _=>?_)⟩;obtain ⟨rec,hrec⟩:∃ rec:LoopState→Option Code→Loop,rec=fun st pe=>{ state:=st,pending:=pe,fn,tmps:=mkT n.n L,params:=#[p1,p2],assign,body,defers:=w.heap.size }:=⟨_,rfl⟩
 obtain ⟨D,hD⟩:∃ D,D=w.heap.size:=⟨_,rfl⟩;obtain ⟨W1,hW1⟩:∃ W1,(w.alloc (.deferred (some []))).alloc (.loop (rec .ready none))=W1:=⟨_,rfl⟩
 have hL1:W1.heap[D+1]? =some (.loop (rec .ready none)):=by
  rw [←hW1,hD];have:=World.alloc_heap_new (w.alloc (.deferred (some []))) (.loop (rec .ready none))
  rwa [World.size_alloc] at this
 have hK1:W1.heap[D]? =some (.deferred (some [])):=by
  rw [←hW1,hD];exact (Below.heap_alloc _ _ _ (by simp)).trans (World.alloc_heap_new w _)
 have hI1:I 0 W1:=hF 0 w W1 h0 (by rw [←hW1];exact (aj.rfl_.new _).next (aj.rfl_.new _));refine ⟨D+1,[{ target:=.collected D,args:=#[] }],W1,{ target:=.fn (.func gf) lb,args:=#[.func (.yield (D+1)) #[] #[]] },W1,gf,#[.func (.yield (D+1)) #[] #[]]++lb,W1,?_,?_,fun _ _=>trivial,?_,(fun h=>by cases h),?_⟩
 ·rw [←hW1,hrec,hD];exact run_enterLoop_outer _ _ _ _ _
 ·simp only [resolve,bU,hg];simp [go_sem,ev]
 ·simp [invoke,go_sem,he]
 ·refine (hit.out (D+1) (fun k W=>I k W∧W.heap[D+1]? =some (.loop (rec .ready none))∧W.heap[D]? =some (.deferred (some []))) W1 (fun k W' h=>hRd k W' h.1) ?_ ⟨hI1,hL1,hK1⟩).mono ?_
  ·rintro k W hk ⟨hi,hl,hdf⟩;have hlt:D+1<W.heap.size:=(Array.getElem?_eq_some_iff.1 hl).1;have hy:=run_yield (P:=P) (args:=#[u k,v k]) hl (by rw [hrec];rfl);rw [hrec] at hy;refine ⟨fn,_,assign,body,hy,roundIn_of_wpIn trivial ?_⟩;obtain ⟨W2,hW2⟩:∃ W2,W.putObj (D+1) (.loop { rec .ready none with state:=.busy })=W2:=⟨_,rfl⟩;have hO2:cH (D+1) W W2:=by rw [←hW2];exact d_
   have hl2:W2.heap[D+1]? =some (.loop { rec .ready none with state:=.busy }):=by rw [←hW2];exact World.putObj_heap_same hlt
   have hd2:W2.heap[D]? =some (.deferred (some [])):=by rw [hO2.block D (by omega)];exact hdf
   have hi2:I k W2:=hO k W W2 (D+1) _ hl rfl hO2 (by omega) hi;have key:=(ha (D+1) k W (fun a₁ w₁=>∃ w₂,(Instr.beginRound (D+1)).run P w₁=.ok () w₂∧body.wpIn (Fence.wide.inRound (D+1)) 0 P (roundPost P (D+1) fun e W'=>e=.returned (.bool true)∧I (k+1) W'∧W'.heap[D+1]? =some (.loop (rec .ready none))∧W'.heap[D]? =some (.deferred (some []))) a₁ w₂) ⟨W2,?_,?_⟩).out
   ·have e:({ tmps:=(Array.foldl (fun tmps (x:Tmp×Value)=>tmps.setIfInBounds x.1 x.2) (mkT n.n L) (#[p1,p2].zip #[u k,v k])),defers:=[] }:Act)=mkA ⟨n.n,[]⟩ ((p2,v k)::(p1,u k)::L):=by
     have e1:=dY ⟨n.n,[]⟩ L p1 (u k);have e2:=dY ⟨n.n,[]⟩ ((p1,u k)::L) p2 (v k);rw [←e2,←e1];simp [mkA,Act.put]
    rw [←e] at key;exact key
   ·rw [←hW2];exact run_beginRound hl (by rw [hrec])
   ·refine wpIn_mono (hb (D+1) k W2 hk hi2).out fun e a3 W3 hp=>?_
    cases e <;> first | exact hp.elim | skip
    obtain ⟨hi3,hk3⟩:=hp;have hl3:=hk3 _ _ hl2 rfl;have hd3:=hk3 _ _ hd2 rfl;have hlt3:=(Array.getElem?_eq_some_iff.1 hl3).1;have hr:=run_endRound (P:=P) none hl3;refine ⟨_,_,hr,rfl,hO _ W3 _ (D+1) _ hl3 rfl d_ (by omega) hi3,?_,?_⟩
    ·rw [World.putObj_heap_same hlt3,hrec];rfl
    ·rw [World.putObj_heap_other (by omega)];exact hd3
  ·rintro e W2 ⟨⟨x,rfl⟩,hi,hl,hdf⟩;refine ⟨none,_,by have:=run_endLoop (P:=P) hl (by rw [hrec];simp);rw [hrec] at this;exact this,?_⟩;exact hd D _ (by omega) (hO _ W2 _ (D+1) _ hl rfl d_ (by omega) hi) ((World.putObj_heap_other (by omega)).trans hdf)
def wM (P:Program) (fn:Func) (R:Ending→World→Prop):Exit→Act→World→Prop
 | .normal,a,w | .ret,a,w=>LeavesInM Fence.wide 2 P fn a.tmps R a.defers .returning w
 |_,_,_=>False
theorem vM {P:Program} {fn:Func} {R:Ending→World→Prop}:PQ (wM P fn R):=⟨fun _ _ _ _ _ h=>h⟩
theorem Eg {P:Program} {f:FuncId} {fn:Func} {c:Code} {l:List Value} {w:World} {R:Value→World→Prop} {n:Nat} (hf:P.funcs[f]? =some fn) (hb:fn.body=some c) (hn:fn.ntmps=n) (hl:Nat.ble l.length n=true)
 (h:Cd P c (wM P fn fun e w'=>∃ v,e=.returned v∧R v w') ⟨n,[]⟩ (rY 0 l) w):Rt P f l w R:=by
 refine (callsIn_wide (n:=2)).1 (callsIn_of_wp_marks hf hb trivial (wpIn_wide.2 ?_));rw [hn,wQ n l (Nat.le_of_ble_eq_true hl)]
 exact wp_mono h.out fun e a w q=>by
  cases e <;> first | exact q | exact q.elim
theorem Kj {P:Program} {fn:Func} {m D:Nat} {L:List (Nat×Value)} {w:World} {t:Nat} {R:Value→World→Prop} {v:Value} (hr:fn.results=#[.tmp t]) (hv:ev ⟨m,[{ target:=.collected D,args:=#[] }]⟩ L (.tmp t)=v) (hD:w.heap[D]? =some (.deferred (some []))) (h:∀ w',cH D w w'→R v w') :
 wM P fn (fun e w'=>∃ v,e=.returned v∧R v w') .ret (mkA ⟨m,[{ target:=.collected D,args:=#[] }]⟩ L) w:=by
 refine ⟨by simp,.inl ⟨D,_,rfl,run_takeDeferred hD,?_⟩⟩;refine ⟨_,results_tmp hr _ _ _,v,?_,h _ d_⟩;rw [←hv];exact congrArg Ending.returned (hZ m L t)
end Go.Proofs.YtcbakncjacnnjaaGreat
namespace Go.Proofs.YtcbakncjacnnjaaGreat
open Go.Proofs.Tryz (prog)
open Go.RowKit Go.Shelf
attribute [local go_sem] Oper.semAt_some
def EX (Bs b o m c:Nat) (f:Nat→Int) (W:World):Prop:=W.cell? ⟨Bs,0,none⟩=some (.slice (some ⟨b,o,none⟩) m c)∧∀ j,j<m→W.cell? ⟨b,o+j,none⟩=some (.int .i32 (f j))
theorem BR (Bs b o m c:Nat) (f:Nat→Int) (hm:m≤1000000) :
 EW prog 204 #[.pointer (some ⟨Bs,0,none⟩)] (fun k=>.int .i64 ((m-1-k:Nat):Int)) (fun k=>.int .i32 (f (m-1-k))) m (EX Bs b o m c f):=by
 refine ⟨fun l J W hRd hY h0=>?_⟩;refine callsIn_of_wp Tryz.func204 rfl trivial ?_ rfl;simp only [Tryz.ntmps204,List.size_toArray,List.length_cons,List.length_nil,Nat.reduceAdd,Nat.reduceSub,Array.replicate_succ,Array.replicate_zero,List.push_toArray,List.append_toArray,List.nil_append,List.cons_append];have hBs:=(hRd 0 W h0).1
 gi_wp2
 gi_loopw [3] (fun i wr=>∃ k:Nat,k≤m∧i=.int .i64 ((m:Int)-1-k)∧J k wr) (fun i _=>(intOf i+1).toNat)
 case atStart=>exact ⟨0,Nat.zero_le _,by simp,h0⟩
 case round=>
  obtain ⟨k,hk,rfl,hJ⟩:=hrel;by_cases hlt:k<m
  ·obtain ⟨i,e1,e2,him⟩:∃ i:Nat,((m:Int)-1-k)=(i:Int)∧m-1-k=i∧i<m:=⟨m-1-k,by omega,rfl,by omega⟩;have hy:=hY k wr hlt hJ;simp only [e2] at hy;obtain ⟨fn,tmps,assign,body,hy,hR⟩:=hy;have hBk:=(hRd k wr hJ).1;have hck:=(hRd k wr hJ).2 i him;clear e2;rw [e1]
   gi_wp2
   refine hR.mono ?_;rintro e W3 ⟨rfl,hJ3⟩
   gi_wp2
   go_roundw
   case rel=>exact ⟨k+1,by omega,by congr 1;omega,hJ3⟩
   case measure=>simp [intOf]
  ·obtain rfl:k=m:=by omega
   have e1:((k:Int)-1-k)=-1:=by omega
   rw [e1]
   gi_wp2
   go_end0
   exact ⟨⟨_,rfl⟩,hJ⟩
end Go.Proofs.YtcbakncjacnnjaaGreat
namespace Go.Proofs.YtcbakncjacnnjaaGreat
open Go.Proofs.Tryz (prog)
open Go.RowKit
open Go.ChangeShapes Go.WideShapes Go.ChangeAt
open Go.Proofs.YtcbakncjacnnjaaGreat.SA
theorem VJ.aside {W W':World} {g K q:Nat} {f:Nat→Int} {o:Obj} (h:VJ W g K f) (hq:W.heap[q]? =some o) (ho:o.isCells=false) (hO:cH q W W'):VJ W' g K f:=by
 obtain ⟨cur,h1,h2⟩:=h;exact ⟨cur,h1.only hO (bw h1 hq ho),h2⟩
theorem VJ.ne {W:World} {g K g2 t:Nat} {f:Nat→Int} {cs:Array Value} (h:VJ W g K f) (hb:Blk W g2 t cs) (ht:t≠21):g2≠g:=by
 obtain ⟨cur,h1,_⟩:=h;exact fW hb h1 ht
theorem VJ.copied {W:World} {g K:Nat} {f:Nat→Int} {cur:List Value} (h:Blk W g 21 (dp cur 0 ((List.range K).map fun i=>jV (f i))).toArray) (_:K≤cur.length):VJ W g K f:=by
 refine ⟨_,h,by rw [List.size_toArray];unfold dp;simp,fun i hi=>?_⟩;rw [List.getElem?_toArray];unfold dp;simp [List.getElem?_append,hi]
structure Cst (w:World) (b b2 b5 b7 g5 g7 n K c7:Nat) (W:World):Prop where
 h2:Blk W b2 201 #[.pointer (some ⟨b,0,none⟩)]
 h5:Blk W b5 137 #[.slice (some ⟨g5,0,none⟩) n n]
 h7:Blk W b7 137 #[.slice (some ⟨g7,0,none⟩) K c7]
 lo:w.heap.size≤g5∧g5<g7
 hF:aj w W
section
variable {w W W':World} {b b2 b5 b7 g5 g7 n K c7 q:Nat}
theorem Cst.from_ (h:Cst w b b2 b5 b7 g5 g7 n K c7 W) (hF:aj W W'):Cst w b b2 b5 b7 g5 g7 n K c7 W':=⟨h.h2.from_ hF,h.h5.from_ hF,h.h7.from_ hF,h.lo,h.hF.next hF⟩
theorem Cst.only {m:Nat} {f:Nat→Int} (h:Cst w b b2 b5 b7 g5 g7 n K c7 W) (hv:VJ W q m f) (hO:cH q W W') (hq:w.heap.size≤q):Cst w b b2 b5 b7 g5 g7 n K c7 W':=
 ⟨h.h2.only hO (hv.ne h.h2 (by decide)),h.h5.only hO (hv.ne h.h5 (by decide)),h.h7.only hO (hv.ne h.h7 (by decide)),h.lo,h.hF.only hO hq⟩
theorem Cst.aside {o:Obj} (h:Cst w b b2 b5 b7 g5 g7 n K c7 W) (hq:W.heap[q]? =some o) (ho:o.isCells=false) (hO:cH q W W') (hw:w.heap.size≤q):Cst w b b2 b5 b7 g5 g7 n K c7 W':=
 ⟨h.h2.only hO (bw h.h2 hq ho),h.h5.only hO (bw h.h5 hq ho),h.h7.only hO (bw h.h7 hq ho),h.lo,h.hF.only hO hw⟩
end
theorem Dr {P:Program} {ops:Array Oper} {fr:Fr} {L:List (Nat×Value)} {w:World} {ty:TypeId} {pos:String} {after:Array Edge} {dst:Option Nat} {x s:Operand} {post:Value→World→Prop} {dT sT e size g o m c j c2:Nat} {A A2:Option Addr} {u:TypeId} {cur news:List Value} (ht:cN P dT=some (e,size)) (hd:ev fr L x=.slice A m c) (hs:ev fr L s=.slice A2 j c2) (hn:news.length=min j m*size)
 (hA:0<news.length→A=some ⟨g,o,none⟩) (hsrc:0<news.length→∃ b o,A2=some ⟨b,o,none⟩∧w.rangeAt b o news) (hb:Blk w g u cur.toArray) (hfit:o+news.length≤cur.length) (h1:∀ v∈news,v.oneCell'=true)
 (k:∀ w',cH g w w'→Blk w' g u (dp cur o news).toArray→post (.int .i64 (min j m:Nat)) w') :
 mM P ops fr L ⟨dst,.call { callee:=.builtin .copy,args:=#[x,s],argTypes:=#[dT,sT] },ty,pos,after,none⟩ w post:=
 let ⟨w',hr,ho,hb'⟩:=qV (sT:=sT) ht hd hs hn hA hsrc hb hfit h1
 Hp hr (k w' ho hb')
section
variable {n:Nat} {t idx:Nat→Nat}
theorem Bo (h:Txt n t) (ho:Ord n t idx) {r i:Nat} {xs hs:Nat→Int} (hI:ov n t idx r xs hs) (hr:r<n) (hx:xs r=((i+1:Nat):Int)) (hb:rb n t i=false) :
 hs (t i)=(pos n t idx i:Nat)∧ov n t idx (r+1) (upd xs (pos n t idx i) i) (upd hs (t i) ((pos n t idx i+1:Nat):Int))∧i<n∧pos n t idx i<n:=by
 rcases tX h hI hr with ⟨j,hj,hp,e⟩ | ⟨e,_⟩
 ·obtain rfl:j=i+1:=by omega
  have hi:i<n:=by have:=hj.1;omega
  obtain ⟨a,b⟩:=DM h ho hI hi (qY.1 hb) hp;refine ⟨a,?_,hi,jF hi⟩;rw [a] at b;exact b
 ·omega
theorem zL (h:Txt n t) (ho:Ord n t idx) {r:Nat} {xs hs:Nat→Int} (hI:ov n t idx r xs hs) (hr:r<n) (hx:∀ i:Nat,xs r=((i+1:Nat):Int)→rb n t i=true):ov n t idx (r+1) xs hs:=by
 refine Bp hI fun i hi hf hp=>?_
 rcases tX h hI hr with ⟨j,hj,hp2,e⟩ | ⟨_,hno⟩
 ·obtain rfl:=tO h ho hj (et h hi hf) (by rw [hp2,hp]);exact hf (lU.1 (hx i e))
 ·exact hno _ (et h hi hf) hp
theorem GI (h:Txt n t) {r:Nat} {xs hs:Nat→Int} (hI:ov n t idx r xs hs) (hr:r<n):-1≤xs r∧xs r<n:=by
 rcases tX h hI hr with ⟨j,hj,_,e⟩ | ⟨e,_⟩
 ·have:=hj.1;omega
 ·omega
theorem Bm (h:Txt n t) (ho:Ord n t idx) {r i:Nat} {xs ts:Nat→Int} (hI:ou n t idx (r+1) xs ts) (hr:r<n) (hx:xs r=((i+1:Nat):Int)) (hb:rb n t i=true) :
 ts (t i)-1=(pos n t idx i:Nat)∧ou n t idx r (upd xs (pos n t idx i) i) (upd ts (t i) ((pos n t idx i:Nat):Int))∧i<n∧pos n t idx i<n:=by
 obtain ⟨j,hj,hp,e⟩:=tW h ho hI hr;obtain rfl:j=i+1:=by omega
 obtain ⟨a,b⟩:=DK h ho hI hj (lU.1 hb) hp;refine ⟨a,?_,by omega,jF (by omega)⟩;rw [a] at b;exact b
theorem zK (h:Txt n t) (ho:Ord n t idx) {r:Nat} {xs ts:Nat→Int} (hI:ou n t idx (r+1) xs ts) (hr:r<n) (hx:∀ i:Nat,xs r=((i+1:Nat):Int)→rb n t i=false):ou n t idx r xs ts:=by
 refine Bn hI fun i hi hz hp=>?_
 obtain ⟨j,hj,hp2,e⟩:=tW h ho hI hr;obtain rfl:=je h ho hj hi (by rw [hp2,hp]);exact qY.1 (hx i e) hz
theorem GH (h:Txt n t) (ho:Ord n t idx) {r:Nat} {xs ts:Nat→Int} (hI:ou n t idx (r+1) xs ts) (hr:r<n):0≤xs r∧xs r<n:=by
 obtain ⟨j,hj,_,e⟩:=tW h ho hI hr;omega
theorem Bq (h:Txt n t) (ho:Ord n t idx) {q s:Nat} {xs ts:Nat→Int} (hI:y5 n t idx (q+1) xs ts) (hs:lms n t s) (hq:idx s=q) :
 ts (t s)-1=(jG n t idx s:Nat)∧y5 n t idx q (upd xs (jG n t idx s) s) (upd ts (t s) ((jG n t idx s:Nat):Int)):=by
 obtain ⟨a,b⟩:=DN h ho hI hs hq;refine ⟨a,?_⟩;rw [a] at b;exact b
end
theorem wO (A:Option Addr) (m c:Nat) (w:World) :
 Rt prog 186 [.slice A m c] w (fun v w'=>(∃ Bs,v=.func (.func 204) #[] #[.pointer (some ⟨Bs,0,none⟩)]∧w.heap.size≤Bs∧Blk w' Bs 137 #[.slice A m c])∧aj w w'):=by
 refine enter (n:=4) Tryz.func186 rfl rfl rfl (af (aa (cK (v:=.slice _ _ _) rfl ?_)));intro b1 w1 E1 hb1 hk1;refine ae (bY (v:=_) rfl) (ah (ab (af (aa (ae (gG (l1:=[]) (l2:=[.tmp 1])) (ae (bY (v:=_) rfl) (ah (ab (ay (bE (v:=.func _ _ _) rfl rfl (⟨⟨b1,rfl,Nat.le_of_eq hb1.symm,hk1⟩,(aj.rfl_.next E1)⟩)))))))))))
end Go.Proofs.YtcbakncjacnnjaaGreat
namespace Go.Proofs.YtcbakncjacnnjaaGreat
open Go.Proofs.Tryz (prog)
open Go.RowKit
open Go.ChangeShapes Go.WideShapes Go.ChangeAt
open Go.Proofs.YtcbakncjacnnjaaGreat.SA
theorem cA:fp prog 201=some false:=by kernel_rfl
theorem cE:cG prog 229 0=some 0:=by kernel_rfl
theorem me:lN prog 137=some (.slice none 0 0):=by kernel_rfl
theorem r8:az prog 185=true:=by kernel_rfl
theorem r7:az prog 186=true:=by kernel_rfl
theorem r6:az prog 187=true:=by kernel_rfl
theorem cz (b n K m0:Nat) (t ss:Nat→Nat) (w:World) (hT:iJ w b n K t m0 ss) (h2n:2≤n) (ht:Txt n t) (hkt:∀ i,i<n→t i<K) (hn:n≤200000) (hK:K≤200000) (bo oo m co:Nat) (od idx:Nat→Nat) (hod:∀ q,q<m→w.cell? ⟨bo,oo+q,none⟩=some (.int .i32 ((od q:Nat):Int))) (hos:∀ q,q<m→lms n t (od q)∧idx (od q)=q) (hall:∀ s,lms n t s→idx s<m) (hord:Ord n t idx) (hm:m≤200000) :
 Rt prog 165 [.pointer (some ⟨b,0,none⟩),.slice (some ⟨bo,oo,none⟩) m co] w (fun v w'=>(∃ g xs,v=.slice (some ⟨g,0,none⟩) n n∧w.heap.size≤g∧VJ w' g n xs∧∀ i,i<n→xs (pos n t idx i)=i)∧aj w w'):=by
 have hT0:=hT;obtain ⟨gl,gr,AS,cs,ge,hb,hl,hr,hss,he⟩:=hT;have hK0:0<K:=Nat.lt_of_le_of_lt (Nat.zero_le _) (hkt 0 (by omega));refine Eg (n:=169) Tryz.func165 rfl rfl rfl (af (aa (cK (v:=.pointer _) rfl ?_)));intro b2 w1 E2 hb2 hk2;refine ass rfl (ah (ab (af (aa (ae (an cA rfl (by exact (hk2.from_ aj.rfl_).rd 0 rfl)) ?_)))));refine ae (ar rfl) (ae (ak cE rfl) (ae (an aR rfl (by exact bx (aj.rfl_.next E2) (hb.rd 0 rfl))) ?_));refine ae (aQ ck rfl) (gi eO rfl rfl rfl (by omega) (by omega) ?_);intro b20 w2 E20 hb20 hk20;have hg20:w.heap.size≤b20:=by rw [hb20];exact ((aj.rfl_.next E2)).size
 refine dI me ?_;intro b5 w3 E5 hb5 hk5;refine bH (v:=.slice _ _ _) jn rfl rfl rfl (hk5) (by show 0<1;decide) ?_;intro w4 O1 P1;have hx1:VJ w4 b20 n (fun _=>0):=(VJ.of_blk (by rw [←iy];exact hk20.from_ E5)).only O1 (by have:=hk20.lt;omega);have h2_1:=((hk2.from_ E20).from_ E5).only O1 (by have:=(hk2.from_ E20).lt;omega);refine ah (ab (af (af (aa (ae (an aR rfl (by exact (P1).rd 0 rfl)) ?_)))));refine ae (aQ ck rfl) (mvi rfl (ah (ab (aw (a_ (G:=Nat×(Nat→Int)) [6,24,25,26,27,28,29] (fun (k,_)=>[(23,.int .i64 (k:Nat))]) (fun (k,xs) w'=>k≤n∧(∀ i,i<k→xs i=-1)∧VJ w' b20 n xs∧Blk w' b2 201 #[.pointer (some ⟨b,0,none⟩)]∧Blk w' b5 137 #[.slice (some ⟨b20,0,none⟩) n n]∧aj w w') (fun (k,_)=>n-k) ((0,fun _=>0)) ⟨rfl,trivial⟩ ?_ ?_)))))
 ·exact ⟨Nat.zero_le _,fun i h=>absurd h (by omega),hx1,h2_1,P1,((((aj.rfl_.next E2).next E20).next E5).only O1 ((by rw [hb5];exact Nat.le_trans (Nat.le_trans hg20 (Nat.le_of_lt hk20.lt)) (Nat.le_refl _))))⟩
 rintro ⟨k,xs⟩ ρ5 w5 ⟨hk,hx0,hxs,h2b,h5b,hB⟩;refine af (aa (ae (aW rfl rfl) (ah (ab (af (JV rfl (fun Q6=>?_) (fun Q6=>?_)))))))
 ·have hkn:k<n:=by omega
  obtain ⟨cu,hcu,hsz,hce⟩:=id hxs;refine av (ab (af (aw (af (aa (mvi rfl (asi rfl (ah (ab (aa (ae (an aR rfl (by exact h5b.rd 0 rfl)) ?_)))))))))));refine mvi rfl (ae (aA aH rfl rfl (by omega)) (bH (v:=.int _ _) cJ rfl rfl rfl (hcu) (by omega) ?_));intro w7 O5 P5;have hxs5:=VJ.put P5 hsz hce hkn;have h2_5:=h2b.only O5 (hxs.ne h2b (by decide));have h5_5:=h5b.only O5 (hxs.ne h5b (by decide));refine ah (aI (ab (aa (ae (aG (b:=1) rfl rfl (by omega)) (mvi rfl (ah ?_))))));refine aO ((k+1,upd xs k (-1))) ⟨(by first | rfl | (refine aK ?_;omega)),trivial⟩ (by (iterate 16 refine aB rfl ?_);exact aJ) ⟨?_,?_⟩
  ·refine ⟨by omega,fun i hi=>?_,hxs5,h2_5,h5_5,(hB.only O5 (hg20))⟩;unfold upd;split
   ·rfl
   ·exact hx0 i (by omega)
  ·show n-(k+1)<n-k;omega
 refine bc (aC (aC (aS (ab (af (aa (ae (an cA rfl (by exact (h2b.from_ aj.rfl_).rd 0 rfl)) ?_)))))));refine ae (ar rfl) (ae (ak eD rfl) (ae (an aR rfl (by exact bx hB (hb.rd 4 rfl))) ?_));refine aF r8 (Ew ge K _ _ (he.from_ hB) hK0 (by omega)) ?_;rintro v34 w8 ⟨⟨g34,c34,rfl,hg34,htl⟩,E34⟩;refine dI me ?_;intro b7 w9 E7 hb7 hk7;refine bH (v:=.slice _ _ _) jn rfl rfl rfl (hk7) (by show 0<1;decide) ?_;intro w10 O7 P7;obtain rfl:n=k:=by omega
 have hxk:VJ _ b20 n (fun _=>-1):=VJ.congr hxs fun i hi=>hx0 i hi
 have hxa:=(hxk.from_ E34).from_ E7;have hta:=htl.from_ E7;have hx7:=hxa.only O7 (Ne.symm (hxa.ne hk7 (by decide)));have ht7:=hta.only O7 (Ne.symm (hta.ne hk7 (by decide)));have h2_7:=((h2b.from_ E34).from_ E7).only O7 (fW ((h2b.from_ E34).from_ E7) hk7 (by decide));have h5_7:=((h5b.from_ E34).from_ E7).only O7 (by have:=(h5b.from_ E34).lt;omega);have hg34b:b20<g34:=Nat.lt_of_lt_of_le hxs.lt hg34;refine ah (ab (af (af (aa (mvs rfl (aF r7 (wO _ _ _ _) ?_))))));rintro v36 w11 ⟨⟨Bs,rfl,hgs,hbs⟩,E36⟩;have hB36:aj w w11:=((((hB.next E34).next E7).only O7 ((by rw [hb7];exact Nat.le_trans hB.size E34.size))).next E36);refine ah (ab (aw ?_));apply BP (u:=fun k=>.int .i64 ((m-1-k:Nat):Int)) (v:=fun k=>.int .i32 ((od (m-1-k):Nat):Int)) (N:=m) (Rd:=EX Bs bo oo m co (fun q=>((od q:Nat):Int))) rfl (enters_of Tryz.func204 (by kernel_rfl) rfl) (BR Bs bo oo m co (fun q=>((od q:Nat):Int)) (by omega)) (fun k W=>∃ xs ts,y5 n t idx (m-k) xs ts∧VJ W b20 n xs∧VJ W g34 K ts∧Cst w b b2 b5 b7 b20 g34 n K c34 W∧Blk W Bs 137 #[.slice (some ⟨bo,oo,none⟩) m co])
 case ha=>
  intro l k W K hK;refine mG rfl (fun ⟨_,_,h⟩=>h) ?_;refine ae (bY (v:=_) rfl) (ah hK)
 case hRd=>
  rintro k W ⟨xs,ts,hi1,hxs,hts,hc,hbs⟩;exact ⟨hbs.rd 0 rfl,fun j hj=>bx hc.hF (hod j hj)⟩
 case hF=>
  rintro k W W' ⟨xs,ts,hi1,hxs,hts,hc,hbs⟩ hF;exact ⟨xs,ts,hi1,hxs.from_ hF,hts.from_ hF,hc.from_ hF,hbs.from_ hF⟩
 case hO=>
  rintro k W W' q o hq ho hO hwq ⟨xs,ts,hi1,hxs,hts,hc,hbs⟩;exact ⟨xs,ts,hi1,hxs.aside hq ho hO,hts.aside hq ho hO,hc.aside hq ho hO (Nat.le_trans (((((hB.next E34).next E7).only O7 ((by rw [hb7];exact Nat.le_trans hB.size E34.size))).next E36)).size hwq),hbs.only hO (bw hbs hq ho)⟩
 case h0=>
  exact ⟨_,_,xX (q:=m) hall,hx7.from_ E36,ht7.from_ E36,⟨h2_7.from_ E36,h5_7.from_ E36,P7.from_ E36,⟨hg20,hg34b⟩,((((hB.next E34).next E7).only O7 ((by rw [hb7];exact Nat.le_trans hB.size E34.size))).next E36)⟩,hbs⟩
 case hb=>
  intro l k WB hkN hI;obtain ⟨xs,ts,hi1,hxs,hts,hc,hbs⟩:=hI;obtain ⟨q,hq,hq2⟩:∃ q,m-k=q+1∧m-1-k=q:=⟨m-1-k,by omega,rfl⟩;rw [hq] at hi1;rw [hq2];obtain ⟨hls,hiq⟩:=hos q (by omega);obtain ⟨hts1,hi2⟩:=Bq ht hord hi1 hls hiq;have hp1:=zw (idx:=idx) hls;have hsn:=hls.2.1;have hcs:=hkt _ hsn;obtain ⟨s,hs⟩:∃ s,s=od q:=⟨_,rfl⟩;rw [←hs] at hls hiq hts1 hi2 hp1 hsn hcs ⊢;have hlo:=hc.lo;refine wJ (uj ?_);apply wI 12 [(39,eqp _),(40,eqp _),(41,eqp _),(42,eqp _),(43,eqp _),(44,eqp _),(45,eqp _),(46,eqp _),(47,eqp _),(48,eqp _),(49,eqp _),(50,eqp _)] (by kernel_rfl) (by kernel_rfl) ⟨ag _,ag _,ag _,ag _,ag _,ag _,ag _,ag _,ag _,ag _,ag _,ag _,trivial⟩ (by kernel_rfl) (fun ⟨_,_,h⟩=>h)
  case hop=>
   constructor
   ·intro w13 D13;exact ai (an aR rfl (by exact (hc.h7.from_ (aj.rfl_.next D13)).rd 0 rfl)) rfl
   constructor
   ·intro w14 D14;exact ai (an cA rfl (by exact (hc.h2.from_ (aj.rfl_.next D14)).rd 0 rfl)) rfl
   constructor
   ·intro w15 D15;rintro _ rfl;exact ai (ar rfl) rfl
   constructor
   ·intro w16 D16;rintro _ rfl;exact ai (ak cE rfl) rfl
   constructor
   ·intro w17 D17;rintro _ rfl;exact ai (an aR rfl (by exact bx (hc.hF.next D17) (hb.rd 0 rfl))) rfl
   constructor
   ·intro w18 D18;exact ai (aq (v:=.int _ _) rfl) rfl
   constructor
   ·intro w19 D19;rintro _ rfl _ rfl;exact ai (aA aH rfl rfl (by exact hsn)) rfl
   constructor
   ·intro w20 D20;rintro _ rfl;exact ai (an aZ rfl (by exact (hl.from_ (hc.hF.next D20)).rdN hsn)) rfl
   constructor
   ·intro w21 D21;rintro _ rfl _ rfl;exact ai (aA aH rfl rfl (by exact hcs)) rfl
   constructor
   ·intro w22 D22;rintro _ rfl;exact ai (an aZ rfl (by exact (hts.from_ (aj.rfl_.next D22)).rd hcs)) rfl
   constructor
   ·intro w23 D23;rintro _ rfl;exact ai (kv (r:=((jG n t idx s:Nat):Int)) rfl rfl hts1 (by omega)) rfl
   constructor
   ·intro w24 D24;rintro _ rfl _ rfl;exact ai (aA aH rfl rfl (by exact hcs)) rfl
   exact trivial
  case hend=>
   intro w25 D25;rintro _ rfl _ rfl _ rfl _ rfl _ rfl _ rfl _ rfl _ rfl _ rfl _ rfl _ rfl _ rfl;show St ..;have hxsD:=hxs.from_ D25;have htsD:=hts.from_ D25;have hcD:=hc.from_ D25;have hbsD:=hbs.from_ D25;obtain ⟨ct,hbk10,hst,hct⟩:=hts.from_ D25;have hkD:cX WB _:=cX.from_ D25;refine bH (v:=.int _ _) cJ rfl rfl rfl (hbk10) (by omega) ?_;intro w26 O10 P10;have hts10:=VJ.put P10 hst hct hcs;have hxs10:=hxsD.only O10 (by omega);have hc10:=hcD.only htsD O10 (by omega);have hbs10:=hbsD.only O10 (htsD.ne hbsD (by decide));have hk10:=hkD.trans (cX.only O10 hbk10);have hcell10:(w26).cell? ⟨g34,t s,none⟩=some (.int .i32 ((jG n t idx s:Nat):Int)):=by rw [hts10.rd hcs,eF]
   refine ah (qo ?_);apply wI 13 [(51,eqp _),(52,eqp _),(53,eqp _),(54,eqp _),(55,eqp _),(56,eqp _),(57,eqp _),(58,eqp _),(59,eqp _),(60,eqp _),(61,eqp _),(62,eqp _),(63,eqp _)] (by kernel_rfl) (by kernel_rfl) ⟨ag _,ag _,ag _,ag _,ag _,ag _,ag _,ag _,ag _,ag _,ag _,ag _,ag _,trivial⟩ (by kernel_rfl) (fun ⟨_,_,h⟩=>h)
   case hop=>
    constructor
    ·intro w28 D28;exact ai (an aR rfl (by exact (hc10.h5.from_ (aj.rfl_.next D28)).rd 0 rfl)) rfl
    constructor
    ·intro w29 D29;exact ai (an aR rfl (by exact (hc10.h7.from_ (aj.rfl_.next D29)).rd 0 rfl)) rfl
    constructor
    ·intro w30 D30;exact ai (an cA rfl (by exact (hc10.h2.from_ (aj.rfl_.next D30)).rd 0 rfl)) rfl
    constructor
    ·intro w31 D31;rintro _ rfl;exact ai (ar rfl) rfl
    constructor
    ·intro w32 D32;rintro _ rfl;exact ai (ak cE rfl) rfl
    constructor
    ·intro w33 D33;rintro _ rfl;exact ai (an aR rfl (by exact bx (((hc.hF.next D25).only O10 ((by omega))).next D33) (hb.rd 0 rfl))) rfl
    constructor
    ·intro w34 D34;exact ai (aq (v:=.int _ _) rfl) rfl
    constructor
    ·intro w35 D35;rintro _ rfl _ rfl;exact ai (aA aH rfl rfl (by exact hsn)) rfl
    constructor
    ·intro w36 D36;rintro _ rfl;exact ai (an aZ rfl (by exact (hl.from_ (((hc.hF.next D25).only O10 ((by omega))).next D36)).rdN hsn)) rfl
    constructor
    ·intro w37 D37;rintro _ rfl _ rfl;exact ai (aA aH rfl rfl (by exact hcs)) rfl
    constructor
    ·intro w38 D38;rintro _ rfl;exact ai (an aZ rfl (by exact bx (aj.rfl_.next D38) hcell10)) rfl
    constructor
    ·intro w39 D39;exact ai (aq (v:=.int _ _) rfl) rfl
    constructor
    ·intro w40 D40;rintro _ rfl _ rfl;exact ai (aA aH rfl rfl (by exact hp1)) rfl
    exact trivial
   case hend=>
    intro w41 D41;rintro _ rfl _ rfl _ rfl _ rfl _ rfl _ rfl _ rfl _ rfl _ rfl _ rfl _ rfl _ rfl _ rfl;show St ..;have hxsE:=hxs10.from_ D41;have htsE:=hts10.from_ D41;have hcE:=hc10.from_ D41;have hbsE:=hbs10.from_ D41;obtain ⟨cr,hbk11,hsr,hcr⟩:=hxs10.from_ D41;have hkE:=hk10.trans (cX.from_ D41);refine bH (v:=.int _ _) cJ rfl rfl rfl (hbk11) (by omega) ?_;intro w42 O11 P11;have hxs11:=VJ.put P11 hsr hcr hp1;have hts11:=htsE.only O11 (by omega);have hc11:=hcE.only hxsE O11 (by omega);have hbs11:=hbsE.only O11 (hxsE.ne hbsE (by decide));have hk11:=hkE.trans (cX.only O11 hbk11);refine ah (aI ?_);exact ⟨⟨_,_,by rw [show m-(k+1)=q by omega];exact hi2,hxs11,hts11,hc11,hbs11⟩,hk11⟩
 case hd=>
  intro D WD hD hI hK;obtain ⟨xs,ts,hi1,hxs,hts,hc,hbs⟩:=hI;rw [Nat.sub_self] at hi1;have hi2s:=xW hi1;have hDw:w.heap.size≤D:=Nat.le_trans hB36.size hD;have hlo:=hc.lo;refine aI (ab (af (aa (ae (an cA rfl (by exact (hc.h2.from_ aj.rfl_).rd 0 rfl)) ?_))));refine aF r6 (DT b n K m0 t ss _ (hT0.from_ hc.hF) hK0 (by omega)) ?_;rintro v65 w43 ⟨⟨g65,c65,rfl,hg65,hhd⟩,E65⟩;have hd1:b20<g65:=Nat.lt_of_lt_of_le hxs.lt hg65;have hd2:g34<g65:=Nat.lt_of_lt_of_le hts.lt hg65;refine ass rfl (ah (ab (af (af (aa (ae (an aR rfl (by exact ((hc.from_ E65).h5).rd 0 rfl)) ?_))))));refine ae (aQ ck rfl) (mvi rfl (ah (ab (aw (a_ (G:=Nat×(Nat→Int)×(Nat→Int)) [11,12,69,70,71,72,73,74,75,76,77,78,79,80,81,82,83,84,85,86,87,88,89,90,91,92,93,94,95,96,97,98,99,100,101,102,103,104,105,106,107,108,109,110,111,112,113] (fun (r,_,_)=>[(68,.int .i64 (r:Nat))]) (fun (r,xs,hs) w'=>r≤n∧ov n t idx r xs hs∧VJ w' b20 n xs∧VJ w' g65 K hs∧VJ w' g34 K ts∧Cst w b b2 b5 b7 b20 g34 n K c34 w'∧w'.heap[D]? =some (.deferred (some []))) (fun (r,_,_)=>n-r) ((0,xs,fun c=>((less n t c:Nat):Int))) ⟨rfl,trivial⟩ ?_ ?_)))))
  ·exact ⟨Nat.zero_le _,hi2s,hxs.from_ E65,hhd,hts.from_ E65,hc.from_ E65,cX.from_ E65 _ _ hK rfl⟩
  rintro ⟨r,xs,hs⟩ ρ44 w44 ⟨hr0,hi2,hxs,hhd,hts,hc,hdD⟩;refine af (aa (ae (aW rfl rfl) (ah (ab (af (JV rfl (fun Q45=>?_) (fun Q45=>?_)))))))
  ·have hrn:r<n:=by omega
   have hx1:=GI ht hi2 hrn;refine av (ab (gz (G:=(Nat→Int)×(Nat→Int)) [11,12,70,71,72,73,74,75,76,77,78,79,80,81,82,83,84,85,86,87,88,89,90,91,92,93,94,95,96,97,98,99,100,101,102,103,104,105,106,107,108,109,110,111,112] (fun (_,_)=>[]) (fun (xs,hs) w'=>ov n t idx (r+1) xs hs∧VJ w' b20 n xs∧VJ w' g65 K hs∧VJ w' g34 K ts∧Cst w b b2 b5 b7 b20 g34 n K c34 w'∧w'.heap[D]? =some (.deferred (some []))) ?_ ?_))
   ·refine aw (af (aa (mvi rfl (asi rfl (ah (ab (af (aa (ae (an aR rfl (by exact (hc.h5.from_ aj.rfl_).rd 0 rfl)) ?_)))))))));refine mvi rfl (ae (aA aH rfl rfl (by exact hrn)) ?_);refine ae (an aZ rfl (by exact (hxs.from_ aj.rfl_).rd hrn)) ?_;refine ae (kv (r:=xs r-1) rfl rfl rfl (by omega)) (asi rfl (ah (ab (af (aa (mvi rfl (ae (eA rfl rfl) (mvb rfl (Jk (t:=78) rfl (fun Q46=>?_) (fun Q46=>?_))))))))))
    ·obtain ⟨i,hi⟩:∃ i:Nat,xs r=((i+1:Nat):Int):=⟨(xs r-1).toNat,by omega⟩;have e12:(Value.int .i32 (xs r-1))=.int .i32 ((i:Nat):Int):=aK (by omega);rw [e12];have hin:i<n:=by omega
     refine ao rfl (ae (an cA rfl (by exact (hc.h2.from_ aj.rfl_).rd 0 rfl)) ?_);refine ao rfl (ae (ar rfl) (ao rfl (ae (ak dE rfl) (ao rfl (ae (an dZ rfl (by exact bx hc.hF (hb.rd 2 rfl))) ?_)))));refine ao rfl (mvi rfl (ao rfl (ae (aA cS rfl rfl (by exact hin)) ?_)));refine ao rfl (ae (an fM rfl (by exact (hr.from_ hc.hF).rd i (mn hin))) ?_);refine ao rfl (ae (eQ rfl) (ae (bB (v:=.bool _) rfl rfl) (ah (ab (JT rfl (fun Q47=>?_) (fun Q47=>?_))))))
     ·have hrb:rb n t i=false:=by simpa using Q47
      obtain ⟨he1,hi2n,_,hpn⟩:=Bo ht hord hi2 hrn hi hrb;have hci:=hkt i hin;have hcl:(w44).cell? ⟨g65,t i,none⟩=some (.int .i32 ((pos n t idx i:Nat):Int)):=by rw [hhd.rd hci,he1]
      refine af ?_;apply dN 13 [(88,eqp _),(89,eqp _),(90,eqp _),(91,eqp _),(92,eqp _),(93,eqp _),(94,eqp _),(95,eqp _),(96,eqp _),(97,eqp _),(98,eqp _),(99,eqp _),(100,eqp _)] (by kernel_rfl) (by kernel_rfl) ⟨ag _,ag _,ag _,ag _,ag _,ag _,ag _,ag _,ag _,ag _,ag _,ag _,ag _,trivial⟩
      case hop=>
       constructor
       ·intro w49 D49;exact ai (an aR rfl (by exact (hc.h5.from_ (aj.rfl_.next D49)).rd 0 rfl)) rfl
       constructor
       ·intro w50 D50;exact ai (aq (v:=.slice _ _ _) rfl) rfl
       constructor
       ·intro w51 D51;exact ai (an cA rfl (by exact (hc.h2.from_ (aj.rfl_.next D51)).rd 0 rfl)) rfl
       constructor
       ·intro w52 D52;rintro _ rfl;exact ai (ar rfl) rfl
       constructor
       ·intro w53 D53;rintro _ rfl;exact ai (ak cE rfl) rfl
       constructor
       ·intro w54 D54;rintro _ rfl;exact ai (an aR rfl (by exact bx (hc.hF.next D54) (hb.rd 0 rfl))) rfl
       constructor
       ·intro w55 D55;exact ai (aq (v:=.int _ _) rfl) rfl
       constructor
       ·intro w56 D56;rintro _ rfl _ rfl;exact ai (aA aH rfl rfl (by exact hin)) rfl
       constructor
       ·intro w57 D57;rintro _ rfl;exact ai (an aZ rfl (by exact (hl.from_ (hc.hF.next D57)).rdN hin)) rfl
       constructor
       ·intro w58 D58;rintro _ rfl _ rfl;exact ai (aA aH rfl rfl (by exact hci)) rfl
       constructor
       ·intro w59 D59;rintro _ rfl;exact ai (an aZ rfl (by exact bx (aj.rfl_.next D59) hcl)) rfl
       constructor
       ·intro w60 D60;exact ai (aq (v:=.int _ _) rfl) rfl
       constructor
       ·intro w61 D61;rintro _ rfl _ rfl;exact ai (aA aH rfl rfl (by exact hpn)) rfl
       exact trivial
      case hend=>
       intro w62 D62;rintro _ rfl _ rfl _ rfl _ rfl _ rfl _ rfl _ rfl _ rfl _ rfl _ rfl _ rfl _ rfl _ rfl;show St ..;have hxsD:=hxs.from_ D62;have htsD:=hts.from_ D62;have hhdD:=hhd.from_ D62;have hcD:=hc.from_ D62;obtain ⟨cr,hbk18,hsr,hcr⟩:=hxs.from_ D62;have hdDD:=cX.from_ D62 _ _ hdD rfl;refine bH (v:=.int _ _) cJ rfl rfl rfl (hbk18) (by omega) ?_;intro w63 O18 P18;have hxs18:=VJ.put P18 hsr hcr hpn;have hts18:=htsD.only O18 (by omega);have hhd18:=hhdD.only O18 (by omega);have hc18:=hcD.only hxsD O18 (by omega);have hdD18:=cX.only O18 hbk18 _ _ hdDD rfl;have hcl18:(w63).cell? ⟨g65,t i,none⟩=some (.int .i32 ((pos n t idx i:Nat):Int)):=by rw [hhd18.rd hci,he1]
       obtain ⟨ch,hbk19,hsh,hch⟩:=id hhd18;refine ah (ab (aa (mvs rfl (ae (an cA rfl (by exact (hc18.h2.from_ aj.rfl_).rd 0 rfl)) ?_))));refine ae (ar rfl) (ae (ak cE rfl) (ae (an aR rfl (by exact bx ((hc.hF.next D62).only O18 ((by omega))) (hb.rd 0 rfl))) ?_));refine mvi rfl (ae (aA aH rfl rfl (by exact hin)) ?_);refine ae (an aZ rfl (by exact (hl.from_ ((hc.hF.next D62).only O18 ((by omega)))).rdN hin)) ?_;refine ae (aA aH rfl rfl (by exact hci)) ?_;refine ae (an aZ rfl (by exact bx aj.rfl_ hcl18)) ?_;refine ae (gY (r:=((pos n t idx i+1:Nat):Int)) rfl rfl (by omega) (by omega)) (ae (aA aH rfl rfl (by exact hci)) ?_);refine bH (v:=.int _ _) cJ rfl rfl rfl (hbk19) (by omega) ?_;intro w64 O19 P19;have hhd19:=VJ.put P19 hsh hch hci;have hts19:=hts18.only O19 (by omega);have hxs19:=hxs18.only O19 (by omega);have hc19:=hc18.only hhd18 O19 (by omega);have hdD19:=cX.only O19 hbk19 _ _ hdD18 rfl;refine ah (aI ?_);refine aO ((upd xs (pos n t idx i) i,upd hs (t i) ((pos n t idx i+1:Nat):Int))) trivial (by (iterate 46 refine aB rfl ?_);exact aJ) ?_;exact ⟨hi2n,hxs19,hhd19,hts19,hc19,hdD19⟩
     have hno:∀ i':Nat,xs r=((i'+1:Nat):Int)→rb n t i'=true:=fun i' h'=>by
      obtain rfl:i'=i:=by omega
      simpa using Q47
     refine av (aI ?_);refine aO ((xs,hs)) trivial (by (iterate 21 refine aB rfl ?_);exact aJ) ?_;exact ⟨zL ht hord hi2 hrn hno,hxs.from_ aj.rfl_,hhd.from_ aj.rfl_,hts.from_ aj.rfl_,hc.from_ aj.rfl_,cX.from_ aj.rfl_ _ _ hdD rfl⟩
    have hno:∀ i':Nat,xs r=((i'+1:Nat):Int)→rb n t i'=true:=fun i' h'=>absurd h' (by omega)
    refine aL rfl rfl (aL rfl rfl (aL rfl rfl (aL rfl rfl (aL rfl rfl (aL rfl rfl (aL rfl rfl (aL rfl rfl (ae (bk (v:=.bool _) rfl rfl) ?_))))))));refine ah (ab (de rfl (av (aI ?_))));refine aO ((xs,hs)) trivial (by (iterate 21 refine aB rfl ?_);exact aJ) ?_;exact ⟨zL ht hord hi2 hrn hno,hxs.from_ aj.rfl_,hhd.from_ aj.rfl_,hts.from_ aj.rfl_,hc.from_ aj.rfl_,cX.from_ aj.rfl_ _ _ hdD rfl⟩
   rintro ⟨xs',hs'⟩ ρ65 w65 ⟨hi2',hxs',hhd',hts',hc',hdD'⟩;refine aa (ae (aG (b:=1) rfl rfl (by omega)) (mvi rfl (ah ?_)));refine aO ((r+1,xs',hs')) ⟨(by first | rfl | (refine aK ?_;omega)),trivial⟩ (by (iterate 96 refine aB rfl ?_);exact aJ) ⟨?_,?_⟩
   ·exact ⟨by omega,hi2',hxs'.from_ aj.rfl_,hhd'.from_ aj.rfl_,hts'.from_ aj.rfl_,hc'.from_ aj.rfl_,cX.from_ aj.rfl_ _ _ hdD' rfl⟩
   ·show n-(r+1)<n-r;omega
  refine bc (aC (aC (aS (ab (af ?_)))));apply uu 6 5 [] [(114,eqp _),(115,eqp _),(116,eqp _),(117,eqp _),(118,eqp _),(119,fun _ w'=>VJ w' g34 K (fun c=>((less n t (c+1):Nat):Int)))] (fun w'=>aj w44 w') (fun w'=>VJ w' b20 n xs∧Cst w b b2 b5 b7 b20 g34 n K c34 w'∧w'.heap[D]? =some (.deferred (some []))) (by repeat first | exact vM | refine cm ?_ | refine bO ?_) (by kernel_rfl) (by kernel_rfl) (by kernel_rfl) ⟨ag _,ag _,ag _,ag _,ag _,(fun _ _ _ hF h=>h.from_ hF),trivial⟩ (aj.rfl_.d1) (⟨hxs.from_ aj.rfl_.d1,hc.from_ aj.rfl_.d1,cX.from_ aj.rfl_.d1 _ _ hdD rfl⟩) (fun _ _ hF h=>h.next hF) (fun _ _ hF h=>⟨h.1.from_ hF,h.2.1.from_ hF,cX.from_ hF _ _ h.2.2 rfl⟩)
  case hop=>
   constructor
   ·rintro-w67 D67;exact ai (an aR rfl (by exact (hc.h7.from_ D67).rd 0 rfl)) rfl
   constructor
   ·rintro-w68 ⟨hxs21,hc21,hdD21⟩;exact ai (an cA rfl (by exact hc21.h2.rd 0 rfl)) rfl
   constructor
   ·rintro-w69 ⟨hxs21,hc21,hdD21⟩;rintro _ rfl;exact ai (ar rfl) rfl
   constructor
   ·rintro-w70 D70;rintro _ rfl;exact ai (ak eD rfl) rfl
   constructor
   ·rintro-w71 D71;rintro _ rfl;exact ai (an aR rfl (by exact bx (hc.hF.next D71) (hb.rd 4 rfl))) rfl
   constructor
   ·intro h;cases h
   exact trivial
  case hmu=>
   rintro w73 D73;rintro _ rfl _ rfl;show mM ..;have hlo:=hc.lo;have hxsD:=hxs.from_ D73;have htsD:=hts.from_ D73;have hcD:=hc.from_ D73;obtain ⟨⟨cl⟩,hbk21,hst,hct⟩:=hts.from_ D73;have hdDD:=cX.from_ D73 _ _ hdD rfl;have hstl:K≤cl.length:=hst;refine Dr (sT:=137) (g:=g34) (o:=0) (cur:=cl) (news:=(List.range K).map fun c=>jV (less n t (c+1):Nat)) aH rfl rfl (by simp) (fun _=>rfl) (fun _=>⟨ge,0,rfl,(he.from_ (hc.hF.next D73)).range (Nat.le_refl K)⟩) hbk21 (by simp;omega) (by simp [Value.oneCell']) ?_;intro w3 hO hb3;exact ⟨⟨hxsD.only hO (by omega),hcD.only htsD hO (by omega),cX.only hO hbk21 _ _ hdDD rfl⟩,VJ.copied hb3 hstl,fun t u ht h=>iT (by repeat first | exact trivial | refine ⟨.inl rfl,?_⟩ | refine ⟨.inr (fun _ h=>h),?_⟩) t u ht h⟩
  case hend=>
   rintro w74 ⟨hxs21,hc21,hdD21⟩;rintro _ rfl _ rfl _ rfl _ rfl _ rfl v119 hts21;show St ..;refine ah (ab (af (af (aa (ae (an aR rfl (by exact (hc21.h5.from_ aj.rfl_).rd 0 rfl)) ?_)))));refine ae (aQ ck rfl) (ae (fi rfl rfl (by omega)) (asi rfl (ah (ab (aw (a_ (G:=Nat×(Nat→Int)×(Nat→Int)) [14,123,124,125,126,127,128,129,130,131,132,133,134,135,136,137,138,139,140,141,142,143,144,145,146,147,148,149,150,151,152,153,154,155,156,157,158,159,160,161,162,163,164,165,166,167] (fun (r,_,_)=>[(13,.int .i64 ((r:Nat)-1:Int))]) (fun (r,xs,ts) w'=>r≤n∧ou n t idx r xs ts∧VJ w' b20 n xs∧VJ w' g34 K ts∧Cst w b b2 b5 b7 b20 g34 n K c34 w'∧w'.heap[D]? =some (.deferred (some []))) (fun (r,_,_)=>r) ((n,xs,fun c=>((less n t (c+1):Nat):Int))) ⟨rfl,trivial⟩ ?_ ?_))))))
   ·obtain rfl:r=n:=by omega
    exact ⟨Nat.le_refl _,xV ht h2n hi2,hxs21.from_ aj.rfl_,hts21.from_ aj.rfl_,hc21.from_ aj.rfl_,cX.from_ aj.rfl_ _ _ hdD21 rfl⟩
   rintro ⟨r,xs,ts⟩ ρ75 w75 ⟨hr0,hi3,hxs,hts,hc,hdD⟩;refine af (af (aa (mvi rfl (ae (eA rfl rfl) (ah (ab (JV rfl (fun Q76=>?_) (fun Q76=>?_))))))))
   ·obtain ⟨r,rfl⟩:∃ r',r=r'+1:=⟨r-1,by omega⟩;have e13:(Value.int .i64 (((r+1:Nat):Int)-1))=.int .i64 ((r:Nat):Int):=aK (by omega);have hrn:r<n:=by omega
    have hx1:=GH ht hord hi3 hrn;refine av (ab (gz (G:=(Nat→Int)×(Nat→Int)) [14,127,128,129,130,131,132,133,134,135,136,137,138,139,140,141,142,143,144,145,146,147,148,149,150,151,152,153,154,155,156,157,158,159,160,161,162,163,164,165,166,167] (fun (_,_)=>[]) (fun (xs,ts) w'=>ou n t idx r xs ts∧VJ w' b20 n xs∧VJ w' g34 K ts∧Cst w b b2 b5 b7 b20 g34 n K c34 w'∧w'.heap[D]? =some (.deferred (some []))) ?_ ?_))
    ·refine aw (af (aa (ae (an aR rfl (by exact (hc.h5.from_ aj.rfl_).rd 0 rfl)) ?_)));refine mvi rfl (dh (t:=128) (v:=.int _ _) (v':=.int .i64 ((r:Nat):Int)) rfl (by exact e13) ?_);refine ae (aA aH rfl rfl (by exact hrn)) ?_;refine ae (an aZ rfl (by exact (hxs.from_ aj.rfl_).rd hrn)) ?_;refine ae (kv (r:=xs r-1) rfl rfl rfl (by omega)) (asi rfl (ah (ab (af (aa (mvi rfl (ae (eA rfl rfl) (mvb rfl (Jk (t:=134) rfl (fun Q77=>?_) (fun Q77=>?_))))))))))
     ·obtain ⟨i,hi⟩:∃ i:Nat,xs r=((i+1:Nat):Int):=⟨(xs r-1).toNat,by omega⟩;have e12:(Value.int .i32 (xs r-1))=.int .i32 ((i:Nat):Int):=aK (by omega);rw [e12];have hin:i<n:=by omega
      refine ao rfl (ae (an cA rfl (by exact (hc.h2.from_ aj.rfl_).rd 0 rfl)) ?_);refine ao rfl (ae (ar rfl) (ao rfl (ae (ak dE rfl) (ao rfl (ae (an dZ rfl (by exact bx hc.hF (hb.rd 2 rfl))) ?_)))));refine ao rfl (mvi rfl (ao rfl (ae (aA cS rfl rfl (by exact hin)) ?_)));refine ao rfl (ae (an fM rfl (by exact (hr.from_ hc.hF).rd i (mn hin))) ?_);refine ae (bB (v:=.bool _) rfl rfl) (ah (ab (au rfl (fun Q78=>?_) (fun Q78=>?_))))
      ·(try with_reducible first | (replace Q78 := dT_ Q78; trace "@MK N cz:c24-.c69-.c124+.g134+.c142+ 1.1") | (replace Q78 := dF_ Q78; trace "@MK N cz:c24-.c69-.c124+.g134+.c142+ 1.2") | (replace Q78 := fm Q78; trace "@MK N cz:c24-.c69-.c124+.g134+.c142+ 1.3") | (replace Q78 := fo Q78; trace "@MK N cz:c24-.c69-.c124+.g134+.c142+ 1.4"))
       (try with_reducible first | (replace Q78 := dT_ Q78; trace "@MK N cz:c24-.c69-.c124+.g134+.c142+ 2.1") | (replace Q78 := dF_ Q78; trace "@MK N cz:c24-.c69-.c124+.g134+.c142+ 2.2") | (replace Q78 := eH Q78; trace "@MK N cz:c24-.c69-.c124+.g134+.c142+ 2.3") | (replace Q78 := eI Q78; trace "@MK N cz:c24-.c69-.c124+.g134+.c142+ 2.4") | (replace Q78 := fX Q78; trace "@MK N cz:c24-.c69-.c124+.g134+.c142+ 2.5") | (replace Q78 := fY Q78; trace "@MK N cz:c24-.c69-.c124+.g134+.c142+ 2.6"))
       have hrb:rb n t i=true:=Q78;obtain ⟨he1,hi3n,_,hpn⟩:=Bm ht hord hi3 hrn hi hrb;have hci:=hkt i hin;refine af ?_;apply dN 12 [(143,eqp _),(144,eqp _),(145,eqp _),(146,eqp _),(147,eqp _),(148,eqp _),(149,eqp _),(150,eqp _),(151,eqp _),(152,eqp _),(153,eqp _),(154,eqp _)] (by kernel_rfl) (by kernel_rfl) ⟨ag _,ag _,ag _,ag _,ag _,ag _,ag _,ag _,ag _,ag _,ag _,ag _,trivial⟩
       case hop=>
        constructor
        ·intro w80 D80;exact ai (an aR rfl (by exact (hc.h7.from_ (aj.rfl_.next D80)).rd 0 rfl)) rfl
        constructor
        ·intro w81 D81;exact ai (an cA rfl (by exact (hc.h2.from_ (aj.rfl_.next D81)).rd 0 rfl)) rfl
        constructor
        ·intro w82 D82;rintro _ rfl;exact ai (ar rfl) rfl
        constructor
        ·intro w83 D83;rintro _ rfl;exact ai (ak cE rfl) rfl
        constructor
        ·intro w84 D84;rintro _ rfl;exact ai (an aR rfl (by exact bx (hc.hF.next D84) (hb.rd 0 rfl))) rfl
        constructor
        ·intro w85 D85;exact ai (aq (v:=.int _ _) rfl) rfl
        constructor
        ·intro w86 D86;rintro _ rfl _ rfl;exact ai (aA aH rfl rfl (by exact hin)) rfl
        constructor
        ·intro w87 D87;rintro _ rfl;exact ai (an aZ rfl (by exact (hl.from_ (hc.hF.next D87)).rdN hin)) rfl
        constructor
        ·intro w88 D88;rintro _ rfl _ rfl;exact ai (aA aH rfl rfl (by exact hci)) rfl
        constructor
        ·intro w89 D89;rintro _ rfl;exact ai (an aZ rfl (by exact (hts.from_ (aj.rfl_.next D89)).rd hci)) rfl
        constructor
        ·intro w90 D90;rintro _ rfl;exact ai (kv (r:=((pos n t idx i:Nat):Int)) rfl rfl he1 (by omega)) rfl
        constructor
        ·intro w91 D91;rintro _ rfl _ rfl;exact ai (aA aH rfl rfl (by exact hci)) rfl
        exact trivial
       case hend=>
        intro w92 D92;rintro _ rfl _ rfl _ rfl _ rfl _ rfl _ rfl _ rfl _ rfl _ rfl _ rfl _ rfl _ rfl;show St ..;have hxsD:=hxs.from_ D92;have htsD:=hts.from_ D92;have hcD:=hc.from_ D92;obtain ⟨ct,hbk27,hst,hct⟩:=hts.from_ D92;have hdDD:=cX.from_ D92 _ _ hdD rfl;refine bH (v:=.int _ _) cJ rfl rfl rfl (hbk27) (by omega) ?_;intro w93 O27 P27;have hts27:=VJ.put P27 hst hct hci;have hxs27:=hxsD.only O27 (by omega);have hc27:=hcD.only htsD O27 (by omega);have hdD27:=cX.only O27 hbk27 _ _ hdDD rfl;have hcl27:(w93).cell? ⟨g34,t i,none⟩=some (.int .i32 ((pos n t idx i:Nat):Int)):=by rw [hts27.rd hci,eF]
        refine ah (ab ?_);apply dN 13 [(155,eqp _),(156,eqp _),(157,eqp _),(158,eqp _),(159,eqp _),(160,eqp _),(161,eqp _),(162,eqp _),(163,eqp _),(164,eqp _),(165,eqp _),(166,eqp _),(167,eqp _)] (by kernel_rfl) (by kernel_rfl) ⟨ag _,ag _,ag _,ag _,ag _,ag _,ag _,ag _,ag _,ag _,ag _,ag _,ag _,trivial⟩
        case hop=>
         constructor
         ·intro w95 D95;exact ai (an aR rfl (by exact (hc27.h5.from_ (aj.rfl_.next D95)).rd 0 rfl)) rfl
         constructor
         ·intro w96 D96;exact ai (an aR rfl (by exact (hc27.h7.from_ (aj.rfl_.next D96)).rd 0 rfl)) rfl
         constructor
         ·intro w97 D97;exact ai (an cA rfl (by exact (hc27.h2.from_ (aj.rfl_.next D97)).rd 0 rfl)) rfl
         constructor
         ·intro w98 D98;rintro _ rfl;exact ai (ar rfl) rfl
         constructor
         ·intro w99 D99;rintro _ rfl;exact ai (ak cE rfl) rfl
         constructor
         ·intro w100 D100;rintro _ rfl;exact ai (an aR rfl (by exact bx (((hc.hF.next D92).only O27 ((by omega))).next D100) (hb.rd 0 rfl))) rfl
         constructor
         ·intro w101 D101;exact ai (aq (v:=.int _ _) rfl) rfl
         constructor
         ·intro w102 D102;rintro _ rfl _ rfl;exact ai (aA aH rfl rfl (by exact hin)) rfl
         constructor
         ·intro w103 D103;rintro _ rfl;exact ai (an aZ rfl (by exact (hl.from_ (((hc.hF.next D92).only O27 ((by omega))).next D103)).rdN hin)) rfl
         constructor
         ·intro w104 D104;rintro _ rfl _ rfl;exact ai (aA aH rfl rfl (by exact hci)) rfl
         constructor
         ·intro w105 D105;rintro _ rfl;exact ai (an aZ rfl (by exact bx (aj.rfl_.next D105) hcl27)) rfl
         constructor
         ·intro w106 D106;exact ai (aq (v:=.int _ _) rfl) rfl
         constructor
         ·intro w107 D107;rintro _ rfl _ rfl;exact ai (aA aH rfl rfl (by exact hpn)) rfl
         exact trivial
        case hend=>
         intro w108 D108;rintro _ rfl _ rfl _ rfl _ rfl _ rfl _ rfl _ rfl _ rfl _ rfl _ rfl _ rfl _ rfl _ rfl;show St ..;have hxsE:=hxs27.from_ D108;have htsE:=hts27.from_ D108;have hcE:=hc27.from_ D108;obtain ⟨cr,hbk28,hsr,hcr⟩:=hxs27.from_ D108;have hdDE:=cX.from_ D108 _ _ hdD27 rfl;refine bH (v:=.int _ _) cJ rfl rfl rfl (hbk28) (by omega) ?_;intro w109 O28 P28;have hxs28:=VJ.put P28 hsr hcr hpn;have hts28:=htsE.only O28 (by omega);have hc28:=hcE.only hxsE O28 (by omega);have hdD28:=cX.only O28 hbk28 _ _ hdDE rfl;refine ah (aI ?_);refine aO ((upd xs (pos n t idx i) i,upd ts (t i) ((pos n t idx i:Nat):Int))) trivial (by (iterate 44 refine aB rfl ?_);exact aJ) ?_;exact ⟨hi3n,hxs28,hts28,hc28,hdD28⟩
      (try with_reducible first | (replace Q78 := dT_ Q78; trace "@MK N cz:c24-.c69-.c124+.g134+.c142- 1.1") | (replace Q78 := dF_ Q78; trace "@MK N cz:c24-.c69-.c124+.g134+.c142- 1.2") | (replace Q78 := fm Q78; trace "@MK N cz:c24-.c69-.c124+.g134+.c142- 1.3") | (replace Q78 := fo Q78; trace "@MK N cz:c24-.c69-.c124+.g134+.c142- 1.4"))
      (try with_reducible first | (replace Q78 := dT_ Q78; trace "@MK N cz:c24-.c69-.c124+.g134+.c142- 2.1") | (replace Q78 := dF_ Q78; trace "@MK N cz:c24-.c69-.c124+.g134+.c142- 2.2") | (replace Q78 := eH Q78; trace "@MK N cz:c24-.c69-.c124+.g134+.c142- 2.3") | (replace Q78 := eI Q78; trace "@MK N cz:c24-.c69-.c124+.g134+.c142- 2.4") | (replace Q78 := fX Q78; trace "@MK N cz:c24-.c69-.c124+.g134+.c142- 2.5") | (replace Q78 := fY Q78; trace "@MK N cz:c24-.c69-.c124+.g134+.c142- 2.6"))
      have hno:∀ i':Nat,xs r=((i'+1:Nat):Int)→rb n t i'=false:=fun i' h'=>by
       obtain rfl:i'=i:=by omega
       exact Q78
      refine av (aI ?_);refine aO ((xs,ts)) trivial (by (iterate 19 refine aB rfl ?_);exact aJ) ?_;exact ⟨zK ht hord hi3 hrn hno,hxs.from_ aj.rfl_,hts.from_ aj.rfl_,hc.from_ aj.rfl_,cX.from_ aj.rfl_ _ _ hdD rfl⟩
     have hno:∀ i':Nat,xs r=((i'+1:Nat):Int)→rb n t i'=false:=fun i' h'=>absurd h' (by omega)
     refine aL rfl rfl (aL rfl rfl (aL rfl rfl (aL rfl rfl (aL rfl rfl (aL rfl rfl (aL rfl rfl (ae (bk (v:=.bool _) rfl rfl) (ah (ab ?_)))))))));refine de rfl (av (aI ?_));refine aO ((xs,ts)) trivial (by (iterate 19 refine aB rfl ?_);exact aJ) ?_;exact ⟨zK ht hord hi3 hrn hno,hxs.from_ aj.rfl_,hts.from_ aj.rfl_,hc.from_ aj.rfl_,cX.from_ aj.rfl_ _ _ hdD rfl⟩
    rintro ⟨xs',ts'⟩ ρ110 w110 ⟨hi3',hxs',hts',hc',hdD'⟩;refine aa (mvi rfl (ae (fi rfl rfl (by omega)) (asi rfl (ah ?_))));refine aO ((r,xs',ts')) ⟨(by first | rfl | (refine aK ?_;omega)),trivial⟩ (by (iterate 94 refine aB rfl ?_);exact aJ) ⟨?_,?_⟩
    ·exact ⟨by omega,hi3',hxs'.from_ aj.rfl_,hts'.from_ aj.rfl_,hc'.from_ aj.rfl_,cX.from_ aj.rfl_ _ _ hdD' rfl⟩
    ·show r<r+1;omega
   refine bc (aC (aC (aS (ab (af (aa (ae (an aR rfl (by exact (hc.h5.from_ aj.rfl_).rd 0 rfl)) ?_)))))));refine ass rfl (ah (ab (ay (Kj (v:=.slice _ _ _) rfl rfl (cX.from_ aj.rfl_ _ _ hdD rfl) ?_))));intro wX OX;obtain rfl:r=0:=by omega
   exact ⟨⟨b20,xs,rfl,hg20,(hxs.from_ aj.rfl_).aside (cX.from_ aj.rfl_ _ _ hdD rfl) rfl OX,DL hi3⟩,(hc.hF.next aj.rfl_).only OX hDw⟩
theorem HA {α:Type} {a b:List α} {k:Nat} (hl:a.length=b.length) (hk:¬ k<a.length) (h:a.take k=b.take k):a=b:=by
 rw [List.take_of_length_le (by omega),List.take_of_length_le (by omega)] at h;exact h
theorem y_ {α:Type} {a b:List α} {k:Nat} (ha:k<a.length) (hb:k<b.length) (h:a.take k=b.take k) (he:a[k]=b[k]):a.take (k+1)=b.take (k+1):=by
 rw [List.take_succ_eq_append_getElem ha,List.take_succ_eq_append_getElem hb,h,he]
theorem yc (A B:Option Addr) (ca cb n m:Nat) (a b:List Int) (w:World) (ha:bA jV w A a) (hb:bA jV w B b) (hn:n=a.length) (hm:m=b.length) (hl:n≤1000000000000) :
 Rt prog 203 [.slice A n ca,.slice B m cb] w (fun v w'=>v=.bool (decide (a=b))∧aj w w'):=by
 refine enter (n:=26) Tryz.func203 rfl rfl rfl (af (aa (asb rfl (ah (ab (af (af (aa (mvs rfl (ae (aQ ck rfl) (mvs rfl (ae (aQ ck rfl) (ae (cD rfl rfl) ?_)))))))))))));refine ah (ab (JR rfl (fun Q1=>?_) (fun Q1=>?_)))
 ·refine af (aa (asb rfl (ah (ab (ay (aD (bE (v:=.bool _) rfl rfl ?_)))))));exact ⟨by rw [decide_eq_false];rintro rfl;omega,aj.rfl_⟩
 refine av (ab (af (af (aa (mvs rfl (ae (aQ ck rfl) (mvi rfl (ah (ab (aw (a_ (G:=Nat) [4,5,14,15,16,17,18,19,20,21,22,23,24,25] (fun k=>[(13,.int .i64 (k:Nat))]) (fun k w'=>k≤n∧a.take k=b.take k∧aj w w') (fun k=>n-k) (0) ⟨rfl,trivial⟩ ?_ ?_)))))))))))
 ·exact ⟨Nat.zero_le _,rfl,aj.rfl_⟩
 rintro k ρ2 w2 ⟨hk,ht,hB⟩;refine af (aa (ae (aW rfl rfl) (ah (ab (af (JV rfl (fun Q3=>?_) (fun Q3=>?_)))))))
 ·have hka:k<a.length:=by omega
  have hkb:k<b.length:=by omega
  obtain ⟨ba,oa,rfl,hca⟩:=ha (by omega);obtain ⟨bb,ob,rfl,hcb⟩:=hb (by omega);refine av (ab (af (aw (af (aa (mvi rfl (asi rfl (ah (ab (af ?_))))))))));apply dN 9 [(16,eqp _),(17,eqp _),(18,eqp _),(19,eqp _),(20,eqp _),(21,eqp _),(22,eqp _),(23,eqp _),(24,eqp _)] (by kernel_rfl) (by kernel_rfl) ⟨ag _,ag _,ag _,ag _,ag _,ag _,ag _,ag _,ag _,trivial⟩
  case hop=>
   constructor
   ·intro w5 D5;exact ai (aq (v:=.slice _ _ _) rfl) rfl
   constructor
   ·intro w6 D6;exact ai (aq (v:=.int _ _) rfl) rfl
   constructor
   ·intro w7 D7;rintro _ rfl _ rfl;exact ai (aX aH rfl rfl (by omega)) rfl
   constructor
   ·intro w8 D8;rintro _ rfl;exact ai (an aZ rfl (by exact bx (hB.next D8) (hca k hka))) rfl
   constructor
   ·intro w9 D9;exact ai (aq (v:=.slice _ _ _) rfl) rfl
   constructor
   ·intro w10 D10;exact ai (aq (v:=.int _ _) rfl) rfl
   constructor
   ·intro w11 D11;rintro _ rfl _ rfl;exact ai (aX aH rfl rfl (by omega)) rfl
   constructor
   ·intro w12 D12;rintro _ rfl;exact ai (an aZ rfl (by exact bx (hB.next D12) (hcb k hkb))) rfl
   constructor
   ·intro w13 D13;rintro _ rfl _ rfl;exact ai (cD rfl rfl) rfl
   exact trivial
  case hend=>
   intro w14 D14;rintro _ rfl _ rfl _ rfl _ rfl _ rfl _ rfl _ rfl _ rfl _ rfl;show St ..;refine ah (ab (JR rfl (fun Q15=>?_) (fun Q15=>?_)))
   ·refine af (aa (asb rfl (ah (ab (ay (bj (aD (aD (bj (aD (bE (v:=.bool _) rfl rfl ?_)))))))))));exact ⟨by rw [decide_eq_false];rintro rfl;simp_all,(hB.next D14)⟩
   refine av (aI (ab (aa (ae (aG (b:=1) rfl rfl (by omega)) (mvi rfl (ah ?_))))));refine aO (k+1) ⟨(by first | rfl | (refine aK ?_;omega)),trivial⟩ (by (iterate 29 refine aB rfl ?_);exact aJ) ⟨?_,?_⟩
   ·exact ⟨by omega,y_ hka hkb ht (by simp_all),(hB.next D14)⟩
   ·show n-(k+1)<n-k;omega
 refine bc (aC (aC (aS (ab (af (aa (asb rfl (ah (ab (ay (bE (v:=.bool _) rfl rfl (⟨by rw [decide_eq_true (HA (k:=k) (by omega) (by omega) ht)],hB⟩))))))))))))
theorem tz {w:World} {AS:Option Addr} {m:Nat} {ss:Nat→Nat} (h:0<m→∃ g,AS=some ⟨g,0,none⟩∧VJ w g m (fun k=>(ss k:Nat))) (h0:0<m):∃ bs os,AS=some ⟨bs,os,none⟩∧∀ k,k<m→w.cell? ⟨bs,os+k,none⟩=some (.int .i32 ((ss k:Nat):Int)):=by
 obtain ⟨g,rfl,hv⟩:=h h0;exact ⟨g,0,rfl,fun k hk=>by rw [Nat.zero_add];exact hv.rdN hk⟩
theorem vw (b n K m:Nat) (t ss:Nat→Nat) (w:World) (hT:iJ w b n K t m ss) (h0:0<m) (hm:m≤200000) (g:Nat) (nu:Nat→Nat) (hg:VJ w g m (fun r=>(nu r:Nat))) (hnu:∀ r,r<m→nu r<m) :
 Rt prog 166 [.pointer (some ⟨b,0,none⟩),.slice (some ⟨g,0,none⟩) m m] w (fun v w'=>(∃ g2,v=.slice (some ⟨g2,0,none⟩) m m∧w.heap.size≤g2∧VJ w' g2 m (fun r=>((ss (nu r):Nat):Int)))∧aj w w'):=by
 obtain ⟨gl,gr,AS,cs,ge,hb,hl,hr,hss,he⟩:=hT;obtain ⟨bs,os,rfl,hsc⟩:=tz hss h0;refine enter (n:=30) Tryz.func166 rfl rfl rfl (af (aa (ass rfl (ah (ab (af (aa (mvs rfl (ae (aQ ck rfl) (gi eO rfl rfl rfl (by omega) (by omega) ?_))))))))));intro b10 w1 E10 hb10 hk10;have hg10:w.heap.size≤b10:=by rw [hb10];exact (aj.rfl_).size
 refine ass rfl (ah (ab (af (af (aa (mvs rfl (ae (aQ ck rfl) (mvi rfl (ah (ab (aw (a_ (G:=Nat×(Nat→Int)) [6,7,14,15,16,17,18,19,20,21,22,23,24,25,26,27,28] (fun (k,_)=>[(13,.int .i64 (k:Nat))]) (fun (k,xs) w'=>k≤m∧(∀ i,i<k→xs i=((ss (nu i):Nat):Int))∧VJ w' b10 m xs∧aj w w') (fun (k,_)=>m-k) ((0,fun _=>0)) ⟨rfl,trivial⟩ ?_ ?_))))))))))))
 ·exact ⟨Nat.zero_le _,fun i h=>absurd h (by omega),VJ.of_blk (by rw [←iy];exact hk10),(aj.rfl_.next E10)⟩
 rintro ⟨k,xs⟩ ρ2 w2 ⟨hk,hx0,hxs,hB⟩;refine af (aa (ae (aW rfl rfl) (ah (ab (af (JV rfl (fun Q3=>?_) (fun Q3=>?_)))))))
 ·have hkm:k<m:=by omega
  obtain ⟨cu,hcu,hsz,hce⟩:=id hxs;have hnk:=hnu k hkm;refine av (ab (af (aw (af (aa (mvi rfl (ae (aA aH rfl rfl (by exact hkm)) ?_)))))));refine ae (an aZ rfl (by exact (hg.from_ hB).rdN hkm)) ?_;refine asi rfl (asi rfl (ah (ab (aa (mvs rfl (mvi rfl (mvp rfl (ae (ar rfl) (ae (ak cP rfl) (ae (an aR rfl (by exact bx hB (hb.rd 3 rfl))) ?_))))))))));refine mvi rfl (ae (aX aH rfl rfl (by exact hnk)) ?_);refine ae (an aZ rfl (by exact bx hB (hsc _ hnk))) ?_;refine ae (aA aH rfl rfl (by exact hkm)) ?_;refine bH (v:=.int _ _) cJ rfl rfl rfl (hcu) (by omega) ?_;intro w4 O5 P5;have hxs5:=VJ.put P5 hsz hce hkm;refine ah (aI (ab (aa (ae (aG (b:=1) rfl rfl (by omega)) (mvi rfl (ah ?_))))));refine aO ((k+1,upd xs k ((ss (nu k):Nat):Int))) ⟨(by first | rfl | (refine aK ?_;omega)),trivial⟩ (by (iterate 36 refine aB rfl ?_);exact aJ) ⟨?_,?_⟩
  ·refine ⟨by omega,fun i hi=>?_,hxs5,(hB.only O5 (hg10))⟩;unfold upd;split
   ·rename_i e;rw [e]
   ·exact hx0 i (by omega)
  ·show m-(k+1)<m-k;omega
 refine bc (aC (aC (aS (ab (af (aa (mvs rfl (ass rfl (ah (ab (ay (bE (v:=.slice _ _ _) rfl rfl ?_))))))))))));obtain rfl:m=k:=by omega
 exact ⟨⟨b10,rfl,hg10,hxs.congr hx0⟩,hB⟩
theorem sR:az prog 203=true:=by kernel_rfl
def pU (t:Nat→Nat) (i k:Nat):List Int:=(List.range k).map fun x=>(t (i+x):Int)
theorem lS {t:Nat→Nat} {i k:Nat}:(pU t i k).length=k:=by simp [pU]
theorem vm {w:World} {g n l k:Nat} {t:Nat→Nat} (h:VJ w g n fun i=>(t i:Nat)) (hl:l<n) (hk:l+k≤n):bA jV w (iZ (some ⟨g,0,none⟩) n l 1) (pU t l k):=fun h0=>by
 by_cases e:n=l
 ·omega
 ·refine ⟨g,l,?_,fun i hi=>?_⟩
  ·unfold iZ;rw [if_neg e];simp [Addr.add];omega
  ·rw [lS] at hi;have:=h.rd (i:=l+i) (by omega);simpa [pU] using this
theorem Fv {t:Nat→Nat} {i j k:Nat} {k2:Nat}:pU t i k=pU t j k2↔k=k2∧∀ x,x<k→t (i+x)=t (j+x):=by
 constructor
 ·intro h;have e:=congrArg List.length h;rw [lS,lS] at e;subst e;refine ⟨rfl,fun x hx=>?_⟩;have:=congrArg (fun l=>l[x]?) h;simp [pU,hx] at this;omega
 ·rintro ⟨rfl,h⟩;unfold pU;exact List.map_congr_left fun x hx=>by rw [h x (List.mem_range.1 hx)]
theorem s7 {n m a b:Nat} {t ss:Nat→Nat} (H:dF n t m ss) (h:Txt n t) (h2:2≤n) (ha:a<m) (hb:b<m) (hab:a=m-1∨b=m-1) (he:dw n t (ss a)=dw n t (ss b)):a=b:=by
 have hl:=H.last h h2;rcases hab with rfl | rfl
 ·rw [hl] at he;have e:=nc h (H.is b hb).2.1 he.symm;exact H.inj ha hb (by rw [hl,e])
 ·rw [hl] at he;have e:=nc h (H.is a ha).2.1 he;exact H.inj ha hb (by rw [hl,e])
theorem CC {n m a b:Nat} {t ss:Nat→Nat} (H:dF n t m ss) (h:Txt n t) (ha:a+1<m) (hb:b+1<m):pU t (ss a) (ss (a+1)+1-ss a)=pU t (ss b) (ss (b+1)+1-ss b)↔dw n t (ss a)=dw n t (ss b):=by
 obtain ⟨a1,a2⟩:=H.next h ha;obtain ⟨b1,b2⟩:=H.next h hb;have a3:=H.up a (a+1) (by omega) ha;have b3:=H.up b (b+1) (by omega) hb;rw [Fv,AY h a1 b1,a2,b2];exact ⟨fun ⟨x,y⟩=>⟨by omega,fun k hk=>y k (by omega)⟩,fun ⟨x,y⟩=>⟨by omega,fun k hk=>y k (by omega)⟩⟩
theorem Fx (b n K m:Nat) (t ss:Nat→Nat) (w:World) (hT:iJ w b n K t m ss) (h0:0<m) (hm:m≤200000) (hn:n≤200000) (H:dF n t m ss) (h2:2≤n) (ht:Txt n t) (x y:Nat) (hx:x<m) (hy:y<m) :
 Rt prog 184 [.pointer (some ⟨b,0,none⟩),.int .i32 (x:Nat),.int .i32 (y:Nat)] w (fun v w'=>(∃ r,v=.bool r∧(r=true↔dw n t (ss x)=dw n t (ss y)))∧aj w w'):=by
 obtain ⟨gl,gr,AS,cs,ge,hb,hl,hr,hss,he⟩:=hT;obtain ⟨bs,os,rfl,hsc⟩:=tz hss h0;refine enter (n:=69) Tryz.func184 rfl rfl rfl (af (aa (asb rfl (ah (ab (af (aa (mvp rfl (ae (ar rfl) (ae (ak cP rfl) (ae (an aR rfl (by exact bx aj.rfl_ (hb.rd 3 rfl))) ?_)))))))))));refine ae (aQ ck rfl) (ae (gH dP ij rfl (by omega)) (ae (kv (r:=((m-1:Nat):Int)) rfl rfl (by omega) (by omega)) (asi rfl (ah (ab (af (af (aa (mvi rfl (mvi rfl (ae (cx rfl rfl) (mvb rfl ?_))))))))))));refine Jk (t:=18) rfl (fun Q1=>?_) (fun Q1=>?_)
 ·refine aL rfl rfl (aL rfl rfl (aL rfl rfl (ae (bB (v:=.bool _) rfl rfl) (ah (ab (cW rfl (af (aa (mvi rfl (mvi rfl ?_))))))))));refine ae (cx rfl rfl) (asb rfl (ah (ab (ay (aD (bE (v:=.bool _) rfl rfl (⟨⟨_,rfl,?_⟩,aj.rfl_⟩)))))));rw [beq_iff_eq];constructor
  ·intro h;obtain rfl:x=y:=by omega
   rfl
  ·intro h;have:=s7 H ht h2 hx hy (by omega) h;omega
 refine ao rfl (mvi rfl (ao rfl (mvi rfl (ao rfl (ae (cx rfl rfl) (ae (bk (v:=.bool _) rfl rfl) (ah (ab (JV rfl (fun Q2=>?_) (fun Q2=>?_))))))))))
 ·refine af (aa (mvi rfl (mvi rfl (ae (cx rfl rfl) (asb rfl (ah (ab (ay (aD (bE (v:=.bool _) rfl rfl (⟨⟨_,rfl,?_⟩,aj.rfl_⟩)))))))))));rw [beq_iff_eq];constructor
  ·intro h;obtain rfl:x=y:=by omega
   rfl
  ·intro h;have:=s7 H ht h2 hx hy (by omega) h;omega
 have hx1:x+1<m:=by omega
 have hy1:y+1<m:=by omega
 have a1:=(H.is (x+1) hx1).2.1;have a2:=H.up x (x+1) (by omega) hx1;have b1:=(H.is (y+1) hy1).2.1;have b2:=H.up y (y+1) (by omega) hy1;refine av (ab (af ?_));apply dN 44 [(26,eqp _),(27,eqp _),(28,eqp _),(29,eqp _),(30,eqp _),(31,eqp _),(32,eqp _),(33,eqp _),(34,eqp _),(35,eqp _),(36,eqp _),(37,eqp _),(38,eqp _),(39,eqp _),(40,eqp _),(41,eqp _),(42,eqp _),(43,eqp _),(44,eqp _),(45,eqp _),(46,eqp _),(47,eqp _),(48,eqp _),(49,eqp _),(50,eqp _),(51,eqp _),(52,eqp _),(53,eqp _),(54,eqp _),(55,eqp _),(56,eqp _),(57,eqp _),(58,eqp _),(59,eqp _),(60,eqp _),(61,eqp _),(62,eqp _),(63,eqp _),(64,eqp _),(65,eqp _),(66,eqp _),(67,eqp _),(68,eqp _),(6,eqp _)] (by kernel_rfl) (by kernel_rfl) ⟨ag _,ag _,ag _,ag _,ag _,ag _,ag _,ag _,ag _,ag _,ag _,ag _,ag _,ag _,ag _,ag _,ag _,ag _,ag _,ag _,ag _,ag _,ag _,ag _,ag _,ag _,ag _,ag _,ag _,ag _,ag _,ag _,ag _,ag _,ag _,ag _,ag _,ag _,ag _,ag _,ag _,ag _,ag _,ag _,trivial⟩
 case hop=>
  constructor
  ·intro w4 D4;exact ai (aq (v:=.pointer _) rfl) rfl
  constructor
  ·intro w5 D5;rintro _ rfl;exact ai (ar rfl) rfl
  constructor
  ·intro w6 D6;rintro _ rfl;exact ai (ak cE rfl) rfl
  constructor
  ·intro w7 D7;rintro _ rfl;exact ai (an aR rfl (by exact bx (aj.rfl_.next D7) (hb.rd 0 rfl))) rfl
  constructor
  ·intro w8 D8;exact ai (aq (v:=.pointer _) rfl) rfl
  constructor
  ·intro w9 D9;rintro _ rfl;exact ai (ar rfl) rfl
  constructor
  ·intro w10 D10;rintro _ rfl;exact ai (ak cP rfl) rfl
  constructor
  ·intro w11 D11;rintro _ rfl;exact ai (an aR rfl (by exact bx (aj.rfl_.next D11) (hb.rd 3 rfl))) rfl
  constructor
  ·intro w12 D12;exact ai (aq (v:=.int _ _) rfl) rfl
  constructor
  ·intro w13 D13;rintro _ rfl _ rfl;exact ai (aX aH rfl rfl (by exact hx)) rfl
  constructor
  ·intro w14 D14;rintro _ rfl;exact ai (an aZ rfl (by exact bx (aj.rfl_.next D14) (hsc x hx))) rfl
  constructor
  ·intro w15 D15;exact ai (aq (v:=.pointer _) rfl) rfl
  constructor
  ·intro w16 D16;rintro _ rfl;exact ai (ar rfl) rfl
  constructor
  ·intro w17 D17;rintro _ rfl;exact ai (ak cP rfl) rfl
  constructor
  ·intro w18 D18;rintro _ rfl;exact ai (an aR rfl (by exact bx (aj.rfl_.next D18) (hb.rd 3 rfl))) rfl
  constructor
  ·intro w19 D19;exact ai (aq (v:=.int _ _) rfl) rfl
  constructor
  ·intro w20 D20;rintro _ rfl;exact ai (gY (r:=((x+1:Nat):Int)) rfl rfl (by omega) (by omega)) rfl
  constructor
  ·intro w21 D21;rintro _ rfl _ rfl;exact ai (aX aH rfl rfl (by exact hx1)) rfl
  constructor
  ·intro w22 D22;rintro _ rfl;exact ai (an aZ rfl (by exact bx (aj.rfl_.next D22) (hsc (x+1) hx1))) rfl
  constructor
  ·intro w23 D23;rintro _ rfl;exact ai (gY (r:=((ss (x+1)+1:Nat):Int)) rfl rfl (by omega) (by omega)) rfl
  constructor
  ·intro w24 D24;rintro _ rfl _ rfl _ rfl;exact ai (bm (l:=ss x) (h:=ss (x+1)+1) aH rfl (.inr ⟨_,_,_,rfl,rfl,rfl⟩) (.inr ⟨_,_,_,rfl,rfl,rfl⟩) (by omega) (by omega)) rfl
  constructor
  ·intro w25 D25;exact ai (aq (v:=.pointer _) rfl) rfl
  constructor
  ·intro w26 D26;rintro _ rfl;exact ai (ar rfl) rfl
  constructor
  ·intro w27 D27;rintro _ rfl;exact ai (ak cE rfl) rfl
  constructor
  ·intro w28 D28;rintro _ rfl;exact ai (an aR rfl (by exact bx (aj.rfl_.next D28) (hb.rd 0 rfl))) rfl
  constructor
  ·intro w29 D29;exact ai (aq (v:=.pointer _) rfl) rfl
  constructor
  ·intro w30 D30;rintro _ rfl;exact ai (ar rfl) rfl
  constructor
  ·intro w31 D31;rintro _ rfl;exact ai (ak cP rfl) rfl
  constructor
  ·intro w32 D32;rintro _ rfl;exact ai (an aR rfl (by exact bx (aj.rfl_.next D32) (hb.rd 3 rfl))) rfl
  constructor
  ·intro w33 D33;exact ai (aq (v:=.int _ _) rfl) rfl
  constructor
  ·intro w34 D34;rintro _ rfl _ rfl;exact ai (aX aH rfl rfl (by exact hy)) rfl
  constructor
  ·intro w35 D35;rintro _ rfl;exact ai (an aZ rfl (by exact bx (aj.rfl_.next D35) (hsc y hy))) rfl
  constructor
  ·intro w36 D36;exact ai (aq (v:=.pointer _) rfl) rfl
  constructor
  ·intro w37 D37;rintro _ rfl;exact ai (ar rfl) rfl
  constructor
  ·intro w38 D38;rintro _ rfl;exact ai (ak cP rfl) rfl
  constructor
  ·intro w39 D39;rintro _ rfl;exact ai (an aR rfl (by exact bx (aj.rfl_.next D39) (hb.rd 3 rfl))) rfl
  constructor
  ·intro w40 D40;exact ai (aq (v:=.int _ _) rfl) rfl
  constructor
  ·intro w41 D41;rintro _ rfl;exact ai (gY (r:=((y+1:Nat):Int)) rfl rfl (by omega) (by omega)) rfl
  constructor
  ·intro w42 D42;rintro _ rfl _ rfl;exact ai (aX aH rfl rfl (by exact hy1)) rfl
  constructor
  ·intro w43 D43;rintro _ rfl;exact ai (an aZ rfl (by exact bx (aj.rfl_.next D43) (hsc (y+1) hy1))) rfl
  constructor
  ·intro w44 D44;rintro _ rfl;exact ai (gY (r:=((ss (y+1)+1:Nat):Int)) rfl rfl (by omega) (by omega)) rfl
  constructor
  ·intro w45 D45;rintro _ rfl _ rfl _ rfl;exact ai (bm (l:=ss y) (h:=ss (y+1)+1) aH rfl (.inr ⟨_,_,_,rfl,rfl,rfl⟩) (.inr ⟨_,_,_,rfl,rfl,rfl⟩) (by omega) (by omega)) rfl
  constructor
  ·intro w46 D46;rintro _ rfl _ rfl;refine er sR ((yc _ _ _ _ _ _ (pU t (ss x) (ss (x+1)+1-ss x)) (pU t (ss y) (ss (y+1)+1-ss y)) _ (vm (hl.from_ (aj.rfl_.next D46)) (by omega) (by omega)) (vm (hl.from_ (aj.rfl_.next D46)) (by omega) (by omega)) lS.symm lS.symm (by omega)).mono ?_);rintro v _ ⟨rfl,E46'⟩;exact ⟨E46',rfl⟩
  constructor
  ·intro w47 D47;rintro _ rfl;exact ai (bY (v:=.bool _) rfl) rfl
  exact trivial
 case hend=>
  intro w48 D48;rintro _ rfl _ rfl _ rfl _ rfl _ rfl _ rfl _ rfl _ rfl _ rfl _ rfl _ rfl _ rfl _ rfl _ rfl _ rfl _ rfl _ rfl _ rfl _ rfl _ rfl _ rfl _ rfl _ rfl _ rfl _ rfl _ rfl _ rfl _ rfl _ rfl _ rfl _ rfl _ rfl _ rfl _ rfl _ rfl _ rfl _ rfl _ rfl _ rfl _ rfl _ rfl _ rfl _ rfl _ rfl;show St ..;refine ah (ab (ay (bE (v:=.bool _) rfl rfl (⟨⟨_,rfl,?_⟩,(aj.rfl_.next D48)⟩))));rw [decide_eq_true_iff];exact CC H ht hx1 hy1
theorem lr:az prog 165=true:=by kernel_rfl
theorem uR:az prog 184=true:=by kernel_rfl
section
variable {n m:Nat} {t ss:Nat→Nat}
open Classical in
noncomputable def iF (m:Nat) (ss:Nat→Nat) (s:Nat):Nat:=if h:∃ k,k<m∧ss k=s then Classical.choose h else 0
theorem ng (H:dF n t m ss) {k:Nat} (hk:k<m):iF m ss (ss k)=k:=by
 have h:∃ j,j<m∧ss j=ss k:=⟨k,hk,rfl⟩;unfold iF;rw [dif_pos h];have:=Classical.choose_spec h;exact H.inj this.1 hk this.2
theorem tY (H:dF n t m ss):∀ s,lms n t s→iF m ss s<m:=fun s hs=>by
 obtain ⟨k,hk,rfl⟩:=H.all s hs;rw [ng H hk];exact hk
theorem k_ (H:dF n t m ss):Ord n t (iF m ss):=⟨fun i j hi hj he=>by
 obtain ⟨a,ha,rfl⟩:=H.all i hi;obtain ⟨b,hb,rfl⟩:=H.all j hj;rw [ng H ha,ng H hb] at he;rw [he]⟩
structure B3 (n m:Nat) (ss:Nat→Nat) (k:Nat) (num:Nat→Int):Prop where
 is:∀ j,j<k→num (ss j)=((j+1:Nat):Int)
 no:∀ i,(∀ j,j<k→ss j≠i)→num i=0
theorem B3.put (H:dF n t m ss) {k:Nat} {num:Nat→Int} (h:B3 n m ss k num) (hk:k<m):B3 n m ss (k+1) (upd num (ss k) ((k+1:Nat):Int)):=by
 refine ⟨fun j hj=>?_,fun i hi=>?_⟩
 ·by_cases e:j=k
  ·subst e;rw [eF]
  ·rw [fx _ _ (fun e2=>e (H.inj (by omega) hk e2))];exact h.is j (by omega)
 ·rw [fx _ _ (fun e=>hi k (by omega) e.symm)];exact h.no i fun j hj=>hi j (by omega)
theorem B3.start {num:Nat→Int} (h:B3 n m ss m num) {i:Nat} (hi:num i≠0):∃ s,s<m∧ss s=i∧num i=((s+1:Nat):Int):=by
 by_cases e:∃ s,s<m∧ss s=i
 ·obtain ⟨s,hs,rfl⟩:=e;exact ⟨s,hs,rfl,h.is s hs⟩
 ·exact absurd (h.no i fun j hj he=>e ⟨j,hj,he⟩) hi
structure jU (n:Nat) (t idx:Nat→Nat) (r:Nat) (ol:List Nat):Prop where
 mem:∀ s,s∈ol↔lms n t s∧pos n t idx s<r
 up:ol.Pairwise fun a b=>pos n t idx a<pos n t idx b
variable {idx:Nat→Nat} {r:Nat} {ol:List Nat}
theorem jU.skip (h:jU n t idx r ol) (hno:∀ s,lms n t s→pos n t idx s≠r):jU n t idx (r+1) ol:=
 ⟨fun s=>by
  rw [h.mem];exact ⟨fun a=>⟨a.1,by omega⟩,fun a=>⟨a.1,by have:=hno s a.1;omega⟩⟩,h.up⟩
theorem jU.put (ht:Txt n t) (ho:Ord n t idx) (h:jU n t idx r ol) {i:Nat} (hi:lms n t i) (hp:pos n t idx i=r):jU n t idx (r+1) (ol++[i]):=by
 refine ⟨fun s=>?_,?_⟩
 ·rw [List.mem_append,h.mem,List.mem_singleton];constructor
  ·rintro (a | rfl)
   ·exact ⟨a.1,by omega⟩
   ·exact ⟨hi,by omega⟩
  ·rintro ⟨a,b⟩;by_cases e:pos n t idx s=r
   ·exact .inr (je ht ho a.2.1 hi.2.1 (by rw [e,hp]))
   ·exact .inl ⟨a,by omega⟩
 ·rw [List.pairwise_append];refine ⟨h.up,List.pairwise_singleton ..,fun a ha b hb=>?_⟩;rw [List.mem_singleton] at hb;subst hb;have:=(h.mem a).1 ha;omega
theorem jU.len_le (h:jU n t idx r ol):ol.length≤r:=by
 have:∀ (l:List Nat) (q:Nat),(∀ s∈l,pos n t idx s<r∧q≤pos n t idx s)→l.Pairwise (fun a b=>pos n t idx a<pos n t idx b)→l.length+q≤r∨l=[]:=by
  intro l
  induction l with
  |nil=>intro q _ _;exact .inr rfl
  |cons a l ih=>
   intro q hq hp;rw [List.pairwise_cons] at hp;have h1:=hq a (List.mem_cons_self ..);rcases ih (pos n t idx a+1) (fun s hs=>⟨(hq s (List.mem_cons_of_mem _ hs)).1,by have:=hp.1 s hs;omega⟩) hp.2 with e | e
   ·left;simp only [List.length_cons];omega
   ·subst e;left;simp;omega
 rcases this ol 0 (fun s hs=>⟨((h.mem s).1 hs).2,Nat.zero_le _⟩) h.up with e | e
 ·omega
 ·rw [e];simp
def Lst (n:Nat) (t idx:Nat→Nat) (m:Nat) (ss:Nat→Nat) (r:Nat) (nm:Nat→Nat) (kinds:Nat) (last:Int):Prop:=
 (last=-1∧∀ a,a<m→r≤pos n t idx (ss a))∨∃ b:Nat,last=b∧sr n t idx m ss r nm kinds b
def Nxt (n:Nat) (t idx:Nat→Nat) (m:Nat) (ss:Nat→Nat) (r:Nat) (nm:Nat→Nat) (kinds s kinds2:Nat):Prop:=
 (kinds2=0∧∀ a,a<m→r≤pos n t idx (ss a))∨∃ b,sr n t idx m ss r nm kinds b∧((dw n t (ss b)=dw n t (ss s)∧kinds2=kinds)∨(dw n t (ss b)≠dw n t (ss s)∧kinds2=kinds+1))
theorem B_ {s v k:Nat} {nm:Nat→Nat}:upd (fun k=>((nm k:Nat):Int)) s ((v:Nat):Int) k=((xv nm s v k:Nat):Int):=by
 unfold upd xv;split <;> rfl
end
theorem wa (b n K m:Nat) (t ss:Nat→Nat) (w:World) (hT:iJ w b n K t m ss) (h0:0<m) (hm:m≤200000) (hn:n≤200000) (hK:K≤200000) (H:dF n t m ss) (h2:2≤n) (ht:Txt n t) (hkt:∀ i,i<n→t i<K) :
 Rt prog 164 [.pointer (some ⟨b,0,none⟩)] w (fun v w'=>(∃ idx ol Ao co g nm kinds,v=.tuple #[.slice Ao ol.length co,.slice (some ⟨g,0,none⟩) m m,.int .i64 ((kinds+1:Nat):Int)]∧bA jV w' Ao (ol.map fun x:Nat=>(x:Int))∧w.heap.size≤g∧VJ w' g m (fun k=>((nm k:Nat):Int))∧nC n t idx m ss n nm kinds∧Ord n t idx∧jU n t idx n ol∧kinds≤n)∧aj w w'):=by
 have hT0:=hT;obtain ⟨gl,gr,AS,cs,ge,hb,hl,hr,hss,he⟩:=hT;obtain ⟨bs,oS,rfl,hsc⟩:=tz hss h0;refine enter (n:=88) Tryz.func164 rfl rfl rfl (af (aa (ass rfl (ass rfl (asi rfl (ah (ab (af (aa (mvp rfl (ae (ar rfl) (ae (ak cE rfl) ?_))))))))))));refine ae (an aR rfl (by exact bx aj.rfl_ (hb.rd 0 rfl))) ?_;refine ae (aQ ck rfl) (gi eO rfl rfl rfl (by omega) (by omega) ?_);intro b17 w1 E17 hb17 hk17;have hg17:w.heap.size≤b17:=by rw [hb17];exact (aj.rfl_).size
 refine ass rfl (ah (ab (af (af (aa (mvp rfl (ae (ar rfl) (ae (ak cP rfl) (ae (an aR rfl (by exact bx (aj.rfl_.next E17) (hb.rd 3 rfl))) ?_)))))))));refine ae (aQ ck rfl) (mvi rfl (ah (ab (aw (a_ (G:=Nat×(Nat→Int)) [6,7,24,25,26,27,28,29,30,31,32,33,34] (fun (k,_)=>[(23,.int .i64 (k:Nat))]) (fun (k,num) w'=>k≤m∧B3 n m ss k num∧VJ w' b17 n num∧aj w w') (fun (k,_)=>m-k) ((0,fun _=>0)) ⟨rfl,trivial⟩ ?_ ?_)))))
 ·exact ⟨Nat.zero_le _,⟨fun j h=>absurd h (by omega),fun _ _=>rfl⟩,VJ.of_blk (by rw [←iy];exact hk17),(aj.rfl_.next E17)⟩
 rintro ⟨k,num⟩ ρ2 w2 ⟨hk,hnum,hnb,hB⟩;refine af (aa (ae (aW rfl rfl) (ah (ab (af (JV rfl (fun Q3=>?_) (fun Q3=>?_)))))))
 ·have hkm:k<m:=by omega
  obtain ⟨cu,hcu,hsz,hce⟩:=id hnb;refine av (ab (af (aw (af (aa (mvi rfl (ae (aX aH rfl rfl (by exact hkm)) ?_)))))));refine ae (an aZ rfl (by exact bx hB (hsc k hkm))) ?_;refine asi rfl (asi rfl (ah (ab (aa (mvs rfl (mvi rfl (mvi rfl (ae (gH dP ij rfl (by omega)) (ae (gY (r:=((k+1:Nat):Int)) rfl rfl (by omega) (by omega)) (ae (aA aH rfl rfl (by exact (H.is k hkm).2.1)) ?_))))))))));refine bH (v:=.int _ _) cJ rfl rfl rfl (hcu) (by have:=(H.is k hkm).2.1;omega) ?_;intro w4 O5 P5;have hnb5:=VJ.put P5 hsz hce (H.is k hkm).2.1;refine ah (aI (ab (aa (ae (aG (b:=1) rfl rfl (by omega)) (mvi rfl (ah ?_))))));refine aO ((k+1,upd num (ss k) ((k+1:Nat):Int))) ⟨(by first | rfl | (refine aK ?_;omega)),trivial⟩ (by (iterate 28 refine aB rfl ?_);exact aJ) ⟨?_,?_⟩
  ·exact ⟨by omega,hnum.put H hkm,hnb5,(hB.only O5 (hg17))⟩
  ·show m-(k+1)<m-k;omega
 refine bc (aC (aC (aS (ab (af (aa (mvp rfl (ae (ar rfl) (ae (ak cP rfl) (ae (an aR rfl (by exact bx hB (hb.rd 3 rfl))) ?_))))))))));refine ae (aQ ck rfl) (gi eO rfl rfl rfl (by omega) (by omega) ?_);intro b40 w5 E40 hb40 hk40;have hg40:w.heap.size≤b40:=by rw [hb40];exact (hB).size
 have h1740:b17<b40:=by rw [hb40];exact hnb.lt
 have hnm0:VJ w5 b40 m (fun _=>0):=VJ.of_blk (by rw [iy] at hk40;exact hk40);refine ass rfl (ah (ab (af (aa (asi rfl (ah (ab (af (af (aa (mvp rfl (mvp rfl (ae (ar rfl) (ae (ak cP rfl) (ae (an aR rfl (by exact bx (hB.next E40) (hb.rd 3 rfl))) ?_)))))))))))))));refine aF lr (cz b n K m t ss _ (hT0.from_ (hB.next E40)) h2 ht hkt hn hK bs oS m cs ss (iF m ss) (fun q hq=>bx (hB.next E40) (hsc q hq)) (fun q hq=>⟨H.is q hq,ng H hq⟩) (tY H) (k_ H) hm) ?_;rintro v46 w6 ⟨⟨gI,xs,rfl,hgI,hxs,hxp⟩,E46⟩;obtain ⟨z,hz⟩:∃ z,z=(w6).heap.size:=⟨_,rfl⟩;have hIz:gI<z:=by rw [hz];exact hxs.lt
 have h40I:b40<gI:=Nat.lt_of_lt_of_le hk40.lt hgI;have hwz:w.heap.size≤z:=by omega
 obtain rfl:m=k:=by omega
 refine ae (aQ ck rfl) (mvi rfl (ah (ab (aw (a_ (G:=Nat×List Nat×Option Addr×Nat×(Nat→Nat)×Nat×Int) [10,11,49,50,51,52,53,54,55,56,57,58,59,60,61,62,63,64,65,66,67,68,69,70,71,72,73,74,75,76,77,78,79,80,81,82,83] (fun (r,ol,A2,c2,_,kinds,last)=>[(48,.int .i64 (r:Nat)),(2,.slice A2 ol.length c2),(4,.int .i64 (kinds:Nat)),(8,.int .i32 last)]) (fun (r,ol,A2,c2,nm,kinds,last) w'=>r≤n∧nC n t (iF m ss) m ss (r) nm kinds∧Lst n t (iF m ss) m ss (r) nm kinds last∧jU n t (iF m ss) (r) ol∧kinds≤r∧w'.ownsRow z 21 1 (.slice A2 ol.length c2) ol.length (ol.map fun x:Nat=>jV (x:Nat))∧VJ w' b40 m (fun k=>((nm k:Nat):Int))∧VJ w' b17 n num∧VJ w' gI n xs∧z≤w'.heap.size∧aj w w') (fun (r,_)=>n-r) ((0,[],none,0,fun _=>0,0,-1)) ⟨rfl,rfl,rfl,rfl,trivial⟩ ?_ ?_)))))
 ·refine ⟨Nat.zero_le _,xU,.inl ⟨rfl,fun _ _=>Nat.zero_le _⟩,⟨fun s=>⟨fun h=>(by cases h),fun h=>absurd h.2 (by omega)⟩,List.Pairwise.nil⟩,Nat.le_refl _,World.ownsRow_nil _ _ _ _,(hnm0.from_ E46).congr (fun _ _=>rfl),hnb.from_ ((aj.rfl_.next E40).next E46),hxs.from_ aj.rfl_,by rw [hz];exact Nat.le_refl _,((hB.next E40).next E46)⟩
 rintro ⟨r,ol,A2,c2,nm,kinds,last⟩ ρ7 w7 ⟨hr0,hI,hlast,hol,hkr,ho,hnm,hnb,hxs,hzs,hB⟩;refine af (aa (ae (aW rfl rfl) (ah (ab (af (JV rfl (fun Q8=>?_) (fun Q8=>?_)))))))
 ·have hrn:r<n:=by omega
  obtain ⟨i,hin,hir⟩:=vN ht (k_ H) hrn;have hcx:(w7).cell? ⟨gI,r,none⟩=some (.int .i32 ((i:Nat):Int)):=by rw [hxs.rd hrn,←hir,hxp i hin]
  refine av (ab (gz (G:=List Nat×Option Addr×Nat×(Nat→Nat)×Nat×Int) [10,11,50,51,52,53,54,55,56,57,58,59,60,61,62,63,64,65,66,67,68,69,70,71,72,73,74,75,76,77,78,79,80,81,82] (fun (ol,A2,c2,_,kinds,last)=>[(2,.slice A2 ol.length c2),(4,.int .i64 (kinds:Nat)),(8,.int .i32 last)]) (fun (ol,A2,c2,nm,kinds,last) w'=>nC n t (iF m ss) m ss (r+1) nm kinds∧Lst n t (iF m ss) m ss (r+1) nm kinds last∧jU n t (iF m ss) (r+1) ol∧kinds≤r+1∧w'.ownsRow z 21 1 (.slice A2 ol.length c2) ol.length (ol.map fun x:Nat=>jV (x:Nat))∧VJ w' b40 m (fun k=>((nm k:Nat):Int))∧VJ w' b17 n num∧VJ w' gI n xs∧z≤w'.heap.size∧aj w w') ?_ ?_))
  ·refine aw (af (aa (ae (aA aH rfl rfl (by exact hrn)) ?_)));refine ae (an aZ rfl (by exact bx aj.rfl_ hcx)) ?_;refine asi rfl (ah (ab (af (af (aa (mvs rfl (mvi rfl (ae (aA aH rfl rfl (by exact hin)) ?_))))))));refine ae (an aZ rfl (by exact (hnb.from_ aj.rfl_).rd hin)) ?_;refine ae (cx rfl rfl) (ah (ab (JV rfl (fun Q9=>?_) (fun Q9=>?_))))
   ·have hn0:num i=0:=by omega
    refine bc (aC (aS ?_));refine aO ((ol,A2,c2,nm,kinds,last)) ⟨rfl,rfl,rfl,trivial⟩ (by (iterate 8 refine aB rfl ?_);exact aJ) ?_
    have hno:∀ s,lms n t s→pos n t (iF m ss) s≠r:=fun s hs he=>by
     obtain ⟨a,ha,rfl⟩:=H.all s hs;have:=je ht (k_ H) hs.2.1 hin (by rw [he,hir]);have e2:=hnum.is a ha;rw [this] at e2;omega
    obtain ⟨s1,s2⟩:=Bl hI fun a ha=>hno _ (H.is a ha)
    exact ⟨s1,hlast.elim (fun a=>.inl ⟨a.1,fun q hq=>by have:=a.2 q hq;have:=hno _ (H.is q hq);omega⟩) (fun ⟨bb,x,y⟩=>.inr ⟨bb,x,s2 bb y⟩),hol.skip hno,by omega,ho.kept_from aj.rfl_,hnm.from_ aj.rfl_,hnb.from_ aj.rfl_,hxs.from_ aj.rfl_,Nat.le_trans hzs (aj.rfl_).size,hB⟩
   obtain ⟨s,hs,hsi,hns⟩:=hnum.start (i:=i) (by omega);have hls:lms n t i:=by rw [←hsi];exact H.is s hs
   have hcs:(w7).cell? ⟨b17,i,none⟩=some (.int .i32 ((s+1:Nat):Int)):=by rw [hnb.rd hin,hns]
   refine av (ab (af (aa (mvs rfl (mvi rfl (ae (aA aH rfl rfl (by exact hin)) ?_))))));refine ae (an aZ rfl (by exact bx aj.rfl_ hcs)) ?_;refine ae (kv (r:=((s:Nat):Int)) rfl rfl (by omega) (by omega)) (asi rfl (ah (ab (gz (G:=Nat) [62,63,64,65,66,67,68,69,70,71,72] (fun k2=>[(4,.int .i64 (k2:Nat))]) (fun k2 w'=>Nxt n t (iF m ss) m ss r nm kinds s k2∧k2≤r+1∧aj w7 w') ?_ ?_))))
   ·refine af (aa (mvi rfl (ae (eA rfl rfl) (mvb rfl (Jk (t:=64) rfl (fun Q10=>?_) (fun Q10=>?_))))))
    ·obtain ⟨bl,rfl,hbl⟩:∃ bl:Nat,last=bl∧sr n t (iF m ss) m ss r nm kinds bl:=hlast.elim (fun a=>absurd a.1 (by omega)) id;refine ao rfl (mvp rfl (ao rfl (mvi rfl (ao rfl (mvi rfl (ao rfl (aF uR (Fx b n K m t ss _ (hT0.from_ hB) h0 hm hn H h2 ht bl s hbl.1 hs) ?_)))))));rintro v68 w11 ⟨⟨rs,rfl,hrs⟩,E68⟩;refine ao rfl (ae (eQ rfl) (ae (bB (v:=.bool _) rfl rfl) (ah (ab (JT rfl (fun Q12=>?_) (fun Q12=>?_))))))
     ·have hkk:Nxt n t (iF m ss) m ss r nm kinds s (kinds+1):=.inr ⟨bl,hbl,.inr ⟨fun e=>by rw [hrs.2 (by rw [e,hsi])] at Q12;simp at Q12,rfl⟩⟩;refine aa (mvi rfl (ae (aG (b:=1) rfl rfl (by omega)) (asi rfl (ah ?_))));refine aO (kinds+1) ⟨(by first | rfl | (refine aK ?_;omega)),trivial⟩ (by (iterate 13 refine aB rfl ?_);exact aJ) ?_;exact ⟨hkk,by omega,(aj.rfl_.next E68)⟩
     have hkk:Nxt n t (iF m ss) m ss r nm kinds s kinds:=.inr ⟨bl,hbl,.inl ⟨hrs.1 (by simpa using Q12),rfl⟩⟩;refine av ?_;refine aO (kinds) ⟨(by first | rfl | (refine aK ?_;omega)),trivial⟩ (by (iterate 10 refine aB rfl ?_);exact aJ) ?_;exact ⟨hkk,by omega,(aj.rfl_.next E68)⟩
    have hkk:Nxt n t (iF m ss) m ss r nm kinds s kinds:=hlast.elim (fun a=>.inl ⟨hI.none a.2,a.2⟩) (fun ⟨bb,e,_⟩=>absurd e (by omega));refine aL rfl rfl (aL rfl rfl (aL rfl rfl (aL rfl rfl (aL rfl rfl (ae (bk (v:=.bool _) rfl rfl) (ah (ab (de rfl (av ?_)))))))));refine aO (kinds) ⟨(by first | rfl | (refine aK ?_;omega)),trivial⟩ (by (iterate 10 refine aB rfl ?_);exact aJ) ?_;exact ⟨hkk,by omega,aj.rfl_⟩
   rintro kinds2 ρ13 w13 ⟨hnx,hk2,hF16⟩;replace ho:=ho.kept_from hF16;replace hnm:=hnm.from_ hF16;replace hnb:=hnb.from_ hF16;replace hxs:=hxs.from_ hF16;replace hzs:=Nat.le_trans hzs hF16.size;obtain ⟨hIn,hLn⟩:=DJ ht (k_ H) H hI hs (by rw [hsi];exact hir) hnx;obtain ⟨cn,hcn,hsz,hce⟩:=id hnm;refine af (aa (mvs rfl (mvi rfl (mvi rfl (ae (gH dP ij rfl (by omega)) (ae (aA aH rfl rfl (by exact hs)) ?_))))));refine bH (v:=.int _ _) cJ rfl rfl rfl (hcn) (by omega) ?_;intro w14 O16 P16;have hnm16:=(VJ.put P16 hsz hce hs).congr (fun k _=>B_);refine ah (ab (af (aa (mvs rfl (mvi rfl (fy (v:=.int _ _) dz rfl rfl rfl ?_))))));intro b80 w15 E80 hb80 hk80;have hll:=hol.len_le;have ho16:=cf ho O16 (fun k hk=>by have:=(cd ho k hk).1;omega);refine dB (base:=z) dz rfl (by decide) rfl (A:=A2) (xs:=ol.map fun x:Nat=>jV (x:Nat)) (news:=[jV (i:Nat)]) (ho16.kept_from E80) (Nat.le_trans (by rw [O16.size];exact hzs) E80.size) rfl rfl (fun _=>⟨b80,0,rfl,hk80.whole⟩) (fun h=>by cases h) (by simp [Value.oneCell']) (by omega) (by omega) ?_;intro A81 c81 w16 ho81 hg81;have HB81:aj w w16:=((((hB.next hF16).only O16 (hg40)).next E80)).grew hg81 (fun k hk=>Nat.le_trans hwz (cd ho16 k hk).1);have hne:∀ q,A2.map (·.block)=some q→z≤q:=fun q hq=>(cd ho16 q hq).1
   have hnm17:=(hnm16.from_ E80).grown hg81 (fun q hq=>by have:=hne q hq;omega);have hnb17:=((hnb.only O16 (by omega)).from_ E80).grown hg81 (fun q hq=>by have:=hne q hq;omega);have hxs17:=((hxs.only O16 (by omega)).from_ E80).grown hg81 (fun q hq=>by have:=hne q hq;omega);have hzs17:z≤(w16).heap.size:=Nat.le_trans (Nat.le_trans (by rw [O16.size];exact hzs) E80.size) hg81.size;refine ass rfl (ah (ab (aa (mvi rfl (asi rfl (ah (aI ?_)))))));refine aO ((ol++[i],A81,c81,xv nm s kinds2,kinds2,((s:Nat):Int))) ⟨(by show Value.slice A81 (ol.length+1) c81=Value.slice A81 (ol++[i]).length c81;rw [List.length_append];rfl),rfl,rfl,trivial⟩ (by (iterate 38 refine aB rfl ?_);exact aJ) ?_;refine ⟨hIn,.inr ⟨s,rfl,hLn⟩,hol.put ht (k_ H) hls hir,by omega,?_,hnm17,hnb17,hxs17,hzs17,HB81⟩;rw [List.length_append,List.map_append];exact ho81
  rintro ⟨ol',A2',c2',nm',kinds',last'⟩ ρ17 w17 ⟨hI',hlast',hol',hkr',ho',hnm',hnb',hxs',hzs',hB⟩;refine aa (ae (aG (b:=1) rfl rfl (by omega)) (mvi rfl (ah ?_)));refine aO ((r+1,ol',A2',c2',nm',kinds',last')) ⟨(by first | rfl | (refine aK ?_;omega)),(by first | rfl | (refine aK ?_;omega)),(by first | rfl | (refine aK ?_;omega)),(by first | rfl | (refine aK ?_;omega)),trivial⟩ (by (iterate 82 refine aB rfl ?_);exact aJ) ⟨?_,?_⟩
  ·exact ⟨by omega,hI',hlast',hol',hkr',ho'.kept_from aj.rfl_,hnm'.from_ aj.rfl_,hnb'.from_ aj.rfl_,hxs'.from_ aj.rfl_,Nat.le_trans hzs' (aj.rfl_).size,hB⟩
  ·show n-(r+1)<n-r;omega
 refine bc (aC (aC (aS (ab (af (aa (mvs rfl (mvs rfl (mvi rfl (ae (aG (b:=1) rfl rfl (by omega)) (ass rfl (ass rfl (asi rfl ?_)))))))))))));refine ah (ab (ay (sI (v:=.slice _ _ _) (v':=.slice _ _ _) (v'':=.int _ _) rfl rfl rfl rfl ?_)));obtain rfl:r=n:=by omega
 exact ⟨⟨iF m ss,ol,A2,c2,b40,nm,kinds,rfl,(bA.own (l:=ol.map fun x:Nat=>(x:Int)) (by rw [List.map_map];exact ho.kept_from aj.rfl_)).2,hg40,hnm.from_ aj.rfl_,hI,k_ H,hol,hkr⟩,hB⟩
end Go.Proofs.YtcbakncjacnnjaaGreat
namespace Go.Proofs.YtcbakncjacnnjaaGreat
open Go.Proofs.Tryz (prog)
open Go.RowKit
open Go.ChangeShapes Go.WideShapes Go.ChangeAt
open Go.Proofs.YtcbakncjacnnjaaGreat.SA
abbrev pV (b:Nat):Value:=.pointer (some ⟨b,0,none⟩)
structure lq (W:World) (b n K m:Nat) (t ss:Nat→Nat):Prop where
 at_:iJ W b n K t m ss
 st:dF n t m ss
 tx:Txt n t
 n2:2≤n
 nl:n≤200000
 kl:K≤200000
 kt:∀ i,i<n→t i<K
inductive Stk (W:World) (n0:Nat) (t0:Nat→Nat):List Nat→Nat→(Nat→Nat)→Prop
 |nil:Stk W n0 t0 [] n0 t0
 |cons {bs:List Nat} {n b K m:Nat} {t ss nm:Nat→Nat}:Stk W n0 t0 bs n t→lq W b n K m t ss→(∀ a c,a<m→c<m→(sl m nm a c↔sl n t (ss a) (ss c)))→Stk W n0 t0 (bs++[b]) m nm
theorem lq.from_ {W W':World} {b n K m:Nat} {t ss:Nat→Nat} (h:lq W b n K m t ss) (hF:aj W W'):lq W' b n K m t ss:=⟨h.at_.from_ hF,h.st,h.tx,h.n2,h.nl,h.kl,h.kt⟩
theorem Stk.from_ {W W':World} {n0:Nat} {t0:Nat→Nat} {bs:List Nat} {n:Nat} {t:Nat→Nat} (h:Stk W n0 t0 bs n t) (hF:aj W W'):Stk W' n0 t0 bs n t:=by
 induction h with
 |nil=>exact .nil
 |cons _ h2 h3 ih=>exact .cons ih (h2.from_ hF) h3
section
variable {W W':World} {base:Nat} {A:Option Addr} {k c:Nat} {ys:List Value}
theorem VJ.off {g K:Nat} {f:Nat→Int} (h:VJ W g K f) (ho:W.ownsRow base 201 1 (.slice A k c) k ys) (hg:W.grownBy W' (A.map (·.block))):VJ W' g K f:=by
 obtain ⟨cur,h1,h2⟩:=h;exact ⟨cur,h1.grown hg (cY ho h1 (by decide)),h2⟩
theorem iJ.off {b n K m:Nat} {t ss:Nat→Nat} (h:iJ W b n K t m ss) (ho:W.ownsRow base 201 1 (.slice A k c) k ys) (hg:W.grownBy W' (A.map (·.block))):iJ W' b n K t m ss:=by
 obtain ⟨gl,gr,AS,cs,ge,h1,h2,h3,h4,h5⟩:=h;exact ⟨gl,gr,AS,cs,ge,h1.grown hg (cY ho h1 (by decide)),h2.off ho hg,h3.grown hg (cY ho h3 (by decide)),fun h0=>(let ⟨g,a,b⟩:=h4 h0;⟨g,a,b.off ho hg⟩),h5.off ho hg⟩
theorem lq.off {b n K m:Nat} {t ss:Nat→Nat} (h:lq W b n K m t ss) (ho:W.ownsRow base 201 1 (.slice A k c) k ys) (hg:W.grownBy W' (A.map (·.block))):lq W' b n K m t ss:=⟨h.at_.off ho hg,h.st,h.tx,h.n2,h.nl,h.kl,h.kt⟩
theorem Stk.off {n0:Nat} {t0:Nat→Nat} {bs:List Nat} {n:Nat} {t:Nat→Nat} (h:Stk W n0 t0 bs n t) (ho:W.ownsRow base 201 1 (.slice A k c) k ys) (hg:W.grownBy W' (A.map (·.block))):Stk W' n0 t0 bs n t:=by
 induction h with
 |nil=>exact .nil
 |cons _ h2 h3 ih=>exact .cons ih (h2.off ho hg) h3
end
theorem Stk.inv {W:World} {n0:Nat} {t0:Nat→Nat} {bs:List Nat} {m:Nat} {nm:Nat→Nat} (h:Stk W n0 t0 bs m nm) (h0:0<bs.length):∃ bs0 b n K t ss,bs=bs0++[b]∧Stk W n0 t0 bs0 n t∧lq W b n K m t ss∧∀ a c,a<m→c<m→(sl m nm a c↔sl n t (ss a) (ss c)):=by
 cases h with
 |nil=>exact absurd h0 (Nat.lt_irrefl 0)
 |cons a b c=>exact ⟨_,_,_,_,_,_,rfl,a,b,c⟩
theorem Stk.nil_inv {W:World} {n0:Nat} {t0:Nat→Nat} {bs:List Nat} {m:Nat} {nm:Nat→Nat} (h:Stk W n0 t0 bs m nm) (h0:bs.length=0):m=n0∧nm=t0:=by
 cases h with
 |nil=>exact ⟨rfl,rfl⟩
 |cons a b c=>simp at h0
section
variable {n m:Nat} {t ss idx:Nat→Nat}
theorem DF {nm:Nat→Nat} {kinds:Nat} (H:dF n t m ss) (h0:0<m) (hI:nC n t idx m ss n nm kinds):kinds+1≤m:=by
 rcases Nat.lt_or_ge kinds m with a | a
 ·exact a
 ·exfalso
  have hs:∀ c,c≤kinds→∃ a,a<m∧nm a=c:=fun c hc=>by
   obtain ⟨x,x1,_,x3⟩:=hI.some c hc ⟨0,h0,jF (H.is 0 h0).2.1⟩;exact ⟨x,x1,x3⟩
  let g:Nat→Nat:=fun c=>if hc:c≤kinds then Classical.choose (hs c hc) else 0
  have hg:∀ c,c≤kinds→g c<m∧nm (g c)=c:=fun c hc=>by
   have:=Classical.choose_spec (hs c hc);show (if hc:c≤kinds then Classical.choose (hs c hc) else 0)<m∧nm (if hc:c≤kinds then Classical.choose (hs c hc) else 0)=c;rw [dif_pos hc];exact this
  obtain ⟨i,hi,e⟩:=xz (n:=m+1) (f:=g) (fun i hi=>by have:=(hg i (by omega)).1;omega) (fun i j hi hj he=>by
   have a:=(hg i (by omega)).2;have b:=(hg j (by omega)).2;rw [he] at a;omega) m (by omega)
  have:=(hg i (by omega)).1;omega
noncomputable def plc (ol:List Nat) (s:Nat):Nat:=iF ol.length (fun q=>ol.getD q 0) s
theorem oW {ol:List Nat} (hi:∀ a b,a<ol.length→b<ol.length→ol.getD a 0=ol.getD b 0→a=b) {q:Nat} (hq:q<ol.length):plc ol (ol.getD q 0)=q:=by
 have h:∃ j,j<ol.length∧(fun q=>ol.getD q 0) j=ol.getD q 0:=⟨q,hq,rfl⟩;unfold plc iF;rw [dif_pos h];have:=Classical.choose_spec h;exact hi _ _ this.1 hq this.2
theorem qQ {r:Nat} {ol:List Nat} (h:jU n t idx r ol) {a b:Nat} (hab:a<b) (hb:b<ol.length):pos n t idx (ol.getD a 0)<pos n t idx (ol.getD b 0):=by
 have:=List.pairwise_iff_getElem.1 h.up a b (by omega) hb hab;rw [List.getD_eq_getElem?_getD,List.getD_eq_getElem?_getD,List.getElem?_eq_getElem hb,List.getElem?_eq_getElem (show a<ol.length by omega)];exact this
theorem jy {r:Nat} {ol:List Nat} (h:jU n t idx r ol):∀ a b,a<ol.length→b<ol.length→ol.getD a 0=ol.getD b 0→a=b:=fun a b ha hb he=>by
 rcases Nat.lt_trichotomy a b with c | c | c
 ·have:=qQ h c hb;rw [he] at this;omega
 ·exact c
 ·have:=qQ h c ha;rw [he] at this;omega
theorem DV {ol:List Nat} {q:Nat} (hq:q<ol.length):ol.getD q 0∈ol:=by
 rw [List.getD_eq_getElem?_getD,List.getElem?_eq_getElem hq];exact List.getElem_mem hq
theorem Du {ol:List Nat} {s:Nat} (h:s∈ol):∃ q,q<ol.length∧ol.getD q 0=s:=by
 obtain ⟨q,hq,e⟩:=List.getElem_of_mem h;exact ⟨q,hq,by rw [List.getD_eq_getElem?_getD,List.getElem?_eq_getElem hq];exact e⟩
theorem Ih {ol:List Nat} {nm:Nat→Nat} {kinds:Nat} (ht:Txt n t) (ho:Ord n t idx) (H:dF n t m ss) (hI:nC n t idx m ss n nm kinds) (hk:kinds+1=m) (h:jU n t idx n ol) :
 (∀ q,q<ol.length→lms n t (ol.getD q 0)∧plc ol (ol.getD q 0)=q)∧(∀ s,lms n t s→plc ol s<ol.length)∧Ord n t (plc ol)∧mg n t (plc ol):=by
 have hm:∀ s,lms n t s→∃ q,q<ol.length∧ol.getD q 0=s:=fun s hs=>Du ((h.mem s).2 ⟨hs,jF hs.2.1⟩)
 refine ⟨fun q hq=>⟨((h.mem _).1 (DV hq)).1,oW (jy h) hq⟩,fun s hs=>?_,⟨fun i j hi hj he=>?_⟩,fun i j hi hj hs=>?_⟩
 ·obtain ⟨q,hq,rfl⟩:=hm s hs;rw [oW (jy h) hq];exact hq
 ·obtain ⟨p,hp,rfl⟩:=hm i hi;obtain ⟨q,hq,rfl⟩:=hm j hj;rw [oW (jy h) hp,oW (jy h) hq] at he;rw [he]
 ·obtain ⟨a,ha,ea⟩:=H.all i hi;obtain ⟨b,hb,eb⟩:=H.all j hj;have hp:=(tU ht ho H hI hk ha hb).2 (by rw [ea,eb];exact hs);rw [ea,eb] at hp;obtain ⟨p,hp1,rfl⟩:=hm i hi;obtain ⟨q,hq,rfl⟩:=hm j hj;rw [oW (jy h) hp1,oW (jy h) hq];rcases Nat.lt_trichotomy p q with c | c | c
  ·exact c
  ·subst c;omega
  ·have:=qQ h c hp1;omega
def Rws (W:World) (g n:Nat) (t:Nat→Nat):Prop:=∃ nu:Nat→Nat,VJ W g n (fun r=>((nu r:Nat):Int))∧(∀ i,i<n→nu (rank n t i)=i)∧∀ r,r<n→nu r<n∧rank n t (nu r)=r
theorem CD {W:World} {g:Nat} {xs:Nat→Int} (ht:Txt n t) (hso:mg n t idx) (hx:VJ W g n xs) (hp:∀ i,i<n→xs (pos n t idx i)=(i:Nat)):Rws W g n t:=by
 have hs:∀ r,r<n→∃ i,i<n∧rank n t i=r:=xz (fun i hi=>jd hi) (fun i j hi hj he=>gd ht hi hj he);have hr:∀ i,i<n→xs (rank n t i)=(i:Nat):=fun i hi=>by rw [←C_ ht hso hi];exact hp i hi
 refine ⟨fun r=>(xs r).toNat,hx.congr fun r hr2=>?_,fun i hi=>?_,fun r hr2=>?_⟩
 ·obtain ⟨i,hi,rfl⟩:=hs r hr2;show xs (rank n t i)=((xs (rank n t i)).toNat:Int);rw [hr i hi,Int.toNat_natCast]
 ·show (xs (rank n t i)).toNat=i;rw [hr i hi];simp
 ·obtain ⟨i,hi,rfl⟩:=hs r hr2;show (xs (rank n t i)).toNat<n∧rank n t (xs (rank n t i)).toNat=rank n t i;rw [hr i hi];simpa using hi
theorem Dl {n1:Nat} {t1 nu:Nat→Nat} (ht:Txt n t) (H:dF n1 t1 n ss) (hrel:∀ a c,a<n→c<n→(sl n t a c↔sl n1 t1 (ss a) (ss c))) (hnu:∀ r,r<n→nu r<n∧rank n t (nu r)=r) :
 (∀ q,q<n→lms n1 t1 (ss (nu q))∧rank n t (iF n ss (ss (nu q)))=q)∧(∀ s,lms n1 t1 s→rank n t (iF n ss s)<n)∧Ord n1 t1 (fun s=>rank n t (iF n ss s))∧mg n1 t1 (fun s=>rank n t (iF n ss s)):=by
 refine ⟨fun q hq=>⟨H.is _ (hnu q hq).1,?_⟩,fun s hs=>?_,⟨fun i j hi hj he=>?_⟩,fun i j hi hj hs=>?_⟩
 ·rw [ng H (hnu q hq).1];exact (hnu q hq).2
 ·exact jd (tY H s hs)
 ·exact (k_ H).inj i j hi hj (gd ht (tY H i hi) (tY H j hj) he)
 ·obtain ⟨a,ha,rfl⟩:=H.all i hi;obtain ⟨b,hb,rfl⟩:=H.all j hj;show rank n t (iF n ss (ss a))<rank n t (iF n ss (ss b));rw [ng H ha,ng H hb];exact iB ((hrel a b ha hb).2 hs)
theorem oV (h:Txt n t):rank n t (n-1)=0:=h_ fun j hj ⟨k,h1,h2,h3,h4⟩=>by
 obtain rfl:k=0:=by omega
 rw [Nat.add_zero,Nat.add_zero,h.last] at h4;omega
theorem ue {L:List Nat} (hx:∀ x∈L,x<512) (i:Nat):bQ L i<513:=by
 unfold bQ;split
 ·have:=hx _ (List.getElem_mem ‹_›);omega
 ·omega
end
end Go.Proofs.YtcbakncjacnnjaaGreat
namespace Go.Proofs.YtcbakncjacnnjaaGreat
open Go.Proofs.Tryz (prog)
open Go.RowKit
open Go.ChangeShapes Go.WideShapes Go.ChangeAt
open Go.Proofs.YtcbakncjacnnjaaGreat.SA
theorem mc:cN prog 204=some (201,1):=by kernel_rfl
theorem l_:fH prog 204=some (201,1,8,(.pointer none)):=by kernel_rfl
theorem r5:az prog 163=true:=by kernel_rfl
theorem mb:az prog 162=true:=by kernel_rfl
theorem ma:az prog 164=true:=by kernel_rfl
theorem jS:(cN prog 204).isSome=true:=by kernel_rfl
theorem r4:az prog 166=true:=by kernel_rfl
theorem dL:kB prog 86=some (3,8,(.int .i64 0)):=by kernel_rfl
theorem iR:(prog.underlying 21).isSome=true:=by kernel_rfl
theorem b_:dK prog 3=some 1:=by kernel_rfl
theorem Dj {w:World} {base e n c:Nat} {A:Option Addr} {xs:List Value} (h:w.ownsRow base e 1 (.slice A n c) n xs):c≤9223372036854775807:=by
 rcases h.2 with ⟨h0,_⟩ | ⟨g,cap,cur,hv,_,_,_,h3,_⟩
 ·simp only [Value.slice.injEq] at h0;omega
 ·simp only [Value.slice.injEq] at hv;unfold maxLen at h3;omega
theorem Cm {w:World} {A:Option Addr} {bs:List Nat} {b:Nat} (h:bA pV w A (bs++[b])):∃ gs oS,A=some ⟨gs,oS,none⟩∧w.cell? ⟨gs,oS+bs.length,none⟩=some (pV b)∧bA pV w (some ⟨gs,oS,none⟩) bs:=by
 obtain ⟨gs,oS,rfl,hc⟩:=h (by simp);refine ⟨gs,oS,rfl,?_,fun _=>⟨gs,oS,rfl,fun i hi=>?_⟩⟩
 ·have:=hc bs.length (by simp);simpa using this
 ·have:=hc i (by simp;omega)
  rwa [List.getElem_append_left hi] at this
theorem A_ {w:World} {A:Option Addr} {ol:List Nat} (h:bA jV w A (ol.map fun x:Nat=>(x:Int))) (h0:0<ol.length):∃ bo oo,A=some ⟨bo,oo,none⟩∧∀ q,q<ol.length→w.cell? ⟨bo,oo+q,none⟩=some (.int .i32 ((ol.getD q 0:Nat):Int)):=by
 obtain ⟨bo,oo,rfl,hc⟩:=h (by simpa using h0);refine ⟨bo,oo,rfl,fun q hq=>?_⟩;have:=hc q (by simpa using hq);rw [List.getElem_map] at this;rw [List.getD_eq_getElem?_getD,List.getElem?_eq_getElem hq];exact this
theorem AC (A:Option Addr) (c N0:Nat) (L:List Nat) (w:World) (hr:bA iV w A (L.map fun x:Nat=>(x:Int))) (hN:N0=L.length) (hl:N0≤131072) (hx:∀ x∈L,x<512) :
 Rt prog 134 [.slice A N0 c] w (fun v w'=>(∃ g ys,v=.slice (if N0=0 then none else some ⟨g,0,none⟩) N0 N0∧w.heap.size≤g∧(0<N0→Blk w' g 3 (ku N0 ys))∧∀ i,i<N0→0<rank (N0+1) (bQ L) i∧ys (rank (N0+1) (bQ L) i-1)=(i:Nat))∧aj w w'):=by
 refine enter (n:=81) Tryz.func134 rfl rfl rfl (af (aa (ass rfl (ah (ab (af (af (aa (mvs rfl (ae (aQ bu rfl) (ae (cx rfl rfl) (ah (ab (JV rfl (fun Q1=>?_) (fun Q1=>?_)))))))))))))))
 ·refine af (aa (ass rfl (ah (ab (ay (aD (bE (v:=.slice _ _ _) rfl rfl ?_)))))));obtain rfl:N0=0:=by omega
  exact ⟨⟨w.heap.size,fun _=>0,rfl,Nat.le_refl _,fun h=>absurd h (by omega),fun i h=>absurd h (by omega)⟩,aj.rfl_⟩
 have hN0:0<N0:=by omega
 have htx:Txt (N0+1) (bQ L):=by rw [hN];exact fJ L
 refine av (ab (af (aa (mvs rfl (aF r5 (xt A c N0 L _ (hr.from_ aj.rfl_) hN hl hx) ?_)))));rintro v16 w2 ⟨⟨g16,rfl,hg16,hv16⟩,E16⟩;refine aF mb (cw g16 (N0+1) 513 (bQ L) _ (VJ.of_blk hv16) htx (fun i _=>ue hx i) (by omega) (by omega)) ?_;rintro v17 w3 ⟨⟨b,m,ss,rfl,hta,hst⟩,E17⟩;refine asp rfl (ah (ab (af (aa (ass rfl (ah (ab (af (aa (mvp rfl ?_))))))))));refine aF ma (wa b (N0+1) 513 m (bQ L) ss _ hta (hst.pos htx (by omega)) (by have:=hst.less htx (by omega);omega) (by omega) (by omega) hst (by omega) htx (fun i _=>ue hx i)) ?_;rintro v20 w4 ⟨⟨idx,ol,Ao,co,gN,nm,kinds,rfl,hro,hgN,hnm,hI,hord,hrow,hkn⟩,E20⟩;refine mvt rfl (ae (ax rfl rfl) (ae (ax rfl rfl) (ae (ax rfl rfl) (ass rfl (ass rfl (asi rfl (ah (ab (af (aw (a_ (G:=List Nat×Option Addr×Nat×Nat×Nat×Nat×Nat×(Nat→Nat)×(Nat→Nat)×(Nat→Nat)×(Nat→Nat)×List Nat×Option Addr×Nat×Nat×Nat) [24,25,26,27,28,29,30,31,32,33,34,35,36,37,38,39,40] (fun (bs,AS,cs,b,_,_,m,_,_,_,_,ol,Ao,co,g,kinds)=>[(3,.pointer (some ⟨b,0,none⟩)),(4,.slice AS bs.length cs),(5,.slice Ao ol.length co),(6,.slice (some ⟨g,0,none⟩) m m),(7,.int .i64 ((kinds+1:Nat):Int))]) (fun (bs,AS,cs,b,n,K,m,t,ss,nm,idx,ol,Ao,co,g,kinds) w'=>Stk w' (N0+1) (bQ L) bs n t∧lq w' b n K m t ss∧w'.ownsRow w.heap.size 201 1 (.slice AS bs.length cs) bs.length (bs.map pV)∧bA jV w' Ao (ol.map fun x:Nat=>(x:Int))∧VJ w' g m (fun k=>((nm k:Nat):Int))∧nC n t idx m ss n nm kinds∧SA.Ord n t idx∧jU n t idx n ol∧kinds≤n∧bs.length+n≤200000∧aj w w') (fun (_,_,_,_,n,_)=>n) (([],none,0,b,N0+1,513,m,bQ L,ss,nm,idx,ol,Ao,co,gN,kinds)) ⟨rfl,rfl,rfl,rfl,rfl,trivial⟩ ?_ ?_)))))))))))
 ·exact ⟨.nil,⟨hta.from_ E20,hst,htx,by omega,by omega,by omega,fun i _=>ue hx i⟩,World.ownsRow_nil _ _ _ _,hro,hnm,hI,hord,hrow,hkn,by simp;omega,(((aj.rfl_.next E16).next E17).next E20)⟩
 rintro ⟨bs,AS,cs,b,n,K,m,t,ss,nm,idx,ol,Ao,co,g,kinds⟩ ρ5 w5 ⟨hstk,hok,ho,hro,hnm,hI,hord,hrow,hkn,hbn,hB⟩;refine af (af (aa (mvi rfl (mvs rfl (ae (aQ ck rfl) (ae (aW rfl rfl) (ah (ab (JV rfl (fun Q6=>?_) (fun Q6=>?_))))))))))
 ·have hkm:kinds+1<m:=by omega
  have hless:=hok.st.less hok.tx hok.n2;have hred:=zv hok.tx hok.n2 hord hok.st hI;have hnl:=hok.nl;refine av (ab (aw (af (aa (mvs rfl (mvp rfl (fy (v:=.pointer _) l_ rfl rfl rfl ?_)))))));intro b30 w7 E30 hb30 hk30;refine dB (base:=w.heap.size) l_ rfl (by decide) rfl (A:=AS) (xs:=bs.map pV) (news:=[pV b]) (ho.kept_from E30) ((hB.next E30).size) rfl rfl (fun _=>⟨b30,0,rfl,hk30.whole⟩) (fun h=>by cases h) (by simp [Value.oneCell']) (by omega) (by omega) ?_;intro A31 c31 w8 ho31 hg31;have hoq:=ho.kept_from E30;have HB31:aj w w8:=((hB.next E30)).grew hg31 (fun k hk=>(cd ho k hk).1);have hstk31:=(hstk.from_ E30).off hoq hg31;have hok31:=(hok.from_ E30).off hoq hg31;have hnm31:=(hnm.from_ E30).off hoq hg31;refine ass rfl (ah (ab (af (aa (mvs rfl (mvi rfl (aF mb (cw g m (kinds+1) nm _ hnm31 hred.1 (fun i hi=>by have:=hred.2 i hi;omega) (by omega) (by omega)) ?_)))))));rintro v34 w9 ⟨⟨b2,m2,ss2,rfl,hta2,hst2⟩,E34⟩;refine asp rfl (ah (ab (aa (mvp rfl ?_))));refine aF ma (wa b2 m (kinds+1) m2 nm ss2 _ hta2 (hst2.pos hred.1 (by omega)) (by have:=hst2.less hred.1 (by omega);omega) (by omega) (by omega) hst2 (by omega) hred.1 (fun i hi=>by have:=hred.2 i hi;omega)) ?_;rintro v37 w10 ⟨⟨idx2,ol2,Ao2,co2,gN2,nm2,kinds2,rfl,hro2,hgN2,hnm2,hI2,hord2,hrow2,hkn2⟩,E37⟩;refine mvt rfl (ae (ax rfl rfl) (ae (ax rfl rfl) (ae (ax rfl rfl) (ass rfl (ass rfl (asi rfl (ah (aI ?_))))))));refine aO ((bs++[b],A31,c31,b2,m,kinds+1,m2,nm,ss2,nm2,idx2,ol2,Ao2,co2,gN2,kinds2)) ⟨rfl,(by show Value.slice A31 (bs.length+1) c31=Value.slice A31 (bs++[b]).length c31;rw [List.length_append];rfl),rfl,rfl,rfl,trivial⟩ (by (iterate 44 refine aB rfl ?_);exact aJ) ⟨?_,?_⟩
  ·refine ⟨.cons ((hstk31.from_ E34).from_ E37) ((hok31.from_ E34).from_ E37) (fun a c ha hc=>FU hok.tx hok.n2 hord hok.st hI ha hc),⟨hta2.from_ E37,hst2,hred.1,by omega,by omega,by omega,fun i hi=>by have:=hred.2 i hi;omega⟩,?_,hro2,hnm2,hI2,hord2,hrow2,hkn2,by rw [List.length_append];simp;omega,((HB31.next E34).next E37)⟩;rw [List.length_append,List.map_append];exact (ho31.kept_from E34).kept_from E37
  ·show m<n;exact hless
 have hkm:kinds+1=m:=by have:=DF hok.st (hok.st.pos hok.tx hok.n2) hI;omega
 obtain ⟨ho1,ho2,ho3,hso⟩:=Ih hok.tx hord hok.st hI hkm hrow;have h0l:0<ol.length:=by have:=ho2 _ (lX hok.tx hok.n2);omega
 obtain ⟨bo,oo,rfl,hoc⟩:=A_ hro h0l;have hll:=hrow.len_le;have hnl:=hok.nl;have hcs:cs≤9223372036854775807:=Dj ho;refine bc (aC (aC (aS (ab (af (aa (mvp rfl (mvs rfl (aF lr (cz b n K m t ss _ (hok.at_.from_ aj.rfl_) hok.n2 hok.tx hok.kt hok.nl hok.kl bo oo ol.length co (fun q=>ol.getD q 0) (plc ol) (fun q hq=>bx aj.rfl_ (hoc q hq)) ho1 ho2 ho3 (by omega)) ?_)))))))));rintro v43 w11 ⟨⟨g43,xs,rfl,hg43,hxs,hxp⟩,E43⟩;refine ass rfl (ah (ab (af (aw (a_ (G:=Nat×List Nat×Option Addr×Nat×Nat×Nat×(Nat→Nat)×Nat) [44,45,46,47,48,49,50,51,52,53,54,55,56,57,58,59,60,61,62] (fun (q,_,AS,cs,b,n,_,g)=>[(3,.pointer (some ⟨b,0,none⟩)),(4,.slice AS q cs),(8,.slice (some ⟨g,0,none⟩) n n)]) (fun (q,bs,AS,cs,b,n,t,g) w'=>q=bs.length∧Stk w' (N0+1) (bQ L) bs n t∧Txt n t∧n≤200000∧Rws w' g n t∧bA pV w' AS bs∧q≤cs∧cs≤9223372036854775807∧q≤200000∧aj w w') (fun (q,_)=>q) ((bs.length,bs,AS,cs,b,n,t,g43)) ⟨rfl,rfl,rfl,trivial⟩ ?_ ?_)))))
 ·have hrp:=(bA.own (ho.kept_from E43)).2;exact ⟨rfl,hstk.from_ E43,hok.tx,hok.nl,CD hok.tx hso hxs hxp,hrp,nU ho,hcs,by omega,(hB.next E43)⟩
 rintro ⟨q,bs,AS,cs,b,n,t,g⟩ ρ12 w12 ⟨hq,hstk,htx,hnl,hrw,hrp,hqc,hcs,hql,hB⟩;refine af (af (aa (mvs rfl (ae (aQ jS rfl) (ae (cL rfl rfl) (ah (ab (JV rfl (fun Q13=>?_) (fun Q13=>?_)))))))))
 ·obtain ⟨bs0,b0,n1,K1,t1,ss1,rfl,hstk0,hok0,hrel⟩:=hstk.inv (by omega);obtain ⟨gs,oS,rfl,hcell,hrp0⟩:=Cm hrp;have hq0:q-1=bs0.length:=by rw [List.length_append] at hq;simp at hq;omega
  obtain ⟨nu,hnv,hnr,hnu⟩:=hrw;obtain ⟨ho1,ho2,ho3,ho4⟩:=Dl htx hok0.st hrel hnu;refine av (ab (aw (af (aa (mvs rfl (mvs rfl (ae (aQ jS rfl) (ae (bP (b:=1) rfl rfl (by omega)) (ae (aX mc rfl rfl (by omega)) (ae (an cA rfl (by exact bx aj.rfl_ (by rw [hq0];exact hcell))) ?_))))))))));refine asp rfl (ah (ab (af (aa (mvs rfl (mvs rfl (ae (aQ jS rfl) (ae (bP (b:=1) rfl rfl (by omega)) (ae (vG (m:=q-1) mc rfl rfl (by omega)) (ass rfl (ah (ab (aa ?_)))))))))))));refine mvp rfl (mvp rfl (mvs rfl (aF r4 (vw b0 n1 K1 n t1 ss1 _ (hok0.at_.from_ aj.rfl_) htx.pos hnl g nu (hnv.from_ aj.rfl_) (fun r hr=>(hnu r hr).1)) ?_)));rintro v61 w14 ⟨⟨g61,rfl,hg61,hv61⟩,E61⟩;refine aF lr (cz b0 n1 K1 n t1 ss1 _ ((hok0.at_.from_ (aj.rfl_.next E61))) hok0.n2 hok0.tx hok0.kt hok0.nl hok0.kl g61 0 n n (fun q=>ss1 (nu q)) (fun s=>rank n t (iF n ss1 s)) (fun q hq=>by rw [Nat.zero_add];exact hv61.rdN hq) ho1 ho2 ho3 hnl) ?_;rintro v62 w15 ⟨⟨g62,xs2,rfl,hg62,hxs2,hxp2⟩,E62⟩;refine ass rfl (ah (aI ?_));refine aO ((q-1,bs0,some ⟨gs,oS,none⟩,cs,b0,n1,t1,g62)) ⟨rfl,rfl,rfl,trivial⟩ (by (iterate 44 refine aB rfl ?_);exact aJ) ⟨?_,?_⟩
  ·exact ⟨hq0,(hstk0.from_ E61).from_ E62,hok0.tx,hok0.nl,CD hok0.tx ho4 hxs2 hxp2,(hrp0.from_ E61).from_ E62,by omega,hcs,by omega,((hB.next E61).next E62)⟩
  ·show q-1<q;omega
 obtain ⟨rfl,rfl⟩:=hstk.nil_inv (by omega);obtain ⟨nu,hnv,hnr,hnu⟩:=hrw;refine bc (aC (aC (aS (ab (af (aa (mvs rfl (ae (aQ bu rfl) (gi dL rfl rfl rfl (by omega) (by omega) ?_)))))))));intro b65 w16 E65 hb65 hk65;have hg65:w.heap.size≤b65:=by rw [hb65];exact (hB).size
 have hgl:g<b65:=by rw [hb65];exact hnv.lt
 refine ass rfl (ah (ab (af (af (aa (mvs rfl ?_))))));refine ae (eR (v':=.slice (some ⟨g,1,none⟩) N0 N0) (CX (m:=1) aH rfl rfl (by omega) (Nat.le_refl _)) (by rw [if_neg (by omega)];rfl)) ?_;refine ae (aQ ck rfl) (mvi rfl (ah (ab (aw (a_ (G:=Nat×(Nat→Int)) [10,11,70,71,72,73,74,75,76,77,78,79] (fun (k,_)=>[(69,.int .i64 (k:Nat))]) (fun (k,ys) w'=>k≤N0∧(∀ i,i<k→ys i=((nu (1+i):Nat):Int))∧Blk w' b65 3 (ku N0 ys)∧VJ w' g (N0+1) (fun r=>((nu r:Nat):Int))∧aj w w') (fun (k,_)=>N0-k) ((0,fun _=>0)) ⟨rfl,trivial⟩ ?_ ?_)))))
 ·exact ⟨Nat.zero_le _,fun i h=>absurd h (by omega),by rw [←sZ];exact hk65,hnv.from_ E65,(hB.next E65)⟩
 rintro ⟨k,ys⟩ ρ17 w17 ⟨hk,hys,hT,hnv,hB⟩;refine af (aa (ae (aW rfl rfl) (ah (ab (af (JV rfl (fun Q18=>?_) (fun Q18=>?_)))))))
 ·have hkN:k<N0:=by omega
  have hnk:=(hnu (1+k) (by omega)).1;refine av (ab (af (aw (af (aa (mvi rfl (ae (aX aH rfl rfl (by exact hkN)) ?_)))))));refine ae (an aZ rfl (by exact (hnv.from_ aj.rfl_).rdN (by omega))) ?_;refine asi rfl (asi rfl (ah (ab (aa (mvs rfl (mvi rfl (mvi rfl (ae (ef iR eK rfl (by omega)) (ae (aA bJ rfl rfl (by exact hkN)) ?_)))))))));refine bH (v:=.int _ _) b_ rfl rfl rfl (hT) (by rw [jv];exact hkN) ?_;intro w19 O19 P19;have P19b:Blk w19 b65 3 (ku N0 (upd ys k ((nu (1+k):Nat):Int))):=by rw [←vp];exact P19
  refine ah (aI (ab (aa (ae (aG (b:=1) rfl rfl (by omega)) (mvi rfl (ah ?_))))));refine aO ((k+1,upd ys k ((nu (1+k):Nat):Int))) ⟨(by first | rfl | (refine aK ?_;omega)),trivial⟩ (by (iterate 26 refine aB rfl ?_);exact aJ) ⟨?_,?_⟩
  ·refine ⟨by omega,fun i hi=>?_,P19b,hnv.only O19 (by omega),(hB.only O19 (hg65))⟩;unfold upd;split
   ·rename_i e;rw [e]
   ·exact hys i (by omega)
  ·show N0-(k+1)<N0-k;omega
 refine bc (aC (aC (aS (ab (af (aa (mvs rfl (ass rfl (ah (ab (ay (bE (v:=.slice _ _ _) rfl rfl ?_))))))))))));obtain rfl:N0=k:=by omega
 refine ⟨⟨b65,ys,by rw [if_neg (by omega)],hg65,fun _=>hT,fun i hi=>?_⟩,hB⟩
 have h0r:0<rank (N0+1) (bQ L) i:=by
  rcases Nat.eq_zero_or_pos (rank (N0+1) (bQ L) i) with e | e
  ·have:=gd htx (show i<N0+1 by omega) (show N0+1-1<N0+1 by omega) (by rw [e,oV htx]);omega
  ·exact e
 have hrl:=jd (n:=N0+1) (t:=bQ L) (show i<N0+1 by omega);refine ⟨h0r,?_⟩;rw [hys _ (by omega),show 1+(rank (N0+1) (bQ L) i-1)=rank (N0+1) (bQ L) i by omega,hnr i (by omega)]
theorem uQ:az prog 133=true:=by kernel_rfl
theorem uP:az prog 134=true:=by kernel_rfl
structure gT (L F:List Nat):Prop where
 len:F.length=L.length
 at_:∀ r (h:r<F.length),F[r]<L.length∧rank (L.length+1) (bQ L) F[r]=r+1
theorem GF {L:List Nat} {N:Nat} {ys:Nat→Int} (hN:N=L.length) (h:∀ i,i<N→0<rank (N+1) (bQ L) i∧ys (rank (N+1) (bQ L) i-1)=(i:Nat)):∃ F,gT L F∧∀ r,r<N→ys r=((F.getD r 0:Nat):Int):=by
 subst hN;have ht:=fJ L
 have hs:∀ r,r<L.length→∃ i,i<L.length∧rank (L.length+1) (bQ L) i-1=r:=xz (fun i hi=>by have:=jd (n:=L.length+1) (t:=bQ L) (show i<L.length+1 by omega);have:=(h i hi).1;omega) (fun i j hi hj he=>by
  have a:=(h i hi).1;have b:=(h j hj).1;exact gd ht (by omega) (by omega) (by omega))
 refine ⟨(List.range L.length).map fun r=>(ys r).toNat,⟨by simp,fun r hr=>?_⟩,fun r hr=>?_⟩
 ·have hr2:r<L.length:=by simpa using hr
  obtain ⟨i,hi,e⟩:=hs r hr2;obtain ⟨h0,h1⟩:=h i hi;rw [List.getElem_map,List.getElem_range];rw [e] at h1;rw [h1,Int.toNat_natCast];exact ⟨hi,by omega⟩
 ·obtain ⟨i,hi,e⟩:=hs r hr;obtain ⟨h0,h1⟩:=h i hi;rw [e] at h1;rw [List.getD_eq_getElem?_getD,List.getElem?_map,List.getElem?_range hr];simp [h1]
theorem vZ:∀ {xs:List Int},xs.all (okS 512)=true→∃ L:List Nat,xs=L.map (fun x:Nat=>(x:Int))∧∀ x∈L,x<512
 |[],_=>⟨[],rfl,fun _ h=>(by cases h)⟩
 |x::xs,h=>by
  rw [List.all_cons,Bool.and_eq_true] at h;obtain ⟨L,e,hL⟩:=vZ h.2;obtain ⟨h1,h2⟩:=zC.1 h.1;refine ⟨x.toNat::L,?_,fun y hy=>?_⟩
  ·rw [List.map_cons,←e,Int.toNat_of_nonneg h1]
  ·rcases List.mem_cons.1 hy with rfl | hy
   ·omega
   ·exact hL y hy
theorem Ag {L:List Nat} (h:∀ x∈L,x<512):(L.map fun x:Nat=>(x:Int)).all (okS 512)=true:=by
 rw [List.all_eq_true];intro x hx;obtain ⟨y,hy,rfl⟩:=List.mem_map.1 hx;have:=h y hy;exact qn (by omega) (by omega)
def J7 (w':World) (base n:Nat) (xs:List Int) (v:Value):Prop:=
 (xs.all (okS 512)=false∧v=.tuple #[.slice none 0 0,.int .i64 1])∨(∃ L F A',xs=L.map (fun x:Nat=>(x:Int))∧(∀ x∈L,x<512)∧gT L F∧v=.tuple #[.slice A' n n,.int .i64 0]∧w'.ownsRow base 3 1 (.slice A' n n) n (F.map fun x:Nat=>iV (x:Nat)))
theorem Gf {w:World} {base g n:Nat} {ys:Nat→Int} {F:List Nat} (hg:base≤g) (hb:0<n→Blk w g 3 (ku n ys)) (hn:n=F.length) (hl:n≤1000000) (h:∀ r,r<n→ys r=((F.getD r 0:Nat):Int)):w.ownsRow base 3 1 (.slice (if n=0 then none else some ⟨g,0,none⟩) n n) n (F.map fun x:Nat=>iV (x:Nat)):=by
 by_cases e:n=0
 ·subst e;rw [if_pos rfl];obtain rfl:F=[]:=List.eq_nil_of_length_eq_zero hn.symm;exact World.ownsRow_nil _ _ _ _
 ·rw [if_neg e];refine gv (cur:=(List.range n).map fun i=>iV (ys i)) hg (hb (by omega)) (Nat.le_refl _) (by unfold maxLen;omega) (by simp) ?_;rw [Nat.mul_one,List.take_of_length_le (by simp)];apply List.ext_getElem (by simp [hn]);intro r h1 h2;have hr:r<n:=by simpa using h1
  rw [List.getElem_map,List.getElem_range,List.getElem_map,h r hr,List.getD_eq_getElem?_getD,List.getElem?_eq_getElem (by omega)];rfl
theorem zk (A:Option Addr) (c n:Nat) (xs:List Int) (w:World) (hr:bA iV w A xs) (hn:n=xs.length) (hl:n≤131072) :
 Rt prog 94 [.slice A n c] w (fun v w'=>J7 w' w.heap.size n xs v∧aj w w'):=by
 refine enter (n:=12) Tryz.func94 rfl rfl rfl (af (aa (ass rfl (asi rfl (ah (ab (af (af (aa (mvs rfl (aF uQ (xy A c n xs _ (hr.from_ aj.rfl_) hn (by omega)) ?_)))))))))));rintro v5 w1 ⟨rfl,E5⟩;refine ae (eQ rfl) (ah (ab (JT rfl (fun Q2=>?_) (fun Q2=>?_))))
 ·have hno:xs.all (okS 512)=false:=by simpa using Q2
  refine af (aa (ass rfl (asi rfl (ah (ab (ay (aD (cV (v:=.slice _ _ _) (v':=.int _ _) rfl rfl rfl (⟨.inl ⟨hno,rfl⟩,(aj.rfl_.next E5)⟩)))))))))
 have hall:xs.all (okS 512)=true:=by simpa using Q2
 obtain ⟨L,hxs,hL⟩:=vZ hall;refine av (ab (af (af (aa (mvs rfl (ae (aQ bu rfl) (ae (cL rfl rfl) (ah (ab (JV rfl (fun Q3=>?_) (fun Q3=>?_)))))))))))
 ·refine af (aa (ass rfl (asi rfl (ah (ab (ay (aD (cV (v:=.slice _ _ _) (v':=.int _ _) rfl rfl rfl ?_))))))));exfalso;omega
 refine av (ab (af (aa (mvs rfl ?_))));have hB11:aj w w1:=(aj.rfl_.next E5);refine aF uP (AC A c n L _ (by rw [←hxs];exact hr.from_ (aj.rfl_.next E5)) (by rw [hn,hxs,List.length_map]) hl hL) ?_;rintro v11 w4 ⟨⟨g,ys,rfl,hg,hb,hys⟩,E11⟩;refine ass rfl (asi rfl (ah (ab (ay (cV (v:=.slice _ _ _) (v':=.int _ _) rfl rfl rfl ?_)))));obtain ⟨F,hF,hFy⟩:=GF (show n=L.length by rw [hn,hxs,List.length_map]) hys;exact ⟨.inr ⟨L,F,_,hxs,hL,hF,rfl,gx (Gf hg hb (by rw [hF.len,hn,hxs,List.length_map]) (by omega) hFy) hB11.size⟩,((aj.rfl_.next E5).next E11)⟩
theorem GY {L:List Nat} {i:Nat} (h:i<L.length):bQ L i=L[i]+1:=by unfold bQ;rw [dif_pos h]
theorem rI {L:List Nat}:bQ L L.length=0:=by unfold bQ;rw [dif_neg (Nat.lt_irrefl _)]
theorem rowL {w:World} {A:Option Addr} {L:List Nat} (h:bA iV w A (L.map fun x:Nat=>(x:Int))) (h0:0<L.length):∃ b o,A=some ⟨b,o,none⟩∧∀ i (hi:i<L.length),w.cell? ⟨b,o+i,none⟩=some (.int .i64 ((L[i]:Nat):Int)):=by
 obtain ⟨b,o,rfl,hc⟩:=h (by simpa using h0);refine ⟨b,o,rfl,fun i hi=>?_⟩;have:=hc i (by simpa using hi)
 rwa [List.getElem_map] at this
abbrev cI (l:List Nat):List Int:=l.map fun x:Nat=>(x:Int)
structure Got (w:World) (A:Option Addr) (n c:Nat) (l:List Nat):Prop where
 len:n=l.length
 row:bA iV w A (cI l)
 nil:A=none→c=0
 cap:n≤c
structure Mg (n:Nat) (t:Nat→Nat) (a out xs ys:List Nat):Prop where
 mem:∀ z,z∈a↔z∈out∨z∈xs∨z∈ys
 px:(out++xs).Pairwise (sl n t)
 py:(out++ys).Pairwise (sl n t)
 dj:∀ z,z∈xs→z∈ys→False
 len:out.length+xs.length+ys.length=a.length
def Kf (w w':World) (n:Nat) (t:Nat→Nat) (a:List Nat) (v:Value):Prop:=∃ B c F,v=.slice B a.length c∧Got w' B a.length c F∧(∀ z,z∈F↔z∈a)∧F.Pairwise (sl n t)∧aj w w'
theorem yo {a b:List Nat} (h:cI a=cI b):a=b:=by
 have:=congrArg (List.map Int.toNat) h;simpa [cI,List.map_map,Function.comp_def] using this
theorem s4 {w':World} {base n c:Nat} {A':Option Addr} {F:List Nat} (h:w'.ownsRow base 3 1 (.slice A' n c) n (F.map fun x:Nat=>iV (x:Nat))):n=F.length∧bA iV w' A' (cI F):=by
 have e:(F.map fun x:Nat=>iV (x:Nat))=(cI F).map iV:=by simp [cI]
 rw [e] at h;obtain ⟨a,b⟩:=bA.own h;exact ⟨by simpa using a,b⟩
abbrev KB:Ty:=.pr (.sl (.int .i64)) (.pr (.sl (.int .i64)) .unit)
structure Kx (w:World) (b a:Nat) (A:Option Addr) (ca:Nat) (L:List Int) (B:Option Addr) (cb:Nat) (M:List Int):Prop where
 cells:w.rangeAt b a [.slice A L.length ca,.slice B M.length cb]
 rowL:bA iV w A L
 rowM:bA iV w B M
 lenL:L.length*8≤140737488351232
 lenM:M.length*8≤140737488351232
def agr (L:List Nat) (i j h:Nat):Prop:=i+h≤L.length∧j+h≤L.length∧∀ m,m<h→L.getD (i+m) 0=L.getD (j+m) 0
def stop (L:List Nat) (i j h:Nat):Prop:=¬ (i+h<L.length∧j+h<L.length∧L.getD (i+h) 0=L.getD (j+h) 0)
structure KF (L F C:List Nat):Prop where
 len:C.length=F.length
 at0:0<C.length→C.getD 0 0=0
 at_:∀ k,0<k→k<C.length→agr L (F.getD k 0) (F.getD (k-1) 0) (C.getD k 0)∧stop L (F.getD k 0) (F.getD (k-1) 0) (C.getD k 0)
theorem CQ {w:World} {A:Option Addr} {L:List Nat} (h:bA iV w A (cI L)) (h0:0<L.length):∃ b o,A=some ⟨b,o,none⟩∧∀ i,i<L.length→w.cell? ⟨b,o+i,none⟩=some (.int .i64 ((L.getD i 0:Nat):Int)):=by
 obtain ⟨b,o,rfl,hc⟩:=rowL h h0;refine ⟨b,o,rfl,fun i hi=>?_⟩;rw [hc i hi,List.getD_eq_getElem?_getD,List.getElem?_eq_getElem hi];rfl
theorem wt {C:List Nat} {x k:Nat}:(C++[x]).getD k 0=if k<C.length then C.getD k 0 else if k=C.length then x else 0:=by
 rw [List.getD_eq_getElem?_getD,List.getD_eq_getElem?_getD,List.getElem?_append];split
 ·rfl
 ·split
  ·rename_i e;subst e;simp
  ·rw [List.getElem?_eq_none (by simp;omega)];rfl
structure KI (L F C:List Nat) (k:Nat):Prop where
 len:C.length=k
 at0:0<k→C.getD 0 0=0
 at_:∀ q,0<q→q<k→agr L (F.getD q 0) (F.getD (q-1) 0) (C.getD q 0)∧stop L (F.getD q 0) (F.getD (q-1) 0) (C.getD q 0)
end Go.Proofs.YtcbakncjacnnjaaGreat
namespace Go.Proofs.YtcbakncjacnnjaaGreat.SA
end Go.Proofs.YtcbakncjacnnjaaGreat.SA
namespace Go.Proofs.YtcbakncjacnnjaaGreat
open Go.Proofs.Tryz (prog)
open Go.RowKit
open Go.ChangeShapes Go.WideShapes Go.ChangeAt
open Go.Proofs.YtcbakncjacnnjaaGreat.SA
theorem jA {L:List Nat} {i:Nat} (h:i<L.length):bQ L i=L.getD i 0+1:=by
 rw [GY h,List.getD_eq_getElem?_getD,List.getElem?_eq_getElem h];rfl
theorem ph {L F:List Nat} (h:gT L F) {r:Nat} (hr:r<L.length):F.getD r 0<L.length∧rank (L.length+1) (bQ L) (F.getD r 0)=r+1:=by
 have hr2:r<F.length:=by rw [h.len];exact hr
 rw [List.getD_eq_getElem?_getD,List.getElem?_eq_getElem hr2];exact h.at_ r hr2
theorem DH {L F:List Nat} (h:gT L F) {i:Nat} (hi:i<L.length):0<rank (L.length+1) (bQ L) i∧rank (L.length+1) (bQ L) i-1<L.length∧F.getD (rank (L.length+1) (bQ L) i-1) 0=i:=by
 have ht:=fJ L
 have h0:0<rank (L.length+1) (bQ L) i:=by
  rcases Nat.eq_zero_or_pos (rank (L.length+1) (bQ L) i) with e | e
  ·have:=gd ht (show i<L.length+1 by omega) (show L.length+1-1<L.length+1 by omega) (by rw [e,oV ht]);omega
  ·exact e
 have hl:=jd (n:=L.length+1) (t:=bQ L) (show i<L.length+1 by omega);have h1:rank (L.length+1) (bQ L) i-1<L.length:=by omega
 obtain ⟨a,b⟩:=ph h h1;exact ⟨h0,h1,gd ht (by omega) (by omega) (by rw [b];omega)⟩
end Go.Proofs.YtcbakncjacnnjaaGreat
