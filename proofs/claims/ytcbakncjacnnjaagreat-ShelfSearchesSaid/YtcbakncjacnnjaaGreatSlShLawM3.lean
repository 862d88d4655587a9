/- texts that the claim stands on. -/
import Derived.Test.YtcbakncjacnnjaaGreatSlShLawM2
import Derived.RangeFuncLeaves
import Derived.RangeFuncWrites
import Derived.OrdersIn
import Derived.TacticsIn
import Derived.TacticsInMore
import Derived.LoopIn
import Derived.LoopNIn
import Derived.Shelf.Abstract
set_option maxRecDepth 100000
set_option maxHeartbeats 4000000
namespace Go.Proofs.YtcbakncjacnnjaaGreat.SA
open Classical
section
variable {n:Nat} {t idx:Nat→Nat}
noncomputable def kp (n:Nat) (t idx:Nat→Nat) (s:Nat):Nat:=less n t (t s+1)-1-cnt n fun x=>lms n t x∧t x=t s∧idx s<idx x
theorem CU {c:Nat} {p:Nat→Prop} {x:Nat} (h:∀ i,i<n→p i→t i=c) (hx:x<n) (hp:¬ p x) (hc:t x=c):cnt n p+1≤cnt n (fun j=>t j=c):=jn h hx hp hc
theorem l4 {s:Nat} (hs:lms n t s):kp n t idx s+1+cnt n (fun x=>lms n t x∧t x=t s∧idx s<idx x)=less n t (t s+1)∧less n t (t s)≤kp n t idx s:=by
 have h1:=CU (c:=t s) (p:=fun x=>lms n t x∧t x=t s∧idx s<idx x) (x:=s) (fun i _ a=>a.2.1) hs.2.1 (fun a=>Nat.lt_irrefl _ a.2.2) rfl;have h2:=lG (n:=n) (t:=t) (t s);unfold kp;omega
theorem F_ (h:Txt n t) {i:Nat} (hi:i<n) (hf:¬ rz n t i):pos n t idx i<less n t (t i)+cnt n (fun j=>¬ rz n t j∧t j=t i):=by
 rw [sB h hi hf];have:=jn (n:=n) (p:=fun j=>¬ rz n t j∧t j=t i∧lx (ee n t idx j) (ee n t idx i)) (q:=fun j=>¬ rz n t j∧t j=t i) (x:=i) (fun j _ a=>⟨a.1,a.2.1⟩) hi (fun a=>lh _ a.2.2) ⟨hf,rfl⟩;omega
theorem F9 (c:Nat):cnt n (fun j=>¬ rz n t j∧t j=c)≤cnt n (fun j=>t j=c):=fT fun _ _ a=>a.2
theorem Ga (c:Nat):cnt n (fun j=>¬ rz n t j∧t j=c)+cnt n (fun j=>lms n t j∧t j=c)≤cnt n (fun j=>t j=c):=by
 rw [←nd (fun j _ a b=>a.1 b.1.2.2.1)];exact fT fun j _ a=>a.elim (fun a=>a.2) (fun a=>a.2)
noncomputable def p2 (n:Nat) (t idx:Nat→Nat) (i:Nat):Nat:=if rz n t i then kp n t idx i else pos n t idx i
theorem uk {i:Nat} (h:rz n t i):p2 n t idx i=kp n t idx i:=if_pos h
theorem xF {i:Nat} (h:¬ rz n t i):p2 n t idx i=pos n t idx i:=if_neg h
theorem pg (h:Txt n t) {i j:Nat} (hi:FS n t i) (hj:FS n t j) (hk:lx (lk n t idx i) (lk n t idx j)):p2 n t idx i<p2 n t idx j:=by
 have m1:=lG (n:=n) (t:=t) (t i);have m2:=lG (n:=n) (t:=t) (t j);have m3:=F9 (n:=n) (t:=t) (t i);by_cases a:rz n t i <;> by_cases b:rz n t j
 ·have li:=kJ hi a;have lj:=kJ hj b;obtain ⟨e1,e2⟩:=l4 (idx:=idx) li;obtain ⟨e3,e4⟩:=l4 (idx:=idx) lj;rw [gO hi.1 a,gO hj.1 b] at hk;rw [uk a,uk b];rcases hk with hk | ⟨hk,hk2⟩
  ·have:=qv (n:=n) (t:=t) (show t i+1≤t j by omega);omega
  ·have hc:t i=t j:=by omega
   have hx:idx i<idx j:=by
    rcases hk2 with c | ⟨_,c⟩
    ·exact c
    ·exact c.elim
   have:=jn (n:=n) (p:=fun x=>lms n t x∧t x=t j∧idx j<idx x) (q:=fun x=>lms n t x∧t x=t i∧idx i<idx x) (x:=j) (fun x _ a=>⟨a.1,by omega,by omega⟩) hj.1 (fun a=>Nat.lt_irrefl _ a.2.2) ⟨lj,by omega,hx⟩;rw [hc] at e1 this;omega
 ·have li:=kJ hi a;obtain ⟨e1,e2⟩:=l4 (idx:=idx) li;rw [gO hi.1 a,el hj.1 b] at hk;rw [uk a,xF b,sB h hj.1 b]
  have hc:t i<t j:=by
   rcases hk with hk | ⟨hk,_⟩ <;> omega
  have:=qv (n:=n) (t:=t) (show t i+1≤t j by omega);omega
 ·have lj:=kJ hj b;obtain ⟨e3,e4⟩:=l4 (idx:=idx) lj;have f1:=F_ (idx:=idx) h hi.1 a;rw [el hi.1 a,gO hj.1 b] at hk;rw [xF a,uk b];rcases Nat.lt_or_ge (t i) (t j) with c | c
  ·have:=qv (n:=n) (t:=t) (show t i+1≤t j by omega);omega
  ·have hc:t i=t j:=by
    rcases hk with hk | ⟨hk,_⟩ <;> omega
   have f2:=Ga (n:=n) (t:=t) (t j);have f3:=jn (n:=n) (p:=fun x=>lms n t x∧t x=t j∧idx j<idx x) (q:=fun x=>lms n t x∧t x=t j) (x:=j) (fun x _ a=>⟨a.1,a.2.1⟩) hj.1 (fun a=>Nat.lt_irrefl _ a.2.2) ⟨lj,rfl⟩;rw [hc] at f1;omega
 ·rw [xF a,xF b];rw [←gM hi.1 a,←gM hj.1 b] at hk;exact lA hi.1 hk
theorem vw (h:Txt n t) (ho:Ord n t idx) {i j:Nat} (hi:FS n t i) (hj:FS n t j) (he:p2 n t idx i=p2 n t idx j):i=j:=by
 by_cases e:lk n t idx i=lk n t idx j
 ·exact sY h ho rfl hi hj e
 ·rcases qt e with a | a
  ·have:=pg h hi hj a;omega
  ·have:=pg h hj hi a;omega
theorem JO (h:Txt n t) (ho:Ord n t idx) {i j:Nat} (hi:FS n t i) (hj:FS n t j):p2 n t idx i<p2 n t idx j↔lx (lk n t idx i) (lk n t idx j):=by
 refine ⟨fun a=>?_,pg h hi hj⟩;by_cases e:lk n t idx i=lk n t idx j
 ·have:=sY h ho rfl hi hj e;subst this;omega
 ·rcases qt e with b | b
  ·exact b
  ·have:=pg h hj hi b;omega
theorem Br {s:Nat} (hs:lms n t s):kp n t idx s<n:=by
 obtain ⟨e1,_⟩:=l4 (idx:=idx) hs;have:=fU n (fun j=>t j<t s+1);unfold less at e1;omega
theorem CY (h:Txt n t):∀ {m j:Nat},m=n-j→j<n→¬ rz n t j→lx (lk n t idx (j+1)) (lk n t idx j):=by
 intro m
 induction m with
 |zero=>intro j hm hj;omega
 |succ m ih=>
  intro j hm hj hf;have h1:=rP h hj hf;obtain ⟨a1,a2⟩:=BO h hj hf;rw [el hj hf];by_cases r:rz n t (j+1)
  ·rw [gO h1 r];refine fj ?_;have:t (j+1)≠t j:=fun e=>a2 e r
   omega
  ·have hi:=ih (j:=j+1) (by omega) h1 r;rcases Nat.lt_or_ge (t (j+1)) (t j) with c | c
   ·rw [el h1 r];exact fj (by omega)
   ·have e:t j=t (j+1):=by omega
    rw [e]
    conv=>arg 1;rw [el h1 r]
    exact fJ.2 hi
theorem CX (h:Txt n t):∀ {m j:Nat},m=n-j→j+1<n→rz n t j→lx (ee n t idx j) (ee n t idx (j+1)):=by
 intro m
 induction m with
 |zero=>intro j hm hj;omega
 |succ m ih=>
  intro j hm hj hr;obtain ⟨a1,a2⟩:=o8 h hj hr;rcases Nat.lt_or_ge (t j) (t (j+1)) with c | c
  ·exact lJ h (by omega) hj c
  ·have e:t j=t (j+1):=by omega
   have r2:=a2 e
   have h2:j+1+1<n:=by
    rcases Nat.lt_or_ge (j+1+1) n with b | b
    ·exact b
    ·have hl:=h.last;rw [show n-1=j+1 by omega] at hl;have:=h.more j hj;omega
   have hi:=ih (j:=j+1) (by omega) h2 r2;rw [jj hj hr,e]
   conv=>arg 2;rw [jj h2 r2]
   exact fJ.2 hi
def upd (f:Nat→Int) (k:Nat) (v:Int):Nat→Int:=fun x=>if x=k then v else f x
theorem fi (f:Nat→Int) (k:Nat) (v:Int):upd f k v k=v:=if_pos rfl
theorem fY (f:Nat→Int) {k x:Nat} (v:Int) (h:x≠k):upd f k v x=f x:=if_neg h
structure AM (n:Nat) (t idx:Nat→Nat) (q:Nat) (xs ts:Nat→Int):Prop where
 there:∀ s,lms n t s→q≤idx s→xs (kp n t idx s)=s
 none:∀ x,x<n→(∀ s,lms n t s→q≤idx s→kp n t idx s≠x)→xs x=-1
 tails:∀ c,ts c=(less n t (c+1):Nat)-(cnt n (fun s=>lms n t s∧t s=c∧q≤idx s):Nat)
theorem iM {p:Nat→Prop} (h:∀ i,i<n→¬ p i):cnt n p=0:=by
 have h1:=fT (n:=n) (p:=p) (q:=fun _=>False) (fun i hi a=>h i hi a)
 have h2:∀ k,cnt k (fun _=>False)=0:=by
  intro k
  induction k with
  |zero=>rfl
  |succ k ih=>unfold cnt;rw [ih,if_neg (fun h=>h)]
 rw [h2] at h1;omega
theorem zA {q:Nat} (hq:∀ s,lms n t s→idx s<q):AM n t idx q (fun _=>-1) (fun c=>(less n t (c+1):Nat)):=by
 refine ⟨fun s hs h=>?_,fun _ _ _=>rfl,fun c=>?_⟩
 ·have:=hq s hs;omega
 ·have:=iM (n:=n) (p:=fun s=>lms n t s∧t s=c∧q≤idx s) (fun i _ a=>by have:=hq i a.1;omega);simp only [this];omega
theorem FQ (h:Txt n t) (ho:Ord n t idx) {q s:Nat} {xs ts:Nat→Int} (hI:AM n t idx (q+1) xs ts) (hs:lms n t s) (hq:idx s=q) :
 ts (t s)-1=(kp n t idx s:Nat)∧AM n t idx q (upd xs (kp n t idx s) s) (upd ts (t s) (ts (t s)-1)):=by
 obtain ⟨e1,e2⟩:=l4 (idx:=idx) hs;have e3:=hI.tails (t s);have e4:cnt n (fun x=>lms n t x∧t x=t s∧q+1≤idx x)=cnt n (fun x=>lms n t x∧t x=t s∧idx s<idx x):=dA fun x _=>by rw [hq];exact ⟨fun a=>⟨a.1,a.2.1,by omega⟩,fun a=>⟨a.1,a.2.1,by omega⟩⟩
 have p1:∀ s',lms n t s'→kp n t idx s'=kp n t idx s→s'=s:=fun s' h' he=>vw h ho ⟨h'.2.1,.inr h'⟩ ⟨hs.2.1,.inr hs⟩ (by rw [uk h'.2.2.1,uk hs.2.2.1,he])
 refine ⟨by omega,fun s' h' hq'=>?_,fun x hx hn=>?_,fun c=>?_⟩
 ·by_cases e:kp n t idx s'=kp n t idx s
  ·rw [e,fi,p1 s' h' e]
  ·rw [fY _ _ e];refine hI.there s' h' ?_;rcases Nat.lt_or_ge q (idx s') with a | a
   ·exact a
   ·exact absurd (congrArg _ (ho.inj s' s h' hs (by omega))) e
 ·have hne:=hn s hs (by omega);rw [fY _ _ (Ne.symm hne)];exact hI.none x hx fun s' h' hq'=>hn s' h' (by omega)
 ·by_cases e:c=t s
  ·subst e;rw [fi,e3]
   have:=nM (n:=n) (p:=fun x=>lms n t x∧t x=t s∧q+1≤idx x) (q:=fun x=>lms n t x∧t x=t s∧q≤idx x) (x:=s) hs.2.1 (fun a=>by omega) (fun i hi=>⟨fun a=>by
    rcases Nat.lt_or_ge q (idx i) with b | b
    ·exact .inl ⟨a.1,a.2.1,b⟩
    ·exact .inr (ho.inj i s a.1 hs (by omega)),fun a=>a.elim (fun a=>⟨a.1,a.2.1,by omega⟩) (fun a=>by subst a;exact ⟨hs,rfl,by omega⟩)⟩)
   omega
  ·rw [fY _ _ e,hI.tails c]
   have:cnt n (fun x=>lms n t x∧t x=c∧q+1≤idx x)=cnt n (fun x=>lms n t x∧t x=c∧q≤idx x):=dA fun i _=>⟨fun a=>⟨a.1,a.2.1,by omega⟩,fun a=>⟨a.1,a.2.1,by
    rcases Nat.lt_or_ge q (idx i) with b | b
    ·exact b
    ·have:=ho.inj i s a.1 hs (by omega);subst this;exact absurd a.2.1.symm e⟩⟩
   rw [this]
structure pJ (n:Nat) (t idx:Nat→Nat) (r:Nat) (xs hs:Nat→Int):Prop where
 fall:∀ i,i<n→¬ rz n t i→p2 n t idx (i+1)<r→xs (pos n t idx i)=i
 starts:∀ s,lms n t s→xs (kp n t idx s)=s
 none:∀ x,x<n→(∀ i,i<n→¬ rz n t i→p2 n t idx (i+1)<r→pos n t idx i≠x)→(∀ s,lms n t s→kp n t idx s≠x)→xs x=-1
 heads:∀ c,hs c=(less n t c:Nat)+(cnt n (fun i=>¬ rz n t i∧t i=c∧p2 n t idx (i+1)<r):Nat)
theorem zz {xs ts:Nat→Int} (hI:AM n t idx 0 xs ts):pJ n t idx 0 xs (fun c=>(less n t c:Nat)):=by
 refine ⟨fun i _ _ h=>by omega,fun s hs=>hI.there s hs (Nat.zero_le _),fun x hx _ h=>hI.none x hx fun s hs _=>h s hs,fun c=>?_⟩;have:=iM (n:=n) (p:=fun i=>¬ rz n t i∧t i=c∧p2 n t idx (i+1)<0) (fun i _ a=>by omega);rw [this];omega
theorem vF (h:Txt n t) {r:Nat} {xs hs:Nat→Int} (hI:pJ n t idx r xs hs) (hr:r<n) :
 (∃ j,FS n t j∧p2 n t idx j=r∧xs r=j)∨(xs r=-1∧∀ j,FS n t j→p2 n t idx j≠r):=by
 by_cases e:∃ j,FS n t j∧p2 n t idx j=r
 ·obtain ⟨j,hj,rfl⟩:=e;refine .inl ⟨j,hj,rfl,?_⟩;by_cases a:rz n t j
  ·rw [uk a];exact hI.starts j (kJ hj a)
  ·have:=hI.fall j hj.1 a (pg h (fa h hj.1 a) hj (CY h rfl hj.1 a));rw [xF a];exact this
 ·have hno:∀ j,FS n t j→p2 n t idx j≠r:=fun j hj he=>e ⟨j,hj,he⟩
  refine .inr ⟨hI.none r hr (fun i hi hf _ he=>hno i ⟨hi,.inl hf⟩ (by rw [xF hf,he])) (fun s hs he=>hno s ⟨hs.2.1,.inr hs⟩ (by rw [uk hs.2.2.1,he])),hno⟩
theorem C3 {r:Nat} {xs hs:Nat→Int} (hI:pJ n t idx r xs hs) (hno:∀ i,i<n→¬ rz n t i→p2 n t idx (i+1)≠r):pJ n t idx (r+1) xs hs:=by
 refine ⟨fun i hi hf hp=>hI.fall i hi hf (by have:=hno i hi hf;omega),hI.starts,fun x hx h1 h2=>hI.none x hx (fun i hi hf hp=>h1 i hi hf (by omega)) h2,fun c=>?_⟩;rw [hI.heads c,dA (p:=fun i=>¬ rz n t i∧t i=c∧p2 n t idx (i+1)<r) (q:=fun i=>¬ rz n t i∧t i=c∧p2 n t idx (i+1)<r+1)];exact fun i hi=>⟨fun a=>⟨a.1,a.2.1,by omega⟩,fun a=>⟨a.1,a.2.1,by have:=hno i hi a.1;omega⟩⟩
theorem FP (h:Txt n t) (ho:Ord n t idx) {r i:Nat} {xs hs:Nat→Int} (hI:pJ n t idx r xs hs) (hi:i<n) (hf:¬ rz n t i) (hp:p2 n t idx (i+1)=r) :
 hs (t i)=(pos n t idx i:Nat)∧pJ n t idx (r+1) (upd xs (pos n t idx i) i) (upd hs (t i) (hs (t i)+1)):=by
 have e1:=hI.heads (t i);have e2:=sB (idx:=idx) h hi hf
 have e3:cnt n (fun j=>¬ rz n t j∧t j=t i∧p2 n t idx (j+1)<r)=cnt n (fun j=>¬ rz n t j∧t j=t i∧lx (ee n t idx j) (ee n t idx i)):=by
  refine dA fun j hj=>and_congr_right fun a=>and_congr_right fun b=>?_
  rw [←hp,JO h ho (fa h hj a) (fa h hi hf),gM hj a,gM hi hf,el hj a,el hi hf,b,fJ]
 have pin:∀ j,j<n→pos n t idx j=pos n t idx i→j=i:=fun j hj he=>jR h ho hj hi he
 have pnx:∀ j,j<n→¬ rz n t j→p2 n t idx (j+1)=r→j=i:=fun j hj a he=>by
  have:=vw h ho (fa h hj a) (fa h hi hf) (by rw [he,hp]);omega
 refine ⟨by omega,fun j hj a hq=>?_,fun s hs=>?_,fun x hx h1 h2=>?_,fun c=>?_⟩
 ·by_cases e:j=i
  ·subst e;exact fi _ _ _
  ·rw [fY _ _ (fun e2=>e (pin j hj e2))]
   exact hI.fall j hj a (by
    have:p2 n t idx (j+1)≠r:=fun e2=>e (pnx j hj a e2)
    omega)
 ·have:kp n t idx s≠pos n t idx i:=fun e=>by
   have:=vw h ho ⟨hs.2.1,.inr hs⟩ ⟨hi,.inl hf⟩ (by rw [uk hs.2.2.1,xF hf,e]);subst this;exact hf hs.2.2.1
  rw [fY _ _ this];exact hI.starts s hs
 ·rw [fY _ _ (Ne.symm (h1 i hi hf (by omega)))];exact hI.none x hx (fun j hj a hq=>h1 j hj a (by omega)) h2
 ·by_cases e:c=t i
  ·subst e;rw [fi,e1,nM (n:=n) (p:=fun j=>¬ rz n t j∧t j=t i∧p2 n t idx (j+1)<r) (q:=fun j=>¬ rz n t j∧t j=t i∧p2 n t idx (j+1)<r+1) (x:=i) hi (fun a=>by omega)]
   ·omega
   ·intro j hj;constructor
    ·rintro ⟨a,b,c⟩;by_cases e2:j=i
     ·exact .inr e2
     ·have:p2 n t idx (j+1)≠r:=fun e3=>e2 (pnx j hj a e3)
      exact .inl ⟨a,b,by omega⟩
    ·rintro (⟨a,b,c⟩ | rfl)
     ·exact ⟨a,b,by omega⟩
     ·exact ⟨hf,rfl,by omega⟩
  ·rw [fY _ _ e,hI.heads c,dA (p:=fun i=>¬ rz n t i∧t i=c∧p2 n t idx (i+1)<r) (q:=fun i=>¬ rz n t i∧t i=c∧p2 n t idx (i+1)<r+1)]
   exact fun j hj=>⟨fun a=>⟨a.1,a.2.1,by omega⟩,fun a=>⟨a.1,a.2.1,by
    have:p2 n t idx (j+1)≠r:=fun e3=>by
     have:=pnx j hj a.1 e3;subst this;exact e a.2.1.symm
    omega⟩⟩
structure pI (n:Nat) (t idx:Nat→Nat) (r:Nat) (xs ts:Nat→Int):Prop where
 fall:∀ i,i<n→¬ rz n t i→xs (pos n t idx i)=i
 rise:∀ i,i+1<n→rz n t i→r≤pos n t idx (i+1)→xs (pos n t idx i)=i
 last:xs (pos n t idx (n-1))=(n-1:Nat)
 tails:∀ c,ts c=(less n t (c+1):Nat)-(cnt n (fun i=>i+1<n∧rz n t i∧t i=c∧r≤pos n t idx (i+1)):Nat)
theorem mT (h:Txt n t) (h2:2≤n):lms n t (n-1):=by
 refine ⟨by omega,by omega,rG h,fun hr=>?_⟩;have h3:n-1-1+1<n:=by omega
 have:=(o8 h h3 hr).1;rw [show n-1-1+1=n-1 by omega,h.last] at this;have:=h.more (n-1-1) h3;omega
theorem FI (h:Txt n t):less n t 1=1:=by
 unfold less;rw [dA (q:=fun i=>i=n-1)]
 ·exact Gq (by have:=h.pos;omega)
 ·exact fun i hi=>⟨fun a=>h.zero hi (by omega),fun a=>by rw [a,h.last];omega⟩
theorem xB (h:Txt n t) (h2:2≤n):pos n t idx (n-1)=0∧kp n t idx (n-1)=0:=by
 constructor
 ·unfold pos;refine iM fun i hi a=>?_
  rw [lK h] at a;by_cases e:i=n-1
  ·rw [e,lK h] at a;exact lh _ a
  ·have hm:=h.more i (by omega);by_cases r:rz n t i
   ·obtain ⟨x,hx⟩:=iA (idx:=idx) h hi r;rw [hx] at a;exact jh (by omega) a
   ·rw [gM hi r,el hi r] at a;exact jh (by omega) a
 ·obtain ⟨e1,_⟩:=l4 (idx:=idx) (mT h h2);rw [h.last,Nat.zero_add,FI h] at e1;omega
theorem zy (h:Txt n t) (h2:2≤n) {xs hs:Nat→Int} (hI:pJ n t idx n xs hs):pI n t idx n xs (fun c=>(less n t (c+1):Nat)):=by
 refine ⟨fun i hi hf=>hI.fall i hi hf ?_,fun i hi _ hp=>?_,?_,fun c=>?_⟩
 ·have hn:=fa h hi hf;by_cases r:rz n t (i+1)
  ·rw [uk r];exact Br (kJ hn r)
  ·rw [xF r];exact ko hn.1
 ·have:=ko (idx:=idx) (t:=t) hi;omega
 ·have:=hI.starts _ (mT h h2);obtain ⟨a,b⟩:=xB (idx:=idx) h h2;rw [b] at this;rw [a];exact this
 ·have:=iM (n:=n) (p:=fun i=>i+1<n∧rz n t i∧t i=c∧n≤pos n t idx (i+1)) (fun i _ a=>by have:=ko (idx:=idx) (t:=t) a.1;omega);simp only [this];omega
theorem vE (h:Txt n t) (ho:Ord n t idx) {r:Nat} {xs ts:Nat→Int} (hI:pI n t idx (r+1) xs ts) (hr:r<n):∃ j,j<n∧pos n t idx j=r∧xs r=j:=by
 obtain ⟨j,hj,rfl⟩:=xA h ho hr;refine ⟨j,hj,rfl,?_⟩;by_cases a:rz n t j
 ·rcases Nat.lt_or_ge (j+1) n with b | b
  ·exact hI.rise j b a (lA hj (CX h rfl b a))
  ·obtain rfl:j=n-1:=by omega
   exact hI.last
 ·exact hI.fall j hj a
theorem C1 {r:Nat} {xs ts:Nat→Int} (hI:pI n t idx (r+1) xs ts) (hno:∀ i,i+1<n→rz n t i→pos n t idx (i+1)≠r):pI n t idx r xs ts:=by
 refine ⟨hI.fall,fun i hi hr hp=>hI.rise i hi hr (by have:=hno i hi hr;omega),hI.last,fun c=>?_⟩;rw [hI.tails c,dA (p:=fun i=>i+1<n∧rz n t i∧t i=c∧r+1≤pos n t idx (i+1)) (q:=fun i=>i+1<n∧rz n t i∧t i=c∧r≤pos n t idx (i+1))];exact fun i hi=>⟨fun a=>⟨a.1,a.2.1,a.2.2.1,by omega⟩,fun a=>⟨a.1,a.2.1,a.2.2.1,by have:=hno i a.1 a.2.1;omega⟩⟩
theorem FN (h:Txt n t) (ho:Ord n t idx) {r i:Nat} {xs ts:Nat→Int} (hI:pI n t idx (r+1) xs ts) (hi:i+1<n) (hz:rz n t i) (hp:pos n t idx (i+1)=r) :
 ts (t i)-1=(pos n t idx i:Nat)∧pI n t idx r (upd xs (pos n t idx i) i) (upd ts (t i) (ts (t i)-1)):=by
 have hin:i<n:=by omega
 have e1:=hI.tails (t i);have e2:=Fb (idx:=idx) h ho hin hz
 have nl:∀ j,j<n→t j=t i→j+1<n:=fun j hj he=>by
  rcases Nat.lt_or_ge (j+1) n with b | b
  ·exact b
  ·obtain rfl:j=n-1:=by omega
   rw [h.last] at he;have:=h.more i hi;omega
 have e3:cnt n (fun j=>j+1<n∧rz n t j∧t j=t i∧r+1≤pos n t idx (j+1))=cnt n (fun j=>rz n t j∧t j=t i∧lx (ee n t idx i) (ee n t idx j)):=by
  refine dA fun j hj=>⟨fun ⟨a,b,c,d⟩=>⟨b,c,?_⟩,fun ⟨b,c,d⟩=>⟨nl j hj c,b,c,?_⟩⟩
  ·rw [jj hi hz,jj a b,c,fJ,←nF h ho hi a];omega
  ·have a:=nl j hj c;rw [jj hi hz,jj a b,c,fJ,←nF h ho hi a] at d;omega
 have pin:∀ j,j<n→pos n t idx j=pos n t idx i→j=i:=fun j hj he=>jR h ho hj hin he
 have pnx:∀ j,j+1<n→pos n t idx (j+1)=r→j=i:=fun j hj he=>by
  have:=jR h ho hj hi (by rw [he,hp]);omega
 refine ⟨by omega,fun j hj a=>?_,fun j hj a hq=>?_,?_,fun c=>?_⟩
 ·rw [fY _ _ (fun e=>by have:=pin j hj e;subst this;exact a hz)];exact hI.fall j hj a
 ·by_cases e:j=i
  ·subst e;exact fi _ _ _
  ·rw [fY _ _ (fun e2=>e (pin j (by omega) e2))]
   exact hI.rise j hj a (by
    have:pos n t idx (j+1)≠r:=fun e2=>e (pnx j hj e2)
    omega)
 ·rw [fY _ _ (fun e=>by have:=pin _ (by omega) e;omega)];exact hI.last
 ·by_cases e:c=t i
  ·subst e;rw [fi,e1,nM (n:=n) (p:=fun j=>j+1<n∧rz n t j∧t j=t i∧r+1≤pos n t idx (j+1)) (q:=fun j=>j+1<n∧rz n t j∧t j=t i∧r≤pos n t idx (j+1)) (x:=i) hin (fun a=>by omega)]
   ·omega
   ·intro j hj;constructor
    ·rintro ⟨a,b,c,d⟩;by_cases e2:j=i
     ·exact .inr e2
     ·have:pos n t idx (j+1)≠r:=fun e3=>e2 (pnx j a e3)
      exact .inl ⟨a,b,c,by omega⟩
    ·rintro (⟨a,b,c,d⟩ | rfl)
     ·exact ⟨a,b,c,by omega⟩
     ·exact ⟨hi,hz,rfl,by omega⟩
  ·rw [fY _ _ e,hI.tails c,dA (p:=fun i=>i+1<n∧rz n t i∧t i=c∧r+1≤pos n t idx (i+1)) (q:=fun i=>i+1<n∧rz n t i∧t i=c∧r≤pos n t idx (i+1))]
   exact fun j hj=>⟨fun a=>⟨a.1,a.2.1,a.2.2.1,by omega⟩,fun a=>⟨a.1,a.2.1,a.2.2.1,by
    have:pos n t idx (j+1)≠r:=fun e3=>by
     have:=pnx j a.1 e3;subst this;exact e a.2.2.1.symm
    omega⟩⟩
theorem FO {xs ts:Nat→Int} (hI:pI n t idx 0 xs ts):∀ i,i<n→xs (pos n t idx i)=i:=fun i hi=>by
 by_cases a:rz n t i
 ·rcases Nat.lt_or_ge (i+1) n with b | b
  ·exact hI.rise i b a (Nat.zero_le _)
  ·obtain rfl:i=n-1:=by omega
   exact hI.last
 ·exact hI.fall i hi a
end
end Go.Proofs.YtcbakncjacnnjaaGreat.SA
namespace Go.Proofs.YtcbakncjacnnjaaGreat.SA
open Classical
section
variable {n:Nat} {t idx:Nat→Nat}
theorem Ek {i j k:Nat} (h:sl n t i j) (g:sl n t j k):sl n t i k:=by
 obtain ⟨a,h1,h2,h3,h4⟩:=h;obtain ⟨b,g1,g2,g3,g4⟩:=g;rcases Nat.lt_trichotomy a b with c | c | c
 ·exact ⟨a,fun m hm=>(h1 m hm).trans (g1 m (by omega)),h2,by omega,by rw [←g1 a c];exact h4⟩
 ·subst c;exact ⟨a,fun m hm=>(h1 m hm).trans (g1 m hm),h2,g3,by omega⟩
 ·exact ⟨b,fun m hm=>(h1 m (by omega)).trans (g1 m hm),by omega,g3,by rw [h1 b c];exact g4⟩
def nr (n:Nat) (t idx:Nat→Nat):Prop:=∀ i j,lms n t i→lms n t j→sl n t i j→idx i<idx j
theorem Im (h:Txt n t) (hso:nr n t idx):∀ {m i j:Nat},m=n-i→FS n t i→FS n t j→sl n t i j→lx (lk n t idx i) (lk n t idx j):=by
 intro m
 induction m with
 |zero=>intro i j hm hi;have:=hi.1;omega
 |succ m ih=>
  intro i j hm hi hj hs;rcases ia.1 hs with ⟨_,_,c⟩ | ⟨c,d⟩
  ·by_cases a:rz n t i <;> by_cases b:rz n t j
   ·rw [gO hi.1 a,gO hj.1 b];exact fj (by omega)
   ·rw [gO hi.1 a,el hj.1 b];exact fj (by omega)
   ·rw [el hi.1 a,gO hj.1 b];exact fj (by omega)
   ·rw [el hi.1 a,el hj.1 b];exact fj (by omega)
  ·by_cases a:rz n t i <;> by_cases b:rz n t j
   ·rw [gO hi.1 a,gO hj.1 b,c];exact fJ.2 (fj (hso i j (kJ hi a) (kJ hj b) hs))
   ·exact absurd (uW h rfl hj.1 hi.1 c.symm b a) (sc hs)
   ·rw [el hi.1 a,gO hj.1 b];exact fj (by omega)
   ·rw [el hi.1 a,el hj.1 b,c];exact fJ.2 (ih (by omega) (fa h hi.1 a) (fa h hj.1 b) d)
theorem BE (h:Txt n t) (hso:nr n t idx):∀ {m i j:Nat},m=n-i→i<n→j<n→sl n t i j→lx (ee n t idx i) (ee n t idx j):=by
 intro m
 induction m with
 |zero=>intro i j hm hi;omega
 |succ m ih=>
  intro i j hm hi hj hs;rcases ia.1 hs with ⟨_,_,c⟩ | ⟨c,d⟩
  ·exact lJ h hi hj c
  ·obtain ⟨d1,d2⟩:=El d;by_cases a:rz n t i <;> by_cases b:rz n t j
   ·rw [jj d1 a,jj d2 b,c];exact fJ.2 (ih (by omega) d1 d2 d)
   ·exact absurd (uW h rfl hj hi c.symm b a) (sc hs)
   ·exact sU h hi hj c a b
   ·rw [gM hi a,gM hj b];exact Im h hso rfl ⟨hi,.inl a⟩ ⟨hj,.inl b⟩ hs
theorem sX (h:Txt n t) (hso:nr n t idx) {i j:Nat} (hi:i<n) (hj:j<n):lx (ee n t idx i) (ee n t idx j)↔sl n t i j:=by
 refine ⟨fun a=>?_,BE h hso rfl hi hj⟩;by_cases e:i=j
 ·subst e;exact absurd a (lh _)
 ·rcases sb h rfl hi hj e with b | b
  ·exact b
  ·exact absurd a (lF (BE h hso rfl hj hi b))
noncomputable def rank (n:Nat) (t:Nat→Nat) (i:Nat):Nat:=cnt n fun j=>sl n t j i
theorem Fc (h:Txt n t) (hso:nr n t idx) {i:Nat} (hi:i<n):pos n t idx i=rank n t i:=
 dA fun _ hj=>sX h hso hj hi
theorem jg {i j:Nat} (h:sl n t i j):rank n t i<rank n t j:=jn (fun _ _ a=>Ek a h) (El h).1 (pX _) h
theorem qU:nr n t (rank n t):=fun _ _ _ _ h=>jg h
theorem xy (h:Txt n t) {i j:Nat} (hi:i<n) (hj:j<n):rank n t i<rank n t j↔sl n t i j:=by
 refine ⟨fun a=>?_,jg⟩;by_cases e:i=j
 ·subst e;omega
 ·rcases sb h rfl hi hj e with b | b
  ·exact b
  ·have:=jg b;omega
theorem jQ {i:Nat} (hi:i<n):rank n t i<n:=by
 have h1:=jn (n:=n) (p:=fun j=>sl n t j i) (q:=fun _=>True) (fun _ _ _=>trivial) hi (pX _) trivial;have:=fU n (fun _=>True);unfold rank;omega
theorem gR (h:Txt n t) {i j:Nat} (hi:i<n) (hj:j<n) (he:rank n t i=rank n t j):i=j:=by
 by_cases e:i=j
 ·exact e
 ·rcases sb h rfl hi hj e with b | b
  ·have:=jg b;omega
  ·have:=jg b;omega
noncomputable def gL (n:Nat) (t:Nat→Nat) (e:Nat→List Nat):Nat→Nat→List Nat
 |0,_=>[]
 |m+1,i=>if rz n t i then (2*t i+1)::e i else 2*t i::gL n t e m (i+1)
noncomputable def gS (n:Nat) (t:Nat→Nat) (e:Nat→List Nat):Nat→Nat→List Nat
 |0,_=>[]
 |m+1,i=>if rz n t i then (if i+1=n then [1] else (2*t i+1)::gS n t e m (i+1)) else gL n t e (m+1) i
theorem F0:∀ (m i:Nat),kL n t idx m i=gL n t (fun i=>[idx i]) m i
 |0,_=>rfl
 |m+1,i=>by unfold kL gL;rw [F0 m]
theorem vJ:∀ (m i:Nat),kS n t idx m i=gS n t (fun i=>[idx i]) m i
 |0,_=>rfl
 |m+1,i=>by unfold kS gS;rw [vJ m,F0]
noncomputable def eL (n:Nat) (t:Nat→Nat):Nat→Nat→Nat
 |0,i=>i
 |m+1,i=>if rz n t i then i else eL n t m (i+1)
noncomputable def eS (n:Nat) (t:Nat→Nat):Nat→Nat→Nat
 |0,i=>i
 |m+1,i=>if rz n t i then (if i+1=n then i else eS n t m (i+1)) else eL n t (m+1) i
abbrev nil_:Nat→List Nat:=fun _=>[]
theorem Kh (h:Txt n t):∀ {m1 m2 i j:Nat},m1=n-i→m2=n-j→FS n t i→FS n t j→
 (gL n t nil_ m1 i=gL n t nil_ m2 j∧∀ e,lx (gL n t e m1 i) (gL n t e m2 j)↔lx (e (eL n t m1 i)) (e (eL n t m2 j)))∨
 (gL n t nil_ m1 i≠gL n t nil_ m2 j∧∀ e e',lx (gL n t e m1 i) (gL n t e m2 j)↔lx (gL n t e' m1 i) (gL n t e' m2 j)):=by
 have heads:∀ {a b:Nat} (_:a≠b) (x y x' y':List Nat),lx (a::x) (b::y)↔lx (a::x') (b::y'):=fun {a b} hab x y x' y'=>by
  rcases Nat.lt_or_ge a b with c | c
  ·exact ⟨fun _=>fj c,fun _=>fj c⟩
  ·have:b<a:=by omega
   exact ⟨fun k=>absurd k (jh this),fun k=>absurd k (jh this)⟩
 intro m1
 induction m1 with
 |zero=>intro m2 i j h1 h2 hi;have:=hi.1;omega
 |succ m1 ih=>
  intro m2 i j h1 h2 hi hj;have hj1:=hj.1;obtain ⟨m2,rfl⟩:∃ k,m2=k+1:=⟨m2-1,by omega⟩;unfold gL eL;by_cases a:rz n t i <;> by_cases b:rz n t j
  ·simp only [if_pos a,if_pos b];by_cases c:2*t i+1=2*t j+1
   ·refine .inl ⟨by rw [c],fun e=>by rw [c];exact fJ⟩
   ·exact .inr ⟨fun k=>c (by simp only [List.cons.injEq] at k;exact k.1),fun e e'=>heads c _ _ _ _⟩
  ·simp only [if_pos a,if_neg b];have c:2*t i+1≠2*t j:=by omega
   exact .inr ⟨fun k=>c (by simp only [List.cons.injEq] at k;exact k.1),fun e e'=>heads c _ _ _ _⟩
  ·simp only [if_neg a,if_pos b];have c:2*t i≠2*t j+1:=by omega
   exact .inr ⟨fun k=>c (by simp only [List.cons.injEq] at k;exact k.1),fun e e'=>heads c _ _ _ _⟩
  ·simp only [if_neg a,if_neg b];by_cases c:2*t i=2*t j
   ·rw [c];rcases ih (m2:=m2) (i:=i+1) (j:=j+1) (by omega) (by omega) (fa h hi.1 a) (fa h hj.1 b) with ⟨d1,d2⟩ | ⟨d1,d2⟩
    ·exact .inl ⟨by rw [d1],fun e=>fJ.trans (d2 e)⟩
    ·refine .inr ⟨fun k=>d1 (by simp only [List.cons.injEq] at k;exact k.2),fun e e'=>?_⟩;rw [fJ,fJ];exact d2 e e'
   ·exact .inr ⟨fun k=>c (by simp only [List.cons.injEq] at k;exact k.1),fun e e'=>heads c _ _ _ _⟩
theorem FZ (h:Txt n t):∀ {m1 m2 i j:Nat},m1=n-i→m2=n-j→i<n→j<n→
 (gS n t nil_ m1 i=gS n t nil_ m2 j∧(i=j∨∀ e,lx (gS n t e m1 i) (gS n t e m2 j)↔lx (e (eS n t m1 i)) (e (eS n t m2 j))))∨
 (gS n t nil_ m1 i≠gS n t nil_ m2 j∧∀ e e',lx (gS n t e m1 i) (gS n t e m2 j)↔lx (gS n t e' m1 i) (gS n t e' m2 j)):=by
 have heads:∀ {a b:Nat} (_:a≠b) (x y x' y':List Nat),lx (a::x) (b::y)↔lx (a::x') (b::y'):=fun {a b} hab x y x' y'=>by
  rcases Nat.lt_or_ge a b with c | c
  ·exact ⟨fun _=>fj c,fun _=>fj c⟩
  ·have:b<a:=by omega
   exact ⟨fun k=>absurd k (jh this),fun k=>absurd k (jh this)⟩
 intro m1
 induction m1 with
 |zero=>intro m2 i j h1 h2 hi;omega
 |succ m1 ih=>
  intro m2 i j h1 h2 hi hj;obtain ⟨m2,rfl⟩:∃ k,m2=k+1:=⟨m2-1,by omega⟩;by_cases a:rz n t i <;> by_cases b:rz n t j
  ·unfold gS eS;simp only [if_pos a,if_pos b];by_cases e1:i+1=n <;> by_cases e2:j+1=n
   ·simp only [if_pos e1,if_pos e2];exact .inl ⟨trivial,.inl (by omega)⟩
   ·simp only [if_pos e1,if_neg e2];have:=h.more j (by omega);have c:1≠2*t j+1:=by omega
    exact .inr ⟨fun k=>c (by simp only [List.cons.injEq] at k;exact k.1),fun e e'=>heads c _ _ _ _⟩
   ·simp only [if_neg e1,if_pos e2];have:=h.more i (by omega);have c:2*t i+1≠1:=by omega
    exact .inr ⟨fun k=>c (by simp only [List.cons.injEq] at k;exact k.1),fun e e'=>heads c _ _ _ _⟩
   ·simp only [if_neg e1,if_neg e2];by_cases c:2*t i+1=2*t j+1
    ·rw [c];rcases ih (m2:=m2) (i:=i+1) (j:=j+1) (by omega) (by omega) (by omega) (by omega) with ⟨d1,d2⟩ | ⟨d1,d2⟩
     ·refine .inl ⟨by rw [d1],?_⟩;rcases d2 with d2 | d2
      ·exact .inl (by omega)
      ·exact .inr fun e=>fJ.trans (d2 e)
     ·refine .inr ⟨fun k=>d1 (by simp only [List.cons.injEq] at k;exact k.2),fun e e'=>?_⟩;rw [fJ,fJ];exact d2 e e'
    ·exact .inr ⟨fun k=>c (by simp only [List.cons.injEq] at k;exact k.1),fun e e'=>heads c _ _ _ _⟩
  ·unfold gS gL;simp only [if_pos a,if_neg b];by_cases e1:i+1=n
   ·simp only [if_pos e1];have c:1≠2*t j:=by omega
    exact .inr ⟨fun k=>c (by simp only [List.cons.injEq] at k;exact k.1),fun e e'=>heads c _ _ _ _⟩
   ·simp only [if_neg e1];have c:2*t i+1≠2*t j:=by omega
    exact .inr ⟨fun k=>c (by simp only [List.cons.injEq] at k;exact k.1),fun e e'=>heads c _ _ _ _⟩
  ·unfold gS gL;simp only [if_neg a,if_pos b];by_cases e2:j+1=n
   ·simp only [if_pos e2];have c:2*t i≠1:=by omega
    exact .inr ⟨fun k=>c (by simp only [List.cons.injEq] at k;exact k.1),fun e e'=>heads c _ _ _ _⟩
   ·simp only [if_neg e2];have c:2*t i≠2*t j+1:=by omega
    exact .inr ⟨fun k=>c (by simp only [List.cons.injEq] at k;exact k.1),fun e e'=>heads c _ _ _ _⟩
  ·have ex:∀ e,gS n t e (m1+1) i=gL n t e (m1+1) i:=fun e=>by unfold gS;rw [if_neg a]
   have ey:∀ e,gS n t e (m2+1) j=gL n t e (m2+1) j:=fun e=>by unfold gS;rw [if_neg b]
   have ez:eS n t (m1+1) i=eL n t (m1+1) i:=by unfold eS;rw [if_neg a]
   have ew:eS n t (m2+1) j=eL n t (m2+1) j:=by unfold eS;rw [if_neg b]
   simp only [ex,ey,ez,ew];rcases Kh h h1 h2 ⟨hi,.inl a⟩ ⟨hj,.inl b⟩ with ⟨d1,d2⟩ | d
   ·exact .inl ⟨d1,.inr d2⟩
   ·exact .inr d
noncomputable def dI (n:Nat) (t:Nat→Nat) (i:Nat):List Nat:=gS n t nil_ (n-i) i
noncomputable def fc (n:Nat) (t:Nat→Nat) (i:Nat):Nat:=eS n t (n-i) i
theorem pc (h:Txt n t) {i j:Nat} (hi:i<n) (hj:j<n) (hne:dI n t i≠dI n t j) :
 (lx (ee n t idx i) (ee n t idx j)↔sl n t i j)∧(lx (ee n t idx i) (ee n t idx j)↔lx (dI n t i) (dI n t j)):=by
 rcases FZ h rfl rfl hi hj with ⟨d,_⟩ | ⟨_,d⟩
 ·exact absurd d hne
 ·have e1:∀ x,ee n t idx x=gS n t (fun i=>[idx i]) (n-x) x:=fun x=>vJ _ _
  have e2:∀ x,ee n t (rank n t) x=gS n t (fun i=>[rank n t i]) (n-x) x:=fun x=>vJ _ _
  rw [←sX h qU hi hj,e1,e1,e2,e2];exact ⟨d _ _,d _ _⟩
theorem Fj (h:Txt n t) {i j:Nat} (hi:i<n) (hj:j<n) (he:dI n t i=dI n t j) (hne:i≠j) (p1:fc n t i<n) (p2:fc n t j<n):sl n t i j↔sl n t (fc n t i) (fc n t j):=by
 rcases FZ h rfl rfl hi hj with ⟨_,d | d⟩ | ⟨d,_⟩
 ·exact absurd d hne
 ·have e2:∀ x,ee n t (rank n t) x=gS n t (fun i=>[rank n t i]) (n-x) x:=fun x=>vJ _ _
  rw [←sX h qU hi hj,e2,e2,d (fun i=>[rank n t i]),←xy h p1 p2];exact ⟨fun a=>a.elim id (fun a=>a.2.elim),fun a=>.inl a⟩
 ·exact absurd he d
theorem CL (h:Txt n t) {i j k:Nat} (hi:i<n) (hj:j<n) (hk:k<n) (he:dI n t i=dI n t k) (h1:lx (ee n t idx i) (ee n t idx j)) (h2:lx (ee n t idx j) (ee n t idx k)):dI n t i=dI n t j:=by
 by_cases e:dI n t i=dI n t j
 ·exact e
 ·have a:=(pc (idx:=idx) h hi hj e).2.1 h1;have b:=(pc (idx:=idx) h hj hk (fun x=>e (he.trans x.symm))).2.1 h2;rw [he] at a;exact absurd a (lF b)
end
end Go.Proofs.YtcbakncjacnnjaaGreat.SA
namespace Go.Proofs.YtcbakncjacnnjaaGreat.SA
open Classical
section
variable {n:Nat} {t idx:Nat→Nat}
theorem BR (h:Txt n t):∀ {m i:Nat},m=n-i→FS n t i→lms n t (eL n t m i)∧i≤eL n t m i∧∀ x,i≤x→x<eL n t m i→¬ rz n t x:=by
 intro m
 induction m with
 |zero=>intro i hm hi;have:=hi.1;omega
 |succ m ih=>
  intro i hm hi;unfold eL;by_cases a:rz n t i
  ·simp only [if_pos a];exact ⟨kJ hi a,Nat.le_refl _,fun x h1 h2=>by omega⟩
  ·simp only [if_neg a];obtain ⟨h1,h2,h3⟩:=ih (i:=i+1) (by omega) (fa h hi.1 a);refine ⟨h1,by omega,fun x g1 g2=>?_⟩;by_cases e:x=i
   ·subst e;exact a
   ·exact h3 x (by omega) g2
theorem BQ (h:Txt n t):∀ {m i:Nat},m=n-i→i+1<n→lms n t (eS n t m i)∧i<eS n t m i∧∀ x,i<x→x<eS n t m i→¬ lms n t x:=by
 intro m
 induction m with
 |zero=>intro i hm hi;omega
 |succ m ih=>
  intro i hm hi;by_cases a:rz n t i
  ·have hi2:i+1+1<n:=by
    rcases Nat.lt_or_ge (i+1+1) n with b | b
    ·exact b
    ·have h1:=(o8 h hi a).1;rw [show i+1=n-1 by omega,h.last] at h1;have:=h.more i hi;omega
   have e:eS n t (m+1) i=eS n t m (i+1):=by
    conv=>lhs;unfold eS
    rw [if_pos a,if_neg (by omega)]
   rw [e];obtain ⟨h1,h2,h3⟩:=ih (i:=i+1) (by omega) hi2;refine ⟨h1,by omega,fun x g1 g2=>?_⟩;by_cases e:x=i+1
   ·subst e;exact fun l=>l.2.2.2 (by simpa using a)
   ·exact h3 x (by omega) g2
  ·have e:eS n t (m+1) i=eL n t m (i+1):=by
    conv=>lhs;unfold eS
    rw [if_neg a]
    conv=>lhs;unfold eL
    rw [if_neg a]
   rw [e];obtain ⟨h1,h2,h3⟩:=BR h (m:=m) (i:=i+1) (by omega) (fa h (by omega) a);exact ⟨h1,by omega,fun x g1 g2 l=>h3 x (by omega) g2 l.2.2.1⟩
theorem qh (h:Txt n t) {i:Nat} (hi:i+1<n):lms n t (fc n t i)∧i<fc n t i∧∀ x,i<x→x<fc n t i→¬ lms n t x:=BQ h rfl hi
noncomputable def vW (n:Nat) (t:Nat→Nat) (i:Nat):Nat:=2*t i+(if rz n t i then 1 else 0)
noncomputable def oB (n:Nat) (t:Nat→Nat):Nat→Nat→List Nat
 |_,0=>[]
 |i,m+1=>vW n t i::oB n t (i+1) m
theorem Ki (h:Txt n t):∀ {m i:Nat},m=n-i→FS n t i→gL n t nil_ m i=oB n t i (eL n t m i-i+1):=by
 intro m
 induction m with
 |zero=>intro i hm hi;have:=hi.1;omega
 |succ m ih=>
  intro i hm hi;unfold gL eL;by_cases a:rz n t i
  ·simp only [if_pos a,Nat.sub_self];unfold oB vW oB;rw [if_pos a]
  ·simp only [if_neg a];obtain ⟨_,h2,_⟩:=BR h (m:=m) (i:=i+1) (by omega) (fa h hi.1 a);rw [ih (i:=i+1) (by omega) (fa h hi.1 a),show eL n t m (i+1)-i+1=(eL n t m (i+1)-(i+1)+1)+1 by omega]
   conv=>rhs;unfold oB vW
   rw [if_neg a];rfl
theorem zJ (h:Txt n t):∀ {m i:Nat},m=n-i→i+1<n→gS n t nil_ m i=oB n t i (eS n t m i-i+1):=by
 intro m
 induction m with
 |zero=>intro i hm hi;omega
 |succ m ih=>
  intro i hm hi;by_cases a:rz n t i
  ·have hi2:i+1+1<n:=by
    rcases Nat.lt_or_ge (i+1+1) n with b | b
    ·exact b
    ·have h1:=(o8 h hi a).1;rw [show i+1=n-1 by omega,h.last] at h1;have:=h.more i hi;omega
   have e:eS n t (m+1) i=eS n t m (i+1):=by
    conv=>lhs;unfold eS
    rw [if_pos a,if_neg (by omega)]
   have e2:gS n t nil_ (m+1) i=(2*t i+1)::gS n t nil_ m (i+1):=by
    conv=>lhs;unfold gS
    rw [if_pos a,if_neg (by omega)]
   obtain ⟨_,h2,_⟩:=BQ h (m:=m) (i:=i+1) (by omega) hi2;rw [e,e2,ih (i:=i+1) (by omega) hi2,show eS n t m (i+1)-i+1=(eS n t m (i+1)-(i+1)+1)+1 by omega]
   conv=>rhs;unfold oB vW
   rw [if_pos a]
  ·have e:eS n t (m+1) i=eL n t (m+1) i:=by unfold eS;rw [if_neg a]
   have e2:gS n t nil_ (m+1) i=gL n t nil_ (m+1) i:=by unfold gS;rw [if_neg a]
   rw [e,e2];exact Ki h hm ⟨by omega,.inl a⟩
theorem th:∀ (m i:Nat),(oB n t i m).length=m
 |0,_=>rfl
 |m+1,i=>by unfold oB;rw [List.length_cons,th m]
theorem vT:∀ (m i j:Nat),oB n t i m=oB n t j m↔∀ k,k<m→vW n t (i+k)=vW n t (j+k)
 |0,_,_=>⟨fun _ k hk=>by omega,fun _=>rfl⟩
 |m+1,i,j=>by
  unfold oB;rw [List.cons.injEq,vT m];constructor
  ·rintro ⟨a,b⟩ k hk;cases k with
   |zero=>exact a
   |succ k=>rw [show i+(k+1)=i+1+k by omega,show j+(k+1)=j+1+k by omega];exact b k (by omega)
  ·intro a;refine ⟨a 0 (by omega),fun k hk=>?_⟩;have:=a (k+1) (by omega)
   rwa [show i+(k+1)=i+1+k by omega,show j+(k+1)=j+1+k by omega] at this
theorem CK (h:Txt n t) {i j:Nat} (hi:i+1<n) (hj:j+1<n):dI n t i=dI n t j↔fc n t i-i=fc n t j-j∧∀ k,k≤fc n t i-i→t (i+k)=t (j+k):=by
 obtain ⟨a1,a2,a3⟩:=qh h hi;obtain ⟨b1,b2,b3⟩:=qh h hj;unfold dI;rw [zJ h rfl hi,zJ h rfl hj];show oB n t i (fc n t i-i+1)=oB n t j (fc n t j-j+1)↔_;constructor
 ·intro e;have hl:=congrArg List.length e;rw [th,th] at hl;have hd:fc n t i-i=fc n t j-j:=by omega
  rw [hd] at e ⊢;refine ⟨rfl,fun k hk=>?_⟩;have:=(vT _ _ _).1 e k (by omega);unfold vW at this;split at this <;> split at this <;> omega
 ·rintro ⟨hd,hk⟩;rw [hd] at hk ⊢;rw [vT]
  have rzs:∀ d k,k+d=fc n t j-j→(rz n t (i+k)↔rz n t (j+k)):=by
   intro d
   induction d with
   |zero=>
    intro k hkd;rw [show i+k=fc n t i by omega,show j+k=fc n t j by omega];exact ⟨fun _=>b1.2.2.1,fun _=>a1.2.2.1⟩
   |succ d ih=>
    intro k hkd;have e1:=hk k (by omega);have e2:=hk (k+1) (by omega);have e3:=ih (k+1) (by omega);rw [og h (i:=i+k) (by have:=a1.2.1;omega),og h (i:=j+k) (by have:=b1.2.1;omega)];rw [show i+k+1=i+(k+1) by omega,show j+k+1=j+(k+1) by omega,e1,e2,e3]
  intro k hk2;unfold vW;rw [hk k (by omega)];have:=rzs (fc n t j-j-k) k (by omega);by_cases r:rz n t (j+k)
  ·rw [if_pos r,if_pos (this.2 r)]
  ·rw [if_neg r,if_neg (fun x=>r (this.1 x))]
theorem ot (h:Txt n t) {i:Nat} (hi:i<n) (he:dI n t i=dI n t (n-1)):i=n-1:=by
 have e1:dI n t (n-1)=[1]:=by
  have:=h.pos;unfold dI;rw [show n-(n-1)=0+1 by omega];unfold gS;rw [if_pos (rG h),if_pos (by omega)]
 rw [e1] at he;rcases Nat.lt_or_ge (i+1) n with a | a
 ·unfold dI at he;rw [zJ h rfl a] at he;unfold oB vW at he;simp only [List.cons.injEq] at he;have:=h.more i a;omega
 ·omega
structure dU (n:Nat) (t:Nat→Nat) (m:Nat) (ss:Nat→Nat):Prop where
 is:∀ k,k<m→lms n t (ss k)
 up:∀ a b,a<b→b<m→ss a<ss b
 all:∀ s,lms n t s→∃ k,k<m∧ss k=s
variable {m:Nat} {ss:Nat→Nat}
theorem dU.inj (H:dU n t m ss) {a b:Nat} (ha:a<m) (hb:b<m) (he:ss a=ss b):a=b:=by
 rcases Nat.lt_trichotomy a b with c | c | c
 ·have:=H.up a b c hb;omega
 ·exact c
 ·have:=H.up b a c ha;omega
theorem dU.pos (H:dU n t m ss) (h:Txt n t) (h2:2≤n):0<m:=by
 obtain ⟨k,hk,_⟩:=H.all _ (mT h h2);omega
theorem dU.last (H:dU n t m ss) (h:Txt n t) (h2:2≤n):ss (m-1)=n-1:=by
 obtain ⟨k,hk,e⟩:=H.all _ (mT h h2);by_cases c:k=m-1
 ·rw [←c];exact e
 ·have:=H.up k (m-1) (by omega) (by omega);have:=(H.is (m-1) (by omega)).2.1;omega
theorem dU.next (H:dU n t m ss) (h:Txt n t) {k:Nat} (hk:k+1<m):ss k+1<n∧fc n t (ss k)=ss (k+1):=by
 have h1:=H.up k (k+1) (by omega) hk;have h2:=(H.is (k+1) hk).2.1;have h3:ss k+1<n:=by omega
 obtain ⟨a1,a2,a3⟩:=qh h h3;obtain ⟨q,hq,e⟩:=H.all _ a1;refine ⟨h3,?_⟩;rcases Nat.lt_trichotomy q (k+1) with c | c | c
 ·rcases Nat.lt_or_ge q k with d | d
  ·have:=H.up q k d (by omega);omega
  ·obtain rfl:q=k:=by omega
   omega
 ·subst c;exact e.symm
 ·have:=H.up (k+1) q c hq;exact absurd (H.is (k+1) hk) (a3 _ h1 (by omega))
theorem dU.less (H:dU n t m ss) (h:Txt n t) (h2:2≤n):m<n:=by
 have:∀ k,k<m→k+1≤ss k:=by
  intro k
  induction k with
  |zero=>intro hk;have:=(H.is 0 hk).1;omega
  |succ k ih=>intro hk;have:=ih (by omega);have:=H.up k (k+1) (by omega) hk;omega
 have hm:=H.pos h h2;have:=this (m-1) (by omega);rw [H.last h h2] at this;omega
def y4 (f:Nat→Nat) (k v:Nat):Nat→Nat:=fun x=>if x=k then v else f x
theorem ka (f:Nat→Nat) (k v:Nat):y4 f k v k=v:=if_pos rfl
theorem jM (f:Nat→Nat) {k x:Nat} (v:Nat) (h:x≠k):y4 f k v x=f x:=if_neg h
structure oV (n:Nat) (t idx:Nat→Nat) (m:Nat) (ss:Nat→Nat) (r:Nat) (nm:Nat→Nat) (kinds:Nat):Prop where
 eq:∀ a b,a<m→b<m→pos n t idx (ss a)<r→pos n t idx (ss b)<r→(nm a=nm b↔dI n t (ss a)=dI n t (ss b))
 le:∀ a b,a<m→b<m→pos n t idx (ss a)<r→pos n t idx (ss b)<r→pos n t idx (ss a)≤pos n t idx (ss b)→nm a≤nm b
 top:∀ a,a<m→pos n t idx (ss a)<r→nm a≤kinds
 some:∀ c,c≤kinds→(∃ a,a<m∧pos n t idx (ss a)<r)→∃ a,a<m∧pos n t idx (ss a)<r∧nm a=c
 none:(∀ a,a<m→r≤pos n t idx (ss a))→kinds=0
def tX (n:Nat) (t idx:Nat→Nat) (m:Nat) (ss:Nat→Nat) (r:Nat) (nm:Nat→Nat) (kinds b:Nat):Prop:=b<m∧pos n t idx (ss b)<r∧nm b=kinds∧∀ a,a<m→pos n t idx (ss a)<r→pos n t idx (ss a)≤pos n t idx (ss b)
theorem zx:oV n t idx m ss 0 (fun _=>0) 0:=
 ⟨fun _ _ _ _ h=>by omega,fun _ _ _ _ h=>by omega,fun _ _ h=>by omega,fun _ _ ⟨_,_,h⟩=>by omega,fun _=>rfl⟩
theorem CZ {r:Nat} {nm:Nat→Nat} {kinds:Nat} (hI:oV n t idx m ss r nm kinds) (hno:∀ a,a<m→pos n t idx (ss a)≠r):oV n t idx m ss (r+1) nm kinds∧∀ b,tX n t idx m ss r nm kinds b→tX n t idx m ss (r+1) nm kinds b:=by
 have k:∀ a,a<m→pos n t idx (ss a)<r+1→pos n t idx (ss a)<r:=fun a ha hp=>by have:=hno a ha;omega
 refine ⟨⟨fun a b ha hb p q=>hI.eq a b ha hb (k a ha p) (k b hb q),fun a b ha hb p q=>hI.le a b ha hb (k a ha p) (k b hb q),fun a ha p=>hI.top a ha (k a ha p),fun c hc ⟨a,ha,p⟩=>?_,fun h=>hI.none fun a ha=>by have:=h a ha;omega⟩,fun b hb=>⟨hb.1,by have:=hb.2.1;omega,hb.2.2.1,fun a ha p=>hb.2.2.2 a ha (k a ha p)⟩⟩;obtain ⟨x,x1,x2,x3⟩:=hI.some c hc ⟨a,ha,k a ha p⟩;exact ⟨x,x1,by omega,x3⟩
theorem FM (h:Txt n t) (ho:Ord n t idx) (H:dU n t m ss) {r:Nat} {nm:Nat→Nat} {kinds kinds2 s:Nat} (hI:oV n t idx m ss r nm kinds) (hs:s<m) (hp:pos n t idx (ss s)=r)
 (hk:(kinds2=0∧∀ a,a<m→r≤pos n t idx (ss a))∨∃ b,tX n t idx m ss r nm kinds b∧((dI n t (ss b)=dI n t (ss s)∧kinds2=kinds)∨(dI n t (ss b)≠dI n t (ss s)∧kinds2=kinds+1))) :
 oV n t idx m ss (r+1) (y4 nm s kinds2) kinds2∧tX n t idx m ss (r+1) (y4 nm s kinds2) kinds2 s:=by
 have lt:∀ a,a<m→lms n t (ss a):=H.is;have pin:∀ a,a<m→pos n t idx (ss a)=r→a=s:=fun a ha he=>H.inj ha hs (jR h ho (lt a ha).2.1 (lt s hs).2.1 (by rw [he,hp]))
 have old:∀ a,a<m→pos n t idx (ss a)<r+1→a≠s→pos n t idx (ss a)<r:=fun a ha p e=>by
  have:pos n t idx (ss a)≠r:=fun e2=>e (pin a ha e2)
  omega
 have ne:∀ a,a<m→pos n t idx (ss a)<r→a≠s:=fun a _ p e=>by subst e;omega
 have key:∀ a,a<m→pos n t idx (ss a)<r→nm a≤kinds2∧(nm a=kinds2↔dI n t (ss a)=dI n t (ss s)):=by
  intro a ha p;rcases hk with ⟨_,hn⟩ | ⟨b,hb,hk⟩
  ·have:=hn a ha;omega
  ·have e1:=hI.eq a b ha hb.1 p hb.2.1;have e2:=hI.top a ha p;rw [hb.2.2.1] at e1;rcases hk with ⟨g1,rfl⟩ | ⟨g1,rfl⟩
   ·exact ⟨e2,by rw [e1,g1]⟩
   ·refine ⟨by omega,⟨fun e=>by omega,fun e=>?_⟩⟩;exfalso;have hb3:=hb.2.2.2 a ha p;by_cases c:a=b
    ·subst c;exact g1 e
    ·have hlt:pos n t idx (ss a)<pos n t idx (ss b):=by
      have:pos n t idx (ss a)≠pos n t idx (ss b):=fun x=>c (H.inj ha hb.1 (jR h ho (lt a ha).2.1 (lt b hb.1).2.1 x))
      omega
     have m1:=(nF h ho (lt a ha).2.1 (lt b hb.1).2.1).1 hlt;have m2:=(nF h ho (lt b hb.1).2.1 (lt s hs).2.1).1 (by have:=hb.2.1;omega);exact g1 ((CL h (lt a ha).2.1 (lt b hb.1).2.1 (lt s hs).2.1 e m1 m2).symm.trans e)
 refine ⟨⟨fun a b ha hb p q=>?_,fun a b ha hb p q o=>?_,fun a ha p=>?_,fun c hc _=>?_,fun hn=>?_⟩,hs,by omega,ka _ _ _,fun a ha p=>by omega⟩
 ·by_cases e1:a=s <;> by_cases e2:b=s
  ·subst e1;subst e2;simp
  ·subst e1;rw [ka,jM _ _ e2];have:=(key b hb (old b hb q e2)).2;exact ⟨fun x=>(this.1 x.symm).symm,fun x=>(this.2 x.symm).symm⟩
  ·subst e2;rw [ka,jM _ _ e1];exact (key a ha (old a ha p e1)).2
  ·rw [jM _ _ e1,jM _ _ e2];exact hI.eq a b ha hb (old a ha p e1) (old b hb q e2)
 ·by_cases e1:a=s <;> by_cases e2:b=s
  ·subst e1;subst e2;exact Nat.le_refl _
  ·subst e1;have:=old b hb q e2;omega
  ·subst e2;rw [ka,jM _ _ e1];exact (key a ha (old a ha p e1)).1
  ·rw [jM _ _ e1,jM _ _ e2];exact hI.le a b ha hb (old a ha p e1) (old b hb q e2) o
 ·by_cases e1:a=s
  ·subst e1;rw [ka];exact Nat.le_refl _
  ·rw [jM _ _ e1];exact (key a ha (old a ha p e1)).1
 ·by_cases e:c=kinds2
  ·exact ⟨s,hs,by omega,by rw [ka,e]⟩
  ·rcases hk with ⟨g0,_⟩ | ⟨b,hb,hk⟩
   ·omega
   ·obtain ⟨a,a1,a2,a3⟩:=hI.some c (by omega) ⟨b,hb.1,hb.2.1⟩;exact ⟨a,a1,by omega,by rw [jM _ _ (ne a a1 a2)];exact a3⟩
 ·have:=hn s hs;omega
theorem Bq (h:Txt n t) (h2:2≤n) (_:Ord n t idx) (H:dU n t m ss) {nm:Nat→Nat} {kinds:Nat} (hI:oV n t idx m ss n nm kinds):Txt m nm∧∀ k,k<m→nm k≤kinds:=by
 have hm:=H.pos h h2;have hl:=H.last h h2;have pl:∀ a,a<m→pos n t idx (ss a)<n:=fun a ha=>ko (H.is a ha).2.1
 obtain ⟨a,a1,a2,a3⟩:=hI.some 0 (Nat.zero_le _) ⟨0,hm,pl 0 hm⟩
 have hz:nm (m-1)=0:=by
  have:=hI.le (m-1) a (by omega) a1 (pl _ (by omega)) a2 (by rw [hl,(xB h h2).1];exact Nat.zero_le _);omega
 refine ⟨⟨hm,hz,fun i hi=>?_⟩,fun k hk=>hI.top k hk (pl k hk)⟩;rcases Nat.eq_zero_or_pos (nm i) with e | e
 ·have e2:=(hI.eq i (m-1) (by omega) (by omega) (pl _ (by omega)) (pl _ (by omega))).1 (by rw [e,hz]);rw [hl] at e2;have e3:=ot h (H.is i (by omega)).2.1 e2;have:=H.up i (m-1) (by omega) (by omega);omega
 ·exact e
theorem EU (h:Txt n t) (_:2≤n) (ho:Ord n t idx) (H:dU n t m ss) {nm:Nat→Nat} {kinds:Nat} (hI:oV n t idx m ss n nm kinds) :
 ∀ {d a b:Nat},d=m-a→a<m→b<m→sl m nm a b→sl n t (ss a) (ss b):=by
 have pl:∀ a,a<m→pos n t idx (ss a)<n:=fun a ha=>ko (H.is a ha).2.1
 have ln:∀ a,a<m→ss a<n:=fun a ha=>(H.is a ha).2.1
 intro d
 induction d with
 |zero=>intro a b hd ha;omega
 |succ d ih=>
  intro a b hd ha hb hs;rcases ia.1 hs with ⟨_,_,c⟩ | ⟨c,g⟩
  ·have hne:dI n t (ss a)≠dI n t (ss b):=fun e=>by
    have:=(hI.eq a b ha hb (pl a ha) (pl b hb)).2 e;omega
   refine (pc (idx:=idx) h (ln a ha) (ln b hb) hne).1.1 ?_;rw [←nF h ho (ln a ha) (ln b hb)];rcases Nat.lt_or_ge (pos n t idx (ss a)) (pos n t idx (ss b)) with x | x
   ·exact x
   ·have:=hI.le b a hb ha (pl b hb) (pl a ha) x;omega
  ·obtain ⟨g1,g2⟩:=El g;have he:=(hI.eq a b ha hb (pl a ha) (pl b hb)).1 c;obtain ⟨a1,a2⟩:=H.next h g1;obtain ⟨b1,b2⟩:=H.next h g2
   have hne:ss a≠ss b:=fun e=>by
    have:=H.inj ha hb e;subst this;exact pX _ hs
   rw [Fj h (ln a ha) (ln b hb) he hne (by rw [a2];exact ln _ g1) (by rw [b2];exact ln _ g2),a2,b2];exact ih (by omega) g1 g2 g
theorem HE (h:Txt n t) (h2:2≤n) (ho:Ord n t idx) (H:dU n t m ss) {nm:Nat→Nat} {kinds:Nat} (hI:oV n t idx m ss n nm kinds) {a b:Nat} (ha:a<m) (hb:b<m):sl m nm a b↔sl n t (ss a) (ss b):=by
 refine ⟨EU h h2 ho H hI rfl ha hb,fun hs=>?_⟩;by_cases e:a=b
 ·subst e;exact absurd hs (pX _)
 ·rcases sb (Bq h h2 ho H hI).1 rfl ha hb e with c | c
  ·exact c
  ·exact absurd (EU h h2 ho H hI rfl hb ha c) (sc hs)
theorem vA (h:Txt n t) (ho:Ord n t idx) (H:dU n t m ss) {nm:Nat→Nat} {kinds:Nat} (hI:oV n t idx m ss n nm kinds) (hk:kinds+1=m) {a b:Nat} (ha:a<m) (hb:b<m):pos n t idx (ss a)<pos n t idx (ss b)↔sl n t (ss a) (ss b):=by
 have pl:∀ a,a<m→pos n t idx (ss a)<n:=fun a ha=>ko (H.is a ha).2.1
 have ln:∀ a,a<m→ss a<n:=fun a ha=>(H.is a ha).2.1
 rw [nF h ho (ln a ha) (ln b hb)];by_cases e:a=b
 ·subst e;exact ⟨fun x=>absurd x (lh _),fun x=>absurd x (pX _)⟩
 ·refine (pc (idx:=idx) h (ln a ha) (ln b hb) fun he=>?_).1;have hnm:=(hI.eq a b ha hb (pl a ha) (pl b hb)).2 he
  have hs:∀ c,c<m→∃ x,x<m∧nm x=c:=fun c hc=>by
   obtain ⟨x,x1,_,x3⟩:=hI.some c (by omega) ⟨a,ha,pl a ha⟩;exact ⟨x,x1,x3⟩
  let g:Nat→Nat:=fun c=>if hc:c<m then Classical.choose (hs c hc) else 0
  have hg:∀ c,c<m→g c<m∧nm (g c)=c:=fun c hc=>by
   have:=Classical.choose_spec (hs c hc);show (if hc:c<m then Classical.choose (hs c hc) else 0)<m∧nm (if hc:c<m then Classical.choose (hs c hc) else 0)=c;rw [dif_pos hc];exact this
  have sg:=y8 (n:=m) (f:=g) (fun c hc=>(hg c hc).1) (fun c d hc hd x=>by
   have h1:=(hg c hc).2;have h2:=(hg d hd).2;rw [x] at h1;omega)
  obtain ⟨c,c1,c2⟩:=sg a ha;obtain ⟨d,d1,d2⟩:=sg b hb;have h1:=(hg c c1).2;have h2:=(hg d d1).2;rw [c2] at h1;rw [d2] at h2;have:c=d:=by omega
  subst this;omega
end
end Go.Proofs.YtcbakncjacnnjaaGreat.SA
namespace Go.Proofs.YtcbakncjacnnjaaGreat
open Go.Proofs.Tryz (prog)
open Go.RowKit
open Go.Proofs.YtcbakncjacnnjaaGreat.SA
abbrev jV (x:Int):Value:=.int .i32 x
def f_ (n:Nat) (f:Nat→Int):Array Value:=((List.range n).map fun i=>jV (f i)).toArray
def kk (n:Nat) (f:Nat→Bool):Array Value:=((List.range n).map fun i=>Value.bool (f i)).toArray
def ly (n:Nat) (f:Nat→Int):Array Value:=((List.range n).map fun i=>iV (f i)).toArray
theorem gz {n:Nat} {f:Nat→Int}:(f_ n f).size=n:=by simp [f_]
theorem kd {n:Nat} {f:Nat→Bool}:(kk n f).size=n:=by simp [kk]
theorem kb {n:Nat} {f:Nat→Int}:(ly n f).size=n:=by simp [ly]
theorem lT {n i:Nat} {f:Nat→Int} (h:i<n):(f_ n f)[i]? =some (jV (f i)):=by simp [f_,h]
theorem nz {n i:Nat} {f:Nat→Bool} (h:i<n):(kk n f)[i]? =some (.bool (f i)):=by simp [kk,h]
theorem rv {n i:Nat} {f:Nat→Int} (h:i<n):(ly n f)[i]? =some (iV (f i)):=by simp [ly,h]
theorem fm {n:Nat} {f g:Nat→Int} (h:∀ i,i<n→f i=g i):f_ n f=f_ n g:=by
 unfold f_
 congr 1
 exact List.map_congr_left fun i hi=>by rw [h i (List.mem_range.1 hi)]
theorem n9 {n:Nat} {f g:Nat→Bool} (h:∀ i,i<n→f i=g i):kk n f=kk n g:=by
 unfold kk
 congr 1
 exact List.map_congr_left fun i hi=>by rw [h i (List.mem_range.1 hi)]
theorem r5 {n:Nat} {f g:Nat→Int} (h:∀ i,i<n→f i=g i):ly n f=ly n g:=by
 unfold ly
 congr 1
 exact List.map_congr_left fun i hi=>by rw [h i (List.mem_range.1 hi)]
theorem oX {n i:Nat} {f:Nat→Int} {v:Int}:(f_ n f).setIfInBounds i (jV v)=f_ n (upd f i v):=by
 apply Array.ext_getElem?;intro j;rw [Array.getElem?_setIfInBounds,gz];by_cases hj:j<n
 ·rw [lT hj,lT hj];by_cases e:i=j
  ·subst e;rw [if_pos rfl,if_pos hj,fi]
  ·rw [if_neg e,fY _ _ (fun h=>e h.symm)]
 ·rw [Array.getElem?_eq_none (xs:=f_ n (upd f i v)) (by rw [gz];omega),Array.getElem?_eq_none (xs:=f_ n f) (by rw [gz];omega)];split
  ·rw [if_neg (by omega)]
  ·rfl
theorem xd {n i:Nat} {f:Nat→Int} {v:Int}:(ly n f).setIfInBounds i (iV v)=ly n (upd f i v):=by
 apply Array.ext_getElem?;intro j;rw [Array.getElem?_setIfInBounds,kb];by_cases hj:j<n
 ·rw [rv hj,rv hj];by_cases e:i=j
  ·subst e;rw [if_pos rfl,if_pos hj,fi]
  ·rw [if_neg e,fY _ _ (fun h=>e h.symm)]
 ·rw [Array.getElem?_eq_none (xs:=ly n (upd f i v)) (by rw [kb];omega),Array.getElem?_eq_none (xs:=ly n f) (by rw [kb];omega)];split
  ·rw [if_neg (by omega)]
  ·rfl
def y5 (f:Nat→Bool) (k:Nat) (v:Bool):Nat→Bool:=fun x=>if x=k then v else f x
theorem xe {n i:Nat} {f:Nat→Bool} {v:Bool}:(kk n f).setIfInBounds i (Value.bool v)=kk n (y5 f i v):=by
 apply Array.ext_getElem?;intro j;rw [Array.getElem?_setIfInBounds,kd];by_cases hj:j<n
 ·rw [nz hj,nz hj];unfold y5;by_cases e:i=j
  ·subst e;rw [if_pos rfl,if_pos hj,if_pos rfl]
  ·rw [if_neg e,if_neg (fun h=>e h.symm)]
 ·rw [Array.getElem?_eq_none (xs:=kk n (y5 f i v)) (by rw [kd];omega),Array.getElem?_eq_none (xs:=kk n f) (by rw [kd];omega)];split
  ·rw [if_neg (by omega)]
  ·rfl
theorem jd (n:Nat):(List.replicate n (Value.int .i32 0)).toArray=f_ n fun _=>0:=by
 apply Array.ext_getElem?;intro j;by_cases hj:j<n
 ·rw [lT hj];simp [hj]
 ·rw [Array.getElem?_eq_none (xs:=f_ n fun _=>0) (by rw [gz];omega),Array.getElem?_eq_none (by simpa using hj)]
theorem uD (n:Nat):(List.replicate n (Value.int .i64 0)).toArray=ly n fun _=>0:=by
 apply Array.ext_getElem?;intro j;by_cases hj:j<n
 ·rw [rv hj];simp [hj]
 ·rw [Array.getElem?_eq_none (xs:=ly n fun _=>0) (by rw [kb];omega),Array.getElem?_eq_none (by simpa using hj)]
theorem Cj (n:Nat):(List.replicate n (Value.bool false)).toArray=kk n fun _=>false:=by
 apply Array.ext_getElem?;intro j;by_cases hj:j<n
 ·rw [nz hj];simp [hj]
 ·rw [Array.getElem?_eq_none (xs:=kk n fun _=>false) (by rw [kd];omega),Array.getElem?_eq_none (by simpa using hj)]
def VJ (w:World) (g K:Nat) (f:Nat→Int):Prop:=∃ cur:Array Value,Blk w g 21 cur∧K≤cur.size∧∀ i,i<K→cur[i]? =some (jV (f i))
theorem VJ.of_blk {w:World} {g n:Nat} {f:Nat→Int} (h:Blk w g 21 (f_ n f)):VJ w g n f:=⟨_,h,by rw [gz];exact Nat.le_refl _,fun _ hi=>lT hi⟩
theorem VJ.congr {w:World} {g K:Nat} {f f2:Nat→Int} (h:VJ w g K f) (e:∀ i,i<K→f i=f2 i):VJ w g K f2:=by
 obtain ⟨cur,h1,h2,h3⟩:=h;exact ⟨cur,h1,h2,fun i hi=>by rw [h3 i hi,e i hi]⟩
theorem VJ.rd {w:World} {g K i:Nat} {f:Nat→Int} (h:VJ w g K f) (hi:i<K):w.cell? ⟨g,i,none⟩=some (jV (f i)):=by
 obtain ⟨cur,h1,h2,h3⟩:=h;exact h1.rd i (h3 i hi)
theorem VJ.from_ {w w':World} {g K:Nat} {f:Nat→Int} (h:VJ w g K f) (hF:aj w w'):VJ w' g K f:=by
 obtain ⟨cur,h1,h2⟩:=h;exact ⟨cur,h1.from_ hF,h2⟩
theorem VJ.only {w w':World} {g g2 K:Nat} {f:Nat→Int} (h:VJ w g K f) (o:de g2 w w') (hne:g≠g2):VJ w' g K f:=by
 obtain ⟨cur,h1,h2⟩:=h;exact ⟨cur,h1.only o hne,h2⟩
theorem VJ.grown {w w':World} {g K:Nat} {f:Nat→Int} {r:Option Nat} (h:VJ w g K f) (hg:w.grownBy w' r) (hne:∀ q,r=some q→q≠g):VJ w' g K f:=by
 obtain ⟨cur,h1,h2⟩:=h;exact ⟨cur,h1.grown hg hne,h2⟩
theorem VJ.put {w:World} {g K i:Nat} {f:Nat→Int} {v:Int} {cur:Array Value} (h:Blk w g 21 (cur.setIfInBounds i (jV v))) (hs:K≤cur.size) (hc:∀ i,i<K→cur[i]? =some (jV (f i))) (hi:i<K):VJ w g K (upd f i v):=by
 refine ⟨_,h,by rw [Array.size_setIfInBounds];exact hs,fun j hj=>?_⟩;rw [Array.getElem?_setIfInBounds];by_cases e:i=j
 ·subst e;rw [if_pos rfl,if_pos (by omega),fi]
 ·rw [if_neg e,fY _ _ (fun h=>e h.symm)];exact hc j hj
theorem VJ.range {w:World} {g K k:Nat} {f:Nat→Int} (h:VJ w g K f) (hk:k≤K):w.rangeAt g 0 ((List.range k).map fun i=>jV (f i)):=fun j v hv=>by
 have hj:j<k:=by
  rcases Nat.lt_or_ge j k with a | a
  ·exact a
  ·rw [List.getElem?_eq_none (by simpa using a)] at hv;cases hv
 have e:=h.rd (show j<K by omega);simp [hj] at hv;rw [Nat.zero_add,e,←hv]
theorem VJ.lt {w:World} {g K:Nat} {f:Nat→Int} (h:VJ w g K f):g<w.heap.size:=by
 obtain ⟨cur,h1,_⟩:=h;exact h1.lt
theorem VJ.own {w:World} {base g K c:Nat} {f:Nat→Int} (h:w.ownsRow base 21 1 (.slice (some ⟨g,0,none⟩) K c) K (((List.range K).map f).map jV)) (h0:0<K):VJ w g K f∧base≤g:=by
 obtain ⟨g',cur,hA,hg,hb,h1,h2,h3,h4⟩:=fH h h0;cases hA;refine ⟨⟨_,hb,by rw [List.size_toArray,h3];omega,fun i hi=>?_⟩,hg⟩;rw [List.getElem?_toArray];have e:=congrArg (fun l=>l[i]?) h4;rw [List.getElem?_take,if_pos (by omega)] at e;rw [e];simp [hi]
section
variable {P:Program} {ρ:Operand→Value} {w:World} {t yt:TypeId} {x y:Operand}
theorem i32_in {a:Int} (h:-2147483648≤a∧a≤2147483647):IntKind.i32.wrap a=a:=by
 have e:((2:Int) ^ IntKind.i32.bits)=4294967296:=by decide
 have e2:((2:Int) ^ (IntKind.i32.bits-1))=2147483648:=by decide
 unfold IntKind.wrap;simp only [e,e2,show IntKind.i32.signed=true from rfl,Bool.true_and,decide_eq_true_eq];split <;> omega
theorem iH {a b r:Int} (hx:ρ x=.int .i32 a) (hy:ρ y=.int .i32 b) (he:a+b=r) (h:-2147483648≤r∧r≤2147483647):RO P ρ (.binOp .add t x y yt) w (.int .i32 r) w:=by
 have:=zm (P:=P) (ρ:=ρ) (w:=w) (t:=t) (yt:=yt) hx hy
 rwa [he,i32_in h] at this
theorem lz {a b r:Int} (hx:ρ x=.int .i32 a) (hy:ρ y=.int .i32 b) (he:a-b=r) (h:-2147483648≤r∧r≤2147483647):RO P ρ (.binOp .sub t x y yt) w (.int .i32 r) w:=by
 have:=zg (P:=P) (ρ:=ρ) (w:=w) (t:=t) (yt:=yt) hx hy
 rwa [he,i32_in h] at this
theorem iv {src dst:TypeId} {k:IntKind} {a:Int} (hs:(P.underlying src).isSome=true) (hd:P.underlying dst=some (.int .i32)) (hx:ρ x=.int k a) (h:-2147483648≤a∧a≤2147483647):RO P ρ (.convert src dst x) w (.int .i32 a) w:=
 o7 hs hd hx (i32_in h)
theorem Bk {e by_ m:Nat} {z:Value} {kl kc:IntKind} (ht:lE P t=some (e,by_,z)) (hz:z.cells=#[z]) (hx:ρ x=.int kl (m:Nat)) (hy:ρ y=.int kc (m:Nat)) (hm:m≤9223372036854775807) (hb:by_*m≤281474976710656) :
 RO P ρ (.makeSlice t x y) w (.slice (some ⟨w.heap.size,0,none⟩) m m) (w.alloc (.cells (List.replicate m z).toArray e)):=by
 unfold lE at ht;split at ht
 ·rename_i e' hu;cases hi:P.info? e' with
  |none=>simp [hi] at ht
  |some i=>
   rw [hi] at ht;simp only [Option.bind_some] at ht;split at ht
   ·rename_i hs;cases hzz:i.zero with
    |none=>simp [hzz] at ht
    |some z'=>
     simp only [hzz,Option.map_some,Option.some.injEq,Prod.mk.injEq] at ht;obtain ⟨rfl,rfl,rfl⟩:=ht
     have hr:=run_make (P:=P) w t e' i z' hu hi hzz kl kc (m:Int) (m:Int) (by omega) (Int.le_refl _) (by
      have:((i.bytes*m:Nat):Int)≤281474976710656:=by omega
      rwa [Int.natCast_mul] at this) (by omega)
     have hcells:madeCells z'.cells ((m:Int).toNat*i.size)=(List.replicate m z').toArray:=by
      rw [hs,Int.toNat_natCast,Nat.mul_one,hz];apply Array.ext_getElem?;intro j;simp only [madeCells,Array.getElem?_map];by_cases hj:j<m
      ·simp [hj,Nat.mod_one]
      ·simp [hj]
     rw [hcells,Int.toNat_natCast] at hr;exact fun _ _ _ _ _=>by simp [execOp,hx,hy,hr]
   ·cases ht
 ·cases ht
end
section
open Classical
noncomputable def rb (n:Nat) (t:Nat→Nat) (i:Nat):Bool:=decide (rz n t i)
theorem mP {n i:Nat} {t:Nat→Nat}:rb n t i=true↔rz n t i:=decide_eq_true_iff
theorem sx {n i:Nat} {t:Nat→Nat}:rb n t i=false↔¬ rz n t i:=decide_eq_false_iff_not
end
def jq (w:World) (b n K:Nat) (t:Nat→Nat) (m:Nat) (ss:Nat→Nat):Prop:=∃ gl gr AS cs ge,Blk w b 229 #[.slice (some ⟨gl,0,none⟩) n n,.int .i64 (K:Nat),.slice (some ⟨gr,0,none⟩) n n,.slice AS m cs,.slice (some ⟨ge,0,none⟩) K K]∧
 VJ w gl n (fun i=>(t i:Nat))∧Blk w gr 4 (kk n (rb n t))∧(0<m→∃ g,AS=some ⟨g,0,none⟩∧VJ w g m (fun k=>(ss k:Nat)))∧VJ w ge K (fun c=>(less n t (c+1):Nat))
theorem jq.from_ {w w':World} {b n K m:Nat} {t ss:Nat→Nat} (h:jq w b n K t m ss) (hF:aj w w'):jq w' b n K t m ss:=by
 obtain ⟨gl,gr,AS,cs,ge,h1,h2,h3,h4,h5⟩:=h;exact ⟨gl,gr,AS,cs,ge,h1.from_ hF,h2.from_ hF,h3.from_ hF,fun h0=>(let ⟨g,a,b⟩:=h4 h0;⟨g,a,b.from_ hF⟩),h5.from_ hF⟩
end Go.Proofs.YtcbakncjacnnjaaGreat
namespace Go.Proofs.YtcbakncjacnnjaaGreat
open Go.Proofs.Tryz (prog)
open Go.RowKit
open Go.ChangeShapes Go.WideShapes Go.ChangeAt
open Go.Proofs.YtcbakncjacnnjaaGreat.SA
theorem cd:dh prog 86=some (3,1):=by kernel_rfl
theorem aP:dh prog 137=some (21,1):=by kernel_rfl
theorem bP:(dh prog 86).isSome=true:=by kernel_rfl
theorem aY:fz prog 3=some false:=by kernel_rfl
theorem fo:lE prog 137=some (21,4,(.int .i32 0)):=by kernel_rfl
theorem iR:prog.underlying 21=some (.int .i32):=by kernel_rfl
theorem df:dY prog 21=some 1:=by kernel_rfl
theorem dL:gD prog 137=some (21,1,4,(.int .i32 0)):=by kernel_rfl
theorem uw:prog.underlying 137=some (.slice 21):=by kernel_rfl
def okS (k x:Int):Bool:=decide (0≤x)&&decide (x<k)
theorem vy {k x:Int} (h:x<0∨k≤x):okS k x=false:=by
 unfold okS;rcases h with h | h
 ·rw [decide_eq_false (by omega)];rfl
 ·rw [decide_eq_false (p:=x<k) (by omega),Bool.and_false]
theorem rJ {k x:Int} (h:0≤x) (g:x<k):okS k x=true:=by
 unfold okS;rw [decide_eq_true h,decide_eq_true g];rfl
theorem By {k x:Int}:okS k x=true↔0≤x∧x<k:=by simp [okS]
theorem yy {p:Int→Bool} {l:List Int} {i:Nat} (hi:i<l.length) (h:(l.take i).all p=true) (hp:p l[i]=true):(l.take (i+1)).all p=true:=by
 rw [List.take_succ_eq_append_getElem hi,List.all_append,h];simp [hp]
theorem B_ {p:Int→Bool} {l:List Int} {i:Nat} (hi:¬ i<l.length) (h:(l.take i).all p=true):l.all p=true:=by
 rwa [List.take_of_length_le (by omega)] at h
theorem wh {p:Int→Bool} {l:List Int} {i:Nat} (hi:i<l.length) (hp:p l[i]=false):l.all p=false:=by
 rw [Bool.eq_false_iff];intro h;have:=List.all_eq_true.1 h _ (List.getElem_mem hi);rw [hp] at this;cases this
theorem y7 (A:Option Addr) (c n:Nat) (xs:List Int) (w:World) (hr:bW iV w A xs) (hn:n=xs.length) (hl:n≤1000000000000) :
 Rt prog 133 [.slice A n c] w (fun v w'=>v=.bool (xs.all (okS 512))∧aj w w'):=by
 refine enter (n:=18) Tryz.func133 rfl rfl rfl (ag (aa (asb rfl (ah (ab (ag (ag (aa (mvs rfl (ae (aS bP rfl) (mvi rfl (ah (ab (az (bg (G:=Nat) [2,4,8,9,10,11,12,13,14,15,16,17] (fun k=>[(7,.int .i64 (k:Nat))]) (fun k w'=>k≤n∧(xs.take k).all (okS 512)=true∧aj w w') (fun k=>n-k) (0) ⟨rfl,trivial⟩ ?_ ?_)))))))))))))))
 ·exact ⟨Nat.zero_le _,rfl,aj.rfl_⟩
 rintro k ρ1 w1 ⟨hk,ht,hB⟩;refine ag (aa (ae (aX rfl rfl) (ah (ab (ag (Li rfl (fun Q2=>?_) (fun Q2=>?_)))))))
 ·have hkn:k<xs.length:=by omega
  obtain ⟨ba,oa,rfl,hca⟩:=hr (by omega);refine au (ab (ag (az (ag (aa (ae (bk cd rfl rfl (by omega)) (ae (aq aY rfl (by exact br hB (hca k hkn))) ?_)))))));refine asi rfl (ah (ab (ag (aa (mvi rfl (ae (aX rfl rfl) (mvb rfl (KL (t:=13) rfl (fun Q3=>?_) (fun Q3=>?_)))))))))
  ·refine aB rfl rfl (aB rfl rfl (ae (bc (v:=.bool _) rfl rfl) (ah (ab (cB rfl (ag (aa (asb rfl (ah (ab (ay (bn (aC (aC (bn (aC (bE (v:=.bool _) rfl rfl ?_)))))))))))))))));exact ⟨by rw [wh hkn (vy (by omega))],hB⟩
  refine an rfl (mvi rfl (an rfl (ae (ek rfl rfl) (ae (aQ (v:=.bool _) rfl rfl) (ah (ab (Li rfl (fun Q4=>?_) (fun Q4=>?_))))))))
  ·refine ag (aa (asb rfl (ah (ab (ay (bn (aC (aC (bn (aC (bE (v:=.bool _) rfl rfl (⟨by rw [wh hkn (vy (by omega))],hB⟩))))))))))))
  refine au (aN (ab (aa (ae (aJ (b:=1) rfl rfl (by omega)) (mvi rfl (ah ?_))))));refine aR (k+1) ⟨(by first | rfl | (refine aM ?_;omega)),trivial⟩ (by (iterate 26 refine aF rfl ?_);exact aK) ⟨?_,?_⟩
  ·exact ⟨by omega,yy hkn ht (rJ (by omega) (by omega)),hB⟩
  ·show n-(k+1)<n-k;omega
 refine aZ (aD (aD (aU (ab (ag (aa (asb rfl (ah (ab (ay (bE (v:=.bool _) rfl rfl (⟨by rw [B_ (by omega) ht],hB⟩))))))))))))
def cx (L:List Nat) (i:Nat):Nat:=if h:i<L.length then L[i]+1 else 0
def s_ (L:List Nat) (k:Nat) (i:Nat):Int:=if i<k then (cx L i:Int) else 0
theorem Dj {L:List Nat} {k n:Nat}:f_ n (upd (s_ L k) k (cx L k:Nat))=f_ n (s_ L (k+1)):=fm fun i _=>by
 unfold upd s_;by_cases e:i=k
 ·subst e;rw [if_pos rfl,if_pos (by omega)]
 ·rw [if_neg e];by_cases h:i<k
  ·rw [if_pos h,if_pos (by omega)]
  ·rw [if_neg h,if_neg (by omega)]
theorem Dk {L:List Nat}:f_ (L.length+1) (s_ L L.length)=f_ (L.length+1) fun i=>(cx L i:Nat):=fm fun i hi=>by
 unfold s_;by_cases h:i<L.length
 ·rw [if_pos h]
 ·rw [if_neg h];unfold cx;rw [dif_neg h];rfl
theorem gj (L:List Nat):Txt (L.length+1) (cx L):=⟨by omega,by unfold cx;rw [dif_neg (by omega)],fun i hi=>by unfold cx;rw [dif_pos (by omega)];omega⟩
theorem y0 (A:Option Addr) (c n:Nat) (L:List Nat) (w:World) (hr:bW iV w A (L.map fun x:Nat=>(x:Int))) (hn:n=L.length) (hl:n≤131072) (hx:∀ x∈L,x<512) :
 Rt prog 163 [.slice A n c] w (fun v w'=>(∃ g,v=.slice (some ⟨g,0,none⟩) (n+1) (n+1)∧w.heap.size≤g∧Blk w' g 21 (f_ (n+1) fun i=>(cx L i:Nat)))∧aj w w'):=by
 refine enter (n:=25) Tryz.func163 rfl rfl rfl (ag (aa (ass rfl (ah (ab (ag (aa (mvs rfl (ae (aS bP rfl) (ae (aJ (b:=1) rfl rfl (by omega)) (gV fo rfl rfl rfl (by omega) (by omega) ?_)))))))))));intro b9 w1 E9 hb9 hk9;have hg9:w.heap.size≤b9:=Nat.le_of_eq hb9.symm;refine ass rfl (ah (ab (ag (ag (aa (mvs rfl (ae (aS bP rfl) (mvi rfl (ah (ab (az (bg (G:=Nat) [4,5,13,14,15,16,17,18,19,20,21,22,23] (fun k=>[(12,.int .i64 (k:Nat))]) (fun k w'=>k≤n∧Blk w' b9 21 (f_ (n+1) (s_ L k))∧aj w w') (fun k=>n-k) (0) ⟨rfl,trivial⟩ ?_ ?_))))))))))))
 ·refine ⟨Nat.zero_le _,?_,(aj.rfl_.next E9)⟩;rw [jd] at hk9;exact hk9
 rintro k ρ2 w2 ⟨hk,hT,hB⟩;refine ag (aa (ae (aX rfl rfl) (ah (ab (ag (Li rfl (fun Q3=>?_) (fun Q3=>?_)))))))
 ·have hkn:k<L.length:=by omega
  obtain ⟨ba,oa,rfl,hca⟩:=hr (by rw [List.length_map];omega);have hck:=hca k (by rw [List.length_map];omega);rw [List.getElem_map] at hck;have hend:cx L k=L[k]+1:=by unfold cx;rw [dif_pos hkn]
  have hxk:=hx _ (List.getElem_mem hkn);refine au (ab (ag (az (ag (aa (mvi rfl (ae (bk cd rfl rfl (by omega)) (ae (aq aY rfl (by exact br hB hck)) ?_))))))));refine asi rfl (asi rfl (ah (ab (aa (mvs rfl (mvi rfl (mvi rfl (ae (iv eE iR rfl (by omega)) (ae (iH rfl rfl (r:=(cx L k:Nat)) (by rw [hend];omega) (by rw [hend];omega)) ?_)))))))));refine ae (aL aP rfl rfl (by omega)) (bZ (v:=.int _ _) df rfl rfl rfl (hT) (by rw [gz];omega) ?_);intro w4 O5 P5;have P5b:Blk w4 b9 21 (f_ (n+1) (s_ L (k+1))):=by rw [←Dj,←oX];exact P5
  refine ah (aN (ab (aa (ae (aJ (b:=1) rfl rfl (by omega)) (mvi rfl (ah ?_))))));refine aR (k+1) ⟨(by first | rfl | (refine aM ?_;omega)),trivial⟩ (by (iterate 28 refine aF rfl ?_);exact aK) ⟨?_,?_⟩
  ·exact ⟨by omega,P5b,(hB.only O5 (hg9))⟩
  ·show n-(k+1)<n-k;omega
 refine aZ (aD (aD (aU (ab (ag (aa (mvs rfl (ass rfl (ah (ab (ay (bE (v:=.slice _ _ _) rfl rfl ?_))))))))))));obtain rfl:k=n:=by omega
 exact ⟨⟨b9,rfl,hg9,by subst hn;rw [←Dk];exact hT⟩,hB⟩
theorem di (A:Option Addr) (c n:Nat) (xs:List Value) (w:World) (hx:xs.length=n*1) (hr:0<n→∃ b o,A=some ⟨b,o,none⟩∧w.rangeAt b o xs) (hn0:A=none→n=0∧c=0) (h1:∀ u∈xs,u.oneCell'=true) (hl:n≤100000000000) :
 Rt prog 185 [.slice A n c] w (fun v w'=>(∃ A' c',v=.slice A' n c'∧w'.ownsRow w.heap.size 21 1 (.slice A' n c') n xs)∧aj w w'):=by
 refine enter (n:=8) Tryz.func185 rfl rfl rfl (ag (aa (ass rfl (ah (ab (ag (ag (aa (mvs rfl (ae (oh uw rfl rfl) (ah (ab (av rfl (fun Q1=>?_) (fun Q1=>?_))))))))))))))
 ·(try first | (replace Q1 := fx Q1; trace "@MK N di:c4+ 1.1") | (replace Q1 := fy Q1; trace "@MK N di:c4+ 1.2"))
  (try first | (replace Q1 := eG Q1; trace "@MK N di:c4+ 2.1") | (replace Q1 := eH Q1; trace "@MK N di:c4+ 2.2") | (replace Q1 := fV Q1; trace "@MK N di:c4+ 2.3") | (replace Q1 := fW Q1; trace "@MK N di:c4+ 2.4") | (replace Q1 := dT_ Q1; trace "@MK N di:c4+ 2.5") | (replace Q1 := dF_ Q1; trace "@MK N di:c4+ 2.6"))
  obtain rfl:A=none:=Option.isNone_iff_eq_none.1 Q1;obtain ⟨rfl,rfl⟩:=hn0 rfl;obtain rfl:xs=[]:=List.eq_nil_of_length_eq_zero (by omega);refine ag (aa (ass rfl (ah (ab (ay (aC (bE (v:=.slice _ _ _) rfl rfl (⟨⟨none,0,rfl,World.ownsRow_nil _ _ _ _⟩,aj.rfl_⟩))))))))
 (try first | (replace Q1 := fx Q1; trace "@MK N di:c4- 1.1") | (replace Q1 := fy Q1; trace "@MK N di:c4- 1.2"))
 (try first | (replace Q1 := eG Q1; trace "@MK N di:c4- 2.1") | (replace Q1 := eH Q1; trace "@MK N di:c4- 2.2") | (replace Q1 := fV Q1; trace "@MK N di:c4- 2.3") | (replace Q1 := fW Q1; trace "@MK N di:c4- 2.4") | (replace Q1 := dT_ Q1; trace "@MK N di:c4- 2.5") | (replace Q1 := dF_ Q1; trace "@MK N di:c4- 2.6"))
 have hA4:A=none→c=0:=fun h=>by rw [h] at Q1;cases Q1
 refine au (ab (ag (aa (vg dL _ (aj.rfl_.size) ?_))));intro b5 w2 E5 hb5 ho5;refine mvs rfl ?_;refine nA (a0:=w) dL rfl (by decide) rfl ho5 (aj.rfl_.next E5) rfl hx (fun h=>(let ⟨b,o,hA,hc⟩:=hr h;⟨b,o,hA,c0 (aj.rfl_.next E5) hc⟩)) hA4 h1 (by omega) (by omega) ?_;intro A7 c7 w3 ho7 B7 hg7;refine ass rfl (ah (ab (ay (bE (v:=.slice _ _ _) rfl rfl (⟨⟨A7,c7,by rw [Nat.zero_add],by simpa using ho7⟩,B7⟩)))))
theorem Gz (g n:Nat) (t:Nat→Int) (w:World) (hb:VJ w g n t) (h0:0<n) (hl:n≤1000000):Rt prog 185 [.slice (some ⟨g,0,none⟩) n n] w fun v w'=>(∃ g2 c2,v=.slice (some ⟨g2,0,none⟩) n c2∧w.heap.size≤g2∧VJ w' g2 n t)∧aj w w':=by
 refine (di (some ⟨g,0,none⟩) n n (((List.range n).map t).map jV) w (by simp) (fun _=>⟨g,0,rfl,fun j v hv=>?_⟩) (fun h=>by cases h) (fun u hu=>?_) (by omega)).mono fun v w' h=>?_
 ·have hj:j<n:=by
   rcases Nat.lt_or_ge j n with a | a
   ·exact a
   ·rw [List.getElem?_eq_none (by simpa using a)] at hv;cases hv
  have e:=hb.rd hj;simp [hj] at hv;rw [Nat.zero_add,e,←hv]
 ·obtain ⟨x,_,rfl⟩:=List.mem_map.1 hu;rfl
 ·obtain ⟨⟨A2,c2,rfl,ho⟩,hF⟩:=h;obtain ⟨g2,rfl⟩:=dF ho h0;exact ⟨⟨g2,c2,rfl,(VJ.own ho h0).2,(VJ.own ho h0).1⟩,hF⟩
theorem fg:cQ prog 229 4=some 4:=by kernel_rfl
theorem a_:fz prog 137=some false:=by kernel_rfl
theorem rm:cQ prog 229 1=some 1:=by kernel_rfl
theorem zE (n K:Nat) (t:Nat→Nat) (h0:0<K):[jV 0]++((List.range (K-1)).map fun c=>jV (less n t (c+1):Nat))=((List.range K).map fun c=>((less n t c:Nat):Int)).map jV:=by
 obtain ⟨K,rfl⟩:∃ k,K=k+1:=⟨K-1,by omega⟩;have e:less n t 0=0:=iM fun i _ h=>absurd h (by omega)
 rw [Nat.add_sub_cancel,List.range_succ_eq_map];simp [e]
theorem FW (b n K m:Nat) (t ss:Nat→Nat) (w:World) (hT:jq w b n K t m ss) (hK0:0<K) (hK:K≤1000000) :
 Rt prog 187 [.pointer (some ⟨b,0,none⟩)] w (fun v w'=>(∃ g c,v=.slice (some ⟨g,0,none⟩) K c∧w.heap.size≤g∧VJ w' g K (fun c=>(less n t c:Nat)))∧aj w w'):=by
 obtain ⟨gl,gr,AS,cs,ge,hb,hl,hr,hs,he⟩:=hT;refine enter (n:=15) Tryz.func187 rfl rfl rfl (ag (aa (ass rfl (ah (ab (ag ?_))))));apply qE 12 11 [3] [(3,fun v w'=>∃ q,v=.slice (some ⟨q,0,none⟩) 1 1∧w'.ownsRow w.heap.size 21 1 (.slice (some ⟨q,0,none⟩) 1 1) 1 [jV 0]∧(w).heap.size≤q),(4,eqp _),(5,eqp _),(6,eqp _),(7,eqp _),(8,eqp _),(9,eqp _),(10,eqp _),(11,eqp _),(12,eqp _),(13,eqp _),(14,fun v w'=>∃ A2 c2,v=.slice A2 K c2∧w'.ownsRow w.heap.size 21 1 (.slice A2 K c2) K ([jV 0]++((List.range (K-1)).map fun c=>jV (less n t (c+1):Nat))))] (fun w'=>aj w w') (fun w'=>aj w w') (by repeat first | exact bT | refine bS ?_ | refine bG ?_) (by kernel_rfl) (by kernel_rfl) (by kernel_rfl) ⟨(fun _ _ _ hF ⟨q,h1,h2,h3⟩=>⟨q,h1,h2.kept_from hF,h3⟩),af _,af _,af _,af _,af _,af _,af _,af _,af _,af _,(fun _ _ _ hF ⟨A2,c2,h1,h2⟩=>⟨A2,c2,h1,h2.kept_from hF⟩),trivial⟩ (aj.rfl_.d1) (aj.rfl_.d1) (fun _ _ hF h=>h.next hF) (fun _ _ hF h=>h.next hF)
 case hop=>
  constructor
  ·rintro-w2 D2;exact d_ (vl dL rfl rfl rfl) (aj.rfl_.new _) ⟨_,rfl,⟨by simp,.inr ⟨_,1,#[jV 0],rfl,(aj.rfl_.next D2).size,heap_alloc_new _ _,Nat.le_refl _,by decide,by simp,by simp⟩⟩,D2.size⟩
  constructor
  ·rintro-w3 D3;exact ai (ar (v:=.pointer _) rfl) rfl
  constructor
  ·rintro-w4 D4;rintro _ rfl;exact ai (aw rfl) rfl
  constructor
  ·rintro-w5 D5;rintro _ rfl;exact ai (ak fg rfl) rfl
  constructor
  ·rintro-w6 D6;rintro _ rfl;exact ai (aq a_ rfl (by exact br (aj.rfl_.next D6) (hb.rd 4 rfl))) rfl
  constructor
  ·rintro-w7 D7;exact ai (ar (v:=.pointer _) rfl) rfl
  constructor
  ·rintro-w8 D8;rintro _ rfl;exact ai (aw rfl) rfl
  constructor
  ·rintro-w9 D9;rintro _ rfl;exact ai (ak rm rfl) rfl
  constructor
  ·rintro-w10 D10;rintro _ rfl;exact ai (aq aY rfl (by exact br (aj.rfl_.next D10) (hb.rd 1 rfl))) rfl
  constructor
  ·rintro-w11 D11;rintro _ rfl;exact ai (ck (b:=1) rfl rfl (by omega)) rfl
  constructor
  ·rintro-w12 D12;rintro _ rfl _ rfl;exact ai (xt (m:=K-1) aP rfl rfl (by omega)) rfl
  constructor
  ·intro h;cases h
  exact trivial
 case hmu=>
  rintro w14 D14;rintro v14_3 ⟨q14,rfl,hq14,hz14⟩ _ rfl;show mJ ..;refine kh dL rfl (by decide) rfl hq14 (aj.rfl_.next D14).size rfl (by simp) ⟨_,_,rfl,(he.from_ (aj.rfl_.next D14)).range (k:=K-1) (by omega)⟩ (by simp [Value.oneCell']) (by omega) (by omega) ?_;intro A3 c3 w3 ho3 hg3;exact ⟨D14.grew hg3 (fun k hk=>by cases hk;exact hz14),⟨A3,c3,by rw [show 1+(K-1)=K by omega],by rw [show 1+(K-1)=K by omega] at ho3;exact ho3⟩,fun t u ht h=>gT (by repeat first | exact trivial | refine ⟨.inl rfl,?_⟩ | refine ⟨.inr (fun _ h=>h),?_⟩) t u ht h⟩
 case hend=>
  rintro w15 D15;rintro v3 _ _ rfl _ rfl _ rfl _ rfl _ rfl _ rfl _ rfl _ rfl _ rfl _ rfl v14 ⟨A14_15,c14_15,rfl,ho14_15⟩;show St ..;rw [zE n K t hK0] at ho14_15;obtain ⟨g,rfl⟩:=dF ho14_15 hK0;have hv:=VJ.own ho14_15 hK0;refine ass rfl (ah (ab (ay (bE (v:=.slice _ _ _) rfl rfl (⟨⟨g,_,rfl,hv.2,hv.1⟩,(aj.rfl_.next D15)⟩)))))
theorem pH:lE prog 198=some (4,1,(.bool false)):=by kernel_rfl
theorem Ae:∀ (a0:Option Addr) (a1 a2:Nat) (a3:Int) (a4:Option Addr) (a5 a6:Nat) (a7:Option Addr) (a8 a9:Nat),prog.built 229 [(0,.slice a0 a1 a2),(1,.int .i64 a3),(2,.slice a4 a5 a6),(4,.slice a7 a8 a9)]=some #[.slice a0 a1 a2,.int .i64 a3,.slice a4 a5 a6,.slice none 0 0,.slice a7 a8 a9]:=by intros;kernel_rfl
theorem cK:(dh prog 137).isSome=true:=by kernel_rfl
theorem dS:cQ prog 229 2=some 2:=by kernel_rfl
theorem eI:fz prog 198=some false:=by kernel_rfl
theorem dq:dh prog 198=some (4,1):=by kernel_rfl
theorem kB:dY prog 4=some 1:=by kernel_rfl
theorem bm:fz prog 21=some false:=by kernel_rfl
theorem gn:fz prog 4=some false:=by kernel_rfl
theorem dm:cQ prog 229 3=some 3:=by kernel_rfl
theorem j4:dY prog 137=some 1:=by kernel_rfl
theorem VJ.rdN {w:World} {g K i:Nat} {t:Nat→Nat} (h:VJ w g K fun i=>(t i:Nat)) (hi:i<K):w.cell? ⟨g,i,none⟩=some (.int .i32 ((t i:Nat):Int)):=h.rd hi
theorem gP {w:World} {g g2 t t2:Nat} {cs cs2:Array Value} (h:Blk w g t cs) (h2:Blk w g2 t2 cs2) (hne:t≠t2):g≠g2:=by
 rintro rfl;unfold Blk at h h2;rw [h] at h2;simp only [Option.some.injEq,Obj.cells.injEq] at h2;exact hne h2.2.1
noncomputable def rT (n:Nat) (t:Nat→Nat) (j:Nat):Array Value:=kk n fun x=>if j≤x then rb n t x else false
theorem EX {w:World} {q n:Nat} {t:Nat→Nat} (ht:Txt n t) (h:Blk w q 4 ((kk n fun _=>false).setIfInBounds (n-1) (.bool true))):Blk w q 4 (rT n t (n-1)):=by
 rw [xe] at h
 have e:kk n (y5 (fun _=>false) (n-1) true)=rT n t (n-1):=n9 fun x hx=>by
  unfold y5;by_cases e:x=n-1
  ·subst e;rw [if_pos rfl,if_pos (Nat.le_refl _)];exact (mP.2 (rG ht)).symm
  ·rw [if_neg e,if_neg (by omega)]
 rwa [e] at h
theorem zp {w:World} {q n i:Nat} {t:Nat→Nat} {X:Bool} (hX:rb n t i=X) (h:Blk w q 4 ((rT n t (i+1)).setIfInBounds i (.bool X))):Blk w q 4 (rT n t i):=by
 subst hX;unfold rT at h;rw [xe] at h
 have e:kk n (y5 (fun x=>if i+1≤x then rb n t x else false) i (rb n t i))=rT n t i:=n9 fun x hx=>by
  unfold y5;by_cases e:x=i
  ·subst e;rw [if_pos rfl,if_pos (Nat.le_refl _)]
  ·rw [if_neg e];show (if i+1≤x then rb n t x else false)=_;by_cases h:i+1≤x
   ·rw [if_pos h,if_pos (by omega)]
   ·rw [if_neg h,if_neg (by omega)]
 rwa [e] at h
theorem EY {w:World} {q n j i:Nat} {t:Nat→Nat} (h:Blk w q 4 (rT n t j)) (hj:j≤i) (hi:i<n):w.cell? ⟨q,i,none⟩=some (.bool (rb n t i)):=h.rd i (by unfold rT;rw [nz hi,if_pos hj])
theorem HG {n:Nat} {t:Nat→Nat}:rT n t 0=kk n (rb n t):=n9 fun _ _=>if_pos (Nat.zero_le _)
theorem vq {n j:Nat} {t:Nat→Nat}:(rT n t j).size=n:=kd
theorem KT {n i:Nat} {t:Nat→Nat} (h:Txt n t) (hi:i+1<n) (hlt:t i<t (i+1)):rb n t i=true:=mP.2 ((og h hi).2 (.inl hlt))
theorem KU {n i:Nat} {t:Nat→Nat} (h:Txt n t) (hi:i+1<n) (hlt:t (i+1)<t i):rb n t i=false:=sx.2 fun e=>by rcases (og h hi).1 e with a | a <;> omega
theorem KV {n i:Nat} {t:Nat→Nat} (h:Txt n t) (hi:i+1<n) (he:t i=t (i+1)):rb n t i=rb n t (i+1):=by
 rw [Bool.eq_iff_iff,mP,mP,og h hi];exact ⟨fun a=>a.elim (fun a=>by omega) (fun a=>a.2),fun a=>.inr ⟨he,a⟩⟩
open Classical in
noncomputable def stL (n:Nat) (t:Nat→Nat):Nat→List Nat
 |0=>[]
 |i+1=>stL n t i++if lms n t i then [i] else []
theorem G9 {n i:Nat} {t:Nat→Nat} (hi:0<i) (hn:i<n) (h1:rb n t i=true) (h2:rb n t (i-1)=false):stL n t (i+1)=stL n t i++[i]:=by
 conv=>lhs;unfold stL
 rw [if_pos ⟨hi,hn,mP.1 h1,sx.1 h2⟩]
theorem Ec {n i:Nat} {t:Nat→Nat} (h:rb n t i=false∨rb n t (i-1)=true):stL n t (i+1)=stL n t i:=by
 conv=>lhs;unfold stL
 rw [if_neg,List.append_nil];rintro ⟨_,_,a,b⟩;rcases h with h | h
 ·exact sx.1 h a
 ·exact b (mP.1 h)
theorem A_ {n:Nat} {t:Nat→Nat}:stL n t 1=[]:=by
 unfold stL;rw [if_neg (fun h=>absurd h.1 (Nat.lt_irrefl 0))];rfl
theorem rA {n s:Nat} {t:Nat→Nat}:∀ {i:Nat},s∈stL n t i↔s<i∧lms n t s
 |0=>by simp [stL]
 |i+1=>by
  unfold stL;rw [List.mem_append,rA];split
  ·rename_i h;constructor
   ·rintro (⟨a,b⟩ | a)
    ·exact ⟨by omega,b⟩
    ·simp only [List.mem_singleton] at a;subst a;exact ⟨by omega,h⟩
   ·rintro ⟨a,b⟩;by_cases e:s=i
    ·exact .inr (by simp [e])
    ·exact .inl ⟨by omega,b⟩
  ·rename_i h;constructor
   ·rintro (⟨a,b⟩ | a)
    ·exact ⟨by omega,b⟩
    ·cases a
   ·rintro ⟨a,b⟩;refine .inl ⟨?_,b⟩;rcases Nat.lt_or_ge s i with c | c
    ·exact c
    ·obtain rfl:s=i:=by omega
     exact absurd b h
theorem Eb {n:Nat} {t:Nat→Nat}:∀ {i:Nat},(stL n t i).Pairwise (·<·)
 |0=>by simp [stL]
 |i+1=>by
  unfold stL;rw [List.pairwise_append];refine ⟨Eb,by split <;> simp,fun a ha b hb=>?_⟩;split at hb
  ·simp only [List.mem_singleton] at hb;subst hb;exact (rA.1 ha).1
  ·cases hb
theorem Ba {n:Nat} {t:Nat→Nat}:∀ {i:Nat},(stL n t i).length≤i
 |0=>by simp [stL]
 |i+1=>by
  have:=Ba (n:=n) (t:=t) (i:=i);unfold stL;rw [List.length_append];split <;> simp <;> omega
noncomputable def stF (n:Nat) (t:Nat→Nat) (k:Nat):Nat:=(stL n t n)[k]?.getD 0
theorem sa {n k:Nat} {t:Nat→Nat} (h:k<(stL n t n).length):stF n t k=(stL n t n)[k]:=by unfold stF;rw [List.getElem?_eq_getElem h];rfl
theorem za (n:Nat) (t:Nat→Nat):dU n t (stL n t n).length (stF n t):=by
 refine ⟨fun k hk=>?_,fun a b hab hb=>?_,fun s hs=>?_⟩
 ·rw [sa hk];exact (rA.1 (List.getElem_mem hk)).2
 ·rw [sa hb,sa (by omega)];exact List.pairwise_iff_getElem.1 Eb a b (by omega) hb hab
 ·obtain ⟨k,hk,e⟩:=List.getElem_of_mem (rA.2 ⟨hs.2.1,hs⟩);exact ⟨k,hk,by rw [sa hk,e]⟩
theorem G_ {n:Nat} {t:Nat→Nat}:((List.range (stL n t n).length).map fun k=>((stF n t k:Nat):Int))=(stL n t n).map fun x:Nat=>(x:Int):=by
 apply List.ext_getElem
 ·simp
 ·intro k h1 h2;have hk:k<(stL n t n).length:=by simpa using h2
  simp [sa hk]
noncomputable def cT (_ K:Nat) (t:Nat→Nat) (k:Nat):Array Value:=f_ K fun c=>((cnt k fun i=>t i=c:Nat):Int)
theorem Lj {w:World} {p n K k c:Nat} {t:Nat→Nat} (h:Blk w p 21 (cT n K t k)) (hc:c<K):w.cell? ⟨p,c,none⟩=some (.int .i32 (cnt k fun i=>t i=c:Nat)):=h.rd c (lT hc)
theorem Kv {w:World} {p n K k:Nat} {t:Nat→Nat} (h:Blk w p 21 ((cT n K t k).setIfInBounds (t k) (jV (cnt k (fun i=>t i=t k)+1:Nat)))):Blk w p 21 (cT n K t (k+1)):=by
 unfold cT at h;rw [oX] at h
 have e:f_ K (upd (fun c=>((cnt k fun i=>t i=c:Nat):Int)) (t k) ((cnt k (fun i=>t i=t k)+1:Nat):Int))=cT n K t (k+1):=fm fun c _=>by
  conv=>rhs;unfold cnt
  by_cases e:c=t k
  ·subst e;rw [fi,if_pos rfl]
  ·rw [fY _ _ e,if_neg (fun h=>e h.symm)];rfl
 rwa [e] at h
noncomputable def eT (n K:Nat) (t:Nat→Nat) (c:Nat):Array Value:=f_ K fun x=>if x<c then ((less n t (x+1):Nat):Int) else ((cnt n fun i=>t i=x:Nat):Int)
theorem Kp {n K:Nat} {t:Nat→Nat}:cT n K t n=eT n K t 1:=fm fun c _=>by
 by_cases h:c<1
 ·obtain rfl:c=0:=by omega
  have e:less n t 0=0:=iM fun i _ h=>absurd h (by omega)
  have:=lG (n:=n) (t:=t) 0;rw [if_pos (by omega)];omega
 ·rw [if_neg h]
theorem Ld {w:World} {p n K c x:Nat} {t:Nat→Nat} (h:Blk w p 21 (eT n K t c)) (hx:x+1=c) (hk:x<K):w.cell? ⟨p,x,none⟩=some (.int .i32 (less n t c:Nat)):=h.rd x (by unfold eT;rw [lT hk,if_pos (by omega),hx])
theorem Le {w:World} {p n K c x:Nat} {t:Nat→Nat} (h:Blk w p 21 (eT n K t c)) (hx:¬ x<c) (hk:x<K):w.cell? ⟨p,x,none⟩=some (.int .i32 (cnt n fun i=>t i=x:Nat)):=h.rd x (by unfold eT;rw [lT hk,if_neg hx])
theorem Ko {w:World} {p n K c:Nat} {t:Nat→Nat} (h:Blk w p 21 ((eT n K t c).setIfInBounds c (jV (less n t (c+1):Nat)))):Blk w p 21 (eT n K t (c+1)):=by
 unfold eT at h;rw [oX] at h
 have e:f_ K (upd (fun x=>if x<c then ((less n t (x+1):Nat):Int) else ((cnt n fun i=>t i=x:Nat):Int)) c ((less n t (c+1):Nat):Int))=eT n K t (c+1):=fm fun x _=>by
  by_cases e:x=c
  ·subst e;rw [fi,if_pos (by omega)]
  ·rw [fY _ _ e];by_cases h:x<c
   ·rw [if_pos h,if_pos (by omega)]
   ·rw [if_neg h,if_neg (by omega)]
 rwa [e] at h
theorem Kq {n K c:Nat} {t:Nat→Nat} (h:K≤c):eT n K t c=f_ K fun x=>((less n t (x+1):Nat):Int):=fm fun x hx=>if_pos (by omega)
theorem Ij {n c:Nat} {t:Nat→Nat}:less n t c≤n:=fU n _
theorem cO (gl n K:Nat) (t:Nat→Nat) (w:World) (hl:VJ w gl n (fun i=>(t i:Nat))) (ht:Txt n t) (hkt:∀ i,i<n→t i<K) (hn:n≤200000) (hK:K≤200000) :
 Rt prog 162 [.slice (some ⟨gl,0,none⟩) n n,.int .i64 (K:Nat)] w (fun v w'=>(∃ b m ss,v=.pointer (some ⟨b,0,none⟩)∧jq w' b n K t m ss∧dU n t m ss)∧aj w w'):=by
 have hn0:=ht.pos;refine enter (n:=147) Tryz.func162 rfl rfl rfl (ag (aa (asp rfl (ah (ab (ag ?_))))));apply en 10 [(12,eqp _),(13,eqp _),(14,eqp _),(15,eqp _),(16,fun v w'=>∃ q,v=.slice (some ⟨q,0,none⟩) n n∧w.heap.size≤q∧Blk w' q 4 (kk n fun _=>false)),(17,eqp _),(18,fun v w'=>∃ p,v=.slice (some ⟨p,0,none⟩) K K∧w.heap.size≤p∧Blk w' p 21 (f_ K fun _=>0)),(19,fun v w'=>∃ q p,v=.agg #[.slice (some ⟨gl,0,none⟩) n n,.int .i64 (K:Nat),.slice (some ⟨q,0,none⟩) n n,.slice none 0 0,.slice (some ⟨p,0,none⟩) K K]∧(w.heap.size≤q∧Blk w' q 4 (kk n fun _=>false))∧w.heap.size≤p∧Blk w' p 21 (f_ K fun _=>0)),(20,fun v w'=>∃ b q p,v=.pointer (some ⟨b,0,none⟩)∧(w.heap.size≤b∧Blk w' b 229 #[.slice (some ⟨gl,0,none⟩) n n,.int .i64 (K:Nat),.slice (some ⟨q,0,none⟩) n n,.slice none 0 0,.slice (some ⟨p,0,none⟩) K K])∧(w.heap.size≤q∧Blk w' q 4 (kk n fun _=>false))∧w.heap.size≤p∧Blk w' p 21 (f_ K fun _=>0)),(5,fun v w'=>∃ b q p,v=.pointer (some ⟨b,0,none⟩)∧(w.heap.size≤b∧Blk w' b 229 #[.slice (some ⟨gl,0,none⟩) n n,.int .i64 (K:Nat),.slice (some ⟨q,0,none⟩) n n,.slice none 0 0,.slice (some ⟨p,0,none⟩) K K])∧(w.heap.size≤q∧Blk w' q 4 (kk n fun _=>false))∧w.heap.size≤p∧Blk w' p 21 (f_ K fun _=>0))] (by kernel_rfl) (by kernel_rfl) ⟨af _,af _,af _,af _,(fun _ _ _ hF ⟨q,h1,h2,h3⟩=>⟨q,h1,h2,h3.from_ hF⟩),af _,(fun _ _ _ hF ⟨q,h1,h2,h3⟩=>⟨q,h1,h2,h3.from_ hF⟩),(fun _ _ _ hF ⟨q,p,h1,⟨h2,h3⟩,h4,h5⟩=>⟨q,p,h1,⟨h2,h3.from_ hF⟩,h4,h5.from_ hF⟩),(fun _ _ _ hF ⟨b,q,p,h1,⟨h6,h7⟩,⟨h2,h3⟩,h4,h5⟩=>⟨b,q,p,h1,⟨h6,h7.from_ hF⟩,⟨h2,h3.from_ hF⟩,h4,h5.from_ hF⟩),(fun _ _ _ hF ⟨b,q,p,h1,⟨h6,h7⟩,⟨h2,h3⟩,h4,h5⟩=>⟨b,q,p,h1,⟨h6,h7.from_ hF⟩,⟨h2,h3.from_ hF⟩,h4,h5.from_ hF⟩),trivial⟩
 case hop=>
  constructor
  ·intro w2 D2;exact ai (ar (v:=.slice _ _ _) rfl) rfl
  constructor
  ·intro w3 D3;exact ai (ar (v:=.int _ _) rfl) rfl
  constructor
  ·intro w4 D4;exact ai (ar (v:=.slice _ _ _) rfl) rfl
  constructor
  ·intro w5 D5;rintro _ rfl;exact ai (aS cK rfl) rfl
  constructor
  ·intro w6 D6;rintro _ rfl;exact d_ (Bk pH rfl rfl rfl (by omega) (by omega)) (aj.rfl_.new _) ⟨_,rfl,(aj.rfl_.next D6).size,by rw [←Cj];exact Blk.new _ _ _⟩
  constructor
  ·intro w7 D7;exact ai (ar (v:=.int _ _) rfl) rfl
  constructor
  ·intro w8 D8;rintro _ rfl;exact d_ (Bk fo rfl rfl rfl (by omega) (by omega)) (aj.rfl_.new _) ⟨_,rfl,(aj.rfl_.next D8).size,by rw [←jd];exact Blk.new _ _ _⟩
  constructor
  ·intro w9 D9;rintro _ rfl _ rfl v9_16 ⟨q9,rfl,gq9,hq9⟩ v9_18 ⟨p9,rfl,gp9,hp9⟩;exact ai (du (Ae _ _ _ _ _ _ _ _ _ _)) ⟨_,_,rfl,⟨gq9,hq9⟩,gp9,hp9⟩
  constructor
  ·intro w10 D10;rintro v10_19 ⟨q10,p10,rfl,⟨gq10,hq10⟩,gp10,hp10⟩;exact d_ (zh rfl) (aj.rfl_.new _) ⟨_,_,_,rfl,⟨(aj.rfl_.next D10).size,Blk.new _ _ _⟩,⟨gq10,hq10.from_ (aj.rfl_.new _)⟩,gp10,hp10.from_ (aj.rfl_.new _)⟩
  constructor
  ·intro w11 D11;rintro v11_20 ⟨b11,q11,p11,rfl,⟨gb11,hb11⟩,⟨gq11,hq11⟩,gp11,hp11⟩;exact ai (bQ rfl) ⟨_,_,_,rfl,⟨gb11,hb11⟩,⟨gq11,hq11⟩,gp11,hp11⟩
  exact trivial
 case hend=>
  intro w12 D12;rintro _ rfl _ rfl _ rfl _ rfl v16 ⟨q12,rfl,gq12,hq12⟩ _ rfl v18 ⟨p12,rfl,gp12,hp12⟩ v19 ⟨q12,p12,rfl,⟨gq12,hq12⟩,gp12,hp12⟩ v20 ⟨b12,q12,p12,rfl,⟨gb12,hb12⟩,⟨gq12,hq12⟩,gp12,hp12⟩ v5 ⟨b,q,p,rfl,⟨gb,hT⟩,⟨gq,hR⟩,gp,hE⟩;show St ..;obtain ⟨z,hz⟩:∃ z,z=(w12).heap.size:=⟨_,rfl⟩;have hpz:=hE.lt;have hwz:w.heap.size≤z:=by omega
  refine ah (ab (ag (aa (mvs rfl (ae (aS cK rfl) (asi rfl (ah (ab (ag (aa (mvp rfl (ae (aw rfl) (ae (ak dS rfl) (ae (aq eI rfl (by exact hT.rd 2 rfl)) ?_))))))))))))));refine mvi rfl (ae (ck (b:=1) rfl rfl (by omega)) (ae (aL dq rfl rfl (by omega)) (bZ (v:=.bool _) kB rfl rfl rfl (hR) (by rw [kd];omega) ?_)));intro w13 O3 P3;have hT3:=hT.only O3 (gP hT hR (by decide));have hE3:=hE.only O3 (gP hE hR (by decide));have hR3:=EX ht P3;refine ah (ab (ag (ag (aa (mvi rfl (ae (eQ rfl rfl (by omega)) (asi rfl (ah (ab (az (bg (G:=Nat) [32,33,34,35,36,37,38,39,40,41,42,43,44,45,46,47,48,49,50,51,52,53,54,55,56,57,58,59,60,61,62,63,64,65,66,67,68,69,70,71,72,73] (fun j=>[(7,.int .i64 ((j:Nat)-1:Int))]) (fun j w'=>j≤n-1∧Blk w' b 229 #[.slice (some ⟨gl,0,none⟩) n n,.int .i64 (K:Nat),.slice (some ⟨q,0,none⟩) n n,.slice none 0 0,.slice (some ⟨p,0,none⟩) K K]∧Blk w' q 4 (rT n t j)∧Blk w' p 21 (f_ K fun _=>0)∧z≤w'.heap.size∧aj w w') (fun j=>j) (n-1) ⟨(aM (by omega)),trivial⟩ ?_ ?_)))))))))))
  ·exact ⟨Nat.le_refl _,hT3.from_ aj.rfl_,hR3.from_ aj.rfl_,hE3.from_ aj.rfl_,by rw [hz];exact Nat.le_trans (Nat.le_of_eq rfl) (O3.size.symm ▸ Nat.le_refl _),((aj.rfl_.next D12).only O3 (gq))⟩
  rintro j ρ14 w14 ⟨hj,hT,hR,hE,hzs,hB⟩;refine ag (ag (aa (mvi rfl (ae (ek rfl rfl) (ah (ab (Li rfl (fun Q15=>?_) (fun Q15=>?_))))))))
  ·obtain ⟨i,rfl⟩:∃ i,j=i+1:=⟨j-1,by omega⟩;have e7:(Value.int .i64 (((i+1:Nat):Int)-1))=.int .i64 (i:Nat):=aM (by omega);rw [e7];refine au (ab (ag (az ?_)));rcases Nat.lt_trichotomy (t i) (t (i+1)) with h1 | h1 | h1
   ·have hX:=KT ht (by omega) h1;apply en 38 [(36,eqp _),(37,eqp _),(38,eqp _),(39,eqp _),(40,eqp _),(41,eqp _),(42,eqp _),(43,eqp _),(44,eqp _),(45,eqp _),(46,eqp _),(47,eqp _),(48,eqp _),(49,eqp _),(50,eqp _),(51,eqp _),(52,eqp _),(53,eqp _),(54,eqp _),(55,eqp _),(56,eqp _),(57,eqp _),(58,eqp _),(59,eqp _),(60,eqp _),(61,eqp _),(62,eqp _),(63,eqp _),(64,eqp _),(65,eqp _),(66,eqp _),(67,eqp _),(68,eqp _),(69,eqp _),(70,eqp _),(71,eqp _),(72,eqp _),(73,eqp _)] (by kernel_rfl) (by kernel_rfl) ⟨af _,af _,af _,af _,af _,af _,af _,af _,af _,af _,af _,af _,af _,af _,af _,af _,af _,af _,af _,af _,af _,af _,af _,af _,af _,af _,af _,af _,af _,af _,af _,af _,af _,af _,af _,af _,af _,af _,trivial⟩
    case hop=>
     constructor
     ·intro w17 D17;exact ai (ar (v:=.pointer _) rfl) rfl
     constructor
     ·intro w18 D18;rintro _ rfl;exact ai (aw rfl) rfl
     constructor
     ·intro w19 D19;rintro _ rfl;exact ai (ak dS rfl) rfl
     constructor
     ·intro w20 D20;rintro _ rfl;exact ai (aq eI rfl (by exact (hT.from_ (aj.rfl_.next D20)).rd 2 rfl)) rfl
     constructor
     ·intro w21 D21;exact ai (ar (v:=.int _ _) rfl) rfl
     constructor
     ·intro w22 D22;exact ai (ar (v:=.slice _ _ _) rfl) rfl
     constructor
     ·intro w23 D23;exact ai (ar (v:=.int _ _) rfl) rfl
     constructor
     ·intro w24 D24;rintro _ rfl _ rfl;exact ai (aL aP rfl rfl (by omega)) rfl
     constructor
     ·intro w25 D25;rintro _ rfl;exact ai (aq bm rfl (by exact (hl.from_ (hB.next D25)).rdN (by omega))) rfl
     constructor
     ·intro w26 D26;exact ai (ar (v:=.slice _ _ _) rfl) rfl
     constructor
     ·intro w27 D27;exact ai (ar (v:=.int _ _) rfl) rfl
     constructor
     ·intro w28 D28;rintro _ rfl;exact ai (aJ (b:=1) rfl rfl (by omega)) rfl
     constructor
     ·intro w29 D29;rintro _ rfl _ rfl;exact ai (aL aP rfl rfl (by omega)) rfl
     constructor
     ·intro w30 D30;rintro _ rfl;exact ai (aq bm rfl (by exact (hl.from_ (hB.next D30)).rdN (by omega))) rfl
     constructor
     ·intro w31 D31;rintro _ rfl _ rfl;exact ai (iw (aX rfl rfl) (decide_eq_true (by omega))) rfl
     constructor
     ·intro w32 D32;rintro _ rfl;exact ai (ar (v:=.bool _) rfl) rfl
     constructor
     ·intro w33 D33;rintro _ rfl;exact bj rfl rfl rfl
     constructor
     ·intro w34 D34;rintro _ rfl;exact bj rfl rfl rfl
     constructor
     ·intro w35 D35;rintro _ rfl _ rfl _ rfl;exact bj rfl rfl rfl
     constructor
     ·intro w36 D36;rintro _ rfl _ rfl;exact bj rfl rfl rfl
     constructor
     ·intro w37 D37;rintro _ rfl;exact bj rfl rfl rfl
     constructor
     ·intro w38 D38;rintro _ rfl;exact bj rfl rfl rfl
     constructor
     ·intro w39 D39;rintro _ rfl _ rfl;exact bj rfl rfl rfl
     constructor
     ·intro w40 D40;rintro _ rfl _ rfl _ rfl;exact bj rfl rfl rfl
     constructor
     ·intro w41 D41;rintro _ rfl _ rfl;exact bj rfl rfl rfl
     constructor
     ·intro w42 D42;rintro _ rfl _ rfl _ rfl;exact bj rfl rfl rfl
     constructor
     ·intro w43 D43;rintro _ rfl _ rfl;exact bj rfl rfl rfl
     constructor
     ·intro w44 D44;rintro _ rfl;exact bX rfl rfl
     constructor
     ·intro w45 D45;rintro _ rfl _ rfl;exact bX rfl rfl
     constructor
     ·intro w46 D46;rintro _ rfl _ rfl;exact bX rfl rfl
     constructor
     ·intro w47 D47;rintro _ rfl _ rfl;exact bX rfl rfl
     constructor
     ·intro w48 D48;rintro _ rfl;exact bX rfl rfl
     constructor
     ·intro w49 D49;rintro _ rfl _ rfl;exact bX rfl rfl
     constructor
     ·intro w50 D50;rintro _ rfl _ rfl _ rfl;exact bX rfl rfl
     constructor
     ·intro w51 D51;rintro _ rfl _ rfl;exact bX rfl rfl
     constructor
     ·intro w52 D52;rintro _ rfl _ rfl _ rfl;exact bj rfl rfl rfl
     constructor
     ·intro w53 D53;rintro _ rfl _ rfl;exact ai (bc (v:=.bool _) rfl rfl) rfl
     constructor
     ·intro w54 D54;rintro _ rfl _ rfl;exact ai (aL dq rfl rfl (by omega)) rfl
     exact trivial
    case hend=>
     intro w55 D55;rintro _ rfl _ rfl _ rfl _ rfl _ rfl _ rfl _ rfl _ rfl _ rfl _ rfl _ rfl _ rfl _ rfl _ rfl _ rfl _ rfl _ rfl _ rfl _ rfl _ rfl _ rfl _ rfl _ rfl _ rfl _ rfl _ rfl _ rfl _ rfl _ rfl _ rfl _ rfl _ rfl _ rfl _ rfl _ rfl _ rfl _ rfl _ rfl;show St ..;have hT7q:=hT.from_ D55;have hR7q:=hR.from_ D55;have hE7q:=hE.from_ D55;have hzs7q:=Nat.le_trans hzs D55.size;refine bZ (v:=.bool _) kB rfl rfl rfl (hR7q) (by rw [vq];omega) ?_;intro w56 O7 P7;have hT7:=hT7q.only O7 (gP hT7q hR7q (by decide));have hE7:=hE7q.only O7 (gP hE7q hR7q (by decide));have hR7:=zp hX P7;have hzs7:z≤(w56).heap.size:=by rw [O7.size];exact hzs7q
     refine ah (aN (ab (aa (mvi rfl (ae (eQ rfl rfl (by omega)) (asi rfl (ah ?_)))))));refine aR (i) ⟨(by first | rfl | (refine aM ?_;omega)),trivial⟩ (by (iterate 86 refine aF rfl ?_);exact aK) ⟨?_,?_⟩
     ·exact ⟨by omega,hT7.from_ aj.rfl_,hR7.from_ aj.rfl_,hE7.from_ aj.rfl_,Nat.le_trans hzs7 (aj.rfl_).size,((hB.next D55).only O7 (gq))⟩
     ·show i<i+1;omega
   ·have hX:=KV ht (by omega) h1;apply en 38 [(36,eqp _),(37,eqp _),(38,eqp _),(39,eqp _),(40,eqp _),(41,eqp _),(42,eqp _),(43,eqp _),(44,eqp _),(45,eqp _),(46,eqp _),(47,eqp _),(48,eqp _),(49,eqp _),(50,eqp _),(51,eqp _),(52,eqp _),(53,eqp _),(54,eqp _),(55,eqp _),(56,eqp _),(57,eqp _),(58,eqp _),(59,eqp _),(60,eqp _),(61,eqp _),(62,eqp _),(63,eqp _),(64,eqp _),(65,eqp _),(66,eqp _),(67,eqp _),(68,eqp _),(69,eqp _),(70,eqp _),(71,eqp _),(72,eqp _),(73,eqp _)] (by kernel_rfl) (by kernel_rfl) ⟨af _,af _,af _,af _,af _,af _,af _,af _,af _,af _,af _,af _,af _,af _,af _,af _,af _,af _,af _,af _,af _,af _,af _,af _,af _,af _,af _,af _,af _,af _,af _,af _,af _,af _,af _,af _,af _,af _,trivial⟩
    case hop=>
     constructor
     ·intro w58 D58;exact ai (ar (v:=.pointer _) rfl) rfl
     constructor
     ·intro w59 D59;rintro _ rfl;exact ai (aw rfl) rfl
     constructor
     ·intro w60 D60;rintro _ rfl;exact ai (ak dS rfl) rfl
     constructor
     ·intro w61 D61;rintro _ rfl;exact ai (aq eI rfl (by exact (hT.from_ (aj.rfl_.next D61)).rd 2 rfl)) rfl
     constructor
     ·intro w62 D62;exact ai (ar (v:=.int _ _) rfl) rfl
     constructor
     ·intro w63 D63;exact ai (ar (v:=.slice _ _ _) rfl) rfl
     constructor
     ·intro w64 D64;exact ai (ar (v:=.int _ _) rfl) rfl
     constructor
     ·intro w65 D65;rintro _ rfl _ rfl;exact ai (aL aP rfl rfl (by omega)) rfl
     constructor
     ·intro w66 D66;rintro _ rfl;exact ai (aq bm rfl (by exact (hl.from_ (hB.next D66)).rdN (by omega))) rfl
     constructor
     ·intro w67 D67;exact ai (ar (v:=.slice _ _ _) rfl) rfl
     constructor
     ·intro w68 D68;exact ai (ar (v:=.int _ _) rfl) rfl
     constructor
     ·intro w69 D69;rintro _ rfl;exact ai (aJ (b:=1) rfl rfl (by omega)) rfl
     constructor
     ·intro w70 D70;rintro _ rfl _ rfl;exact ai (aL aP rfl rfl (by omega)) rfl
     constructor
     ·intro w71 D71;rintro _ rfl;exact ai (aq bm rfl (by exact (hl.from_ (hB.next D71)).rdN (by omega))) rfl
     constructor
     ·intro w72 D72;rintro _ rfl _ rfl;exact ai (cG (aX rfl rfl) (decide_eq_false (by omega))) rfl
     constructor
     ·intro w73 D73;rintro _ rfl;exact ai (ar (v:=.bool _) rfl) rfl
     constructor
     ·intro w74 D74;rintro _ rfl;exact aI rfl (ar (v:=.slice _ _ _) rfl) rfl
     constructor
     ·intro w75 D75;rintro _ rfl;exact aI rfl (ar (v:=.int _ _) rfl) rfl
     constructor
     ·intro w76 D76;rintro _ rfl _ rfl _ rfl;exact aI rfl (aL aP rfl rfl (by omega)) rfl
     constructor
     ·intro w77 D77;rintro _ rfl _ rfl;exact aI rfl (aq bm rfl (by exact (hl.from_ (hB.next D77)).rdN (by omega))) rfl
     constructor
     ·intro w78 D78;rintro _ rfl;exact aI rfl (ar (v:=.slice _ _ _) rfl) rfl
     constructor
     ·intro w79 D79;rintro _ rfl;exact aI rfl (ar (v:=.int _ _) rfl) rfl
     constructor
     ·intro w80 D80;rintro _ rfl _ rfl;exact aI rfl (aJ (b:=1) rfl rfl (by omega)) rfl
     constructor
     ·intro w81 D81;rintro _ rfl _ rfl _ rfl;exact aI rfl (aL aP rfl rfl (by omega)) rfl
     constructor
     ·intro w82 D82;rintro _ rfl _ rfl;exact aI rfl (aq bm rfl (by exact (hl.from_ (hB.next D82)).rdN (by omega))) rfl
     constructor
     ·intro w83 D83;rintro _ rfl _ rfl _ rfl;exact aI rfl (iw (cF rfl rfl) (by rw [h1];exact beq_self_eq_true _)) rfl
     constructor
     ·intro w84 D84;rintro _ rfl _ rfl;exact aI rfl (ar (v:=.bool _) rfl) rfl
     constructor
     ·intro w85 D85;rintro _ rfl;exact aI rfl (ar (v:=.pointer _) rfl) rfl
     constructor
     ·intro w86 D86;rintro _ rfl _ rfl;exact aI rfl (aw rfl) rfl
     constructor
     ·intro w87 D87;rintro _ rfl _ rfl;exact aI rfl (ak dS rfl) rfl
     constructor
     ·intro w88 D88;rintro _ rfl _ rfl;exact aI rfl (aq eI rfl (by exact (hT.from_ (aj.rfl_.next D88)).rd 2 rfl)) rfl
     constructor
     ·intro w89 D89;rintro _ rfl;exact aI rfl (ar (v:=.int _ _) rfl) rfl
     constructor
     ·intro w90 D90;rintro _ rfl _ rfl;exact aI rfl (aJ (b:=1) rfl rfl (by omega)) rfl
     constructor
     ·intro w91 D91;rintro _ rfl _ rfl _ rfl;exact aI rfl (aL dq rfl rfl (by omega)) rfl
     constructor
     ·intro w92 D92;rintro _ rfl _ rfl;exact aI rfl (aq gn rfl (by exact EY (hR.from_ (aj.rfl_.next D92)) (Nat.le_refl _) (by omega))) rfl
     constructor
     ·intro w93 D93;rintro _ rfl _ rfl _ rfl;exact aI rfl (bc (v:=.bool _) rfl rfl) rfl
     constructor
     ·intro w94 D94;rintro _ rfl _ rfl;exact ai (aQ (v:=.bool _) rfl rfl) rfl
     constructor
     ·intro w95 D95;rintro _ rfl _ rfl;exact ai (aL dq rfl rfl (by omega)) rfl
     exact trivial
    case hend=>
     intro w96 D96;rintro _ rfl _ rfl _ rfl _ rfl _ rfl _ rfl _ rfl _ rfl _ rfl _ rfl _ rfl _ rfl _ rfl _ rfl _ rfl _ rfl _ rfl _ rfl _ rfl _ rfl _ rfl _ rfl _ rfl _ rfl _ rfl _ rfl _ rfl _ rfl _ rfl _ rfl _ rfl _ rfl _ rfl _ rfl _ rfl _ rfl _ rfl _ rfl;show St ..;have hT7q:=hT.from_ D96;have hR7q:=hR.from_ D96;have hE7q:=hE.from_ D96;have hzs7q:=Nat.le_trans hzs D96.size;refine bZ (v:=.bool _) kB rfl rfl rfl (hR7q) (by rw [vq];omega) ?_;intro w97 O7 P7;have hT7:=hT7q.only O7 (gP hT7q hR7q (by decide));have hE7:=hE7q.only O7 (gP hE7q hR7q (by decide));have hR7:=zp hX P7;have hzs7:z≤(w97).heap.size:=by rw [O7.size];exact hzs7q
     refine ah (aN (ab (aa (mvi rfl (ae (eQ rfl rfl (by omega)) (asi rfl (ah ?_)))))));refine aR (i) ⟨(by first | rfl | (refine aM ?_;omega)),trivial⟩ (by (iterate 86 refine aF rfl ?_);exact aK) ⟨?_,?_⟩
     ·exact ⟨by omega,hT7.from_ aj.rfl_,hR7.from_ aj.rfl_,hE7.from_ aj.rfl_,Nat.le_trans hzs7 (aj.rfl_).size,((hB.next D96).only O7 (gq))⟩
     ·show i<i+1;omega
   have hX:=KU ht (by omega) h1;apply en 38 [(36,eqp _),(37,eqp _),(38,eqp _),(39,eqp _),(40,eqp _),(41,eqp _),(42,eqp _),(43,eqp _),(44,eqp _),(45,eqp _),(46,eqp _),(47,eqp _),(48,eqp _),(49,eqp _),(50,eqp _),(51,eqp _),(52,eqp _),(53,eqp _),(54,eqp _),(55,eqp _),(56,eqp _),(57,eqp _),(58,eqp _),(59,eqp _),(60,eqp _),(61,eqp _),(62,eqp _),(63,eqp _),(64,eqp _),(65,eqp _),(66,eqp _),(67,eqp _),(68,eqp _),(69,eqp _),(70,eqp _),(71,eqp _),(72,eqp _),(73,eqp _)] (by kernel_rfl) (by kernel_rfl) ⟨af _,af _,af _,af _,af _,af _,af _,af _,af _,af _,af _,af _,af _,af _,af _,af _,af _,af _,af _,af _,af _,af _,af _,af _,af _,af _,af _,af _,af _,af _,af _,af _,af _,af _,af _,af _,af _,af _,trivial⟩
   case hop=>
    constructor
    ·intro w99 D99;exact ai (ar (v:=.pointer _) rfl) rfl
    constructor
    ·intro w100 D100;rintro _ rfl;exact ai (aw rfl) rfl
    constructor
    ·intro w101 D101;rintro _ rfl;exact ai (ak dS rfl) rfl
    constructor
    ·intro w102 D102;rintro _ rfl;exact ai (aq eI rfl (by exact (hT.from_ (aj.rfl_.next D102)).rd 2 rfl)) rfl
    constructor
    ·intro w103 D103;exact ai (ar (v:=.int _ _) rfl) rfl
    constructor
    ·intro w104 D104;exact ai (ar (v:=.slice _ _ _) rfl) rfl
    constructor
    ·intro w105 D105;exact ai (ar (v:=.int _ _) rfl) rfl
    constructor
    ·intro w106 D106;rintro _ rfl _ rfl;exact ai (aL aP rfl rfl (by omega)) rfl
    constructor
    ·intro w107 D107;rintro _ rfl;exact ai (aq bm rfl (by exact (hl.from_ (hB.next D107)).rdN (by omega))) rfl
    constructor
    ·intro w108 D108;exact ai (ar (v:=.slice _ _ _) rfl) rfl
    constructor
    ·intro w109 D109;exact ai (ar (v:=.int _ _) rfl) rfl
    constructor
    ·intro w110 D110;rintro _ rfl;exact ai (aJ (b:=1) rfl rfl (by omega)) rfl
    constructor
    ·intro w111 D111;rintro _ rfl _ rfl;exact ai (aL aP rfl rfl (by omega)) rfl
    constructor
    ·intro w112 D112;rintro _ rfl;exact ai (aq bm rfl (by exact (hl.from_ (hB.next D112)).rdN (by omega))) rfl
    constructor
    ·intro w113 D113;rintro _ rfl _ rfl;exact ai (cG (aX rfl rfl) (decide_eq_false (by omega))) rfl
    constructor
    ·intro w114 D114;rintro _ rfl;exact ai (ar (v:=.bool _) rfl) rfl
    constructor
    ·intro w115 D115;rintro _ rfl;exact aI rfl (ar (v:=.slice _ _ _) rfl) rfl
    constructor
    ·intro w116 D116;rintro _ rfl;exact aI rfl (ar (v:=.int _ _) rfl) rfl
    constructor
    ·intro w117 D117;rintro _ rfl _ rfl _ rfl;exact aI rfl (aL aP rfl rfl (by omega)) rfl
    constructor
    ·intro w118 D118;rintro _ rfl _ rfl;exact aI rfl (aq bm rfl (by exact (hl.from_ (hB.next D118)).rdN (by omega))) rfl
    constructor
    ·intro w119 D119;rintro _ rfl;exact aI rfl (ar (v:=.slice _ _ _) rfl) rfl
    constructor
    ·intro w120 D120;rintro _ rfl;exact aI rfl (ar (v:=.int _ _) rfl) rfl
    constructor
    ·intro w121 D121;rintro _ rfl _ rfl;exact aI rfl (aJ (b:=1) rfl rfl (by omega)) rfl
    constructor
    ·intro w122 D122;rintro _ rfl _ rfl _ rfl;exact aI rfl (aL aP rfl rfl (by omega)) rfl
    constructor
    ·intro w123 D123;rintro _ rfl _ rfl;exact aI rfl (aq bm rfl (by exact (hl.from_ (hB.next D123)).rdN (by omega))) rfl
    constructor
    ·intro w124 D124;rintro _ rfl _ rfl _ rfl;exact aI rfl (cG (cF rfl rfl) (beq_false_of_ne (by omega))) rfl
    constructor
    ·intro w125 D125;rintro _ rfl _ rfl;exact aI rfl (ar (v:=.bool _) rfl) rfl
    constructor
    ·intro w126 D126;rintro _ rfl;exact bj rfl rfl rfl
    constructor
    ·intro w127 D127;rintro _ rfl _ rfl;exact bj rfl rfl rfl
    constructor
    ·intro w128 D128;rintro _ rfl _ rfl;exact bj rfl rfl rfl
    constructor
    ·intro w129 D129;rintro _ rfl _ rfl;exact bj rfl rfl rfl
    constructor
    ·intro w130 D130;rintro _ rfl;exact bj rfl rfl rfl
    constructor
    ·intro w131 D131;rintro _ rfl _ rfl;exact bj rfl rfl rfl
    constructor
    ·intro w132 D132;rintro _ rfl _ rfl _ rfl;exact bj rfl rfl rfl
    constructor
    ·intro w133 D133;rintro _ rfl _ rfl;exact bj rfl rfl rfl
    constructor
    ·intro w134 D134;rintro _ rfl _ rfl _ rfl;exact aI rfl (aQ (v:=.bool _) rfl rfl) rfl
    constructor
    ·intro w135 D135;rintro _ rfl _ rfl;exact ai (aQ (v:=.bool _) rfl rfl) rfl
    constructor
    ·intro w136 D136;rintro _ rfl _ rfl;exact ai (aL dq rfl rfl (by omega)) rfl
    exact trivial
   case hend=>
    intro w137 D137;rintro _ rfl _ rfl _ rfl _ rfl _ rfl _ rfl _ rfl _ rfl _ rfl _ rfl _ rfl _ rfl _ rfl _ rfl _ rfl _ rfl _ rfl _ rfl _ rfl _ rfl _ rfl _ rfl _ rfl _ rfl _ rfl _ rfl _ rfl _ rfl _ rfl _ rfl _ rfl _ rfl _ rfl _ rfl _ rfl _ rfl _ rfl _ rfl;show St ..;have hT7q:=hT.from_ D137;have hR7q:=hR.from_ D137;have hE7q:=hE.from_ D137;have hzs7q:=Nat.le_trans hzs D137.size;refine bZ (v:=.bool _) kB rfl rfl rfl (hR7q) (by rw [vq];omega) ?_;intro w138 O7 P7;have hT7:=hT7q.only O7 (gP hT7q hR7q (by decide));have hE7:=hE7q.only O7 (gP hE7q hR7q (by decide));have hR7:=zp hX P7;have hzs7:z≤(w138).heap.size:=by rw [O7.size];exact hzs7q
    refine ah (aN (ab (aa (mvi rfl (ae (eQ rfl rfl (by omega)) (asi rfl (ah ?_)))))));refine aR (i) ⟨(by first | rfl | (refine aM ?_;omega)),trivial⟩ (by (iterate 86 refine aF rfl ?_);exact aK) ⟨?_,?_⟩
    ·exact ⟨by omega,hT7.from_ aj.rfl_,hR7.from_ aj.rfl_,hE7.from_ aj.rfl_,Nat.le_trans hzs7 (aj.rfl_).size,((hB.next D137).only O7 (gq))⟩
    ·show i<i+1;omega
  refine aZ (aD (aD (aU (ab (ag (ag (aa (asi rfl (ah (ab (az (bg (G:=Nat×Option Addr×Nat) [74,75,76,77,78,79,80,81,82,83,84,85,86,87,88,89,90,91,92,93,94,95,96,97,98,99,100,101,102,103,104,105,106,107] (fun (i,_,_)=>[(8,.int .i64 (i:Nat))]) (fun (i,A3,c3) w'=>0<i∧i≤n∧Blk w' b 229 #[.slice (some ⟨gl,0,none⟩) n n,.int .i64 (K:Nat),.slice (some ⟨q,0,none⟩) n n,.slice A3 (stL n t i).length c3,.slice (some ⟨p,0,none⟩) K K]∧w'.ownsRow z 21 1 (.slice A3 (stL n t i).length c3) (stL n t i).length ((stL n t i).map fun x:Nat=>jV (x:Nat))∧Blk w' q 4 (rT n t 0)∧Blk w' p 21 (f_ K fun _=>0)∧z≤w'.heap.size∧aj w w') (fun (i,_,_)=>n-i) ((1,none,0)) ⟨rfl,trivial⟩ ?_ ?_))))))))))))
  ·obtain rfl:j=0:=by omega
   refine ⟨by omega,ht.pos,?_,?_,hR.from_ aj.rfl_,hE.from_ aj.rfl_,Nat.le_trans hzs (aj.rfl_).size,hB⟩
   ·rw [A_];exact hT.from_ aj.rfl_
   ·rw [A_];exact World.ownsRow_nil _ _ _ _
  rintro ⟨i,A3,c3⟩ ρ139 w139 ⟨hi0,hin,hT,ho,hR,hE,hzs,hB⟩;refine ag (ag (aa (mvi rfl (mvi rfl (ae (aX rfl rfl) (ah (ab (Li rfl (fun Q140=>?_) (fun Q140=>?_)))))))))
  ·refine au (ab (ff (G:=Option Addr×Nat) [79,80,81,82,83,84,85,86,87,88,89,90,91,92,93,94,95,96,97,98,99,100,101,102,103,104,105,106,107] (fun (_,_)=>[]) (fun (A3,c3) w'=>Blk w' b 229 #[.slice (some ⟨gl,0,none⟩) n n,.int .i64 (K:Nat),.slice (some ⟨q,0,none⟩) n n,.slice A3 (stL n t (i+1)).length c3,.slice (some ⟨p,0,none⟩) K K]∧w'.ownsRow z 21 1 (.slice A3 (stL n t (i+1)).length c3) (stL n t (i+1)).length ((stL n t (i+1)).map fun x:Nat=>jV (x:Nat))∧Blk w' q 4 (rT n t 0)∧Blk w' p 21 (f_ K fun _=>0)∧z≤w'.heap.size∧aj w w') ?_ ?_))
   ·refine az (ag (aa (mvp rfl (ae (aw rfl) (ae (ak dS rfl) (ae (aq eI rfl (by exact (hT.from_ aj.rfl_).rd 2 rfl)) ?_))))));refine mvi rfl (ae (aL dq rfl rfl (by omega)) (ae (aq gn rfl (by exact EY (hR.from_ aj.rfl_) (Nat.zero_le _) (by omega))) ?_));refine mvb rfl (bz (t:=86) rfl (fun Q141=>?_) (fun Q141=>?_))
    ·(try with_reducible first | (replace Q141 := dT_ Q141; trace "@MK N cO:c33-.c76+.g86+ 1.1") | (replace Q141 := dF_ Q141; trace "@MK N cO:c33-.c76+.g86+ 1.2") | (replace Q141 := fx Q141; trace "@MK N cO:c33-.c76+.g86+ 1.3") | (replace Q141 := fy Q141; trace "@MK N cO:c33-.c76+.g86+ 1.4"))
     (try with_reducible first | (replace Q141 := dT_ Q141; trace "@MK N cO:c33-.c76+.g86+ 2.1") | (replace Q141 := dF_ Q141; trace "@MK N cO:c33-.c76+.g86+ 2.2") | (replace Q141 := eG Q141; trace "@MK N cO:c33-.c76+.g86+ 2.3") | (replace Q141 := eH Q141; trace "@MK N cO:c33-.c76+.g86+ 2.4") | (replace Q141 := fV Q141; trace "@MK N cO:c33-.c76+.g86+ 2.5") | (replace Q141 := fW Q141; trace "@MK N cO:c33-.c76+.g86+ 2.6"))
     have hq85:rb n t i=true:=Q141;refine an rfl (mvp rfl (an rfl (ae (aw rfl) (an rfl (ae (ak dS rfl) (an rfl (ae (aq eI rfl (by exact (hT.from_ aj.rfl_).rd 2 rfl)) ?_)))))));refine an rfl (mvi rfl (an rfl (ae (ck (b:=1) rfl rfl (by omega)) (an rfl (ae (aL dq rfl rfl (by omega)) (an rfl (ae (aq gn rfl (by exact EY (hR.from_ aj.rfl_) (Nat.zero_le _) (by omega))) ?_)))))));refine an rfl (ae (dZ rfl) (ae (bc (v:=.bool _) rfl rfl) (ah (ab (Lg rfl (fun Q142=>?_) (fun Q142=>?_))))))
     ·have hq94:rb n t (i-1)=false:=by simpa using Q142
      refine aa (mvp rfl (mvp rfl (ae (aw rfl) (ae (ak dm rfl) (ae (aq a_ rfl (by exact (hT.from_ aj.rfl_).rd 3 rfl)) ?_)))));refine mvi rfl (ae (iv eE iR rfl (by omega)) (gW (v:=.int _ _) dL rfl rfl rfl ?_));intro b104 w143 E104 hb104 hk104;have hsl:=Ba (n:=n) (t:=t) (i:=i);refine cZ (base:=z) dL rfl (by decide) rfl (A:=A3) (xs:=(stL n t i).map fun x:Nat=>jV (x:Nat)) (news:=[jV (i:Nat)]) (ho.kept_from E104) (Nat.le_trans hzs E104.size) rfl rfl (fun _=>⟨b104,0,rfl,hk104.whole⟩) (fun h=>by cases h) (by simp [Value.oneCell']) (by omega) (by omega) ?_;intro A105 c105 w144 ho105 hg105;have HB105:aj w w144:=((hB.next E104)).grew hg105 (fun k hk=>Nat.le_trans hwz (b_ ho k hk).1);have hoq:=ho.kept_from E104;have hT105:=(hT.from_ E104).grown hg105 (dy hoq (hT.from_ E104) (by decide));have hR105:=(hR.from_ E104).grown hg105 (dy hoq (hR.from_ E104) (by decide));have hE105:=(hE.from_ E104).grown hg105 (fun k hk=>by have:=(b_ ho k hk).1;omega);have hzs105:=Nat.le_trans hzs (Nat.le_trans E104.size hg105.size);refine ae (aw rfl) (ae (ak dm rfl) (bZ (v:=.slice _ _ _) j4 rfl rfl rfl (hT105) (by show 3<5;decide) ?_));intro w145 O12 P12;have hst:=G9 (by omega) (by omega) hq85 hq94;have hT12:=P12;have ho12:=cH ho105 O12 (dy ho105 hT105 (by decide));have hR12:=hR105.only O12 (gP hR105 hT105 (by decide));have hE12:=hE105.only O12 (gP hE105 hT105 (by decide));have hzs12:z≤(w145).heap.size:=by rw [O12.size];exact hzs105
      refine ah (aN ?_);refine aR ((A105,c105)) trivial (by (iterate 30 refine aF rfl ?_);exact aK) ?_;exact ⟨by rw [hst,List.length_append];exact hT12,by rw [hst,List.length_append,List.map_append];exact ho12,hR12,hE12,hzs12,(HB105.only O12 gb)⟩
     refine au (aN ?_);refine aR ((A3,c3)) trivial (by (iterate 19 refine aF rfl ?_);exact aK) ?_;have hst:stL n t (i+1)=stL n t i:=Ec (by simp_all);exact ⟨by rw [hst];exact hT.from_ aj.rfl_,by rw [hst];exact ho.kept_from aj.rfl_,hR.from_ aj.rfl_,hE.from_ aj.rfl_,Nat.le_trans hzs (aj.rfl_).size,hB⟩
    (try with_reducible first | (replace Q141 := dT_ Q141; trace "@MK N cO:c33-.c76+.g86- 1.1") | (replace Q141 := dF_ Q141; trace "@MK N cO:c33-.c76+.g86- 1.2") | (replace Q141 := fx Q141; trace "@MK N cO:c33-.c76+.g86- 1.3") | (replace Q141 := fy Q141; trace "@MK N cO:c33-.c76+.g86- 1.4"))
    (try with_reducible first | (replace Q141 := dT_ Q141; trace "@MK N cO:c33-.c76+.g86- 2.1") | (replace Q141 := dF_ Q141; trace "@MK N cO:c33-.c76+.g86- 2.2") | (replace Q141 := eG Q141; trace "@MK N cO:c33-.c76+.g86- 2.3") | (replace Q141 := eH Q141; trace "@MK N cO:c33-.c76+.g86- 2.4") | (replace Q141 := fV Q141; trace "@MK N cO:c33-.c76+.g86- 2.5") | (replace Q141 := fW Q141; trace "@MK N cO:c33-.c76+.g86- 2.6"))
    refine aB rfl rfl (aB rfl rfl (aB rfl rfl (aB rfl rfl (aB rfl rfl (aB rfl rfl (aB rfl rfl (aB rfl rfl (aB rfl rfl ?_))))))));refine ae (aQ (v:=.bool _) rfl rfl) (ah (ab (cm rfl (au (aN ?_)))));refine aR ((A3,c3)) trivial (by (iterate 19 refine aF rfl ?_);exact aK) ?_;have hst:stL n t (i+1)=stL n t i:=Ec (by simp_all);exact ⟨by rw [hst];exact hT.from_ aj.rfl_,by rw [hst];exact ho.kept_from aj.rfl_,hR.from_ aj.rfl_,hE.from_ aj.rfl_,Nat.le_trans hzs (aj.rfl_).size,hB⟩
   rintro ⟨A4,c4⟩ ρ146 w146 ⟨hT2,ho2,hR2,hE2,hzs2,hB⟩;refine aa (mvi rfl (ae (aJ (b:=1) rfl rfl (by omega)) (asi rfl (ah ?_))));refine aR ((i+1,A4,c4)) ⟨(by first | rfl | (refine aM ?_;omega)),trivial⟩ (by (iterate 70 refine aF rfl ?_);exact aK) ⟨?_,?_⟩
   ·exact ⟨by omega,by omega,hT2.from_ aj.rfl_,ho2.kept_from aj.rfl_,hR2.from_ aj.rfl_,hE2.from_ aj.rfl_,Nat.le_trans hzs2 (aj.rfl_).size,hB⟩
   ·show n-(i+1)<n-i;omega
  refine aZ (aD (aD (aU (ab (ag (ag (aa (mvs rfl (ae (aS cK rfl) (mvi rfl (ah (ab (az (bg (G:=Nat) [10,111,112,113,114,115,116,117,118,119,120,121,122,123] (fun k=>[(110,.int .i64 (k:Nat))]) (fun k w'=>k≤n∧Blk w' b 229 #[.slice (some ⟨gl,0,none⟩) n n,.int .i64 (K:Nat),.slice (some ⟨q,0,none⟩) n n,.slice A3 (stL n t n).length c3,.slice (some ⟨p,0,none⟩) K K]∧w'.ownsRow z 21 1 (.slice A3 (stL n t n).length c3) (stL n t n).length ((stL n t n).map fun x:Nat=>jV (x:Nat))∧Blk w' q 4 (rT n t 0)∧Blk w' p 21 (cT n K t k)∧aj w w') (fun k=>n-k) (0) ⟨rfl,trivial⟩ ?_ ?_))))))))))))))
  ·obtain rfl:i=n:=by omega
   exact ⟨Nat.zero_le _,hT.from_ aj.rfl_,ho.kept_from aj.rfl_,hR.from_ aj.rfl_,hE.from_ aj.rfl_,hB⟩
  rintro k ρ147 w147 ⟨hkn,hT,ho,hR,hE,hB⟩;refine ag (aa (ae (aX rfl rfl) (ah (ab (ag (Li rfl (fun Q148=>?_) (fun Q148=>?_)))))))
  ·refine au (ab (ag (az (ag (aa (ae (aL aP rfl rfl (by omega)) (ae (aq bm rfl (by exact (hl.from_ hB).rdN (by omega))) ?_)))))));refine asi rfl (ah (ab (aa (mvp rfl (ae (aw rfl) (ae (ak fg rfl) (ae (aq a_ rfl (by exact (hT.from_ aj.rfl_).rd 4 rfl)) ?_)))))));refine mvi rfl (ae (aL aP rfl rfl (by exact hkt _ (by omega))) ?_);refine ae (aq bm rfl (by exact Lj (hE.from_ aj.rfl_) (hkt _ (by omega)))) ?_;refine ae (iH (r:=((cnt k (fun i=>t i=t k)+1:Nat):Int)) rfl rfl (by omega) (by have:=fU k (fun i=>t i=t k);omega)) ?_;refine ae (aL aP rfl rfl (by exact hkt _ (by omega))) ?_;refine bZ (v:=.int _ _) df rfl rfl rfl (hE) (by unfold cT;rw [gz];exact hkt _ (by omega)) ?_;intro w149 O16 P16;have hT16:=hT.only O16 (gP hT hE (by decide));have ho16:=cH ho O16 (fun k hk=>by have:=(b_ ho k hk).1;omega);have hR16:=hR.only O16 (gP hR hE (by decide));have hE16:=Kv P16;refine ah (aN (ab (aa (ae (aJ (b:=1) rfl rfl (by omega)) (mvi rfl (ah ?_))))));refine aR (k+1) ⟨(by first | rfl | (refine aM ?_;omega)),trivial⟩ (by (iterate 30 refine aF rfl ?_);exact aK) ⟨?_,?_⟩
   ·exact ⟨by omega,hT16.from_ aj.rfl_,ho16.kept_from aj.rfl_,hR16.from_ aj.rfl_,hE16.from_ aj.rfl_,(hB.only O16 (gp))⟩
   ·show n-(k+1)<n-k;omega
  refine aZ (aD (aD (aU (ab (ag (ag (aa (asi rfl (ah (ab (az (bg (G:=Nat) [124,125,126,127,128,129,130,131,132,133,134,135,136,137,138,139,140,141,142,143,144,145] (fun c=>[(11,.int .i64 (c:Nat))]) (fun c w'=>1≤c∧Blk w' b 229 #[.slice (some ⟨gl,0,none⟩) n n,.int .i64 (K:Nat),.slice (some ⟨q,0,none⟩) n n,.slice A3 (stL n t n).length c3,.slice (some ⟨p,0,none⟩) K K]∧w'.ownsRow z 21 1 (.slice A3 (stL n t n).length c3) (stL n t n).length ((stL n t n).map fun x:Nat=>jV (x:Nat))∧Blk w' q 4 (rT n t 0)∧Blk w' p 21 (eT n K t c)∧aj w w') (fun c=>K-c) (1) ⟨rfl,trivial⟩ ?_ ?_))))))))))))
  ·obtain rfl:k=n:=by omega
   exact ⟨Nat.le_refl _,hT.from_ aj.rfl_,ho.kept_from aj.rfl_,hR.from_ aj.rfl_,by rw [←Kp];exact hE.from_ aj.rfl_,hB⟩
  rintro c ρ150 w150 ⟨hc,hT,ho,hR,hE,hB⟩;refine ag (ag (aa (mvi rfl (mvi rfl (ae (aX rfl rfl) (ah (ab (Li rfl (fun Q151=>?_) (fun Q151=>?_)))))))))
  ·refine au (ab (ag (az ?_)));apply en 17 [(129,eqp _),(130,eqp _),(131,eqp _),(132,eqp _),(133,eqp _),(134,eqp _),(135,eqp _),(136,eqp _),(137,eqp _),(138,eqp _),(139,eqp _),(140,eqp _),(141,eqp _),(142,eqp _),(143,eqp _),(144,eqp _),(145,eqp _)] (by kernel_rfl) (by kernel_rfl) ⟨af _,af _,af _,af _,af _,af _,af _,af _,af _,af _,af _,af _,af _,af _,af _,af _,af _,trivial⟩
   case hop=>
    constructor
    ·intro w153 D153;exact ai (ar (v:=.pointer _) rfl) rfl
    constructor
    ·intro w154 D154;rintro _ rfl;exact ai (aw rfl) rfl
    constructor
    ·intro w155 D155;rintro _ rfl;exact ai (ak fg rfl) rfl
    constructor
    ·intro w156 D156;rintro _ rfl;exact ai (aq a_ rfl (by exact (hT.from_ (aj.rfl_.next D156)).rd 4 rfl)) rfl
    constructor
    ·intro w157 D157;exact ai (ar (v:=.int _ _) rfl) rfl
    constructor
    ·intro w158 D158;rintro _ rfl _ rfl;exact ai (aL aP rfl rfl (by omega)) rfl
    constructor
    ·intro w159 D159;rintro _ rfl;exact ai (aq bm rfl (by exact Le (hE.from_ (aj.rfl_.next D159)) (by omega) (by omega))) rfl
    constructor
    ·intro w160 D160;exact ai (ar (v:=.pointer _) rfl) rfl
    constructor
    ·intro w161 D161;rintro _ rfl;exact ai (aw rfl) rfl
    constructor
    ·intro w162 D162;rintro _ rfl;exact ai (ak fg rfl) rfl
    constructor
    ·intro w163 D163;rintro _ rfl;exact ai (aq a_ rfl (by exact (hT.from_ (aj.rfl_.next D163)).rd 4 rfl)) rfl
    constructor
    ·intro w164 D164;exact ai (ar (v:=.int _ _) rfl) rfl
    constructor
    ·intro w165 D165;rintro _ rfl;exact ai (ck (b:=1) rfl rfl (by omega)) rfl
    constructor
    ·intro w166 D166;rintro _ rfl _ rfl;exact ai (aL aP rfl rfl (by omega)) rfl
    constructor
    ·intro w167 D167;rintro _ rfl;exact ai (aq bm rfl (by exact Ld (hE.from_ (aj.rfl_.next D167)) (by omega) (by omega))) rfl
    constructor
    ·intro w168 D168;rintro _ rfl _ rfl;exact ai (iH (r:=((less n t (c+1):Nat):Int)) rfl rfl (by have:=lG (n:=n) (t:=t) c;omega) (by have:=Ij (n:=n) (t:=t) (c:=c+1);omega)) rfl
    constructor
    ·intro w169 D169;rintro _ rfl _ rfl;exact ai (aL aP rfl rfl (by omega)) rfl
    exact trivial
   case hend=>
    intro w170 D170;rintro _ rfl _ rfl _ rfl _ rfl _ rfl _ rfl _ rfl _ rfl _ rfl _ rfl _ rfl _ rfl _ rfl _ rfl _ rfl _ rfl _ rfl;show St ..;have hT21q:=hT.from_ D170;have ho21q:=ho.kept_from D170;have hR21q:=hR.from_ D170;have hE21q:=hE.from_ D170;refine bZ (v:=.int _ _) df rfl rfl rfl (hE21q) (by unfold eT;rw [gz];omega) ?_;intro w171 O21 P21;have hT21:=hT21q.only O21 (gP hT21q hE21q (by decide));have ho21:=cH ho21q O21 (fun k hk=>by have:=(b_ ho21q k hk).1;omega);have hR21:=hR21q.only O21 (gP hR21q hE21q (by decide));have hE21:=Ko P21;refine ah (aN (ab (aa (mvi rfl (ae (aJ (b:=1) rfl rfl (by omega)) (asi rfl (ah ?_)))))));refine aR (c+1) ⟨(by first | rfl | (refine aM ?_;omega)),trivial⟩ (by (iterate 46 refine aF rfl ?_);exact aK) ⟨?_,?_⟩
    ·exact ⟨by omega,hT21.from_ aj.rfl_,ho21.kept_from aj.rfl_,hR21.from_ aj.rfl_,hE21.from_ aj.rfl_,((hB.next D170).only O21 (gp))⟩
    ·show K-(c+1)<K-c;omega
  refine aZ (aD (aD (aU (ab (ag (aa (mvp rfl (asp rfl (ah (ab (ay (bE (v:=.pointer _) rfl rfl ?_))))))))))));rw [HG] at hR;rw [Kq (by omega)] at hE;exact ⟨⟨b,(stL n t n).length,stF n t,rfl,⟨gl,q,A3,c3,p,hT.from_ aj.rfl_,hl.from_ hB,hR.from_ aj.rfl_,(fun h0=>(let ⟨g,e⟩:=dF ho h0;⟨g,e,by rw [e] at ho;exact (VJ.own (f:=fun k=>((stF n t k:Nat):Int)) (by rw [G_,List.map_map];exact ho.kept_from aj.rfl_) h0).1⟩)),(VJ.of_blk hE).from_ aj.rfl_⟩,za n t⟩,hB⟩
end Go.Proofs.YtcbakncjacnnjaaGreat
namespace Go.Proofs.YtcbakncjacnnjaaGreat
open Go.Proofs.Tryz (prog)
open Go.RowKit Go.Shelf
theorem Cy {n:Nat} {P:Program} {row:String} {args:Array Value} {w:World} {R:Value→World→Prop} (h:Rows P row args w R):RowsIn Fence.wide n P row args w R:=fun c cs _=>
 let ⟨v,w',r,s⟩:=h c cs
 ⟨v,w',r,stepsIn_wide.2 s⟩
structure CdR (l:Nat) (P:Program) (c:Code) (Q:Exit→Act→World→Prop) (n:Fr) (L:List (Nat×Value)) (w:World):Prop where
 out:c.wpIn (Fence.wide.inRound l) 0 P Q (mkA n L) w
def qX (ops:List Oper):Bool:=ops.all fun o=>match o.op with | .defer _=>false | _=>true
theorem xM {ops:List Oper} {o:Oper} (h:qX ops=true) (ho:o∈ops):∀ c,o.op≠.defer c:=fun c e=>by
 have:=List.all_eq_true.1 h o ho;rw [e] at this;cases this
section
variable {l:Nat} {P:Program} {ops:Array Oper} {Q:Exit→Act→World→Prop}
theorem I8 {o:Oper} {a:Act} {w:World} {K:Act→World→Prop} (hd:∀ c,o.op≠.defer c) (hQ:¬ LetsOut Q) (h:o.wp P a w K Q∨(o.asks P a w∧LetsOut Q)):o.wpIn (Fence.wide.inRound l) 0 P a w K Q:=by
 refine ⟨fun _ _=>trivial,?_⟩;rcases h with h | ⟨_,h⟩
 ·unfold Oper.wp at h;rw [Fence.inRound_round,Oper.semAt_some _ _ _ hd]
  generalize (execOp a.eval o).run P w=r at h ⊢
  cases r with
  |ok x w'=>
   cases x <;> first
    |exact h
    |exact ⟨fun h=>absurd (show false=true from h) (by decide),(show CallsIn Fence.wide (0-1) P _ _ _ _ from callsIn_wide.2 h)⟩
    |exact ⟨fun h=>absurd (show false=true from h) (by decide),(show RowsIn Fence.wide (0-1) P _ _ _ _ from Cy h)⟩
    |exact h.elim
  |halt o w'=>cases o <;> exact h
 ·exact absurd h hQ
theorem tz (hd:qX ops.toList=true) (hQ:¬ LetsOut Q):∀ (fuel:Nat) (listed:Array Bool) (a:Act) (w:World),wpAny P .any ops Q fuel listed a w→wpAnyIn (Fence.wide.inRound l) 0 P .any ops Q fuel listed a w
 |0,_,_,_,h=>h
 |fuel+1,listed,a,w,h=>⟨h.1,fun i hi=>by
  have h2:=h.2 i hi;unfold wpOp at h2;unfold wpOpIn;cases ho:ops[i]? with
  |none=>rw [ho] at h2;exact tz hd hQ fuel _ _ _ h2
  |some o=>
   rw [ho] at h2;simp only at h2 ⊢;have hm:o∈ops.toList:=Array.mem_toList_iff.2 (Array.mem_of_getElem? ho);split at h2
   ·rename_i hw;rw [if_pos hw];exact I8 (xM hd hm) hQ (h2.imp (Oper.wp_mono fun a w=>tz hd hQ fuel _ a w) id)
   ·rename_i hw;rw [if_neg hw];exact ⟨fun _ _=>trivial,tz hd hQ fuel _ _ _ h2⟩⟩
theorem vB (hQ:¬ LetsOut Q):∀ {r:List Oper} {a:Act} {w:World},qX r=true→wpList P ops Q r a w→wpListIn (Fence.wide.inRound l) 0 P ops Q r a w
 |[],_,_,_,h=>h
 |o::r,a,w,hd,h=>by
  have hd2:qX r=true:=by
   unfold qX at hd ⊢;rw [List.all_cons,Bool.and_eq_true] at hd;exact hd.2
  unfold wpList at h;unfold wpListIn;split at h
  ·rename_i hw;rw [if_pos hw];exact I8 (xM hd (List.mem_cons_self ..)) hQ (h.imp (Oper.wp_mono fun a w h=>vB hQ hd2 h) id)
  ·rename_i hw;rw [if_neg hw];exact ⟨fun _ _=>trivial,vB hQ hd2 h⟩
variable {n:Fr} {L:List (Nat×Value)} {w:World}
theorem vU {x y:Code} (h:CdR l P x (Exit.then (fun a w=>y.wpIn (Fence.wide.inRound l) 0 P Q a w) Q) n L w):CdR l P (.seq x y) Q n L w:=⟨wpIn_seq h.out⟩
theorem ym {id:Nat} {c:Code} (h:CdR l P c (Exit.inBlock id Q) n L w):CdR l P (.block id c) Q n L w:=⟨wpIn_block h.out⟩
theorem rK {y:Code} (h:CdR l P y Q n L w):Exit.then (fun a w=>y.wpIn (Fence.wide.inRound l) 0 P Q a w) Q .normal (mkA n L) w:=h.out
theorem nL {id:Nat} {r:List Oper} (hd:qX r=true) (hQ:¬ LetsOut Q) (h:St P r.toArray Q r n L w):CdR l P (.region id r.toArray false) Q n L w:=⟨wpIn_region_lit (vB hQ hd h.out)⟩
theorem yl {id:Nat} {r:List Oper} (K:Nat) (RL:List (Nat×(Value→World→Prop))) (hm:P.follows .mixedOrders=true) (hc:BA r K=true) (hmono:lQ RL) (hd:qX r=true) (hQ:¬ LetsOut Q)
 (hop:tW P r.toArray n L w (eA RL) (eu r K) (r.take K)) (hend:∀ w',aj w w'→gU (eA RL) w' (eu r K) fun M=>St P r.toArray Q (r.drop K) n (M++L) w'):CdR l P (.region id r.toArray true) Q n L w:=by
 have hKl:K≤r.length:=dT_ (Bool.and_eq_true_iff.1 hc).1
 have:=xR (Q:=Q) (w:=w) hc (dQ hmono) hop hend r.length (Array.replicate r.length false) L { w with drawn:=w.drawn+1 } (by simp) (by simp)
  (fun j _ hj=>by simp [Array.getD,hj]) (aj.rfl_.d1) (fun _ _=>rfl) (fun i o d hi _ hl=>by
   have:i<r.length:=by omega
   simp [Array.getD,this] at hl)
 exact ⟨wpIn_region_any hm (tz (by simpa using hd) hQ _ _ _ _ (by simpa using this))⟩
end
def Lu (I:World→Prop):Exit→Act→World→Prop
 | .normal,_,W=>I W
 |_,_,_=>False
def dx (W W':World):Prop:=∀ (q:Nat) (o:Obj),W.heap[q]? =some o→o.isCells=false→W'.heap[q]? =some o
theorem dx.trans {W W1 W2:World} (h:dx W W1) (k:dx W1 W2):dx W W2:=fun q o hq ho=>k q o (h q o hq ho) ho
theorem dx.from_ {W W':World} (h:aj W W'):dx W W':=fun q o hq _=>by
 rw [h.block q (Array.getElem?_eq_some_iff.1 hq).1];exact hq
theorem dx.only {W W':World} {g t:Nat} {cs:Array Value} (h:de g W W') (hb:Blk W g t cs):dx W W':=fun q o hq ho=>by
 rw [h.block q (fun e=>by
  subst e;unfold Blk at hb;rw [hb] at hq;cases hq;cases ho)]
 exact hq
theorem eK {W:World} {q:Nat} {o:Obj}:de q W (W.putObj q o):=⟨rfl,rfl,rfl,by simp,fun k hk=>World.putObj_heap_other (fun e=>hk (by rw [e]))⟩
theorem bR {W:World} {g t q:Nat} {cs:Array Value} {o:Obj} (hb:Blk W g t cs) (hq:W.heap[q]? =some o) (ho:o.isCells=false):g≠q:=fun e=>by
 subst e;unfold Blk at hb;rw [hb] at hq;cases hq;cases ho
structure GS (P:Program) (gf:Nat) (lb:Array Value) (u v:Nat→Value) (N:Nat) (Rd:World→Prop):Prop where
 out:∀ (l:Nat) (J:Nat→World→Prop) (W:World),(∀ k W',J k W'→Rd W')→(∀ k W1,k<N→J k W1→YieldAt Fence.wide 0 P l #[u k,v k] W1 fun e W'=>e=.returned (.bool true)∧J (k+1) W')→J 0 W→
  CallsIn Fence.wide 1 P gf (#[.func (.yield l) #[] #[]]++lb) W fun e W'=>(∃ v,e=.returned v)∧J N W'
theorem Ds {P:Program} {Q:Exit→Act→World→Prop} {n:Fr} {L:List (Nat×Value)} {w:World} {g:Operand} {p1 p2:Nat} {assign body:Code} {gf:Nat} {lb:Array Value} {u v:Nat→Value} {N:Nat} {Rd:World→Prop}
 (hg:ev n L g=.func (.func gf) #[] lb) (he:∀ args w,(callFunc gf args).run P w=.ok (.enter gf args) w) (hit:GS P gf lb u v N Rd) (I:Nat→World→Prop) (LB:Nat→List (Nat×Value)) (hRd:∀ k W,I k W→Rd W)
 (hF:∀ k W W',I k W→aj W W'→I k W') (hO:∀ k W W' q o,W.heap[q]? =some o→o.isCells=false→de q W W'→w.heap.size≤q→I k W→I k W') (h0:I 0 w)
 (ha:∀ (l k:Nat) (W:World) (K:Act→World→Prop),K (mkA ⟨n.n,[]⟩ (LB k)) W→CdR l P assign (Exit.then K fun _ _ _=>False) ⟨n.n,[]⟩ ((p2,v k)::(p1,u k)::L) W)
 (hb:∀ (l k:Nat) (W:World),k<N→I k W→CdR l P body (Lu fun W'=>I (k+1) W'∧dx W W') ⟨n.n,[]⟩ (LB k) W)
 (hd:∀ (D:Nat) (W:World),w.heap.size≤D→I N W→W.heap[D]? =some (.deferred (some []))→Q .normal (mkA ⟨n.n,{ target:=.collected D,args:=#[] }::n.ds⟩ L) W) :
 Cd P (.rangeFunc g #[p1,p2] assign body) Q n L w:=by
 refine ⟨(wpIn_wide (n:=2)).1 (wpIn_rangeFunc fun fn _=>?_)⟩;obtain ⟨rec,hrec⟩:∃ rec:LoopState→Option Code→Loop,rec=fun st pe=>{ state:=st,pending:=pe,fn,tmps:=mkT n.n L,params:=#[p1,p2],assign,body,defers:=w.heap.size }:=⟨_,rfl⟩
 obtain ⟨D,hD⟩:∃ D,D=w.heap.size:=⟨_,rfl⟩;obtain ⟨W1,hW1⟩:∃ W1,(w.alloc (.deferred (some []))).alloc (.loop (rec .ready none))=W1:=⟨_,rfl⟩
 have hL1:W1.heap[D+1]? =some (.loop (rec .ready none)):=by
  rw [←hW1,hD];have:=World.alloc_heap_new (w.alloc (.deferred (some []))) (.loop (rec .ready none))
  rwa [World.size_alloc] at this
 have hK1:W1.heap[D]? =some (.deferred (some [])):=by
  rw [←hW1,hD];exact (Below.heap_alloc _ _ _ (by simp)).trans (World.alloc_heap_new w _)
 have hI1:I 0 W1:=hF 0 w W1 h0 (by rw [←hW1];exact (aj.rfl_.new _).next (aj.rfl_.new _));refine ⟨D+1,[{ target:=.collected D,args:=#[] }],W1,{ target:=.fn (.func gf) lb,args:=#[.func (.yield (D+1)) #[] #[]] },W1,gf,#[.func (.yield (D+1)) #[] #[]]++lb,W1,?_,?_,fun _ _=>trivial,?_,(fun h=>by cases h),?_⟩
 ·rw [←hW1,hrec,hD];exact run_enterLoop_outer _ _ _ _ _
 ·simp only [resolve,cy,hg];simp [go_sem,ev]
 ·simp [invoke,go_sem,he]
 ·refine (hit.out (D+1) (fun k W=>I k W∧W.heap[D+1]? =some (.loop (rec .ready none))∧W.heap[D]? =some (.deferred (some []))) W1 (fun k W' h=>hRd k W' h.1) ?_ ⟨hI1,hL1,hK1⟩).mono ?_
  ·rintro k W hk ⟨hi,hl,hdf⟩;have hlt:D+1<W.heap.size:=(Array.getElem?_eq_some_iff.1 hl).1;have hy:=run_yield (P:=P) (args:=#[u k,v k]) hl (by rw [hrec];rfl);rw [hrec] at hy;refine ⟨fn,_,assign,body,hy,roundIn_of_wpIn trivial ?_⟩;obtain ⟨W2,hW2⟩:∃ W2,W.putObj (D+1) (.loop { rec .ready none with state:=.busy })=W2:=⟨_,rfl⟩;have hO2:de (D+1) W W2:=by rw [←hW2];exact eK
   have hl2:W2.heap[D+1]? =some (.loop { rec .ready none with state:=.busy }):=by rw [←hW2];exact World.putObj_heap_same hlt
   have hd2:W2.heap[D]? =some (.deferred (some [])):=by rw [hO2.block D (by omega)];exact hdf
   have hi2:I k W2:=hO k W W2 (D+1) _ hl rfl hO2 (by omega) hi;have key:=(ha (D+1) k W (fun a₁ w₁=>∃ w₂,(Instr.beginRound (D+1)).run P w₁=.ok () w₂∧body.wpIn (Fence.wide.inRound (D+1)) 0 P (roundPost P (D+1) fun e W'=>e=.returned (.bool true)∧I (k+1) W'∧W'.heap[D+1]? =some (.loop (rec .ready none))∧W'.heap[D]? =some (.deferred (some []))) a₁ w₂) ⟨W2,?_,?_⟩).out
   ·have e:({ tmps:=(Array.foldl (fun tmps (x:Tmp×Value)=>tmps.setIfInBounds x.1 x.2) (mkT n.n L) (#[p1,p2].zip #[u k,v k])),defers:=[] }:Act)=mkA ⟨n.n,[]⟩ ((p2,v k)::(p1,u k)::L):=by
     have e1:=eF ⟨n.n,[]⟩ L p1 (u k);have e2:=eF ⟨n.n,[]⟩ ((p1,u k)::L) p2 (v k);rw [←e2,←e1];simp [mkA,Act.put]
    rw [←e] at key;exact key
   ·rw [←hW2];exact run_beginRound hl (by rw [hrec])
   ·refine wpIn_mono (hb (D+1) k W2 hk hi2).out fun e a3 W3 hp=>?_
    cases e <;> first | exact hp.elim | skip
    obtain ⟨hi3,hk3⟩:=hp;have hl3:=hk3 _ _ hl2 rfl;have hd3:=hk3 _ _ hd2 rfl;have hlt3:=(Array.getElem?_eq_some_iff.1 hl3).1;have hr:=run_endRound (P:=P) none hl3;refine ⟨_,_,hr,rfl,hO _ W3 _ (D+1) _ hl3 rfl eK (by omega) hi3,?_,?_⟩
    ·rw [World.putObj_heap_same hlt3,hrec];rfl
    ·rw [World.putObj_heap_other (by omega)];exact hd3
  ·rintro e W2 ⟨⟨x,rfl⟩,hi,hl,hdf⟩;refine ⟨none,_,by have:=run_endLoop (P:=P) hl (by rw [hrec];simp);rw [hrec] at this;exact this,?_⟩;exact hd D _ (by omega) (hO _ W2 _ (D+1) _ hl rfl eK (by omega) hi) ((World.putObj_heap_other (by omega)).trans hdf)
def yq (P:Program) (fn:Func) (R:Ending→World→Prop):Exit→Act→World→Prop
 | .normal,a,w | .ret,a,w=>LeavesInM Fence.wide 2 P fn a.tmps R a.defers .returning w
 |_,_,_=>False
theorem xz {P:Program} {fn:Func} {R:Ending→World→Prop}:PQ (yq P fn R):=⟨fun _ _ _ _ _ h=>h⟩
theorem Gf {P:Program} {f:FuncId} {fn:Func} {c:Code} {l:List Value} {w:World} {R:Value→World→Prop} {n:Nat} (hf:P.funcs[f]? =some fn) (hb:fn.body=some c) (hn:fn.ntmps=n) (hl:Nat.ble l.length n=true)
 (h:Cd P c (yq P fn fun e w'=>∃ v,e=.returned v∧R v w') ⟨n,[]⟩ (tw 0 l) w):Rt P f l w R:=by
 refine (callsIn_wide (n:=2)).1 (callsIn_of_wp_marks hf hb trivial (wpIn_wide.2 ?_));rw [hn,yx n l (Nat.le_of_ble_eq_true hl)]
 exact wp_mono h.out fun e a w q=>by
  cases e <;> first | exact q | exact q.elim
theorem LF {P:Program} {fn:Func} {m D:Nat} {L:List (Nat×Value)} {w:World} {t:Nat} {R:Value→World→Prop} {v:Value} (hr:fn.results=#[.tmp t]) (hv:ev ⟨m,[{ target:=.collected D,args:=#[] }]⟩ L (.tmp t)=v) (hD:w.heap[D]? =some (.deferred (some []))) (h:∀ w',de D w w'→R v w') :
 yq P fn (fun e w'=>∃ v,e=.returned v∧R v w') .ret (mkA ⟨m,[{ target:=.collected D,args:=#[] }]⟩ L) w:=by
 refine ⟨by simp,.inl ⟨D,_,rfl,run_takeDeferred hD,?_⟩⟩;refine ⟨_,results_tmp hr _ _ _,v,?_,h _ eK⟩;rw [←hv];exact congrArg Ending.returned (iK m L t)
end Go.Proofs.YtcbakncjacnnjaaGreat
namespace Go.Proofs.YtcbakncjacnnjaaGreat
open Go.Proofs.Tryz (prog)
open Go.RowKit Go.Shelf
attribute [local go_sem] Oper.semAt_some
def GU (Bs b o m c:Nat) (f:Nat→Int) (W:World):Prop:=W.cell? ⟨Bs,0,none⟩=some (.slice (some ⟨b,o,none⟩) m c)∧∀ j,j<m→W.cell? ⟨b,o+j,none⟩=some (.int .i32 (f j))
theorem Du (Bs b o m c:Nat) (f:Nat→Int) (hm:m≤1000000) :
 GS prog 204 #[.pointer (some ⟨Bs,0,none⟩)] (fun k=>.int .i64 ((m-1-k:Nat):Int)) (fun k=>.int .i32 (f (m-1-k))) m (GU Bs b o m c f):=by
 refine ⟨fun l J W hRd hY h0=>?_⟩;refine callsIn_of_wp Tryz.func204 rfl trivial ?_ rfl;simp only [Tryz.ntmps204,List.size_toArray,List.length_cons,List.length_nil,Nat.reduceAdd,Nat.reduceSub,Array.replicate_succ,Array.replicate_zero,List.push_toArray,List.append_toArray,List.nil_append,List.cons_append];have hBs:=(hRd 0 W h0).1
 gi_wp2
 gi_loopw [3] (fun i wr=>∃ k:Nat,k≤m∧i=.int .i64 ((m:Int)-1-k)∧J k wr) (fun i _=>(intOf i+1).toNat)
 case atStart=>exact ⟨0,Nat.zero_le _,by simp,h0⟩
 case round=>
  obtain ⟨k,hk,rfl,hJ⟩:=hrel;by_cases hlt:k<m
  ·obtain ⟨i,e1,e2,him⟩:∃ i:Nat,((m:Int)-1-k)=(i:Int)∧m-1-k=i∧i<m:=⟨m-1-k,by omega,rfl,by omega⟩;have hy:=hY k wr hlt hJ;simp only [e2] at hy;obtain ⟨fn,tmps,assign,body,hy,hR⟩:=hy;have hBk:=(hRd k wr hJ).1;have hck:=(hRd k wr hJ).2 i him;clear e2;rw [e1]
   gi_wp2
   refine hR.mono ?_;rintro e W3 ⟨rfl,hJ3⟩
   gi_wp2
   go_roundw
   case rel=>exact ⟨k+1,by omega,by congr 1;omega,hJ3⟩
   case measure=>simp [intOf]
  ·obtain rfl:k=m:=by omega
   have e1:((k:Int)-1-k)=-1:=by omega
   rw [e1]
   gi_wp2
   go_end0
   exact ⟨⟨_,rfl⟩,hJ⟩
end Go.Proofs.YtcbakncjacnnjaaGreat
namespace Go.Proofs.YtcbakncjacnnjaaGreat
open Go.Proofs.Tryz (prog)
open Go.RowKit
open Go.ChangeShapes Go.WideShapes Go.ChangeAt
open Go.Proofs.YtcbakncjacnnjaaGreat.SA
theorem VJ.aside {W W':World} {g K q:Nat} {f:Nat→Int} {o:Obj} (h:VJ W g K f) (hq:W.heap[q]? =some o) (ho:o.isCells=false) (hO:de q W W'):VJ W' g K f:=by
 obtain ⟨cur,h1,h2⟩:=h;exact ⟨cur,h1.only hO (bR h1 hq ho),h2⟩
theorem VJ.ne {W:World} {g K g2 t:Nat} {f:Nat→Int} {cs:Array Value} (h:VJ W g K f) (hb:Blk W g2 t cs) (ht:t≠21):g2≠g:=by
 obtain ⟨cur,h1,_⟩:=h;exact gP hb h1 ht
theorem VJ.copied {W:World} {g K:Nat} {f:Nat→Int} {cur:List Value} (h:Blk W g 21 (dG cur 0 ((List.range K).map fun i=>jV (f i))).toArray) (_:K≤cur.length):VJ W g K f:=by
 refine ⟨_,h,by rw [List.size_toArray];unfold dG;simp,fun i hi=>?_⟩;rw [List.getElem?_toArray];unfold dG;simp [List.getElem?_append,hi]
structure Cst (w:World) (b b2 b5 b7 g5 g7 n K c7:Nat) (W:World):Prop where
 h2:Blk W b2 201 #[.pointer (some ⟨b,0,none⟩)]
 h5:Blk W b5 137 #[.slice (some ⟨g5,0,none⟩) n n]
 h7:Blk W b7 137 #[.slice (some ⟨g7,0,none⟩) K c7]
 lo:w.heap.size≤g5∧g5<g7
 hF:aj w W
section
variable {w W W':World} {b b2 b5 b7 g5 g7 n K c7 q:Nat}
theorem Cst.from_ (h:Cst w b b2 b5 b7 g5 g7 n K c7 W) (hF:aj W W'):Cst w b b2 b5 b7 g5 g7 n K c7 W':=⟨h.h2.from_ hF,h.h5.from_ hF,h.h7.from_ hF,h.lo,h.hF.next hF⟩
theorem Cst.only {m:Nat} {f:Nat→Int} (h:Cst w b b2 b5 b7 g5 g7 n K c7 W) (hv:VJ W q m f) (hO:de q W W') (hq:w.heap.size≤q):Cst w b b2 b5 b7 g5 g7 n K c7 W':=
 ⟨h.h2.only hO (hv.ne h.h2 (by decide)),h.h5.only hO (hv.ne h.h5 (by decide)),h.h7.only hO (hv.ne h.h7 (by decide)),h.lo,h.hF.only hO hq⟩
theorem Cst.aside {o:Obj} (h:Cst w b b2 b5 b7 g5 g7 n K c7 W) (hq:W.heap[q]? =some o) (ho:o.isCells=false) (hO:de q W W') (hw:w.heap.size≤q):Cst w b b2 b5 b7 g5 g7 n K c7 W':=
 ⟨h.h2.only hO (bR h.h2 hq ho),h.h5.only hO (bR h.h5 hq ho),h.h7.only hO (bR h.h7 hq ho),h.lo,h.hF.only hO hw⟩
end
theorem Fx {P:Program} {ops:Array Oper} {fr:Fr} {L:List (Nat×Value)} {w:World} {ty:TypeId} {pos:String} {after:Array Edge} {dst:Option Nat} {x s:Operand} {post:Value→World→Prop} {dT sT e size g o m c j c2:Nat} {A A2:Option Addr} {u:TypeId} {cur news:List Value} (ht:dh P dT=some (e,size)) (hd:ev fr L x=.slice A m c) (hs:ev fr L s=.slice A2 j c2) (hn:news.length=min j m*size)
 (hA:0<news.length→A=some ⟨g,o,none⟩) (hsrc:0<news.length→∃ b o,A2=some ⟨b,o,none⟩∧w.rangeAt b o news) (hb:Blk w g u cur.toArray) (hfit:o+news.length≤cur.length) (h1:∀ v∈news,v.oneCell'=true)
 (k:∀ w',de g w w'→Blk w' g u (dG cur o news).toArray→post (.int .i64 (min j m:Nat)) w') :
 mJ P ops fr L ⟨dst,.call { callee:=.builtin .copy,args:=#[x,s],argTypes:=#[dT,sT] },ty,pos,after,none⟩ w post:=
 let ⟨w',hr,ho,hb'⟩:=sv (sT:=sT) ht hd hs hn hA hsrc hb hfit h1
 I_ hr (k w' ho hb')
section
variable {n:Nat} {t idx:Nat→Nat}
theorem C2 (h:Txt n t) (ho:Ord n t idx) {r i:Nat} {xs hs:Nat→Int} (hI:pJ n t idx r xs hs) (hr:r<n) (hx:xs r=((i+1:Nat):Int)) (hb:rb n t i=false) :
 hs (t i)=(pos n t idx i:Nat)∧pJ n t idx (r+1) (upd xs (pos n t idx i) i) (upd hs (t i) ((pos n t idx i+1:Nat):Int))∧i<n∧pos n t idx i<n:=by
 rcases vF h hI hr with ⟨j,hj,hp,e⟩ | ⟨e,_⟩
 ·obtain rfl:j=i+1:=by omega
  have hi:i<n:=by have:=hj.1;omega
  obtain ⟨a,b⟩:=FP h ho hI hi (sx.1 hb) hp;refine ⟨a,?_,hi,ko hi⟩;rw [a] at b;exact b
 ·omega
theorem BG (h:Txt n t) (ho:Ord n t idx) {r:Nat} {xs hs:Nat→Int} (hI:pJ n t idx r xs hs) (hr:r<n) (hx:∀ i:Nat,xs r=((i+1:Nat):Int)→rb n t i=true):pJ n t idx (r+1) xs hs:=by
 refine C3 hI fun i hi hf hp=>?_
 rcases vF h hI hr with ⟨j,hj,hp2,e⟩ | ⟨_,hno⟩
 ·obtain rfl:=vw h ho hj (fa h hi hf) (by rw [hp2,hp]);exact hf (mP.1 (hx i e))
 ·exact hno _ (fa h hi hf) hp
theorem Ir (h:Txt n t) {r:Nat} {xs hs:Nat→Int} (hI:pJ n t idx r xs hs) (hr:r<n):-1≤xs r∧xs r<n:=by
 rcases vF h hI hr with ⟨j,hj,_,e⟩ | ⟨e,_⟩
 ·have:=hj.1;omega
 ·omega
theorem C0 (h:Txt n t) (ho:Ord n t idx) {r i:Nat} {xs ts:Nat→Int} (hI:pI n t idx (r+1) xs ts) (hr:r<n) (hx:xs r=((i+1:Nat):Int)) (hb:rb n t i=true) :
 ts (t i)-1=(pos n t idx i:Nat)∧pI n t idx r (upd xs (pos n t idx i) i) (upd ts (t i) ((pos n t idx i:Nat):Int))∧i<n∧pos n t idx i<n:=by
 obtain ⟨j,hj,hp,e⟩:=vE h ho hI hr;obtain rfl:j=i+1:=by omega
 obtain ⟨a,b⟩:=FN h ho hI hj (mP.1 hb) hp;refine ⟨a,?_,by omega,ko (by omega)⟩;rw [a] at b;exact b
theorem BF (h:Txt n t) (ho:Ord n t idx) {r:Nat} {xs ts:Nat→Int} (hI:pI n t idx (r+1) xs ts) (hr:r<n) (hx:∀ i:Nat,xs r=((i+1:Nat):Int)→rb n t i=false):pI n t idx r xs ts:=by
 refine C1 hI fun i hi hz hp=>?_
 obtain ⟨j,hj,hp2,e⟩:=vE h ho hI hr;obtain rfl:=jR h ho hj hi (by rw [hp2,hp]);exact sx.1 (hx i e) hz
theorem Iq (h:Txt n t) (ho:Ord n t idx) {r:Nat} {xs ts:Nat→Int} (hI:pI n t idx (r+1) xs ts) (hr:r<n):0≤xs r∧xs r<n:=by
 obtain ⟨j,hj,_,e⟩:=vE h ho hI hr;omega
theorem C4 (h:Txt n t) (ho:Ord n t idx) {q s:Nat} {xs ts:Nat→Int} (hI:AM n t idx (q+1) xs ts) (hs:lms n t s) (hq:idx s=q) :
 ts (t s)-1=(kp n t idx s:Nat)∧AM n t idx q (upd xs (kp n t idx s) s) (upd ts (t s) ((kp n t idx s:Nat):Int)):=by
 obtain ⟨a,b⟩:=FQ h ho hI hs hq;refine ⟨a,?_⟩;rw [a] at b;exact b
end
theorem yu (A:Option Addr) (m c:Nat) (w:World) :
 Rt prog 186 [.slice A m c] w (fun v w'=>(∃ Bs,v=.func (.func 204) #[] #[.pointer (some ⟨Bs,0,none⟩)]∧w.heap.size≤Bs∧Blk w' Bs 137 #[.slice A m c])∧aj w w'):=by
 refine enter (n:=4) Tryz.func186 rfl rfl rfl (ag (aa (cW (v:=.slice _ _ _) rfl ?_)));intro b1 w1 E1 hb1 hk1;refine ae (bQ (v:=_) rfl) (ah (ab (ag (aa (ae (iu (l1:=[]) (l2:=[.tmp 1])) (ae (bQ (v:=_) rfl) (ah (ab (ay (bE (v:=.func _ _ _) rfl rfl (⟨⟨b1,rfl,Nat.le_of_eq hb1.symm,hk1⟩,(aj.rfl_.next E1)⟩)))))))))))
end Go.Proofs.YtcbakncjacnnjaaGreat
namespace Go.Proofs.YtcbakncjacnnjaaGreat
open Go.Proofs.Tryz (prog)
open Go.RowKit
open Go.ChangeShapes Go.WideShapes Go.ChangeAt
open Go.Proofs.YtcbakncjacnnjaaGreat.SA
theorem cS:fz prog 201=some false:=by kernel_rfl
theorem db:cQ prog 229 0=some 0:=by kernel_rfl
theorem nq:mz prog 137=some (.slice none 0 0):=by kernel_rfl
theorem tH:aH prog 185=true:=by kernel_rfl
theorem tG:aH prog 186=true:=by kernel_rfl
theorem tF:aH prog 187=true:=by kernel_rfl
theorem cR (b n K m0:Nat) (t ss:Nat→Nat) (w:World) (hT:jq w b n K t m0 ss) (h2n:2≤n) (ht:Txt n t) (hkt:∀ i,i<n→t i<K) (hn:n≤200000) (hK:K≤200000) (bo oo m co:Nat) (od idx:Nat→Nat) (hod:∀ q,q<m→w.cell? ⟨bo,oo+q,none⟩=some (.int .i32 ((od q:Nat):Int))) (hos:∀ q,q<m→lms n t (od q)∧idx (od q)=q) (hall:∀ s,lms n t s→idx s<m) (hord:Ord n t idx) (hm:m≤200000) :
 Rt prog 165 [.pointer (some ⟨b,0,none⟩),.slice (some ⟨bo,oo,none⟩) m co] w (fun v w'=>(∃ g xs,v=.slice (some ⟨g,0,none⟩) n n∧w.heap.size≤g∧VJ w' g n xs∧∀ i,i<n→xs (pos n t idx i)=i)∧aj w w'):=by
 have hT0:=hT;obtain ⟨gl,gr,AS,cs,ge,hb,hl,hr,hss,he⟩:=hT;have hK0:0<K:=Nat.lt_of_le_of_lt (Nat.zero_le _) (hkt 0 (by omega));refine Gf (n:=169) Tryz.func165 rfl rfl rfl (ag (aa (cW (v:=.pointer _) rfl ?_)));intro b2 w1 E2 hb2 hk2;refine ass rfl (ah (ab (ag (aa (ae (aq cS rfl (by exact (hk2.from_ aj.rfl_).rd 0 rfl)) ?_)))));refine ae (aw rfl) (ae (ak db rfl) (ae (aq a_ rfl (by exact br (aj.rfl_.next E2) (hb.rd 0 rfl))) ?_));refine ae (aS cK rfl) (gV fo rfl rfl rfl (by omega) (by omega) ?_);intro b20 w2 E20 hb20 hk20;have hg20:w.heap.size≤b20:=by rw [hb20];exact ((aj.rfl_.next E2)).size
 refine dN nq ?_;intro b5 w3 E5 hb5 hk5;refine bZ (v:=.slice _ _ _) j4 rfl rfl rfl (hk5) (by show 0<1;decide) ?_;intro w4 O1 P1;have hx1:VJ w4 b20 n (fun _=>0):=(VJ.of_blk (by rw [←jd];exact hk20.from_ E5)).only O1 (by have:=hk20.lt;omega);have h2_1:=((hk2.from_ E20).from_ E5).only O1 (by have:=(hk2.from_ E20).lt;omega);refine ah (ab (ag (ag (aa (ae (aq a_ rfl (by exact (P1).rd 0 rfl)) ?_)))));refine ae (aS cK rfl) (mvi rfl (ah (ab (az (bg (G:=Nat×(Nat→Int)) [6,24,25,26,27,28,29] (fun (k,_)=>[(23,.int .i64 (k:Nat))]) (fun (k,xs) w'=>k≤n∧(∀ i,i<k→xs i=-1)∧VJ w' b20 n xs∧Blk w' b2 201 #[.pointer (some ⟨b,0,none⟩)]∧Blk w' b5 137 #[.slice (some ⟨b20,0,none⟩) n n]∧aj w w') (fun (k,_)=>n-k) ((0,fun _=>0)) ⟨rfl,trivial⟩ ?_ ?_)))))
 ·exact ⟨Nat.zero_le _,fun i h=>absurd h (by omega),hx1,h2_1,P1,((((aj.rfl_.next E2).next E20).next E5).only O1 ((by rw [hb5];exact Nat.le_trans (Nat.le_trans hg20 (Nat.le_of_lt hk20.lt)) (Nat.le_refl _))))⟩
 rintro ⟨k,xs⟩ ρ5 w5 ⟨hk,hx0,hxs,h2b,h5b,hB⟩;refine ag (aa (ae (aX rfl rfl) (ah (ab (ag (Li rfl (fun Q6=>?_) (fun Q6=>?_)))))))
 ·have hkn:k<n:=by omega
  obtain ⟨cu,hcu,hsz,hce⟩:=id hxs;refine au (ab (ag (az (ag (aa (mvi rfl (asi rfl (ah (ab (aa (ae (aq a_ rfl (by exact h5b.rd 0 rfl)) ?_)))))))))));refine mvi rfl (ae (aL aP rfl rfl (by omega)) (bZ (v:=.int _ _) df rfl rfl rfl (hcu) (by omega) ?_));intro w7 O5 P5;have hxs5:=VJ.put P5 hsz hce hkn;have h2_5:=h2b.only O5 (hxs.ne h2b (by decide));have h5_5:=h5b.only O5 (hxs.ne h5b (by decide));refine ah (aN (ab (aa (ae (aJ (b:=1) rfl rfl (by omega)) (mvi rfl (ah ?_))))));refine aR ((k+1,upd xs k (-1))) ⟨(by first | rfl | (refine aM ?_;omega)),trivial⟩ (by (iterate 16 refine aF rfl ?_);exact aK) ⟨?_,?_⟩
  ·refine ⟨by omega,fun i hi=>?_,hxs5,h2_5,h5_5,(hB.only O5 (hg20))⟩;unfold upd;split
   ·rfl
   ·exact hx0 i (by omega)
  ·show n-(k+1)<n-k;omega
 refine aZ (aD (aD (aU (ab (ag (aa (ae (aq cS rfl (by exact (h2b.from_ aj.rfl_).rd 0 rfl)) ?_)))))));refine ae (aw rfl) (ae (ak fg rfl) (ae (aq a_ rfl (by exact br hB (hb.rd 4 rfl))) ?_));refine aA tH (Gz ge K _ _ (he.from_ hB) hK0 (by omega)) ?_;rintro v34 w8 ⟨⟨g34,c34,rfl,hg34,htl⟩,E34⟩;refine dN nq ?_;intro b7 w9 E7 hb7 hk7;refine bZ (v:=.slice _ _ _) j4 rfl rfl rfl (hk7) (by show 0<1;decide) ?_;intro w10 O7 P7;obtain rfl:n=k:=by omega
 have hxk:VJ _ b20 n (fun _=>-1):=VJ.congr hxs fun i hi=>hx0 i hi
 have hxa:=(hxk.from_ E34).from_ E7;have hta:=htl.from_ E7;have hx7:=hxa.only O7 (Ne.symm (hxa.ne hk7 (by decide)));have ht7:=hta.only O7 (Ne.symm (hta.ne hk7 (by decide)));have h2_7:=((h2b.from_ E34).from_ E7).only O7 (gP ((h2b.from_ E34).from_ E7) hk7 (by decide));have h5_7:=((h5b.from_ E34).from_ E7).only O7 (by have:=(h5b.from_ E34).lt;omega);have hg34b:b20<g34:=Nat.lt_of_lt_of_le hxs.lt hg34;refine ah (ab (ag (ag (aa (mvs rfl (aA tG (yu _ _ _ _) ?_))))));rintro v36 w11 ⟨⟨Bs,rfl,hgs,hbs⟩,E36⟩;have hB36:aj w w11:=((((hB.next E34).next E7).only O7 ((by rw [hb7];exact Nat.le_trans hB.size E34.size))).next E36);refine ah (ab (az ?_));apply Ds (u:=fun k=>.int .i64 ((m-1-k:Nat):Int)) (v:=fun k=>.int .i32 ((od (m-1-k):Nat):Int)) (N:=m) (Rd:=GU Bs bo oo m co (fun q=>((od q:Nat):Int))) rfl (enters_of Tryz.func204 (by kernel_rfl) rfl) (Du Bs bo oo m co (fun q=>((od q:Nat):Int)) (by omega)) (fun k W=>∃ xs ts,AM n t idx (m-k) xs ts∧VJ W b20 n xs∧VJ W g34 K ts∧Cst w b b2 b5 b7 b20 g34 n K c34 W∧Blk W Bs 137 #[.slice (some ⟨bo,oo,none⟩) m co])
 case ha=>
  intro l k W K hK;refine nL rfl (fun ⟨_,_,h⟩=>h) ?_;refine ae (bQ (v:=_) rfl) (ah hK)
 case hRd=>
  rintro k W ⟨xs,ts,hi1,hxs,hts,hc,hbs⟩;exact ⟨hbs.rd 0 rfl,fun j hj=>br hc.hF (hod j hj)⟩
 case hF=>
  rintro k W W' ⟨xs,ts,hi1,hxs,hts,hc,hbs⟩ hF;exact ⟨xs,ts,hi1,hxs.from_ hF,hts.from_ hF,hc.from_ hF,hbs.from_ hF⟩
 case hO=>
  rintro k W W' q o hq ho hO hwq ⟨xs,ts,hi1,hxs,hts,hc,hbs⟩;exact ⟨xs,ts,hi1,hxs.aside hq ho hO,hts.aside hq ho hO,hc.aside hq ho hO (Nat.le_trans (((((hB.next E34).next E7).only O7 ((by rw [hb7];exact Nat.le_trans hB.size E34.size))).next E36)).size hwq),hbs.only hO (bR hbs hq ho)⟩
 case h0=>
  exact ⟨_,_,zA (q:=m) hall,hx7.from_ E36,ht7.from_ E36,⟨h2_7.from_ E36,h5_7.from_ E36,P7.from_ E36,⟨hg20,hg34b⟩,((((hB.next E34).next E7).only O7 ((by rw [hb7];exact Nat.le_trans hB.size E34.size))).next E36)⟩,hbs⟩
 case hb=>
  intro l k WB hkN hI;obtain ⟨xs,ts,hi1,hxs,hts,hc,hbs⟩:=hI;obtain ⟨q,hq,hq2⟩:∃ q,m-k=q+1∧m-1-k=q:=⟨m-1-k,by omega,rfl⟩;rw [hq] at hi1;rw [hq2];obtain ⟨hls,hiq⟩:=hos q (by omega);obtain ⟨hts1,hi2⟩:=C4 ht hord hi1 hls hiq;have hp1:=Br (idx:=idx) hls;have hsn:=hls.2.1;have hcs:=hkt _ hsn;obtain ⟨s,hs⟩:∃ s,s=od q:=⟨_,rfl⟩;rw [←hs] at hls hiq hts1 hi2 hp1 hsn hcs ⊢;have hlo:=hc.lo;refine ym (vU ?_);apply yl 12 [(39,eqp _),(40,eqp _),(41,eqp _),(42,eqp _),(43,eqp _),(44,eqp _),(45,eqp _),(46,eqp _),(47,eqp _),(48,eqp _),(49,eqp _),(50,eqp _)] (by kernel_rfl) (by kernel_rfl) ⟨af _,af _,af _,af _,af _,af _,af _,af _,af _,af _,af _,af _,trivial⟩ (by kernel_rfl) (fun ⟨_,_,h⟩=>h)
  case hop=>
   constructor
   ·intro w13 D13;exact ai (aq a_ rfl (by exact (hc.h7.from_ (aj.rfl_.next D13)).rd 0 rfl)) rfl
   constructor
   ·intro w14 D14;exact ai (aq cS rfl (by exact (hc.h2.from_ (aj.rfl_.next D14)).rd 0 rfl)) rfl
   constructor
   ·intro w15 D15;rintro _ rfl;exact ai (aw rfl) rfl
   constructor
   ·intro w16 D16;rintro _ rfl;exact ai (ak db rfl) rfl
   constructor
   ·intro w17 D17;rintro _ rfl;exact ai (aq a_ rfl (by exact br (hc.hF.next D17) (hb.rd 0 rfl))) rfl
   constructor
   ·intro w18 D18;exact ai (ar (v:=.int _ _) rfl) rfl
   constructor
   ·intro w19 D19;rintro _ rfl _ rfl;exact ai (aL aP rfl rfl (by exact hsn)) rfl
   constructor
   ·intro w20 D20;rintro _ rfl;exact ai (aq bm rfl (by exact (hl.from_ (hc.hF.next D20)).rdN hsn)) rfl
   constructor
   ·intro w21 D21;rintro _ rfl _ rfl;exact ai (aL aP rfl rfl (by exact hcs)) rfl
   constructor
   ·intro w22 D22;rintro _ rfl;exact ai (aq bm rfl (by exact (hts.from_ (aj.rfl_.next D22)).rd hcs)) rfl
   constructor
   ·intro w23 D23;rintro _ rfl;exact ai (lz (r:=((kp n t idx s:Nat):Int)) rfl rfl hts1 (by omega)) rfl
   constructor
   ·intro w24 D24;rintro _ rfl _ rfl;exact ai (aL aP rfl rfl (by exact hcs)) rfl
   exact trivial
  case hend=>
   intro w25 D25;rintro _ rfl _ rfl _ rfl _ rfl _ rfl _ rfl _ rfl _ rfl _ rfl _ rfl _ rfl _ rfl;show St ..;have hxsD:=hxs.from_ D25;have htsD:=hts.from_ D25;have hcD:=hc.from_ D25;have hbsD:=hbs.from_ D25;obtain ⟨ct,hbk10,hst,hct⟩:=hts.from_ D25;have hkD:dx WB _:=dx.from_ D25;refine bZ (v:=.int _ _) df rfl rfl rfl (hbk10) (by omega) ?_;intro w26 O10 P10;have hts10:=VJ.put P10 hst hct hcs;have hxs10:=hxsD.only O10 (by omega);have hc10:=hcD.only htsD O10 (by omega);have hbs10:=hbsD.only O10 (htsD.ne hbsD (by decide));have hk10:=hkD.trans (dx.only O10 hbk10);have hcell10:(w26).cell? ⟨g34,t s,none⟩=some (.int .i32 ((kp n t idx s:Nat):Int)):=by rw [hts10.rd hcs,fi]
   refine ah (rK ?_);apply yl 13 [(51,eqp _),(52,eqp _),(53,eqp _),(54,eqp _),(55,eqp _),(56,eqp _),(57,eqp _),(58,eqp _),(59,eqp _),(60,eqp _),(61,eqp _),(62,eqp _),(63,eqp _)] (by kernel_rfl) (by kernel_rfl) ⟨af _,af _,af _,af _,af _,af _,af _,af _,af _,af _,af _,af _,af _,trivial⟩ (by kernel_rfl) (fun ⟨_,_,h⟩=>h)
   case hop=>
    constructor
    ·intro w28 D28;exact ai (aq a_ rfl (by exact (hc10.h5.from_ (aj.rfl_.next D28)).rd 0 rfl)) rfl
    constructor
    ·intro w29 D29;exact ai (aq a_ rfl (by exact (hc10.h7.from_ (aj.rfl_.next D29)).rd 0 rfl)) rfl
    constructor
    ·intro w30 D30;exact ai (aq cS rfl (by exact (hc10.h2.from_ (aj.rfl_.next D30)).rd 0 rfl)) rfl
    constructor
    ·intro w31 D31;rintro _ rfl;exact ai (aw rfl) rfl
    constructor
    ·intro w32 D32;rintro _ rfl;exact ai (ak db rfl) rfl
    constructor
    ·intro w33 D33;rintro _ rfl;exact ai (aq a_ rfl (by exact br (((hc.hF.next D25).only O10 ((by omega))).next D33) (hb.rd 0 rfl))) rfl
    constructor
    ·intro w34 D34;exact ai (ar (v:=.int _ _) rfl) rfl
    constructor
    ·intro w35 D35;rintro _ rfl _ rfl;exact ai (aL aP rfl rfl (by exact hsn)) rfl
    constructor
    ·intro w36 D36;rintro _ rfl;exact ai (aq bm rfl (by exact (hl.from_ (((hc.hF.next D25).only O10 ((by omega))).next D36)).rdN hsn)) rfl
    constructor
    ·intro w37 D37;rintro _ rfl _ rfl;exact ai (aL aP rfl rfl (by exact hcs)) rfl
    constructor
    ·intro w38 D38;rintro _ rfl;exact ai (aq bm rfl (by exact br (aj.rfl_.next D38) hcell10)) rfl
    constructor
    ·intro w39 D39;exact ai (ar (v:=.int _ _) rfl) rfl
    constructor
    ·intro w40 D40;rintro _ rfl _ rfl;exact ai (aL aP rfl rfl (by exact hp1)) rfl
    exact trivial
   case hend=>
    intro w41 D41;rintro _ rfl _ rfl _ rfl _ rfl _ rfl _ rfl _ rfl _ rfl _ rfl _ rfl _ rfl _ rfl _ rfl;show St ..;have hxsE:=hxs10.from_ D41;have htsE:=hts10.from_ D41;have hcE:=hc10.from_ D41;have hbsE:=hbs10.from_ D41;obtain ⟨cr,hbk11,hsr,hcr⟩:=hxs10.from_ D41;have hkE:=hk10.trans (dx.from_ D41);refine bZ (v:=.int _ _) df rfl rfl rfl (hbk11) (by omega) ?_;intro w42 O11 P11;have hxs11:=VJ.put P11 hsr hcr hp1;have hts11:=htsE.only O11 (by omega);have hc11:=hcE.only hxsE O11 (by omega);have hbs11:=hbsE.only O11 (hxsE.ne hbsE (by decide));have hk11:=hkE.trans (dx.only O11 hbk11);refine ah (aN ?_);exact ⟨⟨_,_,by rw [show m-(k+1)=q by omega];exact hi2,hxs11,hts11,hc11,hbs11⟩,hk11⟩
 case hd=>
  intro D WD hD hI hK;obtain ⟨xs,ts,hi1,hxs,hts,hc,hbs⟩:=hI;rw [Nat.sub_self] at hi1;have hi2s:=zz hi1;have hDw:w.heap.size≤D:=Nat.le_trans hB36.size hD;have hlo:=hc.lo;refine aN (ab (ag (aa (ae (aq cS rfl (by exact (hc.h2.from_ aj.rfl_).rd 0 rfl)) ?_))));refine aA tF (FW b n K m0 t ss _ (hT0.from_ hc.hF) hK0 (by omega)) ?_;rintro v65 w43 ⟨⟨g65,c65,rfl,hg65,hhd⟩,E65⟩;have hd1:b20<g65:=Nat.lt_of_lt_of_le hxs.lt hg65;have hd2:g34<g65:=Nat.lt_of_lt_of_le hts.lt hg65;refine ass rfl (ah (ab (ag (ag (aa (ae (aq a_ rfl (by exact ((hc.from_ E65).h5).rd 0 rfl)) ?_))))));refine ae (aS cK rfl) (mvi rfl (ah (ab (az (bg (G:=Nat×(Nat→Int)×(Nat→Int)) [11,12,69,70,71,72,73,74,75,76,77,78,79,80,81,82,83,84,85,86,87,88,89,90,91,92,93,94,95,96,97,98,99,100,101,102,103,104,105,106,107,108,109,110,111,112,113] (fun (r,_,_)=>[(68,.int .i64 (r:Nat))]) (fun (r,xs,hs) w'=>r≤n∧pJ n t idx r xs hs∧VJ w' b20 n xs∧VJ w' g65 K hs∧VJ w' g34 K ts∧Cst w b b2 b5 b7 b20 g34 n K c34 w'∧w'.heap[D]? =some (.deferred (some []))) (fun (r,_,_)=>n-r) ((0,xs,fun c=>((less n t c:Nat):Int))) ⟨rfl,trivial⟩ ?_ ?_)))))
  ·exact ⟨Nat.zero_le _,hi2s,hxs.from_ E65,hhd,hts.from_ E65,hc.from_ E65,dx.from_ E65 _ _ hK rfl⟩
  rintro ⟨r,xs,hs⟩ ρ44 w44 ⟨hr0,hi2,hxs,hhd,hts,hc,hdD⟩;refine ag (aa (ae (aX rfl rfl) (ah (ab (ag (Li rfl (fun Q45=>?_) (fun Q45=>?_)))))))
  ·have hrn:r<n:=by omega
   have hx1:=Ir ht hi2 hrn;refine au (ab (ff (G:=(Nat→Int)×(Nat→Int)) [11,12,70,71,72,73,74,75,76,77,78,79,80,81,82,83,84,85,86,87,88,89,90,91,92,93,94,95,96,97,98,99,100,101,102,103,104,105,106,107,108,109,110,111,112] (fun (_,_)=>[]) (fun (xs,hs) w'=>pJ n t idx (r+1) xs hs∧VJ w' b20 n xs∧VJ w' g65 K hs∧VJ w' g34 K ts∧Cst w b b2 b5 b7 b20 g34 n K c34 w'∧w'.heap[D]? =some (.deferred (some []))) ?_ ?_))
   ·refine az (ag (aa (mvi rfl (asi rfl (ah (ab (ag (aa (ae (aq a_ rfl (by exact (hc.h5.from_ aj.rfl_).rd 0 rfl)) ?_)))))))));refine mvi rfl (ae (aL aP rfl rfl (by exact hrn)) ?_);refine ae (aq bm rfl (by exact (hxs.from_ aj.rfl_).rd hrn)) ?_;refine ae (lz (r:=xs r-1) rfl rfl rfl (by omega)) (asi rfl (ah (ab (ag (aa (mvi rfl (ae (ek rfl rfl) (mvb rfl (KL (t:=78) rfl (fun Q46=>?_) (fun Q46=>?_))))))))))
    ·obtain ⟨i,hi⟩:∃ i:Nat,xs r=((i+1:Nat):Int):=⟨(xs r-1).toNat,by omega⟩;have e12:(Value.int .i32 (xs r-1))=.int .i32 ((i:Nat):Int):=aM (by omega);rw [e12];have hin:i<n:=by omega
     refine an rfl (ae (aq cS rfl (by exact (hc.h2.from_ aj.rfl_).rd 0 rfl)) ?_);refine an rfl (ae (aw rfl) (an rfl (ae (ak dS rfl) (an rfl (ae (aq eI rfl (by exact br hc.hF (hb.rd 2 rfl))) ?_)))));refine an rfl (mvi rfl (an rfl (ae (aL dq rfl rfl (by exact hin)) ?_)));refine an rfl (ae (aq gn rfl (by exact (hr.from_ hc.hF).rd i (nz hin))) ?_);refine an rfl (ae (dZ rfl) (ae (bc (v:=.bool _) rfl rfl) (ah (ab (Lg rfl (fun Q47=>?_) (fun Q47=>?_))))))
     ·have hrb:rb n t i=false:=by simpa using Q47
      obtain ⟨he1,hi2n,_,hpn⟩:=C2 ht hord hi2 hrn hi hrb;have hci:=hkt i hin;have hcl:(w44).cell? ⟨g65,t i,none⟩=some (.int .i32 ((pos n t idx i:Nat):Int)):=by rw [hhd.rd hci,he1]
      refine ag ?_;apply en 13 [(88,eqp _),(89,eqp _),(90,eqp _),(91,eqp _),(92,eqp _),(93,eqp _),(94,eqp _),(95,eqp _),(96,eqp _),(97,eqp _),(98,eqp _),(99,eqp _),(100,eqp _)] (by kernel_rfl) (by kernel_rfl) ⟨af _,af _,af _,af _,af _,af _,af _,af _,af _,af _,af _,af _,af _,trivial⟩
      case hop=>
       constructor
       ·intro w49 D49;exact ai (aq a_ rfl (by exact (hc.h5.from_ (aj.rfl_.next D49)).rd 0 rfl)) rfl
       constructor
       ·intro w50 D50;exact ai (ar (v:=.slice _ _ _) rfl) rfl
       constructor
       ·intro w51 D51;exact ai (aq cS rfl (by exact (hc.h2.from_ (aj.rfl_.next D51)).rd 0 rfl)) rfl
       constructor
       ·intro w52 D52;rintro _ rfl;exact ai (aw rfl) rfl
       constructor
       ·intro w53 D53;rintro _ rfl;exact ai (ak db rfl) rfl
       constructor
       ·intro w54 D54;rintro _ rfl;exact ai (aq a_ rfl (by exact br (hc.hF.next D54) (hb.rd 0 rfl))) rfl
       constructor
       ·intro w55 D55;exact ai (ar (v:=.int _ _) rfl) rfl
       constructor
       ·intro w56 D56;rintro _ rfl _ rfl;exact ai (aL aP rfl rfl (by exact hin)) rfl
       constructor
       ·intro w57 D57;rintro _ rfl;exact ai (aq bm rfl (by exact (hl.from_ (hc.hF.next D57)).rdN hin)) rfl
       constructor
       ·intro w58 D58;rintro _ rfl _ rfl;exact ai (aL aP rfl rfl (by exact hci)) rfl
       constructor
       ·intro w59 D59;rintro _ rfl;exact ai (aq bm rfl (by exact br (aj.rfl_.next D59) hcl)) rfl
       constructor
       ·intro w60 D60;exact ai (ar (v:=.int _ _) rfl) rfl
       constructor
       ·intro w61 D61;rintro _ rfl _ rfl;exact ai (aL aP rfl rfl (by exact hpn)) rfl
       exact trivial
      case hend=>
       intro w62 D62;rintro _ rfl _ rfl _ rfl _ rfl _ rfl _ rfl _ rfl _ rfl _ rfl _ rfl _ rfl _ rfl _ rfl;show St ..;have hxsD:=hxs.from_ D62;have htsD:=hts.from_ D62;have hhdD:=hhd.from_ D62;have hcD:=hc.from_ D62;obtain ⟨cr,hbk18,hsr,hcr⟩:=hxs.from_ D62;have hdDD:=dx.from_ D62 _ _ hdD rfl;refine bZ (v:=.int _ _) df rfl rfl rfl (hbk18) (by omega) ?_;intro w63 O18 P18;have hxs18:=VJ.put P18 hsr hcr hpn;have hts18:=htsD.only O18 (by omega);have hhd18:=hhdD.only O18 (by omega);have hc18:=hcD.only hxsD O18 (by omega);have hdD18:=dx.only O18 hbk18 _ _ hdDD rfl;have hcl18:(w63).cell? ⟨g65,t i,none⟩=some (.int .i32 ((pos n t idx i:Nat):Int)):=by rw [hhd18.rd hci,he1]
       obtain ⟨ch,hbk19,hsh,hch⟩:=id hhd18;refine ah (ab (aa (mvs rfl (ae (aq cS rfl (by exact (hc18.h2.from_ aj.rfl_).rd 0 rfl)) ?_))));refine ae (aw rfl) (ae (ak db rfl) (ae (aq a_ rfl (by exact br ((hc.hF.next D62).only O18 ((by omega))) (hb.rd 0 rfl))) ?_));refine mvi rfl (ae (aL aP rfl rfl (by exact hin)) ?_);refine ae (aq bm rfl (by exact (hl.from_ ((hc.hF.next D62).only O18 ((by omega)))).rdN hin)) ?_;refine ae (aL aP rfl rfl (by exact hci)) ?_;refine ae (aq bm rfl (by exact br aj.rfl_ hcl18)) ?_;refine ae (iH (r:=((pos n t idx i+1:Nat):Int)) rfl rfl (by omega) (by omega)) (ae (aL aP rfl rfl (by exact hci)) ?_);refine bZ (v:=.int _ _) df rfl rfl rfl (hbk19) (by omega) ?_;intro w64 O19 P19;have hhd19:=VJ.put P19 hsh hch hci;have hts19:=hts18.only O19 (by omega);have hxs19:=hxs18.only O19 (by omega);have hc19:=hc18.only hhd18 O19 (by omega);have hdD19:=dx.only O19 hbk19 _ _ hdD18 rfl;refine ah (aN ?_);refine aR ((upd xs (pos n t idx i) i,upd hs (t i) ((pos n t idx i+1:Nat):Int))) trivial (by (iterate 46 refine aF rfl ?_);exact aK) ?_;exact ⟨hi2n,hxs19,hhd19,hts19,hc19,hdD19⟩
     have hno:∀ i':Nat,xs r=((i'+1:Nat):Int)→rb n t i'=true:=fun i' h'=>by
      obtain rfl:i'=i:=by omega
      simpa using Q47
     refine au (aN ?_);refine aR ((xs,hs)) trivial (by (iterate 21 refine aF rfl ?_);exact aK) ?_;exact ⟨BG ht hord hi2 hrn hno,hxs.from_ aj.rfl_,hhd.from_ aj.rfl_,hts.from_ aj.rfl_,hc.from_ aj.rfl_,dx.from_ aj.rfl_ _ _ hdD rfl⟩
    have hno:∀ i':Nat,xs r=((i'+1:Nat):Int)→rb n t i'=true:=fun i' h'=>absurd h' (by omega)
    refine aB rfl rfl (aB rfl rfl (aB rfl rfl (aB rfl rfl (aB rfl rfl (aB rfl rfl (aB rfl rfl (aB rfl rfl (ae (aQ (v:=.bool _) rfl rfl) ?_))))))));refine ah (ab (cm rfl (au (aN ?_))));refine aR ((xs,hs)) trivial (by (iterate 21 refine aF rfl ?_);exact aK) ?_;exact ⟨BG ht hord hi2 hrn hno,hxs.from_ aj.rfl_,hhd.from_ aj.rfl_,hts.from_ aj.rfl_,hc.from_ aj.rfl_,dx.from_ aj.rfl_ _ _ hdD rfl⟩
   rintro ⟨xs',hs'⟩ ρ65 w65 ⟨hi2',hxs',hhd',hts',hc',hdD'⟩;refine aa (ae (aJ (b:=1) rfl rfl (by omega)) (mvi rfl (ah ?_)));refine aR ((r+1,xs',hs')) ⟨(by first | rfl | (refine aM ?_;omega)),trivial⟩ (by (iterate 96 refine aF rfl ?_);exact aK) ⟨?_,?_⟩
   ·exact ⟨by omega,hi2',hxs'.from_ aj.rfl_,hhd'.from_ aj.rfl_,hts'.from_ aj.rfl_,hc'.from_ aj.rfl_,dx.from_ aj.rfl_ _ _ hdD' rfl⟩
   ·show n-(r+1)<n-r;omega
  refine aZ (aD (aD (aU (ab (ag ?_)))));apply qE 6 5 [] [(114,eqp _),(115,eqp _),(116,eqp _),(117,eqp _),(118,eqp _),(119,fun _ w'=>VJ w' g34 K (fun c=>((less n t (c+1):Nat):Int)))] (fun w'=>aj w44 w') (fun w'=>VJ w' b20 n xs∧Cst w b b2 b5 b7 b20 g34 n K c34 w'∧w'.heap[D]? =some (.deferred (some []))) (by repeat first | exact xz | refine bS ?_ | refine bG ?_) (by kernel_rfl) (by kernel_rfl) (by kernel_rfl) ⟨af _,af _,af _,af _,af _,(fun _ _ _ hF h=>h.from_ hF),trivial⟩ (aj.rfl_.d1) (⟨hxs.from_ aj.rfl_.d1,hc.from_ aj.rfl_.d1,dx.from_ aj.rfl_.d1 _ _ hdD rfl⟩) (fun _ _ hF h=>h.next hF) (fun _ _ hF h=>⟨h.1.from_ hF,h.2.1.from_ hF,dx.from_ hF _ _ h.2.2 rfl⟩)
  case hop=>
   constructor
   ·rintro-w67 D67;exact ai (aq a_ rfl (by exact (hc.h7.from_ D67).rd 0 rfl)) rfl
   constructor
   ·rintro-w68 ⟨hxs21,hc21,hdD21⟩;exact ai (aq cS rfl (by exact hc21.h2.rd 0 rfl)) rfl
   constructor
   ·rintro-w69 ⟨hxs21,hc21,hdD21⟩;rintro _ rfl;exact ai (aw rfl) rfl
   constructor
   ·rintro-w70 D70;rintro _ rfl;exact ai (ak fg rfl) rfl
   constructor
   ·rintro-w71 D71;rintro _ rfl;exact ai (aq a_ rfl (by exact br (hc.hF.next D71) (hb.rd 4 rfl))) rfl
   constructor
   ·intro h;cases h
   exact trivial
  case hmu=>
   rintro w73 D73;rintro _ rfl _ rfl;show mJ ..;have hlo:=hc.lo;have hxsD:=hxs.from_ D73;have htsD:=hts.from_ D73;have hcD:=hc.from_ D73;obtain ⟨⟨cl⟩,hbk21,hst,hct⟩:=hts.from_ D73;have hdDD:=dx.from_ D73 _ _ hdD rfl;have hstl:K≤cl.length:=hst;refine Fx (sT:=137) (g:=g34) (o:=0) (cur:=cl) (news:=(List.range K).map fun c=>jV (less n t (c+1):Nat)) aP rfl rfl (by simp) (fun _=>rfl) (fun _=>⟨ge,0,rfl,(he.from_ (hc.hF.next D73)).range (Nat.le_refl K)⟩) hbk21 (by simp;omega) (by simp [Value.oneCell']) ?_;intro w3 hO hb3;exact ⟨⟨hxsD.only hO (by omega),hcD.only htsD hO (by omega),dx.only hO hbk21 _ _ hdDD rfl⟩,VJ.copied hb3 hstl,fun t u ht h=>gT (by repeat first | exact trivial | refine ⟨.inl rfl,?_⟩ | refine ⟨.inr (fun _ h=>h),?_⟩) t u ht h⟩
  case hend=>
   rintro w74 ⟨hxs21,hc21,hdD21⟩;rintro _ rfl _ rfl _ rfl _ rfl _ rfl v119 hts21;show St ..;refine ah (ab (ag (ag (aa (ae (aq a_ rfl (by exact (hc21.h5.from_ aj.rfl_).rd 0 rfl)) ?_)))));refine ae (aS cK rfl) (ae (eQ rfl rfl (by omega)) (asi rfl (ah (ab (az (bg (G:=Nat×(Nat→Int)×(Nat→Int)) [14,123,124,125,126,127,128,129,130,131,132,133,134,135,136,137,138,139,140,141,142,143,144,145,146,147,148,149,150,151,152,153,154,155,156,157,158,159,160,161,162,163,164,165,166,167] (fun (r,_,_)=>[(13,.int .i64 ((r:Nat)-1:Int))]) (fun (r,xs,ts) w'=>r≤n∧pI n t idx r xs ts∧VJ w' b20 n xs∧VJ w' g34 K ts∧Cst w b b2 b5 b7 b20 g34 n K c34 w'∧w'.heap[D]? =some (.deferred (some []))) (fun (r,_,_)=>r) ((n,xs,fun c=>((less n t (c+1):Nat):Int))) ⟨rfl,trivial⟩ ?_ ?_))))))
   ·obtain rfl:r=n:=by omega
    exact ⟨Nat.le_refl _,zy ht h2n hi2,hxs21.from_ aj.rfl_,hts21.from_ aj.rfl_,hc21.from_ aj.rfl_,dx.from_ aj.rfl_ _ _ hdD21 rfl⟩
   rintro ⟨r,xs,ts⟩ ρ75 w75 ⟨hr0,hi3,hxs,hts,hc,hdD⟩;refine ag (ag (aa (mvi rfl (ae (ek rfl rfl) (ah (ab (Li rfl (fun Q76=>?_) (fun Q76=>?_))))))))
   ·obtain ⟨r,rfl⟩:∃ r',r=r'+1:=⟨r-1,by omega⟩;have e13:(Value.int .i64 (((r+1:Nat):Int)-1))=.int .i64 ((r:Nat):Int):=aM (by omega);have hrn:r<n:=by omega
    have hx1:=Iq ht hord hi3 hrn;refine au (ab (ff (G:=(Nat→Int)×(Nat→Int)) [14,127,128,129,130,131,132,133,134,135,136,137,138,139,140,141,142,143,144,145,146,147,148,149,150,151,152,153,154,155,156,157,158,159,160,161,162,163,164,165,166,167] (fun (_,_)=>[]) (fun (xs,ts) w'=>pI n t idx r xs ts∧VJ w' b20 n xs∧VJ w' g34 K ts∧Cst w b b2 b5 b7 b20 g34 n K c34 w'∧w'.heap[D]? =some (.deferred (some []))) ?_ ?_))
    ·refine az (ag (aa (ae (aq a_ rfl (by exact (hc.h5.from_ aj.rfl_).rd 0 rfl)) ?_)));refine mvi rfl (dE (t:=128) (v:=.int _ _) (v':=.int .i64 ((r:Nat):Int)) rfl (by exact e13) ?_);refine ae (aL aP rfl rfl (by exact hrn)) ?_;refine ae (aq bm rfl (by exact (hxs.from_ aj.rfl_).rd hrn)) ?_;refine ae (lz (r:=xs r-1) rfl rfl rfl (by omega)) (asi rfl (ah (ab (ag (aa (mvi rfl (ae (ek rfl rfl) (mvb rfl (KL (t:=134) rfl (fun Q77=>?_) (fun Q77=>?_))))))))))
     ·obtain ⟨i,hi⟩:∃ i:Nat,xs r=((i+1:Nat):Int):=⟨(xs r-1).toNat,by omega⟩;have e12:(Value.int .i32 (xs r-1))=.int .i32 ((i:Nat):Int):=aM (by omega);rw [e12];have hin:i<n:=by omega
      refine an rfl (ae (aq cS rfl (by exact (hc.h2.from_ aj.rfl_).rd 0 rfl)) ?_);refine an rfl (ae (aw rfl) (an rfl (ae (ak dS rfl) (an rfl (ae (aq eI rfl (by exact br hc.hF (hb.rd 2 rfl))) ?_)))));refine an rfl (mvi rfl (an rfl (ae (aL dq rfl rfl (by exact hin)) ?_)));refine an rfl (ae (aq gn rfl (by exact (hr.from_ hc.hF).rd i (nz hin))) ?_);refine ae (bc (v:=.bool _) rfl rfl) (ah (ab (av rfl (fun Q78=>?_) (fun Q78=>?_))))
      ·(try with_reducible first | (replace Q78 := dT_ Q78; trace "@MK N cR:c24-.c69-.c124+.g134+.c142+ 1.1") | (replace Q78 := dF_ Q78; trace "@MK N cR:c24-.c69-.c124+.g134+.c142+ 1.2") | (replace Q78 := fx Q78; trace "@MK N cR:c24-.c69-.c124+.g134+.c142+ 1.3") | (replace Q78 := fy Q78; trace "@MK N cR:c24-.c69-.c124+.g134+.c142+ 1.4"))
       (try with_reducible first | (replace Q78 := dT_ Q78; trace "@MK N cR:c24-.c69-.c124+.g134+.c142+ 2.1") | (replace Q78 := dF_ Q78; trace "@MK N cR:c24-.c69-.c124+.g134+.c142+ 2.2") | (replace Q78 := eG Q78; trace "@MK N cR:c24-.c69-.c124+.g134+.c142+ 2.3") | (replace Q78 := eH Q78; trace "@MK N cR:c24-.c69-.c124+.g134+.c142+ 2.4") | (replace Q78 := fV Q78; trace "@MK N cR:c24-.c69-.c124+.g134+.c142+ 2.5") | (replace Q78 := fW Q78; trace "@MK N cR:c24-.c69-.c124+.g134+.c142+ 2.6"))
       have hrb:rb n t i=true:=Q78;obtain ⟨he1,hi3n,_,hpn⟩:=C0 ht hord hi3 hrn hi hrb;have hci:=hkt i hin;refine ag ?_;apply en 12 [(143,eqp _),(144,eqp _),(145,eqp _),(146,eqp _),(147,eqp _),(148,eqp _),(149,eqp _),(150,eqp _),(151,eqp _),(152,eqp _),(153,eqp _),(154,eqp _)] (by kernel_rfl) (by kernel_rfl) ⟨af _,af _,af _,af _,af _,af _,af _,af _,af _,af _,af _,af _,trivial⟩
       case hop=>
        constructor
        ·intro w80 D80;exact ai (aq a_ rfl (by exact (hc.h7.from_ (aj.rfl_.next D80)).rd 0 rfl)) rfl
        constructor
        ·intro w81 D81;exact ai (aq cS rfl (by exact (hc.h2.from_ (aj.rfl_.next D81)).rd 0 rfl)) rfl
        constructor
        ·intro w82 D82;rintro _ rfl;exact ai (aw rfl) rfl
        constructor
        ·intro w83 D83;rintro _ rfl;exact ai (ak db rfl) rfl
        constructor
        ·intro w84 D84;rintro _ rfl;exact ai (aq a_ rfl (by exact br (hc.hF.next D84) (hb.rd 0 rfl))) rfl
        constructor
        ·intro w85 D85;exact ai (ar (v:=.int _ _) rfl) rfl
        constructor
        ·intro w86 D86;rintro _ rfl _ rfl;exact ai (aL aP rfl rfl (by exact hin)) rfl
        constructor
        ·intro w87 D87;rintro _ rfl;exact ai (aq bm rfl (by exact (hl.from_ (hc.hF.next D87)).rdN hin)) rfl
        constructor
        ·intro w88 D88;rintro _ rfl _ rfl;exact ai (aL aP rfl rfl (by exact hci)) rfl
        constructor
        ·intro w89 D89;rintro _ rfl;exact ai (aq bm rfl (by exact (hts.from_ (aj.rfl_.next D89)).rd hci)) rfl
        constructor
        ·intro w90 D90;rintro _ rfl;exact ai (lz (r:=((pos n t idx i:Nat):Int)) rfl rfl he1 (by omega)) rfl
        constructor
        ·intro w91 D91;rintro _ rfl _ rfl;exact ai (aL aP rfl rfl (by exact hci)) rfl
        exact trivial
       case hend=>
        intro w92 D92;rintro _ rfl _ rfl _ rfl _ rfl _ rfl _ rfl _ rfl _ rfl _ rfl _ rfl _ rfl _ rfl;show St ..;have hxsD:=hxs.from_ D92;have htsD:=hts.from_ D92;have hcD:=hc.from_ D92;obtain ⟨ct,hbk27,hst,hct⟩:=hts.from_ D92;have hdDD:=dx.from_ D92 _ _ hdD rfl;refine bZ (v:=.int _ _) df rfl rfl rfl (hbk27) (by omega) ?_;intro w93 O27 P27;have hts27:=VJ.put P27 hst hct hci;have hxs27:=hxsD.only O27 (by omega);have hc27:=hcD.only htsD O27 (by omega);have hdD27:=dx.only O27 hbk27 _ _ hdDD rfl;have hcl27:(w93).cell? ⟨g34,t i,none⟩=some (.int .i32 ((pos n t idx i:Nat):Int)):=by rw [hts27.rd hci,fi]
        refine ah (ab ?_);apply en 13 [(155,eqp _),(156,eqp _),(157,eqp _),(158,eqp _),(159,eqp _),(160,eqp _),(161,eqp _),(162,eqp _),(163,eqp _),(164,eqp _),(165,eqp _),(166,eqp _),(167,eqp _)] (by kernel_rfl) (by kernel_rfl) ⟨af _,af _,af _,af _,af _,af _,af _,af _,af _,af _,af _,af _,af _,trivial⟩
        case hop=>
         constructor
         ·intro w95 D95;exact ai (aq a_ rfl (by exact (hc27.h5.from_ (aj.rfl_.next D95)).rd 0 rfl)) rfl
         constructor
         ·intro w96 D96;exact ai (aq a_ rfl (by exact (hc27.h7.from_ (aj.rfl_.next D96)).rd 0 rfl)) rfl
         constructor
         ·intro w97 D97;exact ai (aq cS rfl (by exact (hc27.h2.from_ (aj.rfl_.next D97)).rd 0 rfl)) rfl
         constructor
         ·intro w98 D98;rintro _ rfl;exact ai (aw rfl) rfl
         constructor
         ·intro w99 D99;rintro _ rfl;exact ai (ak db rfl) rfl
         constructor
         ·intro w100 D100;rintro _ rfl;exact ai (aq a_ rfl (by exact br (((hc.hF.next D92).only O27 ((by omega))).next D100) (hb.rd 0 rfl))) rfl
         constructor
         ·intro w101 D101;exact ai (ar (v:=.int _ _) rfl) rfl
         constructor
         ·intro w102 D102;rintro _ rfl _ rfl;exact ai (aL aP rfl rfl (by exact hin)) rfl
         constructor
         ·intro w103 D103;rintro _ rfl;exact ai (aq bm rfl (by exact (hl.from_ (((hc.hF.next D92).only O27 ((by omega))).next D103)).rdN hin)) rfl
         constructor
         ·intro w104 D104;rintro _ rfl _ rfl;exact ai (aL aP rfl rfl (by exact hci)) rfl
         constructor
         ·intro w105 D105;rintro _ rfl;exact ai (aq bm rfl (by exact br (aj.rfl_.next D105) hcl27)) rfl
         constructor
         ·intro w106 D106;exact ai (ar (v:=.int _ _) rfl) rfl
         constructor
         ·intro w107 D107;rintro _ rfl _ rfl;exact ai (aL aP rfl rfl (by exact hpn)) rfl
         exact trivial
        case hend=>
         intro w108 D108;rintro _ rfl _ rfl _ rfl _ rfl _ rfl _ rfl _ rfl _ rfl _ rfl _ rfl _ rfl _ rfl _ rfl;show St ..;have hxsE:=hxs27.from_ D108;have htsE:=hts27.from_ D108;have hcE:=hc27.from_ D108;obtain ⟨cr,hbk28,hsr,hcr⟩:=hxs27.from_ D108;have hdDE:=dx.from_ D108 _ _ hdD27 rfl;refine bZ (v:=.int _ _) df rfl rfl rfl (hbk28) (by omega) ?_;intro w109 O28 P28;have hxs28:=VJ.put P28 hsr hcr hpn;have hts28:=htsE.only O28 (by omega);have hc28:=hcE.only hxsE O28 (by omega);have hdD28:=dx.only O28 hbk28 _ _ hdDE rfl;refine ah (aN ?_);refine aR ((upd xs (pos n t idx i) i,upd ts (t i) ((pos n t idx i:Nat):Int))) trivial (by (iterate 44 refine aF rfl ?_);exact aK) ?_;exact ⟨hi3n,hxs28,hts28,hc28,hdD28⟩
      (try with_reducible first | (replace Q78 := dT_ Q78; trace "@MK N cR:c24-.c69-.c124+.g134+.c142- 1.1") | (replace Q78 := dF_ Q78; trace "@MK N cR:c24-.c69-.c124+.g134+.c142- 1.2") | (replace Q78 := fx Q78; trace "@MK N cR:c24-.c69-.c124+.g134+.c142- 1.3") | (replace Q78 := fy Q78; trace "@MK N cR:c24-.c69-.c124+.g134+.c142- 1.4"))
      (try with_reducible first | (replace Q78 := dT_ Q78; trace "@MK N cR:c24-.c69-.c124+.g134+.c142- 2.1") | (replace Q78 := dF_ Q78; trace "@MK N cR:c24-.c69-.c124+.g134+.c142- 2.2") | (replace Q78 := eG Q78; trace "@MK N cR:c24-.c69-.c124+.g134+.c142- 2.3") | (replace Q78 := eH Q78; trace "@MK N cR:c24-.c69-.c124+.g134+.c142- 2.4") | (replace Q78 := fV Q78; trace "@MK N cR:c24-.c69-.c124+.g134+.c142- 2.5") | (replace Q78 := fW Q78; trace "@MK N cR:c24-.c69-.c124+.g134+.c142- 2.6"))
      have hno:∀ i':Nat,xs r=((i'+1:Nat):Int)→rb n t i'=false:=fun i' h'=>by
       obtain rfl:i'=i:=by omega
       exact Q78
      refine au (aN ?_);refine aR ((xs,ts)) trivial (by (iterate 19 refine aF rfl ?_);exact aK) ?_;exact ⟨BF ht hord hi3 hrn hno,hxs.from_ aj.rfl_,hts.from_ aj.rfl_,hc.from_ aj.rfl_,dx.from_ aj.rfl_ _ _ hdD rfl⟩
     have hno:∀ i':Nat,xs r=((i'+1:Nat):Int)→rb n t i'=false:=fun i' h'=>absurd h' (by omega)
     refine aB rfl rfl (aB rfl rfl (aB rfl rfl (aB rfl rfl (aB rfl rfl (aB rfl rfl (aB rfl rfl (ae (aQ (v:=.bool _) rfl rfl) (ah (ab ?_)))))))));refine cm rfl (au (aN ?_));refine aR ((xs,ts)) trivial (by (iterate 19 refine aF rfl ?_);exact aK) ?_;exact ⟨BF ht hord hi3 hrn hno,hxs.from_ aj.rfl_,hts.from_ aj.rfl_,hc.from_ aj.rfl_,dx.from_ aj.rfl_ _ _ hdD rfl⟩
    rintro ⟨xs',ts'⟩ ρ110 w110 ⟨hi3',hxs',hts',hc',hdD'⟩;refine aa (mvi rfl (ae (eQ rfl rfl (by omega)) (asi rfl (ah ?_))));refine aR ((r,xs',ts')) ⟨(by first | rfl | (refine aM ?_;omega)),trivial⟩ (by (iterate 94 refine aF rfl ?_);exact aK) ⟨?_,?_⟩
    ·exact ⟨by omega,hi3',hxs'.from_ aj.rfl_,hts'.from_ aj.rfl_,hc'.from_ aj.rfl_,dx.from_ aj.rfl_ _ _ hdD' rfl⟩
    ·show r<r+1;omega
   refine aZ (aD (aD (aU (ab (ag (aa (ae (aq a_ rfl (by exact (hc.h5.from_ aj.rfl_).rd 0 rfl)) ?_)))))));refine ass rfl (ah (ab (ay (LF (v:=.slice _ _ _) rfl rfl (dx.from_ aj.rfl_ _ _ hdD rfl) ?_))));intro wX OX;obtain rfl:r=0:=by omega
   exact ⟨⟨b20,xs,rfl,hg20,(hxs.from_ aj.rfl_).aside (dx.from_ aj.rfl_ _ _ hdD rfl) rfl OX,FO hi3⟩,(hc.hF.next aj.rfl_).only OX hDw⟩
theorem Ge {α:Type} {a b:List α} {k:Nat} (hl:a.length=b.length) (hk:¬ k<a.length) (h:a.take k=b.take k):a=b:=by
 rw [List.take_of_length_le (by omega),List.take_of_length_le (by omega)] at h;exact h
theorem vb {α:Type} {a b:List α} {k:Nat} (ha:k<a.length) (hb:k<b.length) (h:a.take k=b.take k) (he:a[k]=b[k]):a.take (k+1)=b.take (k+1):=by
 rw [List.take_succ_eq_append_getElem ha,List.take_succ_eq_append_getElem hb,h,he]
theorem zM (A B:Option Addr) (ca cb n m:Nat) (a b:List Int) (w:World) (ha:bW jV w A a) (hb:bW jV w B b) (hn:n=a.length) (hm:m=b.length) (hl:n≤1000000000000) :
 Rt prog 203 [.slice A n ca,.slice B m cb] w (fun v w'=>v=.bool (decide (a=b))∧aj w w'):=by
 refine enter (n:=26) Tryz.func203 rfl rfl rfl (ag (aa (asb rfl (ah (ab (ag (ag (aa (mvs rfl (ae (aS cK rfl) (mvs rfl (ae (aS cK rfl) (ae (cq rfl rfl) ?_)))))))))))));refine ah (ab (Lf rfl (fun Q1=>?_) (fun Q1=>?_)))
 ·refine ag (aa (asb rfl (ah (ab (ay (aC (bE (v:=.bool _) rfl rfl ?_)))))));exact ⟨by rw [decide_eq_false];rintro rfl;omega,aj.rfl_⟩
 refine au (ab (ag (ag (aa (mvs rfl (ae (aS cK rfl) (mvi rfl (ah (ab (az (bg (G:=Nat) [4,5,14,15,16,17,18,19,20,21,22,23,24,25] (fun k=>[(13,.int .i64 (k:Nat))]) (fun k w'=>k≤n∧a.take k=b.take k∧aj w w') (fun k=>n-k) (0) ⟨rfl,trivial⟩ ?_ ?_)))))))))))
 ·exact ⟨Nat.zero_le _,rfl,aj.rfl_⟩
 rintro k ρ2 w2 ⟨hk,ht,hB⟩;refine ag (aa (ae (aX rfl rfl) (ah (ab (ag (Li rfl (fun Q3=>?_) (fun Q3=>?_)))))))
 ·have hka:k<a.length:=by omega
  have hkb:k<b.length:=by omega
  obtain ⟨ba,oa,rfl,hca⟩:=ha (by omega);obtain ⟨bb,ob,rfl,hcb⟩:=hb (by omega);refine au (ab (ag (az (ag (aa (mvi rfl (asi rfl (ah (ab (ag ?_))))))))));apply en 9 [(16,eqp _),(17,eqp _),(18,eqp _),(19,eqp _),(20,eqp _),(21,eqp _),(22,eqp _),(23,eqp _),(24,eqp _)] (by kernel_rfl) (by kernel_rfl) ⟨af _,af _,af _,af _,af _,af _,af _,af _,af _,trivial⟩
  case hop=>
   constructor
   ·intro w5 D5;exact ai (ar (v:=.slice _ _ _) rfl) rfl
   constructor
   ·intro w6 D6;exact ai (ar (v:=.int _ _) rfl) rfl
   constructor
   ·intro w7 D7;rintro _ rfl _ rfl;exact ai (bk aP rfl rfl (by omega)) rfl
   constructor
   ·intro w8 D8;rintro _ rfl;exact ai (aq bm rfl (by exact br (hB.next D8) (hca k hka))) rfl
   constructor
   ·intro w9 D9;exact ai (ar (v:=.slice _ _ _) rfl) rfl
   constructor
   ·intro w10 D10;exact ai (ar (v:=.int _ _) rfl) rfl
   constructor
   ·intro w11 D11;rintro _ rfl _ rfl;exact ai (bk aP rfl rfl (by omega)) rfl
   constructor
   ·intro w12 D12;rintro _ rfl;exact ai (aq bm rfl (by exact br (hB.next D12) (hcb k hkb))) rfl
   constructor
   ·intro w13 D13;rintro _ rfl _ rfl;exact ai (cq rfl rfl) rfl
   exact trivial
  case hend=>
   intro w14 D14;rintro _ rfl _ rfl _ rfl _ rfl _ rfl _ rfl _ rfl _ rfl _ rfl;show St ..;refine ah (ab (Lf rfl (fun Q15=>?_) (fun Q15=>?_)))
   ·refine ag (aa (asb rfl (ah (ab (ay (bn (aC (aC (bn (aC (bE (v:=.bool _) rfl rfl ?_)))))))))));exact ⟨by rw [decide_eq_false];rintro rfl;simp_all,(hB.next D14)⟩
   refine au (aN (ab (aa (ae (aJ (b:=1) rfl rfl (by omega)) (mvi rfl (ah ?_))))));refine aR (k+1) ⟨(by first | rfl | (refine aM ?_;omega)),trivial⟩ (by (iterate 29 refine aF rfl ?_);exact aK) ⟨?_,?_⟩
   ·exact ⟨by omega,vb hka hkb ht (by simp_all),(hB.next D14)⟩
   ·show n-(k+1)<n-k;omega
 refine aZ (aD (aD (aU (ab (ag (aa (asb rfl (ah (ab (ay (bE (v:=.bool _) rfl rfl (⟨by rw [decide_eq_true (Ge (k:=k) (by omega) (by omega) ht)],hB⟩))))))))))))
theorem va {w:World} {AS:Option Addr} {m:Nat} {ss:Nat→Nat} (h:0<m→∃ g,AS=some ⟨g,0,none⟩∧VJ w g m (fun k=>(ss k:Nat))) (h0:0<m):∃ bs os,AS=some ⟨bs,os,none⟩∧∀ k,k<m→w.cell? ⟨bs,os+k,none⟩=some (.int .i32 ((ss k:Nat):Int)):=by
 obtain ⟨g,rfl,hv⟩:=h h0;exact ⟨g,0,rfl,fun k hk=>by rw [Nat.zero_add];exact hv.rdN hk⟩
theorem xi (b n K m:Nat) (t ss:Nat→Nat) (w:World) (hT:jq w b n K t m ss) (h0:0<m) (hm:m≤200000) (g:Nat) (nu:Nat→Nat) (hg:VJ w g m (fun r=>(nu r:Nat))) (hnu:∀ r,r<m→nu r<m) :
 Rt prog 166 [.pointer (some ⟨b,0,none⟩),.slice (some ⟨g,0,none⟩) m m] w (fun v w'=>(∃ g2,v=.slice (some ⟨g2,0,none⟩) m m∧w.heap.size≤g2∧VJ w' g2 m (fun r=>((ss (nu r):Nat):Int)))∧aj w w'):=by
 obtain ⟨gl,gr,AS,cs,ge,hb,hl,hr,hss,he⟩:=hT;obtain ⟨bs,os,rfl,hsc⟩:=va hss h0;refine enter (n:=30) Tryz.func166 rfl rfl rfl (ag (aa (ass rfl (ah (ab (ag (aa (mvs rfl (ae (aS cK rfl) (gV fo rfl rfl rfl (by omega) (by omega) ?_))))))))));intro b10 w1 E10 hb10 hk10;have hg10:w.heap.size≤b10:=by rw [hb10];exact (aj.rfl_).size
 refine ass rfl (ah (ab (ag (ag (aa (mvs rfl (ae (aS cK rfl) (mvi rfl (ah (ab (az (bg (G:=Nat×(Nat→Int)) [6,7,14,15,16,17,18,19,20,21,22,23,24,25,26,27,28] (fun (k,_)=>[(13,.int .i64 (k:Nat))]) (fun (k,xs) w'=>k≤m∧(∀ i,i<k→xs i=((ss (nu i):Nat):Int))∧VJ w' b10 m xs∧aj w w') (fun (k,_)=>m-k) ((0,fun _=>0)) ⟨rfl,trivial⟩ ?_ ?_))))))))))))
 ·exact ⟨Nat.zero_le _,fun i h=>absurd h (by omega),VJ.of_blk (by rw [←jd];exact hk10),(aj.rfl_.next E10)⟩
 rintro ⟨k,xs⟩ ρ2 w2 ⟨hk,hx0,hxs,hB⟩;refine ag (aa (ae (aX rfl rfl) (ah (ab (ag (Li rfl (fun Q3=>?_) (fun Q3=>?_)))))))
 ·have hkm:k<m:=by omega
  obtain ⟨cu,hcu,hsz,hce⟩:=id hxs;have hnk:=hnu k hkm;refine au (ab (ag (az (ag (aa (mvi rfl (ae (aL aP rfl rfl (by exact hkm)) ?_)))))));refine ae (aq bm rfl (by exact (hg.from_ hB).rdN hkm)) ?_;refine asi rfl (asi rfl (ah (ab (aa (mvs rfl (mvi rfl (mvp rfl (ae (aw rfl) (ae (ak dm rfl) (ae (aq a_ rfl (by exact br hB (hb.rd 3 rfl))) ?_))))))))));refine mvi rfl (ae (bk aP rfl rfl (by exact hnk)) ?_);refine ae (aq bm rfl (by exact br hB (hsc _ hnk))) ?_;refine ae (aL aP rfl rfl (by exact hkm)) ?_;refine bZ (v:=.int _ _) df rfl rfl rfl (hcu) (by omega) ?_;intro w4 O5 P5;have hxs5:=VJ.put P5 hsz hce hkm;refine ah (aN (ab (aa (ae (aJ (b:=1) rfl rfl (by omega)) (mvi rfl (ah ?_))))));refine aR ((k+1,upd xs k ((ss (nu k):Nat):Int))) ⟨(by first | rfl | (refine aM ?_;omega)),trivial⟩ (by (iterate 36 refine aF rfl ?_);exact aK) ⟨?_,?_⟩
  ·refine ⟨by omega,fun i hi=>?_,hxs5,(hB.only O5 (hg10))⟩;unfold upd;split
   ·rename_i e;rw [e]
   ·exact hx0 i (by omega)
  ·show m-(k+1)<m-k;omega
 refine aZ (aD (aD (aU (ab (ag (aa (mvs rfl (ass rfl (ah (ab (ay (bE (v:=.slice _ _ _) rfl rfl ?_))))))))))));obtain rfl:m=k:=by omega
 exact ⟨⟨b10,rfl,hg10,hxs.congr hx0⟩,hB⟩
theorem ux:aH prog 203=true:=by kernel_rfl
def rf (t:Nat→Nat) (i k:Nat):List Int:=(List.range k).map fun x=>(t (i+x):Int)
theorem mO {t:Nat→Nat} {i k:Nat}:(rf t i k).length=k:=by simp [rf]
theorem xa {w:World} {g n l k:Nat} {t:Nat→Nat} (h:VJ w g n fun i=>(t i:Nat)) (hl:l<n) (hk:l+k≤n):bW jV w (ib (some ⟨g,0,none⟩) n l 1) (rf t l k):=fun h0=>by
 by_cases e:n=l
 ·omega
 ·refine ⟨g,l,?_,fun i hi=>?_⟩
  ·unfold ib;rw [if_neg e];simp [Addr.add];omega
  ·rw [mO] at hi;have:=h.rd (i:=l+i) (by omega);simpa [rf] using this
theorem Hh {t:Nat→Nat} {i j k:Nat} {k2:Nat}:rf t i k=rf t j k2↔k=k2∧∀ x,x<k→t (i+x)=t (j+x):=by
 constructor
 ·intro h;have e:=congrArg List.length h;rw [mO,mO] at e;subst e;refine ⟨rfl,fun x hx=>?_⟩;have:=congrArg (fun l=>l[x]?) h;simp [rf,hx] at this;omega
 ·rintro ⟨rfl,h⟩;unfold rf;exact List.map_congr_left fun x hx=>by rw [h x (List.mem_range.1 hx)]
theorem uJ {n m a b:Nat} {t ss:Nat→Nat} (H:dU n t m ss) (h:Txt n t) (h2:2≤n) (ha:a<m) (hb:b<m) (hab:a=m-1∨b=m-1) (he:dI n t (ss a)=dI n t (ss b)):a=b:=by
 have hl:=H.last h h2;rcases hab with rfl | rfl
 ·rw [hl] at he;have e:=ot h (H.is b hb).2.1 he.symm;exact H.inj ha hb (by rw [hl,e])
 ·rw [hl] at he;have e:=ot h (H.is a ha).2.1 he;exact H.inj ha hb (by rw [hl,e])
theorem Ep {n m a b:Nat} {t ss:Nat→Nat} (H:dU n t m ss) (h:Txt n t) (ha:a+1<m) (hb:b+1<m):rf t (ss a) (ss (a+1)+1-ss a)=rf t (ss b) (ss (b+1)+1-ss b)↔dI n t (ss a)=dI n t (ss b):=by
 obtain ⟨a1,a2⟩:=H.next h ha;obtain ⟨b1,b2⟩:=H.next h hb;have a3:=H.up a (a+1) (by omega) ha;have b3:=H.up b (b+1) (by omega) hb;rw [Hh,CK h a1 b1,a2,b2];exact ⟨fun ⟨x,y⟩=>⟨by omega,fun k hk=>y k (by omega)⟩,fun ⟨x,y⟩=>⟨by omega,fun k hk=>y k (by omega)⟩⟩
theorem Hj (b n K m:Nat) (t ss:Nat→Nat) (w:World) (hT:jq w b n K t m ss) (h0:0<m) (hm:m≤200000) (hn:n≤200000) (H:dU n t m ss) (h2:2≤n) (ht:Txt n t) (x y:Nat) (hx:x<m) (hy:y<m) :
 Rt prog 184 [.pointer (some ⟨b,0,none⟩),.int .i32 (x:Nat),.int .i32 (y:Nat)] w (fun v w'=>(∃ r,v=.bool r∧(r=true↔dI n t (ss x)=dI n t (ss y)))∧aj w w'):=by
 obtain ⟨gl,gr,AS,cs,ge,hb,hl,hr,hss,he⟩:=hT;obtain ⟨bs,os,rfl,hsc⟩:=va hss h0;refine enter (n:=69) Tryz.func184 rfl rfl rfl (ag (aa (asb rfl (ah (ab (ag (aa (mvp rfl (ae (aw rfl) (ae (ak dm rfl) (ae (aq a_ rfl (by exact br aj.rfl_ (hb.rd 3 rfl))) ?_)))))))))));refine ae (aS cK rfl) (ae (iv eE iR rfl (by omega)) (ae (lz (r:=((m-1:Nat):Int)) rfl rfl (by omega) (by omega)) (asi rfl (ah (ab (ag (ag (aa (mvi rfl (mvi rfl (ae (cF rfl rfl) (mvb rfl ?_))))))))))));refine KL (t:=18) rfl (fun Q1=>?_) (fun Q1=>?_)
 ·refine aB rfl rfl (aB rfl rfl (aB rfl rfl (ae (bc (v:=.bool _) rfl rfl) (ah (ab (cB rfl (ag (aa (mvi rfl (mvi rfl ?_))))))))));refine ae (cF rfl rfl) (asb rfl (ah (ab (ay (aC (bE (v:=.bool _) rfl rfl (⟨⟨_,rfl,?_⟩,aj.rfl_⟩)))))));rw [beq_iff_eq];constructor
  ·intro h;obtain rfl:x=y:=by omega
   rfl
  ·intro h;have:=uJ H ht h2 hx hy (by omega) h;omega
 refine an rfl (mvi rfl (an rfl (mvi rfl (an rfl (ae (cF rfl rfl) (ae (aQ (v:=.bool _) rfl rfl) (ah (ab (Li rfl (fun Q2=>?_) (fun Q2=>?_))))))))))
 ·refine ag (aa (mvi rfl (mvi rfl (ae (cF rfl rfl) (asb rfl (ah (ab (ay (aC (bE (v:=.bool _) rfl rfl (⟨⟨_,rfl,?_⟩,aj.rfl_⟩)))))))))));rw [beq_iff_eq];constructor
  ·intro h;obtain rfl:x=y:=by omega
   rfl
  ·intro h;have:=uJ H ht h2 hx hy (by omega) h;omega
 have hx1:x+1<m:=by omega
 have hy1:y+1<m:=by omega
 have a1:=(H.is (x+1) hx1).2.1;have a2:=H.up x (x+1) (by omega) hx1;have b1:=(H.is (y+1) hy1).2.1;have b2:=H.up y (y+1) (by omega) hy1;refine au (ab (ag ?_));apply en 44 [(26,eqp _),(27,eqp _),(28,eqp _),(29,eqp _),(30,eqp _),(31,eqp _),(32,eqp _),(33,eqp _),(34,eqp _),(35,eqp _),(36,eqp _),(37,eqp _),(38,eqp _),(39,eqp _),(40,eqp _),(41,eqp _),(42,eqp _),(43,eqp _),(44,eqp _),(45,eqp _),(46,eqp _),(47,eqp _),(48,eqp _),(49,eqp _),(50,eqp _),(51,eqp _),(52,eqp _),(53,eqp _),(54,eqp _),(55,eqp _),(56,eqp _),(57,eqp _),(58,eqp _),(59,eqp _),(60,eqp _),(61,eqp _),(62,eqp _),(63,eqp _),(64,eqp _),(65,eqp _),(66,eqp _),(67,eqp _),(68,eqp _),(6,eqp _)] (by kernel_rfl) (by kernel_rfl) ⟨af _,af _,af _,af _,af _,af _,af _,af _,af _,af _,af _,af _,af _,af _,af _,af _,af _,af _,af _,af _,af _,af _,af _,af _,af _,af _,af _,af _,af _,af _,af _,af _,af _,af _,af _,af _,af _,af _,af _,af _,af _,af _,af _,af _,trivial⟩
 case hop=>
  constructor
  ·intro w4 D4;exact ai (ar (v:=.pointer _) rfl) rfl
  constructor
  ·intro w5 D5;rintro _ rfl;exact ai (aw rfl) rfl
  constructor
  ·intro w6 D6;rintro _ rfl;exact ai (ak db rfl) rfl
  constructor
  ·intro w7 D7;rintro _ rfl;exact ai (aq a_ rfl (by exact br (aj.rfl_.next D7) (hb.rd 0 rfl))) rfl
  constructor
  ·intro w8 D8;exact ai (ar (v:=.pointer _) rfl) rfl
  constructor
  ·intro w9 D9;rintro _ rfl;exact ai (aw rfl) rfl
  constructor
  ·intro w10 D10;rintro _ rfl;exact ai (ak dm rfl) rfl
  constructor
  ·intro w11 D11;rintro _ rfl;exact ai (aq a_ rfl (by exact br (aj.rfl_.next D11) (hb.rd 3 rfl))) rfl
  constructor
  ·intro w12 D12;exact ai (ar (v:=.int _ _) rfl) rfl
  constructor
  ·intro w13 D13;rintro _ rfl _ rfl;exact ai (bk aP rfl rfl (by exact hx)) rfl
  constructor
  ·intro w14 D14;rintro _ rfl;exact ai (aq bm rfl (by exact br (aj.rfl_.next D14) (hsc x hx))) rfl
  constructor
  ·intro w15 D15;exact ai (ar (v:=.pointer _) rfl) rfl
  constructor
  ·intro w16 D16;rintro _ rfl;exact ai (aw rfl) rfl
  constructor
  ·intro w17 D17;rintro _ rfl;exact ai (ak dm rfl) rfl
  constructor
  ·intro w18 D18;rintro _ rfl;exact ai (aq a_ rfl (by exact br (aj.rfl_.next D18) (hb.rd 3 rfl))) rfl
  constructor
  ·intro w19 D19;exact ai (ar (v:=.int _ _) rfl) rfl
  constructor
  ·intro w20 D20;rintro _ rfl;exact ai (iH (r:=((x+1:Nat):Int)) rfl rfl (by omega) (by omega)) rfl
  constructor
  ·intro w21 D21;rintro _ rfl _ rfl;exact ai (bk aP rfl rfl (by exact hx1)) rfl
  constructor
  ·intro w22 D22;rintro _ rfl;exact ai (aq bm rfl (by exact br (aj.rfl_.next D22) (hsc (x+1) hx1))) rfl
  constructor
  ·intro w23 D23;rintro _ rfl;exact ai (iH (r:=((ss (x+1)+1:Nat):Int)) rfl rfl (by omega) (by omega)) rfl
  constructor
  ·intro w24 D24;rintro _ rfl _ rfl _ rfl;exact ai (bu (l:=ss x) (h:=ss (x+1)+1) aP rfl (.inr ⟨_,_,_,rfl,rfl,rfl⟩) (.inr ⟨_,_,_,rfl,rfl,rfl⟩) (by omega) (by omega)) rfl
  constructor
  ·intro w25 D25;exact ai (ar (v:=.pointer _) rfl) rfl
  constructor
  ·intro w26 D26;rintro _ rfl;exact ai (aw rfl) rfl
  constructor
  ·intro w27 D27;rintro _ rfl;exact ai (ak db rfl) rfl
  constructor
  ·intro w28 D28;rintro _ rfl;exact ai (aq a_ rfl (by exact br (aj.rfl_.next D28) (hb.rd 0 rfl))) rfl
  constructor
  ·intro w29 D29;exact ai (ar (v:=.pointer _) rfl) rfl
  constructor
  ·intro w30 D30;rintro _ rfl;exact ai (aw rfl) rfl
  constructor
  ·intro w31 D31;rintro _ rfl;exact ai (ak dm rfl) rfl
  constructor
  ·intro w32 D32;rintro _ rfl;exact ai (aq a_ rfl (by exact br (aj.rfl_.next D32) (hb.rd 3 rfl))) rfl
  constructor
  ·intro w33 D33;exact ai (ar (v:=.int _ _) rfl) rfl
  constructor
  ·intro w34 D34;rintro _ rfl _ rfl;exact ai (bk aP rfl rfl (by exact hy)) rfl
  constructor
  ·intro w35 D35;rintro _ rfl;exact ai (aq bm rfl (by exact br (aj.rfl_.next D35) (hsc y hy))) rfl
  constructor
  ·intro w36 D36;exact ai (ar (v:=.pointer _) rfl) rfl
  constructor
  ·intro w37 D37;rintro _ rfl;exact ai (aw rfl) rfl
  constructor
  ·intro w38 D38;rintro _ rfl;exact ai (ak dm rfl) rfl
  constructor
  ·intro w39 D39;rintro _ rfl;exact ai (aq a_ rfl (by exact br (aj.rfl_.next D39) (hb.rd 3 rfl))) rfl
  constructor
  ·intro w40 D40;exact ai (ar (v:=.int _ _) rfl) rfl
  constructor
  ·intro w41 D41;rintro _ rfl;exact ai (iH (r:=((y+1:Nat):Int)) rfl rfl (by omega) (by omega)) rfl
  constructor
  ·intro w42 D42;rintro _ rfl _ rfl;exact ai (bk aP rfl rfl (by exact hy1)) rfl
  constructor
  ·intro w43 D43;rintro _ rfl;exact ai (aq bm rfl (by exact br (aj.rfl_.next D43) (hsc (y+1) hy1))) rfl
  constructor
  ·intro w44 D44;rintro _ rfl;exact ai (iH (r:=((ss (y+1)+1:Nat):Int)) rfl rfl (by omega) (by omega)) rfl
  constructor
  ·intro w45 D45;rintro _ rfl _ rfl _ rfl;exact ai (bu (l:=ss y) (h:=ss (y+1)+1) aP rfl (.inr ⟨_,_,_,rfl,rfl,rfl⟩) (.inr ⟨_,_,_,rfl,rfl,rfl⟩) (by omega) (by omega)) rfl
  constructor
  ·intro w46 D46;rintro _ rfl _ rfl;refine dP ux ((zM _ _ _ _ _ _ (rf t (ss x) (ss (x+1)+1-ss x)) (rf t (ss y) (ss (y+1)+1-ss y)) _ (xa (hl.from_ (aj.rfl_.next D46)) (by omega) (by omega)) (xa (hl.from_ (aj.rfl_.next D46)) (by omega) (by omega)) mO.symm mO.symm (by omega)).mono ?_);rintro v _ ⟨rfl,E46'⟩;exact ⟨E46',rfl⟩
  constructor
  ·intro w47 D47;rintro _ rfl;exact ai (bQ (v:=.bool _) rfl) rfl
  exact trivial
 case hend=>
  intro w48 D48;rintro _ rfl _ rfl _ rfl _ rfl _ rfl _ rfl _ rfl _ rfl _ rfl _ rfl _ rfl _ rfl _ rfl _ rfl _ rfl _ rfl _ rfl _ rfl _ rfl _ rfl _ rfl _ rfl _ rfl _ rfl _ rfl _ rfl _ rfl _ rfl _ rfl _ rfl _ rfl _ rfl _ rfl _ rfl _ rfl _ rfl _ rfl _ rfl _ rfl _ rfl _ rfl _ rfl _ rfl _ rfl;show St ..;refine ah (ab (ay (bE (v:=.bool _) rfl rfl (⟨⟨_,rfl,?_⟩,(aj.rfl_.next D48)⟩))));rw [decide_eq_true_iff];exact Ep H ht hx1 hy1
theorem mg:aH prog 165=true:=by kernel_rfl
theorem wD:aH prog 184=true:=by kernel_rfl
section
variable {n m:Nat} {t ss:Nat→Nat}
open Classical in
noncomputable def jk (m:Nat) (ss:Nat→Nat) (s:Nat):Nat:=if h:∃ k,k<m∧ss k=s then Classical.choose h else 0
theorem ow (H:dU n t m ss) {k:Nat} (hk:k<m):jk m ss (ss k)=k:=by
 have h:∃ j,j<m∧ss j=ss k:=⟨k,hk,rfl⟩;unfold jk;rw [dif_pos h];have:=Classical.choose_spec h;exact H.inj this.1 hk this.2
theorem vG (H:dU n t m ss):∀ s,lms n t s→jk m ss s<m:=fun s hs=>by
 obtain ⟨k,hk,rfl⟩:=H.all s hs;rw [ow H hk];exact hk
theorem l7 (H:dU n t m ss):Ord n t (jk m ss):=⟨fun i j hi hj he=>by
 obtain ⟨a,ha,rfl⟩:=H.all i hi;obtain ⟨b,hb,rfl⟩:=H.all j hj;rw [ow H ha,ow H hb] at he;rw [he]⟩
structure DK (n m:Nat) (ss:Nat→Nat) (k:Nat) (num:Nat→Int):Prop where
 is:∀ j,j<k→num (ss j)=((j+1:Nat):Int)
 no:∀ i,(∀ j,j<k→ss j≠i)→num i=0
theorem DK.put (H:dU n t m ss) {k:Nat} {num:Nat→Int} (h:DK n m ss k num) (hk:k<m):DK n m ss (k+1) (upd num (ss k) ((k+1:Nat):Int)):=by
 refine ⟨fun j hj=>?_,fun i hi=>?_⟩
 ·by_cases e:j=k
  ·subst e;rw [fi]
  ·rw [fY _ _ (fun e2=>e (H.inj (by omega) hk e2))];exact h.is j (by omega)
 ·rw [fY _ _ (fun e=>hi k (by omega) e.symm)];exact h.no i fun j hj=>hi j (by omega)
theorem DK.start {num:Nat→Int} (h:DK n m ss m num) {i:Nat} (hi:num i≠0):∃ s,s<m∧ss s=i∧num i=((s+1:Nat):Int):=by
 by_cases e:∃ s,s<m∧ss s=i
 ·obtain ⟨s,hs,rfl⟩:=e;exact ⟨s,hs,rfl,h.is s hs⟩
 ·exact absurd (h.no i fun j hj he=>e ⟨j,hj,he⟩) hi
structure kG (n:Nat) (t idx:Nat→Nat) (r:Nat) (ol:List Nat):Prop where
 mem:∀ s,s∈ol↔lms n t s∧pos n t idx s<r
 up:ol.Pairwise fun a b=>pos n t idx a<pos n t idx b
variable {idx:Nat→Nat} {r:Nat} {ol:List Nat}
theorem kG.skip (h:kG n t idx r ol) (hno:∀ s,lms n t s→pos n t idx s≠r):kG n t idx (r+1) ol:=
 ⟨fun s=>by
  rw [h.mem];exact ⟨fun a=>⟨a.1,by omega⟩,fun a=>⟨a.1,by have:=hno s a.1;omega⟩⟩,h.up⟩
theorem kG.put (ht:Txt n t) (ho:Ord n t idx) (h:kG n t idx r ol) {i:Nat} (hi:lms n t i) (hp:pos n t idx i=r):kG n t idx (r+1) (ol++[i]):=by
 refine ⟨fun s=>?_,?_⟩
 ·rw [List.mem_append,h.mem,List.mem_singleton];constructor
  ·rintro (a | rfl)
   ·exact ⟨a.1,by omega⟩
   ·exact ⟨hi,by omega⟩
  ·rintro ⟨a,b⟩;by_cases e:pos n t idx s=r
   ·exact .inr (jR ht ho a.2.1 hi.2.1 (by rw [e,hp]))
   ·exact .inl ⟨a,by omega⟩
 ·rw [List.pairwise_append];refine ⟨h.up,List.pairwise_singleton ..,fun a ha b hb=>?_⟩;rw [List.mem_singleton] at hb;subst hb;have:=(h.mem a).1 ha;omega
theorem kG.len_le (h:kG n t idx r ol):ol.length≤r:=by
 have:∀ (l:List Nat) (q:Nat),(∀ s∈l,pos n t idx s<r∧q≤pos n t idx s)→l.Pairwise (fun a b=>pos n t idx a<pos n t idx b)→l.length+q≤r∨l=[]:=by
  intro l
  induction l with
  |nil=>intro q _ _;exact .inr rfl
  |cons a l ih=>
   intro q hq hp;rw [List.pairwise_cons] at hp;have h1:=hq a (List.mem_cons_self ..);rcases ih (pos n t idx a+1) (fun s hs=>⟨(hq s (List.mem_cons_of_mem _ hs)).1,by have:=hp.1 s hs;omega⟩) hp.2 with e | e
   ·left;simp only [List.length_cons];omega
   ·subst e;left;simp;omega
 rcases this ol 0 (fun s hs=>⟨((h.mem s).1 hs).2,Nat.zero_le _⟩) h.up with e | e
 ·omega
 ·rw [e];simp
def Lst (n:Nat) (t idx:Nat→Nat) (m:Nat) (ss:Nat→Nat) (r:Nat) (nm:Nat→Nat) (kinds:Nat) (last:Int):Prop:=
 (last=-1∧∀ a,a<m→r≤pos n t idx (ss a))∨∃ b:Nat,last=b∧tX n t idx m ss r nm kinds b
def Nxt (n:Nat) (t idx:Nat→Nat) (m:Nat) (ss:Nat→Nat) (r:Nat) (nm:Nat→Nat) (kinds s kinds2:Nat):Prop:=
 (kinds2=0∧∀ a,a<m→r≤pos n t idx (ss a))∨∃ b,tX n t idx m ss r nm kinds b∧((dI n t (ss b)=dI n t (ss s)∧kinds2=kinds)∨(dI n t (ss b)≠dI n t (ss s)∧kinds2=kinds+1))
theorem DR {s v k:Nat} {nm:Nat→Nat}:upd (fun k=>((nm k:Nat):Int)) s ((v:Nat):Int) k=((y4 nm s v k:Nat):Int):=by
 unfold upd y4;split <;> rfl
end
theorem xQ (b n K m:Nat) (t ss:Nat→Nat) (w:World) (hT:jq w b n K t m ss) (h0:0<m) (hm:m≤200000) (hn:n≤200000) (hK:K≤200000) (H:dU n t m ss) (h2:2≤n) (ht:Txt n t) (hkt:∀ i,i<n→t i<K) :
 Rt prog 164 [.pointer (some ⟨b,0,none⟩)] w (fun v w'=>(∃ idx ol Ao co g nm kinds,v=.tuple #[.slice Ao ol.length co,.slice (some ⟨g,0,none⟩) m m,.int .i64 ((kinds+1:Nat):Int)]∧bW jV w' Ao (ol.map fun x:Nat=>(x:Int))∧w.heap.size≤g∧VJ w' g m (fun k=>((nm k:Nat):Int))∧oV n t idx m ss n nm kinds∧Ord n t idx∧kG n t idx n ol∧kinds≤n)∧aj w w'):=by
 have hT0:=hT;obtain ⟨gl,gr,AS,cs,ge,hb,hl,hr,hss,he⟩:=hT;obtain ⟨bs,oS,rfl,hsc⟩:=va hss h0;refine enter (n:=88) Tryz.func164 rfl rfl rfl (ag (aa (ass rfl (ass rfl (asi rfl (ah (ab (ag (aa (mvp rfl (ae (aw rfl) (ae (ak db rfl) ?_))))))))))));refine ae (aq a_ rfl (by exact br aj.rfl_ (hb.rd 0 rfl))) ?_;refine ae (aS cK rfl) (gV fo rfl rfl rfl (by omega) (by omega) ?_);intro b17 w1 E17 hb17 hk17;have hg17:w.heap.size≤b17:=by rw [hb17];exact (aj.rfl_).size
 refine ass rfl (ah (ab (ag (ag (aa (mvp rfl (ae (aw rfl) (ae (ak dm rfl) (ae (aq a_ rfl (by exact br (aj.rfl_.next E17) (hb.rd 3 rfl))) ?_)))))))));refine ae (aS cK rfl) (mvi rfl (ah (ab (az (bg (G:=Nat×(Nat→Int)) [6,7,24,25,26,27,28,29,30,31,32,33,34] (fun (k,_)=>[(23,.int .i64 (k:Nat))]) (fun (k,num) w'=>k≤m∧DK n m ss k num∧VJ w' b17 n num∧aj w w') (fun (k,_)=>m-k) ((0,fun _=>0)) ⟨rfl,trivial⟩ ?_ ?_)))))
 ·exact ⟨Nat.zero_le _,⟨fun j h=>absurd h (by omega),fun _ _=>rfl⟩,VJ.of_blk (by rw [←jd];exact hk17),(aj.rfl_.next E17)⟩
 rintro ⟨k,num⟩ ρ2 w2 ⟨hk,hnum,hnb,hB⟩;refine ag (aa (ae (aX rfl rfl) (ah (ab (ag (Li rfl (fun Q3=>?_) (fun Q3=>?_)))))))
 ·have hkm:k<m:=by omega
  obtain ⟨cu,hcu,hsz,hce⟩:=id hnb;refine au (ab (ag (az (ag (aa (mvi rfl (ae (bk aP rfl rfl (by exact hkm)) ?_)))))));refine ae (aq bm rfl (by exact br hB (hsc k hkm))) ?_;refine asi rfl (asi rfl (ah (ab (aa (mvs rfl (mvi rfl (mvi rfl (ae (iv eE iR rfl (by omega)) (ae (iH (r:=((k+1:Nat):Int)) rfl rfl (by omega) (by omega)) (ae (aL aP rfl rfl (by exact (H.is k hkm).2.1)) ?_))))))))));refine bZ (v:=.int _ _) df rfl rfl rfl (hcu) (by have:=(H.is k hkm).2.1;omega) ?_;intro w4 O5 P5;have hnb5:=VJ.put P5 hsz hce (H.is k hkm).2.1;refine ah (aN (ab (aa (ae (aJ (b:=1) rfl rfl (by omega)) (mvi rfl (ah ?_))))));refine aR ((k+1,upd num (ss k) ((k+1:Nat):Int))) ⟨(by first | rfl | (refine aM ?_;omega)),trivial⟩ (by (iterate 28 refine aF rfl ?_);exact aK) ⟨?_,?_⟩
  ·exact ⟨by omega,hnum.put H hkm,hnb5,(hB.only O5 (hg17))⟩
  ·show m-(k+1)<m-k;omega
 refine aZ (aD (aD (aU (ab (ag (aa (mvp rfl (ae (aw rfl) (ae (ak dm rfl) (ae (aq a_ rfl (by exact br hB (hb.rd 3 rfl))) ?_))))))))));refine ae (aS cK rfl) (gV fo rfl rfl rfl (by omega) (by omega) ?_);intro b40 w5 E40 hb40 hk40;have hg40:w.heap.size≤b40:=by rw [hb40];exact (hB).size
 have h1740:b17<b40:=by rw [hb40];exact hnb.lt
 have hnm0:VJ w5 b40 m (fun _=>0):=VJ.of_blk (by rw [jd] at hk40;exact hk40);refine ass rfl (ah (ab (ag (aa (asi rfl (ah (ab (ag (ag (aa (mvp rfl (mvp rfl (ae (aw rfl) (ae (ak dm rfl) (ae (aq a_ rfl (by exact br (hB.next E40) (hb.rd 3 rfl))) ?_)))))))))))))));refine aA mg (cR b n K m t ss _ (hT0.from_ (hB.next E40)) h2 ht hkt hn hK bs oS m cs ss (jk m ss) (fun q hq=>br (hB.next E40) (hsc q hq)) (fun q hq=>⟨H.is q hq,ow H hq⟩) (vG H) (l7 H) hm) ?_;rintro v46 w6 ⟨⟨gI,xs,rfl,hgI,hxs,hxp⟩,E46⟩;obtain ⟨z,hz⟩:∃ z,z=(w6).heap.size:=⟨_,rfl⟩;have hIz:gI<z:=by rw [hz];exact hxs.lt
 have h40I:b40<gI:=Nat.lt_of_lt_of_le hk40.lt hgI;have hwz:w.heap.size≤z:=by omega
 obtain rfl:m=k:=by omega
 refine ae (aS cK rfl) (mvi rfl (ah (ab (az (bg (G:=Nat×List Nat×Option Addr×Nat×(Nat→Nat)×Nat×Int) [10,11,49,50,51,52,53,54,55,56,57,58,59,60,61,62,63,64,65,66,67,68,69,70,71,72,73,74,75,76,77,78,79,80,81,82,83] (fun (r,ol,A2,c2,_,kinds,last)=>[(48,.int .i64 (r:Nat)),(2,.slice A2 ol.length c2),(4,.int .i64 (kinds:Nat)),(8,.int .i32 last)]) (fun (r,ol,A2,c2,nm,kinds,last) w'=>r≤n∧oV n t (jk m ss) m ss (r) nm kinds∧Lst n t (jk m ss) m ss (r) nm kinds last∧kG n t (jk m ss) (r) ol∧kinds≤r∧w'.ownsRow z 21 1 (.slice A2 ol.length c2) ol.length (ol.map fun x:Nat=>jV (x:Nat))∧VJ w' b40 m (fun k=>((nm k:Nat):Int))∧VJ w' b17 n num∧VJ w' gI n xs∧z≤w'.heap.size∧aj w w') (fun (r,_)=>n-r) ((0,[],none,0,fun _=>0,0,-1)) ⟨rfl,rfl,rfl,rfl,trivial⟩ ?_ ?_)))))
 ·refine ⟨Nat.zero_le _,zx,.inl ⟨rfl,fun _ _=>Nat.zero_le _⟩,⟨fun s=>⟨fun h=>(by cases h),fun h=>absurd h.2 (by omega)⟩,List.Pairwise.nil⟩,Nat.le_refl _,World.ownsRow_nil _ _ _ _,(hnm0.from_ E46).congr (fun _ _=>rfl),hnb.from_ ((aj.rfl_.next E40).next E46),hxs.from_ aj.rfl_,by rw [hz];exact Nat.le_refl _,((hB.next E40).next E46)⟩
 rintro ⟨r,ol,A2,c2,nm,kinds,last⟩ ρ7 w7 ⟨hr0,hI,hlast,hol,hkr,ho,hnm,hnb,hxs,hzs,hB⟩;refine ag (aa (ae (aX rfl rfl) (ah (ab (ag (Li rfl (fun Q8=>?_) (fun Q8=>?_)))))))
 ·have hrn:r<n:=by omega
  obtain ⟨i,hin,hir⟩:=xA ht (l7 H) hrn;have hcx:(w7).cell? ⟨gI,r,none⟩=some (.int .i32 ((i:Nat):Int)):=by rw [hxs.rd hrn,←hir,hxp i hin]
  refine au (ab (ff (G:=List Nat×Option Addr×Nat×(Nat→Nat)×Nat×Int) [10,11,50,51,52,53,54,55,56,57,58,59,60,61,62,63,64,65,66,67,68,69,70,71,72,73,74,75,76,77,78,79,80,81,82] (fun (ol,A2,c2,_,kinds,last)=>[(2,.slice A2 ol.length c2),(4,.int .i64 (kinds:Nat)),(8,.int .i32 last)]) (fun (ol,A2,c2,nm,kinds,last) w'=>oV n t (jk m ss) m ss (r+1) nm kinds∧Lst n t (jk m ss) m ss (r+1) nm kinds last∧kG n t (jk m ss) (r+1) ol∧kinds≤r+1∧w'.ownsRow z 21 1 (.slice A2 ol.length c2) ol.length (ol.map fun x:Nat=>jV (x:Nat))∧VJ w' b40 m (fun k=>((nm k:Nat):Int))∧VJ w' b17 n num∧VJ w' gI n xs∧z≤w'.heap.size∧aj w w') ?_ ?_))
  ·refine az (ag (aa (ae (aL aP rfl rfl (by exact hrn)) ?_)));refine ae (aq bm rfl (by exact br aj.rfl_ hcx)) ?_;refine asi rfl (ah (ab (ag (ag (aa (mvs rfl (mvi rfl (ae (aL aP rfl rfl (by exact hin)) ?_))))))));refine ae (aq bm rfl (by exact (hnb.from_ aj.rfl_).rd hin)) ?_;refine ae (cF rfl rfl) (ah (ab (Li rfl (fun Q9=>?_) (fun Q9=>?_))))
   ·have hn0:num i=0:=by omega
    refine aZ (aD (aU ?_));refine aR ((ol,A2,c2,nm,kinds,last)) ⟨rfl,rfl,rfl,trivial⟩ (by (iterate 8 refine aF rfl ?_);exact aK) ?_
    have hno:∀ s,lms n t s→pos n t (jk m ss) s≠r:=fun s hs he=>by
     obtain ⟨a,ha,rfl⟩:=H.all s hs;have:=jR ht (l7 H) hs.2.1 hin (by rw [he,hir]);have e2:=hnum.is a ha;rw [this] at e2;omega
    obtain ⟨s1,s2⟩:=CZ hI fun a ha=>hno _ (H.is a ha)
    exact ⟨s1,hlast.elim (fun a=>.inl ⟨a.1,fun q hq=>by have:=a.2 q hq;have:=hno _ (H.is q hq);omega⟩) (fun ⟨bb,x,y⟩=>.inr ⟨bb,x,s2 bb y⟩),hol.skip hno,by omega,ho.kept_from aj.rfl_,hnm.from_ aj.rfl_,hnb.from_ aj.rfl_,hxs.from_ aj.rfl_,Nat.le_trans hzs (aj.rfl_).size,hB⟩
   obtain ⟨s,hs,hsi,hns⟩:=hnum.start (i:=i) (by omega);have hls:lms n t i:=by rw [←hsi];exact H.is s hs
   have hcs:(w7).cell? ⟨b17,i,none⟩=some (.int .i32 ((s+1:Nat):Int)):=by rw [hnb.rd hin,hns]
   refine au (ab (ag (aa (mvs rfl (mvi rfl (ae (aL aP rfl rfl (by exact hin)) ?_))))));refine ae (aq bm rfl (by exact br aj.rfl_ hcs)) ?_;refine ae (lz (r:=((s:Nat):Int)) rfl rfl (by omega) (by omega)) (asi rfl (ah (ab (ff (G:=Nat) [62,63,64,65,66,67,68,69,70,71,72] (fun k2=>[(4,.int .i64 (k2:Nat))]) (fun k2 w'=>Nxt n t (jk m ss) m ss r nm kinds s k2∧k2≤r+1∧aj w7 w') ?_ ?_))))
   ·refine ag (aa (mvi rfl (ae (ek rfl rfl) (mvb rfl (KL (t:=64) rfl (fun Q10=>?_) (fun Q10=>?_))))))
    ·obtain ⟨bl,rfl,hbl⟩:∃ bl:Nat,last=bl∧tX n t (jk m ss) m ss r nm kinds bl:=hlast.elim (fun a=>absurd a.1 (by omega)) id;refine an rfl (mvp rfl (an rfl (mvi rfl (an rfl (mvi rfl (an rfl (aA wD (Hj b n K m t ss _ (hT0.from_ hB) h0 hm hn H h2 ht bl s hbl.1 hs) ?_)))))));rintro v68 w11 ⟨⟨rs,rfl,hrs⟩,E68⟩;refine an rfl (ae (dZ rfl) (ae (bc (v:=.bool _) rfl rfl) (ah (ab (Lg rfl (fun Q12=>?_) (fun Q12=>?_))))))
     ·have hkk:Nxt n t (jk m ss) m ss r nm kinds s (kinds+1):=.inr ⟨bl,hbl,.inr ⟨fun e=>by rw [hrs.2 (by rw [e,hsi])] at Q12;simp at Q12,rfl⟩⟩;refine aa (mvi rfl (ae (aJ (b:=1) rfl rfl (by omega)) (asi rfl (ah ?_))));refine aR (kinds+1) ⟨(by first | rfl | (refine aM ?_;omega)),trivial⟩ (by (iterate 13 refine aF rfl ?_);exact aK) ?_;exact ⟨hkk,by omega,(aj.rfl_.next E68)⟩
     have hkk:Nxt n t (jk m ss) m ss r nm kinds s kinds:=.inr ⟨bl,hbl,.inl ⟨hrs.1 (by simpa using Q12),rfl⟩⟩;refine au ?_;refine aR (kinds) ⟨(by first | rfl | (refine aM ?_;omega)),trivial⟩ (by (iterate 10 refine aF rfl ?_);exact aK) ?_;exact ⟨hkk,by omega,(aj.rfl_.next E68)⟩
    have hkk:Nxt n t (jk m ss) m ss r nm kinds s kinds:=hlast.elim (fun a=>.inl ⟨hI.none a.2,a.2⟩) (fun ⟨bb,e,_⟩=>absurd e (by omega));refine aB rfl rfl (aB rfl rfl (aB rfl rfl (aB rfl rfl (aB rfl rfl (ae (aQ (v:=.bool _) rfl rfl) (ah (ab (cm rfl (au ?_)))))))));refine aR (kinds) ⟨(by first | rfl | (refine aM ?_;omega)),trivial⟩ (by (iterate 10 refine aF rfl ?_);exact aK) ?_;exact ⟨hkk,by omega,aj.rfl_⟩
   rintro kinds2 ρ13 w13 ⟨hnx,hk2,hF16⟩;replace ho:=ho.kept_from hF16;replace hnm:=hnm.from_ hF16;replace hnb:=hnb.from_ hF16;replace hxs:=hxs.from_ hF16;replace hzs:=Nat.le_trans hzs hF16.size;obtain ⟨hIn,hLn⟩:=FM ht (l7 H) H hI hs (by rw [hsi];exact hir) hnx;obtain ⟨cn,hcn,hsz,hce⟩:=id hnm;refine ag (aa (mvs rfl (mvi rfl (mvi rfl (ae (iv eE iR rfl (by omega)) (ae (aL aP rfl rfl (by exact hs)) ?_))))));refine bZ (v:=.int _ _) df rfl rfl rfl (hcn) (by omega) ?_;intro w14 O16 P16;have hnm16:=(VJ.put P16 hsz hce hs).congr (fun k _=>DR);refine ah (ab (ag (aa (mvs rfl (mvi rfl (gW (v:=.int _ _) dL rfl rfl rfl ?_))))));intro b80 w15 E80 hb80 hk80;have hll:=hol.len_le;have ho16:=cH ho O16 (fun k hk=>by have:=(b_ ho k hk).1;omega);refine cZ (base:=z) dL rfl (by decide) rfl (A:=A2) (xs:=ol.map fun x:Nat=>jV (x:Nat)) (news:=[jV (i:Nat)]) (ho16.kept_from E80) (Nat.le_trans (by rw [O16.size];exact hzs) E80.size) rfl rfl (fun _=>⟨b80,0,rfl,hk80.whole⟩) (fun h=>by cases h) (by simp [Value.oneCell']) (by omega) (by omega) ?_;intro A81 c81 w16 ho81 hg81;have HB81:aj w w16:=((((hB.next hF16).only O16 (hg40)).next E80)).grew hg81 (fun k hk=>Nat.le_trans hwz (b_ ho16 k hk).1);have hne:∀ q,A2.map (·.block)=some q→z≤q:=fun q hq=>(b_ ho16 q hq).1
   have hnm17:=(hnm16.from_ E80).grown hg81 (fun q hq=>by have:=hne q hq;omega);have hnb17:=((hnb.only O16 (by omega)).from_ E80).grown hg81 (fun q hq=>by have:=hne q hq;omega);have hxs17:=((hxs.only O16 (by omega)).from_ E80).grown hg81 (fun q hq=>by have:=hne q hq;omega);have hzs17:z≤(w16).heap.size:=Nat.le_trans (Nat.le_trans (by rw [O16.size];exact hzs) E80.size) hg81.size;refine ass rfl (ah (ab (aa (mvi rfl (asi rfl (ah (aN ?_)))))));refine aR ((ol++[i],A81,c81,y4 nm s kinds2,kinds2,((s:Nat):Int))) ⟨(by show Value.slice A81 (ol.length+1) c81=Value.slice A81 (ol++[i]).length c81;rw [List.length_append];rfl),rfl,rfl,trivial⟩ (by (iterate 38 refine aF rfl ?_);exact aK) ?_;refine ⟨hIn,.inr ⟨s,rfl,hLn⟩,hol.put ht (l7 H) hls hir,by omega,?_,hnm17,hnb17,hxs17,hzs17,HB81⟩;rw [List.length_append,List.map_append];exact ho81
  rintro ⟨ol',A2',c2',nm',kinds',last'⟩ ρ17 w17 ⟨hI',hlast',hol',hkr',ho',hnm',hnb',hxs',hzs',hB⟩;refine aa (ae (aJ (b:=1) rfl rfl (by omega)) (mvi rfl (ah ?_)));refine aR ((r+1,ol',A2',c2',nm',kinds',last')) ⟨(by first | rfl | (refine aM ?_;omega)),(by first | rfl | (refine aM ?_;omega)),(by first | rfl | (refine aM ?_;omega)),(by first | rfl | (refine aM ?_;omega)),trivial⟩ (by (iterate 82 refine aF rfl ?_);exact aK) ⟨?_,?_⟩
  ·exact ⟨by omega,hI',hlast',hol',hkr',ho'.kept_from aj.rfl_,hnm'.from_ aj.rfl_,hnb'.from_ aj.rfl_,hxs'.from_ aj.rfl_,Nat.le_trans hzs' (aj.rfl_).size,hB⟩
  ·show n-(r+1)<n-r;omega
 refine aZ (aD (aD (aU (ab (ag (aa (mvs rfl (mvs rfl (mvi rfl (ae (aJ (b:=1) rfl rfl (by omega)) (ass rfl (ass rfl (asi rfl ?_)))))))))))));refine ah (ab (ay (rh (v:=.slice _ _ _) (v':=.slice _ _ _) (v'':=.int _ _) rfl rfl rfl rfl ?_)));obtain rfl:r=n:=by omega
 exact ⟨⟨jk m ss,ol,A2,c2,b40,nm,kinds,rfl,(bW.own (l:=ol.map fun x:Nat=>(x:Int)) (by rw [List.map_map];exact ho.kept_from aj.rfl_)).2,hg40,hnm.from_ aj.rfl_,hI,l7 H,hol,hkr⟩,hB⟩
end Go.Proofs.YtcbakncjacnnjaaGreat
