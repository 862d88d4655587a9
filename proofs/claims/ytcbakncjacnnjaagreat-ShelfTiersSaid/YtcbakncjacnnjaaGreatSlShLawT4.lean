/- texts that the claim stands on. -/
import Derived.Test.YtcbakncjacnnjaaGreatSlShLawT3
import Derived.Shelf.Small.Bits
import Derived.Shelf.Small.Strs
import Derived.Shelf.Small.Wraps
import Derived.Shelf.Strconv.Itoa0
import Derived.Shelf.Strings.Search1
import Derived.Shelf.Strings.Search2
import Derived.Shelf.Strings.Search3
import Derived.Shelf.LaysM
import Derived.Shelf.Strings.Shaped
import Derived.Shelf.Sort.Plain
import Derived.Ground.Names2Prog
import Derived.Shelf.Slices.ReverseS
import Derived.Shelf.Slices.SearchI
import Derived.Shelf.Slices.Cells
import Derived.Shelf.Slices.In.SortNone
set_option maxRecDepth 100000
set_option maxHeartbeats 4000000
namespace Go.Proofs.YtcbakncjacnnjaaGreat.SA
open Classical
theorem IA {N:Nat} {h:Nat→Nat} (hl:∀ i,i<N→h i<N) (hm:∀ i j,i<j→j<N→h i<h j):∀ i,i<N→h i=i:=by
 have lo:∀ i,i<N→i≤h i:=by
  intro i
  induction i with
  |zero=>intro _;exact Nat.zero_le _
  |succ i ih=>intro hi;have:=ih (by omega);have:=hm i (i+1) (by omega) hi;omega
 have hi:∀ d i,i<N→N=i+1+d→h i≤i:=by
  intro d
  induction d with
  |zero=>intro i hi hd;have:=hl i hi;omega
  |succ d ih=>intro i hi hd;have:=ih (i+1) (by omega) (by omega);have:=hm i (i+1) (by omega) (by omega);omega
 intro i hi';have:=lo i hi';have:=hi (N-(i+1)) i hi' (by omega);omega
theorem Bc {N:Nat} {R:Nat→Nat→Prop} {f h:Nat→Nat} (hf:∀ i,i<N→f i<N) (hh:∀ i,i<N→h i<N) (tot:∀ i j,i<N→j<N→i≠j→R i j∨R j i) (mf:∀ i j,i<N→j<N→R i j→f i<f j) (mh:∀ i j,i<N→j<N→R i j→h i<h j):∀ i,i<N→f i=h i:=by
 have inj:∀ i j,i<N→j<N→f i=f j→i=j:=fun i j hi hj e=>by
  by_cases x:i=j
  ·exact x
  ·rcases tot i j hi hj x with r | r
   ·have:=mf i j hi hj r;omega
   ·have:=mf j i hj hi r;omega
 have sf:=xz hf inj
 have:∀ r,∃ v,r<N→∃ i,i<N∧f i=r∧h i=v:=fun r=>by
  by_cases hr:r<N
  ·obtain ⟨i,hi,e⟩:=sf r hr;exact ⟨h i,fun _=>⟨i,hi,e,rfl⟩⟩
  ·exact ⟨0,fun x=>absurd x hr⟩
 obtain ⟨g,hg⟩:=Classical.axiomOfChoice this
 have key:=IA (N:=N) (h:=g) (fun r hr=>by obtain ⟨i,hi,_,e⟩:=hg r hr;rw [←e];exact hh i hi) (fun r s hrs hs=>by
  obtain ⟨i,hi,ei,e⟩:=hg r (by omega);obtain ⟨j,hj,ej,e2⟩:=hg s hs;rw [←e,←e2];rcases tot i j hi hj (fun x=>by subst x;omega) with r | r
  ·exact mh i j hi hj r
  ·have:=mf j i hj hi r;omega)
 intro i hi;obtain ⟨j,hj,ej,e⟩:=hg (f i) (hf i hi);have:=inj j i hj hi ej;subst this;rw [e,key _ (hf j hi)]
section
variable {n:Nat} {b:Nat→Nat} {at_:Nat}
def sy (at_ r:Nat):Nat:=if at_<r then r-1 else r
theorem qG (h:at_≤n) {r:Nat} (hr:r≤n) (hne:r≠at_):sy at_ r<n:=by unfold sy;split <;> omega
theorem tB {r s:Nat} (hr:r≠at_) (hs:s≠at_) (h:r<s):sy at_ r<sy at_ s:=by unfold sy;split <;> split <;> omega
theorem Cj {r s:Nat} (hr:r≠at_) (hs:s≠at_) (h:sy at_ r=sy at_ s):r=s:=by
 rcases Nat.lt_trichotomy r s with x | x | x
 ·have:=tB hr hs x;omega
 ·exact x
 ·have:=tB hs hr x;omega
def ahd (b:Nat→Nat) (i j:Nat):Prop:=b i<b j∨(b i=b j∧i<j)
theorem BS {i j k:Nat} (h:ahd b i j) (g:ahd b j k):ahd b i k:=by unfold ahd at*;omega
theorem Ak (i:Nat):¬ ahd b i i:=by unfold ahd;omega
theorem Hb {i j:Nat} (h:i≠j):ahd b i j∨ahd b j i:=by unfold ahd;omega
noncomputable def lf (n:Nat) (b:Nat→Nat) (at_ r:Nat):Nat:=if r=at_ then 0 else 1+cnt n (fun j=>ahd b j (sy at_ r))
theorem Hs:lf n b at_ at_=0:=by unfold lf;rw [if_pos rfl]
theorem wh {r:Nat} (h:r≠at_):lf n b at_ r=1+cnt n (fun j=>ahd b j (sy at_ r)):=by unfold lf;rw [if_neg h]
theorem JE (h:at_≤n) {r:Nat} (hr:r≤n):lf n b at_ r<n+1:=by
 by_cases e:r=at_
 ·rw [e,Hs];omega
 ·rw [wh e];have h1:=iH (n:=n) (p:=fun j=>ahd b j (sy at_ r)) (q:=fun _=>True) (fun _ _ _=>trivial) (qG h hr e) (Ak _) trivial;have:=fk n (fun _=>True);omega
def ro (b:Nat→Nat) (at_ r s:Nat):Prop:=(r=at_∧s≠at_)∨(r≠at_∧s≠at_∧ahd b (sy at_ r) (sy at_ s))
theorem H5 {r s:Nat} (h:r≠s):ro b at_ r s∨ro b at_ s r:=by
 unfold ro;by_cases e:r=at_
 ·exact .inl (.inl ⟨e,fun x=>h (e.trans x.symm)⟩)
 ·by_cases e2:s=at_
  ·exact .inr (.inl ⟨e2,e⟩)
  ·rcases Hb (b:=b) (i:=sy at_ r) (j:=sy at_ s) (fun x=>h (Cj e e2 x)) with a | a
   ·exact .inl (.inr ⟨e,e2,a⟩)
   ·exact .inr (.inr ⟨e2,e,a⟩)
theorem Gy (h:at_≤n) {r s:Nat} (hr:r≤n) (_:s≤n) (ho:ro b at_ r s):lf n b at_ r<lf n b at_ s:=by
 rcases ho with ⟨e,e2⟩ | ⟨e,e2,a⟩
 ·rw [e,Hs,wh e2];omega
 ·rw [wh e,wh e2];have:=iH (n:=n) (p:=fun j=>ahd b j (sy at_ r)) (q:=fun j=>ahd b j (sy at_ s)) (fun _ _ x=>BS x a) (qG h hr e) (Ak _) a;omega
noncomputable def wk (n:Nat) (b:Nat→Nat) (at_:Nat):Nat→Nat
 |0=>0
 |j+1=>lf n b at_ (wk n b at_ j)
def Kc (n:Nat) (b:Nat→Nat) (at_:Nat):Prop:=(∀ j,j<n→wk n b at_ j≠at_)∧wk n b at_ n=at_
end
structure lM (L B:List Nat) (at_:Nat):Prop where
 len:B.length=L.length
 at0:at_=rank (L.length+1) (bQ L) 0
 sym:∀ i,0<i→i≤L.length→B.getD (sy at_ (rank (L.length+1) (bQ L) i)) 0=L.getD (i-1) 0
theorem gj {L:List Nat} {i:Nat} (h:i≤L.length):rank (L.length+1) (bQ L) i≤L.length:=Nat.le_of_lt_succ (jd (by omega))
theorem nO {L:List Nat} {i j:Nat} (hi:i≤L.length) (hj:j≤L.length) (h:i≠j):rank (L.length+1) (bQ L) i≠rank (L.length+1) (bQ L) j:=fun e=>h (gd (fJ L) (by omega) (by omega) e)
theorem C2 {L:List Nat} {r:Nat} (hr:r≤L.length):∃ i,i≤L.length∧rank (L.length+1) (bQ L) i=r:=by
 obtain ⟨i,hi,e⟩:=xz (n:=L.length+1) (f:=rank (L.length+1) (bQ L)) (fun i hi=>jd hi) (fun i j hi hj e=>gd (fJ L) hi hj e) r (by omega);exact ⟨i,by omega,e⟩
theorem oU (L:List Nat):rank (L.length+1) (bQ L) L.length=0:=oV (fJ L)
theorem C3 {L:List Nat} {i:Nat} (h:i<L.length):0<rank (L.length+1) (bQ L) i:=by
 have:=nO (L:=L) (i:=i) (j:=L.length) (by omega) (by omega) (by omega);rw [oU] at this;omega
theorem z_ {L B:List Nat} {a:Nat} (h:lM L B a):∀ j,j≤L.length→wk L.length (fun i=>B.getD i 0) a j=rank (L.length+1) (bQ L) (L.length-j):=by
 have ht:=fJ L;have ha:a≤L.length:=by rw [h.at0];exact gj (by omega)
 have key:=Bc (N:=L.length+1) (R:=fun i j=>ro (fun i=>B.getD i 0) a (rank (L.length+1) (bQ L) i) (rank (L.length+1) (bQ L) j)) (f:=fun i=>lf L.length (fun i=>B.getD i 0) a (rank (L.length+1) (bQ L) i)) (h:=fun i=>if i=0 then 0 else rank (L.length+1) (bQ L) (i-1))
  (fun i hi=>JE ha (gj (by omega))) (fun i hi=>by show (if _ then _ else _)<_;split;omega;exact jd (by omega))
  (fun i j hi hj e=>H5 (nO (by omega) (by omega) e)) (fun i j hi hj r=>Gy ha (gj (by omega)) (gj (by omega)) r) (fun i j hi hj r=>by
   show (if _ then _ else _)<(if _ then _ else _);rcases r with ⟨e,e2⟩ | ⟨e,e2,r⟩
   ·have i0:i=0:=gd ht hi (by omega) (by rw [e];exact h.at0);have j0:j≠0:=fun x=>by subst x;exact e2 h.at0.symm
    rw [if_pos i0,if_neg j0];exact C3 (by omega)
   ·have i0:i≠0:=fun x=>by subst x;exact e h.at0.symm
    have j0:j≠0:=fun x=>by subst x;exact e2 h.at0.symm
    rw [if_neg i0,if_neg j0];have s1:=h.sym i (by omega) (by omega);have s2:=h.sym j (by omega) (by omega);have t1:=jA (L:=L) (i:=i-1) (by omega);have t2:=jA (L:=L) (i:=j-1) (by omega);apply iB;rw [gu];rcases r with r | ⟨r,r2⟩
    ·refine .inl ⟨by omega,by omega,?_⟩
     dsimp only at r
     rw [t1,t2];omega
    ·refine .inr ⟨?_,?_⟩
     ·dsimp only at r
      rw [t1,t2];omega
     ·rw [show i-1+1=i by omega,show j-1+1=j by omega];refine (vL ht hi hj).1 ?_;rcases Nat.lt_trichotomy (rank (L.length+1) (bQ L) i) (rank (L.length+1) (bQ L) j) with x | x | x
      ·exact x
      ·rw [x] at r2;omega
      ·have:=tB e2 e x;omega)
 intro j
 induction j with
 |zero=>intro _;rw [Nat.sub_zero,oU];rfl
 |succ j ih=>
  intro hj;show lf _ _ _ (wk _ _ _ j)=_;rw [ih (by omega)];have:=key (L.length-j) (by omega);rw [this,if_neg (by omega),show L.length-j-1=L.length-(j+1) by omega]
noncomputable def wl (n:Nat) (b:Nat→Nat) (a:Nat):List Nat:=(List.range n).map fun i=>b (sy a (wk n b a (n-1-i)))
section
variable {n:Nat} {b:Nat→Nat} {at_:Nat}
noncomputable def les (n:Nat) (b:Nat→Nat) (c:Nat):Nat:=cnt n fun j=>b j<c
noncomputable def occ (b:Nat→Nat) (i c:Nat):Nat:=cnt i fun j=>b j=c
theorem rP {p : Nat → Prop} {i : Nat} : ∀ {n : Nat}, i ≤ n → cnt n (fun j => p j ∧ j < i) = cnt i p
  | 0, h => by obtain rfl : i = 0 := by omega
               rfl
  | n + 1, h => by
    rcases Nat.eq_or_lt_of_le h with e | e
    · subst e
      exact da fun j hj => ⟨fun x => x.1, fun x => ⟨x, hj⟩⟩
    · show cnt n _ + _ = _
      rw [rP (by omega), if_neg (by omega)]
      rfl
theorem DC {r:Nat} (h:at_≤n) (hr:r≤n) (hne:r≠at_):lf n b at_ r=1+les n b (b (sy at_ r))+occ b (sy at_ r) (b (sy at_ r)):=by
 have hs:=qG h hr hne;rw [wh hne];unfold ahd les occ;rw [l7 (p:=fun j=>b j<b (sy at_ r)) (q:=fun j=>b j=b (sy at_ r)∧j<sy at_ r) (fun i _ a=>by omega),rP (p:=fun j=>b j=b (sy at_ r)) (Nat.le_of_lt hs)];omega
theorem qx {p:Nat→Prop} {i:Nat} (h:p i):cnt (i+1) p=cnt i p+1:=by
 show _+(if p i then 1 else 0)=_;rw [if_pos h]
theorem yj {p:Nat→Prop} {i:Nat} (h:¬ p i):cnt (i+1) p=cnt i p:=by
 show _+(if p i then 1 else 0)=_;rw [if_neg h];rfl
end
end Go.Proofs.YtcbakncjacnnjaaGreat.SA
namespace Go.Proofs.YtcbakncjacnnjaaGreat.SA
open Classical
section
variable {n:Nat} {b:Nat→Nat} {a:Nat}
noncomputable def ctT (b:Nat→Nat) (i x:Nat):Nat:=if x=0 then 0 else occ b i (x-1)
noncomputable def smT (o n:Nat) (b:Nat→Nat) (c x:Nat):Nat:=if x≤c then o+les n b x else occ b n (x-1)
noncomputable def frT (o n:Nat) (b:Nat→Nat) (i x:Nat):Nat:=if x<512 then o+les n b x+occ b i x else o+les n b 512
noncomputable def nxT (n:Nat) (b:Nat→Nat) (a k r:Nat):Nat:=if r<k then lf n b a r else 0
noncomputable def nxR (n:Nat) (b:Nat→Nat) (a i r:Nat):Nat:=if sy a r<i∧r≠a then lf n b a r else 0
theorem Ik (i c:Nat):occ b i c≤i:=fk _ _
theorem It (c:Nat):les n b c≤n:=fk _ _
theorem Ir {k c:Nat} (ha:a≤n) (hk:k≤n) (hka:k≠a) (hc:b (sy a k)=c):1+les n b c+occ b (sy a k) c=lf n b a k:=by rw [DC ha hk hka,hc]
theorem Hh {k:Nat} (h:a<k):sy a k=k-1:=by unfold sy;rw [if_pos h]
theorem Hg {k:Nat} (h:k≤a):sy a k=k:=by unfold sy;rw [if_neg (by omega)]
end
def dx (L F:List Nat) (r:Nat):Nat:=if r=0 then L.length else F.getD (r-1) 0
theorem oR {L F:List Nat}:dx L F 0=L.length:=rfl
theorem mr {L F:List Nat} (k:Nat):dx L F (k+1)=F.getD k 0:=by unfold dx;rw [if_neg (by omega)];rfl
theorem iz {L F:List Nat} (hS:gT L F) {i:Nat} (hi:i≤L.length):dx L F (rank (L.length+1) (bQ L) i)=i:=by
 rcases Nat.eq_or_lt_of_le hi with e | e
 ·rw [e,oU];rfl
 ·obtain ⟨a,b,c⟩:=DH hS e;unfold dx;rw [if_neg (by omega)];exact c
theorem dU {L F:List Nat} (hS:gT L F) {r:Nat} (hr:r≤L.length):dx L F r≤L.length∧rank (L.length+1) (bQ L) (dx L F r)=r:=by
 unfold dx;split
 ·rename_i e;rw [e];exact ⟨Nat.le_refl _,oU L⟩
 ·obtain ⟨a,b⟩:=ph hS (show r-1<L.length by omega);exact ⟨Nat.le_of_lt a,by omega⟩
structure BwT (L F:List Nat) (m:Nat) (B:List Nat) (a:Nat):Prop where
 nil:L=[]→B=[]∧a=0
 no:L≠[]→a=0→B.length=m∧(∀ r,r<m→dx L F r≠0)∧∀ r,r<m→B.getD r 0=L.getD (dx L F r-1) 0
 yes:L≠[]→0<a→a<m∧dx L F a=0∧B.length+1=m∧∀ r,r<m→r≠a→B.getD (sy a r) 0=L.getD (dx L F r-1) 0
theorem BwT.zero {L F:List Nat}:BwT L F 0 [] 0:=⟨fun _=>⟨rfl,rfl⟩,fun _ _=>⟨rfl,fun r h=>absurd h (by omega),fun r h=>absurd h (by omega)⟩,fun _ h=>absurd h (by omega)⟩
theorem BwT.push {L F B:List Nat} {m a:Nat} (h:BwT L F m B a) (hS:gT L F) (hm:m≤L.length) (hne:dx L F m≠0):BwT L F (m+1) (B++[L.getD (dx L F m-1) 0]) a:=by
 have h0:L≠[]:=fun e=>by
  subst e;have:=(dU hS hm).1;simp at this;exact hne this
 refine ⟨fun e=>absurd e h0,fun _ ha=>?_,fun _ ha=>?_⟩
 ·obtain ⟨h1,h2,h3⟩:=h.no h0 ha;refine ⟨by simp [h1],fun r hr=>?_,fun r hr=>?_⟩
  ·rcases Nat.eq_or_lt_of_le (Nat.le_of_lt_succ hr) with e | e
   ·subst e;exact hne
   ·exact h2 r e
  ·rw [wt,h1];rcases Nat.eq_or_lt_of_le (Nat.le_of_lt_succ hr) with e | e
   ·subst e;rw [if_neg (by omega),if_pos rfl]
   ·rw [if_pos e];exact h3 r e
 ·obtain ⟨h1,h2,h3,h4⟩:=h.yes h0 ha;refine ⟨by omega,h2,by simp [h3],fun r hr hra=>?_⟩;rw [wt];rcases Nat.eq_or_lt_of_le (Nat.le_of_lt_succ hr) with e | e
  ·subst e;rw [Hh h1,if_neg (by omega),if_pos (by omega)]
  ·have:=qG (n:=m-1) (at_:=a) (by omega) (r:=r) (by omega) hra;rw [if_pos (by omega)];exact h4 r e hra
theorem BwT.skip {L F B:List Nat} {m a:Nat} (h:BwT L F m B a) (hS:gT L F) (hm:m≤L.length) (hz:dx L F m=0):BwT L F (m+1) B m:=by
 refine ⟨fun e=>⟨(h.nil e).1,by subst e;simpa using hm⟩,fun h0 ha=>?_,fun h0 ha=>?_⟩
 ·subst ha;rw [oR] at hz;exact absurd (List.eq_nil_of_length_eq_zero hz) h0
 ·rcases Nat.eq_zero_or_pos a with e | e
  ·obtain ⟨h1,h2,h3⟩:=h.no h0 e;refine ⟨by omega,hz,by omega,fun r hr hra=>?_⟩;rw [Hg (by omega)];exact h3 r (by omega)
  ·obtain ⟨h1,h2,h3,h4⟩:=h.yes h0 e;have a1:=(dU hS (show a≤L.length by omega)).2;have a2:=(dU hS hm).2;rw [h2] at a1;rw [hz] at a2;omega
theorem BwT.fin {L F B:List Nat} {a:Nat} (h:BwT L F (L.length+1) B a) (hS:gT L F):lM L B a:=by
 by_cases h0:L=[]
 ·obtain ⟨e1,e2⟩:=h.nil h0;subst e1;subst e2;subst h0;refine ⟨rfl,(oU []).symm,fun i hi hi2=>absurd hi2 (by simp;omega)⟩
 ·have hp:0<L.length:=List.length_pos_iff.2 h0;have hr:=iz hS (Nat.zero_le L.length);have hl:=gj (L:=L) (Nat.zero_le _)
  have ha:0<a:=by
   rcases Nat.eq_zero_or_pos a with e | e
   ·exact absurd hr ((h.no h0 e).2.1 _ (by omega))
   ·exact e
  obtain ⟨h1,h2,h3,h4⟩:=h.yes h0 ha;have a1:=(dU hS (show a≤L.length by omega)).2;rw [h2] at a1;refine ⟨by omega,a1.symm,fun i hi hi2=>?_⟩;have hne:=nO (L:=L) (i:=i) (j:=0) hi2 (by omega) (by omega);have:=h4 _ (Nat.lt_succ_of_le (gj hi2)) (by rw [←a1];exact hne);rw [iz hS hi2] at this;exact this
theorem lM.le {L B:List Nat} {a:Nat} (h:lM L B a):a≤L.length:=by rw [h.at0];exact gj (Nat.zero_le _)
end Go.Proofs.YtcbakncjacnnjaaGreat.SA
namespace Go.Proofs.YtcbakncjacnnjaaGreat.SA
open Classical
section
variable {n:Nat} {t:Nat→Nat}
def pLt (t:Nat→Nat):Nat→List Nat→Prop
 |_,[]=>False
 |i,c::q=>t i<c+1∨(t i=c+1∧pLt t (i+1) q)
def pBg (t:Nat→Nat):Nat→List Nat→Prop
 |_,[]=>True
 |i,c::q=>t i=c+1∧pBg t (i+1) q
def pLe (t:Nat→Nat):Nat→List Nat→Prop
 |_,[]=>True
 |i,c::q=>t i<c+1∨(t i=c+1∧pLe t (i+1) q)
theorem tN:∀ {q:List Nat} {i:Nat},pLe t i q↔pLt t i q∨pBg t i q
 |[],i=>by simp [pLe,pLt,pBg]
 |c::q,i=>by
  simp only [pLe,pLt,pBg];rw [tN (q:=q)];constructor
  ·rintro (a | ⟨a,b | b⟩)
   ·exact .inl (.inl a)
   ·exact .inl (.inr ⟨a,b⟩)
   ·exact .inr ⟨a,b⟩
  ·rintro ((a | ⟨a,b⟩) | ⟨a,b⟩)
   ·exact .inl a
   ·exact .inr ⟨a,.inl b⟩
   ·exact .inr ⟨a,.inr b⟩
theorem zz:∀ {q:List Nat} {i:Nat},pLt t i q→¬ pBg t i q
 |[],_,h,_=>h
 |c::q,i,h,⟨k1,k2⟩=>by
  rcases h with h | ⟨_,h⟩
  ·omega
  ·exact zz h k2
theorem q7:∀ {q:List Nat} {i j:Nat},sl n t j i→pLt t i q→pLt t j q
 |[],_,_,_,h=>h
 |c::q,i,j,hs,h=>by
  rcases gu.1 hs with ⟨_,_,x⟩ | ⟨x,y⟩
  ·rcases h with h | ⟨h,_⟩ <;> exact .inl (by omega)
  ·rcases h with h | ⟨h,k⟩
   ·exact .inl (by omega)
   ·exact .inr ⟨by omega,q7 y k⟩
theorem q8:∀ {q:List Nat} {i j:Nat},sl n t j i→pLe t i q→pLe t j q
 |[],_,_,_,_=>trivial
 |c::q,i,j,hs,h=>by
  rcases gu.1 hs with ⟨_,_,x⟩ | ⟨x,y⟩
  ·rcases h with h | ⟨h,_⟩ <;> exact .inl (by omega)
  ·rcases h with h | ⟨h,k⟩
   ·exact .inl (by omega)
   ·exact .inr ⟨by omega,q8 y k⟩
theorem pn (h:Txt n t) {p:Nat→Prop} (hd:∀ i j,sl n t j i→p i→p j) {i:Nat} (hi:i<n):p i↔rank n t i<cnt n p:=by
 constructor
 ·intro hp;exact iH (fun j _ hj=>hd i j hj hp) hi (oJ _) hp
 ·intro hr;by_cases hp:p i
  ·exact hp
  ·exfalso
   have:cnt n p≤rank n t i:=fj fun j hj hpj=>by
    by_cases e:j=i
    ·subst e;exact absurd hpj hp
    ·rcases qM h rfl hj hi e with a | a
     ·exact a
     ·exact absurd (hd j i a hpj) hp
   omega
theorem nr {p:Nat→Prop}:cnt n p+cnt n (fun i=>¬ p i)=n:=by
 rw [←l7 (fun i _ a b=>b a)]
 have h:cnt n (fun _=>True)=n:=by
  induction n with
  |zero=>rfl
  |succ n ih=>rw [qx trivial,ih]
 exact (da (p:=fun i=>p i∨¬ p i) (q:=fun _=>True) fun i _=>⟨fun _=>trivial,fun _=>Classical.em _⟩).trans h
theorem wK {f:Nat→Nat} {p q:Nat→Prop} (hf:∀ i,i<n→f i<n) (hi:∀ i j,i<n→j<n→f i=f j→i=j) (hp:∀ i,i<n→p i→q (f i)):cnt n p≤cnt n q:=by
 have key:∀ m,m≤n→cnt m p≤cnt n (fun r=>q r∧∃ i,i<m∧f i=r):=by
  intro m
  induction m with
  |zero=>intro _;exact Nat.zero_le _
  |succ m ih=>
   intro hm;have h1:=ih (by omega);by_cases h:p m
   ·rw [qx h];have:=iH (n:=n) (x:=f m) (p:=fun r=>q r∧∃ i,i<m∧f i=r) (q:=fun r=>q r∧∃ i,i<m+1∧f i=r) (fun r _ ⟨a,i,b,c⟩=>⟨a,i,by omega,c⟩) (hf m (by omega)) (fun ⟨_,i,a,b⟩=>by have:=hi i m (by omega) (by omega) b;omega) ⟨hp m (by omega) h,m,by omega,rfl⟩;omega
   ·rw [yj h];have:=fj (n:=n) (p:=fun r=>q r∧∃ i,i<m∧f i=r) (q:=fun r=>q r∧∃ i,i<m+1∧f i=r) (fun r _ ⟨a,i,b,c⟩=>⟨a,i,by omega,c⟩);omega
 exact Nat.le_trans (key n (Nat.le_refl _)) (fj fun r _ h=>h.1)
theorem z6 {f:Nat→Nat} {p q:Nat→Prop} (hf:∀ i,i<n→f i<n) (hi:∀ i j,i<n→j<n→f i=f j→i=j) (hp:∀ i,i<n→(p i↔q (f i))):cnt n p=cnt n q:=by
 have h1:=wK (p:=p) (q:=q) hf hi (fun i h x=>(hp i h).1 x);have h2:=wK (p:=fun i=>¬ p i) (q:=fun i=>¬ q i) hf hi (fun i h x y=>x ((hp i h).2 y));have h3:=nr (n:=n) (p:=p);have h4:=nr (n:=n) (p:=q);omega
theorem Aw {a r m:Nat} (h:r≠a):sy a r<sy a m↔r<m:=by unfold sy;split <;> split <;> omega
end
noncomputable def frP (L q:List Nat):Nat:=cnt (L.length+1) fun i=>pLt (bQ L) i q
noncomputable def toP (L q:List Nat):Nat:=cnt (L.length+1) fun i=>pLe (bQ L) i q
theorem GS (L:List Nat):frP L []=0:=h_ fun _ _ h=>h
theorem Fe (L:List Nat):toP L []=L.length+1:=by
 have:=nr (n:=L.length+1) (p:=fun i=>pLe (bQ L) i []);have h0:cnt (L.length+1) (fun i=>¬ pLe (bQ L) i [])=0:=h_ fun _ _ h=>h trivial
 unfold toP;omega
theorem IN (L q:List Nat):frP L q≤L.length+1:=fk _ _
theorem qC (L q:List Nat):toP L q≤L.length+1:=fk _ _
theorem DY (L q:List Nat):frP L q≤toP L q:=fj fun _ _ h=>tN.2 (.inl h)
theorem GR {L F q:List Nat} (hS:gT L F) {r:Nat} (hr:r≤L.length):pLt (bQ L) (dx L F r) q↔r<frP L q:=by
 obtain ⟨h1,h2⟩:=dU hS hr;have:=pn (fJ L) (p:=fun i=>pLt (bQ L) i q) (fun i j a b=>q7 a b) (Nat.lt_succ_of_le h1);rw [h2] at this;exact this
theorem Fc {L F q:List Nat} (hS:gT L F) {r:Nat} (hr:r≤L.length):pLe (bQ L) (dx L F r) q↔r<toP L q:=by
 obtain ⟨h1,h2⟩:=dU hS hr;have:=pn (fJ L) (p:=fun i=>pLe (bQ L) i q) (fun i j a b=>q8 a b) (Nat.lt_succ_of_le h1);rw [h2] at this;exact this
theorem ux {L F q:List Nat} (hS:gT L F) {r:Nat} (hr:r≤L.length):pBg (bQ L) (dx L F r) q↔frP L q≤r∧r<toP L q:=by
 have h1:=GR (q:=q) hS hr;have h2:=Fc (q:=q) hS hr;rw [tN] at h2;constructor
 ·intro h;have:=h2.1 (.inr h);refine ⟨?_,this⟩;rcases Nat.lt_or_ge r (frP L q) with x | x
  ·exact absurd h (zz (h1.2 x))
  ·exact x
 ·rintro ⟨a,b⟩;rcases h2.2 b with x | x
  ·have:=h1.1 x;omega
  ·exact x
section
variable {L B:List Nat} {a:Nat}
theorem EF (hb:lM L B a):(∀ i,i<L.length→sy a (rank (L.length+1) (bQ L) (i+1))<L.length)∧(∀ i j,i<L.length→j<L.length→sy a (rank (L.length+1) (bQ L) (i+1))=sy a (rank (L.length+1) (bQ L) (j+1))→i=j)∧(∀ i,i<L.length→rank (L.length+1) (bQ L) (i+1)≠a):=by
 have ha:=hb.le;have hne:∀ i,i<L.length→rank (L.length+1) (bQ L) (i+1)≠a:=fun i hi=>by rw [hb.at0];exact nO (by omega) (by omega) (by omega)
 refine ⟨fun i hi=>qG ha (gj (by omega)) (hne i hi),fun i j h1 h2 e=>?_,hne⟩;have:=gd (fJ L) (show i+1<L.length+1 by omega) (show j+1<L.length+1 by omega) (Cj (hne i h1) (hne j h2) e);omega
theorem Iu (hb:lM L B a) (c:Nat):les L.length (fun i=>B.getD i 0) c=les L.length (fun i=>L.getD i 0) c:=by
 obtain ⟨hf,hi,hne⟩:=EF hb;refine (z6 (p:=fun i=>L.getD i 0<c) (q:=fun i=>B.getD i 0<c) hf hi fun i h=>?_).symm;rw [hb.sym (i+1) (by omega) (by omega)];exact Iff.rfl
theorem vv (hb:lM L B a) (c:Nat) (P:Nat→Prop) (hd:∀ i j,sl (L.length+1) (bQ L) j i→P i→P j) :
 cnt (L.length+1) (fun i=>bQ L i<c+1∨(bQ L i=c+1∧P (i+1)))=1+les L.length (fun i=>B.getD i 0) c+occ (fun i=>B.getD i 0) (sy a (cnt (L.length+1) P)) c:=by
 have ha:=hb.le;obtain ⟨hf,hi,hne⟩:=EF hb;rw [l7 (p:=fun i=>bQ L i<c+1) (q:=fun i=>bQ L i=c+1∧P (i+1)) (fun i _ x y=>by omega)]
 have e1:cnt (L.length+1) (fun i=>bQ L i<c+1)=les L.length (fun i=>B.getD i 0) c+1:=by
  rw [qx (by rw [rI];omega),Iu hb]
  congr 1
  exact da fun i hi=>by rw [jA hi];show L.getD i 0+1<c+1↔L.getD i 0<c;omega
 have e2:cnt (L.length+1) (fun i=>bQ L i=c+1∧P (i+1))=occ (fun i=>B.getD i 0) (sy a (cnt (L.length+1) P)) c:=by
  rw [yj (by rw [rI];omega)];have hm:cnt (L.length+1) P≤L.length+1:=fk _ _;have hsy:sy a (cnt (L.length+1) P)≤L.length:=by unfold sy;split <;> omega
  rw [z6 (p:=fun i=>bQ L i=c+1∧P (i+1)) (q:=fun j=>B.getD j 0=c∧j<sy a (cnt (L.length+1) P)) hf hi (fun i h=>by
   rw [hb.sym (i+1) (by omega) (by omega),jA h,Aw (hne i h),←pn (fJ L) hd (show i+1<L.length+1 by omega)];show _↔L.getD i 0=c∧_;constructor
   ·rintro ⟨x,y⟩;exact ⟨by omega,y⟩
   ·rintro ⟨x,y⟩;exact ⟨by omega,y⟩)]
  exact rP (p:=fun j=>B.getD j 0=c) hsy
 rw [e1,e2];omega
theorem DZ (hb:lM L B a) (c:Nat) (q:List Nat):frP L (c::q)=1+les L.length (fun i=>B.getD i 0) c+occ (fun i=>B.getD i 0) (sy a (frP L q)) c:=vv hb c (fun i=>pLt (bQ L) i q) (fun _ _ x y=>q7 x y)
theorem Ce (hb:lM L B a) (c:Nat) (q:List Nat):toP L (c::q)=1+les L.length (fun i=>B.getD i 0) c+occ (fun i=>B.getD i 0) (sy a (toP L q)) c:=vv hb c (fun i=>pLe (bQ L) i q) (fun _ _ x y=>q8 x y)
end
theorem Ad {t:Nat→Nat}:∀ {s q:List Nat} {i:Nat},pBg t i (s++q)→pBg t (i+s.length) q
 |[],_,_,h=>h
 |c::s,q,i,⟨_,h⟩=>by
  have:=Ad h;rw [List.length_cons,show i+(s.length+1)=i+1+s.length by omega];exact this
theorem Ae {L:List Nat}:∀ {q:List Nat} {i:Nat},i≤L.length→pBg (bQ L) i q→i+q.length≤L.length
 |[],i,h,_=>by simpa using h
 |c::q,i,h,⟨h1,h2⟩=>by
  have hi:i<L.length:=by
   rcases Nat.lt_or_ge i L.length with x | x
   ·exact x
   ·rw [show i=L.length by omega,rI] at h1;omega
  have:=Ae (q:=q) (i:=i+1) (by omega) h2;rw [List.length_cons];omega
theorem Gk {L F s q:List Nat} (hS:gT L F) (h:toP L q≤frP L q):∀ i,i≤L.length→¬ pBg (bQ L) i (s++q):=fun i hi hb=>by
 have h1:=Ad hb;have h2:=Ae hi hb;rw [List.length_append] at h2;have h3:=iz hS (show i+s.length≤L.length by omega);rw [←h3] at h1;have:=(ux hS (gj (show i+s.length≤L.length by omega))).1 h1;omega
theorem yr {L:List Nat}:∀ {q:List Nat} {i:Nat},i≤L.length→(pBg (bQ L) i q↔i+q.length≤L.length∧∀ m,m<q.length→L.getD (i+m) 0=q.getD m 0)
 |[],i,h=>⟨fun _=>⟨by simpa using h,fun m hm=>absurd hm (by simp)⟩,fun _=>trivial⟩
 |c::q,i,h=>by
  constructor
  ·intro hb;have hl:=Ae h hb;refine ⟨hl,fun m hm=>?_⟩;obtain ⟨h1,h2⟩:=hb;rw [List.length_cons] at hl hm;cases m with
   |zero=>
    rw [jA (by omega)] at h1;show L.getD i 0=c;omega
   |succ m=>
    have:=((yr (q:=q) (i:=i+1) (by omega)).1 h2).2 m (by omega);rw [show i+(m+1)=i+1+m by omega,this];rfl
  ·rintro ⟨h1,h2⟩;rw [List.length_cons] at h1;refine ⟨?_,(yr (q:=q) (i:=i+1) (by omega)).2 ⟨by omega,fun m hm=>?_⟩⟩
   ·have:=h2 0 (by simp);rw [jA (by omega)];have e:L.getD (i+0) 0=c:=this;rw [Nat.add_zero] at e;omega
   ·have:=h2 (m+1) (by rw [List.length_cons];omega);rw [show i+1+m=i+(m+1) by omega,this];rfl
end Go.Proofs.YtcbakncjacnnjaaGreat.SA
namespace Go.Proofs.YtcbakncjacnnjaaGreat.SA
open Classical
theorem Gx {L B:List Nat} {a i:Nat} (hb:lM L B a) (h0:0<i) (hi:i≤L.length):lf L.length (fun i=>B.getD i 0) a (rank (L.length+1) (bQ L) i)=rank (L.length+1) (bQ L) (i-1):=by
 have h1:=z_ hb (L.length-i) (by omega);have h2:=z_ hb (L.length-i+1) (by omega);rw [show L.length-(L.length-i)=i by omega] at h1;rw [show L.length-(L.length-i+1)=i-1 by omega] at h2;rw [←h1,←h2];rfl
theorem FG {L F B:List Nat} {a r:Nat} (hS:gT L F) (hb:lM L B a) (hr:r≤L.length) (hne:r≠a):lf L.length (fun i=>B.getD i 0) a r≤L.length∧0<dx L F r∧dx L F (lf L.length (fun i=>B.getD i 0) a r)=dx L F r-1∧B.getD (sy a r) 0=L.getD (dx L F r-1) 0:=by
 obtain ⟨h1,h2⟩:=dU hS hr
 have h0:0<dx L F r:=by
  rcases Nat.eq_zero_or_pos (dx L F r) with e | e
  ·rw [e,←hb.at0] at h2;exact absurd h2.symm hne
  ·exact e
 have h3:=Gx hb h0 h1;rw [h2] at h3;have h4:=hb.sym _ h0 h1;rw [h2] at h4;refine ⟨by rw [h3];exact gj (by omega),h0,?_,h4⟩;rw [h3,iz hS (by omega)]
theorem FH {L F B:List Nat} {a:Nat} (hS:gT L F) (hb:lM L B a):dx L F a=0:=by
 rw [hb.at0];exact iz hS (Nat.zero_le _)
theorem CO {L F:List Nat} (hS:gT L F) {r s:Nat} (hr:r≤L.length) (hs:s≤L.length) (h:dx L F r=dx L F s):r=s:=by
 have a:=(dU hS hr).2;have b:=(dU hS hs).2;rw [h] at a;omega
theorem wP:∀ {a b:List Nat},a.Pairwise (·<·)→b.Pairwise (·<·)→(∀ x,x∈a↔x∈b)→a=b
 |[],[],_,_,_=>rfl
 |[],y::b,_,_,h=>absurd ((h y).2 (List.mem_cons_self ..)) (by simp)
 |x::a,[],_,_,h=>absurd ((h x).1 (List.mem_cons_self ..)) (by simp)
 |x::a,y::b,ha,hb,h=>by
  rw [List.pairwise_cons] at ha hb
  have e:x=y:=by
   rcases List.mem_cons.1 ((h x).1 (List.mem_cons_self ..)) with e | e
   ·exact e
   ·rcases List.mem_cons.1 ((h y).2 (List.mem_cons_self ..)) with e2 | e2
    ·exact e2.symm
    ·have:=hb.1 x e;have:=ha.1 y e2;omega
  subst e
  congr 1
  refine wP ha.2 hb.2 fun z=>⟨fun hz=>?_,fun hz=>?_⟩
  ·rcases List.mem_cons.1 ((h z).1 (List.mem_cons_of_mem _ hz)) with e | e
   ·subst e;have:=ha.1 z hz;omega
   ·exact e
  ·rcases List.mem_cons.1 ((h z).2 (List.mem_cons_of_mem _ hz)) with e | e
   ·subst e;have:=hb.1 z hz;omega
   ·exact e
noncomputable def eC (L p:List Nat):List Nat:=(List.range L.length).filter fun i=>decide (pBg (bQ L) i p)
noncomputable def JL (L p:List Nat) (k:Nat):List Nat:=(List.range k).filter fun i=>decide (pBg (bQ L) i p)
theorem D0 {L p:List Nat} {k:Nat}:(JL L p k).length≤k:=by
 have:=List.length_filter_le (fun i=>decide (pBg (bQ L) i p)) (List.range k);rw [List.length_range] at this;exact this
theorem D1 (L p:List Nat):(eC L p).Pairwise (·<·):=List.Pairwise.filter _ (List.pairwise_lt_range (n:=L.length))
theorem wc {L p:List Nat} {i:Nat}:i∈eC L p↔i<L.length∧pBg (bQ L) i p:=by
 unfold eC;rw [List.mem_filter,List.mem_range,decide_eq_true_iff]
def plc (L F:List Nat) (fr k:Nat):List Nat:=(List.range k).map fun j=>dx L F (fr+j)
theorem Da {L F:List Nat} {fr k:Nat}:plc L F fr (k+1)=plc L F fr k++[dx L F (fr+k)]:=by
 unfold plc;rw [List.range_succ,List.map_append];rfl
theorem tM {L F:List Nat} {fr k:Nat}:(plc L F fr k).length=k:=by simp [plc]
theorem F_ {L F p:List Nat} (hS:gT L F) (hp:p≠[]) {x:Nat}:x∈plc L F (frP L p) (toP L p-frP L p)↔x∈eC L p:=by
 have hle:=qC L p;unfold plc;rw [List.mem_map,wc];constructor
 ·rintro ⟨j,hj,rfl⟩;have hj:=List.mem_range.1 hj;have hr:frP L p+j≤L.length:=by omega
  have h1:=(ux (q:=p) hS hr).2 ⟨by omega,by omega⟩;refine ⟨?_,h1⟩;have:=Ae (dU hS hr).1 h1;have:=List.length_pos_iff.2 hp;omega
 ·rintro ⟨h1,h2⟩;have hs:=iz hS (Nat.le_of_lt h1);rw [←hs] at h2;have:=(ux hS (gj (Nat.le_of_lt h1))).1 h2;exact ⟨rank (L.length+1) (bQ L) x-frP L p,List.mem_range.2 (by omega),by rw [show frP L p+(rank (L.length+1) (bQ L) x-frP L p)=rank (L.length+1) (bQ L) x by omega];exact hs⟩
theorem AW {L F:List Nat} (hS:gT L F) {fr k:Nat} (h:fr+k≤L.length+1):(plc L F fr k).Nodup:=by
 unfold plc;refine List.pairwise_map.2 ((List.pairwise_lt_range (n:=k)).imp_of_mem fun {i j} hi hj hij e=>?_);have h1:=List.mem_range.1 hi;have h2:=List.mem_range.1 hj;have:=CO hS (show fr+i≤L.length by omega) (show fr+j≤L.length by omega) e;omega
noncomputable def spF (L p:List Nat) (i:Nat):Nat:=if frP L p<min i (toP L p) then frP L p else 0
noncomputable def spT (L p:List Nat) (i:Nat):Nat:=if frP L p<min i (toP L p) then min i (toP L p) else 0
noncomputable def rwF (L p:List Nat):Nat:=if frP L p<toP L p then frP L p else 0
noncomputable def rwT (L p:List Nat):Nat:=if frP L p<toP L p then toP L p else 0
theorem H2 {L p:List Nat} (h:frP L p<toP L p):rwF L p=frP L p∧rwT L p=toP L p:=by
 unfold rwF rwT;rw [if_pos h,if_pos h];exact ⟨rfl,rfl⟩
theorem Fz {L F s q:List Nat} (hS:gT L F) (h:toP L q≤frP L q):rwF L (s++q)=0∧rwT L (s++q)=0:=by
 have hn:¬ frP L (s++q)<toP L (s++q):=fun x=>by
  have:=qC L (s++q);exact Gk hS h _ (dU hS (show frP L (s++q)≤L.length by omega)).1 ((ux hS (by omega)).2 ⟨Nat.le_refl _,x⟩)
 unfold rwF rwT;rw [if_neg hn,if_neg hn];exact ⟨rfl,rfl⟩
theorem CE (L p:List Nat):rwF L p≤rwT L p∧rwT L p≤L.length+1:=by
 have:=qC L p;unfold rwF rwT;split <;> omega
noncomputable def smp (L F:List Nat) (k:Nat):List Nat:=(List.range k).filter fun r=>decide (dx L F r%8=0)
theorem zl {L F:List Nat} {k:Nat} (h:dx L F k%8=0):smp L F (k+1)=smp L F k++[k]:=by
 unfold smp;rw [List.range_succ,List.filter_append,List.filter_cons_of_pos (by simpa using h)];rfl
theorem Ct {L F:List Nat} {k:Nat} (h:dx L F k%8≠0):smp L F (k+1)=smp L F k:=by
 unfold smp;rw [List.range_succ,List.filter_append,List.filter_cons_of_neg (by simpa using h)];simp
theorem Cv {L F:List Nat} {k:Nat}:(smp L F k).length≤k:=by
 have:=List.length_filter_le (fun r=>decide (dx L F r%8=0)) (List.range k);rw [List.length_range] at this;exact this
theorem Fq (L F:List Nat) (k:Nat):(smp L F k).Pairwise (·<·):=List.Pairwise.filter _ (List.pairwise_lt_range (n:=k))
theorem zE {L F:List Nat} {k r:Nat}:r∈smp L F k↔r<k∧dx L F r%8=0:=by
 unfold smp;rw [List.mem_filter,List.mem_range,decide_eq_true_iff]
theorem Cu {L F:List Nat} {k i j:Nat} (hij:i<j) (hj:j<(smp L F k).length):(smp L F k).getD i 0<(smp L F k).getD j 0:=by
 have:=List.pairwise_iff_getElem.1 (Fq L F k) i j (by omega) hj hij;rw [List.getD_eq_getElem?_getD,List.getD_eq_getElem?_getD,List.getElem?_eq_getElem (by omega),List.getElem?_eq_getElem hj];exact this
theorem Fp {L F:List Nat} {k i:Nat} (hi:i<(smp L F k).length):(smp L F k).getD i 0<k∧dx L F ((smp L F k).getD i 0)%8=0:=by
 rw [List.getD_eq_getElem?_getD,List.getElem?_eq_getElem hi];exact zE.1 (List.getElem_mem hi)
theorem Cw {L F:List Nat} {k i r:Nat} (hi:i≤(smp L F k).length) (hlo:∀ j,j<i→(smp L F k).getD j 0<r) (hhi:∀ j,i≤j→j<(smp L F k).length→r≤(smp L F k).getD j 0) (hr:r<k) (hs:dx L F r%8=0):i<(smp L F k).length∧(smp L F k).getD i 0=r:=by
 obtain ⟨j,hj,e⟩:=List.getElem_of_mem (zE.2 ⟨hr,hs⟩);have e2:(smp L F k).getD j 0=r:=by rw [List.getD_eq_getElem?_getD,List.getElem?_eq_getElem hj];exact e
 rcases Nat.lt_trichotomy j i with x | x | x
 ·have:=hlo j x;omega
 ·subst x;exact ⟨hj,e2⟩
 ·have:=hhi i (Nat.le_refl _) (by omega);have:=Cu x hj;omega
end Go.Proofs.YtcbakncjacnnjaaGreat.SA
namespace Go.Proofs.YtcbakncjacnnjaaGreat
open Go.Proofs.Tryz (prog)
open Go.RowKit Go.ChangeShapes Go.WideShapes Go.ChangeAt
open Go.Proofs.YtcbakncjacnnjaaGreat.SA
def pls (L q:List Nat):List Nat:=(List.range L.length).filter fun i=>q.isPrefixOf (L.drop i)
theorem rV {L q:List Nat} {i:Nat} (h:i≤L.length):pBg (bQ L) i q↔q.isPrefixOf (L.drop i)=true:=by
 rw [yr h,List.isPrefixOf_iff_prefix];constructor
 ·rintro ⟨h1,h2⟩;refine ⟨(L.drop i).drop q.length,?_⟩;refine List.ext_getElem (by rw [List.length_append,List.length_drop,List.length_drop];omega) fun m a b=>?_
  rw [List.getElem_append];split
  ·rename_i hm;have:=h2 m hm;rw [List.getD_eq_getElem?_getD,List.getD_eq_getElem?_getD,List.getElem?_eq_getElem hm,List.getElem?_eq_getElem (by omega)] at this;simp only [Option.getD_some] at this;rw [←this,List.getElem_drop]
  ·simp only [List.getElem_drop]
   congr 1
   omega
 ·rintro ⟨r,hr⟩;have hl:=congrArg List.length hr;rw [List.length_append,List.length_drop] at hl;refine ⟨by omega,fun m hm=>?_⟩;have e:=congrArg (fun l=>l[m]?) hr;simp only [List.getElem?_append_left hm,List.getElem?_drop] at e;rw [List.getD_eq_getElem?_getD,List.getD_eq_getElem?_getD,e]
open Classical in
theorem GV (L q:List Nat):eC L q=pls L q:=by
 unfold eC pls;refine List.filter_congr fun i hi=>?_
 have:=List.mem_range.1 hi;rw [Bool.eq_iff_iff];exact ⟨fun h=>(rV (by omega)).1 (dT_ h),fun h=>decide_eq_true ((rV (by omega)).2 h)⟩
theorem F5 {q X R:List Nat} (h:0 ∉ q):q.isPrefixOf (X++0::R)=q.isPrefixOf X:=by
 induction q generalizing X with
 |nil=>cases X <;> rfl
 |cons c q ih=>
  cases X with
  |nil=>
   show (c==0&&_)=false
   have:(c==0)=false:=by
    rw [beq_eq_false_iff_ne];exact fun e=>h (by rw [e];exact List.mem_cons_self ..)
   rw [this,Bool.false_and]
  |cons d X=>
   show (c==d&&q.isPrefixOf (X++0::R))=(c==d&&q.isPrefixOf X);rw [ih fun x=>h (List.mem_cons_of_mem _ x)]
theorem F8 {t R q:List Nat} (h0:0 ∉ q):pls (t++0::R) q=ks t q++(pls R q).map (·+(t.length+1)):=by
 unfold pls ks;rw [List.length_append,List.length_cons,show t.length+(R.length+1)=(t.length+1)+R.length by omega,List.range_add,List.filter_append]
 congr 1
 ·refine List.filter_congr fun i hi=>?_
  have:=List.mem_range.1 hi;rw [List.drop_append_of_le_length (by omega),F5 h0]
 ·rw [List.filter_map];have e:(fun i=>t.length+1+i)=(fun i=>i+(t.length+1)):=funext fun i=>by omega
  rw [e]
  congr 1
  refine List.filter_congr fun i hi=>?_
  show q.isPrefixOf ((t++0::R).drop (i+(t.length+1)))=_;rw [show i+(t.length+1)=t.length+(1+i) by omega,←List.drop_drop,List.drop_append_of_le_length (Nat.le_refl _),List.drop_length,List.nil_append,Nat.add_comm,List.drop_succ_cons]
theorem wo {p:ByteArray} (hp:txt p≠[]):∀ ds:List Dc,(pls (dA ds) (txt p)).map (lG ds)=eg ds p
 |[]=>rfl
 |d::ds=>by
  rw [dA,F8 (Fa p),List.map_append,eg,List.map_map,←wo hp ds]
  congr 1
  ·refine List.map_congr_left fun k hk=>?_
   have:=JI hp k hk;simp only [eo] at this;unfold lG loc;rw [if_pos (by omega)];rfl
  ·refine List.map_congr_left fun k hk=>?_
   show lG (d::ds) (k+((txt d.2).length+1))=lG ds k;unfold lG;rw [loc,eo,if_neg (by omega),Nat.add_sub_cancel];rfl
end Go.Proofs.YtcbakncjacnnjaaGreat
namespace Go.Proofs.YtcbakncjacnnjaaGreat
open Go.Proofs.Tryz (prog)
open Go.RowKit
open Go.ChangeShapes Go.WideShapes Go.ChangeAt
open Go.Proofs.YtcbakncjacnnjaaGreat.SA
theorem cF:fH prog 86=some (3,1,8,(.int .i64 0)):=by kernel_rfl
theorem pT:az prog 94=true:=by kernel_rfl
section
variable {P:Program} {ρ:Operand→Value} {w:World} {t:TypeId} {x y:Operand}
theorem CV {e by_ m:Nat} {z:Value} {kl kc:IntKind} (ht:kB P t=some (e,by_,z)) (hz:z.cells=#[z]) (hx:ρ x=.int kl 0) (hy:ρ y=.int kc (m:Nat)) (hm:m≤9223372036854775807) (hb:by_*m≤281474976710656) :
 ∃ cs:Array Value,cs.size=m∧RO P ρ (.makeSlice t x y) w (.slice (some ⟨w.heap.size,0,none⟩) 0 m) (w.alloc (.cells cs e)):=by
 unfold kB at ht;split at ht
 ·rename_i e' hu;cases hi:P.info? e' with
  |none=>simp [hi] at ht
  |some i=>
   rw [hi] at ht;simp only [Option.bind_some] at ht;split at ht
   ·rename_i hs;cases hzz:i.zero with
    |none=>simp [hzz] at ht
    |some z'=>
     simp only [hzz,Option.map_some,Option.some.injEq,Prod.mk.injEq] at ht;obtain ⟨rfl,rfl,rfl⟩:=ht
     have hr:=run_make (P:=P) w t e' i z' hu hi hzz kl kc 0 (m:Int) (by omega) (by omega) (by
      have:((i.bytes*m:Nat):Int)≤281474976710656:=by omega
      rwa [Int.natCast_mul] at this) (by omega)
     rw [Int.toNat_natCast] at hr;exact ⟨madeCells z'.cells (m*i.size),by simp [madeCells,hs],fun _ _ _ _ _=>by simp [execOp,hx,hy,hr]⟩
   ·cases ht
 ·cases ht
end
theorem Do {P:Program} {ρ:Operand→Value} {w:World} {t:TypeId} {x y:Operand} {e by_ m base:Nat} {z:Value} {kl kc:IntKind} (ht:kB P t=some (e,by_,z)) (hz:z.cells=#[z]) (hx:ρ x=.int kl 0) (hy:ρ y=.int kc (m:Nat)) (hm:m≤9007199254740992) (hb:by_*m≤281474976710656) (hbs:base≤w.heap.size) :
 ∃ v w',RO P ρ (.makeSlice t x y) w v w'∧aj w w'∧∃ g,v=.slice (some ⟨g,0,none⟩) 0 m∧w'.ownsRow base e 1 (.slice (some ⟨g,0,none⟩) 0 m) 0 []:=by
 obtain ⟨cs,h1,h2⟩:=CV (w:=w) ht hz hx hy (by omega) hb;exact ⟨_,_,h2,aj.rfl_.new _,_,rfl,by simp,.inr ⟨_,m,cs,rfl,hbs,heap_alloc_new _ _,Nat.zero_le _,by unfold maxLen;omega,by simpa using h1,by simp⟩⟩
theorem Jz {P:Program} {ops:Array Oper} {n:Fr} {L:List (Nat×Value)} {w:World} {d:Nat} {op:Op} {ty:TypeId} {pos:String} {after:Array Edge} {R:Value→World→Prop} (h:∃ v w',RO P (ev n L) op w v w'∧aj w w'∧R v w'):al P ops n L ⟨d,op,ty,pos,after,none⟩ w R:=by
 obtain ⟨v,w',a,b,c⟩:=h;exact fG a b c
def J_ (w':World) (base:Nat) (xs:List Int) (v:Value):Prop:=
 (xs.all (okS 512)=false∧v=.tuple #[.slice none 0 0,.int .i64 0,.int .i64 1])∨
 (∃ L B a A' c',xs=cI L∧(∀ x∈L,x<512)∧lM L B a∧v=.tuple #[.slice A' B.length c',.int .i64 (a:Nat),.int .i64 0]∧w'.ownsRow base 3 1 (.slice A' B.length c') B.length ((cI B).map iV))
theorem ED:lM [] [] 0:=⟨rfl,(oU []).symm,fun i hi hi2=>absurd hi2 (by simp;omega)⟩
theorem G7 {B:List Nat} {x:Nat}:(cI (B++[x])).map iV=(cI B).map iV++[iV ((x:Nat):Int)]:=by simp [cI]
theorem SA.BwT.len_le {L F B:List Nat} {m a:Nat} (h:BwT L F m B a):B.length≤m:=by
 by_cases h0:L=[]
 ·rw [(h.nil h0).1];exact Nat.zero_le _
 ·rcases Nat.eq_zero_or_pos a with e | e
  ·rw [(h.no h0 e).1];exact Nat.le_refl _
  ·have:=(h.yes h0 e).2.2.1;omega
theorem Gt (A:Option Addr) (c n:Nat) (xs:List Int) (w:World) (hr:bA iV w A xs) (hn:n=xs.length) (hl:n≤131072) :
 Rt prog 92 [.slice A n c] w (fun v w'=>J_ w' w.heap.size xs v∧aj w w'):=by
 refine enter (n:=54) Tryz.func92 rfl rfl rfl (af (aa (ass rfl (asi rfl (asi rfl (ah (ab (af (aa (mvs rfl (aF pT (zk A c n xs _ (hr.from_ aj.rfl_) hn hl) ?_)))))))))));rintro v10 w1 ⟨hs10,E10⟩;rcases hs10 with ⟨hbad,rfl⟩ | ⟨Ln,F,A',hLn,hlt,hSA,rfl,ho10⟩
 ·refine mvt rfl (ae (ax rfl rfl) (ae (ax rfl rfl) (ass rfl (asi rfl (ah (ab (af (af (aa (mvi rfl (ae (cD rfl rfl) (mvb rfl ?_))))))))))));refine Jh (t:=15) rfl (fun Q2=>?_) (fun Q2=>?_);rotate_left
  ·exfalso;omega
  refine aL rfl rfl (aL rfl rfl (aL rfl rfl (ae (bB (v:=.bool _) rfl rfl) (ah (ab (cW rfl (af (aa (mvi rfl (ass rfl ?_))))))))));refine asi rfl (asi rfl (ah (ab (ay (aD (sI (v:=.slice _ _ _) (v':=.int _ _) (v'':=.int _ _) rfl rfl rfl rfl ?_))))))
  first
   |exact ⟨.inl ⟨hbad,rfl⟩,(aj.rfl_.next E10)⟩
   |(obtain rfl:Ln=[]:=List.eq_nil_of_length_eq_zero (by omega)
     exact ⟨.inr ⟨[],[],0,none,0,hLn,hlt,ED,rfl,World.ownsRow_nil _ _ _ _⟩,(aj.rfl_.next E10)⟩)
 have hLl:Ln.length=n:=by rw [hn,hLn,List.length_map]
 have hBz:aj w w1:=E10;have hrF:=(s4 ho10).2;have hFl:=hSA.len;have hrL:bA iV w A (cI Ln):=by rw [cI,←hLn];exact hr
 refine mvt rfl (ae (ax rfl rfl) (ae (ax rfl rfl) (ass rfl (asi rfl (ah (ab (af (af (aa (mvi rfl (ae (cD rfl rfl) (mvb rfl ?_))))))))))));refine Jh (t:=15) rfl (fun Q24=>?_) (fun Q24=>?_)
 ·exfalso;omega
 refine ao rfl (mvs rfl (ao rfl (ae (aQ bu rfl) (ao rfl (ae (cx rfl rfl) (ae (bk (v:=.bool _) rfl rfl) (ah (ab (JV rfl (fun Q25=>?_) (fun Q25=>?_))))))))))
 ·refine af (aa (mvi rfl (ass rfl (asi rfl (asi rfl (ah (ab (ay (aD (sI (v:=.slice _ _ _) (v':=.int _ _) (v'':=.int _ _) rfl rfl rfl rfl ?_))))))))))
  first
   |exact ⟨.inl ⟨hbad,rfl⟩,(aj.rfl_.next E10)⟩
   |(obtain rfl:Ln=[]:=List.eq_nil_of_length_eq_zero (by omega)
     exact ⟨.inr ⟨[],[],0,none,0,hLn,hlt,ED,rfl,World.ownsRow_nil _ _ _ _⟩,(aj.rfl_.next E10)⟩)
 obtain ⟨bl,ol,rfl,hcl⟩:=CQ hrL (by omega);obtain ⟨bF,oF,rfl,hcF⟩:=CQ hrF (by omega)
 have hfirst:BwT Ln F 1 [Ln.getD (n-1) 0] 0:=by
  have:=BwT.zero.push hSA (Nat.zero_le _) (by rw [oR];omega);rw [oR,hLl] at this;exact this
 have hFz:aj w1 w1:=aj.rfl_;have hT:BwT Ln F 0 [] 0:=BwT.zero;refine av (ab (af ?_));apply EB 11 10 [23,30] [(21,eqp _),(22,eqp _),(23,fun v w'=>∃ g,v=.slice (some ⟨g,0,none⟩) 0 n∧w'.ownsRow w1.heap.size 3 1 (.slice (some ⟨g,0,none⟩) 0 n) 0 []),(24,eqp _),(25,eqp _),(26,eqp _),(27,eqp _),(28,eqp _),(29,eqp _),(30,fun v w'=>∃ g,v=.slice (some ⟨g,0,none⟩) 1 1∧Blk w' g 3 #[.int .i64 ((Ln.getD (n-1) 0:Nat):Int)]),(31,fun v w'=>∃ A3 c3,v=.slice A3 1 c3∧w'.ownsRow w1.heap.size 3 1 (.slice A3 1 c3) 1 [iV ((Ln.getD (n-1) 0:Nat):Int)])] (fun w'=>aj w1 w') (fun w'=>aj w1 w') (by repeat first | exact cy | refine cm ?_ | refine bO ?_) (by kernel_rfl) (by kernel_rfl) (by kernel_rfl) ⟨ag _,ag _,(fun _ _ _ hF ⟨g,h1,h2⟩=>⟨g,h1,h2.kept_from hF⟩),ag _,ag _,ag _,ag _,ag _,ag _,(fun _ _ _ hF ⟨g,h1,h2⟩=>⟨g,h1,h2.from_ hF⟩),(fun _ _ _ hF ⟨A2,c2,h1,h2⟩=>⟨A2,c2,h1,h2.kept_from hF⟩),trivial⟩ (aj.rfl_.d1) (aj.rfl_.d1) (fun _ _ hF h=>h.next hF) (fun _ _ hF h=>h.next hF)
 case hop=>
  constructor
  ·rintro-w27 D27;exact ai (aq (v:=.slice _ _ _) rfl) rfl
  constructor
  ·rintro-w28 D28;rintro _ rfl;exact ai (aQ bu rfl) rfl
  constructor
  ·rintro-w29 D29;rintro _ rfl;refine Jz (Do (m:=n) (base:=w1.heap.size) dL rfl rfl rfl (by omega) (by omega) D29.size)
  constructor
  ·rintro-w30 D30;exact ai (aq (v:=.slice _ _ _) rfl) rfl
  constructor
  ·rintro-w31 D31;exact ai (aq (v:=.slice _ _ _) rfl) rfl
  constructor
  ·rintro-w32 D32;rintro _ rfl;exact ai (aQ bu rfl) rfl
  constructor
  ·rintro-w33 D33;rintro _ rfl;exact ai (bP (b:=1) rfl rfl (by omega)) rfl
  constructor
  ·rintro-w34 D34;rintro _ rfl _ rfl;exact ai (aX bJ rfl rfl (by omega)) rfl
  constructor
  ·rintro-w35 D35;rintro _ rfl;exact ai (an aU rfl (by exact bx (hBz.next D35) (hcl (n-1) (by omega)))) rfl
  constructor
  ·rintro-w36 D36;rintro _ rfl;exact fG (ql cF rfl rfl rfl) (aj.rfl_.new _) ⟨_,rfl,Blk.new _ _ _⟩
  constructor
  ·intro h;cases h
  exact trivial
 case hmu=>
  rintro w38 D38;rintro v38_23 ⟨g23,rfl,ho23⟩ v38_30 ⟨b30,rfl,hk30⟩;show mM ..;refine mB cF rfl (by decide) rfl ho23 D38.size rfl rfl ⟨_,_,rfl,hk30.whole⟩ (by simp [Value.oneCell']) (by omega) (by omega) ?_;intro A3 c3 w3 ho3 hg3;exact ⟨D38.grew hg3 (fun k hk=>(cd ho23 k hk).1),⟨A3,c3,rfl,ho3⟩,fun t u ht h=>iT (by repeat first | exact trivial | refine ⟨.inl rfl,?_⟩ | refine ⟨.inr (fun _ h=>h),?_⟩) t u ht h⟩
 case hend=>
  rintro w39 D39;rintro _ rfl _ rfl v23 _ _ rfl _ rfl _ rfl _ rfl _ rfl _ rfl v30 _ v31 ⟨A31,c31,rfl,ho31⟩;show St ..;have HF31:=D39;refine ass rfl (ah (ab (af (af (aa (mvs rfl (ae (aQ bu rfl) (mvi rfl (ah (ab (aw (a_ (G:=Nat×List Nat×Option Addr×Nat×Nat) [6,7,35,36,37,38,39,40,41,42,43,44,45,46,47,48,49,50,51] (fun (k,Bs,A2,c2,a)=>[(2,.slice A2 Bs.length c2),(3,.int .i64 (a:Nat)),(34,.int .i64 (k:Nat))]) (fun (k,Bs,A2,c2,a) w'=>k≤n∧BwT Ln F (k+1) Bs a∧w'.ownsRow w1.heap.size 3 1 (.slice A2 Bs.length c2) Bs.length ((cI Bs).map iV)∧aj w1 w') (fun (k,_)=>n-k) ((0,[Ln.getD (n-1) 0],A31,c31,0)) ⟨rfl,rfl,rfl,trivial⟩ ?_ ?_))))))))))))
  ·exact ⟨Nat.zero_le _,hfirst,by simpa [cI] using ho31.kept_from aj.rfl_,HF31.next aj.rfl_⟩
  rintro ⟨k,Bs,A2,c2,a⟩ ρ40 w40 ⟨hk,hT,ho,hFz⟩;refine af (aa (ae (aW rfl rfl) (ah (ab (af (JV rfl (fun Q41=>?_) (fun Q41=>?_)))))))
  ·have hfk:=(ph hSA (show k<Ln.length by omega)).1;refine av (ab (gz (G:=List Nat×Option Addr×Nat×Nat) [6,7,36,37,38,39,40,41,42,43,44,45,46,47,48,49,50] (fun (Bs',A2',c2',a')=>[(2,.slice A2' Bs'.length c2'),(3,.int .i64 (a':Nat))]) (fun (Bs',A2',c2',a') w'=>BwT Ln F (k+1+1) Bs' a'∧w'.ownsRow w1.heap.size 3 1 (.slice A2' Bs'.length c2') Bs'.length ((cI Bs').map iV)∧aj w1 w') ?_ ?_))
   ·refine aw (af (aa (mvi rfl (ae (aX bJ rfl rfl (by omega)) (ae (an aU rfl (by exact bx (hFz.next aj.rfl_) (hcF k (by omega)))) ?_)))));refine asi rfl (asi rfl (ah (ab (af (af (aa (mvi rfl (ae (cx rfl rfl) (ah (ab (JV rfl (fun Q42=>?_) (fun Q42=>?_))))))))))))
    ·refine af (aa (mvi rfl (ae (aG (b:=1) rfl rfl (by omega)) (asi rfl (ah (ab (bc (aC (aS ?_)))))))));refine aO ((Bs,A2,c2,k+1)) ⟨rfl,rfl,trivial⟩ (by (iterate 10 refine aB rfl ?_);exact aJ) ?_;exact ⟨hT.skip hSA (by omega) (by rw [mr];omega),ho.kept_from aj.rfl_,hFz.next aj.rfl_⟩
    refine av (ab (aa (mvs rfl (mvs rfl (mvi rfl (ae (bP (b:=1) rfl rfl (by omega)) (ae (aX bJ rfl rfl (by omega)) (ae (an aU rfl (by exact bx (hBz.next hFz) (hcl (F.getD k 0-1) (by omega)))) ?_))))))));refine fy (v:=.int _ _) cF rfl rfl rfl ?_;intro b49 w43 E49 hb49 hk49;have hap50:=hT.len_le;refine dB cF rfl (by decide) rfl (A:=A2) (xs:=(cI Bs).map iV) (news:=[iV ((Ln.getD (F.getD k 0-1) 0:Nat):Int)]) (ho.kept_from (aj.rfl_.next E49)) ((hFz.next (aj.rfl_.next E49)).size) rfl rfl (fun _=>⟨b49,0,rfl,hk49.whole⟩) (fun h=>by cases h) (by simp [Value.oneCell']) (by omega) (by omega) ?_;intro A50 c50 w44 ho50 hg50;have HF50:=(hFz.next (aj.rfl_.next E49)).grew hg50 (fun k hk=>(cd (ho.kept_from (aj.rfl_.next E49)) k hk).1);refine ass rfl (ah (aI ?_));refine aO ((Bs++[Ln.getD (F.getD k 0-1) 0],A50,c50,a)) ⟨(by rw [List.length_append];rfl),rfl,trivial⟩ (by (iterate 16 refine aB rfl ?_);exact aJ) ?_;exact ⟨by have:=hT.push hSA (by omega) (by rw [mr];omega);rw [mr] at this;exact this,by rw [List.length_append,G7];exact ho50.kept_from aj.rfl_,HF50.next aj.rfl_⟩
   rintro ⟨Bs',A2',c2',a'⟩ ρ45 w45 ⟨hT',ho',hFz'⟩;refine aa (ae (fE rfl rfl (by omega)) (mvi rfl (ah ?_)));refine aO ((k+1,Bs',A2',c2',a')) ⟨(by first | rfl | (refine aK ?_;omega)),(by first | rfl | (refine aK ?_;omega)),(by first | rfl | (refine aK ?_;omega)),trivial⟩ (by (iterate 44 refine aB rfl ?_);exact aJ) ⟨?_,?_⟩
   ·exact ⟨by omega,hT',ho'.kept_from aj.rfl_,hFz'.next aj.rfl_⟩
   ·show n-(k+1)<n-k;omega
  refine bc (aC (aC (aS (ab (af (aa (mvs rfl (mvi rfl (ass rfl (asi rfl (asi rfl (ah (ab (ay (sI (v:=.slice _ _ _) (v':=.int _ _) (v'':=.int _ _) rfl rfl rfl rfl ?_)))))))))))))));obtain rfl:n=k:=by omega
  have hb:=(show BwT Ln F (Ln.length+1) Bs a by rw [hLl];exact hT).fin hSA;exact ⟨.inr ⟨Ln,Bs,a,A2,c2,hLn,hlt,hb,rfl,gx (ho.kept_from aj.rfl_) hBz.size⟩,(hBz.next hFz)⟩
end Go.Proofs.YtcbakncjacnnjaaGreat
namespace Go.Proofs.YtcbakncjacnnjaaGreat
open Go.Proofs.Tryz (prog)
def jP (f:Nat→Bool):Nat→Nat
 |0=>0
 |n+1=>jP f n+(f n).toNat
theorem gy {f g:Nat→Bool}:∀ {n:Nat},(∀ i,i<n→f i=g i)→jP f n=jP g n
 |0,_=>rfl
 |n+1,h=>by
  show jP f n+(f n).toNat=jP g n+(g n).toNat;rw [gy fun i hi=>h i (Nat.lt_succ_of_lt hi),h n (Nat.lt_succ_self n)]
theorem l8 (f:Nat→Bool) (m:Nat):∀ k,jP f (m+k)=jP f m+jP (fun i=>f (m+i)) k
 |0=>rfl
 |k+1=>by
  show jP f (m+k)+(f (m+k)).toNat=jP f m+(jP (fun i=>f (m+i)) k+(f (m+k)).toNat);rw [l8 f m k,Nat.add_assoc]
theorem rQ (n:Nat):jP (fun _=>false) n=0:=by
 induction n with
 |zero=>rfl
 |succ n ih=>show jP _ n+0=0;rw [ih]
theorem uo (f:Nat→Bool):∀ n,jP f n≤n
 |0=>Nat.le_refl _
 |n+1=>by
  have:=uo f n;show jP f n+(f n).toNat≤n+1;have:(f n).toNat≤1:=Bool.toNat_le _;omega
def pop (x n:Nat):Nat:=jP x.testBit n
theorem gJ (x n:Nat):pop x (8+n)=pop (x%256) 8+pop (x/256) n:=by
 unfold pop;rw [l8]
 congr 1
 ·exact gy fun i hi=>by rw [show (256:Nat)=2 ^ 8 from rfl,Nat.testBit_mod_two_pow];simp [hi]
 ·exact gy fun i hi=>by
   rw [show (256:Nat)=2 ^ 8 from rfl,←Nat.shiftRight_eq_div_pow,Nat.testBit_shiftRight]
theorem kM (a y c d:Nat) (ha:a<256) (hc:c<256):(a+256*y) &&& (c+256*d)=(a &&& c)+256*(y &&& d):=by
 have h1:((a+256*y) &&& (c+256*d))%2 ^ 8=a &&& c:=by
  rw [Nat.and_mod_two_pow]
  congr 1 <;> omega
 have h2:((a+256*y) &&& (c+256*d))/2 ^ 8=y &&& d:=by
  rw [Nat.and_div_two_pow]
  congr 1 <;> omega
 have h3:=Nat.div_add_mod ((a+256*y) &&& (c+256*d)) (2 ^ 8);rw [h1,h2] at h3;omega
def msk (c:Nat):Nat→Nat
 |0=>0
 |n+1=>c+256*msk c n
def q1 (n x:Nat):Nat:=(x/2 &&& msk 85 n)+(x &&& msk 85 n)
def q2 (n x:Nat):Nat:=(x/4 &&& msk 51 n)+(x &&& msk 51 n)
def q3 (n x:Nat):Nat:=(x/16+x) &&& msk 15 n
def b1 (b:Nat):Nat:=(b/2 &&& 85)+(b &&& 85)
def b2 (b:Nat):Nat:=(b/4 &&& 51)+(b &&& 51)
def b3 (b:Nat):Nat:=(b/16+b) &&& 15
def pY (p:Nat→Bool):Nat→Bool
 |0=>true
 |n+1=>pY p n&&p n
theorem iP {p:Nat→Bool}:∀ {n:Nat},pY p n=true→∀ i,i<n→p i=true
 |0,_,i,h=>by omega
 |n+1,h,i,hi=>by
  have h':(pY p n&&p n)=true:=h;rw [Bool.and_eq_true] at h';rcases Nat.eq_or_lt_of_le (Nat.le_of_lt_succ hi) with e | e
  ·subst e;exact h'.2
  ·exact iP h'.1 i e
theorem J1:pY (fun b=>pY (fun y=>((b/2+128*y) &&& 85)==(b/2 &&& 85)) 2) 256=true:=by decide+kernel
theorem JZ:pY (fun b=>pY (fun y=>((b/4+64*y) &&& 51)==(b/4 &&& 51)) 4) 256=true:=by decide+kernel
theorem J0:pY (fun b=>decide (b1 b<256)) 256=true:=by decide+kernel
theorem JY:pY (fun b=>decide (b2 (b1 b)≤68)&&decide (b2 (b1 b)%16≤4)) 256=true:=by decide+kernel
theorem JX:pY (fun b=>pY (fun y=>((b/16+16*y+b) &&& 15)==b3 b) 5) 69=true:=by decide+kernel
theorem I7:pY (fun b=>b3 (b2 (b1 b))==pop b 8) 256=true:=by decide+kernel
def sp:Nat→Nat→Nat
 |0,_=>0
 |n+1,x=>pop (x%256) 8+256*sp n (x/256)
theorem FZ (n b y:Nat) (hb:b<256):q1 (n+1) (b+256*y)=b1 b+256*q1 n y:=by
 unfold q1;show ((b+256*y)/2 &&& (85+256*msk 85 n))+((b+256*y) &&& (85+256*msk 85 n))=_;have e:(b+256*y)/2=(b/2+128*(y%2))+256*(y/2):=by omega
 rw [e,kM _ _ _ _ (by omega) (by omega),kM _ _ _ _ hb (by omega),eq_of_beq (iP (iP J1 b hb) (y%2) (by omega))];unfold b1;omega
theorem FY (n b y:Nat) (hb:b<256):q2 (n+1) (b+256*y)=b2 b+256*q2 n y:=by
 unfold q2;show ((b+256*y)/4 &&& (51+256*msk 51 n))+((b+256*y) &&& (51+256*msk 51 n))=_;have e:(b+256*y)/4=(b/4+64*(y%4))+256*(y/4):=by omega
 rw [e,kM _ _ _ _ (by omega) (by omega),kM _ _ _ _ hb (by omega),eq_of_beq (iP (iP JZ b hb) (y%4) (by omega))];unfold b2;omega
theorem FX (n b y:Nat) (hb:b≤68) (hy:y%16≤4):q3 (n+1) (b+256*y)=b3 b+256*q3 n y:=by
 unfold q3;show ((b+256*y)/16+(b+256*y) &&& (15+256*msk 15 n))=_;have e:(b+256*y)/16+(b+256*y)=(b/16+16*(y%16)+b)+256*(y/16+y):=by omega
 rw [e,kM _ _ _ _ (by omega) (by omega),eq_of_beq (iP (iP JX b (by omega)) (y%16) (by omega))]
theorem Hk:∀ (n x:Nat),x<256 ^ n→q2 n (q1 n x)%16≤4∧q3 n (q2 n (q1 n x))=sp n x
 |0,x,h=>by
  have:x=0:=by simp at h;omega
  subst this;exact ⟨by decide,by decide⟩
 |n+1,x,h=>by
  have hx:x=x%256+256*(x/256):=by omega
  have hb:x%256<256:=by omega
  have hy:x/256<256 ^ n:=by rw [Nat.pow_succ] at h;omega
  obtain ⟨h1,h2⟩:=Hk n (x/256) hy;have k1:=dT_ (iP J0 _ hb);have k2:=iP JY _ hb;simp only [Bool.and_eq_true,decide_eq_true_eq] at k2;have k3:=eq_of_beq (iP I7 _ hb)
  have e:q2 (n+1) (q1 (n+1) x)=b2 (b1 (x%256))+256*q2 n (q1 n (x/256)):=by
   conv=>lhs;rw [hx]
   rw [FZ n _ _ hb,FY n _ _ k1]
  rw [e];refine ⟨by omega,?_⟩;rw [FX n _ _ k2.1 h1,h2,k3];rfl
theorem jH (x n:Nat):pop x n≤n:=uo _ _
theorem dv (K r q:Nat) (h:r<K):(r+K*q)/K=q:=by
 rw [Nat.add_mul_div_left _ _ (by omega),Nat.div_eq_of_lt h,Nat.zero_add]
theorem Ki (v0 v1 v2 v3 v4 v5 v6 v7:Nat) (p0:v0≤8) (p1:v1≤8) (p2:v2≤8) (p3:v3≤8) (p4:v4≤8) (p5:v5≤8) (p6:v6≤8) (p7:v7≤8)
 (a b c d:Nat) (ha:a=v0+256*(v1+256*(v2+256*(v3+256*(v4+256*(v5+256*(v6+256*(v7+256*0)))))))) (hb:b=a+a/256) (hc:c=b+b/65536) (hd:d=c+c/4294967296) :
 d%128=v0+(v1+(v2+(v3+(v4+(v5+(v6+(v7+0))))))):=by
 have ea:a/256=v1+256*(v2+256*(v3+256*(v4+256*(v5+256*(v6+256*v7))))):=by
  rw [show a=v0+256*(v1+256*(v2+256*(v3+256*(v4+256*(v5+256*(v6+256*v7)))))) by omega];exact dv _ _ _ (by omega)
 have eb:b=(v0+v1)+256*((v1+v2)+256*((v2+v3)+256*((v3+v4)+256*((v4+v5)+256*((v5+v6)+256*((v6+v7)+256*v7)))))):=by
  rw [hb,ea,ha];omega
 have eb2:b/65536=(v2+v3)+256*((v3+v4)+256*((v4+v5)+256*((v5+v6)+256*((v6+v7)+256*v7)))):=by
  rw [show b=((v0+v1)+256*(v1+v2))+65536*((v2+v3)+256*((v3+v4)+256*((v4+v5)+256*((v5+v6)+256*((v6+v7)+256*v7))))) by rw [eb];omega];exact dv _ _ _ (by omega)
 have ec:c=((v0+v1+v2+v3)+256*(v1+v2+v3+v4)+65536*(v2+v3+v4+v5)+16777216*(v3+v4+v5+v6))+4294967296*((v4+v5+v6+v7)+256*((v5+v6+v7)+256*((v6+v7)+256*v7))):=by
  rw [hc,eb2,eb];omega
 have ec2:c/4294967296=(v4+v5+v6+v7)+256*((v5+v6+v7)+256*((v6+v7)+256*v7)):=by
  rw [ec];exact dv _ _ _ (by omega)
 have ed:d=(v0+v1+v2+v3+v4+v5+v6+v7)+128*(2*(v1+v2+v3+v4+v5+v6+v7)+512*(v2+v3+v4+v5+v6+v7)+131072*(v3+v4+v5+v6+v7)+33554432*((v4+v5+v6+v7)+256*((v5+v6+v7)+256*((v6+v7)+256*v7)))):=by
  rw [hd,ec2,ec];clear hd hc hb ha ea eb eb2 ec ec2 p0 p1 p2 p3 p4 p5 p6 p7;omega
 rw [ed];clear hd hc hb ha ea eb eb2 ec ec2 ed;rw [Nat.add_mul_mod_self_left,Nat.mod_eq_of_lt (by omega)];omega
def Ij (x:Nat):Nat:=
 let a:=q3 8 (q2 8 (q1 8 x))
 let b:=a+a/256
 let c:=b+b/65536
 let d:=c+c/4294967296
 d%128
theorem Dm {x:Nat} (h:x<2 ^ 64):Ij x=pop x 64:=by
 have h2:=(Hk 8 x (by simpa using h)).2;unfold Ij;rw [h2]
 have e:pop x 64=pop (x%256) 8+(pop (x/256%256) 8+(pop (x/256/256%256) 8+(pop (x/256/256/256%256) 8+(pop (x/256/256/256/256%256) 8+(pop (x/256/256/256/256/256%256) 8+(pop (x/256/256/256/256/256/256%256) 8+(pop (x/256/256/256/256/256/256/256%256) 8+pop (x/256/256/256/256/256/256/256/256) 0))))))):=by
  rw [show 64=8+56 from rfl,gJ,show 56=8+48 from rfl,gJ,show 48=8+40 from rfl,gJ,show 40=8+32 from rfl,gJ,show 32=8+24 from rfl,gJ,
   show 24=8+16 from rfl,gJ,show 16=8+8 from rfl,gJ,show pop (x/256/256/256/256/256/256/256) 8=pop (x/256/256/256/256/256/256/256) (8+0) from rfl,gJ]
 rw [e];have p0:=jH (x%256) 8;have p1:=jH (x/256%256) 8;have p2:=jH (x/256/256%256) 8;have p3:=jH (x/256/256/256%256) 8;have p4:=jH (x/256/256/256/256%256) 8;have p5:=jH (x/256/256/256/256/256%256) 8;have p6:=jH (x/256/256/256/256/256/256%256) 8;have p7:=jH (x/256/256/256/256/256/256/256%256) 8
 show (let a:=pop (x%256) 8+256*(pop (x/256%256) 8+256*(pop (x/256/256%256) 8+256*(pop (x/256/256/256%256) 8+256*(pop (x/256/256/256/256%256) 8+256*(pop (x/256/256/256/256/256%256) 8+256*(pop (x/256/256/256/256/256/256%256) 8+256*(pop (x/256/256/256/256/256/256/256%256) 8+256*0)))))));
  let b:=a+a/256;let c:=b+b/65536;let d:=c+c/4294967296;d%128)=_
 have p8:pop (x/256/256/256/256/256/256/256/256) 0=0:=rfl;rw [p8]
 generalize pop (x%256) 8=v0 at*
 generalize pop (x/256%256) 8=v1 at*
 generalize pop (x/256/256%256) 8=v2 at*
 generalize pop (x/256/256/256%256) 8=v3 at*
 generalize pop (x/256/256/256/256%256) 8=v4 at*
 generalize pop (x/256/256/256/256/256%256) 8=v5 at*
 generalize pop (x/256/256/256/256/256/256%256) 8=v6 at*
 generalize pop (x/256/256/256/256/256/256/256%256) 8=v7 at*
 clear h h2 e;exact Ki v0 v1 v2 v3 v4 v5 v6 v7 p0 p1 p2 p3 p4 p5 p6 p7 _ _ _ _ rfl rfl rfl rfl
def bt (l:List Bool) (k:Nat):Bool:=l.getD k false
theorem Ab {l:List Bool} {k:Nat} (h:l.length≤k):bt l k=false:=by
 unfold bt;rw [List.getD_eq_getElem?_getD,List.getElem?_eq_none h];rfl
theorem HI {l:List Bool} {k:Nat} (h:k<l.length):bt l k=l[k]:=by
 unfold bt;rw [List.getD_eq_getElem?_getD,List.getElem?_eq_getElem h];rfl
def rk (l:List Bool) (i:Nat):Nat:=jP (bt l) i
theorem vI (l:List Bool) (i:Nat):rk l i≤i:=uo _ _
theorem FO {l:List Bool} {i:Nat} (h:l.length≤i):rk l i=rk l l.length:=by
 obtain ⟨k,rfl⟩:=Nat.exists_eq_add_of_le h;unfold rk;rw [l8,show jP (fun i=>bt l (l.length+i)) k=jP (fun _=>false) k from gy fun i _=>Ab (by omega),rQ,Nat.add_zero]
structure WP (ws:List Nat) (l:List Bool) (k:Nat):Prop where
 len:ws.length=(l.length+63)/64
 lt:∀ x∈ws,x<2 ^ 64
 bit:∀ j (h:j<ws.length) i,i<64→ws[j].testBit i=(decide (64*j+i<k)&&bt l (64*j+i))
theorem WP.zero (l:List Bool):WP (List.replicate ((l.length+63)/64) 0) l 0:=by
 refine ⟨by simp,fun x hx=>?_,fun j h i hi=>?_⟩
 ·rw [List.eq_of_mem_replicate hx];decide
 ·simp
theorem WP.skip {ws:List Nat} {l:List Bool} {k:Nat} (h:WP ws l k) (hb:bt l k=false):WP ws l (k+1):=by
 refine ⟨h.len,h.lt,fun j hj i hi=>?_⟩;rw [h.bit j hj i hi];by_cases e:64*j+i=k
 ·rw [e,hb];simp
 ·congr 1
  exact decide_eq_decide.2 (by omega)
theorem WP.put {ws:List Nat} {l:List Bool} {k:Nat} (h:WP ws l k) (hb:bt l k=true) (hk:k/64<ws.length):WP (ws.set (k/64) (ws[k/64] ||| 1*2 ^ (k%64)%2 ^ 64)) l (k+1):=by
 have hlt:ws[k/64] ||| 1*2 ^ (k%64)%2 ^ 64<2 ^ 64:=Nat.or_lt_two_pow (h.lt _ (List.getElem_mem hk)) (Nat.mod_lt _ (by decide))
 refine ⟨by rw [List.length_set];exact h.len,fun x hx=>?_,fun j hj i hi=>?_⟩
 ·rcases List.mem_or_eq_of_mem_set hx with hx | rfl
  ·exact h.lt x hx
  ·exact hlt
 ·rw [List.length_set] at hj;have hk6:k%64<64:=Nat.mod_lt _ (by decide);by_cases e:j=k/64
  ·subst e;rw [List.getElem_set_self,Nat.testBit_or,h.bit _ hj i hi,Nat.testBit_mod_two_pow,Nat.one_mul,Nat.testBit_two_pow];by_cases e2:64*(k/64)+i=k
   ·rw [e2,hb];have:k%64=i:=by omega
    simp [this,hi]
   ·have h3:¬ k%64=i:=by omega
    simp only [h3,decide_false,Bool.and_false,Bool.or_false]
    congr 1
    exact decide_eq_decide.2 (by omega)
  ·rw [List.getElem_set_ne (fun e'=>e e'.symm),h.bit j hj i hi]
   congr 1
   exact decide_eq_decide.2 (by omega)
theorem WP.bits {ws:List Nat} {l:List Bool} (h:WP ws l l.length) {j:Nat} (hj:j<ws.length) {i:Nat} (hi:i<64):ws[j].testBit i=bt l (64*j+i):=by
 rw [h.bit j hj i hi];by_cases e:64*j+i<l.length
 ·simp [e]
 ·rw [Ab (by omega)];simp
theorem WP.rank {ws:List Nat} {l:List Bool} (h:WP ws l l.length) {j r:Nat} (hj:j<ws.length) (hr:r≤64):rk l (64*j+r)=rk l (64*j)+pop ws[j] r:=by
 unfold rk pop;rw [l8]
 congr 1
 exact gy fun i hi=>(h.bits hj (by omega)).symm
theorem F6 (x r:Nat) (hr:r≤64):pop (x%2 ^ r) 64=pop x r:=by
 unfold pop;rw [show 64=r+(64-r) by omega,l8,show jP (fun i=>(x%2 ^ r).testBit (r+i)) (64-r)=jP (fun _=>false) (64-r) from gy fun i _=>by rw [Nat.testBit_mod_two_pow,decide_eq_false (show ¬ r+i<r by omega),Bool.false_and],rQ,Nat.add_zero];exact gy fun i hi=>by rw [Nat.testBit_mod_two_pow];simp [hi]
theorem F7 (x r:Nat) (hr:r≤64):pop (x &&& (2 ^ r-1)) 64=pop x r:=by
 rw [Nat.and_two_pow_sub_one_eq_mod,F6 x r hr]
theorem zB (r:Nat) (hr:r<64):1*2 ^ r%2 ^ 64=2 ^ r:=by
 rw [Nat.one_mul,Nat.mod_eq_of_lt (Nat.pow_lt_pow_right (by decide) hr)]
theorem WP.rankm {ws:List Nat} {l:List Bool} (h:WP ws l l.length) {i:Nat} (hj:i/64<ws.length):rk l i=rk l (64*(i/64))+pop (ws[i/64] &&& (1*2 ^ (i%64)%2 ^ 64-1)) 64:=by
 rw [zB _ (by omega),F7 _ _ (by omega),←h.rank hj (by omega),Nat.div_add_mod]
theorem WP.rankw {ws:List Nat} {l:List Bool} (h:WP ws l l.length) {j:Nat} (hj:j<ws.length):rk l (64*(j+1))=rk l (64*j)+pop ws[j] 64:=by
 rw [←h.rank hj (Nat.le_refl _),Nat.mul_succ]
theorem C7 (x:Nat):q1 8 x=(x/2 ^ 1 &&& 6148914691236517205)+(x &&& 6148914691236517205):=rfl
theorem C6 (x:Nat):q2 8 x=(x/2 ^ 2 &&& 3689348814741910323)+(x &&& 3689348814741910323):=rfl
theorem Hl (x:Nat):q3 8 x=(x/2 ^ 4+x) &&& 1085102592571150095:=rfl
theorem Af (a b m:Nat):(a &&& m)+(b &&& m)≤2*m:=by
 have h1:a &&& m≤m:=Nat.and_le_right;have h2:b &&& m≤m:=Nat.and_le_right;omega
end Go.Proofs.YtcbakncjacnnjaaGreat
namespace Go.Proofs.YtcbakncjacnnjaaGreat
open Go.Proofs.Tryz (prog)
open Go.RowKit
theorem vh:(prog.underlying 161).isSome=true:=by kernel_rfl
theorem oE:lN prog 224=some (.agg #[.slice none 0 0,.int .i64 0]):=by kernel_rfl
theorem jt:(cN prog 198).isSome=true:=by kernel_rfl
theorem vi:kB prog 222=some (161,8,(.int .u64 0)):=by kernel_rfl
theorem pC:∀ (a0:Option Addr) (a1 a2:Nat) (a3:Int),prog.built 224 [(0,.slice a0 a1 a2),(1,.int .i64 a3)]=some #[.slice a0 a1 a2,.int .i64 a3]:=by intros;kernel_rfl
theorem js:dK prog 224=some 2:=by kernel_rfl
theorem fP:cG prog 224 0=some 0:=by kernel_rfl
theorem ir:fp prog 222=some false:=by kernel_rfl
theorem fg:cN prog 222=some (161,1):=by kernel_rfl
theorem iu:fp prog 161=some false:=by kernel_rfl
theorem vg:dK prog 161=some 1:=by kernel_rfl
theorem oH:fp prog 224=some true:=by kernel_rfl
theorem vj:az prog 182=true:=by kernel_rfl
theorem sD:∀ (a0:Option Addr) (a1 a2:Nat) (a3:Int),prog.built 227 [(0,.agg #[.slice a0 a1 a2,.int .i64 a3])]=some #[.slice a0 a1 a2,.int .i64 a3,.slice none 0 0,.int .i64 0]:=by intros;kernel_rfl
theorem en:cG prog 227 0=some 0:=by kernel_rfl
theorem oG:(cN prog 222).isSome=true:=by kernel_rfl
theorem j3:cG prog 227 1=some 2:=by kernel_rfl
theorem iv:cG prog 227 2=some 3:=by kernel_rfl
theorem lE:az prog 183=true:=by kernel_rfl
abbrev boV (x:Bool):Value:=.bool x
abbrev jN (x:Nat):Value:=.int .i32 x
def Vec (w:World) (base b:Nat) (l:List Bool):Prop:=∃ (gw:Nat) (Aa:Option Addr) (ca:Nat) (ws rs:List Nat),base≤b∧base≤gw∧
 Blk w b 227 #[.slice (some ⟨gw,0,none⟩) ws.length ws.length,.int .i64 (l.length:Nat),.slice Aa rs.length ca,.int .i64 (rk l l.length:Nat)]∧Blk w gw 161 (ws.map uV).toArray∧w.ownsRow base 21 1 (.slice Aa rs.length ca) rs.length (rs.map jN)∧
 WP ws l l.length∧rs.length=(ws.length+7)/8∧(∀ j (h:j<rs.length),rs[j]=rk l (512*j))∧l.length≤1048576
theorem Vec.from_ {w w':World} {base b:Nat} {l:List Bool} (h:Vec w base b l) (hF:aj w w'):Vec w' base b l:=by
 obtain ⟨gw,Aa,ca,ws,rs,h1,h2,h3,h4,h5,h6⟩:=h;exact ⟨gw,Aa,ca,ws,rs,h1,h2,h3.from_ hF,h4.from_ hF,h5.kept_from hF,h6⟩
theorem Vec.grown {w w':World} {base b:Nat} {l:List Bool} {r:Option Nat} (h:Vec w base b l) (hg:w.grownBy w' r) (hne:∀ k,r=some k→k<base):Vec w' base b l:=by
 obtain ⟨gw,Aa,ca,ws,rs,h1,h2,h3,h4,h5,h6⟩:=h;exact ⟨gw,Aa,ca,ws,rs,h1,h2,h3.grown hg (fun k hk=>by have:=hne k hk;omega),h4.grown hg (fun k hk=>by have:=hne k hk;omega),lV h5 hg hne,h6⟩
theorem rX {α:Type} {f:α→Value} {l:List α} (i:Nat) (h:i<l.length):(l.map f).toArray[i]? =some (f l[i]):=by simp [h]
theorem Ha {α:Type} {f:α→Value} {l:List α} (i:Nat) (x:α):((l.map f).toArray.setIfInBounds i (f x))=((l.set i x).map f).toArray:=by
 rw [List.setIfInBounds_toArray,List.map_set]
theorem o6 (x:Nat) (w:World) (hx:x<2 ^ 64) :
 Rt prog 183 [.int .u64 (x:Nat)] w (fun v w'=>v=.int .i64 (pop x 64:Nat)∧w=w'):=by
 have h1:=Af (x/2 ^ 1) x 6148914691236517205;rw [←C7] at h1;have h2:=Af (q1 8 x/2 ^ 2) (q1 8 x) 3689348814741910323;rw [←C6] at h2;obtain ⟨a,ha⟩:∃ a,a=q3 8 (q2 8 (q1 8 x)):=⟨_,rfl⟩;have h3:a≤1085102592571150095:=by rw [ha,Hl];exact Nat.and_le_right
 have ho:=Dm hx;unfold Ij at ho;rw [←ha] at ho;simp only at ho;obtain ⟨x1,hx1⟩:∃ x1,x1=q1 8 x:=⟨_,rfl⟩;rw [←hx1] at h1 h2 ha;obtain ⟨x2,hx2⟩:∃ x2,x2=q2 8 x1:=⟨_,rfl⟩;rw [←hx2] at h2 ha;refine enter (n:=35) Tryz.func183 rfl rfl rfl (af (aa (asi rfl (ah (ab (af (aa (mvi rfl (ae (ep (b:=1) rfl rfl (by decide)) (ae (kW (b:=6148914691236517205) rfl rfl (by exact ⟨by omega,by decide⟩)) ?_))))))))));refine mvi rfl (ae (kW (b:=6148914691236517205) rfl rfl (by exact ⟨hx,by decide⟩)) ?_);refine ae (mw rfl rfl (by have h:=h1;rw [hx1,C7] at h;omega)) ?_;refine dh (t:=8) (v:=.int _ _) (v':=.int .u64 (x1:Nat)) rfl (by rw [hx1,C7]) ?_;refine asi rfl (ah (ab (af (aa (mvi rfl (ae (ep (b:=2) rfl rfl (by decide)) (ae (kW (b:=3689348814741910323) rfl rfl (by exact ⟨by omega,by decide⟩)) ?_)))))));refine mvi rfl (ae (kW (b:=3689348814741910323) rfl rfl (by exact ⟨by omega,by decide⟩)) ?_);refine ae (mw rfl rfl (by have h:=h2;rw [hx2,C6] at h;omega)) ?_;refine dh (t:=14) (v:=.int _ _) (v':=.int .u64 (x2:Nat)) rfl (by rw [hx2,C6]) ?_;refine asi rfl (ah (ab (af (aa (mvi rfl (ae (ep (b:=4) rfl rfl (by decide)) (mvi rfl (ae (mw rfl rfl (by omega)) (ae (kW (b:=1085102592571150095) rfl rfl (by exact ⟨by omega,by decide⟩)) ?_)))))))));refine dh (t:=19) (v:=.int _ _) (v':=.int .u64 (a:Nat)) rfl (by rw [ha,Hl]) ?_;refine asi rfl (ah (ab (af (aa (mvi rfl (mvi rfl (ae (ep (b:=8) rfl rfl (by decide)) (ae (mw rfl rfl (by omega)) (asi rfl (ah (ab (af (aa (mvi rfl ?_))))))))))))));refine mvi rfl (ae (ep (b:=16) rfl rfl (by decide)) (ae (mw rfl rfl (by omega)) (asi rfl (ah (ab (af (aa (mvi rfl (mvi rfl (ae (ep (b:=32) rfl rfl (by decide)) (ae (mw rfl rfl (by omega)) ?_)))))))))));refine asi rfl (ah (ab (af (aa (mvi rfl (ae (ef vh eK rfl (by omega)) (ae (tJ (b:=127) rfl rfl ⟨by omega,by decide⟩) ?_)))))));refine asi rfl (ah (ab (ay (bE (v:=.int _ _) rfl rfl (⟨?_,rfl⟩)))));rw [show (127:Nat)=2 ^ 7-1 from rfl,Nat.and_two_pow_sub_one_eq_mod,←ho]
theorem Gc (A:Option Addr) (c:Nat) (l:List Bool) (w:World) (hr:bA boV w A l) (hl:l.length≤1048576) :
 Rt prog 182 [.slice A l.length c] w (fun v w'=>∃ gw ws,v=.agg #[.slice (some ⟨gw,0,none⟩) ws.length ws.length,.int .i64 (l.length:Nat)]∧w.heap.size≤gw∧Blk w' gw 161 (ws.map uV).toArray∧WP ws l l.length∧aj w w'):=by
 refine enter (n:=36) Tryz.func182 rfl rfl rfl (af (aa (dI oE ?_)));intro b2 w1 E2 hb2 hk2;have hl2:=hk2.lt;refine ah (ab (af (aa (mvs rfl (ae (aQ jt rfl) (ae (aG (b:=64) rfl rfl (by omega)) (ae (bP (b:=1) rfl rfl (by omega)) (ae (kU (b:=64) rfl rfl (by omega)) (gi vi rfl rfl rfl (by omega) (by omega) ?_)))))))));intro b11 w2 E11 hb11 hk11;have hl11:=hk11.lt;replace hk2:=hk2.from_ E11;have hg11:w.heap.size≤b11:=by rw [hb11];exact ((aj.rfl_.next E2)).size
 refine mvs rfl (ae (aQ jt rfl) (ae (cM (l:=[(0,.tmp 11),(1,.tmp 13)]) (pC _ _ _ _)) (dI oE ?_)));intro b3 w3 E3 hb3 hk3;have hl3:=hk3.lt;replace hk2:=hk2.from_ E3;have hg3:w.heap.size≤b3:=by rw [hb3];exact (((aj.rfl_.next E2).next E11)).size
 have hg2:w.heap.size≤b2:=by rw [hb2];exact Nat.le_refl _
 refine fR (vs:=[_,_]) js rfl rfl (by simp [Value.oneCell']) (hk3) rfl ?_;intro w4 O1 P1;replace hk2:=hk2.only O1 (by omega);refine ah (ab (af (af (aa (mvs rfl (ae (aQ jt rfl) (mvi rfl (ah (ab (aw (a_ (G:=List Nat×Nat) [4,5,18,19,20,21,22,23,24,25,26,27,28,29,30,31,32,33,34] (fun (_,k)=>[(17,.int .i64 (k:Nat))]) (fun (ws,k) w'=>k≤l.length∧WP ws l k∧Blk w' b3 224 #[.slice (some ⟨b11,0,none⟩) ((l.length+63)/64) ((l.length+63)/64),.int .i64 (l.length:Nat)]∧Blk w' b11 161 (ws.map uV).toArray∧Blk w' b2 224 #[.slice none 0 0,.int .i64 0]∧aj w w') (fun (_,k)=>l.length-k) ((List.replicate ((l.length+63)/64) 0,0)) ⟨rfl,trivial⟩ ?_ ?_)))))))))))
 ·refine ⟨Nat.zero_le _,WP.zero l,P1,?_,hk2,((((aj.rfl_.next E2).next E11).next E3).only O1 (hg3))⟩;rw [List.map_replicate];exact (hk11.from_ E3).only O1 (by omega)
 rintro ⟨ws,k⟩ ρ5 w5 ⟨hk,hW,hP3,hP11,hP2,hB⟩;refine af (aa (ae (aW rfl rfl) (ah (ab (af (JV rfl (fun Q6=>?_) (fun Q6=>?_)))))))
 ·obtain ⟨ba,oa,rfl,ca⟩:=hr (by omega);refine av (ab (af (aw (af (aa (mvi rfl (ae (aX cS rfl rfl (by omega)) (ae (an fM rfl (by exact bx hB (ca k (by omega)))) ?_))))))));refine asi rfl (asb rfl (ah (ab (af (aa (mvb rfl (ah (ab (au rfl (fun Q7=>?_) (fun Q7=>?_))))))))))
  ·have hbk:bt l k=true:=(HI (by omega)).trans Q7;apply dN 11 [(23,eqp _),(24,eqp _),(25,eqp _),(26,eqp _),(27,eqp _),(28,eqp _),(29,eqp _),(30,eqp _),(31,eqp _),(32,eqp _),(33,eqp _)] (by kernel_rfl) (by kernel_rfl) ⟨ag _,ag _,ag _,ag _,ag _,ag _,ag _,ag _,ag _,ag _,ag _,trivial⟩
   case hop=>
    constructor
    ·intro w9 D9;exact ai (ak fP rfl) rfl
    constructor
    ·intro w10 D10;rintro _ rfl;exact ai (an ir rfl (by exact (hP3.from_ (aj.rfl_.next D10)).rd 0 rfl)) rfl
    constructor
    ·intro w11 D11;exact ai (aq (v:=.int _ _) rfl) rfl
    constructor
    ·intro w12 D12;rintro _ rfl;exact ai (kU (b:=64) rfl rfl (by omega)) rfl
    constructor
    ·intro w13 D13;rintro _ rfl _ rfl;exact ai (aA fg rfl rfl (by omega)) rfl
    constructor
    ·intro w14 D14;rintro _ rfl;exact ai (an iu rfl (by exact (hP11.from_ (aj.rfl_.next D14)).rd _ (rX (k/64) (by rw [hW.len];omega)))) rfl
    constructor
    ·intro w15 D15;exact ai (aq (v:=.int _ _) rfl) rfl
    constructor
    ·intro w16 D16;rintro _ rfl;exact ai (mv (b:=64) rfl rfl (by decide)) rfl
    constructor
    ·intro w17 D17;rintro _ rfl;exact ai (zo (a:=1) rfl rfl (by exact Nat.le_of_lt (Nat.mod_lt _ (by decide)))) rfl
    constructor
    ·intro w18 D18;rintro _ rfl _ rfl;exact ai (H9 rfl rfl (by exact ⟨hW.lt _ (List.getElem_mem _),Nat.mod_lt _ (by decide)⟩)) rfl
    constructor
    ·intro w19 D19;rintro _ rfl _ rfl;exact ai (aA fg rfl rfl (by omega)) rfl
    exact trivial
   case hend=>
    intro w20 D20;rintro _ rfl _ rfl _ rfl _ rfl _ rfl _ rfl _ rfl _ rfl _ rfl _ rfl _ rfl;show St ..;replace hP3:=hP3.from_ (aj.rfl_.next D20);replace hP2:=hP2.from_ (aj.rfl_.next D20);replace hP11:=hP11.from_ (aj.rfl_.next D20);refine bH (v:=.int _ _) vg rfl rfl rfl (hP11) (by simp;rw [hW.len];omega) ?_;intro w21 O6 P6;rw [Ha] at P6;obtain ⟨ws2,hW2,hQ2⟩:∃ ws2,WP ws2 l (k+1)∧Blk w21 b11 161 (ws2.map uV).toArray:=⟨_,hW.put hbk (by rw [hW.len];omega),P6⟩;refine ah (aI (ab (aa (ae (aG (b:=1) rfl rfl (by omega)) (mvi rfl (ah ?_))))));refine aO ((ws2,k+1)) ⟨(by first | rfl | (refine aK ?_;omega)),trivial⟩ (by (iterate 40 refine aB rfl ?_);exact aJ) ⟨?_,?_⟩
    ·first | exact ⟨by omega,hW2,hP3.only O6 (by omega),hQ2,hP2.only O6 (by omega),((hB.next D20).only O6 hg11)⟩ | exact ⟨by omega,hW2,hP3,hQ2,hP2,((hB.next D20).only O6 hg11)⟩
    ·show l.length-(k+1)<l.length-k;omega
  have hbk:bt l k=false:=(HI (by omega)).trans Q7;obtain ⟨ws2,hW2,hQ2⟩:∃ ws2,WP ws2 l (k+1)∧Blk w5 b11 161 (ws2.map uV).toArray:=⟨ws,hW.skip hbk,hP11⟩;refine av (aI (ab (aa (ae (aG (b:=1) rfl rfl (by omega)) (mvi rfl (ah ?_))))));refine aO ((ws2,k+1)) ⟨(by first | rfl | (refine aK ?_;omega)),trivial⟩ (by (iterate 29 refine aB rfl ?_);exact aJ) ⟨?_,?_⟩
  ·first | exact ⟨by omega,hW2,hP3.only O6 (by omega),hQ2,hP2.only O6 (by omega),hB⟩ | exact ⟨by omega,hW2,hP3,hQ2,hP2,hB⟩
  ·show l.length-(k+1)<l.length-k;omega
 refine bc (aC (aC (aS (ab (af (aa (ae (bn (cs:=[_,_]) oH js rfl (by exact hP3.whole)) ?_)))))));refine fR (vs:=[_,_]) js rfl rfl (by simp [Value.oneCell']) (hP2) rfl ?_;intro w22 O8 P8;refine ah (ab (ay (Jr rfl (vD (cs:=[_,_]) oH js rfl (by exact P8.whole)) ?_)));obtain rfl:k=l.length:=by omega
 exact ⟨b11,ws,by rw [hW.len],hg11,hP11.only O8 (by omega),hW,(hB.only O8 (hg2))⟩
theorem tc {w w':World} {base e s n c g:Nat} {A:Option Addr} {xs:List Value} (h:w.ownsRow base e s (.slice A n c) n xs) (o:cH g w w') (hne:∀ k,A.map (·.block)=some k→k≠g):w'.ownsRow base e s (.slice A n c) n xs:=by
 refine ⟨h.1,?_⟩;rcases h.2 with h2 | ⟨g',cap,cur,hv,hg,hh,r⟩
 ·exact .inl h2
 ·refine .inr ⟨g',cap,cur,hv,hg,?_,r⟩;simp only [Value.slice.injEq] at hv;rw [o.block g' (hne g' (by rw [hv.1];rfl))];exact hh
theorem oZ {w:World} {base e s n c m g t:Nat} {A:Option Addr} {xs:List Value} {cs:Array Value} (h:w.ownsRow base e s (.slice A n c) m xs) (hb:Blk w g t cs) (hne:t≠e):∀ k,A.map (·.block)=some k→k≠g:=by
 rintro k hk rfl;rcases h.2 with ⟨h0,_⟩ | ⟨g',cap,cur,hv,hg,hh,r⟩
 ·simp only [Value.slice.injEq] at h0;rw [h0.1] at hk;cases hk
 ·simp only [Value.slice.injEq] at hv;rw [hv.1] at hk;simp only [Option.map_some,Option.some.injEq] at hk;subst hk;unfold Blk at hb;rw [hh] at hb;simp only [Option.some.injEq,Obj.cells.injEq] at hb;exact hne hb.2.1.symm
theorem new_rt (A:Option Addr) (c:Nat) (l:List Bool) (w:World) (hr:bA boV w A l) (hl:l.length≤1048576) :
 Rt prog 161 [.slice A l.length c] w (fun v w'=>∃ b,v=.tuple #[.pointer (some ⟨b,0,none⟩),.int .i64 0]∧Vec w' w.heap.size b l∧aj w w'):=by
 refine enter (n:=53) Tryz.func161 rfl rfl rfl (af (aa (asp rfl (asi rfl (ah (ab (af (af (aa (mvs rfl (ae (aQ jt rfl) (ae (cL rfl rfl) (ah (ab ?_))))))))))))));refine JV rfl (fun Q1=>?_) (fun Q1=>?_)
 ·exfalso;omega
 refine av (ab (af (aa (mvs rfl (aF vj (Gc A c l _ hr hl) ?_)))));rintro v11 w2 ⟨gw,ws,rfl,hgw0,hgw,hW,E11⟩;refine ae (cM (l:=[(0,.tmp 11)]) (sD _ _ _ _)) (cK (v:=.agg _) rfl ?_);intro b13 w3 E13 hb13 hk13;have hg13:w.heap.size≤b13:=by rw [hb13];exact ((aj.rfl_.next E11)).size
 have hl13:=hgw.lt;have hlen:=hW.len;refine asp rfl (ah (ab (af (af (aa (mvp rfl (ae (ar rfl) (ae (ak en rfl) (ae (ak fP rfl) (ae (an ir rfl (by exact hk13.rd 0 rfl)) ?_))))))))));refine ae (aQ oG rfl) (mvi rfl (ah (ab (aw (a_ (G:=Nat×Option Addr×Nat×List Nat) [5,6,21,22,23,24,25,26,27,28,29,30,31,32,33,34,35,36,37,38,39,40,41,42,43,44,45,46,47,48,49,50,51] (fun (k,Aa,ca,rs)=>[(20,.int .i64 (k:Nat))]) (fun (k,Aa,ca,rs) w'=>k≤ws.length∧Blk w' b13 227 #[.slice (some ⟨gw,0,none⟩) ws.length ws.length,.int .i64 (l.length:Nat),.slice Aa rs.length ca,.int .i64 (rk l (64*k):Nat)]∧Blk w' gw 161 (ws.map uV).toArray∧w'.ownsRow w.heap.size 21 1 (.slice Aa rs.length ca) rs.length (rs.map jN)∧rs.length=(k+7)/8∧(∀ j (h:j<rs.length),rs[j]=rk l (512*j))∧aj w w') (fun (k,_,_,_)=>ws.length-k) ((0,none,0,[])) ⟨rfl,trivial⟩ ?_ ?_)))))
 ·exact ⟨Nat.zero_le _,hk13,hgw.from_ E13,World.ownsRow_nil _ _ _ _,rfl,(fun j h=>by simp at h),((aj.rfl_.next E11).next E13)⟩
 rintro ⟨k,Aa,ca,rs⟩ ρ4 w4 ⟨hk,hV,hgw,ho,hrl,hrs,hB⟩;refine af (aa (ae (aW rfl rfl) (ah (ab (af (JV rfl (fun Q5=>?_) (fun Q5=>?_)))))))
 ·have hkw:k<ws.length:=by omega
  refine av (ab (af (aw (af (aa (mvi rfl (ae (aA fg rfl rfl (by omega)) (ae (an iu rfl (by exact hgw.rd _ (rX k hkw))) ?_))))))));refine asi rfl (asi rfl (ah (ab (gz (G:=Option Addr×Nat×List Nat) [25,26,27,28,29,30,31,32,33,34,35,36,37,38,39,40,41] (fun _=>[]) (fun (A2,c2,rs2) w'=>Blk w' b13 227 #[.slice (some ⟨gw,0,none⟩) ws.length ws.length,.int .i64 (l.length:Nat),.slice A2 rs2.length c2,.int .i64 (rk l (64*k):Nat)]∧Blk w' gw 161 (ws.map uV).toArray∧w'.ownsRow w.heap.size 21 1 (.slice A2 rs2.length c2) rs2.length (rs2.map jN)∧rs2.length=(k+1+7)/8∧(∀ j (h:j<rs2.length),rs2[j]=rk l (512*j))∧aj w w') ?_ ?_))))
  ·refine af (aa (mvi rfl (ae (mv (b:=8) rfl rfl (by decide)) (ae (cx rfl rfl) (ah (ab (JU rfl (fun Q6=>?_) (fun Q6=>?_))))))))
   ·have hk8:k%8=0:=by omega
    apply EB 14 11 [38] [(28,eqp _),(29,eqp _),(30,eqp _),(31,eqp _),(32,eqp _),(33,eqp _),(34,eqp _),(35,eqp _),(36,eqp _),(37,eqp _),(38,fun v w'=>∃ g,v=.slice (some ⟨g,0,none⟩) 1 1∧Blk w' g 21 #[jN (rk l (64*k))]),(39,fun v w'=>∃ A2 c2,v=.slice A2 (rs.length+1) c2∧w'.ownsRow w.heap.size 21 1 (.slice A2 (rs.length+1) c2) (rs.length+1) (rs.map jN++[jN (rk l (64*k))])),(40,eqp _),(41,eqp _)] (fun w'=>aj w w'∧Blk w' b13 227 #[.slice (some ⟨gw,0,none⟩) ws.length ws.length,.int .i64 (l.length:Nat),.slice Aa rs.length ca,.int .i64 (rk l (64*k):Nat)]∧Blk w' gw 161 (ws.map uV).toArray∧w'.ownsRow w.heap.size 21 1 (.slice Aa rs.length ca) rs.length (rs.map jN)) (fun w'=>aj w w'∧Blk w' b13 227 #[.slice (some ⟨gw,0,none⟩) ws.length ws.length,.int .i64 (l.length:Nat),.slice Aa rs.length ca,.int .i64 (rk l (64*k):Nat)]∧Blk w' gw 161 (ws.map uV).toArray) (by repeat first | exact cy | refine cm ?_ | refine bO ?_) (by kernel_rfl) (by kernel_rfl) (by kernel_rfl) ⟨ag _,ag _,ag _,ag _,ag _,ag _,ag _,ag _,ag _,ag _,(fun _ _ _ hF ⟨g,h1,h2⟩=>⟨g,h1,h2.from_ hF⟩),(fun _ _ _ hF ⟨A2,c2,h1,h2⟩=>⟨A2,c2,h1,h2.kept_from hF⟩),ag _,ag _,trivial⟩ (⟨hB.d1,hV,hgw,ho⟩) (⟨hB.d1,hV,hgw⟩) (fun _ _ hF h=>⟨h.1.next hF,h.2.1.from_ hF,h.2.2.1.from_ hF,h.2.2.2.kept_from hF⟩) (fun _ _ hF h=>⟨h.1.next hF,h.2.1.from_ hF,h.2.2.from_ hF⟩)
    case hop=>
     constructor
     ·rintro-w8 ⟨D8,hVd8,hgwd8⟩;exact ai (aq (v:=.pointer _) rfl) rfl
     constructor
     ·rintro-w9 ⟨D9,hVd9,hgwd9⟩;exact ai (aq (v:=.pointer _) rfl) rfl
     constructor
     ·rintro-w10 ⟨D10,hVd10,hgwd10⟩;rintro _ rfl;exact ai (ar rfl) rfl
     constructor
     ·rintro-w11 ⟨D11,hVd11,hgwd11⟩;rintro _ rfl;exact ai (ak j3 rfl) rfl
     constructor
     ·rintro-w12 ⟨D12,hVd12,hgwd12⟩;rintro _ rfl;exact ai (an aR rfl (by exact hVd12.rd 2 rfl)) rfl
     constructor
     ·rintro-w13 ⟨D13,hVd13,hgwd13⟩;exact ai (aq (v:=.pointer _) rfl) rfl
     constructor
     ·rintro-w14 ⟨D14,hVd14,hgwd14⟩;rintro _ rfl;exact ai (ar rfl) rfl
     constructor
     ·rintro-w15 ⟨D15,hVd15,hgwd15⟩;rintro _ rfl;exact ai (ak iv rfl) rfl
     constructor
     ·rintro-w16 ⟨D16,hVd16,hgwd16⟩;rintro _ rfl;exact ai (an aU rfl (by exact hVd16.rd 3 rfl)) rfl
     constructor
     ·rintro-w17 ⟨D17,hVd17,hgwd17⟩;rintro _ rfl;exact ai (lT (k':=.i32) (r:=((rk l (64*k):Nat):Int)) (by kernel_rfl) (by kernel_rfl) rfl (IntWalk.i32_in _ (by have:=vI l (64*k);omega))) rfl
     constructor
     ·rintro-w18 ⟨D18,hVd18,hgwd18⟩;rintro _ rfl;exact fG (ql dz rfl rfl rfl) (aj.rfl_.new _) ⟨_,rfl,Blk.new _ _ _⟩
     constructor
     ·intro h;cases h
     constructor
     ·rintro-w20 ⟨D20,hVd20,hgwd20⟩;rintro _ rfl;exact ai (ar rfl) rfl
     constructor
     ·rintro-w21 ⟨D21,hVd21,hgwd21⟩;rintro _ rfl;exact ai (ak j3 rfl) rfl
     exact trivial
    case hmu=>
     rintro w22 ⟨D22,hVd22,hgwd22,ho22⟩;rintro _ rfl v22_38 ⟨g22,rfl,hg22⟩;show mM ..;refine mB dz rfl (by decide) rfl ho22 D22.size rfl rfl ⟨_,_,rfl,hg22.whole⟩ (by simp [Value.oneCell']) (by omega) (by omega) ?_;intro A3 c3 w3 ho3 hg3;have hbl:=cd ho22;have hF3:aj w w3:=D22.grew hg3 (fun k hk=>(hbl k hk).1);exact ⟨⟨hF3,hVd22.grown hg3 (oZ ho22 hVd22 (by decide)),hgwd22.grown hg3 (oZ ho22 hgwd22 (by decide))⟩,⟨A3,c3,rfl,ho3⟩,fun t u ht h=>iT (by repeat first | exact trivial | refine ⟨.inl rfl,?_⟩ | refine ⟨.inr (fun _ h=>h),?_⟩) t u ht h⟩
    case hend=>
     rintro w23 ⟨D23,hVd23,hgwd23⟩;rintro _ rfl _ rfl _ rfl _ rfl _ rfl _ rfl _ rfl _ rfl _ rfl _ rfl v38 _ v39 ⟨A39,c39,rfl,ho39⟩ _ rfl _ rfl;show St ..;have hVq:=hVd23;have hgq:=hgwd23;refine bH (v:=.slice _ _ _) jn rfl rfl rfl (hVq) (by simp) ?_;intro w24 O8 P8;refine ah ?_;refine aO ((A39,c39,rs++[rk l (64*k)])) trivial (by (iterate 17 refine aB rfl ?_);exact aJ) ?_;refine ⟨by simpa using P8,hgq.only O8 (by omega),by rw [List.length_append,List.map_append];exact tc ho39 O8 (oZ ho39 hVq (by decide)),by rw [List.length_append,List.length_singleton];omega,?_,(D23.only O8 (hg13))⟩;intro j h;rw [List.length_append,List.length_singleton] at h;by_cases hj:j<rs.length
     ·rw [List.getElem_append_left hj];exact hrs j hj
     ·rw [List.getElem_append_right (by omega)];simp only [List.getElem_singleton]
      congr 1
      omega
   have hk8:¬ k%8=0:=by omega
   refine av ?_;refine aO ((Aa,ca,rs)) trivial (by (iterate 3 refine aB rfl ?_);exact aJ) ?_;exact ⟨hV,hgw,ho,by omega,hrs,hB⟩
  rintro ⟨A2,c2,rs2⟩ ρ25 w25 ⟨hV,hgw,ho,hrl,hrs,hB⟩;apply bS 9 [(42,eqp _),(43,eqp _),(44,eqp _),(45,eqp _),(46,eqp _),(47,eqp _),(48,eqp _),(49,eqp _),(50,eqp _)] (by repeat first | exact cy | refine cm ?_ | refine bO ?_) (by kernel_rfl) (by kernel_rfl) ⟨ag _,ag _,ag _,ag _,ag _,ag _,ag _,ag _,ag _,trivial⟩
  case hop=>
   constructor
   ·rintro-w27 D27;exact ai (aq (v:=.pointer _) rfl) rfl
   constructor
   ·rintro-w28 D28;rintro _ rfl;exact ai (ar rfl) rfl
   constructor
   ·rintro-w29 D29;rintro _ rfl;exact ai (ak iv rfl) rfl
   constructor
   ·rintro-w30 D30;rintro _ rfl;exact ai (an aU rfl (by exact (hV.from_ (aj.rfl_.next D30)).rd 3 rfl)) rfl
   constructor
   ·rintro-w31 D31;exact ai (aq (v:=.int _ _) rfl) rfl
   constructor
   ·rintro-w32 D32;rintro _ rfl;refine er lE ((o6 ws[k] _ (hW.lt _ (List.getElem_mem hkw))).mono ?_);rintro v _ ⟨rfl,rfl⟩;exact ⟨aj.rfl_,rfl⟩
   constructor
   ·rintro-w33 D33;rintro _ rfl _ rfl;exact ai (aG rfl rfl (by have:=vI l (64*k);have:=jH ws[k] 64;omega)) rfl
   constructor
   ·rintro-w34 D34;rintro _ rfl;exact ai (ar rfl) rfl
   constructor
   ·rintro-w35 D35;rintro _ rfl;exact ai (ak iv rfl) rfl
   exact trivial
  case hend=>
   intro w36 D36;rintro _ rfl _ rfl _ rfl _ rfl _ rfl _ rfl _ rfl _ rfl _ rfl;show St ..;replace hV:=hV.from_ (aj.rfl_.next D36);replace hgw:=hgw.from_ (aj.rfl_.next D36);replace ho:=ho.kept_from (aj.rfl_.next D36);refine bH (v:=.int _ _) b_ rfl rfl rfl (hV) (by simp) ?_;intro w37 O9 P9;refine ah (aI (ab (aa (ae (aG (b:=1) rfl rfl (by omega)) (mvi rfl (ah ?_))))));refine aO ((k+1,A2,c2,rs2)) ⟨(by first | rfl | (refine aK ?_;omega)),trivial⟩ (by (iterate 68 refine aB rfl ?_);exact aJ) ⟨?_,?_⟩
   ·refine ⟨by omega,?_,hgw.only O9 (by omega),tc ho O9 (oZ ho hV (by decide)),hrl,hrs,((hB.next D36).only O9 (hg13))⟩;rw [hW.rankw hkw];simpa using P9
   ·show ws.length-(k+1)<ws.length-k;omega
 refine bc (aC (aC (aS (ab (af (aa (mvp rfl (asp rfl (asi rfl (ah (ab (ay (cV (v:=.pointer _) (v':=.int _ _) rfl rfl rfl ?_)))))))))))));obtain rfl:k=ws.length:=by omega
 exact ⟨b13,rfl,⟨gw,Aa,ca,ws,rs,hg13,hgw0,by rw [←FO (show l.length≤64*ws.length by omega)];exact hV,hgw,ho,hW,hrl,hrs,hl⟩,hB⟩
theorem i_:cG prog 224 1=some 1:=by kernel_rfl
theorem sX:az prog 214=true:=by kernel_rfl
theorem vz (x k:Nat):x/2 ^ k &&& 1=(x.testBit k).toNat:=by
 rw [show (1:Nat)=2 ^ 1-1 from rfl,Nat.and_two_pow_sub_one_eq_mod,←Nat.shiftRight_eq_div_pow]
 have h:x.testBit k=((x >>> k)%2==1):=by
  rw [Nat.testBit,Nat.and_comm,Nat.and_one_is_mod];rcases Nat.mod_two_eq_zero_or_one (x >>> k) with e | e <;> rw [e] <;> rfl
 rw [h];rcases Nat.mod_two_eq_zero_or_one (x >>> k) with e | e <;> simp [e]
def gB (l:List Bool) (i:Int):Bool:=if 0≤i∧i<l.length then bt l i.toNat else false
def gE (l:List Bool) (i:Int):Int:=if 0≤i∧i<l.length then 0 else 3
def rB (l:List Bool) (i:Int):Int:=if 0≤i∧i≤l.length then (rk l i.toNat:Nat) else 0
def rE (l:List Bool) (i:Int):Int:=if 0≤i∧i≤l.length then 0 else 3
theorem Vec.le {w:World} {base base' b:Nat} {l:List Bool} (h:Vec w base b l) (hb:base'≤base):Vec w base' b l:=by
 obtain ⟨gw,Aa,ca,ws,rs,h1,h2,h3,h4,h5,h6⟩:=h;refine ⟨gw,Aa,ca,ws,rs,by omega,by omega,h3,h4,⟨h5.1,?_⟩,h6⟩;rcases h5.2 with h0 | ⟨g,cap,cur,hv,hg,r⟩
 ·exact .inl h0
 ·exact .inr ⟨g,cap,cur,hv,by omega,r⟩
theorem I6 (base b i:Nat) (l:List Bool) (w:World) (hv:Vec w base b l) (hi:i<l.length) :
 Rt prog 214 [.pointer (some ⟨b,0,none⟩),.int .i64 (i:Nat)] w (fun v w'=>v=.bool (bt l i)∧w=w'):=by
 obtain ⟨gw,Aa,ca,ws,rs,hb0,hg0,hV,hgw,ho,hW,hrl,hrs,hl⟩:=hv;have hlen:=hW.len;refine enter (n:=18) Tryz.func214 rfl rfl rfl (af (aa (asb rfl (ah (ab (af (aa (mvp rfl (ae (ar rfl) (ae (ak fP rfl) (ae (an ir rfl (by exact hV.rd 0 rfl)) ?_)))))))))));refine mvi rfl (ae (kU (b:=64) rfl rfl (by omega)) (ae (aA fg rfl rfl (by omega)) (ae (an iu rfl (by exact hgw.rd _ (rX (i/64) (by omega)))) ?_)));refine mvi rfl (ae (mv (b:=64) rfl rfl (by decide)) (ae (ep rfl rfl (by exact Nat.le_of_lt (Nat.mod_lt _ (by decide)))) ?_));refine ae (kW (b:=1) rfl rfl (by exact ⟨Nat.lt_of_le_of_lt (Nat.div_le_self _ _) (hW.lt _ (List.getElem_mem _)),by decide⟩)) ?_;refine ae (cx rfl rfl) (asb rfl (ah (ab (ay (bE (v:=.bool _) rfl rfl (⟨congrArg Value.bool ?_,rfl⟩))))));rw [vz,hW.bits (by omega) (Nat.mod_lt _ (by decide)),Nat.div_add_mod];cases bt l i <;> rfl
theorem IK (base b:Nat) (i:Int) (l:List Bool) (w:World) (hv:Vec w base b l) :
 Rt prog 208 [.pointer (some ⟨b,0,none⟩),.int .i64 i] w (fun v w'=>v=.tuple #[.bool (gB l i),.int .i64 (gE l i)]∧w=w'):=by
 have hvv:=hv;obtain ⟨gw,Aa,ca,ws,rs,hb0,hg0,hV,hgw,ho,hW,hrl,hrs,hl⟩:=hv;have hlen:=hW.len;refine enter (n:=22) Tryz.func208 rfl rfl rfl (af (aa (asb rfl (asi rfl (ah (ab (af (af (aa (mvi rfl (ae (aW rfl rfl) (mvb rfl (Jk (t:=8) rfl (fun Q1=>?_) (fun Q1=>?_))))))))))))))
 ·refine aL rfl rfl (aL rfl rfl (aL rfl rfl (aL rfl rfl (aL rfl rfl (aL rfl rfl (aL rfl rfl (ae (bB (v:=.bool _) rfl rfl) (ah (ab ?_)))))))));refine cW rfl (af (aa (asb rfl (asi rfl (ah (ab (ay (aD (cV (v:=.bool _) (v':=.int _ _) rfl rfl rfl (⟨?_,rfl⟩))))))))));unfold gB gE;rw [if_neg (by omega),if_neg (by omega)]
 refine ao rfl (mvi rfl (ao rfl (mvp rfl (ao rfl (ae (ar rfl) (ao rfl (ae (ak en rfl) (ao rfl ?_))))))));refine ae (ak i_ rfl) (ao rfl (ae (an aU rfl (by exact hV.rd 1 rfl)) ?_));refine ao rfl (ae (eA rfl rfl) (ae (bk (v:=.bool _) rfl rfl) (ah (ab (JV rfl (fun Q2=>?_) (fun Q2=>?_))))))
 ·refine af (aa (asb rfl (asi rfl (ah (ab (ay (aD (cV (v:=.bool _) (v':=.int _ _) rfl rfl rfl (⟨?_,rfl⟩)))))))));unfold gB gE;rw [if_neg (by omega),if_neg (by omega)]
 refine av (ab (af (aa ?_)));obtain ⟨q,rfl⟩:∃ q:Nat,i=(q:Int):=⟨i.toNat,by omega⟩;refine mvp rfl (ae (ar rfl) (ae (ak en rfl) (mvi rfl (aF sX (I6 base b q l _ hvv (by omega)) ?_))));rintro v21 w3 ⟨rfl,rfl⟩;refine asb rfl (asi rfl (ah (ab (ay (cV (v:=.bool _) (v':=.int _ _) rfl rfl rfl (⟨?_,rfl⟩))))));unfold gB gE;rw [if_pos (by omega),if_pos (by omega)];rfl
theorem FV (base b:Nat) (i:Int) (l:List Bool) (w:World) (hv:Vec w base b l) :
 Rt prog 216 [.pointer (some ⟨b,0,none⟩),.int .i64 i] w (fun v w'=>v=.tuple #[.int .i64 (rB l i),.int .i64 (rE l i)]∧aj w w'):=by
 obtain ⟨gw,Aa,ca,ws,rs,hb0,hg0,hV,hgw,ho,hW,hrl,hrs,hl⟩:=hv;have hlen:=hW.len;refine enter (n:=80) Tryz.func216 rfl rfl rfl (af (aa (asi rfl (asi rfl (ah (ab (af (af (aa (mvi rfl (ae (aW rfl rfl) (mvb rfl (Jk (t:=13) rfl (fun Q1=>?_) (fun Q1=>?_))))))))))))))
 ·refine aL rfl rfl (aL rfl rfl (aL rfl rfl (aL rfl rfl (aL rfl rfl (aL rfl rfl (aL rfl rfl (ae (bB (v:=.bool _) rfl rfl) (ah (ab ?_)))))))));refine cW rfl (af (aa (asi rfl (asi rfl (ah (ab (ay (aD (cV (v:=.int _ _) (v':=.int _ _) rfl rfl rfl (⟨?_,aj.rfl_⟩))))))))));unfold rB rE;rw [if_neg (by omega),if_neg (by omega)]
 refine ao rfl (mvi rfl (ao rfl (mvp rfl (ao rfl (ae (ar rfl) (ao rfl (ae (ak en rfl) (ao rfl ?_))))))));refine ae (ak i_ rfl) (ao rfl (ae (an aU rfl (by exact hV.rd 1 rfl)) ?_));refine ao rfl (ae (cL rfl rfl) (ae (bk (v:=.bool _) rfl rfl) (ah (ab (JV rfl (fun Q2=>?_) (fun Q2=>?_))))))
 ·refine af (aa (asi rfl (asi rfl (ah (ab (ay (aD (cV (v:=.int _ _) (v':=.int _ _) rfl rfl rfl (⟨?_,aj.rfl_⟩)))))))));unfold rB rE;rw [if_neg (by omega),if_neg (by omega)]
 refine av (ab (af (af (aa ?_))));obtain ⟨q,rfl⟩:∃ q:Nat,i=(q:Int):=⟨i.toNat,by omega⟩;refine mvi rfl (mvp rfl (ae (ar rfl) (ae (ak en rfl) (ae (ak i_ rfl) (ae (an aU rfl (by exact hV.rd 1 rfl)) ?_)))));refine ae (cx rfl rfl) (ah (ab (JU rfl (fun Q3=>?_) (fun Q3=>?_))))
 ·refine af (aa (mvp rfl (ae (ar rfl) (ae (ak iv rfl) (ae (an aU rfl (by exact hV.rd 3 rfl)) ?_)))));refine asi rfl (asi rfl (ah (ab (ay (aD (cV (v:=.int _ _) (v':=.int _ _) rfl rfl rfl (⟨?_,aj.rfl_⟩)))))));unfold rB rE;rw [if_pos (by omega),if_pos (by omega),show q=l.length by omega];rfl
 refine av (ab (af (aa (mvi rfl (ae (kU (b:=64) rfl rfl (by omega)) (asi rfl (ah (ab (af (aa (mvi rfl (ae (kU (b:=8) rfl rfl (by omega)) (asi rfl (ah (ab (af (aa ?_)))))))))))))))));obtain ⟨ga,rfl⟩:=dm ho (by omega);refine mvp rfl (ae (ar rfl) (ae (ak j3 rfl) (ae (an aR rfl (by exact hV.rd 2 rfl)) ?_)));refine mvi rfl (ae (aA aH rfl rfl (by omega)) (ae (an aZ rfl (by exact ra ho (q/64/8) (by omega))) ?_));refine ae (ef iR eK rfl (by rw [hrs];have:=vI l (512*(q/64/8));omega)) ?_;refine dh (t:=44) (v:=.int _ _) (v':=.int .i64 ((rk l (512*(q/64/8)):Nat):Int)) rfl (by rw [hrs]) ?_;refine asi rfl (ah (ab (af (af (aa (mvp rfl (ae (ar rfl) (ae (ak en rfl) (ae (ak fP rfl) (ae (an ir rfl (by exact hV.rd 0 rfl)) ?_))))))))));refine mvi rfl (ae (nM (b:=8) rfl rfl (by omega)) (mvi rfl (ae (eR (v':=.slice (some ⟨gw,q/64/8*8,none⟩) (q/64-q/64/8*8) (ws.length-q/64/8*8)) (qS (l:=q/64/8*8) (h:=q/64) fg rfl (.inr ⟨_,_,rfl,rfl⟩) (.inr ⟨_,_,rfl,rfl⟩) (by omega) (by omega)) (by rw [if_neg (by omega),Nat.zero_add,Nat.mul_one])) ?_)));refine ae (aQ oG rfl) (mvi rfl (ah (ab (aw (a_ (G:=Nat) [10,56,57,58,59,60,61,62,63] (fun j=>[(55,.int .i64 (j:Nat)),(8,.int .i64 (rk l (64*(q/64/8*8+j)):Nat))]) (fun j w'=>j≤q/64-q/64/8*8∧w=w') (fun j=>q/64-q/64/8*8-j) (0) ⟨rfl,(congrArg (fun x:Nat=>Value.int .i64 (x:Int)) (congrArg (rk l) (by omega))),trivial⟩ ?_ ?_)))))
 ·exact ⟨Nat.zero_le _,rfl⟩
 rintro j ρ4 w4 ⟨hj,rfl⟩;refine af (aa (ae (aW rfl rfl) (ah (ab (af (JV rfl (fun Q5=>?_) (fun Q5=>?_)))))))
 ·refine av (ab (af (aw (af (aa (ae (aX fg rfl rfl (by omega)) (ae (an iu rfl (by exact hgw.rd _ (rX (q/64/8*8+j) (by omega)))) ?_)))))));refine asi rfl (ah (ab (aa (mvi rfl (mvi rfl (aF lE (o6 ws[q/64/8*8+j] _ (hW.lt _ (List.getElem_mem _))) ?_))))));rintro v61 w6 ⟨rfl,rfl⟩;refine ae (aG rfl rfl (by have:=vI l (64*(q/64/8*8+j));have:=jH ws[q/64/8*8+j] 64;omega)) ?_;refine asi rfl (ah (aI (ab (aa (ae (aG (b:=1) rfl rfl (by omega)) (mvi rfl (ah ?_)))))));refine aO (j+1) ⟨rfl,(congrArg (fun x:Nat=>Value.int .i64 (x:Int)) (hW.rankw (j:=q/64/8*8+j) (by omega)).symm),trivial⟩ (by (iterate 22 refine aB rfl ?_);exact aJ) ⟨?_,?_⟩
  ·exact ⟨by omega,rfl⟩
  ·omega
 have hj2:q/64/8*8+j=q/64:=by omega
 have hrk:rk l (64*(q/64/8*8+j))=rk l (64*(q/64)):=by rw [hj2]
 refine bc (aC (aC (aS (ab (af ?_)))));apply dN 18 [(64,eqp _),(65,eqp _),(66,eqp _),(67,eqp _),(68,eqp _),(69,eqp _),(70,eqp _),(71,eqp _),(72,eqp _),(73,eqp _),(74,eqp _),(75,eqp _),(76,eqp _),(77,eqp _),(78,eqp _),(79,eqp _),(4,eqp _),(5,eqp _)] (by kernel_rfl) (by kernel_rfl) ⟨ag _,ag _,ag _,ag _,ag _,ag _,ag _,ag _,ag _,ag _,ag _,ag _,ag _,ag _,ag _,ag _,ag _,ag _,trivial⟩
 case hop=>
  constructor
  ·intro w8 D8;exact ai (aq (v:=.int _ _) rfl) rfl
  constructor
  ·intro w9 D9;exact ai (aq (v:=.pointer _) rfl) rfl
  constructor
  ·intro w10 D10;rintro _ rfl;exact ai (ar rfl) rfl
  constructor
  ·intro w11 D11;rintro _ rfl;exact ai (ak en rfl) rfl
  constructor
  ·intro w12 D12;rintro _ rfl;exact ai (ak fP rfl) rfl
  constructor
  ·intro w13 D13;rintro _ rfl;exact ai (an ir rfl (by exact bx (aj.rfl_.next D13) (hV.rd 0 rfl))) rfl
  constructor
  ·intro w14 D14;exact ai (aq (v:=.int _ _) rfl) rfl
  constructor
  ·intro w15 D15;rintro _ rfl _ rfl;exact ai (aA fg rfl rfl (by omega)) rfl
  constructor
  ·intro w16 D16;rintro _ rfl;exact ai (an iu rfl (by exact (hgw.from_ (aj.rfl_.next D16)).rd _ (rX (l:=ws) (q/64) (by omega)))) rfl
  constructor
  ·intro w17 D17;exact ai (aq (v:=.int _ _) rfl) rfl
  constructor
  ·intro w18 D18;rintro _ rfl;exact ai (mv (b:=64) rfl rfl (by decide)) rfl
  constructor
  ·intro w19 D19;rintro _ rfl;exact ai (zo (a:=1) rfl rfl (by exact Nat.le_of_lt (Nat.mod_lt _ (by decide)))) rfl
  constructor
  ·intro w20 D20;rintro _ rfl;exact ai (FI (b:=1) rfl rfl ⟨by rw [zB _ (Nat.mod_lt _ (by decide))];exact Nat.pow_pos (by decide),Nat.mod_lt _ (by decide)⟩) rfl
  constructor
  ·intro w21 D21;rintro _ rfl _ rfl;exact ai (kW rfl rfl (by exact ⟨hW.lt _ (List.getElem_mem _),Nat.lt_of_le_of_lt (Nat.sub_le _ _) (Nat.mod_lt _ (by decide))⟩)) rfl
  constructor
  ·intro w22 D22;rintro _ rfl;refine er lE ((o6 (ws[q/64] &&& (1*2 ^ (q%64)%2 ^ 64-1)) _ (Nat.lt_of_le_of_lt Nat.and_le_left (hW.lt _ (List.getElem_mem _)))).mono ?_);rintro v _ ⟨rfl,rfl⟩;exact ⟨aj.rfl_,rfl⟩
  constructor
  ·intro w23 D23;rintro _ rfl _ rfl;exact ai (aG rfl rfl (by have:=vI l (64*(q/64/8*8+j));have:=jH (ws[q/64] &&& (1*2 ^ (q%64)%2 ^ 64-1)) 64;omega)) rfl
  constructor
  ·intro w24 D24;rintro _ rfl;exact ai (bY (v:=.int _ _) rfl) rfl
  constructor
  ·intro w25 D25;exact ai (bY (v:=.int _ _) rfl) rfl
  exact trivial
 case hend=>
  intro w26 D26;rintro _ rfl _ rfl _ rfl _ rfl _ rfl _ rfl _ rfl _ rfl _ rfl _ rfl _ rfl _ rfl _ rfl _ rfl _ rfl _ rfl _ rfl _ rfl;show St ..;refine ah (ab (ay (cV (v:=.int _ _) (v':=.int _ _) rfl rfl rfl ?_)));constructor
  ·unfold rB rE;rw [if_pos (by omega),if_pos (by omega),Int.toNat_natCast,hW.rankm (i:=q) (by omega),hrk]
  ·exact (aj.rfl_.next D26)
end Go.Proofs.YtcbakncjacnnjaaGreat
namespace Go.Proofs.YtcbakncjacnnjaaGreat
open Go.Proofs.Tryz (prog)
def cC (s x:Nat):Bool:=decide (x/2 ^ s%2=1)
def bX (s:Nat) (M:List Nat):List Nat:=M.filter fun x=> !cC s x
def ee (s:Nat) (M:List Nat):List Nat:=M.filter (cC s)
def ky (s:Nat) (M:List Nat):List Nat:=bX s M++ee s M
def lvl (n:Nat) (L:List Nat):Nat→List Nat
 |0=>L
 |j+1=>ky (n-1-j) (lvl n L j)
theorem q6 (s:Nat) (M:List Nat):(ky s M).length=M.length:=by
 unfold ky bX ee;rw [List.length_append]
 induction M with
 |nil=>rfl
 |cons x r ih=>
  simp only [List.filter_cons];cases cC s x <;> simp only [Bool.not_true,Bool.not_false,if_true,if_false,Bool.false_eq_true,List.length_cons] <;> omega
theorem kZ (n:Nat) (L:List Nat):∀ j,(lvl n L j).length=L.length
 |0=>rfl
 |j+1=>by rw [lvl,q6,kZ n L j]
theorem Dh {s:Nat} {M:List Nat} {x:Nat} (h:x∈ky s M):x∈M:=by
 unfold ky bX ee at h;rcases List.mem_append.1 h with a | a <;> exact (List.mem_filter.1 a).1
theorem zG {n:Nat} {L:List Nat}:∀ {j x},x∈lvl n L j→x∈L
 |0,_,h=>h
 |_+1,_,h=>zG (Dh h)
theorem qz (s:Nat) (M:List Nat):(bX s M).length+(ee s M).length=M.length:=by
 rw [←q6 s M,ky,List.length_append]
theorem mm (s:Nat) (X Y:List Nat):bX s (X++Y)=bX s X++bX s Y:=by unfold bX;rw [List.filter_append]
theorem lW (s:Nat) (X Y:List Nat):ee s (X++Y)=ee s X++ee s Y:=by unfold ee;rw [List.filter_append]
def mP (s:Nat) (M:List Nat) (i:Nat) (b:Bool):Nat:=if b then (bX s M).length+(ee s (M.take i)).length else i-(ee s (M.take i)).length
theorem wz (s:Nat) (X Y:List Nat) (b:Bool):mP s (X++Y) X.length b=if b then (bX s (X++Y)).length+(ee s X).length else (bX s X).length:=by
 unfold mP;rw [List.take_append_of_le_length (Nat.le_refl _),List.take_length];cases b
 ·have:=qz s X;simp;omega
 ·rfl
theorem vB (s:Nat) (X Y Z:List Nat) (b:Bool):∃ X' Z',ky s (X++Y++Z)=X'++Y.filter (fun x=>cC s x==b)++Z'∧X'.length=mP s (X++Y++Z) X.length b∧X'.length+(Y.filter fun x=>cC s x==b).length=mP s (X++Y++Z) (X.length+Y.length) b:=by
 have e1:mP s (X++Y++Z) X.length b=if b then (bX s (X++Y++Z)).length+(ee s X).length else (bX s X).length:=by
  have:=wz s X (Y++Z) b
  rwa [←List.append_assoc] at this
 have e2:mP s (X++Y++Z) (X.length+Y.length) b=if b then (bX s (X++Y++Z)).length+(ee s (X++Y)).length else (bX s (X++Y)).length:=by
  have:=wz s (X++Y) Z b
  rwa [List.length_append] at this
 cases b
 ·have hf:Y.filter (fun x=>cC s x==false)=bX s Y:=by unfold bX;congr 1;funext x;cases cC s x <;> rfl
  refine ⟨bX s X,bX s Z++ee s (X++Y++Z),?_,?_,?_⟩
  ·rw [hf,ky,mm,mm];simp
  ·rw [e1];simp
  ·rw [e2,hf];simp only [Bool.false_eq_true,if_false];rw [mm,List.length_append]
 ·have hf:Y.filter (fun x=>cC s x==true)=ee s Y:=by unfold ee;congr 1;funext x;cases cC s x <;> rfl
  refine ⟨bX s (X++Y++Z)++ee s X,ee s Z,?_,?_,?_⟩
  ·rw [hf,ky,lW,lW];simp
  ·rw [e1,List.append_assoc X Y Z];simp
  ·rw [e2,hf,lW];simp;omega
theorem Dn (s:Nat) (X Z:List Nat) (x:Nat):∃ X' Z',ky s (X++[x]++Z)=X'++[x]++Z'∧X'.length=mP s (X++[x]++Z) X.length (cC s x):=by
 obtain ⟨X',Z',h1,h2,_⟩:=vB s X [x] Z (cC s x);refine ⟨X',Z',?_,h2⟩;have:[x].filter (fun y=>cC s y==cC s x)=[x]:=by simp
 rwa [this] at h1
theorem Bx (x c s:Nat):(x/2 ^ (s+1)=c/2 ^ (s+1)∧cC s x=cC s c)↔x/2 ^ s=c/2 ^ s:=by
 have e:∀ y:Nat,y/2 ^ (s+1)=y/2 ^ s/2:=fun y=>by rw [Nat.div_div_eq_div_mul,←Nat.pow_succ]
 rw [e,e];unfold cC
 generalize x/2 ^ s=a
 generalize c/2 ^ s=b
 constructor
 ·rintro ⟨h1,h2⟩;have:(a%2=1)↔(b%2=1):=by simpa using h2
  omega
 ·rintro rfl;exact ⟨rfl,rfl⟩
def hiL (L:List Nat) (c s:Nat):List Nat:=L.filter fun x=>decide (x/2 ^ s=c/2 ^ s)
theorem GN (L:List Nat) (c s:Nat):(hiL L c (s+1)).filter (fun x=>cC s x==cC s c)=hiL L c s:=by
 unfold hiL;rw [List.filter_filter]
 congr 1
 funext x
 rw [Bool.eq_iff_iff];simp only [Bool.and_eq_true,beq_iff_eq,decide_eq_true_eq];rw [and_comm];exact Bx x c s
theorem GM (L:List Nat) (c:Nat):(hiL L c 0).length=L.countP (fun x=>decide (x=c)):=by
 unfold hiL;rw [List.countP_eq_length_filter];simp
theorem IF (L:List Nat) (c n:Nat) (h:∀ x∈L,x<2 ^ n) (hc:c<2 ^ n):hiL L c n=L:=by
 unfold hiL;rw [List.filter_eq_self];intro x hx;rw [Nat.div_eq_of_lt (h x hx),Nat.div_eq_of_lt hc];simp
theorem FP (s:Nat) (M:List Nat) (i:Nat) (hi:i≤M.length):rk (M.map (cC s)) i=(ee s (M.take i)).length:=by
 induction i with
 |zero=>simp [rk,jP,ee]
 |succ i ih=>
  have h:=ih (by omega)
  have e:rk (M.map (cC s)) (i+1)=rk (M.map (cC s)) i+if cC s M[i] then 1 else 0:=by
   unfold rk;rw [jP];have:bt (M.map (cC s)) i=cC s M[i]:=by unfold bt;rw [List.getD_eq_getElem?_getD,List.getElem?_map,List.getElem?_eq_getElem (by omega)];rfl
   rw [this];cases cC s M[i] <;> rfl
  rw [e,h,List.take_succ_eq_append_getElem (by omega),lW,List.length_append]
  congr 1
  unfold ee;cases hb:cC s M[i] <;> simp [hb]
theorem yg (x s:Nat):x/2 ^ (s+1)*2 ^ (s+1) ||| (if cC s x then 2 ^ s else 0)=x/2 ^ s*2 ^ s:=by
 have e:x/2 ^ (s+1)=x/2 ^ s/2:=by rw [Nat.div_div_eq_div_mul,←Nat.pow_succ]
 have e2:x/2 ^ s*2 ^ s=x/2 ^ (s+1)*2 ^ (s+1)+if cC s x then 2 ^ s else 0:=by
  rw [e,Nat.pow_succ,←Nat.mul_assoc,Nat.mul_right_comm];unfold cC
  generalize x/2 ^ s=a
  by_cases h:a%2=1
  ·rw [if_pos (by simpa using h)];have:a=a/2*2+1:=by omega
   conv=>lhs;rw [this,Nat.add_mul,Nat.one_mul]
  ·rw [if_neg (by simpa using h)];have:a=a/2*2:=by omega
   conv=>lhs;rw [this]
   rfl
 rw [e2]
 have hlt:(if cC s x then 2 ^ s else 0)<2 ^ (s+1):=by
  have:0<2 ^ s:=Nat.pow_pos (by decide);rw [Nat.pow_succ];split <;> omega
 rw [Nat.mul_comm (x/2 ^ (s+1)),Nat.two_pow_add_eq_or_of_lt hlt]
end Go.Proofs.YtcbakncjacnnjaaGreat
namespace Go.Proofs.YtcbakncjacnnjaaGreat
open Go.Proofs.Tryz (prog)
open Go.RowKit
open Go.ChangeShapes Go.WideShapes Go.ChangeAt
abbrev nV (x:Nat):Value:=.int .i64 (x:Nat)
def ia (k:Int) (x:Int):Bool:=decide (x<0∨k≤x)
def iw (k:Int) (xs:List Int):Int:=if k<1∨512<k then 1 else if xs.any (ia k) then 1 else if 131072<xs.length then 2 else 0
theorem EL {xs:List Int} {k:Int} {i:Nat} (hi:i<xs.length) (h:(xs.take i).any (ia k)=false) (hb:ia k xs[i]=false):(xs.take (i+1)).any (ia k)=false:=by
 rw [List.take_succ_eq_append_getElem hi,List.any_append,h];simp [hb]
theorem EM {xs:List Int} {k:Int} {i:Nat} (hi:i<xs.length) (hb:ia k xs[i]=true):xs.any (ia k)=true:=List.any_eq_true.2 ⟨_,List.getElem_mem hi,hb⟩
def fK (L:List Nat) (c:Nat):Nat:=L.countP fun x=>decide (x<c)
def j5 (L:List Nat) (c:Nat):Nat:=L.countP fun x=>decide (x+1=c)
theorem BM {L:List Nat} {i:Nat} (h:i<L.length) (c:Nat):j5 (L.take (i+1)) c=j5 (L.take i) c+if c=L[i]+1 then 1 else 0:=by
 unfold j5;rw [List.take_succ_eq_append_getElem h,List.countP_append];by_cases hc:c=L[i]+1
 ·rw [if_pos hc];simp [hc]
 ·rw [if_neg hc];have:¬ L[i]+1=c:=fun e=>hc e.symm
  simp [this]
theorem yl (L:List Nat) (c:Nat):fK L (c+1)=j5 L (c+1)+fK L c:=by
 unfold fK j5
 induction L with
 |nil=>rfl
 |cons x r ih=>
  simp only [List.countP_cons,ih];rcases Nat.lt_trichotomy x c with h | h | h
  ·rw [decide_eq_true (show x<c+1 by omega),decide_eq_false (show ¬ x+1=c+1 by omega),decide_eq_true h];simp only [if_true,Bool.false_eq_true,if_false];omega
  ·rw [decide_eq_true (show x<c+1 by omega),decide_eq_true (show x+1=c+1 by omega),decide_eq_false (show ¬ x<c by omega)];simp only [if_true,Bool.false_eq_true,if_false];omega
  ·rw [decide_eq_false (show ¬ x<c+1 by omega),decide_eq_false (show ¬ x+1=c+1 by omega),decide_eq_false (show ¬ x<c by omega)];simp only [Bool.false_eq_true,if_false];omega
theorem yk (L:List Nat):fK L 0=0:=by unfold fK;simp
theorem z7 (L:List Nat) (c:Nat):j5 L c≤L.length:=List.countP_le_length
theorem Ep (L:List Nat) (c:Nat):fK L c≤L.length:=List.countP_le_length
def tab (n:Nat) (F:Nat→Nat):Array Value:=((List.range n).map fun c=>nV (F c)).toArray
theorem nE {n:Nat} {F:Nat→Nat} {i:Nat} (h:i<n):(tab n F)[i]? =some (nV (F i)):=by simp [tab,h]
theorem za {n:Nat} {F:Nat→Nat} (i:Nat) (v:Nat):(tab n F).setIfInBounds i (nV v)=tab n fun c=>if c=i then v else F c:=by
 unfold tab;rw [List.setIfInBounds_toArray]
 congr 1
 apply List.ext_getElem
 ·simp
 ·intro j h1 h2;simp only [List.length_set,List.length_map,List.length_range] at h1;rw [List.getElem_set];simp only [List.getElem_map,List.getElem_range];by_cases hj:i=j
  ·subst hj;simp
  ·rw [if_neg hj,if_neg (fun e=>hj e.symm)]
theorem kr {n:Nat} {F G:Nat→Nat} (h:∀ c,c<n→F c=G c):tab n F=tab n G:=by
 unfold tab
 congr 1
 apply List.map_congr_left;intro c hc;rw [h c (by simpa using hc)]
theorem vn (n:Nat) (F:Nat→Nat):(tab n F).size=n:=by simp [tab]
theorem Cf (n:Nat):(List.replicate n (Value.int .i64 0)).toArray=tab n fun _=>0:=by
 unfold tab
 congr 1
 apply List.ext_getElem
 ·simp
 ·intro i h1 h2;simp
theorem EA (k:Int) (A:Option Addr) (c:Nat) (xs:List Int) (w:World) (hr:bA iV w A xs) (hl:xs.length*8≤140737488351232) :
 Rt prog 130 [.int .i64 k,.slice A xs.length c] w (fun v w'=>v=.int .i64 (iw k xs)∧w=w'):=by
 refine enter (n:=30) Tryz.func130 rfl rfl rfl (af (aa (asi rfl (ah (ab (af (af (aa (mvi rfl (ae (aW rfl rfl) (mvb rfl (Jk (t:=9) rfl (fun Q1=>?_) (fun Q1=>?_)))))))))))))
 ·refine aL rfl rfl (aL rfl rfl (ae (bB (v:=.bool _) rfl rfl) (ah (ab (cW rfl (af (aa (asi rfl (ah (ab (ay (aD (bE (v:=.int _ _) rfl rfl ?_)))))))))))));exact ⟨aK (by unfold iw;rw [if_pos (by omega)]),rfl⟩
 refine ao rfl (mvi rfl (ao rfl (ae (cL rfl rfl) (ae (bk (v:=.bool _) rfl rfl) (ah (ab (JV rfl (fun Q2=>?_) (fun Q2=>?_))))))))
 ·refine af (aa (asi rfl (ah (ab (ay (aD (bE (v:=.int _ _) rfl rfl ?_)))))));exact ⟨aK (by unfold iw;rw [if_pos (by omega)]),rfl⟩
 refine av (ab (af (af (aa (mvs rfl (ae (aQ bu rfl) (mvi rfl (ah (ab (aw (a_ (G:=Nat) [4,6,16,17,18,19,20,21,22,23,24,25,26] (fun i=>[(15,.int .i64 (i:Nat))]) (fun i w'=>i≤xs.length∧(xs.take i).any (ia k)=false∧w=w') (fun i=>xs.length-i) (0) ⟨rfl,trivial⟩ ?_ ?_)))))))))))
 ·exact ⟨Nat.zero_le _,rfl,rfl⟩
 rintro i ρ3 w3 ⟨hi,han,rfl⟩;refine af (aa (ae (aW rfl rfl) (ah (ab (af (JV rfl (fun Q4=>?_) (fun Q4=>?_)))))))
 ·have hiL:i<xs.length:=by omega
  obtain ⟨ba,oa,hA,hca⟩:=hr (by omega);subst hA;refine av (ab (af (aw (af (aa (ae (aX bJ rfl rfl (by omega)) (ae (an aU rfl (by exact hca i hiL)) ?_)))))));refine asi rfl (ah (ab (af (aa (mvi rfl (ae (aW rfl rfl) (mvb rfl (Jk (t:=21) rfl (fun Q5=>?_) (fun Q5=>?_)))))))))
  ·have hbd:ia k xs[i]=true:=decide_eq_true (by omega);refine aL rfl rfl (aL rfl rfl (aL rfl rfl (ae (bB (v:=.bool _) rfl rfl) (ah (ab (cW rfl (af (aa (asi rfl (ah (ab (ay (bj (aD (aD (bj (aD ?_)))))))))))))))));refine bE (v:=.int _ _) rfl rfl ?_;exact ⟨aK (by unfold iw;rw [if_neg (by omega),if_pos (EM hiL hbd)]),rfl⟩
  refine ao rfl (mvi rfl (ao rfl (mvi rfl (ao rfl (ae (eA rfl rfl) (ae (bk (v:=.bool _) rfl rfl) (ah (ab (JV rfl (fun Q6=>?_) (fun Q6=>?_))))))))))
  ·have hbd:ia k xs[i]=true:=decide_eq_true (by omega);refine af (aa (asi rfl (ah (ab (ay (bj (aD (aD (bj (aD (bE (v:=.int _ _) rfl rfl ?_)))))))))));exact ⟨aK (by unfold iw;rw [if_neg (by omega),if_pos (EM hiL hbd)]),rfl⟩
  have hbd:ia k xs[i]=false:=decide_eq_false (by omega);refine av (aI (ab (aa (ae (aG (b:=1) rfl rfl (by omega)) (mvi rfl (ah ?_))))));refine aO (i+1) ⟨(by first | rfl | (refine aK ?_;omega)),trivial⟩ (by (iterate 28 refine aB rfl ?_);exact aJ) ⟨?_,?_⟩
  ·exact ⟨by omega,EL hiL han hbd,rfl⟩
  ·omega
 refine bc (aC (aC (aS (ab (af (af (aa (mvs rfl (ae (aQ bu rfl) (ae (cL rfl rfl) (ah (ab (JV rfl (fun Q7=>?_) (fun Q7=>?_))))))))))))))
 ·refine af (aa (asi rfl (ah (ab (ay (aD (bE (v:=.int _ _) rfl rfl ?_)))))));obtain rfl:i=xs.length:=by omega
  rw [List.take_length] at han;exact ⟨aK (by unfold iw;rw [if_neg (by omega),if_neg (by rw [han];simp),if_pos (by omega)]),rfl⟩
 refine av (ab (af (aa (asi rfl (ah (ab (ay (bE (v:=.int _ _) rfl rfl ?_))))))));obtain rfl:i=xs.length:=by omega
 rw [List.take_length] at han;exact ⟨aK (by unfold iw;rw [if_neg (by omega),if_neg (by rw [han];simp),if_neg (by omega)]),rfl⟩
theorem uk (k:Nat) (hk:k≤512) (A:Option Addr) (c:Nat) (L:List Nat) (w:World) (hr:bA nV w A L) (hl:L.length≤131072) (hlt:∀ x∈L,x<k) :
 Rt prog 131 [.int .i64 (k:Nat),.slice A L.length c] w (fun v w'=>(∃ g,v=.slice (some ⟨g,0,none⟩) (k+1) (k+1)∧w.heap.size≤g∧Blk w' g 3 (tab (k+1) (fK L)))∧aj w w'):=by
 refine enter (n:=43) Tryz.func131 rfl rfl rfl (af (aa (ass rfl (ah (ab (af (aa (mvi rfl (ae (aG (b:=1) rfl rfl (by omega)) (gi dL rfl rfl rfl (by omega) (by omega) ?_))))))))));intro b11 w1 E11 hb11 hk11;have hg11:w.heap.size≤b11:=Nat.le_of_eq hb11.symm;refine ass rfl (ah (ab (af (af (aa (mvs rfl (ae (aQ bu rfl) (mvi rfl (ah (ab (aw (a_ (G:=Nat) [7,15,16,17,18,19,20,21,22,23,24,25] (fun i=>[(14,.int .i64 (i:Nat))]) (fun i w'=>i≤L.length∧Blk w' b11 3 (tab (k+1) (j5 (L.take i)))∧aj w w') (fun i=>L.length-i) (0) ⟨rfl,trivial⟩ ?_ ?_))))))))))))
 ·exact ⟨Nat.zero_le _,by rw [show (tab (k+1) (j5 (L.take 0)))=_ from (kr fun c _=>by simp [j5]).trans (Cf (k+1)).symm];exact hk11,(aj.rfl_.next E11)⟩
 rintro i ρ2 w2 ⟨hi,hT,hB⟩;refine af (aa (ae (aW rfl rfl) (ah (ab (af (JV rfl (fun Q3=>?_) (fun Q3=>?_)))))))
 ·have hiL:i<L.length:=by omega
  obtain ⟨ba,oa,hA,hca⟩:=hr (by omega);subst hA;have hLk:L[i]<k:=hlt _ (List.getElem_mem _);refine av (ab (af (aw (af (aa (ae (aX bJ rfl rfl (by omega)) (ae (an aU rfl (by exact bx hB (hca i hiL))) ?_)))))));refine asi rfl (ah (ab (aa (mvs rfl (mvi rfl (ae (aG (b:=1) rfl rfl (by omega)) (ae (aA bJ rfl rfl (by omega)) (ae (an aU rfl (by exact hT.rd _ (nE (by omega)))) ?_))))))));refine ae (aG (b:=1) rfl rfl (by have:=z7 (L.take i) (L[i]+1);rw [List.length_take] at this;omega)) ?_;refine ae (aA bJ rfl rfl (by omega)) (bH (v:=.int _ _) b_ rfl rfl rfl (hT) (by rw [vn];omega) ?_);intro w4 O5 P5;refine ah (aI (ab (aa (ae (aG (b:=1) rfl rfl (by omega)) (mvi rfl (ah ?_))))));refine aO (i+1) ⟨(by first | rfl | (refine aK ?_;omega)),trivial⟩ (by (iterate 26 refine aB rfl ?_);exact aJ) ⟨?_,?_⟩
  ·refine ⟨by omega,?_,(hB.only O5 (hg11))⟩;have e:tab (k+1) (fun c=>if c=L[i]+1 then j5 (L.take i) (L[i]+1)+1 else j5 (L.take i) c)=tab (k+1) (j5 (L.take (i+1))):=kr fun c _=>by rw [BM hiL];by_cases hc:c=L[i]+1 <;> simp [hc]
   rw [←e,←za];exact P5
  ·omega
 refine bc (aC (aC (aS (ab (af (af (aa (mvi rfl (mvi rfl (ah (ab (aw (a_ (G:=Nat) [8,28,29,30,31,32,33,34,35,36,37,38,39,40,41] (fun j=>[(27,.int .i64 (j:Nat))]) (fun j w'=>j≤k∧Blk w' b11 3 (tab (k+1) (fun c=>if c≤j then fK L c else j5 L c))∧aj w w') (fun j=>k-j) (0) ⟨rfl,trivial⟩ ?_ ?_)))))))))))))
 ·refine ⟨Nat.zero_le _,?_,hB⟩;obtain rfl:i=L.length:=by omega
  rw [List.take_length] at hT
  have e:tab (k+1) (fun c=>if c≤0 then fK L c else j5 L c)=tab (k+1) (j5 L):=kr fun c _=>by
   split
   ·rename_i h;obtain rfl:c=0:=by omega
    rw [yk];unfold j5;simp
   ·rfl
  rw [e];exact hT
 rintro j ρ5 w5 ⟨hj,hT2,hB⟩;refine af (aa (ae (aW rfl rfl) (ah (ab (af (JV rfl (fun Q6=>?_) (fun Q6=>?_)))))))
 ·have hjk:j<k:=by omega
  refine av (ab (af (aw (af (aa (mvi rfl (asi rfl (ah (ab ?_)))))))));apply bS 11 [(30,eqp _),(31,eqp _),(32,eqp _),(33,eqp _),(34,eqp (nV (j5 L (j+1)))),(35,eqp _),(36,eqp _),(37,eqp _),(38,eqp (nV (fK L j))),(39,eqp (nV (j5 L (j+1)+fK L j))),(40,eqp _)] (by repeat first | exact cy | refine cm ?_ | refine bO ?_) (by kernel_rfl) (by kernel_rfl) ⟨ag _,ag _,ag _,ag _,ag _,ag _,ag _,ag _,ag _,ag _,ag _,trivial⟩
  case hop=>
   constructor
   ·rintro-w8 D8;exact ai (aq (v:=.slice _ _ _) rfl) rfl
   constructor
   ·rintro-w9 D9;exact ai (aq (v:=.int _ _) rfl) rfl
   constructor
   ·rintro-w10 D10;rintro _ rfl;exact ai (aG (b:=1) rfl rfl (by omega)) rfl
   constructor
   ·rintro-w11 D11;rintro _ rfl _ rfl;exact ai (aA bJ rfl rfl (by omega)) rfl
   constructor
   ·rintro-w12 D12;rintro _ rfl;exact ai (an aU rfl ((hT2.from_ D12).rd _ (by rw [nE (by omega),if_neg (by omega)]))) rfl
   constructor
   ·rintro-w13 D13;exact ai (aq (v:=.slice _ _ _) rfl) rfl
   constructor
   ·rintro-w14 D14;exact ai (aq (v:=.int _ _) rfl) rfl
   constructor
   ·rintro-w15 D15;rintro _ rfl _ rfl;exact ai (aA bJ rfl rfl (by omega)) rfl
   constructor
   ·rintro-w16 D16;rintro _ rfl;exact ai (an aU rfl ((hT2.from_ D16).rd _ (by rw [nE (by omega),if_pos (Nat.le_refl _)]))) rfl
   constructor
   ·rintro-w17 D17;rintro v17_34 rfl v17_38 rfl;exact ai (aG rfl rfl (by have:=z7 L (j+1);have:=Ep L j;omega)) rfl
   constructor
   ·rintro-w18 D18;rintro _ rfl _ rfl;exact ai (aA bJ rfl rfl (by omega)) rfl
   exact trivial
  case hend=>
   intro w19 D19;rintro _ rfl _ rfl _ rfl _ rfl v34 rfl _ rfl _ rfl _ rfl v38 rfl v39 rfl _ rfl;show St ..;have hT3:=hT2.from_ D19;refine bH (v:=.int _ _) b_ rfl rfl rfl (hT3) (by rw [vn];omega) ?_;intro w20 O10 P10;refine ah (aI (ab (aa (ae (aG (b:=1) rfl rfl (by omega)) (mvi rfl (ah ?_))))));refine aO (j+1) ⟨(by first | rfl | (refine aK ?_;omega)),trivial⟩ (by (iterate 32 refine aB rfl ?_);exact aJ) ⟨?_,?_⟩
   ·refine ⟨by omega,?_,((hB.next D19).only O10 (hg11))⟩
    have e:tab (k+1) (fun c=>if c=j+1 then j5 L (j+1)+fK L j else if c≤j then fK L c else j5 L c)=tab (k+1) (fun c=>if c≤j+1 then fK L c else j5 L c):=kr fun c _=>by
     by_cases h1:c=j+1
     ·subst h1;rw [if_pos rfl,if_pos (Nat.le_refl _),yl]
     ·rw [if_neg h1];by_cases h2:c≤j
      ·rw [if_pos h2,if_pos (by omega)]
      ·rw [if_neg h2,if_neg (by omega)]
    rw [←e,←za];exact P10
   ·omega
 refine bc (aC (aC (aS (ab (af (aa (mvs rfl (ass rfl (ah (ab (ay (bE (v:=.slice _ _ _) rfl rfl ?_))))))))))));obtain rfl:j=k:=by omega
 have e:tab (j+1) (fun c=>if c≤j then fK L c else j5 L c)=tab (j+1) (fK L):=kr fun c hc=>if_pos (by omega)
 rw [e] at hT2;exact ⟨⟨b11,rfl,hg11,hT2⟩,hB⟩
theorem lJ:cG prog 175 0=some 0:=by kernel_rfl
theorem mQ:fp prog 173=some false:=by kernel_rfl
theorem sL:az prog 216=true:=by kernel_rfl
theorem dy:fp prog 175=some true:=by kernel_rfl
theorem cB:dK prog 175=some 3:=by kernel_rfl
theorem sM:az prog 213=true:=by kernel_rfl
theorem pZ:cG prog 175 1=some 1:=by kernel_rfl
theorem lI:cG prog 175 2=some 2:=by kernel_rfl
theorem iQ:lN prog 175=some (.agg #[.pointer none,.int .i64 0,.int .i64 0]):=by kernel_rfl
theorem sO:az prog 161=true:=by kernel_rfl
theorem mL:∀ (a0:Option Addr) (a1:Int) (a2:Int),prog.built 175 [(0,.pointer a0),(1,.int .i64 a1),(2,.int .i64 a2)]=some #[.pointer a0,.int .i64 a1,.int .i64 a2]:=by intros;kernel_rfl
theorem pN (s c:Nat):((((c/2 ^ s &&& 1:Nat):Int))==1)=cC s c:=by
 rw [Nat.and_one_is_mod];unfold cC
 generalize c/2 ^ s%2=r
 rw [Bool.eq_iff_iff];simp only [beq_iff_eq,decide_eq_true_eq];omega
theorem Jw {l:List Bool} {i:Nat} (h:i≤l.length):rB l (i:Nat)=(rk l i:Nat):=by
 unfold rB;rw [if_pos (by omega)];simp
theorem tP (s:Nat) (M:List Nat) (i:Nat):(ee s (M.take i)).length≤i:=by
 have:=qz s (M.take i);rw [List.length_take] at this;omega
section
variable {P:Program} {ops:Array Oper} {Q:Exit→Act→World→Prop} {rest:List Oper} {n:Fr} {L:List (Nat×Value)} {w:World} {ty:TypeId} {pos:String} {after:Array Edge} {d:Nat} {t:TypeId} {x y:Operand}
theorem nJ {e by_ m base:Nat} {z:Value} {kl kc:IntKind} (ht:kB P t=some (e,by_,z)) (hz:z.cells=#[z]) (hx:ev n L x=.int kl 0) (hy:ev n L y=.int kc (m:Nat)) (hm:m≤9007199254740992) (hb:by_*m≤281474976710656) (hbs:base≤w.heap.size)
 (k:∀ g w',aj w w'→g=w.heap.size→w'.ownsRow base e 1 (.slice (some ⟨g,0,none⟩) 0 m) 0 []→St P ops Q rest n ((d,.slice (some ⟨g,0,none⟩) 0 m)::L) w'):St P ops Q (⟨some d,.makeSlice t x y,ty,pos,after,none⟩::rest) n L w:=by
 unfold kB at ht;split at ht
 ·rename_i e' hu;cases hi:P.info? e' with
  |none=>simp [hi] at ht
  |some i=>
   rw [hi] at ht;simp only [Option.bind_some] at ht;split at ht
   ·rename_i hs;cases hzz:i.zero with
    |none=>simp [hzz] at ht
    |some z'=>
     simp only [hzz,Option.map_some,Option.some.injEq,Prod.mk.injEq] at ht;obtain ⟨rfl,rfl,rfl⟩:=ht
     have hr:=run_make (P:=P) w t e' i z' hu hi hzz kl kc 0 (m:Int) (by omega) (by omega) (by
      have:((i.bytes*m:Nat):Int)≤281474976710656:=by omega
      rwa [Int.natCast_mul] at this) (by omega)
     rw [Int.toNat_natCast] at hr;refine ae (v:=.slice (some ⟨w.heap.size,0,none⟩) 0 m) (w':=w.alloc (.cells (madeCells z'.cells (m*i.size)) e')) (fun _ _ _ _ _=>?_) (k _ _ (aj.rfl_.new _) rfl ⟨by simp,.inr ⟨w.heap.size,m,_,rfl,hbs,heap_alloc_new w _,Nat.zero_le _,by unfold maxLen;omega,by simp [madeCells,hs],by simp⟩⟩);simp [execOp,hx,hy,hr]
   ·cases ht
 ·cases ht
end
def iU (v z s:Nat):List Value:=[.pointer (some ⟨v,0,none⟩),.int .i64 (z:Nat),.int .i64 (s:Nat)]
theorem Ie (base v z s i:Nat) (M:List Nat) (w:World) (hv:Vec w base v (M.map (cC s))) (hi:i≤M.length) (_:z=(bX s M).length) (_:M.length≤131072) :
 Rt prog 213 [.agg (iU v z s).toArray,.int .i64 (i:Nat)] w (fun v w'=>v=.int .i64 ((ee s (M.take i)).length:Nat)∧aj w w'):=by
 refine enter (n:=15) Tryz.func213 rfl rfl rfl (af (aa (cK (v:=.agg _) rfl ?_)));intro b2 w1 E2 hb2 hk2;refine asi rfl (ah (ab (af (aa (ae (ak lJ rfl) (ae (an mQ rfl (by exact (hk2.from_ aj.rfl_).rd 0 rfl)) ?_))))));refine mvi rfl (aF sL (FV base v (i:Nat) (M.map (cC s)) _ (hv.from_ (aj.rfl_.next E2))) ?_);rintro v11 w2 ⟨rfl,E11⟩;refine mvt rfl (ae (ax rfl rfl) (ae (ax rfl rfl) (asi rfl (asi rfl (ah (ab (af (aa (mvi rfl (asi rfl (ah (ab (ay ?_)))))))))))));refine bE (v:=.int _ _) rfl rfl (⟨aK (by rw [Jw (by rw [List.length_map];exact hi),FP s M i hi]),((aj.rfl_.next E2).next E11)⟩)
theorem fc (base v z s i:Nat) (M:List Nat) (w:World) (hv:Vec w base v (M.map (cC s))) (hi:i≤M.length) (hz:z=(bX s M).length) (hM:M.length≤131072) (b:Bool) :
 Rt prog 207 [.agg (iU v z s).toArray,.int .i64 (i:Nat),.bool b] w (fun v w'=>v=.int .i64 (mP s M i b:Nat)∧aj w w'):=by
 refine enter (n:=19) Tryz.func207 rfl rfl rfl (af (aa (cK (v:=.agg _) rfl ?_)));intro b3 w1 E3 hb3 hk3;refine asi rfl (ah (ab (af (aa (ae (bn (cs:=[_,_,_]) dy cB rfl (by exact (hk3.from_ aj.rfl_).whole)) ?_)))));refine mvi rfl (aF sM (Ie base v z s i M _ (hv.from_ (aj.rfl_.next E3)) hi hz hM) ?_);rintro v10 w2 ⟨rfl,E10⟩;refine asi rfl (ah (ab (af (af (aa (mvb rfl (ah (ab (au rfl (fun Q3=>?_) (fun Q3=>?_))))))))))
 ·(try first | (replace Q3 := fm Q3; trace "@MK N fc:c11+ 1.1") | (replace Q3 := fo Q3; trace "@MK N fc:c11+ 1.2"))
  (try first | (replace Q3 := eH Q3; trace "@MK N fc:c11+ 2.1") | (replace Q3 := eI Q3; trace "@MK N fc:c11+ 2.2") | (replace Q3 := fX Q3; trace "@MK N fc:c11+ 2.3") | (replace Q3 := fY Q3; trace "@MK N fc:c11+ 2.4") | (replace Q3 := dT_ Q3; trace "@MK N fc:c11+ 2.5") | (replace Q3 := dF_ Q3; trace "@MK N fc:c11+ 2.6"))
  refine af (aa (ae (ak pZ rfl) (ae (an aU rfl (by exact (hk3.from_ (aj.rfl_.next E10)).rd 1 rfl)) ?_)));refine mvi rfl (ae (aG rfl rfl (by have:=qz s M;have:=tP s M i;omega)) ?_);refine asi rfl (ah (ab (ay (aD (bE (v:=.int _ _) rfl rfl (⟨aK ?_,((aj.rfl_.next E3).next E10)⟩))))));unfold mP
  first | rw [if_pos (by assumption),hz] | (simp_all;done)
 (try first | (replace Q3 := fm Q3; trace "@MK N fc:c11- 1.1") | (replace Q3 := fo Q3; trace "@MK N fc:c11- 1.2"))
 (try first | (replace Q3 := eH Q3; trace "@MK N fc:c11- 2.1") | (replace Q3 := eI Q3; trace "@MK N fc:c11- 2.2") | (replace Q3 := fX Q3; trace "@MK N fc:c11- 2.3") | (replace Q3 := fY Q3; trace "@MK N fc:c11- 2.4") | (replace Q3 := dT_ Q3; trace "@MK N fc:c11- 2.5") | (replace Q3 := dF_ Q3; trace "@MK N fc:c11- 2.6"))
 refine av (ab (af (aa (mvi rfl (mvi rfl (ae (bP rfl rfl (by have:=tP s M i;omega)) ?_))))));refine asi rfl (ah (ab (ay (bE (v:=.int _ _) rfl rfl (⟨aK ?_,((aj.rfl_.next E3).next E10)⟩)))));unfold mP
 first | rw [if_neg (by simp_all)] | (simp_all;done)
theorem Jy (v z s c:Nat) (w:World) (hs:s≤9) (hc:c<1024) :
 Rt prog 206 [.agg (iU v z s).toArray,.int .i64 (c:Nat)] w (fun v w'=>v=.bool (cC s c)∧aj w w'):=by
 refine enter (n:=11) Tryz.func206 rfl rfl rfl (af (aa (cK (v:=.agg _) rfl ?_)));intro b2 w1 E2 hb2 hk2;refine asb rfl (ah (ab (af (aa (mvi rfl (ae (ak lI rfl) (ae (an aU rfl (by exact (hk2.from_ aj.rfl_).rd 2 rfl)) ?_)))))));refine ae (ep rfl rfl (by show s≤64;omega)) ?_;refine ae (tJ (b:=1) rfl rfl ⟨by have:=Nat.div_le_self c (2 ^ s);omega,by decide⟩) ?_;refine ae (cx rfl rfl) (asb rfl (ah (ab (ay (bE (v:=.bool _) rfl rfl (⟨congrArg Value.bool (pN s c),(aj.rfl_.next E2)⟩))))))
def iI (s:Nat) (L:List Nat) (i:Nat):List Bool:=(L.take i).map (cC s)++List.replicate (L.length-i) false
theorem rU {s:Nat} {L:List Nat} {i:Nat} (h:i≤L.length):(iI s L i).length=L.length:=by simp [iI];omega
theorem rS {s:Nat} {L:List Nat} {i:Nat} (h:i<L.length):(iI s L i).set i (cC s L[i])=iI s L (i+1):=by
 unfold iI;have e:((L.take i).map (cC s)).length=i:=by simp;omega
 rw [List.set_append_right _ _ (by omega),e,Nat.sub_self,show L.length-i=(L.length-(i+1))+1 by omega,List.replicate_succ,List.set_cons_zero,List.take_succ_eq_append_getElem h,List.map_append];simp
theorem yq {s:Nat} {L:List Nat}:iI s L L.length=L.map (cC s):=by simp [iI]
theorem kO {s:Nat} {L:List Nat} {i:Nat} (h:i<L.length):bX s (L.take (i+1))=bX s (L.take i)++if cC s L[i] then [] else [L[i]]:=by
 rw [List.take_succ_eq_append_getElem h,mm]
 congr 1
 unfold bX;cases hb:cC s L[i] <;> simp [hb]
theorem mA {s:Nat} {L:List Nat} {i:Nat} (h:i<L.length):ee s (L.take (i+1))=ee s (L.take i)++if cC s L[i] then [L[i]] else []:=by
 rw [List.take_succ_eq_append_getElem h,lW]
 congr 1
 unfold ee;cases hb:cC s L[i] <;> simp [hb]
theorem uv (l:List Bool) (i:Nat) (h:i<l.length):(l.map boV).toArray[i]? =some (boV l[i]):=by simp [h]
theorem I4 {l:List Bool} (i:Nat) (x:Bool):((l.map boV).toArray.setIfInBounds i (boV x))=((l.set i x).map boV).toArray:=by
 rw [List.setIfInBounds_toArray,List.map_set]
theorem G8 {s:Nat} {L:List Nat} {i:Nat} (h:i<L.length):((iI s L (i+1)).map boV).toArray[i]? =some (boV (cC s L[i])):=by
 rw [←rS h,uv _ i (by rw [List.length_set,rU (by omega)];exact h),List.getElem_set_self]
theorem BQ {s:Nat} {L:List Nat} {i:Nat} (h:i<L.length):((L.map (cC s)).map boV).toArray[i]? =some (boV (cC s L[i])):=by
 rw [uv _ i (by rw [List.length_map];exact h),List.getElem_map]
theorem JA (A:Option Addr) (c n:Nat) (l:List Bool) (w:World) (hn:n=l.length) (hr:bA boV w A l) (hl:n≤1048576):Rt prog 161 [.slice A n c] w fun v w'=>∃ b,v=.tuple #[.pointer (some ⟨b,0,none⟩),.int .i64 0]∧Vec w' w.heap.size b l∧aj w w':=by
 subst hn;exact new_rt A c l w hr hl
theorem FQ (n:Nat):(List.replicate n (Value.bool false)).toArray=((List.replicate n false).map boV).toArray:=by rw [List.map_replicate]
theorem dc (A:Option Addr) (c:Nat) (L:List Nat) (w:World) (hr:bA nV w A L) (hl:L.length≤131072) (s:Nat) (hs:s≤9) (h10:∀ x∈L,x<1024) :
 Rt prog 132 [.slice A L.length c,.int .i64 (s:Nat)] w (fun v w'=>(∃ b A' c',v=.tuple #[.agg (iU b (bX s L).length s).toArray,.slice A' L.length c',.int .i64 0]∧Vec w' w.heap.size b (L.map (cC s))∧w'.ownsRow w.heap.size 3 1 (.slice A' L.length c') L.length ((ky s L).map nV))∧aj w w'):=by
 refine enter (n:=76) Tryz.func132 rfl rfl rfl (af (aa (dI iQ ?_)));intro b4 w1 E4 hb4 hk4;have hl4:=hk4.lt;have hg4:w.heap.size≤b4:=Nat.le_of_eq hb4.symm;refine ass rfl (asi rfl (ah (ab (af (aa (mvs rfl (ae (aQ bu rfl) (gi oi rfl rfl rfl (by omega) (by omega) ?_))))))));intro b18 w2 E18 hb18 hk18;have hg18:w.heap.size≤b18:=by rw [hb18];exact Nat.le_trans hg4 (Nat.le_of_lt hl4)
 have h418:b4≠b18:=by omega
 refine ass rfl (ah (ab (af (aa (mvs rfl (ae (aQ bu rfl) (nJ (base:=w.heap.size) dL rfl rfl rfl (by omega) (by omega) ((aj.rfl_.next E4).next E18).size ?_)))))));intro b21 w3 E21 hb21 ho21;refine ass rfl (ah (ab (af (af (aa (mvs rfl (ae (aQ bu rfl) (mvi rfl (ah (ab (aw (a_ (G:=Nat×Option Addr×Nat×Nat) [9,10,25,26,27,28,29,30,31,32,33,34,35,36,37,38,39,40,41,42,43,44,45,46] (fun (i,A8,c8,m)=>[(8,.slice A8 m c8),(24,.int .i64 (i:Nat))]) (fun (i,A8,c8,m) w'=>i≤L.length∧m=(bX s (L.take i)).length∧Blk w' b18 4 ((iI s L i).map boV).toArray∧w'.ownsRow w.heap.size 3 1 (.slice A8 m c8) m ((bX s (L.take i)).map nV)∧Blk w' b4 175 #[.pointer none,.int .i64 0,.int .i64 0]∧aj w w') (fun (i,_,_,_)=>L.length-i) ((0,some ⟨b21,0,none⟩,L.length,0)) ⟨rfl,rfl,trivial⟩ ?_ ?_))))))))))))
 ·refine ⟨Nat.zero_le _,rfl,?_,ho21,hk4.from_ (E18.next E21),(((aj.rfl_.next E4).next E18).next E21)⟩;have e:iI s L 0=List.replicate L.length false:=by simp [iI]
  rw [e,←FQ];exact hk18.from_ E21
 rintro ⟨i,A8,c8,m⟩ ρ4 w4 ⟨hi,hm,hT,ho8,hR4,hB⟩;refine af (aa (ae (aW rfl rfl) (ah (ab (af (JV rfl (fun Q5=>?_) (fun Q5=>?_)))))))
 ·have hiL:i<L.length:=by omega
  have hmb:m≤L.length:=by rw [hm];have:=qz s (L.take i);rw [List.length_take] at this;omega
  obtain ⟨ba,oa,hA,hca⟩:=hr (by omega);subst hA;refine av (ab (gz (G:=Option Addr×Nat×Nat) [9,10,26,27,28,29,30,31,32,33,34,35,36,37,38,39,40,41,42,43,44,45] (fun (A8,c8,m)=>[(8,.slice A8 m c8)]) (fun (A8,c8,m) w'=>m=(bX s (L.take (i+1))).length∧Blk w' b18 4 ((iI s L (i+1)).map boV).toArray∧w'.ownsRow w.heap.size 3 1 (.slice A8 m c8) m ((bX s (L.take (i+1))).map nV)∧Blk w' b4 175 #[.pointer none,.int .i64 0,.int .i64 0]∧aj w w') ?_ ?_))
  ·refine aw (af (aa (mvi rfl (ae (aX bJ rfl rfl (by omega)) (ae (an aU rfl (by exact bx hB (hca i hiL))) ?_)))));refine asi rfl (asi rfl (ah (ab (af (aa (mvs rfl (mvi rfl (mvi rfl (mvi rfl (ae (ep rfl rfl (by show s≤64;omega)) ?_))))))))));refine ae (tJ (b:=1) rfl rfl ⟨by have:=Nat.div_le_self (L[i]) (2 ^ s);have:=h10 _ (List.getElem_mem hiL);omega,by decide⟩) ?_;refine ae (eR (cx rfl rfl) (congrArg Value.bool (pN s L[i]))) (ae (aA cS rfl rfl (by omega)) (bH (v:=.bool _) jR rfl rfl rfl (hT) (by simp;rw [rU hi];exact hiL) ?_));intro w6 O6 P6;have P6b:Blk w6 b18 4 ((iI s L (i+1)).map boV).toArray:=by rw [←rS hiL,←I4];exact P6
   refine ah (ab (af (aa (mvs rfl (mvi rfl (ae (aA cS rfl rfl (by omega)) (ae (an (v:=boV (cC s L[i])) fM rfl (P6b.rd i (G8 hiL))) (ae (eQ rfl) (ah (ab (JT rfl (fun Q7=>?_) (fun Q7=>?_))))))))))))
   ·have hbt:cC s L[i]=false:=by simpa using Q7
    refine aa (mvs rfl (mvi rfl (fy (v:=.int _ _) cF rfl rfl rfl ?_)));intro b44 w8 E44 hb44 hk44;have hTq:=P6b.from_ E44;have hRq:=(hR4.only O6 (by omega)).from_ E44;have hoq:=(cf ho8 O6 (cY ho8 hT (by decide))).kept_from E44;refine qK (a0:=w) cF rfl rfl (hoq) ((hB.only O6 (hg18)).next E44) rfl hk44 rfl (by omega) (by omega) ?_;intro A45 c45 w9 ho45 B45 hg45;refine ass rfl (ah (aI ?_));refine aO ((A45,c45,m+1)) ⟨(by first | rfl | (refine aK ?_;omega)),trivial⟩ (by (iterate 23 refine aB rfl ?_);exact aJ) ?_;exact ⟨by rw [kO hiL,hbt,hm];simp,hTq.grown hg45 (cY hoq hTq (by decide)),by rw [kO hiL,hbt,List.map_append];exact ho45,hRq.grown hg45 (cY hoq hRq (by decide)),B45⟩
   have hbt:cC s L[i]=true:=by simpa using Q7
   refine av (aI ?_);refine aO ((A8,c8,m)) ⟨(by first | rfl | (refine aK ?_;omega)),trivial⟩ (by (iterate 18 refine aB rfl ?_);exact aJ) ?_;exact ⟨by rw [kO hiL,hbt,hm];simp,P6b,by rw [kO hiL,hbt];simpa using cf ho8 O6 (cY ho8 hT (by decide)),hR4.only O6 (by omega),(hB.only O6 (hg18))⟩
  rintro ⟨A8',c8',m'⟩ ρ10 w10 ⟨hm2,hT2,ho82,hR42,hB⟩;refine aa (ae (aG (b:=1) rfl rfl (by omega)) (mvi rfl (ah ?_)));refine aO ((i+1,A8',c8',m')) ⟨(by first | rfl | (refine aK ?_;omega)),(by first | rfl | (refine aK ?_;omega)),trivial⟩ (by (iterate 52 refine aB rfl ?_);exact aJ) ⟨?_,?_⟩
  ·exact ⟨by omega,hm2,hT2,ho82,hR42,hB⟩
  ·show L.length-(i+1)<L.length-i;omega
 refine bc (aC (aC (aS (ab (af (aa (mvs rfl (ae (aQ bu rfl) (asi rfl (ah (ab (af (af (aa (mvs rfl (ae (aQ bu rfl) (mvi rfl ?_)))))))))))))))));refine ah (ab (aw (a_ (G:=Nat×Option Addr×Nat×Nat) [12,13,52,53,54,55,56,57,58,59,60,61,62,63,64] (fun (i,A8,c8,m)=>[(8,.slice A8 m c8),(51,.int .i64 (i:Nat))]) (fun (i,A8,c8,m) w'=>i≤L.length∧m=((bX s L)++ee s (L.take i)).length∧Blk w' b18 4 ((L.map (cC s)).map boV).toArray∧w'.ownsRow w.heap.size 3 1 (.slice A8 m c8) m (((bX s L)++ee s (L.take i)).map nV)∧Blk w' b4 175 #[.pointer none,.int .i64 0,.int .i64 0]∧aj w w') (fun (i,_,_,_)=>L.length-i) ((0,A8,c8,m)) ⟨rfl,rfl,trivial⟩ ?_ ?_)))
 ·obtain rfl:i=L.length:=by omega
  rw [yq] at hT;rw [List.take_length] at ho8 hm;exact ⟨Nat.zero_le _,by simpa [ee] using hm,hT,by simpa [ee] using ho8,hR4,hB⟩
 rintro ⟨i2,A9,c9,m2⟩ ρ11 w11 ⟨hi2,hm3,hT3,ho9,hR5,hB⟩;refine af (aa (ae (aW rfl rfl) (ah (ab (af (JV rfl (fun Q12=>?_) (fun Q12=>?_)))))))
 ·have hiL2:i2<L.length:=by omega
  have hmb2:m2≤262144:=by rw [hm3,List.length_append];have:=qz s L;have:=tP s L i2;omega
  obtain ⟨ba,oa,hA,hca⟩:=hr (by omega);subst hA;refine av (ab (gz (G:=Option Addr×Nat×Nat) [12,13,53,54,55,56,57,58,59,60,61,62,63] (fun (A8,c8,m)=>[(8,.slice A8 m c8)]) (fun (A8,c8,m) w'=>m=((bX s L)++ee s (L.take (i2+1))).length∧Blk w' b18 4 ((L.map (cC s)).map boV).toArray∧w'.ownsRow w.heap.size 3 1 (.slice A8 m c8) m (((bX s L)++ee s (L.take (i2+1))).map nV)∧Blk w' b4 175 #[.pointer none,.int .i64 0,.int .i64 0]∧aj w w') ?_ ?_))
  ·refine aw (af (aa (mvi rfl (ae (aX bJ rfl rfl (by omega)) (ae (an aU rfl (by exact bx hB (hca i2 hiL2))) ?_)))));refine asi rfl (asi rfl (ah (ab (af (aa (mvs rfl (mvi rfl (ae (aA cS rfl rfl (by omega)) (ae (an (v:=boV (cC s L[i2])) fM rfl (hT3.rd i2 (BQ hiL2))) (ah (ab (au rfl (fun Q13=>?_) (fun Q13=>?_)))))))))))))
   ·(try with_reducible first | (replace Q13 := dT_ Q13; trace "@MK N dc:c25-.c52+.c59+ 1.1") | (replace Q13 := dF_ Q13; trace "@MK N dc:c25-.c52+.c59+ 1.2") | (replace Q13 := fm Q13; trace "@MK N dc:c25-.c52+.c59+ 1.3") | (replace Q13 := fo Q13; trace "@MK N dc:c25-.c52+.c59+ 1.4"))
    (try with_reducible first | (replace Q13 := dT_ Q13; trace "@MK N dc:c25-.c52+.c59+ 2.1") | (replace Q13 := dF_ Q13; trace "@MK N dc:c25-.c52+.c59+ 2.2") | (replace Q13 := eH Q13; trace "@MK N dc:c25-.c52+.c59+ 2.3") | (replace Q13 := eI Q13; trace "@MK N dc:c25-.c52+.c59+ 2.4") | (replace Q13 := fX Q13; trace "@MK N dc:c25-.c52+.c59+ 2.5") | (replace Q13 := fY Q13; trace "@MK N dc:c25-.c52+.c59+ 2.6"))
    have hbt2:cC s L[i2]=true:=Q13;refine aa (mvs rfl (mvi rfl (fy (v:=.int _ _) cF rfl rfl rfl ?_)));intro b62 w14 E62 hb62 hk62;refine qK (a0:=w) cF rfl rfl ((ho9.kept_from E62)) (hB.next E62) rfl hk62 rfl (by omega) (by omega) ?_;intro A63 c63 w15 ho63 B63 hg63;refine ass rfl (ah (aI ?_));refine aO ((A63,c63,m2+1)) ⟨(by first | rfl | (refine aK ?_;omega)),trivial⟩ (by (iterate 14 refine aB rfl ?_);exact aJ) ?_;exact ⟨by rw [mA hiL2,hbt2,hm3];simp;omega,(hT3.from_ E62).grown hg63 (cY (ho9.kept_from E62) (hT3.from_ E62) (by decide)),by rw [mA hiL2,hbt2];simpa using ho63,(hR5.from_ E62).grown hg63 (cY (ho9.kept_from E62) (hR5.from_ E62) (by decide)),B63⟩
   (try with_reducible first | (replace Q13 := dT_ Q13; trace "@MK N dc:c25-.c52+.c59- 1.1") | (replace Q13 := dF_ Q13; trace "@MK N dc:c25-.c52+.c59- 1.2") | (replace Q13 := fm Q13; trace "@MK N dc:c25-.c52+.c59- 1.3") | (replace Q13 := fo Q13; trace "@MK N dc:c25-.c52+.c59- 1.4"))
   (try with_reducible first | (replace Q13 := dT_ Q13; trace "@MK N dc:c25-.c52+.c59- 2.1") | (replace Q13 := dF_ Q13; trace "@MK N dc:c25-.c52+.c59- 2.2") | (replace Q13 := eH Q13; trace "@MK N dc:c25-.c52+.c59- 2.3") | (replace Q13 := eI Q13; trace "@MK N dc:c25-.c52+.c59- 2.4") | (replace Q13 := fX Q13; trace "@MK N dc:c25-.c52+.c59- 2.5") | (replace Q13 := fY Q13; trace "@MK N dc:c25-.c52+.c59- 2.6"))
   have hbt2:cC s L[i2]=false:=by simpa using Q13
   refine av (aI ?_);refine aO ((A9,c9,m2)) ⟨(by first | rfl | (refine aK ?_;omega)),trivial⟩ (by (iterate 9 refine aB rfl ?_);exact aJ) ?_;exact ⟨by rw [mA hiL2,hbt2,hm3];simp,hT3,by rw [mA hiL2,hbt2];simpa using ho9,hR5,hB⟩
  rintro ⟨A9',c9',m3⟩ ρ16 w16 ⟨hm4,hT4,ho94,hR54,hB⟩;refine aa (ae (aG (b:=1) rfl rfl (by omega)) (mvi rfl (ah ?_)));refine aO ((i2+1,A9',c9',m3)) ⟨(by first | rfl | (refine aK ?_;omega)),(by first | rfl | (refine aK ?_;omega)),trivial⟩ (by (iterate 34 refine aB rfl ?_);exact aJ) ⟨?_,?_⟩
  ·exact ⟨by omega,hm4,hT4,ho94,hR54,hB⟩
  ·show L.length-(i2+1)<L.length-i2;omega
 refine bc (aC (aC (aS (ab (af (aa (mvs rfl ?_)))))));have hB67:aj w w11:=hB;refine aF sO (JA (some ⟨b18,0,none⟩) L.length L.length (L.map (cC s)) _ (by rw [List.length_map]) (bA.blk hT3 (fun i hi=>uv _ i hi)) (by omega)) ?_;rintro v67 w17 ⟨v67,rfl,hV67,E67⟩;refine mvt rfl (ae (ax rfl rfl) (ae (ax rfl rfl) (asp rfl (asi rfl (ah (ab (af (aa (mvp rfl (mvi rfl (mvi rfl ?_)))))))))));refine ae (cM (l:=[(0,.tmp 70),(1,.tmp 71),(2,.tmp 72)]) (mL _ _ _)) (mvs rfl (mvi rfl (fR (vs:=[_,_,_]) cB rfl rfl (by simp [Value.oneCell']) ((hR5.from_ E67)) rfl ?_)));intro w18 O18 P18;refine ass rfl (asi rfl (ah (ab (ay (Jq rfl (vD (cs:=[_,_,_]) dy cB rfl (by exact P18.whole)) (CH (v:=.slice _ _ _) rfl) (CH (v:=.int _ _) rfl) ?_)))));obtain rfl:i2=L.length:=by omega
 rw [List.take_length] at ho9 hm3;have hpl:m2=L.length:=by rw [hm3];exact q6 s L
 subst hpl;have hiE:i=L.length:=by omega
 rw [hiE,List.take_length] at hm;exact ⟨⟨v67,A9,c9,by rw [hm];rfl,(hV67.grown (cH.grown O18) (fun k hk=>by simp only [Option.some.injEq] at hk;have:=hR5.lt;omega)).le hB67.size,cf (ho9.kept_from E67) O18 (cY (ho9.kept_from E67) (hR5.from_ E67) (by decide))⟩,((hB.next E67).only O18 (hg4))⟩
end Go.Proofs.YtcbakncjacnnjaaGreat
namespace Go.Proofs
open Go.Shelf
def Tryz.lays128_ren:Go.Shelf.Ren:=⟨fun | 128=>114 | n=>n,fun | 51=>159 | 3=>3 | 4=>4 | 46=>67 | 5=>5 | 9=>9 | n=>n,fun | n=>n⟩
def Tryz.lays125_ren:Go.Shelf.Ren:=⟨fun | 125=>80 | 128=>114 | 129=>115 | n=>n,fun | 46=>67 | 3=>3 | 51=>159 | 53=>161 | 4=>4 | 5=>5 | 9=>9 | n=>n,fun | n=>n⟩
theorem Tryz.lays125:Go.Proofs.Lays.n125 prog Tryz.lays125_ren:={
 mixed:=by kernel_rfl
 f125:=Tryz.func80.trans (congrArg some (by kernel_rfl))
 f128:=Tryz.func114.trans (congrArg some (by kernel_rfl))
 f129:=Tryz.func115.trans (congrArg some (by kernel_rfl))
 t3:=Tryz.underlying3
 a3:=Tryz.isAgg3
 z3:=Tryz.sizeOf3
 v3:=Tryz.zeroValue3
 t4:=Tryz.underlying4
 a4:=Tryz.isAgg4
 z4:=Tryz.sizeOf4
 v4:=Tryz.zeroValue4
 t5:=Tryz.underlying5
 a5:=Tryz.isAgg5
 z5:=Tryz.sizeOf5
 v5:=Tryz.zeroValue5
 t9:=Tryz.underlying9
 a9:=Tryz.isAgg9
 z9:=Tryz.sizeOf9
 v9:=Tryz.zeroValue9
 t46:=Tryz.underlying67
 a46:=Tryz.isAgg67
 z46:=Tryz.sizeOf67
 v46:=Tryz.zeroValue67
 t51:=Tryz.underlying159
 a51:=Tryz.isAgg159
 z51:=Tryz.sizeOf159
 v51:=Tryz.zeroValue159
 t53:=Tryz.underlying161
 a53:=Tryz.isAgg161
 z53:=Tryz.sizeOf161
 v53:=Tryz.zeroValue161 }
theorem Tryz.bits_Len (x:Int) (w:World) (h0:0≤x) (h1:x≤18446744073709551615) :
 Calls prog 80 #[.int .u64 x] w fun e w'=>e=.returned (.int .i64 (Lib.bitLen x.toNat))∧w'=w:=Any.bits_Len Tryz.lays125 x w h0 h1
def Tryz.lays213_ren:Go.Shelf.Ren:=⟨fun | 213=>81 | 265=>116 | n=>n,fun | 9=>9 | 3=>3 | n=>n,fun | n=>n⟩
def Tryz.lays106_ren:Go.Shelf.Ren:=⟨fun | 106=>46 | 213=>81 | 265=>116 | n=>n,fun | 9=>9 | 3=>3 | n=>n,fun | n=>n⟩
theorem Tryz.lays106:Go.Proofs.Lays.n106 prog Tryz.lays106_ren:={
 mixed:=by kernel_rfl
 f106:=Tryz.func46.trans (congrArg some (by kernel_rfl))
 f213:=Tryz.func81.trans (congrArg some (by kernel_rfl))
 f265:=Tryz.func116.trans (congrArg some (by kernel_rfl))
 t3:=Tryz.underlying3
 a3:=Tryz.isAgg3
 z3:=Tryz.sizeOf3
 v3:=Tryz.zeroValue3
 t9:=Tryz.underlying9
 a9:=Tryz.isAgg9
 z9:=Tryz.sizeOf9
 v9:=Tryz.zeroValue9 }
open Go.RowKit in
theorem Tryz.strings_Compare (a b:ByteArray) (w:World) :
 Calls prog 46 #[.string a,.string b] w fun e w'=>e=.returned (.int .i64 (Lib.compareBytes a.data.toList b.data.toList))∧w'=w:=Any.strings_Compare Tryz.lays106 a b w
def Tryz.lays215_ren:Go.Shelf.Ren:=⟨fun | 215=>82 | n=>n,fun | 3=>3 | 4=>4 | n=>n,fun | n=>n⟩
def Tryz.lays122_ren:Go.Shelf.Ren:=⟨fun | 122=>47 | 215=>82 | n=>n,fun | 3=>3 | 4=>4 | n=>n,fun | n=>n⟩
theorem Tryz.lays122:Go.Proofs.Lays.n122 prog Tryz.lays122_ren:={
 mixed:=by kernel_rfl
 f122:=Tryz.func47.trans (congrArg some (by kernel_rfl))
 f215:=Tryz.func82.trans (congrArg some (by kernel_rfl))
 t3:=Tryz.underlying3
 a3:=Tryz.isAgg3
 z3:=Tryz.sizeOf3
 v3:=Tryz.zeroValue3
 t4:=Tryz.underlying4
 a4:=Tryz.isAgg4
 z4:=Tryz.sizeOf4
 v4:=Tryz.zeroValue4 }
open Go.RowKit in
theorem Tryz.cmp_Compare_int (x y:Int) (w:World) :
 Calls prog 47 #[.int .i64 x,.int .i64 y] w fun e w'=>e=.returned (.int .i64 (Lib.compareInt x y))∧w'=w:=Any.cmp_Compare_int Tryz.lays122 x y w
def Tryz.lays129_ren:Go.Shelf.Ren:=⟨fun | 129=>115 | n=>n,fun | 53=>161 | 3=>3 | 4=>4 | 46=>67 | 5=>5 | 9=>9 | n=>n,fun | n=>n⟩
def Tryz.lays217_ren:Go.Shelf.Ren:=⟨fun | 217=>145 | 266=>177 | n=>n,fun | 9=>9 | 5=>5 | 3=>3 | n=>n,fun | n=>n⟩
def Tryz.lays224_ren:Go.Shelf.Ren:=⟨fun | 224=>147 | n=>n,fun | 3=>3 | n=>n,fun | n=>n⟩
def Tryz.lays314_ren:Go.Shelf.Ren:=⟨fun | 314=>178 | n=>n,fun | 9=>9 | 51=>159 | 3=>3 | 4=>4 | 5=>5 | 46=>67 | n=>n,fun | n=>n⟩
def Tryz.lays267_ren:Go.Shelf.Ren:=⟨fun | 267=>148 | 314=>178 | n=>n,fun | 9=>9 | 3=>3 | 146=>217 | 51=>159 | 4=>4 | 5=>5 | 46=>67 | n=>n,fun | n=>n⟩
def Tryz.lays219_ren:Go.Shelf.Ren:=⟨fun | 219=>105 | 217=>145 | 225=>146 | 224=>147 | 267=>148 | 266=>177 | 314=>178 | n=>n,fun | 9=>9 | 3=>3 | 4=>4 | 5=>5 | 46=>67 | 146=>217 | 51=>159 | n=>n,fun | 1=>0 | n=>n⟩
def Tryz.lays143_ren:Go.Shelf.Ren:=⟨fun | 143=>78 | 219=>105 | 217=>145 | 225=>146 | 224=>147 | 267=>148 | 266=>177 | 314=>178 | n=>n,fun | 9=>9 | 3=>3 | 4=>4 | 5=>5 | 46=>67 | 146=>217 | 51=>159 | n=>n,fun | 1=>0 | n=>n⟩
theorem Tryz.lays143:Go.Proofs.Lays.n143 prog Tryz.lays143_ren:={
 mixed:=by kernel_rfl
 f143:=Tryz.func78.trans (congrArg some (by kernel_rfl))
 f217:=Tryz.func145.trans (congrArg some (by kernel_rfl))
 f219:=Tryz.func105.trans (congrArg some (by kernel_rfl))
 f224:=Tryz.func147.trans (congrArg some (by kernel_rfl))
 f225:=Tryz.func146.trans (congrArg some (by kernel_rfl))
 f266:=Tryz.func177.trans (congrArg some (by kernel_rfl))
 f267:=Tryz.func148.trans (congrArg some (by kernel_rfl))
 f314:=Tryz.func178.trans (congrArg some (by kernel_rfl))
 t3:=Tryz.underlying3
 a3:=Tryz.isAgg3
 z3:=Tryz.sizeOf3
 v3:=Tryz.zeroValue3
 t4:=Tryz.underlying4
 a4:=Tryz.isAgg4
 z4:=Tryz.sizeOf4
 v4:=Tryz.zeroValue4
 t5:=Tryz.underlying5
 a5:=Tryz.isAgg5
 z5:=Tryz.sizeOf5
 v5:=Tryz.zeroValue5
 t9:=Tryz.underlying9
 a9:=Tryz.isAgg9
 z9:=Tryz.sizeOf9
 v9:=Tryz.zeroValue9
 t46:=Tryz.underlying67
 a46:=Tryz.isAgg67
 z46:=Tryz.sizeOf67
 v46:=Tryz.zeroValue67
 t51:=Tryz.underlying159
 a51:=Tryz.isAgg159
 z51:=Tryz.sizeOf159
 v51:=Tryz.zeroValue159
 t146:=Tryz.underlying217
 a146:=Tryz.isAgg217
 z146:=Tryz.sizeOf217
 v146:=Tryz.zeroValue217
 g1:=by kernel_rfl }
open Go.RowKit Go.Lib in
theorem Tryz.strings_Index (s sub:ByteArray) (m:Int) (w:World) (hs:s.size<4294967281) (hm:w.cell? ⟨0,0,none⟩=some (.int .i64 m)) :
 Calls prog 78 #[.string s,.string sub] w fun e w'=>e=.returned (.int .i64 (Lib.index s.data.toList sub.data.toList))∧w'=w:=Any.strings_Index Tryz.lays143 s sub m w hs hm
def Tryz.laysM219_ren:Go.Shelf.Ren:=⟨fun | 219=>105 | 217=>145 | 225=>146 | 224=>147 | 267=>148 | 266=>177 | 314=>178 | n=>n,fun | 9=>9 | 3=>3 | 4=>4 | 5=>5 | 46=>67 | 146=>217 | 51=>159 | n=>n,fun | 1=>0 | n=>n⟩
def Tryz.laysM143_ren:Go.Shelf.Ren:=⟨fun | 143=>78 | 219=>105 | 217=>145 | 225=>146 | 224=>147 | 267=>148 | 266=>177 | 314=>178 | n=>n,fun | 9=>9 | 3=>3 | 4=>4 | 5=>5 | 46=>67 | 146=>217 | 51=>159 | n=>n,fun | 1=>0 | n=>n⟩
theorem Tryz.laysM143:Go.Proofs.LaysM.n143 prog Tryz.laysM143_ren:={
 mixed:=by kernel_rfl
 f143:=Tryz.func78.trans (congrArg some (by kernel_rfl))
 f217:=Tryz.func145.trans (congrArg some (by kernel_rfl))
 f219:=Tryz.func105.trans (congrArg some (by kernel_rfl))
 f224:=Tryz.func147.trans (congrArg some (by kernel_rfl))
 f225:=Tryz.func146.trans (congrArg some (by kernel_rfl))
 f266:=Tryz.func177.trans (congrArg some (by kernel_rfl))
 f267:=Tryz.func148.trans (congrArg some (by kernel_rfl))
 f314:=Tryz.func178.trans (congrArg some (by kernel_rfl))
 t3:=Tryz.underlying3
 a3:=Tryz.isAgg3
 z3:=Tryz.sizeOf3
 v3:=Tryz.zeroValue3
 t4:=Tryz.underlying4
 a4:=Tryz.isAgg4
 z4:=Tryz.sizeOf4
 v4:=Tryz.zeroValue4
 t5:=Tryz.underlying5
 a5:=Tryz.isAgg5
 z5:=Tryz.sizeOf5
 v5:=Tryz.zeroValue5
 t9:=Tryz.underlying9
 a9:=Tryz.isAgg9
 z9:=Tryz.sizeOf9
 v9:=Tryz.zeroValue9
 t46:=Tryz.underlying67
 a46:=Tryz.isAgg67
 z46:=Tryz.sizeOf67
 v46:=Tryz.zeroValue67
 t51:=Tryz.underlying159
 a51:=Tryz.isAgg159
 z51:=Tryz.sizeOf159
 v51:=Tryz.zeroValue159
 t146:=Tryz.underlying217
 a146:=Tryz.isAgg217
 z146:=Tryz.sizeOf217
 v146:=Tryz.zeroValue217
 g1:=by kernel_rfl
 i3:=by kernel_rfl
 i4:=by kernel_rfl
 i5:=by kernel_rfl
 i9:=by kernel_rfl
 i46:=by kernel_rfl
 i51:=by kernel_rfl
 i146:=by kernel_rfl
 m1:=by kernel_rfl
 s1_3:=fun w h=>Go.Proofs.cell_of_shapedOpen_int (zero:=#[.int .i64 0]) (t:=3) h (of_decide_eq_true (by kernel_rfl)) (by kernel_rfl) rfl (by kernel_rfl) (by kernel_rfl) Tryz.underlying3 }
def Tryz.lays189_ren:Go.Shelf.Ren:=⟨fun | 189=>140 | 125=>80 | 257=>176 | 128=>114 | 129=>115 | 294=>193 | 295=>194 | 296=>195 | 297=>196 | 298=>197 | 299=>198 | 216=>199 | 300=>200 | 301=>201 | 328=>209 | 329=>150 | 330=>151 | 331=>210 | 332=>211 | 215=>82 | 343=>215 | n=>n,fun | 28=>86 | 3=>3 | 46=>67 | 0=>0 | 51=>159 | 53=>161 | 4=>4 | 183=>153 | 182=>152 | 131=>70 | 5=>5 | 9=>9 | 218=>187 | 222=>191 | 228=>219 | 229=>214 | n=>n,fun | n=>n⟩
theorem Tryz.lays189:Go.Proofs.Lays.n189 prog Tryz.lays189_ren:={
 mixed:=by kernel_rfl
 f125:=Tryz.func80.trans (congrArg some (by kernel_rfl))
 f128:=Tryz.func114.trans (congrArg some (by kernel_rfl))
 f129:=Tryz.func115.trans (congrArg some (by kernel_rfl))
 f189:=Tryz.func140.trans (congrArg some (by kernel_rfl))
 f215:=Tryz.func82.trans (congrArg some (by kernel_rfl))
 f216:=Tryz.func199.trans (congrArg some (by kernel_rfl))
 f257:=Tryz.func176.trans (congrArg some (by kernel_rfl))
 f294:=Tryz.func193.trans (congrArg some (by kernel_rfl))
 f295:=Tryz.func194.trans (congrArg some (by kernel_rfl))
 f296:=Tryz.func195.trans (congrArg some (by kernel_rfl))
 f297:=Tryz.func196.trans (congrArg some (by kernel_rfl))
 f298:=Tryz.func197.trans (congrArg some (by kernel_rfl))
 f299:=Tryz.func198.trans (congrArg some (by kernel_rfl))
 f300:=Tryz.func200.trans (congrArg some (by kernel_rfl))
 f301:=Tryz.func201.trans (congrArg some (by kernel_rfl))
 f328:=Tryz.func209.trans (congrArg some (by kernel_rfl))
 f329:=Tryz.func150.trans (congrArg some (by kernel_rfl))
 f330:=Tryz.func151.trans (congrArg some (by kernel_rfl))
 f331:=Tryz.func210.trans (congrArg some (by kernel_rfl))
 f332:=Tryz.func211.trans (congrArg some (by kernel_rfl))
 f343:=Tryz.func215.trans (congrArg some (by kernel_rfl))
 t0:=Tryz.underlying0
 a0:=Tryz.isAgg0
 z0:=Tryz.sizeOf0
 v0:=Tryz.zeroValue0
 t3:=Tryz.underlying3
 a3:=Tryz.isAgg3
 z3:=Tryz.sizeOf3
 v3:=Tryz.zeroValue3
 t4:=Tryz.underlying4
 a4:=Tryz.isAgg4
 z4:=Tryz.sizeOf4
 v4:=Tryz.zeroValue4
 t5:=Tryz.underlying5
 a5:=Tryz.isAgg5
 z5:=Tryz.sizeOf5
 v5:=Tryz.zeroValue5
 t9:=Tryz.underlying9
 a9:=Tryz.isAgg9
 z9:=Tryz.sizeOf9
 v9:=Tryz.zeroValue9
 t28:=Tryz.underlying86
 a28:=Tryz.isAgg86
 z28:=Tryz.sizeOf86
 v28:=Tryz.zeroValue86
 t46:=Tryz.underlying67
 a46:=Tryz.isAgg67
 z46:=Tryz.sizeOf67
 v46:=Tryz.zeroValue67
 t51:=Tryz.underlying159
 a51:=Tryz.isAgg159
 z51:=Tryz.sizeOf159
 v51:=Tryz.zeroValue159
 t53:=Tryz.underlying161
 a53:=Tryz.isAgg161
 z53:=Tryz.sizeOf161
 v53:=Tryz.zeroValue161
 t131:=Tryz.underlying70
 a131:=Tryz.isAgg70
 z131:=Tryz.sizeOf70
 v131:=Tryz.zeroValue70
 t182:=Tryz.underlying152
 a182:=Tryz.isAgg152
 z182:=Tryz.sizeOf152
 v182:=Tryz.zeroValue152
 t183:=Tryz.underlying153
 a183:=Tryz.isAgg153
 z183:=Tryz.sizeOf153
 v183:=Tryz.zeroValue153
 t218:=Tryz.underlying187
 a218:=Tryz.isAgg187
 z218:=Tryz.sizeOf187
 v218:=Tryz.zeroValue187
 t222:=Tryz.underlying191
 a222:=Tryz.isAgg191
 z222:=Tryz.sizeOf191
 v222:=Tryz.zeroValue191
 t228:=Tryz.underlying219
 a228:=Tryz.isAgg219
 z228:=Tryz.sizeOf219
 v228:=Tryz.zeroValue219
 t229:=Tryz.underlying214
 a229:=Tryz.isAgg214
 z229:=Tryz.sizeOf214
 v229:=Tryz.zeroValue214 }
open Go.Sort Go.RowKit in
theorem Tryz.slices_Sort_int (blk off cap:Nat) (zs:List Int) (w:World) (hH:Holds (Value.int .i64) w blk off zs.toArray) (hblk:blk<w.heap.size) (hsz:zs.length<4611686018427387904) :
 Calls prog 140 #[.slice (some ⟨blk,off,none⟩) zs.length cap] w fun e w'=>
  e=.returned (.tuple #[])∧∃ n os,w'=grow (putRow (Value.int .i64) (Sort.ahead w n) blk off (zs.mergeSort fun x y=>decide (x≤y)).toArray) os:=Any.slices_Sort_int Tryz.lays189 blk off cap zs w hH hblk hsz
def Tryz.laysNm217_ren:Go.Shelf.Ren:=⟨fun | 17=>167 | n=>n,fun | 24=>64 | 9=>9 | 3=>3 | 4=>4 | 0=>0 | n=>n,fun | n=>n⟩
def Tryz.laysNm237_ren:Go.Shelf.Ren:=⟨fun | 37=>82 | n=>n,fun | 3=>3 | 4=>4 | n=>n,fun | n=>n⟩
def Tryz.laysNm231_ren:Go.Shelf.Ren:=⟨fun | 31=>199 | 37=>82 | n=>n,fun | 3=>3 | 4=>4 | n=>n,fun | n=>n⟩
end Go.Proofs
namespace Go.Proofs.YtcbakncjacnnjaaGreat
open Go.Proofs.Tryz (prog)
open Go.RowKit
open Go.ChangeShapes Go.WideShapes Go.ChangeAt
theorem HJ:∀ f x,x<2 ^ f→x<2 ^ (Lib.bitLenAux f x)
 |0,x,h=>by simpa [Lib.bitLenAux] using h
 |f+1,x,h=>by
  unfold Lib.bitLenAux;by_cases h0:x=0
  ·subst h0;simp
  ·rw [if_neg h0];have:=HJ f (x/2) (by rw [Nat.pow_succ] at h;omega);rw [Nat.add_comm,Nat.pow_succ];omega
theorem HK:∀ f m x,x<2 ^ m→Lib.bitLenAux f x≤m
 |0,_,_,_=>by simp [Lib.bitLenAux]
 |f+1,m,x,h=>by
  unfold Lib.bitLenAux;by_cases h0:x=0
  ·rw [if_pos h0];omega
  ·rw [if_neg h0];cases m with
   |zero=>simp at h;omega
   |succ m=>
    have:=HK f m (x/2) (by rw [Nat.pow_succ] at h;omega);omega
def nlv (k:Nat):Nat:=Lib.bitLen (k-1)
theorem jK {k:Nat} (h:k≤512):nlv k≤9:=HK 64 9 (k-1) (by omega)
theorem xR {k:Nat} (h1:1≤k) (h:k≤512):k≤2 ^ nlv k:=by
 have:=HJ 64 (k-1) (by omega);show k≤2 ^ Lib.bitLenAux 64 (k-1);omega
theorem Iv (x:Nat) (w:World) (h:x<1024):Rt prog 80 [.int .u64 (x:Nat)] w fun v w'=>v=.int .i64 (Lib.bitLen x:Nat)∧w=w':=
 Calls.mono (Go.Proofs.Tryz.bits_Len (x:Nat) w (by omega) (by omega)) fun e w' ⟨he,hw⟩=>⟨_,he,by rw [Int.toNat_natCast],hw.symm⟩
def nY (n:Nat) (L:List Nat) (vs:Nat→Nat) (j:Nat):List Value:=(List.range j).flatMap fun i=>iU (vs i) (bX (n-1-i) (lvl n L i)).length (n-1-i)
theorem Be (n:Nat) (L:List Nat) (vs:Nat→Nat) (j v:Nat):nY n L (fun i=>if i=j then v else vs i) (j+1)=nY n L vs j++iU v (bX (n-1-j) (lvl n L j)).length (n-1-j):=by
 unfold nY;rw [List.range_succ,List.flatMap_append,List.flatMap_singleton];show _++iU (if j=j then v else vs j) _ _=_;rw [if_pos rfl]
 congr 1
 have key:∀ l:List Nat,(∀ i∈l,i<j)→(l.flatMap fun i=>iU (if i=j then v else vs i) (bX (n-1-i) (lvl n L i)).length (n-1-i))=l.flatMap fun i=>iU (vs i) (bX (n-1-i) (lvl n L i)).length (n-1-i):=by
  intro l
  induction l with
  |nil=>intro _;rfl
  |cons a r ih=>
   intro h;rw [List.flatMap_cons,List.flatMap_cons,ih (fun i hi=>h i (List.mem_cons_of_mem _ hi)),if_neg (by have:=h a (List.mem_cons_self ..);omega)]
 exact key _ fun i hi=>by simpa using hi
def fe (w:World) (base b k:Nat) (L:List Nat):Prop:=base≤b∧∃ (A:Option Addr) (c g:Nat) (vs:Nat→Nat),Blk w b 172 #[.slice A (nlv k) c,.slice (some ⟨g,0,none⟩) (k+1) (k+1),.int .i64 (k:Nat)]∧
 w.ownsRow base 175 3 (.slice A (nlv k) c) (nlv k) (nY (nlv k) L vs (nlv k))∧(∀ j,j<nlv k→Vec w base (vs j) ((lvl (nlv k) L j).map (cC (nlv k-1-j))))∧base≤g∧Blk w g 3 (tab (k+1) (fK L))∧1≤k∧k≤512∧(∀ x∈L,x<k)∧L.length≤131072
theorem Ge {w:World} {base base2 e e2 s s2 n m c c2:Nat} {A B:Option Addr} {xs ys:List Value} (h:w.ownsRow base e s (.slice A n c) n xs) (k:w.ownsRow base2 e2 s2 (.slice B m c2) m ys) (hne:e≠e2):(Value.slice A n c).ownBlock=none∨(Value.slice A n c).ownBlock≠B.map (·.block):=by
 rcases h.2 with ⟨h0,_⟩ | ⟨g,cap,cur,hv,hg,hh,r⟩
 ·exact .inl (by rw [h0];rfl)
 ·refine .inr fun e0=>?_
  have hb:Blk w g e cur:=hh;have:=cY k hb hne g (by rw [←e0,hv];rfl);exact this rfl
theorem Vec.off {w w':World} {base b bs m c:Nat} {l:List Bool} {A:Option Addr} {xs:List Value} (h:Vec w base b l) (ho:w.ownsRow bs 175 3 (.slice A m c) m xs) (hg:w.grownBy w' (A.map (·.block))):Vec w' base b l:=by
 obtain ⟨gw,Aa,ca,ws,rs,h1,h2,h3,h4,h5,h6⟩:=h;exact ⟨gw,Aa,ca,ws,rs,h1,h2,h3.grown hg (cY ho h3 (by decide)),h4.grown hg (cY ho h4 (by decide)),h5.kept hg (Ge h5 ho (by decide)),h6⟩
theorem Vec.only {w w':World} {base b g t:Nat} {l:List Bool} {cs:Array Value} (h:Vec w base b l) (o:cH g w w') (hb:Blk w g t cs) (h1':t≠227) (h2':t≠161) (h3':t≠21):Vec w' base b l:=by
 obtain ⟨gw,Aa,ca,ws,rs,h1,h2,h3,h4,h5,h6⟩:=h
 have ne:∀ {x t' cs'},Blk w x t' cs'→t≠t'→x≠g:=fun hx hne e=>by
  subst e;unfold Blk at hx hb;rw [hx] at hb;simp only [Option.some.injEq,Obj.cells.injEq] at hb;exact hne hb.2.1.symm
 exact ⟨gw,Aa,ca,ws,rs,h1,h2,h3.only o (ne h3 h1'),h4.only o (ne h4 h2'),cf h5 o (cY h5 hb h3'),h6⟩
def r0 (w0 w:World) (A:Option Addr) (L:List Nat):Prop:=bA nV w A L∧(∀ q,0<L.length→A.map (·.block)=some q→q<w0.heap.size∨∃ cs,Blk w q 3 cs)
theorem r0.from_ {w0 w w':World} {A:Option Addr} {L:List Nat} (h:r0 w0 w A L) (hF:aj w w'):r0 w0 w' A L:=⟨h.1.from_ hF,fun q h0 hq=>(h.2 q h0 hq).imp id fun ⟨cs,hb⟩=>⟨cs,hb.from_ hF⟩⟩
theorem Ci {w0 w:World} {base n c:Nat} {A:Option Addr} {L:List Nat} (h:w.ownsRow base 3 1 (.slice A n c) n (L.map nV)):r0 w0 w A L:=by
 refine ⟨(bA.own h).2,fun q _ hq=>.inr ?_⟩;rcases h.2 with ⟨h0,_⟩ | ⟨g,cap,cur,hv,hg,hh,r⟩
 ·simp only [Value.slice.injEq] at h0;rw [h0.1] at hq;cases hq
 ·simp only [Value.slice.injEq] at hv;rw [hv.1] at hq;simp only [Option.map_some,Option.some.injEq] at hq;subst hq;exact ⟨cur,hh⟩
theorem HR {k:Int} {xs:List Int} (h:iw k xs=0):∃ (K:Nat) (L:List Nat),k=(K:Nat)∧xs=L.map (fun x:Nat=>(x:Int))∧1≤K∧K≤512∧(∀ x∈L,x<K)∧L.length≤131072:=by
 unfold iw at h;split at h
 ·cases h
 ·rename_i h1;split at h
  ·cases h
  ·rename_i h2;split at h
   ·cases h
   ·rename_i h3
    have hb:∀ x∈xs,0≤x∧x<k:=fun x hx=>by
     have h4:ia k x=false:=by
      rw [←Bool.not_eq_true];intro hb;exact h2 (List.any_eq_true.2 ⟨x,hx,hb⟩)
     have:=dF_ h4;omega
    refine ⟨k.toNat,xs.map Int.toNat,by omega,?_,by omega,by omega,fun x hx=>?_,by rw [List.length_map];omega⟩
    ·rw [List.map_map];refine ((List.map_congr_left fun x hx=>?_).trans (List.map_id xs)).symm;have:=hb x hx;simp only [Function.comp,id];omega
    ·obtain ⟨y,hy,rfl⟩:=List.mem_map.1 hx;have:=hb y hy;omega
theorem FF {w:World} {A:Option Addr} {L:List Nat} (h:bA iV w A (L.map fun x:Nat=>(x:Int))):bA nV w A L:=fun h0=>by
 obtain ⟨b,o,hA,hc⟩:=h (by simpa using h0);refine ⟨b,o,hA,fun i hi=>?_⟩;have:=hc i (by simpa using hi)
 rwa [List.getElem_map] at this
theorem kb:fp prog 86=some false:=by kernel_rfl
theorem ic:cG prog 172 1=some 1:=by kernel_rfl
theorem ib:cG prog 172 2=some 2:=by kernel_rfl
theorem jm:az prog 170=true:=by kernel_rfl
theorem ig:cG prog 172 0=some 0:=by kernel_rfl
theorem lh:fp prog 170=some false:=by kernel_rfl
theorem oe:(cN prog 170).isSome=true:=by kernel_rfl
theorem og:cN prog 170=some (175,3):=by kernel_rfl
theorem uF:az prog 208=true:=by kernel_rfl
theorem jl:az prog 207=true:=by kernel_rfl
theorem BO {L:List Nat} {k:Nat} (h:∀ x∈L,x<k):fK L k=L.length:=List.countP_eq_length.2 fun x hx=>decide_eq_true (h x hx)
theorem fe.from_ {w w':World} {base b k:Nat} {L:List Nat} (h:fe w base b k L) (hF:aj w w'):fe w' base b k L:=by
 obtain ⟨hb0,AT,cT,g,vs,hT,ho,hVs,hg0,hg2,hrest⟩:=h;exact ⟨hb0,AT,cT,g,vs,hT.from_ hF,ho.kept_from hF,fun j hj=>(hVs j hj).from_ hF,hg0,hg2.from_ hF,hrest⟩
def sE (k:Nat) (c:Int):Int:=if 0≤c∧c≤k then 0 else 1
def sV (k:Nat) (L:List Nat) (c:Int):Int:=if 0≤c∧c≤k then (fK L c.toNat:Nat) else 0
def aE (L:List Nat) (i:Int):Int:=if 0≤i∧i<L.length then 0 else 3
def aV (L:List Nat) (i:Int):Int:=if 0≤i∧i<L.length then (L.getD i.toNat 0:Nat) else 0
def hiD (n x j:Nat):Nat:=x/2 ^ (n-j)*2 ^ (n-j)
theorem wC {n x j:Nat} (hj:j<n):hiD n x j ||| (if cC (n-1-j) x then 2 ^ (n-1-j) else 0)=hiD n x (j+1):=by
 have h:=yg x (n-1-j);rw [show n-1-j+1=n-j by omega] at h;unfold hiD;rw [show n-(j+1)=n-1-j by omega];exact h
theorem HF {n x j:Nat} (hj:j<n) (hb:cC (n-1-j) x=true):hiD n x j ||| 2 ^ (n-1-j)=hiD n x (j+1):=by
 have:=wC (x:=x) hj
 rwa [if_pos hb] at this
theorem HG {n x j:Nat} (hj:j<n) (hb:cC (n-1-j) x=false):hiD n x j=hiD n x (j+1):=by
 have:=wC (x:=x) hj
 rwa [if_neg (by simp [hb]),Nat.or_zero] at this
theorem IG (n x j:Nat):hiD n x j≤x:=Nat.div_mul_le_self _ _
theorem DS {n x:Nat} (h:x<2 ^ n):hiD n x 0=0:=by unfold hiD;rw [Nat.sub_zero,Nat.div_eq_of_lt h,Nat.zero_mul]
theorem GO {n x:Nat}:hiD n x n=x:=by unfold hiD;rw [Nat.sub_self,Nat.pow_zero,Nat.div_one,Nat.mul_one]
section
variable {P:Program} {ρ:Operand→Value} {w:World} {t yt:TypeId} {x y:Operand}
theorem Ii {a b:Nat} (ha:a<2 ^ 63) (hb:b<2 ^ 63):Go.bits .or .i64 (a:Int) (b:Int)=((a ||| b:Nat):Int):=by
 have e1:(BitVec.ofInt 64 (a:Int)).toNat=a:=by rw [BitVec.ofInt_natCast,BitVec.toNat_ofNat];exact Nat.mod_eq_of_lt (by omega)
 have e2:(BitVec.ofInt 64 (b:Int)).toNat=b:=by rw [BitVec.ofInt_natCast,BitVec.toNat_ofNat];exact Nat.mod_eq_of_lt (by omega)
 show IntKind.i64.wrap ((BitVec.ofInt 64 (a:Int) ||| BitVec.ofInt 64 (b:Int)).toNat:Int)=_;have h:a ||| b<2 ^ 63:=Nat.or_lt_two_pow ha hb
 rw [BitVec.toNat_or,e1,e2,IntKind.wrap_i64];generalize a ||| b=c at*;omega
theorem H_ {a b:Nat} (hx:ρ x=.int .i64 (a:Nat)) (hy:ρ y=.int .i64 (b:Nat)) (h:a<2 ^ 63∧b<2 ^ 63):RO P ρ (.binOp .or t x y yt) w (.int .i64 ((a ||| b:Nat):Int)) w:=by
 have:=Hi (P:=P) (ρ:=ρ) (w:=w) (t:=t) (yt:=yt) hx hy;rwa [Ii h.1 h.2] at this
theorem FJ {b:Nat} (hx:ρ x=.int .i64 1) (hy:ρ y=.int .i64 (b:Nat)) (h:b≤9):RO P ρ (.binOp .shl t x y yt) w (.int .i64 ((2 ^ b:Nat):Int)) w:=by
 have:=CR (P:=P) (ρ:=ρ) (w:=w) (t:=t) (yt:=yt) hx hy (by omega);have e:min ((b:Nat):Int).toNat IntKind.i64.bits=b:=by rw [Int.toNat_natCast];show min b 64=b;omega
 rw [e] at this
 have e2:IntKind.i64.wrap ((1:Int)*2 ^ b)=((2 ^ b:Nat):Int):=by
  have h1:(1:Int)*2 ^ b=((2 ^ b:Nat):Int):=by rw [Int.one_mul];norm_cast
  have h2:2 ^ b≤2 ^ 9:=Nat.pow_le_pow_right (by decide) h;rw [h1,IntKind.wrap_i64]
  generalize 2 ^ b=c at*
  omega
 rwa [e2] at this
end
theorem ix1 (q:Nat):0+((q:Nat):Int).toNat*1=q:=by simp
theorem ix3 (q:Nat):0+((q:Nat):Int).toNat*3=q*3:=by simp
theorem Gu (n:Nat) (L:List Nat) (vs:Nat→Nat) (j i:Nat) (hi:i<j) (q:Nat) (hq:q<3):(nY n L vs j)[i*3+q]? =(iU (vs i) (bX (n-1-i) (lvl n L i)).length (n-1-i))[q]? :=by
 unfold nY;have:=qu (s:=3) (f:=fun i=>iU (vs i) (bX (n-1-i) (lvl n L i)).length (n-1-i)) (fun x=>rfl) (List.range j) i (by simpa using hi) q hq;rw [this,List.getElem_range]
theorem we {w:World} {base c n:Nat} {A:Option Addr} {L:List Nat} {vs:Nat→Nat} (h:w.ownsRow base 175 3 (.slice A n c) n (nY n L vs n)) (hn:0<n) :
 ∃ g,A=some ⟨g,0,none⟩∧∀ i,i<n→w.rangeAt g (i*3) (iU (vs i) (bX (n-1-i) (lvl n L i)).length (n-1-i)):=by
 obtain ⟨g,cur,rfl,_,hb,h1,_,h3,h4⟩:=fa h hn;refine ⟨g,rfl,fun i hi=>hb.range _ _ fun q v hv=>?_⟩
 have hq:q<3:=by
  obtain ⟨hq,_⟩:=List.getElem?_eq_some_iff.1 hv;exact hq
 rw [←Gu n L vs n i hi q hq,←h4,List.getElem?_take_of_lt (by omega)] at hv;exact hv
theorem JK (base v s x:Nat) (X Z M:List Nat) (w:World) (hv:Vec w base v (M.map (cC s))) (hM:M=X++[x]++Z):Rt prog 208 [.pointer (some ⟨v,0,none⟩),.int .i64 (X.length:Nat)] w fun u w'=>u=.tuple #[.bool (cC s x),.int .i64 0]∧w=w':=by
 subst hM;have:=IK base v (X.length:Nat) _ w hv;have hl:(0:Int)≤(X.length:Nat)∧((X.length:Nat):Int)<((X++[x]++Z).map (cC s)).length:=by simp;omega
 unfold gB gE at this;rw [if_pos hl,if_pos hl,Int.toNat_natCast] at this
 have e:bt ((X++[x]++Z).map (cC s)) X.length=cC s x:=by
  unfold bt;simp
 rwa [e] at this
theorem Eh (base v z s x:Nat) (X Z M:List Nat) (w:World) (hv:Vec w base v (M.map (cC s))) (hM:M=X++[x]++Z) (hz:z=(bX s M).length) (hl:M.length≤131072):Rt prog 207 [.agg (iU v z s).toArray,.int .i64 (X.length:Nat),.bool (cC s x)] w
 fun u w'=>(∃ X' Z',u=.int .i64 (X'.length:Nat)∧ky s M=X'++[x]++Z')∧aj w w':=by
 subst hM;obtain ⟨X',Z',h1,h2⟩:=Dn s X Z x;exact (fc base v z s X.length _ w hv (by simp) hz hl (cC s x)).mono fun u w' ⟨h,hF⟩=>⟨⟨X',Z',by rw [h2];exact h,h1⟩,hF⟩
theorem GC (base b K:Nat) (L:List Nat) (w:World) (ht:fe w base b K L) :
 Rt prog 170 [.pointer (some ⟨b,0,none⟩)] w (fun v w'=>v=.int .i64 (L.length:Nat)∧aj w w'):=by
 obtain ⟨hb0,AT,cT,g,vs,hT,ho,hVs,hg0,hg2,hK1,hK2,hlt,hLl⟩:=ht;refine enter (n:=19) Tryz.func170 rfl rfl rfl (af (aa (asi rfl (ah (ab (af (af (aa (mvp rfl (ae (ar rfl) (ae (ak ic rfl) (ae (an kb rfl (by exact hT.rd 1 rfl)) ?_))))))))))));refine ae (aQ bu rfl) (ae (cx rfl rfl) (ah (ab (JU rfl (fun Q1=>?_) (fun Q1=>?_)))))
 ·exfalso;omega
 refine av (ab (af ?_));apply bS 11 [(9,eqp _),(10,eqp _),(11,eqp _),(12,eqp (.slice (some ⟨g,0,none⟩) (K+1) (K+1))),(13,eqp _),(14,eqp _),(15,eqp _),(16,eqp (.int .i64 (K:Nat))),(17,eqp _),(18,eqp (nV (fK L K))),(2,eqp _)] (by repeat first | exact cy | refine cm ?_ | refine bO ?_) (by kernel_rfl) (by kernel_rfl) ⟨ag _,ag _,ag _,ag _,ag _,ag _,ag _,ag _,ag _,ag _,ag _,trivial⟩
 case hop=>
  constructor
  ·rintro-w3 D3;exact ai (aq (v:=.pointer _) rfl) rfl
  constructor
  ·rintro-w4 D4;rintro _ rfl;exact ai (ar rfl) rfl
  constructor
  ·rintro-w5 D5;rintro _ rfl;exact ai (ak ic rfl) rfl
  constructor
  ·rintro-w6 D6;rintro _ rfl;exact ai (an kb rfl (by exact (hT.from_ D6).rd 1 rfl)) rfl
  constructor
  ·rintro-w7 D7;exact ai (aq (v:=.pointer _) rfl) rfl
  constructor
  ·rintro-w8 D8;rintro _ rfl;exact ai (ar rfl) rfl
  constructor
  ·rintro-w9 D9;rintro _ rfl;exact ai (ak ib rfl) rfl
  constructor
  ·rintro-w10 D10;rintro _ rfl;exact ai (an aU rfl (by exact (hT.from_ D10).rd 2 rfl)) rfl
  constructor
  ·rintro-w11 D11;rintro v11_12 rfl v11_16 rfl;exact ai (dC bJ rfl rfl (by omega)) rfl
  constructor
  ·rintro-w12 D12;rintro _ rfl;exact ai (an aU rfl (by rw [ix1];exact (hg2.from_ D12).rd K (nE (by omega)))) rfl
  constructor
  ·rintro-w13 D13;rintro v13_18 rfl;exact ai (bY (v:=.int _ _) rfl) rfl
  exact trivial
 case hend=>
  intro w14 D14;rintro _ rfl _ rfl _ rfl v12 rfl _ rfl _ rfl _ rfl v16 rfl _ rfl v18 rfl _ rfl;show St ..;refine ah (ab (ay (bE (v:=.int _ _) rfl rfl (⟨aK (by rw [BO hlt]),(aj.rfl_.next D14)⟩))))
theorem Ix (base b K:Nat) (L:List Nat) (w:World) (ht:fe w base b K L) :
 Rt prog 169 [.pointer (some ⟨b,0,none⟩)] w (fun v w'=>v=.int .i64 (K:Nat)∧w=w'):=by
 obtain ⟨hb0,AT,cT,g,vs,hT,ho,hVs,hg0,hg2,hK1,hK2,hlt,hLl⟩:=ht;refine enter (n:=7) Tryz.func169 rfl rfl rfl (af (aa (asi rfl (ah (ab (af (aa (mvp rfl (ae (ar rfl) (ae (ak ib rfl) (ae (an aU rfl (by exact hT.rd 2 rfl)) ?_)))))))))));refine asi rfl (ah (ab (ay (bE (v:=.int _ _) rfl rfl (⟨rfl,rfl⟩)))))
theorem Iw (base b K:Nat) (L:List Nat) (w:World) (ht:fe w base b K L) (c:Int) :
 Rt prog 205 [.pointer (some ⟨b,0,none⟩),.int .i64 c] w (fun v w'=>v=.bool (decide (0≤c∧c<(K:Nat)))∧w=w'):=by
 obtain ⟨hb0,AT,cT,g,vs,hT,ho,hVs,hg0,hg2,hK1,hK2,hlt,hLl⟩:=ht;refine enter (n:=15) Tryz.func205 rfl rfl rfl (af (aa (asb rfl (ah (ab (af (aa (mvi rfl (ae (eA rfl rfl) (mvb rfl (Jk (t:=7) rfl (fun Q1=>?_) (fun Q1=>?_))))))))))))
 ·refine ao rfl (mvi rfl (ao rfl (mvp rfl (ao rfl (ae (ar rfl) (ao rfl (ae (ak ib rfl) (ao rfl ?_))))))));refine ae (an aU rfl (by exact hT.rd 2 rfl)) ?_;refine ao rfl (ae (aW rfl rfl) (ae (bB (v:=.bool _) rfl rfl) (asb rfl (ah (ab (ay (bE (v:=.bool _) rfl rfl (⟨congrArg Value.bool (by first | (symm;rw [decide_eq_decide];omega) | (rw [eq_comm,decide_eq_false_iff_not];omega) | (simp;omega)),rfl⟩))))))))
 refine aL rfl rfl (aL rfl rfl (aL rfl rfl (aL rfl rfl (aL rfl rfl (aL rfl rfl (ae (bk (v:=.bool _) rfl rfl) (asb rfl (ah (ab (ay ?_))))))))));refine bE (v:=.bool _) rfl rfl (⟨congrArg Value.bool (by first | (symm;rw [decide_eq_decide];omega) | (rw [eq_comm,decide_eq_false_iff_not];omega) | (simp;omega)),rfl⟩)
theorem JF (base b K:Nat) (L:List Nat) (w:World) (ht:fe w base b K L) (c:Int) :
 Rt prog 189 [.pointer (some ⟨b,0,none⟩),.int .i64 c] w (fun v w'=>v=.tuple #[.int .i64 (sV K L c),.int .i64 (sE K c)]∧w=w'):=by
 obtain ⟨hb0,AT,cT,g,vs,hT,ho,hVs,hg0,hg2,hK1,hK2,hlt,hLl⟩:=ht;refine enter (n:=29) Tryz.func189 rfl rfl rfl (af (aa (asi rfl (asi rfl (ah (ab (af (af (aa (mvi rfl (ae (aW rfl rfl) (mvb rfl (Jk (t:=8) rfl (fun Q1=>?_) (fun Q1=>?_))))))))))))))
 ·refine aL rfl rfl (aL rfl rfl (aL rfl rfl (aL rfl rfl (aL rfl rfl (aL rfl rfl (ae (bB (v:=.bool _) rfl rfl) (ah (ab (cW rfl ?_)))))))));refine af (aa (asi rfl (asi rfl (ah (ab (ay (aD (cV (v:=.int _ _) (v':=.int _ _) rfl rfl rfl (⟨?_,rfl⟩)))))))));unfold sV sE;rw [if_neg (by omega),if_neg (by omega)]
 refine ao rfl (mvi rfl (ao rfl (mvp rfl (ao rfl (ae (ar rfl) (ao rfl (ae (ak ib rfl) (ao rfl ?_))))))));refine ae (an aU rfl (by exact hT.rd 2 rfl)) ?_;refine ao rfl (ae (cL rfl rfl) (ae (bk (v:=.bool _) rfl rfl) (ah (ab (JV rfl (fun Q2=>?_) (fun Q2=>?_))))))
 ·refine af (aa (asi rfl (asi rfl (ah (ab (ay (aD (cV (v:=.int _ _) (v':=.int _ _) rfl rfl rfl (⟨?_,rfl⟩)))))))));unfold sV sE;rw [if_neg (by omega),if_neg (by omega)]
 refine av (ab (af (af (aa (mvp rfl (ae (ar rfl) (ae (ak ic rfl) (ae (an kb rfl (by exact hT.rd 1 rfl)) ?_))))))));refine ae (aQ bu rfl) (ae (cx rfl rfl) (ah (ab (JU rfl (fun Q3=>?_) (fun Q3=>?_)))))
 ·exfalso;omega
 refine av (ab (af (aa ?_)));obtain ⟨q,rfl⟩:∃ q:Nat,c=(q:Int):=⟨c.toNat,by omega⟩;refine mvp rfl (ae (ar rfl) (ae (ak ic rfl) (ae (an kb rfl (by exact hT.rd 1 rfl)) ?_)));refine mvi rfl (ae (dC bJ rfl rfl (by omega)) ?_);refine ae (an aU rfl (by rw [ix1];exact hg2.rd q (nE (by omega)))) ?_;refine asi rfl (asi rfl (ah (ab (ay (cV (v:=.int _ _) (v':=.int _ _) rfl rfl rfl (⟨?_,rfl⟩))))));unfold sV sE;rw [if_pos (by omega),if_pos (by omega)];rfl
theorem Hc (base b K:Nat) (L:List Nat) (w:World) (ht:fe w base b K L) (i:Int) :
 Rt prog 192 [.pointer (some ⟨b,0,none⟩),.int .i64 i] w (fun v w'=>v=.tuple #[.int .i64 (aV L i),.int .i64 (aE L i)]∧aj w w'):=by
 have htt:=ht;obtain ⟨hb0,AT,cT,g,vs,hT,ho,hVs,hg0,hg2,hK1,hK2,hlt,hLl⟩:=ht;refine enter (n:=47) Tryz.func192 rfl rfl rfl (af (aa (asi rfl (asi rfl (ah (ab (af (af (aa (mvi rfl (ae (aW rfl rfl) (mvb rfl (Jk (t:=13) rfl (fun Q1=>?_) (fun Q1=>?_))))))))))))))
 ·refine aL rfl rfl (aL rfl rfl (aL rfl rfl (aL rfl rfl (ae (bB (v:=.bool _) rfl rfl) (ah (ab (cW rfl (af (aa (asi rfl ?_))))))))));refine asi rfl (ah (ab (ay (aD (cV (v:=.int _ _) (v':=.int _ _) rfl rfl rfl (⟨?_,aj.rfl_⟩))))));unfold aV aE;rw [if_neg (by omega),if_neg (by omega)]
 refine ao rfl (mvi rfl (ao rfl (mvp rfl (ao rfl (aF jm (GC base b K L _ (htt.from_ aj.rfl_)) ?_)))));rintro v16 w2 ⟨rfl,E16⟩;refine ao rfl (ae (eA rfl rfl) (ae (bk (v:=.bool _) rfl rfl) (ah (ab (JV rfl (fun Q3=>?_) (fun Q3=>?_))))))
 ·refine af (aa (asi rfl (asi rfl (ah (ab (ay (aD (cV (v:=.int _ _) (v':=.int _ _) rfl rfl rfl (⟨?_,(aj.rfl_.next E16)⟩)))))))));unfold aV aE;rw [if_neg (by omega),if_neg (by omega)]
 obtain ⟨q,rfl⟩:∃ q:Nat,i=(q:Int):=⟨i.toNat,by omega⟩;have hq:q<L.length:=by omega
 obtain ⟨x,hxe⟩:∃ x,x=L[q]:=⟨_,rfl⟩;have hxL:x∈L:=hxe ▸ List.getElem_mem hq;have hx2:x<2 ^ nlv K:=Nat.lt_of_lt_of_le (hlt x hxL) (xR hK1 hK2);have hLx:lvl (nlv K) L 0=L.take q++[x]++L.drop (q+1):=by rw [hxe];show L=_;simp
 refine av (ab (af (aa (asi rfl (ah (ab (af (af (aa (mvp rfl (ae (ar rfl) (ae (ak ig rfl) (ae (an lh rfl (by exact (hT.from_ (aj.rfl_.next E16)).rd 0 rfl)) ?_)))))))))))));refine ae (aQ oe rfl) (mvi rfl (ah (ab (aw (a_ (G:=Nat×List Nat×List Nat) [8,9,10,25,26,27,28,29,30,31,32,33,34,35,36,37,38,39,40,41,42,43,44,45] (fun (j,X,Z)=>[(1,.int .i64 (X.length:Nat)),(6,.int .i64 (hiD (nlv K) x j:Nat)),(24,.int .i64 (j:Nat))]) (fun (j,X,Z) w'=>j≤nlv K∧lvl (nlv K) L j=X++[x]++Z∧aj w w') (fun (j,_,_)=>nlv K-j) ((0,L.take q,L.drop (q+1))) ⟨(aK (by rw [List.length_take];omega)),(aK (by rw [DS hx2];rfl)),rfl,trivial⟩ ?_ ?_)))))
 ·exact ⟨Nat.zero_le _,hLx,(aj.rfl_.next E16)⟩
 rintro ⟨j,X,Z⟩ ρ4 w4 ⟨hj,hX,hB⟩;refine af (aa (ae (aW rfl rfl) (ah (ab (af (JV rfl (fun Q5=>?_) (fun Q5=>?_)))))))
 ·have hjn:j<nlv K:=by omega
  obtain ⟨gA,rfl,hlv⟩:=we ho (by omega);refine av (ab (af (aw (af (aa (ae (dC og rfl rfl (by omega)) ?_))))));refine ae (bn (cs:=[_,_,_]) dy cB rfl (by rw [ix3];exact du hB (hlv j hjn))) ?_;refine dI iQ ?_;intro b8 w6 E8 hb8 hk8;refine fR (vs:=[_,_,_]) cB rfl rfl (by simp [Value.oneCell']) (hk8) rfl ?_;intro w7 O6 P6;refine ah (ab (af (aa (ae (ak lJ rfl) (ae (an mQ rfl (by exact (P6.from_ aj.rfl_).rd 0 rfl)) ?_)))));refine mvi rfl (aF uF (JK base (vs j) (nlv K-1-j) x X Z (lvl (nlv K) L j) _ ((hVs j hjn).from_ ((hB.next E8).only O6 (by rw [hb8];exact hB.size))) hX) ?_);rintro v32 w8 ⟨rfl,rfl⟩;refine mvt rfl (ae (ax rfl rfl) (ae (ax rfl rfl) (asb rfl (asi rfl (ah (ab (af (af (aa (mvb rfl (ah (ab (JV rfl (fun Q9=>?_) (fun Q9=>?_))))))))))))))
  ·have hbb:cC (nlv K-1-j) x=true:=by unfold cC;simpa using Q9
   refine aa (mvi rfl (ae (ak lI rfl) (ae (an aU rfl (by exact (P6.from_ aj.rfl_).rd 2 rfl)) ?_)));refine ae (FJ (b:=nlv K-1-j) rfl rfl (by have:=jK hK2;omega)) ?_;refine ae (H_ (a:=hiD (nlv K) x j) (b:=2 ^ (nlv K-1-j)) rfl rfl ⟨by have:=IG (nlv K) x j;have:=hlt x hxL;omega,by have:=Nat.pow_le_pow_right (n:=2) (by decide) (show nlv K-1-j≤9 by have:=jK hK2;omega);omega⟩) ?_;refine asi rfl (ah (ab (aa (ae (bn (cs:=[_,_,_]) dy cB rfl (by exact (P6.from_ aj.rfl_).whole)) ?_))));refine mvi rfl (mvb rfl (aF jl (Eh base (vs j) _ (nlv K-1-j) x X Z (lvl (nlv K) L j) _ ((hVs j hjn).from_ ((hB.next E8).only O6 (by rw [hb8];exact hB.size))) hX rfl (by rw [kZ];exact hLl)) ?_));rintro v44 w10 ⟨⟨X2,Z2,rfl,hP2⟩,E44⟩;refine asi rfl (ah (aI (ab (aa (ae (fE rfl rfl (by have:=jK hK2;omega)) ?_)))));refine mvi rfl (ah ?_);refine aO ((j+1,X2,Z2)) ⟨rfl,(by first | exact aK (congrArg Nat.cast (HF hjn hbb)) | exact aK (congrArg Nat.cast (HG hjn hbb))),rfl,trivial⟩ (by (iterate 54 refine aB rfl ?_);exact aJ) ⟨?_,?_⟩
   ·exact ⟨by omega,hP2,(((hB.next E8).only O6 (by rw [hb8];exact hB.size)).next E44)⟩
   ·show nlv K-(j+1)<nlv K-j;omega
  have hbb:cC (nlv K-1-j) x=false:=by unfold cC;simpa using Q9
  refine av (ab (aa (ae (bn (cs:=[_,_,_]) dy cB rfl (by exact (P6.from_ aj.rfl_).whole)) ?_)));refine mvi rfl (mvb rfl (aF jl (Eh base (vs j) _ (nlv K-1-j) x X Z (lvl (nlv K) L j) _ ((hVs j hjn).from_ ((hB.next E8).only O6 (by rw [hb8];exact hB.size))) hX rfl (by rw [kZ];exact hLl)) ?_));rintro v44 w11 ⟨⟨X2,Z2,rfl,hP2⟩,E44⟩;refine asi rfl (ah (aI (ab (aa (ae (fE rfl rfl (by have:=jK hK2;omega)) ?_)))));refine mvi rfl (ah ?_);refine aO ((j+1,X2,Z2)) ⟨rfl,(by first | exact aK (congrArg Nat.cast (HF hjn hbb)) | exact aK (congrArg Nat.cast (HG hjn hbb))),rfl,trivial⟩ (by (iterate 48 refine aB rfl ?_);exact aJ) ⟨?_,?_⟩
  ·exact ⟨by omega,hP2,(((hB.next E8).only O6 (by rw [hb8];exact hB.size)).next E44)⟩
  ·show nlv K-(j+1)<nlv K-j;omega
 refine bc (aC (aC (aS (ab (af (aa (mvi rfl (asi rfl (asi rfl (ah (ab (ay (cV (v:=.int _ _) (v':=.int _ _) rfl rfl rfl ?_)))))))))))));obtain rfl:j=nlv K:=by omega
 refine ⟨?_,hB⟩;unfold aV aE;rw [if_pos (by omega),if_pos (by omega),Int.toNat_natCast,List.getD_eq_getElem?_getD,List.getElem?_eq_getElem hq,←hxe,GO];rfl
end Go.Proofs.YtcbakncjacnnjaaGreat
namespace Go.Proofs.YtcbakncjacnnjaaGreat
open Go.Proofs.Tryz (prog)
open Go.RowKit
open Go.ChangeShapes Go.WideShapes Go.ChangeAt
theorem uH:az prog 205=true:=by kernel_rfl
theorem uG:az prog 206=true:=by kernel_rfl
def Es (L:List Nat) (c q:Nat):Nat:=(L.take q).countP fun x=>decide (x=c)
def kE (K:Nat) (L:List Nat) (c i:Int):Int:=if 0≤c∧c<K then (if 0≤i∧i≤L.length then 0 else 3) else 1
def kV (K:Nat) (L:List Nat) (c i:Int):Int:=if 0≤c∧c<K then (if 0≤i∧i≤L.length then (Es L c.toNat i.toNat:Nat) else 0) else 0
def yL (L:List Nat) (q c n j:Nat):List Nat:=hiL (L.take q) c (n-j)
theorem EZ {L:List Nat} {q c n:Nat} (h:∀ x∈L,x<2 ^ n) (hc:c<2 ^ n):yL L q c n 0=L.take q:=IF _ _ _ (fun x hx=>h x (List.mem_of_mem_take hx)) hc
theorem E0 {L:List Nat} {q c n j:Nat} (hj:j<n):(yL L q c n j).filter (fun x=>cC (n-1-j) x==cC (n-1-j) c)=yL L q c n (j+1):=by
 have h:=GN (L.take q) c (n-1-j);unfold yL;rw [show n-(j+1)=n-1-j by omega,←h,show n-1-j+1=n-j by omega]
theorem HO {L:List Nat} {q c n:Nat}:(yL L q c n n).length=Es L c q:=by
 unfold yL Es;rw [Nat.sub_self,GM]
theorem zn {X Y Z M:List Nat} (h:M=X++Y++Z):X.length+Y.length≤M.length:=by rw [h];simp
theorem Jv (base b K:Nat) (L:List Nat) (w:World) (ht:fe w base b K L) (c i:Int) :
 Rt prog 190 [.pointer (some ⟨b,0,none⟩),.int .i64 c,.int .i64 i] w (fun v w'=>v=.tuple #[.int .i64 (kV K L c i),.int .i64 (kE K L c i)]∧aj w w'):=by
 have htt:=ht;obtain ⟨hb0,AT,cT,g,vs,hT,ho,hVs,hg0,hg2,hK1,hK2,hlt,hLl⟩:=ht;refine enter (n:=48) Tryz.func190 rfl rfl rfl (af (aa (asi rfl (asi rfl (ah (ab (af (af (aa (mvp rfl (mvi rfl (aF uH (Iw base b K L _ htt c) ?_))))))))))));rintro v14 w1 ⟨rfl,rfl⟩;refine ae (eQ rfl) (ah (ab (au rfl (fun Q2=>?_) (fun Q2=>?_))))
 ·replace Q2:=fm Q2;replace Q2:=dF_ Q2;have hkn:¬ (0≤c∧c<(K:Nat)):=by simpa using Q2
  refine af (aa (asi rfl (asi rfl (ah (ab (ay (aD (cV (v:=.int _ _) (v':=.int _ _) rfl rfl rfl (⟨?_,aj.rfl_⟩)))))))));unfold kV kE;rw [if_neg hkn,if_neg hkn]
 replace Q2:=fo Q2;replace Q2:=dT_ Q2;have hkn:0≤c∧c<(K:Nat):=by simpa using Q2
 obtain ⟨cc,rfl⟩:∃ cc:Nat,c=(cc:Int):=⟨c.toNat,by omega⟩;refine av (ab (af (af (aa (mvi rfl (ae (aW rfl rfl) (mvb rfl (Jk (t:=18) rfl (fun Q3=>?_) (fun Q3=>?_)))))))))
 ·refine aL rfl rfl (aL rfl rfl (aL rfl rfl (aL rfl rfl (ae (bB (v:=.bool _) rfl rfl) (ah (ab (cW rfl (af (aa (asi rfl ?_))))))))));refine asi rfl (ah (ab (ay (aD (cV (v:=.int _ _) (v':=.int _ _) rfl rfl rfl (⟨?_,aj.rfl_⟩))))));unfold kV kE;rw [if_pos hkn,if_pos hkn,if_neg (by omega),if_neg (by omega)]
 refine ao rfl (mvi rfl (ao rfl (mvp rfl (ao rfl (aF jm (GC base b K L _ (htt.from_ aj.rfl_)) ?_)))));rintro v21 w4 ⟨rfl,E21⟩;refine ao rfl (ae (cL rfl rfl) (ae (bk (v:=.bool _) rfl rfl) (ah (ab (JV rfl (fun Q5=>?_) (fun Q5=>?_))))))
 ·refine af (aa (asi rfl (asi rfl (ah (ab (ay (aD (cV (v:=.int _ _) (v':=.int _ _) rfl rfl rfl (⟨?_,(aj.rfl_.next E21)⟩)))))))));unfold kV kE;rw [if_pos hkn,if_pos hkn,if_neg (by omega),if_neg (by omega)]
 obtain ⟨q,rfl⟩:∃ q:Nat,i=(q:Int):=⟨i.toNat,by omega⟩;have hy0:yL L q cc (nlv K) 0=L.take q:=EZ (fun x hx=>Nat.lt_of_lt_of_le (hlt x hx) (xR hK1 hK2)) (Nat.lt_of_lt_of_le (by omega) (xR hK1 hK2));refine av (ab (af (aa (asi rfl (ah (ab (af (af (aa (mvp rfl (ae (ar rfl) (ae (ak ig rfl) (ae (an lh rfl (by exact (hT.from_ (aj.rfl_.next E21)).rd 0 rfl)) ?_)))))))))))));refine ae (aQ oe rfl) (mvi rfl (ah (ab (aw (a_ (G:=Nat×List Nat×List Nat) [10,11,30,31,32,33,34,35,36,37,38,39,40,41,42,43,44] (fun (j,X,Z)=>[(2,.int .i64 ((X.length+(yL L q cc (nlv K) j).length:Nat):Int)),(8,.int .i64 (X.length:Nat)),(29,.int .i64 (j:Nat))]) (fun (j,X,Z) w'=>j≤nlv K∧lvl (nlv K) L j=X++(yL L q cc (nlv K) j)++Z∧aj w w') (fun (j,_,_)=>nlv K-j) ((0,[],L.drop q)) ⟨(aK (by rw [hy0,List.length_take,List.length_nil];omega)),rfl,rfl,trivial⟩ ?_ ?_)))))
 ·exact ⟨Nat.zero_le _,by rw [hy0];show L=_;simp,(aj.rfl_.next E21)⟩
 rintro ⟨j,X,Z⟩ ρ6 w6 ⟨hj,hX,hB⟩;refine af (aa (ae (aW rfl rfl) (ah (ab (af (JV rfl (fun Q7=>?_) (fun Q7=>?_)))))))
 ·have hjn:j<nlv K:=by omega
  obtain ⟨gA,rfl,hlv⟩:=we ho (by omega);obtain ⟨X2,Z2,hP2,hx2,hy2⟩:=vB (nlv K-1-j) X (yL L q cc (nlv K) j) Z (cC (nlv K-1-j) cc);rw [E0 hjn] at hP2 hy2;rw [←hX] at hP2 hx2 hy2;have hsl:=zn hX;refine av (ab (af (aw (af (aa (ae (dC og rfl rfl (by omega)) ?_))))));refine ae (bn (cs:=[_,_,_]) dy cB rfl (by rw [ix3];exact du hB (hlv j hjn))) ?_;refine dI iQ ?_;intro b10 w8 E10 hb10 hk10;refine fR (vs:=[_,_,_]) cB rfl rfl (by simp [Value.oneCell']) (hk10) rfl ?_;intro w9 O8 P8;refine ah (ab (af (aa (ae (bn (cs:=[_,_,_]) dy cB rfl (by exact (P8.from_ aj.rfl_).whole)) ?_))));refine mvi rfl (aF uG (Jy (vs j) _ (nlv K-1-j) cc _ (by have:=jK hK2;omega) (by omega)) ?_);rintro v35 w10 ⟨rfl,E35⟩;have hB35:aj w w10:=(((hB.next E10).only O8 (by rw [hb10];exact hB.size)).next E35);have P8b:=P8.from_ (aj.rfl_.next E35);refine asb rfl (ah (ab ?_));apply bS 10 [(36,eqp (.agg (iU (vs j) (bX (nlv K-1-j) (lvl (nlv K) L j)).length (nlv K-1-j)).toArray)),(37,eqp _),(38,eqp _),(39,eqp (.int .i64 (X2.length:Nat))),(40,eqp (.agg (iU (vs j) (bX (nlv K-1-j) (lvl (nlv K) L j)).length (nlv K-1-j)).toArray)),(41,eqp _),(42,eqp _),(43,eqp (.int .i64 ((X2.length+(yL L q cc (nlv K) (j+1)).length:Nat):Int))),(8,eqp _),(2,eqp _)] (by repeat first | exact cy | refine cm ?_ | refine bO ?_) (by kernel_rfl) (by kernel_rfl) ⟨ag _,ag _,ag _,ag _,ag _,ag _,ag _,ag _,ag _,ag _,trivial⟩
  case hop=>
   constructor
   ·rintro-w12 D12;exact ai (bn (cs:=(iU (vs j) (bX (nlv K-1-j) (lvl (nlv K) L j)).length (nlv K-1-j))) dy cB rfl ((P8b.from_ D12).whole)) rfl
   constructor
   ·rintro-w13 D13;exact ai (aq (v:=.int _ _) rfl) rfl
   constructor
   ·rintro-w14 D14;exact ai (aq (v:=.bool _) rfl) rfl
   constructor
   ·rintro-w15 D15;rintro v15_36 rfl _ rfl _ rfl;refine er jl ((fc base (vs j) _ (nlv K-1-j) X.length (lvl (nlv K) L j) _ ((hVs j hjn).from_ (hB35.next D15)) (by omega) rfl (by rw [kZ];exact hLl) (cC (nlv K-1-j) cc)).mono ?_);rintro v w2 ⟨rfl,hE2⟩;exact ⟨hE2,by rw [hx2];rfl⟩
   constructor
   ·rintro-w16 D16;exact ai (bn (cs:=(iU (vs j) (bX (nlv K-1-j) (lvl (nlv K) L j)).length (nlv K-1-j))) dy cB rfl ((P8b.from_ D16).whole)) rfl
   constructor
   ·rintro-w17 D17;exact ai (aq (v:=.int _ _) rfl) rfl
   constructor
   ·rintro-w18 D18;exact ai (aq (v:=.bool _) rfl) rfl
   constructor
   ·rintro-w19 D19;rintro v19_40 rfl _ rfl _ rfl;refine er jl ((fc base (vs j) _ (nlv K-1-j) (X.length+(yL L q cc (nlv K) j).length) (lvl (nlv K) L j) _ ((hVs j hjn).from_ (hB35.next D19)) (by omega) rfl (by rw [kZ];exact hLl) (cC (nlv K-1-j) cc)).mono ?_);rintro v w2 ⟨rfl,hE2⟩;exact ⟨hE2,by rw [hy2];rfl⟩
   constructor
   ·rintro-w20 D20;rintro v20_39 rfl;exact ai (bY (v:=.int _ _) rfl) rfl
   constructor
   ·rintro-w21 D21;rintro v21_43 rfl;exact ai (bY (v:=.int _ _) rfl) rfl
   exact trivial
  case hend=>
   intro w22 D22;rintro v36 rfl _ rfl _ rfl v39 rfl v40 rfl _ rfl _ rfl v43 rfl _ rfl _ rfl;show St ..;refine ah (aI (ab (aa (ae (fE rfl rfl (by have:=jK hK2;omega)) ?_))));refine mvi rfl (ah ?_);refine aO ((j+1,X2,Z2)) ⟨(by first | rfl | (refine aK ?_;omega)),(by first | rfl | (refine aK ?_;omega)),(by first | rfl | (refine aK ?_;omega)),trivial⟩ (by (iterate 40 refine aB rfl ?_);exact aJ) ⟨?_,?_⟩
   ·exact ⟨by omega,hP2,((((hB.next E10).only O8 (by rw [hb10];exact hB.size)).next E35).next D22)⟩
   ·show nlv K-(j+1)<nlv K-j;omega
 refine bc (aC (aC (aS (ab (af (aa (mvi rfl (mvi rfl (ae (bP rfl rfl (by have hs7:=zn hX;rw [kZ] at hs7;omega)) ?_)))))))));refine asi rfl (asi rfl (ah (ab (ay (cV (v:=.int _ _) (v':=.int _ _) rfl rfl rfl ?_)))));obtain rfl:j=nlv K:=by omega
 have hya:=HO (L:=L) (q:=q) (c:=cc) (n:=nlv K);refine ⟨?_,hB⟩;unfold kV kE;rw [if_pos hkn,if_pos hkn,if_pos (by omega),if_pos (by omega),Int.toNat_natCast,Int.toNat_natCast,←hya,Nat.add_sub_cancel_left]
end Go.Proofs.YtcbakncjacnnjaaGreat
namespace Go.Proofs.YtcbakncjacnnjaaGreat
open Go.Proofs.Tryz (prog)
open Go.RowKit
open Go.ChangeShapes Go.WideShapes Go.ChangeAt
open Go.Proofs.YtcbakncjacnnjaaGreat.SA
theorem el:cG prog 140 0=some 0:=by kernel_rfl
theorem ff:fp prog 132=some false:=by kernel_rfl
theorem sv:cG prog 140 1=some 1:=by kernel_rfl
theorem u7:az prog 189=true:=by kernel_rfl
theorem oy:az prog 191=true:=by kernel_rfl
theorem u6:az prog 190=true:=by kernel_rfl
theorem lB:cN prog 138=some (181,2):=by kernel_rfl
theorem u5:az prog 192=true:=by kernel_rfl
theorem lA:az prog 172=true:=by kernel_rfl
theorem su:cG prog 181 0=some 0:=by kernel_rfl
theorem ox:az prog 174=true:=by kernel_rfl
theorem u4:(cN prog 138).isSome=true:=by kernel_rfl
theorem oz:fp prog 181=some true:=by kernel_rfl
theorem ow:dK prog 181=some 2:=by kernel_rfl
theorem nq (p:Nat→Prop) [DecidablePred p] (L:List Nat):∀ k,k≤L.length→(L.take k).countP (fun x=>decide (p x))=cnt k fun i=>p (L.getD i 0)
 |0,_=>by simp [cnt]
 |k+1,h=>by
  have ih:=nq p L k (by omega);have hk:k<L.length:=by omega
  have e:L.getD k 0=L[k]:=by rw [List.getD_eq_getElem?_getD,List.getElem?_eq_getElem hk];rfl
  rw [List.take_succ_eq_append_getElem hk,List.countP_append,ih,List.countP_singleton];by_cases hp:p L[k]
  ·rw [qx (p:=fun i=>p (L.getD i 0)) (by rw [e];exact hp),if_pos (by simpa using hp)]
  ·rw [yj (p:=fun i=>p (L.getD i 0)) (by rw [e];exact hp),if_neg (by simpa using hp)];rfl
theorem BN (B:List Nat) (c:Nat):fK B c=les B.length (fun i=>B.getD i 0) c:=by
 have:=nq (fun x=>x<c) B B.length (Nat.le_refl _);rw [List.take_length] at this;exact this
theorem Er (B:List Nat) (c i:Nat) (h:i≤B.length):Es B c i=occ (fun i=>B.getD i 0) i c:=by
 have:=nq (fun x=>x=c) B i h;unfold occ;rw [←this];unfold Es
 congr 1
noncomputable def sF (L F:List Nat) (l:List Nat):List Value:=l.flatMap fun r=>[jV ((r:Nat):Int),jV ((dx L F r:Nat):Int)]
theorem Fs (L F l:List Nat) (i:Nat) (hi:i<l.length) (q:Nat) (hq:q<2):(sF L F l)[i*2+q]? =[jV ((l.getD i 0:Nat):Int),jV ((dx L F (l.getD i 0):Nat):Int)][q]? :=by
 have:=qu (s:=2) (f:=fun r=>[jV ((r:Nat):Int),jV ((dx L F r:Nat):Int)]) (fun x=>rfl) l i hi q hq;unfold sF;rw [this,List.getD_eq_getElem?_getD,List.getElem?_eq_getElem hi];rfl
def kp (w:World) (base b K a:Nat) (L B F:List Nat):Prop:=base≤b∧gT L F∧lM L B a∧L.length≤131072∧K≤512∧∃ (tb:Nat) (AS:Option Addr) (cs gr:Nat),
 Blk w b 140 #[.pointer (some ⟨tb,0,none⟩),.int .i64 (a:Nat),.slice AS (smp L F (L.length+1)).length cs,.slice (some ⟨gr,0,none⟩) (L.length/8+1) (L.length/8+1)]∧
 fe w base tb K B∧w.ownsRow base 181 2 (.slice AS (smp L F (L.length+1)).length cs) (smp L F (L.length+1)).length (sF L F (smp L F (L.length+1)))∧
 Blk w gr 21 (fA (L.length/8+1) fun j=>((rank (L.length+1) (bQ L) (8*j):Nat):Int))∧base≤gr
theorem kp.from_ {w w':World} {base b K a:Nat} {L B F:List Nat} (h:kp w base b K a L B F) (hF:aj w w'):kp w' base b K a L B F:=by
 obtain ⟨hb0,hSA,hbw,hLn,hK,tb,AS,cs,gr,hI,hT,ho,hR,hgr⟩:=h;exact ⟨hb0,hSA,hbw,hLn,hK,tb,AS,cs,gr,hI.from_ hF,hT.from_ hF,ho.kept_from hF,hR.from_ hF,hgr⟩
theorem H0 {K c:Nat} {B:List Nat} (hc:c≤K):sV K B (c:Nat)=((les B.length (fun i=>B.getD i 0) c:Nat):Int):=by
 unfold sV;rw [if_pos (by omega),Int.toNat_natCast,BN]
theorem Iy {K c i:Nat} {B:List Nat} (hc:c<K) (hi:i≤B.length):kV K B (c:Nat) (i:Nat)=((occ (fun i=>B.getD i 0) i c:Nat):Int):=by
 unfold kV;rw [if_pos (by omega),if_pos (by omega),Int.toNat_natCast,Int.toNat_natCast,Er _ _ _ hi]
theorem Ja {i:Nat} {B:List Nat} (hi:i<B.length):aV B (i:Nat)=((B.getD i 0:Nat):Int):=by
 unfold aV;rw [if_pos (by omega),Int.toNat_natCast]
theorem Ft (base b K a:Nat) (L B F:List Nat) (w:World) (hf:kp w base b K a L B F) :
 Rt prog 168 [.pointer (some ⟨b,0,none⟩)] w (fun v w'=>v=.int .i64 ((L.length:Nat):Int)∧aj w w'):=by
 obtain ⟨hb0,hSA,hbw,hLn,hK,tb,AS,cs,gr,hI,hT,ho,hR,hgr⟩:=hf;have hBl:=hbw.len;refine enter (n:=13) Tryz.func168 rfl rfl rfl (af (aa (asi rfl (ah (ab (af (af (aa (mvp rfl (ae (ar rfl) (ae (ak el rfl) (ae (an ff rfl (by exact (hI.from_ aj.rfl_).rd 0 rfl)) ?_))))))))))));refine ae (dS (oT (by kernel_rfl) rfl rfl) rfl) (ah (ab (de rfl (av (ab (af (aa (mvp rfl (ae (ar rfl) (ae (ak el rfl) (ae (an ff rfl (by exact (hI.from_ aj.rfl_).rd 0 rfl)) ?_)))))))))));refine aF jm (GC base tb K B _ (hT.from_ aj.rfl_)) ?_;rintro v12 w1 ⟨rfl,E12⟩;refine asi rfl (ah (ab (ay (bE (v:=.int _ _) rfl rfl (⟨aK (by rw [hBl]),(aj.rfl_.next E12)⟩)))))
theorem vQ (base b K a:Nat) (L B F:List Nat) (w:World) (hf:kp w base b K a L B F) (r:Nat) (hr:r≤L.length+1) :
 Rt prog 191 [.pointer (some ⟨b,0,none⟩),.int .i64 (r:Nat)] w (fun v w'=>v=.int .i64 ((sy a r:Nat):Int)∧w=w'):=by
 obtain ⟨hb0,hSA,hbw,hLn,hK,tb,AS,cs,gr,hI,hT,ho,hR,hgr⟩:=hf;refine enter (n:=14) Tryz.func191 rfl rfl rfl (af (aa (asi rfl (ah (ab (af (af (aa (mvi rfl (mvp rfl (ae (ar rfl) (ae (ak sv rfl) (ae (an aU rfl (by exact hI.rd 1 rfl)) ?_)))))))))))));refine ae (cL rfl rfl) (ah (ab (JV rfl (fun Q1=>?_) (fun Q1=>?_))))
 ·refine af (aa (mvi rfl (ae (bP (b:=1) rfl rfl (by omega)) (asi rfl (ah (ab (ay (aD (bE (v:=.int _ _) rfl rfl (⟨aK (by rw [Hh (by omega)]),rfl⟩))))))))))
 refine av (ab (af (aa (mvi rfl (asi rfl (ah (ab (ay (bE (v:=.int _ _) rfl rfl (⟨aK (by rw [Hg (by omega)]),rfl⟩))))))))))
theorem Ff {a r n:Nat} (ha:a≤n) (hr:r≤n+1):sy a r≤n:=by unfold sy;split <;> omega
theorem uz (base b K a:Nat) (L B F:List Nat) (w:World) (hf:kp w base b K a L B F) (c r:Nat) (hc:c<K) (hr:r≤L.length+1) :
 Rt prog 172 [.pointer (some ⟨b,0,none⟩),.int .i64 (c:Nat),.int .i64 (r:Nat)] w (fun v w'=>v=.int .i64 ((1+les L.length (fun i=>B.getD i 0) c+occ (fun i=>B.getD i 0) (sy a r) c:Nat):Int)∧aj w w'):=by
 have hff:=hf;obtain ⟨hb0,hSA,hbw,hLn,hK,tb,AS,cs,gr,hI,hT,ho,hR,hgr⟩:=hf;have hBl:=hbw.len;have hsl:=Ff hbw.le hr;have hl1:=It (n:=L.length) (b:=(fun i=>B.getD i 0)) c;have ho1:=Ik (b:=(fun i=>B.getD i 0)) (sy a r) c;refine enter (n:=36) Tryz.func172 rfl rfl rfl (af (aa (asi rfl (ah (ab (af (aa (mvp rfl (ae (ar rfl) (ae (ak el rfl) (ae (an ff rfl (by exact (hI.from_ aj.rfl_).rd 0 rfl)) ?_)))))))))));refine mvi rfl (aF u7 (JF base tb K B _ (hT.from_ aj.rfl_) (c:Nat)) ?_);rintro v17 w1 ⟨rfl,rfl⟩;refine mvt rfl (ae (ax rfl rfl) ?_);refine dh (t:=18) (v:=.int _ _) (v':=.int .i64 ((les L.length (fun i=>B.getD i 0) c:Nat):Int)) rfl (by rw [←hBl];exact aK (H0 (by omega))) ?_;refine ae (ax rfl rfl) (asi rfl (asi rfl (ah (ab (af ?_)))));apply dN 14 [(21,eqp _),(22,eqp _),(23,eqp _),(24,eqp _),(25,eqp _),(26,eqp _),(27,eqp _),(28,eqp _),(29,eqp _),(20,eqp _),(30,eqp _),(31,eqp _),(9,eqp _),(10,eqp _)] (by kernel_rfl) (by kernel_rfl) ⟨ag _,ag _,ag _,ag _,ag _,ag _,ag _,ag _,ag _,ag _,ag _,ag _,ag _,ag _,trivial⟩
 case hop=>
  constructor
  ·intro w3 D3;exact ai (aq (v:=.pointer _) rfl) rfl
  constructor
  ·intro w4 D4;rintro _ rfl;exact ai (ar rfl) rfl
  constructor
  ·intro w5 D5;rintro _ rfl;exact ai (ak el rfl) rfl
  constructor
  ·intro w6 D6;rintro _ rfl;exact ai (an ff rfl (by exact (hI.from_ (aj.rfl_.next D6)).rd 0 rfl)) rfl
  constructor
  ·intro w7 D7;exact ai (aq (v:=.int _ _) rfl) rfl
  constructor
  ·intro w8 D8;exact ai (aq (v:=.pointer _) rfl) rfl
  constructor
  ·intro w9 D9;exact ai (aq (v:=.int _ _) rfl) rfl
  constructor
  ·intro w10 D10;rintro _ rfl _ rfl;refine er oy ((vQ base b K a L B F _ (hff.from_ (aj.rfl_.next D10)) r hr).mono ?_);rintro v _ ⟨rfl,rfl⟩;exact ⟨aj.rfl_,rfl⟩
  constructor
  ·intro w11 D11;rintro _ rfl _ rfl _ rfl;refine er u6 ((Jv base tb K B _ (hT.from_ (aj.rfl_.next D11)) (c:Nat) ((sy a r:Nat):Int)).mono ?_);rintro v _ ⟨rfl,E11'⟩;exact ⟨E11',rfl⟩
  constructor
  ·intro w12 D12;rintro _ rfl;exact ai (aq (v:=.tuple _) rfl) rfl
  constructor
  ·intro w13 D13;rintro _ rfl;exact ai (ax rfl rfl) rfl
  constructor
  ·intro w14 D14;rintro _ rfl;exact ai (ax rfl rfl) rfl
  constructor
  ·intro w15 D15;rintro _ rfl;exact ai (bY (v:=.int _ _) rfl) rfl
  constructor
  ·intro w16 D16;rintro _ rfl;exact ai (bY (v:=.int _ _) rfl) rfl
  exact trivial
 case hend=>
  intro w17 D17;rintro _ rfl _ rfl _ rfl _ rfl _ rfl _ rfl _ rfl _ rfl _ rfl _ rfl _ rfl _ rfl _ rfl _ rfl;show St ..;refine ah (ab (af (aa (mvi rfl (ae (aG (a:=1) (b:=les L.length (fun i=>B.getD i 0) c) rfl rfl (by omega)) ?_)))));refine mvi rfl ?_;refine ae (eR (v':=.int .i64 ((1+les L.length (fun i=>B.getD i 0) c+occ (fun i=>B.getD i 0) (sy a r) c:Nat):Int)) (aG (a:=1+les L.length (fun i=>B.getD i 0) c) (b:=occ (fun i=>B.getD i 0) (sy a r) c) rfl (by rw [Iy hc (by omega)];rfl) (by omega)) rfl) ?_;refine asi rfl (ah (ab (ay (bE (v:=.int _ _) rfl rfl (⟨rfl,(aj.rfl_.next D17)⟩)))))
theorem Fb {w:World} {base b k:Nat} {B:List Nat} (ht:fe w base b k B):∀ x∈B,x<k:=by
 obtain ⟨hb0,AT,cT,g,vs,hT,ho,hVs,hg0,hg2,hK1,hK2,hlt,hLl⟩:=ht;exact hlt
theorem zP {B:List Nat} {k i:Nat} (h:∀ x∈B,x<k) (hi:i<B.length):B.getD i 0<k:=by
 rw [List.getD_eq_getElem?_getD,List.getElem?_eq_getElem hi];exact h _ (List.getElem_mem hi)
theorem oI {w:World} {base m c:Nat} {A:Option Addr} {L F l:List Nat} (h:w.ownsRow base 181 2 (.slice A m c) m (sF L F l)) (hm:m=l.length) (h0:0<m):∃ g,A=some ⟨g,0,none⟩∧∀ i,i<m→w.rangeAt g (i*2) [jV ((l.getD i 0:Nat):Int),jV ((dx L F (l.getD i 0):Nat):Int)]:=by
 obtain ⟨g,cur,rfl,_,hb,h1,_,h3,h4⟩:=fa h h0;refine ⟨g,rfl,fun i hi=>hb.range _ _ fun q v hv=>?_⟩;have hq:q<2:=(List.getElem?_eq_some_iff.1 hv).1;rw [←Fs L F l i (by omega) q hq,←h4,List.getElem?_take_of_lt (by omega)] at hv;exact hv
theorem ya (base b K a:Nat) (L B F:List Nat) (w:World) (hf:kp w base b K a L B F) (r:Nat) (hr:r≤L.length) (hra:r≠a) :
 Rt prog 175 [.pointer (some ⟨b,0,none⟩),.int .i64 (r:Nat)] w (fun v w'=>v=.tuple #[.int .i64 ((B.getD (sy a r) 0:Nat):Int),.int .i64 ((lf L.length (fun i=>B.getD i 0) a r:Nat):Int)]∧aj w w'):=by
 have hff:=hf;obtain ⟨hb0,hSA,hbw,hLn,hK,tb,AS,cs,gr,hI,hT,ho,hR,hgr⟩:=hf;have hBl:=hbw.len;have hsl:=qG hbw.le hr hra;have hcK:=zP (Fb hT) (show sy a r<B.length by omega);have hv:=Ir (b:=(fun i=>B.getD i 0)) (c:=B.getD (sy a r) 0) hbw.le hr hra rfl;refine enter (n:=22) Tryz.func175 rfl rfl rfl (af (aa (asi rfl (asi rfl (ah (ab (af ?_)))))));apply dN 12 [(7,eqp _),(8,eqp _),(9,eqp _),(10,eqp _),(11,eqp _),(12,eqp _),(13,eqp _),(14,eqp _),(6,eqp _),(15,eqp _),(16,eqp _),(4,eqp _)] (by kernel_rfl) (by kernel_rfl) ⟨ag _,ag _,ag _,ag _,ag _,ag _,ag _,ag _,ag _,ag _,ag _,ag _,trivial⟩
 case hop=>
  constructor
  ·intro w2 D2;exact ai (aq (v:=.pointer _) rfl) rfl
  constructor
  ·intro w3 D3;rintro _ rfl;exact ai (ar rfl) rfl
  constructor
  ·intro w4 D4;rintro _ rfl;exact ai (ak el rfl) rfl
  constructor
  ·intro w5 D5;rintro _ rfl;exact ai (an ff rfl (by exact (hI.from_ (aj.rfl_.next D5)).rd 0 rfl)) rfl
  constructor
  ·intro w6 D6;exact ai (aq (v:=.pointer _) rfl) rfl
  constructor
  ·intro w7 D7;exact ai (aq (v:=.int _ _) rfl) rfl
  constructor
  ·intro w8 D8;rintro _ rfl _ rfl;refine er oy ((vQ base b K a L B F _ (hff.from_ (aj.rfl_.next D8)) r (by omega)).mono ?_);rintro v _ ⟨rfl,rfl⟩;exact ⟨aj.rfl_,rfl⟩
  constructor
  ·intro w9 D9;rintro _ rfl _ rfl;refine er u5 ((Hc base tb K B _ (hT.from_ (aj.rfl_.next D9)) ((sy a r:Nat):Int)).mono ?_);rintro v _ ⟨rfl,E9'⟩;exact ⟨E9',rfl⟩
  constructor
  ·intro w10 D10;rintro _ rfl;exact ai (aq (v:=.tuple _) rfl) rfl
  constructor
  ·intro w11 D11;rintro _ rfl;exact ai (eR (ax rfl rfl) (aK (Ja (by omega)))) rfl
  constructor
  ·intro w12 D12;rintro _ rfl;exact ai (ax rfl rfl) rfl
  constructor
  ·intro w13 D13;rintro _ rfl;exact ai (bY (v:=.int _ _) rfl) rfl
  exact trivial
 case hend=>
  intro w14 D14;rintro _ rfl _ rfl _ rfl _ rfl _ rfl _ rfl _ rfl _ rfl _ rfl _ rfl _ rfl _ rfl;show St ..;refine ah (ab (af (aa (mvi rfl (mvp rfl (mvi rfl (mvi rfl (aF lA (uz base b K a L B F _ (hff.from_ (aj.rfl_.next D14)) (B.getD (sy a r) 0) r hcK (by omega)) ?_))))))));rintro v21 w15 ⟨rfl,E21⟩;refine asi rfl (asi rfl (ah (ab (ay (cV (v:=.int _ _) (v':=.int _ _) rfl rfl rfl (⟨by rw [←hv],((aj.rfl_.next D14).next E21)⟩))))))
theorem Et (x y r:Nat) (w:World) (hx:x≤1000000) (hr:r≤1000000) :
 Rt prog 174 [.agg #[.int .i32 (x:Nat),.int .i32 (y:Nat)],.int .i64 (r:Nat)] w (fun v w'=>v=.int .i64 ((x:Int)-r)∧aj w w'):=by
 refine enter (n:=10) Tryz.func174 rfl rfl rfl (af (aa (cK (v:=.agg _) rfl ?_)));intro b2 w1 E2 hb2 hk2;refine asi rfl (ah (ab (af (aa (ae (ak su rfl) (ae (an aZ rfl (by exact hk2.rd 0 rfl)) ?_))))));refine ae (ef iR eK rfl (by omega)) (mvi rfl (ae (fi rfl rfl (by omega)) (asi rfl (ah (ab (ay (bE (v:=.int _ _) rfl rfl (⟨rfl,(aj.rfl_.next E2)⟩))))))))
theorem yp (base:Nat) (A:Option Addr) (c m r:Nat) (L F l:List Nat) (w:World) (ho:w.ownsRow base 181 2 (.slice A m c) m (sF L F l)) (hm:m=l.length) (hm2:m≤1000000) (hr:r≤1000000) (hl:∀ i,i<m→l.getD i 0≤1000000) (hasc:∀ i j,i<j→j<m→l.getD i 0<l.getD j 0) :
 Rt prog 173 [.slice A m c,.int .i64 (r:Nat),.func (.func 174) #[] #[]] w (fun v w'=>(∃ (i:Nat) (fd:Bool),v=.tuple #[.int .i64 (i:Nat),.bool fd]∧i≤m∧(∀ x,x<i→l.getD x 0<r)∧(∀ x,i≤x→x<m→r≤l.getD x 0)∧(fd=true↔i<m∧l.getD i 0=r))∧aj w w'):=by
 refine enter (n:=49) Tryz.func173 rfl rfl rfl (af (aa (asi rfl (asb rfl (ah (ab (af (aa (mvs rfl (ae (aQ u4 rfl) (asi rfl (ah (ab (af (aa ?_)))))))))))))));refine mvi rfl (asi rfl (asi rfl (ah (ab (af (aw (a_ (G:=Nat×Nat) [11,15,16,17,18,19,20,21,22,23,24,25,26,27,28,29,30,31,32,33,34] (fun (i,j)=>[(9,.int .i64 (i:Nat)),(10,.int .i64 (j:Nat))]) (fun (i,j) w'=>i≤j∧j≤m∧(∀ x,x<i→l.getD x 0<r)∧(∀ x,j≤x→x<m→r≤l.getD x 0)∧aj w w') (fun (i,j)=>j-i) ((0,m)) ⟨rfl,rfl,trivial⟩ ?_ ?_)))))))
 ·exact ⟨Nat.zero_le _,Nat.le_refl _,fun x h=>absurd h (by omega),fun x h1 h2=>absurd h1 (by omega),aj.rfl_⟩
 rintro ⟨i,j⟩ ρ1 w1 ⟨hij,hjn,hlo,hhi,hB⟩;refine af (af (aa (mvi rfl (mvi rfl (ae (aW rfl rfl) (ah (ab (JV rfl (fun Q2=>?_) (fun Q2=>?_)))))))))
 ·obtain ⟨g,rfl,hrg⟩:=oI ho hm (by omega);refine av (ab (aw (af (aa (mvi rfl (mvi rfl (ae (aG rfl rfl (by omega)) ?_)))))));obtain ⟨h,hh⟩:∃ h,h=(i+j)/2 ^ 1:=⟨_,rfl⟩;refine ae (fq dP fS rfl (by omega)) (ae (ep (b:=1) rfl rfl (by decide)) (ae (ef gQ eK rfl (by omega)) (dh (t:=23) (v:=.int _ _) (v':=.int .i64 (h:Nat)) rfl (by rw [hh]) ?_)));refine asi rfl (ah (ab (af (aa (ae (aq (v:=.func _ _ _) rfl) (mvs rfl (mvi rfl (ae (aM lB rfl rfl (by omega)) ?_))))))));refine ae (bn (cs:=[_,_]) oz ow rfl (by rw [Nat.zero_add];exact du hB (hrg h (by omega)))) ?_;refine mvi rfl (fh (caps:=[]) rfl ox (Et (l.getD h 0) (dx L F (l.getD h 0)) r _ (hl _ (by omega)) hr) ?_);rintro v3 w3 ⟨rfl,E30⟩;refine ae (aW rfl rfl) (ah (ab (JV rfl (fun Q4=>?_) (fun Q4=>?_))))
  ·refine aa (mvi rfl (ae (aG (b:=1) rfl rfl (by omega)) (asi rfl (ah (aI ?_)))));refine aO ((h+1,j)) ⟨(by first | rfl | (refine aK ?_;omega)),(by first | rfl | (refine aK ?_;omega)),trivial⟩ (by (iterate 45 refine aB rfl ?_);exact aJ) ⟨?_,?_⟩
   ·exact ⟨by omega,hjn,fun x hx=>by
     rcases Nat.eq_or_lt_of_le (Nat.le_of_lt_succ hx) with e | e
     ·subst e;omega
     ·have:=hasc x h e (by omega);omega,hhi,(hB.next E30)⟩
   ·show j-(h+1)<j-i;omega
  refine aa (mvi rfl (asi rfl (ah (aI ?_))));refine aO ((i,h)) ⟨(by first | rfl | (refine aK ?_;omega)),(by first | rfl | (refine aK ?_;omega)),trivial⟩ (by (iterate 44 refine aB rfl ?_);exact aJ) ⟨?_,?_⟩
  ·exact ⟨by omega,by omega,hlo,fun x h1 h2=>by
    rcases Nat.eq_or_lt_of_le h1 with e | e
    ·subst e;omega
    ·have:=hasc h x e h2;omega,(hB.next E30)⟩
  ·show h-i<j-i;omega
 refine bc (aC (aC (aS (ab (af (aa (mvi rfl (mvi rfl (mvi rfl (ae (aW rfl rfl) (mvb rfl (Jk (t:=39) rfl (fun Q5=>?_) (fun Q5=>?_)))))))))))))
 ·obtain ⟨g,rfl,hrg⟩:=oI ho hm (by omega);refine ao rfl (ae (aq (v:=.func _ _ _) rfl) (ao rfl (mvs rfl (ao rfl (mvi rfl (ao rfl (ae (aM lB rfl rfl (by omega)) (ao rfl ?_))))))));refine ae (bn (cs:=[_,_]) oz ow rfl (by rw [Nat.zero_add];exact du hB (hrg i (by omega)))) ?_;refine ao rfl (mvi rfl (ao rfl (fh (caps:=[]) rfl ox (Et (l.getD i 0) (dx L F (l.getD i 0)) r _ (hl _ (by omega)) hr) ?_)));rintro v6 w6 ⟨rfl,E46⟩;refine ao rfl (ae (cx rfl rfl) (ae (bB (v:=.bool _) rfl rfl) (asi rfl (asb rfl (ah (ab (ay (cV (v:=.int _ _) (v':=.bool _) rfl rfl rfl ?_))))))));obtain rfl:i=j:=by omega
  refine ⟨⟨i,_,rfl,hjn,hlo,hhi,?_⟩,(hB.next E46)⟩
  first
   |(rw [decide_eq_true_iff];constructor <;> intro hq <;> omega)
   |(constructor <;> intro hq <;> simp_all <;> omega)
 refine aL rfl rfl (aL rfl rfl (aL rfl rfl (aL rfl rfl (aL rfl rfl (aL rfl rfl (aL rfl rfl (aL rfl rfl (ae (bk (v:=.bool _) rfl rfl) ?_))))))));refine asi rfl (asb rfl (ah (ab (ay (cV (v:=.int _ _) (v':=.bool _) rfl rfl rfl ?_)))));obtain rfl:i=j:=by omega
 refine ⟨⟨i,_,rfl,hjn,hlo,hhi,?_⟩,hB⟩
 first
  |(rw [decide_eq_true_iff];constructor <;> intro hq <;> omega)
  |(constructor <;> intro hq <;> simp_all <;> omega)
end Go.Proofs.YtcbakncjacnnjaaGreat
