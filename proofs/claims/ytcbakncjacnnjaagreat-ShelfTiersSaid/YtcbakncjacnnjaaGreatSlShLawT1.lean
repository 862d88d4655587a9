/- texts that the claim stands on. -/
import Derived.WalkKit
import Derived.WalkSpells
import Derived.OwnWalk
import Derived.Lib.Hide
import Derived.Still
import Derived.Deep.Draws
import Derived.Deep.LoopGhost
import Derived.Deep.MidRow
import Derived.Great.BuildSlice
import Derived.Test.YtcbakncjacnnjaaGreatProg
import Derived.WalkLawsBesides
import Derived.Deep.QuietTactic
import Derived.BigQuiet
import Derived.Deep.RegionHeld3
import Derived.KernelRfl
import Derived.Laws.AppendOwnNone
import Derived.Test.YtcbakncjacnnjaaGreatRows
import Derived.ProofKit
import Derived.Deep.Slices
import Derived.Deep.Fields
import Derived.ChangeSame
import Derived.SizedLaws
import Derived.Deep.DeepHandedRow
import Derived.Lib.LaidTab
import Derived.OpenShut
import Derived.Laws.CopyRow
import Derived.Lib.LazyBuf
import Derived.Lib.AppendZerosOnto
import Derived.Lib.Overlaps
set_option maxRecDepth 100000
set_option maxHeartbeats 4000000
namespace Go.Proofs.YtcbakncjacnnjaaGreat
open Go.Proofs.Tryz (prog)
namespace SM
section
variable {α:Type} (d:α)
def G (xs:List α) (k:Nat):α:=xs.getD k d
theorem G_get {xs:List α} {k:Nat} (h:k<xs.length):G d xs k=xs[k]:=by
 unfold G;rw [List.getD_eq_getElem?_getD,List.getElem?_eq_getElem h];rfl
theorem HM {xs:List α} {i k:Nat} {x:α} (h:i<xs.length):G d (xs.set i x) k=if k=i then x else G d xs k:=by
 unfold G;rw [List.getD_eq_getElem?_getD,List.getD_eq_getElem?_getD,List.getElem?_set];by_cases e:k=i
 ·subst e;simp [h]
 ·rw [if_neg (fun q=>e q.symm),if_neg e]
def swp (xs:List α) (i j:Nat):List α:=(xs.set i (G d xs j)).set j (G d xs i)
theorem qH {xs:List α} {i j:Nat} (hi:i<xs.length) (hj:j<xs.length) (k:Nat):G d (swp d xs i j) k=if k=j then G d xs i else if k=i then G d xs j else G d xs k:=by
 unfold swp;rw [HM d (by rw [List.length_set];exact hj),HM d hi]
theorem Cl {xs:List α} {i j:Nat} (hi:i<xs.length) (hj:j<xs.length):(swp d xs i j).Perm xs:=by
 have:=Array.swap_perm (xs:=xs.toArray) (i:=i) (j:=j) (by simpa using hi) (by simpa using hj);rw [Array.perm_iff_toList_perm] at this;unfold swp;rw [G_get d hi,G_get d hj];simpa [Array.swap] using this
structure PW (a b:Nat) (xs ys:List α):Prop where
 perm:ys.Perm xs
 out:∀ k,(k<a∨b≤k)→G d ys k=G d xs k
 inn:∀ k,a≤k→k<b→∃ l,a≤l∧l<b∧G d ys k=G d xs l
variable {d} {a b:Nat} {xs ys zs:List α}
theorem PW.rfl_:PW d a b xs xs:=⟨.refl _,fun _ _=>rfl,fun k h1 h2=>⟨k,h1,h2,rfl⟩⟩
theorem PW.len (h:PW d a b xs ys):ys.length=xs.length:=h.perm.length_eq
theorem PW.trans (h:PW d a b xs ys) (k:PW d a b ys zs):PW d a b xs zs:=⟨k.perm.trans h.perm,fun i hi=>(k.out i hi).trans (h.out i hi),fun i h1 h2=>by
 obtain ⟨l,l1,l2,e⟩:=k.inn i h1 h2;obtain ⟨m,m1,m2,e2⟩:=h.inn l l1 l2;exact ⟨m,m1,m2,e.trans e2⟩⟩
theorem PW.wide {a' b':Nat} (h:PW d a b xs ys) (ha:a'≤a) (hb:b≤b'):PW d a' b' xs ys:=⟨h.perm,fun k hk=>h.out k (by omega),fun k h1 h2=>by
 by_cases c:a≤k∧k<b
 ·obtain ⟨l,l1,l2,e⟩:=h.inn k c.1 c.2;exact ⟨l,by omega,by omega,e⟩
 ·exact ⟨k,h1,h2,h.out k (by omega)⟩⟩
theorem PW.swap {i j:Nat} (hi:a≤i∧i<b) (hj:a≤j∧j<b) (hl:b≤xs.length):PW d a b xs (swp d xs i j):=by
 have hi2:i<xs.length:=by omega
 have hj2:j<xs.length:=by omega
 refine ⟨Cl d hi2 hj2,fun k hk=>?_,fun k h1 h2=>?_⟩
 ·rw [qH d hi2 hj2,if_neg (by omega),if_neg (by omega)]
 ·rw [qH d hi2 hj2];split
  ·exact ⟨i,hi.1,hi.2,rfl⟩
  ·split
   ·exact ⟨j,hj.1,hj.2,rfl⟩
   ·exact ⟨k,h1,h2,rfl⟩
variable (d) (lt:α→α→Prop)
def Srt (a b:Nat) (xs:List α):Prop:=∀ i j,a≤i→i≤j→j<b→¬ lt (G d xs j) (G d xs i)
structure Ord:Prop where
 irr:∀ x,¬ lt x x
 asy:∀ {x y},lt x y→¬ lt y x
 tr:∀ {x y z},¬ lt y x→¬ lt z y→¬ lt z x
variable {d lt} (O:Ord lt)
include O in
theorem Srt.one (h:b≤a+1):Srt d lt a b xs↔True:=⟨fun _=>trivial,fun _ i j h1 h2 h3=>by
 obtain rfl:i=j:=by omega
 exact O.irr _⟩
theorem Srt.sub {a' b':Nat} (h:Srt d lt a b xs) (ha:a≤a') (hb:b'≤b):Srt d lt a' b' xs:=fun i j h1 h2 h3=>h i j (by omega) h2 (by omega)
theorem Srt.off {a' b':Nat} (h:Srt d lt a b xs) (k:PW d a' b' xs ys) (hd:b≤a'∨b'≤a):Srt d lt a b ys:=fun i j h1 h2 h3=>by
 rw [k.out i (by omega),k.out j (by omega)];exact h i j h1 h2 h3
def Ins (d:α) (lt:α→α→Prop) (a i j:Nat) (xs:List α):Prop:=∀ p q,a≤p→p<q→q≤i→q≠j→¬ lt (G d xs q) (G d xs p)
theorem Ins.start {i:Nat} (h:Srt d lt a i xs):Ins d lt a i i xs:=fun p q h1 h2 h3 h4=>h p q h1 (by omega) (by omega)
include O in
theorem Ins.low {i:Nat} (h:Ins d lt a i a xs):Srt d lt a (i+1) xs:=fun p q h1 h2 h3=>by
 rcases Nat.eq_or_lt_of_le h2 with e | e
 ·subst e;exact O.irr _
 ·exact h p q h1 e (by omega) (by omega)
include O in
theorem Ins.stop {i j:Nat} (h:Ins d lt a i j xs) (hj:a<j) (hn:¬ lt (G d xs j) (G d xs (j-1))):Srt d lt a (i+1) xs:=fun p q h1 h2 h3=>by
 rcases Nat.eq_or_lt_of_le h2 with e | e
 ·subst e;exact O.irr _
 ·by_cases hq:q=j
  ·subst hq;by_cases hp:p=q-1
   ·subst hp;exact hn
   ·exact O.tr (h p (q-1) h1 (by omega) (by omega) (by omega)) hn
  ·exact h p q h1 e (by omega) hq
include O in
theorem Ins.step {i j:Nat} (h:Ins d lt a i j xs) (hj:a<j) (hji:j≤i) (hl:i<xs.length) (hn:lt (G d xs j) (G d xs (j-1))):Ins d lt a i (j-1) (swp d xs j (j-1)):=fun p q h1 h2 h3 h4=>by
 rw [qH d (by omega) (by omega),qH d (by omega) (by omega),if_neg h4];by_cases hq:q=j
 ·rw [if_pos hq];by_cases hp:p=j-1
  ·rw [if_pos hp];exact O.asy hn
  ·rw [if_neg hp,if_neg (by omega)];exact h p (j-1) h1 (by omega) (by omega) (by omega)
 ·rw [if_neg hq];by_cases hp:p=j-1
  ·rw [if_pos hp];exact h j q (by omega) (by omega) h3 hq
  ·rw [if_neg hp];by_cases hp2:p=j
   ·rw [if_pos hp2];exact h (j-1) q (by omega) (by omega) h3 hq
   ·rw [if_neg hp2];exact h p q h1 h2 h3 hq
def rot (s m e:Nat) (f:Nat→α) (k:Nat):α:=if s≤k∧k<s+(e-m) then f (k+(m-s)) else if s+(e-m)≤k∧k<e then f (k-(e-m)) else f k
def swr (a b n:Nat) (f:Nat→α) (k:Nat):α:=if a≤k∧k<a+n then f (k+(b-a)) else if b≤k∧k<b+n then f (k-(b-a)) else f k
theorem swr_zero (a b:Nat) (f:Nat→α) (k:Nat):swr a b 0 f k=f k:=by
 unfold swr;rw [if_neg (by omega),if_neg (by omega)]
theorem swr_succ {a b n l:Nat} {xs ys:List α} (h:∀ k,G d ys k=swr a b n (G d xs) k) (hab:a+n<b) (hl:ys.length=l) (hb:b+n<l) (k:Nat):G d (swp d ys (a+n) (b+n)) k=swr a b (n+1) (G d xs) k:=by
 subst hl;rw [qH d (by omega) hb,h,h,h];unfold swr;by_cases h1:k=b+n
 ·rw [if_pos h1,if_neg (by omega),if_neg (by omega),if_neg (by omega),if_pos (by omega)]
  congr 1;omega
 ·rw [if_neg h1];by_cases h2:k=a+n
  ·rw [if_pos h2,if_neg (by omega),if_neg (by omega),if_pos (by omega)]
   congr 1;omega
  ·rw [if_neg h2];by_cases h3:a≤k∧k<a+n
   ·rw [if_pos h3,if_pos (by omega)]
   ·rw [if_neg h3];by_cases h4:b≤k∧k<b+n
    ·rw [if_pos h4,if_neg (by omega),if_pos (by omega)]
    ·rw [if_neg h4,if_neg (by omega),if_neg (by omega)]
theorem rot_left {m i j:Nat} {f g:Nat→α} (hj:0<j) (hij:j<i) (hm:i≤m) (h:∀ k,g k=swr (m-i) m j f k) (k:Nat):rot (m-(i-j)) m (m+j) g k=rot (m-i) m (m+j) f k:=by
 unfold rot;by_cases h1:m-(i-j)≤k∧k<m-(i-j)+(m+j-m)
 ·rw [if_pos h1,h,swr,if_neg (by omega)];by_cases h2:m≤k+(m-(m-(i-j)))∧k+(m-(m-(i-j)))<m+j
  ·rw [if_pos h2];by_cases h3:m-i≤k∧k<m-i+(m+j-m)
   ·omega
   ·rw [if_neg h3,if_pos (by omega)];congr 1;omega
  ·omega
 ·rw [if_neg h1];by_cases h2:m-(i-j)+(m+j-m)≤k∧k<m+j
  ·rw [if_pos h2,h,swr];by_cases h3:m-i≤k-(m+j-m)∧k-(m+j-m)<m-i+j
   ·omega
   ·rw [if_neg h3,if_neg (by omega),if_neg (by omega),if_pos (by omega)]
  ·rw [if_neg h2,h,swr];by_cases h3:m-i≤k∧k<m-i+j
   ·rw [if_pos h3,if_pos (by omega)]
   ·rw [if_neg h3,if_neg (by omega),if_neg (by omega),if_neg (by omega)]
theorem rot_right {m i j:Nat} {f g:Nat→α} (hi:0<i) (hij:i<j) (hm:i≤m) (h:∀ k,g k=swr (m-i) (m+j-i) i f k) (k:Nat):rot (m-i) m (m+(j-i)) g k=rot (m-i) m (m+j) f k:=by
 unfold rot;by_cases h1:m-i≤k∧k<m-i+(m+(j-i)-m)
 ·rw [if_pos h1,if_pos (by omega),h,swr,if_neg (by omega)];by_cases h2:m+j-i≤k+(m-(m-i))∧k+(m-(m-i))<m+j-i+i
  ·omega
  ·rw [if_neg h2]
 ·rw [if_neg h1];by_cases h2:m-i+(m+(j-i)-m)≤k∧k<m+(j-i)
  ·rw [if_pos h2,h,swr,if_pos (by omega),if_pos (by omega)]
   congr 1;omega
  ·rw [if_neg h2,h,swr,if_neg (by omega)];by_cases h3:m+j-i≤k∧k<m+j-i+i
   ·rw [if_pos h3,if_neg (by omega),if_pos (by omega)];congr 1;omega
   ·rw [if_neg h3,if_neg (by omega),if_neg (by omega)]
theorem rot_same {m i:Nat} {f g:Nat→α} (hm:i≤m) (h:∀ k,g k=swr (m-i) m i f k) (k:Nat):g k=rot (m-i) m (m+i) f k:=by
 rw [h];unfold rot swr;by_cases h1:m-i≤k∧k<m-i+i
 ·rw [if_pos h1,if_pos (by omega)]
 ·rw [if_neg h1];by_cases h2:m≤k∧k<m+i
  ·rw [if_pos h2,if_neg (by omega),if_pos (by omega)];congr 1;omega
  ·rw [if_neg h2,if_neg (by omega),if_neg (by omega)]
theorem rot_none {s m e:Nat} {f:Nat→α} (h:s=m∨e=m) (k:Nat):rot s m e f k=f k:=by
 unfold rot;by_cases h1:s≤k∧k<s+(e-m)
 ·rw [if_pos h1];congr 1;omega
 ·rw [if_neg h1];by_cases h2:s+(e-m)≤k∧k<e
  ·rw [if_pos h2];congr 1;omega
  ·rw [if_neg h2]
def mvl (a k:Nat) (f:Nat→α) (t:Nat):α:=if a≤t∧t<k then f (t+1) else if t=k then f a else f t
theorem mvl_zero (f:Nat→α) (t:Nat):mvl a a f t=f t:=by
 unfold mvl;rw [if_neg (by omega)];by_cases h:t=a
 ·rw [if_pos h,h]
 ·rw [if_neg h]
theorem mvl_succ {k:Nat} (h:∀ t,G d ys t=mvl a k (G d xs) t) (hk:a≤k) (hl:k+1<ys.length) (t:Nat):G d (swp d ys k (k+1)) t=mvl a (k+1) (G d xs) t:=by
 rw [qH d (by omega) hl,h,h,h];unfold mvl;by_cases h1:t=k+1
 ·rw [if_pos h1,if_neg (by omega),if_pos rfl,if_neg (by omega),if_pos h1]
 ·rw [if_neg h1];by_cases h2:t=k
  ·rw [if_pos h2,if_neg (by omega),if_neg (by omega),if_pos (by omega),h2]
  ·rw [if_neg h2];by_cases h3:a≤t∧t<k
   ·rw [if_pos h3,if_pos (by omega)]
   ·rw [if_neg h3,if_neg h2,if_neg (by omega),if_neg h1]
def mvr (i m:Nat) (f:Nat→α) (t:Nat):α:=if t=i then f m else if i<t∧t≤m then f (t-1) else f t
theorem mvr_zero (m:Nat) (f:Nat→α) (t:Nat):mvr m m f t=f t:=by
 unfold mvr;by_cases h:t=m
 ·rw [if_pos h,h]
 ·rw [if_neg h,if_neg (by omega)]
theorem mvr_succ {k m:Nat} (h:∀ t,G d ys t=mvr k m (G d xs) t) (h0:0<k) (hk:k≤m) (hl:k<ys.length) (t:Nat):G d (swp d ys k (k-1)) t=mvr (k-1) m (G d xs) t:=by
 rw [qH d hl (by omega),h,h,h];unfold mvr;by_cases h1:t=k-1
 ·rw [if_pos h1,if_pos rfl,if_pos h1]
 ·rw [if_neg h1];by_cases h2:t=k
  ·rw [if_pos h2,if_neg (by omega),if_neg (by omega),if_neg h1,if_pos (by omega),h2]
  ·rw [if_neg h2,if_neg h2,if_neg h1];by_cases h3:k<t∧t≤m
   ·rw [if_pos h3,if_pos (by omega)]
   ·rw [if_neg h3,if_neg (by omega)]
include O in
theorem mrg_first {m i:Nat} (h1:m=a+1) (hs:Srt d lt m b xs) (hi:m≤i∧i≤b) (hlo:i=m∨lt (G d xs (i-1)) (G d xs a)) (hhi:i=b∨¬ lt (G d xs i) (G d xs a))
 (h:∀ k,G d ys k=if a≤k∧k<i-1 then G d xs (k+1) else if k=i-1 then G d xs a else G d xs k):Srt d lt a b ys:=fun p q hp hpq hq=>by
 rcases Nat.eq_or_lt_of_le hpq with e | e
 ·subst e;exact O.irr _
 ·rw [h p,h q];by_cases p1:a≤p∧p<i-1
  ·rw [if_pos p1];by_cases q1:a≤q∧q<i-1
   ·rw [if_pos q1];exact hs _ _ (by omega) (by omega) (by omega)
   ·rw [if_neg q1];by_cases q2:q=i-1
    ·rw [if_pos q2];have h2:=hs (p+1) (i-1) (by omega) (by omega) (by omega);rcases hlo with h3 | h3
     ·omega
     ·exact O.tr h2 (O.asy h3)
    ·rw [if_neg q2];exact hs _ _ (by omega) (by omega) (by omega)
  ·rw [if_neg p1];by_cases p2:p=i-1
   ·rw [if_pos p2,if_neg (by omega),if_neg (by omega)];rcases hhi with h3 | h3
    ·omega
    ·exact O.tr h3 (hs i q (by omega) (by omega) (by omega))
   ·rw [if_neg p2,if_neg (by omega),if_neg (by omega)];exact hs _ _ (by omega) (by omega) (by omega)
include O in
theorem mrg_last {m i:Nat} (h1:b=m+1) (hs:Srt d lt a m xs) (hi:a≤i∧i≤m) (hlo:i=a∨¬ lt (G d xs m) (G d xs (i-1))) (hhi:i=m∨lt (G d xs m) (G d xs i))
 (h:∀ k,G d ys k=if k=i then G d xs m else if i<k∧k≤m then G d xs (k-1) else G d xs k):Srt d lt a b ys:=fun p q hp hpq hq=>by
 rcases Nat.eq_or_lt_of_le hpq with e | e
 ·subst e;exact O.irr _
 ·rw [h p,h q];by_cases p1:p=i
  ·rw [if_pos p1,if_neg (by omega),if_pos (by omega)];rcases hhi with h3 | h3
   ·omega
   ·exact O.tr (O.asy h3) (hs i (q-1) (by omega) (by omega) (by omega))
  ·rw [if_neg p1];by_cases q1:q=i
   ·rw [if_pos q1,if_neg (by omega)];rcases hlo with h3 | h3
    ·omega
    ·exact O.tr (hs p (i-1) (by omega) (by omega) (by omega)) h3
   ·rw [if_neg q1];by_cases p2:i<p∧p≤m
    ·rw [if_pos p2,if_pos (by omega)];exact hs _ _ (by omega) (by omega) (by omega)
    ·rw [if_neg p2];by_cases q2:i<q∧q≤m
     ·rw [if_pos q2];exact hs _ _ (by omega) (by omega) (by omega)
     ·rw [if_neg q2];exact hs _ _ (by omega) (by omega) (by omega)
structure Cut (d:α) (lt:α→α→Prop) (a m b mid s:Nat) (xs:List α):Prop where
 le1:a≤s∧s≤m∧s≤mid
 le2:m≤mid+m-s∧mid+m-s≤b
 lo:(s=a∨mid+m-s=b)∨¬ lt (G d xs (mid+m-s)) (G d xs (s-1))∧a<s
 hi:(s=m∨s=mid)∨lt (G d xs (mid+m-1-s)) (G d xs s)∧s<mid∧s<m
section
variable {m mid s:Nat}
include O
theorem IX (h1:Srt d lt a m xs) (h2:Srt d lt m b xs) (c:Cut d lt a m b mid s xs) (_:a≤m∧m≤b) {p q:Nat} (hp:a≤p∧p<s) (hq:mid+m-s≤q∧q<b):¬ lt (G d xs q) (G d xs p):=by
 obtain ⟨⟨c1,c2,c3⟩,⟨c4,c5⟩,c6,c7⟩:=c;rcases c6 with c6 | ⟨c6,c8⟩
 ·omega
 ·exact O.tr (O.tr (h1 p (s-1) hp.1 (by omega) (by omega)) c6) (h2 (mid+m-s) q (by omega) hq.1 hq.2)
theorem IY (h1:Srt d lt a m xs) (h2:Srt d lt m b xs) (c:Cut d lt a m b mid s xs) (_:a≤m∧m≤b) {p q:Nat} (hp:m≤p∧p<mid+m-s) (hq:s≤q∧q<m):¬ lt (G d xs q) (G d xs p):=by
 obtain ⟨⟨c1,c2,c3⟩,⟨c4,c5⟩,c6,c7⟩:=c;rcases c7 with c7 | ⟨c7,c8⟩
 ·omega
 ·exact O.tr (O.tr (h2 p (mid+m-1-s) hp.1 (by omega) (by omega)) (O.asy c7)) (h1 s q (by omega) hq.1 hq.2)
theorem cut_all (h1:Srt d lt a m xs) (h2:Srt d lt m b xs) (c:Cut d lt a m b mid s xs) (hm:a≤m∧m≤b) (_:a≤mid∧mid≤b) (h:∀ k,G d ys k=rot s m (mid+m-s) (G d xs) k) :
 Srt d lt a s ys∧Srt d lt s mid ys∧Srt d lt mid (mid+m-s) ys∧Srt d lt (mid+m-s) b ys∧∀ p q,a≤p→p<mid→mid≤q→q<b→¬ lt (G d ys q) (G d ys p):=by
 have c':=c;obtain ⟨⟨c1,c2,c3⟩,⟨c4,c5⟩,c6,c7⟩:=c';have f1:∀ k,k<s→G d ys k=G d xs k:=fun k hk=>by rw [h,rot,if_neg (by omega),if_neg (by omega)]
 have f2:∀ k,s≤k→k<mid→G d ys k=G d xs (k+(m-s)):=fun k h1 h2=>by rw [h,rot,if_pos (by omega)]
 have f3:∀ k,mid≤k→k<mid+m-s→G d ys k=G d xs (k-(mid-s)):=fun k h1 h2=>by
  rw [h,rot,if_neg (by omega),if_pos (by omega)];congr 1;omega
 have f4:∀ k,mid+m-s≤k→G d ys k=G d xs k:=fun k hk=>by rw [h,rot,if_neg (by omega),if_neg (by omega)]
 refine ⟨fun i j a1 a2 a3=>?_,fun i j a1 a2 a3=>?_,fun i j a1 a2 a3=>?_,fun i j a1 a2 a3=>?_,fun p q a1 a2 a3 a4=>?_⟩
 ·rw [f1 i (by omega),f1 j (by omega)];exact h1 _ _ (by omega) (by omega) (by omega)
 ·rw [f2 i (by omega) (by omega),f2 j (by omega) (by omega)];exact h2 _ _ (by omega) (by omega) (by omega)
 ·rw [f3 i (by omega) (by omega),f3 j (by omega) (by omega)];exact h1 _ _ (by omega) (by omega) (by omega)
 ·rw [f4 i (by omega),f4 j (by omega)];exact h2 _ _ (by omega) (by omega) (by omega)
 ·by_cases p1:p<s
  ·rw [f1 p p1];by_cases q1:q<mid+m-s
   ·rw [f3 q a3 q1];exact h1 _ _ (by omega) (by omega) (by omega)
   ·rw [f4 q (by omega)];exact IX O h1 h2 c hm ⟨a1,p1⟩ ⟨by omega,a4⟩
  ·rw [f2 p (by omega) a2];by_cases q1:q<mid+m-s
   ·rw [f3 q a3 q1];exact IY O h1 h2 c hm (by omega) (by omega)
   ·rw [f4 q (by omega)];exact h2 _ _ (by omega) (by omega) (by omega)
end
theorem half_half {mid:Nat} {us:List α} (hx:∀ p q,a≤p→p<mid→mid≤q→q<b→¬ lt (G d xs q) (G d xs p)) (h1:PW d a mid xs ys) (s1:Srt d lt a mid ys) (h2:PW d mid b ys us) (s2:Srt d lt mid b us):Srt d lt a b us:=fun p q a1 a2 a3=>by
 by_cases q1:q<mid
 ·rw [h2.out p (by omega),h2.out q (by omega)];exact s1 p q a1 a2 q1
 ·by_cases p1:p<mid
  ·obtain ⟨l,l1,l2,e⟩:=h2.inn q (by omega) a3;obtain ⟨k,k1,k2,e2⟩:=h1.inn p a1 p1;rw [h2.out p (by omega),e,e2,h1.out l (by omega)];exact hx k l k1 k2 l1 l2
  ·exact s2 p q (by omega) a2 a3
def Runs (d:α) (lt:α→α→Prop) (s n:Nat) (xs:List α):Prop:=∀ a,s∣a→Srt d lt a (min (a+s) n) xs
def Runs2 (d:α) (lt:α→α→Prop) (s n a:Nat) (xs:List α):Prop:=(∀ k,2*s∣k→k<a→Srt d lt k (min (k+2*s) n) xs)∧(∀ k,s∣k→a≤k→Srt d lt k (min (k+s) n) xs)
theorem Runs2.start {s n:Nat} (h:Runs d lt s n xs):Runs2 d lt s n 0 xs:=⟨fun k _ hk=>absurd hk (by omega),fun k hk _=>h k hk⟩
theorem Runs2.step {s n a b:Nat} (h0:0<s) (ha:2*s∣a) (h:Runs2 d lt s n a xs) (hb:b=min (a+2*s) n) (hp:PW d a b xs ys) (hs:Srt d lt a b ys):Runs2 d lt s n (a+2*s) ys:=by
 refine ⟨fun k hk hl=>?_,fun k hk hl=>?_⟩
 ·rcases Nat.lt_or_ge k a with h1 | h1
  ·obtain ⟨x,hx⟩:=ha;obtain ⟨y,hy⟩:=hk
   have hxy:y+1≤x:=by
    rcases Nat.lt_or_ge y x with h2 | h2
    ·exact h2
    ·have:=Nat.mul_le_mul_left (2*s) h2;omega
   have h3:=Nat.mul_le_mul_left (2*s) hxy;rw [Nat.mul_add,Nat.mul_one] at h3;exact (h.1 k ⟨y,hy⟩ h1).off hp (by omega)
  ·have hd:2*s∣k-a:=Nat.dvd_sub hk ha;have:=Nat.eq_zero_of_dvd_of_lt hd (by omega);obtain rfl:k=a:=by omega
   rw [←hb];exact hs
 ·exact (h.2 k hk (by omega)).off hp (by omega)
theorem Runs2.end_ {s n a:Nat} (_:0<s) (_:2*s∣a) (h:Runs2 d lt s n a xs) (hn:n≤a):Runs d lt (2*s) n xs:=fun k hk=>by
 rcases Nat.lt_or_ge k a with h1 | h1
 ·exact h.1 k hk h1
 ·intro i j h2 h3 h4;omega
theorem Runs2.last {s n a:Nat} (h0:0<s) (ha:2*s∣a) (h:Runs2 d lt s n a xs) (hn:n≤a+s):Runs2 d lt s n (a+2*s) xs:=
 h.step h0 ha rfl .rfl_ (fun i j h1 h2 h3=>h.2 a (Nat.dvd_trans (Nat.dvd_mul_left ..) ha) (Nat.le_refl _) i j h1 h2 (by omega))
theorem Runs.all {s n:Nat} (h:Runs d lt s n xs) (hn:n≤s):Srt d lt 0 n xs:=by
 have:=h 0 (Nat.dvd_zero _)
 rwa [show min (0+s) n=n by omega] at this
def Blks (d:α) (lt:α→α→Prop) (s n a:Nat) (xs:List α):Prop:=∀ k,s∣k→k<a→Srt d lt k (min (k+s) n) xs
theorem Blks.step {s n a b:Nat} (_:0<s) (ha:s∣a) (h:Blks d lt s n a xs) (hb:b=min (a+s) n) (hp:PW d a b xs ys) (hs:Srt d lt a b ys):Blks d lt s n (a+s) ys:=fun k hk hl=>by
 rcases Nat.lt_or_ge k a with h1 | h1
 ·obtain ⟨x,hx⟩:=ha;obtain ⟨y,hy⟩:=hk
  have hxy:y+1≤x:=by
   rcases Nat.lt_or_ge y x with h2 | h2
   ·exact h2
   ·have:=Nat.mul_le_mul_left s h2;omega
  have h3:=Nat.mul_le_mul_left s hxy;rw [Nat.mul_add,Nat.mul_one] at h3;exact (h k ⟨y,hy⟩ h1).off hp (by omega)
 ·have hd:s∣k-a:=Nat.dvd_sub hk ha;have:=Nat.eq_zero_of_dvd_of_lt hd (by omega);obtain rfl:k=a:=by omega
  rw [←hb];exact hs
theorem Blks.end_ {s n a:Nat} (h:Blks d lt s n a xs) (hn:n≤a):Runs d lt s n xs:=fun k hk=>by
 rcases Nat.lt_or_ge k a with h1 | h1
 ·exact h k hk h1
 ·intro i j h2 h3 h4;omega
end
end SM
end Go.Proofs.YtcbakncjacnnjaaGreat
namespace Go.Proofs.YtcbakncjacnnjaaGreat
open Go.Proofs.Tryz (prog)
open Go.RowKit
def aY:List (Nat×Value)→Nat→Value
 |[],_=>undef
 |(k,v)::r,i=>bif Nat.beq i k then v else aY r i
theorem cg (k:Nat) (v:Value) (r:List (Nat×Value)) (i:Nat):aY ((k,v)::r) i=if i=k then v else aY r i:=by
 show cond (Nat.beq i k) v (aY r i)=_;by_cases h:i=k
 ·subst h;simp
 ·have:Nat.beq i k=false:=by rw [←Bool.not_eq_true,Nat.beq_eq];exact h
  rw [this,if_neg h];rfl
def mkT (n:Nat) (L:List (Nat×Value)):Array Value:=Array.ofFn (n:=n) fun i=>aY L i
structure Fr where
 n:Nat
 ds:List Deferred
instance (k:Nat):OfNat Fr k:=⟨⟨k,[]⟩⟩
def mkA (n:Fr) (L:List (Nat×Value)):Act:={ tmps:=mkT n.n L,defers:=n.ds }
theorem kY (n:Nat) (L:List (Nat×Value)) (t:Nat):(mkT n L)[t]? =if t<n then some (aY L t) else none:=by
 unfold mkT;rw [Array.getElem?_ofFn];rfl
def ev (n:Fr) (L:List (Nat×Value)):Operand→Value
 | .tmp t=>bif Nat.blt t n.n then aY L t else undef
 | .const v=>v
 | .global g=>.pointer (some ⟨g,0,none⟩)
 | .func f=>.func (.func f) #[] #[]
theorem uw (t n:Nat):Nat.blt t n=decide (t<n):=by
 by_cases h:t<n
 ·rw [decide_eq_true h];exact Nat.ble_eq_true_of_le h
 ·rw [decide_eq_false h,←Bool.not_eq_true];intro h2;exact h (Nat.le_of_ble_eq_true h2)
theorem hZ (n:Nat) (L:List (Nat×Value)) (t:Nat):(mkT n L).getD t undef=bif Nat.blt t n then aY L t else undef:=by
 rw [Array.getD_eq_getD_getElem?,kY,uw];by_cases h:t<n
 ·simp [h]
 ·simp [h]
theorem bU (n:Fr) (L:List (Nat×Value)):(mkA n L).eval=ev n L:=by
 funext x
 cases x with
 |tmp t=>exact hZ n.n L t
 |_=>rfl
theorem te {n:Nat} {L L':List (Nat×Value)} (h:∀ t,t<n→aY L t=aY L' t):mkT n L=mkT n L':=by
 unfold mkT
 congr 1
 funext i
 exact h i i.2
theorem gK {n:Fr} {L L':List (Nat×Value)} (h:∀ t,t<n.n→aY L t=aY L' t):mkA n L=mkA n L':=by
 unfold mkA;rw [te h]
theorem dY (n:Fr) (L:List (Nat×Value)) (d:Nat) (v:Value):(mkA n L).put (some d) v=mkA n ((d,v)::L):=by
 show (⟨(mkT n.n L).setIfInBounds d v,n.ds⟩:Act)=⟨mkT n.n ((d,v)::L),n.ds⟩;obtain ⟨n,ds⟩:=n;show (⟨(mkT n L).setIfInBounds d v,ds⟩:Act)=⟨mkT n ((d,v)::L),ds⟩
 congr 1
 apply Array.ext_getElem?;intro i;rw [Array.getElem?_setIfInBounds,kY,kY,cg];by_cases h:i<n
 ·by_cases hd:d=i
  ·subst hd;have hs:(mkT n L).size=n:=by simp [mkT]
   simp [h,hs]
  ·have hd':¬ i=d:=fun e=>hd e.symm
   simp [hd,hd',h]
 ·by_cases hd:d=i
  ·subst hd;have hs:(mkT n L).size=n:=by simp [mkT]
   simp [h,hs]
  ·simp [hd,h]
def KA:Option Nat→Value→List (Nat×Value)→List (Nat×Value)
 |some d,v,L=>(d,v)::L
 |none,_,L=>L
def rY:Nat→List Value→List (Nat×Value)
 |_,[]=>[]
 |i,v::r=>(i,v)::rY (i+1) r
theorem xT (l:List Value):∀ (i t:Nat),aY (rY i l) t=if i≤t then (l[t-i]?).getD undef else undef:=by
 induction l with
 |nil=>intro i t;simp [rY,aY]
 |cons v r ih=>
  intro i t;rw [rY,cg,ih];by_cases h:t=i
  ·subst h;simp
  ·by_cases h2:i≤t
   ·have:t-i=(t-(i+1))+1:=by omega
    rw [if_neg h,if_pos h2,if_pos (by omega),this,List.getElem?_cons_succ]
   ·rw [if_neg h,if_neg h2,if_neg (by omega)]
theorem wQ (n:Nat) (l:List Value) (h:l.length≤n):l.toArray++Array.replicate (n-l.toArray.size) undef=mkT n (rY 0 l):=by
 apply Array.ext_getElem?;intro i;rw [kY,xT,Array.getElem?_append];simp only [List.size_toArray,List.getElem?_toArray,Nat.zero_le,if_true,Nat.sub_zero,Array.getElem?_replicate];by_cases h1:i<l.length
 ·rw [if_pos h1,if_pos (by omega),List.getElem?_eq_getElem h1];rfl
 ·rw [if_neg h1];by_cases h2:i<n
  ·rw [if_pos h2,if_pos (by omega),List.getElem?_eq_none (by omega)];rfl
  ·rw [if_neg h2,if_neg (by omega)]
theorem aK {k:IntKind} {a b:Int} (h:a=b):Value.int k a=Value.int k b:=by rw [h]
theorem fm {b:Bool} (h:(!b)=true):b=false:=by cases b <;> simp_all
theorem fo {b:Bool} (h:(!b)=false):b=true:=by cases b <;> simp_all
theorem fX {α:Type} [BEq α] [LawfulBEq α] {a b:α} (h:(a==b)=true):a=b:=eq_of_beq h
theorem fY {α:Type} [BEq α] [LawfulBEq α] {a b:α} (h:(a==b)=false):¬ a=b:=ne_of_beq_false h
theorem eH {α:Type} [BEq α] [LawfulBEq α] {a b:α} (h:(a != b)=true):¬ a=b:=by simpa using h
theorem eI {α:Type} [BEq α] [LawfulBEq α] {a b:α} (h:(a != b)=false):a=b:=by simpa using h
structure Cd (P:Program) (c:Code) (Q:Exit→Act→World→Prop) (n:Fr) (L:List (Nat×Value)) (w:World):Prop where
 out:c.wp P Q (mkA n L) w
structure St (P:Program) (ops:Array Oper) (Q:Exit→Act→World→Prop) (rest:List Oper) (n:Fr) (L:List (Nat×Value)) (w:World):Prop where
 out:wpList P ops Q rest (mkA n L) w
def Rt (P:Program) (f:FuncId) (l:List Value) (w:World) (R:Value→World→Prop):Prop:=Calls P f l.toArray w fun e w'=>∃ v,e=.returned v∧R v w'
theorem Rt.mono {P:Program} {f:FuncId} {l:List Value} {w:World} {R R':Value→World→Prop} (h:Rt P f l w R) (hr:∀ v w',R v w'→R' v w'):Rt P f l w R':=
 Calls.mono h fun _ _ ⟨v,e,r⟩=>⟨v,e,hr v _ r⟩
theorem Rt.of {P:Program} {f:FuncId} {l:List Value} {w:World} {v:Value} {R:World→Prop} (h:Calls P f l.toArray w fun e w'=>e=.returned v∧R w'):Rt P f l w fun v' w'=>v'=v∧R w':=
 Calls.mono h fun _ _ ⟨e,r⟩=>⟨v,e,rfl,r⟩
theorem Rt.to {P:Program} {f:FuncId} {l:List Value} {w:World} {v:Value} {R:World→Prop} (h:Rt P f l w fun v' w'=>v'=v∧R w'):Calls P f l.toArray w fun e w'=>e=.returned v∧R w':=
 Calls.mono h fun _ _ ⟨_,e,e2,r⟩=>⟨by rw [e,e2],r⟩
section control
variable {P:Program} {Q:Exit→Act→World→Prop} {n:Fr} {L:List (Nat×Value)} {w:World}
theorem enter {f:FuncId} {fn:Func} {c:Code} {l:List Value} {R:Value→World→Prop} {n:Nat} (hf:P.funcs[f]? =some fn) (hb:fn.body=some c) (hn:fn.ntmps=n) (hl:Nat.ble l.length n=true)
 (h:Cd P c (bodyPost P fn fun e w'=>∃ v,e=.returned v∧R v w') ⟨n,[]⟩ (rY 0 l) w):Rt P f l w R:=by
 refine calls_of_wp hf hb ?_;rw [hn,wQ n l (Nat.le_of_ble_eq_true hl)];exact h.out
theorem av (h:Q .normal (mkA n L) w):Cd P .skip Q n L w:=⟨wp_skip h⟩
theorem af {x y:Code} (h:Cd P x (Exit.then (fun a w=>y.wp P Q a w) Q) n L w):Cd P (.seq x y) Q n L w:=⟨wp_seq h.out⟩
theorem aw {id:Nat} {c:Code} (h:Cd P c (Exit.inBlock id Q) n L w):Cd P (.block id c) Q n L w:=⟨wp_block h.out⟩
theorem bc {id:Nat} (h:Q (.exit id) (mkA n L) w):Cd P (.exit id) Q n L w:=⟨wp_exit h⟩
theorem ay (h:Q .ret (mkA n L) w):Cd P .ret Q n L w:=⟨wp_ret h⟩
theorem au {c:Operand} {x y:Code} {t:Bool} (hc:ev n L c=.bool t) (ht:t=true→Cd P x Q n L w) (hf:t=false→Cd P y Q n L w):Cd P (.cond c x y) Q n L w:=
 ⟨wp_cond_split (by rw [bU];exact hc) (fun h=>(ht h).out) (fun h=>(hf h).out)⟩
theorem JV {c:Operand} {x y:Code} {p:Prop} [Decidable p] (hc:ev n L c=.bool (decide p)) (ht:p→Cd P x Q n L w) (hf:¬ p→Cd P y Q n L w):Cd P (.cond c x y) Q n L w:=au hc (fun h=>ht (of_decide_eq_true h)) (fun h=>hf (of_decide_eq_false h))
theorem JU {c:Operand} {x y:Code} {α:Type} [BEq α] [LawfulBEq α] {a b:α} (hc:ev n L c=.bool (a==b)) (ht:a=b→Cd P x Q n L w) (hf:¬ a=b→Cd P y Q n L w):Cd P (.cond c x y) Q n L w:=au hc (fun h=>ht (fX h)) (fun h=>hf (fY h))
theorem JR {c:Operand} {x y:Code} {α:Type} [BEq α] [LawfulBEq α] {a b:α} (hc:ev n L c=.bool (a != b)) (ht:¬ a=b→Cd P x Q n L w) (hf:a=b→Cd P y Q n L w):Cd P (.cond c x y) Q n L w:=au hc (fun h=>ht (eH h)) (fun h=>hf (eI h))
theorem JT {c:Operand} {x y:Code} {b:Bool} (hc:ev n L c=.bool (!b)) (ht:b=false→Cd P x Q n L w) (hf:b=true→Cd P y Q n L w):Cd P (.cond c x y) Q n L w:=au hc (fun h=>ht (fm h)) (fun h=>hf (fo h))
theorem cW {c:Operand} {x y:Code} (hc:ev n L c=.bool true) (ht:Cd P x Q n L w):Cd P (.cond c x y) Q n L w:=
 ⟨wp_cond_true (by rw [bU];exact hc) ht.out⟩
theorem de {c:Operand} {x y:Code} (hc:ev n L c=.bool false) (ht:Cd P y Q n L w):Cd P (.cond c x y) Q n L w:=
 ⟨wp_cond_false (by rw [bU];exact hc) ht.out⟩
theorem aa {id:Nat} {l:List Oper} (h:St P l.toArray Q l n L w):Cd P (.region id l.toArray false) Q n L w:=⟨wp_region_lit h.out⟩
theorem ah {ops:Array Oper} (h:Q .normal (mkA n L) w):St P ops Q [] n L w:=⟨h⟩
variable {y:Code} {K:Act→World→Prop} {a:Act}
theorem ab (h:Cd P y Q n L w):Exit.then (fun a w=>y.wp P Q a w) Q .normal (mkA n L) w:=h.out
theorem aI {id:Nat} (h:Q .normal a w):Exit.inBlock id Q .normal a w:=h
theorem aC {id:Nat} (h:Q (.exit id) a w):Exit.then K Q (.exit id) a w:=h
theorem aS {id:Nat} (h:Q .normal a w):Exit.inBlock id Q (.exit id) a w:=by
 show (if id=id then Q .normal a w else Q (.exit id) a w);rw [if_pos rfl];exact h
theorem aD (h:Q .ret a w):Exit.then K Q .ret a w:=h
theorem bj {id:Nat} (h:Q .ret a w):Exit.inBlock id Q .ret a w:=h
theorem bE {fn:Func} {m:Nat} {t:Nat} {R:Value→World→Prop} {v:Value} (hr:fn.results=#[.tmp t]) (hv:ev ⟨m,[]⟩ L (.tmp t)=v) (h:R v w) :
 bodyPost P fn (fun e w'=>∃ v,e=.returned v∧R v w') .ret (mkA ⟨m,[]⟩ L) w:=
 bodyPost_ret (results_tmp hr _ _ _) rfl ⟨v,by rw [←hv];exact congrArg Ending.returned (hZ m L t),h⟩
theorem cV {fn:Func} {m:Nat} {t u:Nat} {R:Value→World→Prop} {v v':Value} (hr:fn.results=#[.tmp t,.tmp u]) (hv:ev ⟨m,[]⟩ L (.tmp t)=v) (hv':ev ⟨m,[]⟩ L (.tmp u)=v') (h:R (.tuple #[v,v']) w) :
 bodyPost P fn (fun e w'=>∃ v,e=.returned v∧R v w') .ret (mkA ⟨m,[]⟩ L) w:=
 bodyPost_ret (results_tmp2 hr _ _ _) rfl ⟨.tuple #[v,v'],by rw [←hv,←hv'];show Ending.returned (.tuple #[(mkT m L).getD t undef,(mkT m L).getD u undef])=_;rw [hZ,hZ];rfl,h⟩
theorem sI {fn:Func} {m:Nat} {t u s:Nat} {R:Value→World→Prop} {v v' v'':Value} (hr:fn.results=#[.tmp t,.tmp u,.tmp s]) (hv:ev ⟨m,[]⟩ L (.tmp t)=v) (hv':ev ⟨m,[]⟩ L (.tmp u)=v') (hv'':ev ⟨m,[]⟩ L (.tmp s)=v'') (h:R (.tuple #[v,v',v'']) w) :
 bodyPost P fn (fun e w'=>∃ v,e=.returned v∧R v w') .ret (mkA ⟨m,[]⟩ L) w:=
 bodyPost_ret (results_tmp3 hr _ _ _) rfl ⟨.tuple #[v,v',v''],by rw [←hv,←hv',←hv''];show Ending.returned (.tuple #[(mkT m L).getD t undef,(mkT m L).getD u undef,(mkT m L).getD s undef])=_;rw [hZ,hZ,hZ];rfl,h⟩
theorem kh {fn:Func} {m:Nat} {R:Value→World→Prop} (hr:fn.results=#[]) (h:R (.tuple #[]) w) :
 bodyPost P fn (fun e w'=>∃ v,e=.returned v∧R v w') .ret (mkA ⟨m,[]⟩ L) w:=
 bodyPost_ret (results_none hr _ _ _) rfl ⟨_,rfl,h⟩
theorem gk {fn:Func} {R:Ending→World→Prop} (h:bodyPost P fn R .ret a w):bodyPost P fn R .normal a w:=h
end control
def Agr (Wr:List Nat) (L' L:List (Nat×Value)):Prop:=∀ t,Wr.elem t=false→aY L' t=aY L t
theorem aJ {Wr:List Nat} {L:List (Nat×Value)}:Agr Wr L L:=fun _ _=>rfl
theorem aB {Wr:List Nat} {L' L:List (Nat×Value)} {d:Nat} {v:Value} (hd:Wr.elem d=true) (h:Agr Wr L' L):Agr Wr ((d,v)::L') L:=fun t ht=>by
 rw [cg,if_neg (fun e=>by subst e;rw [hd] at ht;cases ht)];exact h t ht
def B6 (L':List (Nat×Value)):List (Nat×Value)→Prop
 |[]=>True
 |(t,v)::r=>aY L' t=v∧B6 L' r
def Iz (J:List Nat) (ρ:Nat→Value) (L:List (Nat×Value)):List (Nat×Value):=J.foldr (fun t r=>(t,ρ t)::r) L
theorem Bf (J:List Nat) (ρ:Nat→Value) (L:List (Nat×Value)) (t:Nat):aY (Iz J ρ L) t=if J.elem t then ρ t else aY L t:=by
 induction J with
 |nil=>rfl
 |cons j J ih=>
  show aY ((j,ρ j)::Iz J ρ L) t=_;rw [cg,ih];by_cases h:t=j
  ·subst h;simp
  ·have:(j::J).elem t=J.elem t:=by simp [h]
   rw [if_neg h,this]
theorem Dx (V L:List (Nat×Value)) (t:Nat):aY (V++L) t=if (V.map (·.1)).elem t then aY V t else aY L t:=by
 induction V with
 |nil=>rfl
 |cons x V ih=>
  obtain ⟨k,v⟩:=x;show aY ((k,v)::(V++L)) t=if ((k::V.map (·.1)).elem t) then aY ((k,v)::V) t else _
  rw [cg,cg,ih];by_cases h:t=k
  ·subst h;simp
  ·have:(k::V.map (·.1)).elem t=(V.map (·.1)).elem t:=by simp [h]
   rw [if_neg h,this,if_neg h]
theorem tq {L':List (Nat×Value)}:∀ {V:List (Nat×Value)},B6 L' V→∀ t,(V.map (·.1)).elem t=true→aY L' t=aY V t
 |[],_,t,h=>by simp at h
 |(k,v)::V,⟨h1,h2⟩,t,h=>by
  rw [cg];by_cases e:t=k
  ·subst e;rw [if_pos rfl];exact h1
  ·rw [if_neg e];exact tq h2 t (by simpa [List.elem_cons,e] using h)
def hd (V:List (Nat×Value)) (J:List Nat) (ρ:Nat→Value) (L:List (Nat×Value)):List (Nat×Value):=V++Iz J ρ L
theorem Hy {n:Fr} {V:List (Nat×Value)} {J:List Nat} {L' L:List (Nat×Value)} (hv:B6 L' V) (hj:Agr (V.map (·.1)++J) L' L):mkA n L'=mkA n (hd V J (aY L') L):=by
 refine gK fun t _=>?_
 unfold hd;rw [Dx,Bf];by_cases h1:(V.map (·.1)).elem t=true
 ·rw [if_pos h1];exact tq hv t h1
 ·rw [if_neg h1];by_cases h2:J.elem t=true
  ·rw [if_pos h2]
  ·rw [if_neg h2];refine hj t ?_;rw [Bool.not_eq_true] at h1 h2;simp only [List.elem_eq_mem,decide_eq_false_iff_not] at h1 h2 ⊢;simp only [List.mem_append,not_or];exact ⟨h1,h2⟩
def At (n:Fr) (L:List (Nat×Value)) (J:List Nat) {G:Type} (V:G→List (Nat×Value)) (F:G→World→Prop) (a:Act) (w:World):Prop:=∃ g ρ,a=mkA n (hd (V g) J ρ L)∧F g w
theorem J2 {n:Fr} {L L':List (Nat×Value)} {J:List Nat} {G:Type} {V:G→List (Nat×Value)} {F:G→World→Prop} {w:World} (g:G) (hv:B6 L' (V g)) (hj:Agr ((V g).map (·.1)++J) L' L) (hF:F g w) :
 At n L J V F (mkA n L') w:=⟨g,aY L',Hy hv hj,hF⟩
section
variable {P:Program} {Q:Exit→Act→World→Prop} {n:Fr} {L:List (Nat×Value)} {w:World} {G:Type}
theorem gz {x y:Code} (J:List Nat) (V:G→List (Nat×Value)) (F:G→World→Prop) (hx:Cd P x (Exit.then (At n L J V F) Q) n L w)
 (hy:∀ g ρ w',F g w'→Cd P y Q n (hd (V g) J ρ L) w'):Cd P (.seq x y) Q n L w:=by
 refine ⟨wp_seq (wp_mono hx.out fun e a w' q=>?_)⟩
 cases e <;> first
  |exact q
  |(obtain ⟨g,ρ,rfl,hF⟩:=q;exact (hy g ρ w' hF).out)
theorem aO {L0:List (Nat×Value)} {J:List Nat} {V:G→List (Nat×Value)} {F:G→World→Prop} (g:G) (hv:B6 L (V g)) (hj:Agr ((V g).map (·.1)++J) L L0) (hF:F g w):Exit.then (At n L0 J V F) Q .normal (mkA n L) w:=
 J2 g hv hj hF
theorem a_ {c:Code} (J:List Nat) (V:G→List (Nat×Value)) (F:G→World→Prop) (μ:G→Nat) (g0:G) (hv:B6 L (V g0)) (hF:F g0 w)
 (round:∀ g ρ w',F g w'→Cd P c (Exit.then (At n L J V (fun g' w''=>F g' w''∧μ g'<μ g)) Q) n (hd (V g) J ρ L) w'):Cd P (.loop c) Q n L w:=by
 refine ⟨wp_loop_ghost (fun m a w=>At n L J V (fun g w=>F g w∧μ g=m) a w) (μ g0) ⟨g0,aY L,Hy hv fun t _=>rfl,hF,rfl⟩ ?_⟩;rintro m a w ⟨g,ρ,rfl,hF,rfl⟩;refine wp_mono (round g ρ w hF).out fun e a' w' q=>?_
 cases e <;> first
  |exact q
  |(obtain ⟨g',ρ',rfl,hF',hlt⟩:=q;exact ⟨μ g',hlt,g',ρ',rfl,hF',rfl⟩)
end
end Go.Proofs.YtcbakncjacnnjaaGreat
namespace Go.Proofs.YtcbakncjacnnjaaGreat
open Go.Proofs.Tryz (prog)
open Go.RowKit
def RO (P:Program) (ρ:Operand→Value) (op:Op) (w:World) (v:Value) (w':World):Prop:=
 ∀ dst ty pos after g,(execOp ρ ⟨dst,op,ty,pos,after,g⟩).run P w=.ok (.value v) w'
def RS (P:Program) (ρ:Operand→Value) (op:Op) (w w':World):Prop:=
 ∀ dst ty pos after g,(execOp ρ ⟨dst,op,ty,pos,after,g⟩).run P w=.ok .skip w'
def fp (P:Program) (t:TypeId):Option Bool:=(P.underlying t).map fun | .struct _ | .array _ _=>true | _=>false
def dK (P:Program) (t:TypeId):Option Nat:=(P.info? t).map (·.size)
def cN (P:Program) (t:TypeId):Option (Nat×Nat):=match P.underlying t with | some (.slice e)=>(P.info? e).map fun i=>(e,i.size) | _=>none
def KC (P:Program) (t:TypeId):Option (Nat×Nat):=match P.underlying t with | some (.array n e)=>(P.info? e).map fun i=>(n,i.size) | _=>none
def cG (P:Program) (t:TypeId) (f:Nat):Option Nat:=match P.underlying t with
 |some (.struct fs)=>match fs[f]? with
  |some fl=>match P.info? fl.type with
   |some i=>if i.size=0 then none else some fl.offset
   |none=>none
  |none=>none
 |_=>none
def lN (P:Program) (t:TypeId):Option Value:=(P.info? t).bind (·.zero)
section
variable {P:Program} {ρ:Operand→Value} {w:World}
theorem kJ {t:TypeId} {b:Bool} (h:fp P t=some b):(isAgg t).run P w=.ok b w:=by
 unfold fp at h;cases hu:P.underlying t with
 |none=>simp [hu] at h
 |some d=>
  rw [hu] at h;simp only [Option.map_some,Option.some.injEq] at h;subst h;unfold isAgg;rw [Sem.run_bind,run_underlying hu w];cases d <;> rfl
theorem dG {t:TypeId} {s:Nat} (h:dK P t=some s):(sizeOf t).run P w=.ok s w:=by
 unfold dK at h;cases hi:P.info? t with
 |none=>simp [hi] at h
 |some i=>
  simp only [hi,Option.map_some,Option.some.injEq] at h;simp [sizeOf,typeInfo,hi,h]
theorem EY {t:TypeId} {z:Value} (h:lN P t=some z):(zeroValue t).run P w=.ok z w:=by
 unfold lN at h;cases hi:P.info? t with
 |none=>simp [hi] at h
 |some i=>
  simp only [hi,Option.bind_some] at h;simp [zeroValue,typeInfo,hi,h]
theorem jj {t e s:Nat} (h:cN P t=some (e,s)):P.underlying t=some (.slice e)∧dK P e=some s:=by
 unfold cN at h;split at h
 ·rename_i e' hu;cases hi:P.info? e' with
  |none=>simp [hi] at h
  |some i=>
   simp only [hi,Option.map_some,Option.some.injEq,Prod.mk.injEq] at h;obtain ⟨rfl,rfl⟩:=h;exact ⟨hu,by simp [dK,hi]⟩
 ·cases h
theorem aq {x:Operand} {v:Value} (hx:ρ x=v):RO P ρ (.move x) w v w:=fun _ _ _ _ _=>by subst hx;rfl
theorem bY {x:Operand} {v:Value} (hx:ρ x=v):RO P ρ (.assign x) w v w:=fun _ _ _ _ _=>by subst hx;rfl
theorem bB {c x y:Operand} {v:Value} (hc:ρ c=.bool true) (hv:ρ x=v):RO P ρ (.pick c x y) w v w:=fun _ _ _ _ _=>by subst hv;simp [execOp,hc,asBool]
theorem bk {c x y:Operand} {v:Value} (hc:ρ c=.bool false) (hv:ρ y=v):RO P ρ (.pick c x y) w v w:=fun _ _ _ _ _=>by subst hv;simp [execOp,hc,asBool]
variable {t yt:TypeId} {x y:Operand} {k:IntKind} {a b:Int}
theorem kg {op:BinOp} {u v r:Value} (hx:ρ x=u) (hy:ρ y=v) (hg:(eqGuard op t x y u v).run P w=.ok () w) (hr:(binOp op t u v).run P w=.ok r w):RO P ρ (.binOp op t x y yt) w r w:=fun _ _ _ _ _=>by
 subst hx;subst hy;simp [execOp,hg,hr]
theorem By (op:BinOp):(eqGuard op t x y (.int k a) (.int k b)).run P w=.ok () w:=by unfold eqGuard;split <;> rfl
theorem iA {op:BinOp} {r:Value} (hx:ρ x=.int k a) (hy:ρ y=.int k b) (hr:(binOp op t (.int k a) (.int k b)).run P w=.ok r w):RO P ρ (.binOp op t x y yt) w r w:=
 kg hx hy (By op) hr
theorem xM (hx:ρ x=.int k a) (hy:ρ y=.int k b):RO P ρ (.binOp .add t x y yt) w (.int k (k.wrap (a+b))) w:=iA hx hy (by simp [binOp,Op.intArith])
theorem xG (hx:ρ x=.int k a) (hy:ρ y=.int k b):RO P ρ (.binOp .sub t x y yt) w (.int k (k.wrap (a-b))) w:=iA hx hy (by simp [binOp,Op.intArith])
theorem Ia (hx:ρ x=.int k a) (hy:ρ y=.int k b):RO P ρ (.binOp .mul t x y yt) w (.int k (k.wrap (a*b))) w:=iA hx hy (by simp [binOp,Op.intArith])
theorem fE (hx:ρ x=.int .i64 a) (hy:ρ y=.int .i64 b) (h:-9223372036854775808≤a+b∧a+b≤9223372036854775807):RO P ρ (.binOp .add t x y yt) w (.int .i64 (a+b)) w:=by
 have:=xM (P:=P) (ρ:=ρ) (w:=w) (t:=t) (yt:=yt) hx hy;rwa [IntWalk.i64_in _ h] at this
theorem fi (hx:ρ x=.int .i64 a) (hy:ρ y=.int .i64 b) (h:-9223372036854775808≤a-b∧a-b≤9223372036854775807):RO P ρ (.binOp .sub t x y yt) w (.int .i64 (a-b)) w:=by
 have:=xG (P:=P) (ρ:=ρ) (w:=w) (t:=t) (yt:=yt) hx hy;rwa [IntWalk.i64_in _ h] at this
theorem CU (hx:ρ x=.int .i64 a) (hy:ρ y=.int .i64 b) (h:-9223372036854775808≤a*b∧a*b≤9223372036854775807):RO P ρ (.binOp .mul t x y yt) w (.int .i64 (a*b)) w:=by
 have:=Ia (P:=P) (ρ:=ρ) (w:=w) (t:=t) (yt:=yt) hx hy;rwa [IntWalk.i64_in _ h] at this
theorem AR {r:Int} (hx:ρ x=.int .i64 a) (hy:ρ y=.int .i64 b) (he:a+b=r) (h:-9223372036854775808≤r∧r≤9223372036854775807):RO P ρ (.binOp .add t x y yt) w (.int .i64 r) w:=by
 subst he;exact fE hx hy h
theorem AN {r:Int} (hx:ρ x=.int .i64 a) (hy:ρ y=.int .i64 b) (he:a-b=r) (h:-9223372036854775808≤r∧r≤9223372036854775807):RO P ρ (.binOp .sub t x y yt) w (.int .i64 r) w:=by
 subst he;exact fi hx hy h
theorem AO {r:Int} (hx:ρ x=.int .i64 a) (hy:ρ y=.int .i64 b) (he:a*b=r) (h:-9223372036854775808≤r∧r≤9223372036854775807):RO P ρ (.binOp .mul t x y yt) w (.int .i64 r) w:=by
 subst he;exact CU hx hy h
theorem H8 (hx:ρ x=.int k a) (hy:ρ y=.int k b) (hb:b≠0):RO P ρ (.binOp .quo t x y yt) w (.int k (k.wrap (a.tdiv b))) w:=iA hx hy (by simp [binOp,Op.intDiv,hb])
theorem H7 (hx:ρ x=.int k a) (hy:ρ y=.int k b) (hb:b≠0):RO P ρ (.binOp .rem t x y yt) w (.int k (a.tmod b)) w:=iA hx hy (by simp [binOp,Op.intDiv,hb])
theorem CT (hx:ρ x=.int .i64 a) (hy:ρ y=.int .i64 b) (h:0≤a∧a≤9223372036854775807∧0<b):RO P ρ (.binOp .quo t x y yt) w (.int .i64 (a/b)) w:=by
 have:=H8 (P:=P) (ρ:=ρ) (w:=w) (t:=t) (yt:=yt) hx hy (by omega);have h2:a/b≤a:=Int.ediv_le_self b h.1;have h3:0≤a/b:=Int.ediv_nonneg h.1 (by omega)
 rwa [Int.tdiv_eq_ediv_of_nonneg h.1,IntWalk.i64_in _ (by omega)] at this
theorem CS (hx:ρ x=.int .i64 a) (hy:ρ y=.int .i64 b) (h:0≤a∧0<b):RO P ρ (.binOp .rem t x y yt) w (.int .i64 (a%b)) w:=by
 have:=H7 (P:=P) (ρ:=ρ) (w:=w) (t:=t) (yt:=yt) hx hy (by omega)
 rwa [Int.tmod_eq_emod_of_nonneg h.1] at this
theorem CY (hx:ρ x=.int k a) (hy:ρ y=.int k b):RO P ρ (.binOp .and t x y yt) w (.int k (bits .and k a b)) w:=iA hx hy (by simp [binOp,intBits_and])
theorem Hi (hx:ρ x=.int k a) (hy:ρ y=.int k b):RO P ρ (.binOp .or t x y yt) w (.int k (bits .or k a b)) w:=iA hx hy (by simp [binOp,intBits_or])
theorem CR {k':IntKind} (hx:ρ x=.int k a) (hy:ρ y=.int k' b) (h:0≤b):RO P ρ (.binOp .shl t x y yt) w (.int k (k.wrap (a*2 ^ (min b.toNat k.bits)))) w:=
 kg hx hy (by unfold eqGuard;rfl) (by
  have:¬ b<0:=by omega
  simp [binOp,Op.shift,this])
theorem H6 {k':IntKind} (hx:ρ x=.int k a) (hy:ρ y=.int k' b) (h:0≤b):RO P ρ (.binOp .shr t x y yt) w (.int k (a.fdiv (2 ^ (min b.toNat k.bits)))) w:=
 kg hx hy (by unfold eqGuard;rfl) (by
  have:¬ b<0:=by omega
  simp [binOp,Op.shift,this])
theorem cx (hx:ρ x=.int k a) (hy:ρ y=.int k b):RO P ρ (.binOp .eql t x y yt) w (.bool (a==b)) w:=iA hx hy (by simp [binOp,Op.intCmp])
theorem cD (hx:ρ x=.int k a) (hy:ρ y=.int k b):RO P ρ (.binOp .neq t x y yt) w (.bool (a != b)) w:=iA hx hy (by simp [binOp,Op.intCmp])
theorem aW (hx:ρ x=.int k a) (hy:ρ y=.int k b):RO P ρ (.binOp .lss t x y yt) w (.bool (decide (a<b))) w:=iA hx hy (by simp [binOp,Op.intCmp])
theorem qU (hx:ρ x=.int k a) (hy:ρ y=.int k b):RO P ρ (.binOp .leq t x y yt) w (.bool (decide (a≤b))) w:=iA hx hy (by simp [binOp,Op.intCmp])
theorem cL (hx:ρ x=.int k a) (hy:ρ y=.int k b):RO P ρ (.binOp .gtr t x y yt) w (.bool (decide (a>b))) w:=iA hx hy (by simp [binOp,Op.intCmp])
theorem eA (hx:ρ x=.int k a) (hy:ρ y=.int k b):RO P ρ (.binOp .geq t x y yt) w (.bool (decide (a≥b))) w:=iA hx hy (by simp [binOp,Op.intCmp])
variable {p q:Bool} {s s':ByteArray}
theorem qm (hx:ρ x=.string s) (hy:ρ y=.string s'):RO P ρ (.binOp .eql t x y yt) w (.bool (s.toList==s'.toList)) w:=
 kg hx hy (by unfold eqGuard;rfl) (by simp [binOp,Op.stringOp])
theorem zp (hx:ρ x=.string s) (hy:ρ y=.string s'):RO P ρ (.binOp .neq t x y yt) w (.bool (!(s.toList==s'.toList))) w:=
 kg hx hy (by unfold eqGuard;rfl) (by simp [binOp,Op.stringOp])
theorem oT {r:Option Addr} (ht:P.underlying t=some (.pointer (P.pointee t))) (hx:ρ x=.pointer r) (hy:ρ y=.pointer none):RO P ρ (.binOp .eql t x y yt) w (.bool r.isNone) w:=
 kg hx hy (by unfold eqGuard;cases r <;> rfl) (run_eql_pointer_nil w t r ht)
theorem eQ (hx:ρ x=.bool p):RO P ρ (.unOp .not t x) w (.bool (!p)) w:=fun _ _ _ _ _=>by simp [execOp,hx,Op.unary]
theorem FN {src dst:TypeId} {k':IntKind} (hs:(P.underlying src).isSome=true) (hd:P.underlying dst=some (.int k')) (hx:ρ x=.int k a):RO P ρ (.convert src dst x) w (.int k' (k'.wrap a)) w:=fun _ _ _ _ _=>by
 obtain ⟨d,hd'⟩:=Option.isSome_iff_exists.mp hs;simp [execOp,hx,convert,run_underlying hd',run_underlying hd,Conv.intToInt]
theorem lT {src dst:TypeId} {k':IntKind} {r:Int} (hs:(P.underlying src).isSome=true) (hd:P.underlying dst=some (.int k')) (hx:ρ x=.int k a) (hr:k'.wrap a=r):RO P ρ (.convert src dst x) w (.int k' r) w:=by
 subst hr;exact FN hs hd hx
theorem aG {a b:Nat} (hx:ρ x=.int .i64 (a:Nat)) (hy:ρ y=.int .i64 (b:Nat)) (h:a+b≤9223372036854775807):RO P ρ (.binOp .add t x y yt) w (.int .i64 ((a+b:Nat):Int)) w:=
 AR hx hy (by omega) (by omega)
theorem bP {a b:Nat} (hx:ρ x=.int .i64 (a:Nat)) (hy:ρ y=.int .i64 (b:Nat)) (h:b≤a∧a≤9223372036854775807):RO P ρ (.binOp .sub t x y yt) w (.int .i64 ((a-b:Nat):Int)) w:=
 AN hx hy (by omega) (by omega)
theorem nM {a b:Nat} (hx:ρ x=.int .i64 (a:Nat)) (hy:ρ y=.int .i64 (b:Nat)) (h:a*b≤9223372036854775807):RO P ρ (.binOp .mul t x y yt) w (.int .i64 ((a*b:Nat):Int)) w:=
 AO hx hy (by rw [Int.natCast_mul]) (by omega)
theorem kU {a b:Nat} (hx:ρ x=.int .i64 (a:Nat)) (hy:ρ y=.int .i64 (b:Nat)) (h:0<b∧a≤9223372036854775807):RO P ρ (.binOp .quo t x y yt) w (.int .i64 ((a/b:Nat):Int)) w:=by
 have:=CT (P:=P) (ρ:=ρ) (w:=w) (t:=t) (yt:=yt) hx hy (by omega)
 rwa [←Int.natCast_ediv] at this
theorem mv {a b:Nat} (hx:ρ x=.int .i64 (a:Nat)) (hy:ρ y=.int .i64 (b:Nat)) (h:0<b):RO P ρ (.binOp .rem t x y yt) w (.int .i64 ((a%b:Nat):Int)) w:=by
 have:=CS (P:=P) (ρ:=ρ) (w:=w) (t:=t) (yt:=yt) hx hy (by omega)
 rwa [←Int.natCast_emod] at this
theorem ep {a b:Nat} {k k':IntKind} (hx:ρ x=.int k (a:Nat)) (hy:ρ y=.int k' (b:Nat)) (h:b≤k.bits):RO P ρ (.binOp .shr t x y yt) w (.int k ((a/2 ^ b:Nat):Int)) w:=by
 have:=H6 (P:=P) (ρ:=ρ) (w:=w) (t:=t) (yt:=yt) hx hy (by omega);have e:min ((b:Nat):Int).toNat k.bits=b:=by rw [Int.toNat_natCast];omega
 rw [e] at this
 have e2:((a:Nat):Int).fdiv (2 ^ b)=((a/2 ^ b:Nat):Int):=by
  rw [Int.fdiv_eq_ediv_of_nonneg _ (Int.pow_nonneg (by decide)),Int.natCast_ediv]
  norm_cast
 rwa [e2] at this
theorem zo {a b:Nat} {k':IntKind} (hx:ρ x=.int .u64 (a:Nat)) (hy:ρ y=.int k' (b:Nat)) (h:b≤64):RO P ρ (.binOp .shl t x y yt) w (.int .u64 ((a*2 ^ b%2 ^ 64:Nat):Int)) w:=by
 have:=CR (P:=P) (ρ:=ρ) (w:=w) (t:=t) (yt:=yt) hx hy (by omega);have e:min ((b:Nat):Int).toNat IntKind.u64.bits=b:=by rw [Int.toNat_natCast];show min b 64=b;omega
 rw [e] at this
 have e2:IntKind.u64.wrap (((a:Nat):Int)*2 ^ b)=((a*2 ^ b%2 ^ 64:Nat):Int):=by
  have h:(a:Int)*2 ^ b=((a*2 ^ b:Nat):Int):=by norm_cast
  rw [h,IntKind.wrap_u64]
  generalize a*2 ^ b=c
  omega
 rwa [e2] at this
theorem wN {a b:Nat} (ha:a<2 ^ 64) (hb:b<2 ^ 64):bits .and .u64 (a:Int) (b:Int)=((a &&& b:Nat):Int)∧bits .or .u64 (a:Int) (b:Int)=((a ||| b:Nat):Int)∧bits .xor .u64 (a:Int) (b:Int)=((a ^^^ b:Nat):Int):=by
 have e1:(BitVec.ofInt 64 (a:Int)).toNat=a:=by rw [BitVec.ofInt_natCast,BitVec.toNat_ofNat];exact Nat.mod_eq_of_lt ha
 have e2:(BitVec.ofInt 64 (b:Int)).toNat=b:=by rw [BitVec.ofInt_natCast,BitVec.toNat_ofNat];exact Nat.mod_eq_of_lt hb
 refine ⟨?_,?_,?_⟩
 ·show IntKind.u64.wrap ((BitVec.ofInt 64 (a:Int) &&& BitVec.ofInt 64 (b:Int)).toNat:Int)=_;have h:a &&& b<2 ^ 64:=Nat.and_lt_two_pow _ hb;rw [BitVec.toNat_and,e1,e2,IntKind.wrap_u64];generalize a &&& b=c at*;omega
 ·show IntKind.u64.wrap ((BitVec.ofInt 64 (a:Int) ||| BitVec.ofInt 64 (b:Int)).toNat:Int)=_;have h:=Nat.or_lt_two_pow ha hb;rw [BitVec.toNat_or,e1,e2,IntKind.wrap_u64];generalize a ||| b=c at*;omega
 ·show IntKind.u64.wrap ((BitVec.ofInt 64 (a:Int) ^^^ BitVec.ofInt 64 (b:Int)).toNat:Int)=_;have h:=Nat.xor_lt_two_pow ha hb;rw [BitVec.toNat_xor,e1,e2,IntKind.wrap_u64];generalize a ^^^ b=c at*;omega
theorem kW {a b:Nat} (hx:ρ x=.int .u64 (a:Nat)) (hy:ρ y=.int .u64 (b:Nat)) (h:a<2 ^ 64∧b<2 ^ 64):RO P ρ (.binOp .and t x y yt) w (.int .u64 ((a &&& b:Nat):Int)) w:=by
 have:=CY (P:=P) (ρ:=ρ) (w:=w) (t:=t) (yt:=yt) hx hy;rwa [(wN h.1 h.2).1] at this
theorem H9 {a b:Nat} (hx:ρ x=.int .u64 (a:Nat)) (hy:ρ y=.int .u64 (b:Nat)) (h:a<2 ^ 64∧b<2 ^ 64):RO P ρ (.binOp .or t x y yt) w (.int .u64 ((a ||| b:Nat):Int)) w:=by
 have:=Hi (P:=P) (ρ:=ρ) (w:=w) (t:=t) (yt:=yt) hx hy;rwa [(wN h.1 h.2).2.1] at this
theorem fq {src dst:TypeId} {a:Nat} {k:IntKind} (hs:(P.underlying src).isSome=true) (hd:P.underlying dst=some (.int .u64)) (hx:ρ x=.int k (a:Nat)) (h:a<2 ^ 64):RO P ρ (.convert src dst x) w (.int .u64 (a:Nat)) w:=
 lT hs hd hx (IntWalk.u64_in _ (by omega))
theorem ef {src dst:TypeId} {a:Nat} {k:IntKind} (hs:(P.underlying src).isSome=true) (hd:P.underlying dst=some (.int .i64)) (hx:ρ x=.int k (a:Nat)) (h:a≤9223372036854775807):RO P ρ (.convert src dst x) w (.int .i64 (a:Nat)) w:=
 lT hs hd hx (IntWalk.i64_in _ (by omega))
theorem qW {src dst:TypeId} {a:Nat} {k:IntKind} (hs:(P.underlying src).isSome=true) (hd:P.underlying dst=some (.int .u8)) (hx:ρ x=.int k (a:Nat)):RO P ρ (.convert src dst x) w (.int .u8 ((a%256:Nat):Int)) w:=
 lT hs hd hx (by rw [IntKind.wrap_u8];omega)
variable {A:Option Addr} {ad:Addr} {n c:Nat}
theorem aQ (ht:(cN P t).isSome=true) (hx:ρ x=.slice A n c):RO P ρ (.call { callee:=.builtin .len,args:=#[x],argTypes:=#[t] }) w (.int .i64 n) w:=fun _ _ _ _ _=>by
 obtain ⟨⟨e,sz⟩,he⟩:=Option.isSome_iff_exists.mp ht;obtain ⟨hu,_⟩:=jj he;simp [BigFrame.execOp_builtin,BigFrame.builtin_len,Builtin.len_,run_underlying hu,hx,goInt]
theorem dR (ht:P.underlying t=some .string) (hx:ρ x=.string s):RO P ρ (.call { callee:=.builtin .len,args:=#[x],argTypes:=#[t] }) w (.int .i64 s.size) w:=fun _ _ _ _ _=>by
 simp [BigFrame.execOp_builtin,BigFrame.builtin_len,Builtin.len_,run_underlying ht,hx,goInt]
theorem ar (hx:ρ x=.pointer (some ad)):RO P ρ (.nilCheck x) w (.pointer (some ad)) w:=fun _ _ _ _ _=>by simp [execOp,hx]
theorem ak {f o b off:Nat} (hf:cG P t f=some o) (hx:ρ x=.pointer (some ⟨b,off,none⟩)):RO P ρ (.fieldAddr t x f) w (.pointer (some ⟨b,off+o,none⟩)) w:=fun _ _ _ _ _=>by
 unfold cG at hf;split at hf
 ·rename_i fs hu;split at hf
  ·rename_i fl hfl;split at hf
   ·rename_i i hi;split at hf
    ·cases hf
    ·rename_i hs;obtain rfl:=Option.some.inj hf;simp [execOp,hx,Instr.fieldAt,run_underlying hu,hfl,Instr.sureAddr,fieldPlace,sizeOf,typeInfo,hi,hs,Addr.add_mid]
   ·cases hf
  ·cases hf
 ·cases hf
theorem dC {e sz b off:Nat} {i:Int} {k:IntKind} (ht:cN P t=some (e,sz)) (hx:ρ x=.slice (some ⟨b,off,none⟩) n c) (hy:ρ y=.int k i) (h:0≤i∧i<n) :
 RO P ρ (.indexAddr t x y) w (.pointer (some ⟨b,off+i.toNat*sz,none⟩)) w:=fun _ _ _ _ _=>by
 obtain ⟨hu,hs⟩:=jj ht;simp [execOp,hx,hy,Instr.indexAt,asIntOf,run_underlying hu,h,dG hs,Addr.add_mid]
theorem aM {e sz b off i:Nat} {k:IntKind} (ht:cN P t=some (e,sz)) (hx:ρ x=.slice (some ⟨b,off,none⟩) n c) (hy:ρ y=.int k (i:Nat)) (h:i<n) :
 RO P ρ (.indexAddr t x y) w (.pointer (some ⟨b,off+i*sz,none⟩)) w:=dC ht hx hy ⟨by omega,by omega⟩
theorem aX {e b off i:Nat} {k:IntKind} (ht:cN P t=some (e,1)) (hx:ρ x=.slice (some ⟨b,off,none⟩) n c) (hy:ρ y=.int k (i:Nat)) (h:i<n) :
 RO P ρ (.indexAddr t x y) w (.pointer (some ⟨b,off+i,none⟩)) w:=by
 have:=aM (P:=P) (ρ:=ρ) (w:=w) ht hx hy h
 rwa [Nat.mul_one] at this
theorem aA {e b i:Nat} {k:IntKind} (ht:cN P t=some (e,1)) (hx:ρ x=.slice (some ⟨b,0,none⟩) n c) (hy:ρ y=.int k (i:Nat)) (h:i<n) :
 RO P ρ (.indexAddr t x y) w (.pointer (some ⟨b,i,none⟩)) w:=by
 have:=aX (P:=P) (ρ:=ρ) (w:=w) ht hx hy h
 rwa [Nat.zero_add] at this
theorem AP {i:Int} {k:IntKind} (ht:P.underlying t=some .string) (hx:ρ x=.string s) (hy:ρ y=.int k i) (h0:0≤i) {u:UInt8} (hu:s[i.toNat]? =some u) :
 RO P ρ (.index t x y) w (.int .u8 u.toNat) w:=fun _ _ _ _ _=>by
 simp [execOp,hx,hy,Instr.index,asIntOf,run_underlying ht,h0,hu]
theorem an {v:Value} (ht:fp P t=some false) (hx:ρ x=.pointer (some ad)) (hc:w.cell? ad=some v):RO P ρ (.load t x) w v w:=fun _ _ _ _ _=>by
 simp [execOp,hx,Instr.loadAt,Instr.sureAddr,loadVar,kJ ht,hc]
theorem bn {b off:Nat} {cs:List Value} (ht:fp P t=some true) (hs:dK P t=some cs.length) (hx:ρ x=.pointer (some ⟨b,off,none⟩)) (hc:w.rangeAt b off cs):RO P ρ (.load t x) w (.agg cs.toArray) w:=fun _ _ _ _ _=>by
 have hl:(loadCells ⟨b,off,none⟩ cs.length).run P w=.ok cs.toArray w:=
  run_loadCells_list (P:=P) w ⟨b,off,none⟩ cs (fun j v hv=>by rw [Addr.add_mid];exact hc j v hv)
 simp [execOp,hx,Instr.loadAt,Instr.sureAddr,loadVar,kJ ht,dG hs,hl]
theorem qP {v u:Value} (ht:dK P t=some 1) (hx:ρ x=.pointer (some ad)) (hy:ρ y=v) (h1:v.oneCell'=true) (hc:w.cell? ad=some u) (hf:w.frozen? ad=false):RS P ρ (.store t x y) w (w.setCell ad v):=fun _ _ _ _ _=>by
 have hcs:v.cells=#[v]:=by cases v <;> first | rfl | (simp [Value.oneCell'] at h1)
 have hst:=run_store P w ad v .plain h1;rw [hc] at hst;simp only [hf] at hst;have e0:ad.add 0=ad:=by unfold Addr.add;simp
 simp [execOp,hx,hy,Instr.storeAt,Instr.sureAddr,storeVar,dG ht,hcs,storeCells,e0,hst]
theorem oQ {b off:Nat} {cs:List Value} (hs:dK P t=some cs.length) (hx:ρ x=.pointer (some ⟨b,off,none⟩)) (hy:ρ y=.agg cs.toArray) (h1:∀ v∈cs,v.oneCell'=true) (hc:w.there b off cs.length) :
 RS P ρ (.store t x y) w (w.setCells b off cs):=fun _ _ _ _ _=>by
 have hr:=run_storeAt_mid (P:=P) w b off t cs.toArray (by simpa using hc) (by simpa [dK] using hs) (all_oneCell_toArray h1);simp [execOp,hx,hy,hr]
theorem CZ {z:Value} (hz:lN P t=some z):RO P ρ (.alloc t) w (.pointer (some ⟨w.heap.size,0,none⟩)) (w.alloc (.cells z.cells t)):=fun _ _ _ _ _=>by
 simp [execOp,Instr.alloc,EY hz,newVar,newRow]
theorem xH {v:Value} (hx:ρ x=v):RO P ρ (.box t x) w (.pointer (some ⟨w.heap.size,0,none⟩)) (w.alloc (.cells v.cells t)):=fun _ _ _ _ _=>by
 simp [execOp,Instr.box,hx,newVar,newRow]
theorem cM {l:List (Nat×Operand)} {cells:Array Value} (h:P.built t (l.map fun p=>(p.1,ρ p.2))=some cells):RO P ρ (.build t l.toArray) w (.agg cells) w:=fun _ _ _ _ _=>by
 have:=run_build (P:=P) w t ((l.map fun p=>(p.1,ρ p.2)).toArray) cells (by simpa using h);simp only [execOp,List.map_toArray,Sem.run_bind];rw [this];rfl
theorem sG {e m:Nat} {l:List (Nat×Operand)} {cells:Array Value} {ie:TypeInfo} {z:Value} (hu:P.underlying t=some (.slice e)) (hie:P.info? e=some ie) (hz:ie.zero=some z) (hsmall:¬ m*ie.size>2 ^ 24) (hpos:¬ m*ie.size=0)
 (hf:Instr.fill (fun i=>some (i*ie.size,ie.size)) ((Array.range (m*ie.size)).map (z.cells[·%z.cells.size]!)) (l.map fun p=>(p.1,ρ p.2))=some cells) :
 RO P ρ (.buildSlice t m l.toArray) w (.slice (some ⟨w.heap.size,0,none⟩) m m) (w.alloc (.cells cells e)):=fun _ _ _ _ _=>by
 have:=run_buildSlice (P:=P) w t e m ((l.map fun p=>(p.1,ρ p.2)).toArray) cells ie z hu hie hz hsmall hpos (by simpa using hf);simp only [execOp,List.map_toArray,Sem.run_bind];rw [this];rfl
theorem ax {i:Nat} {l:List Value} {v:Value} (hx:ρ x=.tuple l.toArray) (hv:l[i]? =some v):RO P ρ (.extract x i) w v w:=fun _ _ _ _ _=>by
 simp [execOp,hx,Instr.extract,hv]
theorem qS {e sz b off l h:Nat} (ht:cN P t=some (e,sz)) {lo hi:Option Operand} (hx:ρ x=.slice (some ⟨b,off,none⟩) n c)
 (hl:(lo=none∧l=0)∨∃ y k,lo=some y∧ρ y=.int k (l:Nat)) (hh:(hi=none∧h=n)∨∃ y k,hi=some y∧ρ y=.int k (h:Nat)) (h1:l≤h) (h2:h≤c) :
 RO P ρ (.slice t x lo hi none) w (.slice (some ⟨b,if c=l then off else off+l*sz,none⟩) (h-l) (c-l)) w:=fun _ _ _ _ _=>by
 obtain ⟨hu,hs⟩:=jj ht;have key:∀ A:Addr,A=⟨b,off,none⟩→(Option.some (if c=l then A else A.add (l*sz)))=some ⟨b,if c=l then off else off+l*sz,none⟩:=fun A hA=>by subst hA;split <;> simp [Addr.add_mid]
 have hE:P.elem t=e:=by simp [Program.elem,hu]
 have hu':P.underlying t=some (.slice (P.elem t)):=by rw [hE];exact hu
 have fin:(Result.ok (sliced (some ⟨b,off,none⟩) l h c sz) w:Result Value)=.ok (.slice (some ⟨b,if c=l then off else off+l*sz,none⟩) (h-l) (c-l)) w:=by
  simp only [sliced];split <;> simp [Addr.add_mid]
 rcases hl with ⟨rfl,rfl⟩ | ⟨y1,k1,rfl,hy1⟩ <;> rcases hh with ⟨rfl,rfl⟩ | ⟨y2,k2,rfl,hy2⟩
 ·simp only [execOp,hx,Option.map_none,Sem.run_bind];rw [run_sliceAt_slice w t _ _ _ _ hu',run_slice_all w t _ _ c hu',hE,dG hs,Result.andThen_ok,fin];rfl
 ·simp only [execOp,hx,hy2,Option.map_none,Option.map_some,Sem.run_bind];rw [run_sliceAt_slice w t _ _ _ _ hu',run_slice_h w t _ n c hu' k2 (h:Int) (by omega) (by omega),hE,dG hs,Result.andThen_ok,Int.toNat_natCast,fin];rfl
 ·simp only [execOp,hx,hy1,Option.map_none,Option.map_some,Sem.run_bind];rw [run_sliceAt_slice w t _ _ _ _ hu',run_slice_l w t _ _ c hu' k1 (l:Int) (by omega) (by omega),hE,dG hs,Result.andThen_ok,Int.toNat_natCast,fin];rfl
 ·simp only [execOp,hx,hy1,hy2,Option.map_none,Option.map_some,Sem.run_bind];rw [run_sliceAt_slice w t _ _ _ _ hu',run_slice_lh w t _ n c hu' k1 k2 (l:Int) (h:Int) (by omega) (by omega) (by omega),hE,dG hs,Result.andThen_ok,Int.toNat_natCast,Int.toNat_natCast,fin];rfl
end
section steps
variable {P:Program} {ops:Array Oper} {Q:Exit→Act→World→Prop} {rest:List Oper} {n:Fr} {L:List (Nat×Value)} {w w':World} {op:Op} {ty:TypeId} {pos:String} {after:Array Edge} {d:Nat}
theorem ae {v:Value} (hr:RO P (ev n L) op w v w') (k:St P ops Q rest n ((d,v)::L) w'):St P ops Q (⟨some d,op,ty,pos,after,none⟩::rest) n L w:=by
 refine ⟨wpList_plain rfl fun K hK=>?_⟩;unfold Oper.wp;rw [bU,hr];rw [Oper.upon_value,dY];exact hK _ _ k.out
theorem nI (hr:RS P (ev n L) op w w') (k:St P ops Q rest n L w'):St P ops Q (⟨none,op,ty,pos,after,none⟩::rest) n L w:=by
 refine ⟨wpList_plain rfl fun K hK=>?_⟩;unfold Oper.wp;rw [bU,hr];rw [Oper.upon_skip];exact hK _ _ k.out
def o9:List Oper→Nat→Option Nat
 |[],_=>none
 |o::_,0=>o.dst
 |_::r,j+1=>o9 r j
theorem o8:∀ (l:List Oper) (j:Nat),o9 l j=(l[j]?).bind (·.dst)
 |[],_=>by simp [o9]
 |o::_,0=>by simp [o9]
 |_::r,j+1=>by simpa [o9] using o8 r j
def lF (ops:Array Oper) (n:Fr) (L:List (Nat×Value)) (j:Nat):Value:=match o9 ops.toList j with | some t=>ev n L (.tmp t) | none=>undef
theorem gD {j:Nat} {b:Bool} (h:lF ops n L j=.bool b):yielded ops (mkT n.n L) j=some b:=by
 unfold lF at h;rw [o8,Array.getElem?_toList] at h;unfold yielded;cases hd:(ops[j]?).bind (·.dst) with
 |none=>rw [hd] at h;simp [undef] at h
 |some t=>
  rw [hd] at h;simp only [Option.bind_some,kY];simp only [ev,uw] at h;by_cases ht:t<n.n
  ·simp only [ht,decide_true,cond_true] at h;simp [ht,h]
  ·simp [ht,undef] at h
theorem mvi {x:Operand} {k:IntKind} {a:Int} (hx:ev n L x=.int k a) (h:St P ops Q rest n ((d,.int k a)::L) w):St P ops Q (⟨some d,.move x,ty,pos,after,none⟩::rest) n L w:=ae (aq hx) h
theorem mvs {x:Operand} {A:Option Addr} {m c:Nat} (hx:ev n L x=.slice A m c) (h:St P ops Q rest n ((d,.slice A m c)::L) w):St P ops Q (⟨some d,.move x,ty,pos,after,none⟩::rest) n L w:=ae (aq hx) h
theorem mvb {x:Operand} {b:Bool} (hx:ev n L x=.bool b) (h:St P ops Q rest n ((d,.bool b)::L) w):St P ops Q (⟨some d,.move x,ty,pos,after,none⟩::rest) n L w:=ae (aq hx) h
theorem mvp {x:Operand} {A:Option Addr} (hx:ev n L x=.pointer A) (h:St P ops Q rest n ((d,.pointer A)::L) w):St P ops Q (⟨some d,.move x,ty,pos,after,none⟩::rest) n L w:=ae (aq hx) h
theorem mvt {x:Operand} {l:Array Value} (hx:ev n L x=.tuple l) (h:St P ops Q rest n ((d,.tuple l)::L) w):St P ops Q (⟨some d,.move x,ty,pos,after,none⟩::rest) n L w:=ae (aq hx) h
theorem mvg {x:Operand} {s:ByteArray} (hx:ev n L x=.string s) (h:St P ops Q rest n ((d,.string s)::L) w):St P ops Q (⟨some d,.move x,ty,pos,after,none⟩::rest) n L w:=ae (aq hx) h
theorem asi {x:Operand} {k:IntKind} {a:Int} (hx:ev n L x=.int k a) (h:St P ops Q rest n ((d,.int k a)::L) w):St P ops Q (⟨some d,.assign x,ty,pos,after,none⟩::rest) n L w:=ae (bY hx) h
theorem ass {x:Operand} {A:Option Addr} {m c:Nat} (hx:ev n L x=.slice A m c) (h:St P ops Q rest n ((d,.slice A m c)::L) w):St P ops Q (⟨some d,.assign x,ty,pos,after,none⟩::rest) n L w:=ae (bY hx) h
theorem asb {x:Operand} {b:Bool} (hx:ev n L x=.bool b) (h:St P ops Q rest n ((d,.bool b)::L) w):St P ops Q (⟨some d,.assign x,ty,pos,after,none⟩::rest) n L w:=ae (bY hx) h
theorem asp {x:Operand} {A:Option Addr} (hx:ev n L x=.pointer A) (h:St P ops Q rest n ((d,.pointer A)::L) w):St P ops Q (⟨some d,.assign x,ty,pos,after,none⟩::rest) n L w:=ae (bY hx) h
theorem asg {x:Operand} {s:ByteArray} (hx:ev n L x=.string s) (h:St P ops Q rest n ((d,.string s)::L) w):St P ops Q (⟨some d,.assign x,ty,pos,after,none⟩::rest) n L w:=ae (bY hx) h
theorem aL {j:Nat} {b b':Bool} (hg:lF ops n L j=.bool b') (hb:(b'==b)=false) (k:St P ops Q rest n ((d,undef)::L) w):St P ops Q (⟨some d,op,ty,pos,after,some (j,b)⟩::rest) n L w:=by
 refine ⟨wpList_step fun K hK=>?_⟩
 have hw:Region.wanted ⟨some d,op,ty,pos,after,some (j,b)⟩ (yielded ops (mkA n L).tmps)=false:=by
  show (yielded ops (mkT n.n L) j==some b)=false;rw [gD hg];simpa using hb
 rw [if_neg (by rw [hw];simp),dY];exact hK _ _ k.out
theorem mO {j:Nat} (h:lF ops n L j=undef):yielded ops (mkT n.n L) j=none:=by
 unfold lF at h;rw [o8,Array.getElem?_toList] at h;unfold yielded;cases hd:(ops[j]?).bind (·.dst) with
 |none=>rfl
 |some t=>
  rw [hd] at h;simp only [Option.bind_some,kY];simp only [ev,uw] at h;by_cases ht:t<n.n
  ·simp only [ht,decide_true,cond_true] at h;rw [if_pos ht,h];rfl
  ·simp [ht]
theorem gW {j:Nat} {b:Bool} (hg:lF ops n L j=undef) (k:St P ops Q rest n ((d,undef)::L) w):St P ops Q (⟨some d,op,ty,pos,after,some (j,b)⟩::rest) n L w:=by
 refine ⟨wpList_step fun K hK=>?_⟩
 have hw:Region.wanted ⟨some d,op,ty,pos,after,some (j,b)⟩ (yielded ops (mkA n L).tmps)=false:=by
  show (yielded ops (mkT n.n L) j==some b)=false;rw [mO hg];rfl
 rw [if_neg (by rw [hw];simp),dY];exact hK _ _ k.out
theorem ao {dst:Option Tmp} {j:Nat} {b:Bool} (hg:lF ops n L j=.bool b) (k:St P ops Q (⟨dst,op,ty,pos,after,none⟩::rest) n L w):St P ops Q (⟨dst,op,ty,pos,after,some (j,b)⟩::rest) n L w:=by
 have hw:Region.wanted ⟨dst,op,ty,pos,after,some (j,b)⟩ (yielded ops (mkA n L).tmps)=true:=by
  show (yielded ops (mkT n.n L) j==some b)=true;rw [gD hg];simp
 have hk:=k.out;constructor;unfold wpList at hk ⊢;rw [if_pos hw];exact hk
theorem bR {t:Nat} {e:Bool} (h:aY L t=.bool e) (hT:e=true→St P ops Q rest n ((t,.bool true)::L) w) (hF:e=false→St P ops Q rest n ((t,.bool false)::L) w):St P ops Q rest n L w:=by
 have key:∀ v,aY L t=v→mkA n ((t,v)::L)=mkA n L:=fun v hv=>gK fun i _=>by
  rw [cg];split
  ·rename_i hi;subst hi;exact hv.symm
  ·rfl
 cases e with
 |true=>have:=(hT rfl).out;rw [key _ h] at this;exact ⟨this⟩
 |false=>have:=(hF rfl).out;rw [key _ h] at this;exact ⟨this⟩
theorem Jk {t:Nat} {p:Prop} [Decidable p] (hc:aY L t=.bool (decide p)) (ht:p→St P ops Q rest n ((t,.bool true)::L) w) (hf:¬ p→St P ops Q rest n ((t,.bool false)::L) w):St P ops Q rest n L w:=bR hc (fun h=>ht (of_decide_eq_true h)) (fun h=>hf (of_decide_eq_false h))
theorem Jj {t:Nat} {α:Type} [BEq α] [LawfulBEq α] {a b:α} (hc:aY L t=.bool (a==b)) (ht:a=b→St P ops Q rest n ((t,.bool true)::L) w) (hf:¬ a=b→St P ops Q rest n ((t,.bool false)::L) w):St P ops Q rest n L w:=bR hc (fun h=>ht (fX h)) (fun h=>hf (fY h))
theorem Jh {t:Nat} {α:Type} [BEq α] [LawfulBEq α] {a b:α} (hc:aY L t=.bool (a != b)) (ht:¬ a=b→St P ops Q rest n ((t,.bool true)::L) w) (hf:a=b→St P ops Q rest n ((t,.bool false)::L) w):St P ops Q rest n L w:=bR hc (fun h=>ht (eH h)) (fun h=>hf (eI h))
theorem dh {t:Nat} {v v':Value} (h:aY L t=v) (he:v=v') (k:St P ops Q rest n ((t,v')::L) w):St P ops Q rest n L w:=by
 have key:mkA n ((t,v')::L)=mkA n L:=gK fun i _=>by
  rw [cg];split
  ·rename_i hi;subst hi;rw [h,he]
  ·rfl
 have:=k.out;rw [key] at this;exact ⟨this⟩
def az (P : Program) (f : FuncId) : Bool := match P.funcs[f]? with | some fn => !(fn.name == "runtime.NumGoroutine") && fn.body.isSome | none => false
theorem f_ {f:FuncId} (hf:az P f=true) (args:Array Value):(callFunc f args).run P w=.ok (.enter f args) w:=by
 unfold az at hf;cases h:P.funcs[f]? with
 |none=>simp [h] at hf
 |some fn=>
  simp only [h,Bool.and_eq_true,Bool.not_eq_true'] at hf;have hb:fn.body.isNone=false:=by cases hb:fn.body <;> simp_all
  simp only [callFunc,Sem.run_bind,run_program,Result.andThen_ok,h,hf.1,hb,Bool.false_eq_true,if_false];rfl
theorem jz {ρ:Operand→Value} (hρ:∀ f,ρ (.func f)=.func (.func f) #[] #[]) {f:FuncId} {l:List Operand} {ats:Array TypeId} {g:Option (Nat×Bool)} {dst:Option Tmp} :
 execOp ρ ⟨dst,.call { callee:=.value (.func f),args:=l.toArray,argTypes:=ats },ty,pos,after,g⟩=callFunc f (l.map ρ).toArray:=by
 have:execOp ρ ⟨dst,.call { callee:=.value (.func f),args:=l.toArray,argTypes:=ats },ty,pos,after,g⟩=(do let d ←Deferred.ofValue (ρ (.func f)) (l.toArray.map ρ);invoke d.target d.args):=rfl;rw [this,hρ];show callFunc f (#[]++l.toArray.map ρ++#[])=_;simp
theorem aF {f:FuncId} {l:List Operand} {ats:Array TypeId} {R:Value→World→Prop} (hf:az P f=true) (hc:Rt P f (l.map (ev n L)) w R) (k:∀ v w',R v w'→St P ops Q rest n ((d,v)::L) w') :
 St P ops Q (⟨some d,.call { callee:=.value (.func f),args:=l.toArray,argTypes:=ats },ty,pos,after,none⟩::rest) n L w:=by
 refine ⟨wpList_plain rfl fun K hK=>?_⟩;unfold Oper.wp;rw [bU,jz (fun _=>rfl),f_ hf,Oper.upon_enter];refine Calls.mono hc fun e w' ⟨v,he,hR⟩=>?_
 subst he;show K ((mkA n L).put (some d) v) w';rw [dY];exact hK _ _ (k v w' hR).out
end steps
end Go.Proofs.YtcbakncjacnnjaaGreat
namespace Go.Proofs.YtcbakncjacnnjaaGreat
open Go.Proofs.Tryz (prog)
open Go.RowKit
theorem dT_ {p:Prop} [i:Decidable p]:decide p=true→p:=of_decide_eq_true
theorem dF_ {p:Prop} [i:Decidable p]:decide p=false→¬p:=of_decide_eq_false
abbrev aj (a w:World):Prop:=Below a.heap.size a w
section
variable {a b w w':World}
theorem aj.rfl_:aj a a:=Below.refl _ _
theorem aj.new (h:aj a w) (o:Obj):aj a (w.alloc o):=Below.alloc h h.size o
theorem aj.dn (h:aj a w) (n:Nat):aj a (w.drewN n):=below_drewN h n
theorem aj.d1 (h:aj a w):aj a w.drew:=Below.drew h
theorem aj.next (h:aj a w) (k:aj w w'):aj a w':=Below.trans h (Below.mono k h.size)
theorem aj.grew (h:aj a w) {row:Option Nat} (hg:w.grownBy w' row) (hr:∀ k,row=some k→a.heap.size≤k):aj a w':=Below.grown h hg h.size hr
theorem aj.cells (h:aj a w):∀ k o,k<a.heap.size→w.cell? ⟨k,o,none⟩=a.cell? ⟨k,o,none⟩:=fun k o hk=>Below.cell (p:=⟨k,o,none⟩) h hk
end
def Blk (w:World) (g:Nat) (t:TypeId) (cs:Array Value):Prop:=w.heap[g]? =some (.cells cs t (0,0))
section
variable {w w':World} {g:Nat} {t:TypeId} {cs:Array Value}
theorem Blk.lt (h:Blk w g t cs):g<w.heap.size:=by
 rcases Nat.lt_or_ge g w.heap.size with hlt | hge
 ·exact hlt
 ·unfold Blk at h;rw [Array.getElem?_eq_none hge] at h;cases h
theorem Blk.cell (h:Blk w g t cs) (i:Nat):w.cell? ⟨g,i,none⟩=cs[i]? :=cell_of_row w g i cs t (0,0) h
theorem Blk.frozen (h:Blk w g t cs) (i:Nat):w.frozen? ⟨g,i,none⟩=false:=by
 unfold Blk at h;simp [World.frozen?,h]
theorem Blk.new (w:World) (t:TypeId) (cs:Array Value):Blk (w.alloc (.cells cs t)) w.heap.size t cs:=heap_alloc_new w _
theorem Blk.set_ (h:Blk w g t cs) (i:Nat) (u:Value):Blk (w.setCell ⟨g,i,none⟩ u) g t (cs.setIfInBounds i u):=by
 unfold Blk at h ⊢;simp [World.setCell,Array.getElem?_modify,h]
theorem Blk.below {B:Nat} (h:Blk w g t cs) (hb:Below B w w') (hg:g<B):Blk w' g t cs:=(hb.block g hg).trans h
theorem Blk.from_ (h:Blk w g t cs) (hb:aj w w'):Blk w' g t cs:=h.below hb h.lt
end
def Row (w:World) (v:Value) (vs:List Value):Prop:=
 ∃ (A:Option Addr) (cap:Nat),v=.slice A vs.length cap∧(0<vs.length→∃ b o,A=some ⟨b,o,none⟩∧b<w.heap.size∧∀ i u,vs[i]? =some u→w.cell? ⟨b,o+i,none⟩=some u)
theorem Row.nil_ (w:World):Row w (.slice none 0 0) []:=⟨none,0,rfl,fun h=>absurd h (by simp)⟩
theorem Row.of_own {w:World} {base:Nat} {e:TypeId} {v:Value} {n:Nat} {xs:List Value} (h:w.ownsRow base e 1 v n xs):Row w v xs:=by
 have hl:xs.length=n:=by simpa using h.1
 rcases h.2 with ⟨rfl,rfl⟩ | ⟨g,cap,cur,rfl,hg,hh,_⟩
 ·have:xs=[]:=List.eq_nil_of_length_eq_zero hl;subst this;exact Row.nil_ w
 ·subst hl;refine ⟨some ⟨g,0,none⟩,cap,rfl,fun _=>⟨g,0,rfl,?_,fun i u hu=>?_⟩⟩
  ·rcases Nat.lt_or_ge g w.heap.size with hlt | hge
   ·exact hlt
   ·rw [Array.getElem?_eq_none hge] at hh;cases hh
  ·have:=h.cells (g:=g) rfl i u hu;rw [Addr.add_lit] at this;exact this
theorem CL {α:Type} {f:α→Value} {w:World} {v:Value} {xs:List α} (hr:Row w v (xs.map f)):∃ A cap,v=.slice A xs.length cap∧
 (0<xs.length→∃ b o,A=some ⟨b,o,none⟩∧b<w.heap.size∧∀ i (h:i<xs.length),w.cell? ⟨b,o+i,none⟩=some (f xs[i])):=by
 obtain ⟨A,cap,rfl,hp⟩:=hr;rw [List.length_map] at hp ⊢;refine ⟨A,cap,rfl,fun h0=>?_⟩;obtain ⟨b,o,hA,hb,hc⟩:=hp h0;refine ⟨b,o,hA,hb,fun i hi=>hc i _ ?_⟩;rw [List.getElem?_map,List.getElem?_eq_getElem hi];rfl
theorem nT {w:World} {base:Nat} {e:TypeId} {size:Nat} {v:Value} {n:Nat} {xs:List Value} (h:w.ownsRow base e size v n xs):∃ A cap,v=.slice A n cap:=by
 rcases h.2 with ⟨rfl,rfl⟩ | ⟨g,cap,cur,rfl,_⟩
 ·exact ⟨none,0,rfl⟩
 ·exact ⟨_,cap,rfl⟩
theorem _root_.Go.World.ownsRow.kept_from {w w':World} {base:Nat} {e:TypeId} {size:Nat} {v:Value} {n:Nat} {xs:List Value} (h:w.ownsRow base e size v n xs) (hw:aj w w'):w'.ownsRow base e size v n xs:=by
 refine ⟨h.1,?_⟩;rcases h.2 with h2 | ⟨g,cap,cur,hv,hg,hh,r⟩
 ·exact .inl h2
 ·refine .inr ⟨g,cap,cur,hv,hg,?_,r⟩
  rw [hw.block g (by
   rcases Nat.lt_or_ge g w.heap.size with hlt | hge
   ·exact hlt
   ·rw [Array.getElem?_eq_none hge] at hh;cases hh)]
  exact hh
end Go.Proofs.YtcbakncjacnnjaaGreat
namespace Go.Proofs.YtcbakncjacnnjaaGreat
open Go.Proofs.Tryz (prog)
open Go.RowKit
def eqp (x:Value):Value→World→Prop:=fun v _=>v=x
def dX:List (Nat×(Value→World→Prop))→Nat→Value→World→Prop
 |[],_=>fun _ _=>True
 |(k,R)::r,i=>bif Nat.beq i k then R else dX r i
def kN:List (Nat×(Value→World→Prop))→Prop
 |[]=>True
 |(_,R)::r=>(∀ v w1 w2,aj w1 w2→R v w1→R v w2)∧kN r
theorem ag (x:Value):∀ v w1 w2,aj w1 w2→eqp x v w1→eqp x v w2:=fun _ _ _ _ h=>h
theorem dD:∀ {l:List (Nat×(Value→World→Prop))},kN l→∀ t v w1 w2,aj w1 w2→dX l t v w1→dX l t v w2
 |[],_,_,_,_,_,_,_=>trivial
 |(k,R)::r,⟨h1,h2⟩,t,v,w1,w2,hF,h=>by
  have e:dX ((k,R)::r) t=bif Nat.beq t k then R else dX r t:=rfl
  rw [e] at h ⊢;cases hb:Nat.beq t k with
  |true=>rw [hb] at h;exact h1 _ _ _ hF h
  |false=>rw [hb] at h;exact dD h2 t v w1 w2 hF h
def gh (R:Nat→Value→World→Prop) (w:World):List Nat→(List (Nat×Value)→Prop)→Prop
 |[],K=>K []
 |d::r,K=>∀ v,R d v w→gh R w r fun M=>K ((d,v)::M)
theorem eJ {R:Nat→Value→World→Prop} {w:World} (ρ:Nat→Value):∀ (l:List Nat) {K:List (Nat×Value)→Prop},(∀ d∈l,R d (ρ d) w)→gh R w l K→K (l.map fun d=>(d,ρ d))
 |[],_,_,h=>h
 |d::r,_,hr,h=>eJ ρ r (fun e he=>hr e (List.mem_cons_of_mem _ he)) (h (ρ d) (hr d (List.mem_cons_self ..)))
theorem jM (ρ:Nat→Value) (l:List Nat) (L:List (Nat×Value)) (t:Nat):aY (l.map (fun d=>(d,ρ d))++L) t=if l.elem t then ρ t else aY L t:=by
 induction l with
 |nil=>rfl
 |cons d l ih=>
  show aY ((d,ρ d)::(l.map (fun d=>(d,ρ d))++L)) t=_;rw [cg,ih];by_cases h:t=d
  ·subst h;simp
  ·have:(d::l).elem t=l.elem t:=by simp [h]
   rw [if_neg h,this]
def al (P:Program) (ops:Array Oper) (n:Fr) (L:List (Nat×Value)) (o:Oper) (w:World) (R:Value→World→Prop):Prop:=
 (Region.wanted o (yielded ops (mkT n.n L))=true∧((∃ v w',(execOp (ev n L) o).run P w=.ok (.value v) w'∧aj w w'∧R v w')∨
  (∃ f l,(execOp (ev n L) o).run P w=.ok (.enter f (List.toArray l)) w∧Rt P f l w fun v w'=>aj w w'∧R v w')))∨
 (Region.wanted o (yielded ops (mkT n.n L))=false∧R undef w)
section
variable {P:Program} {ops:Array Oper} {n:Fr} {L:List (Nat×Value)} {w w':World} {op:Op} {ty:TypeId} {pos:String} {after:Array Edge} {d:Option Nat} {R:Value→World→Prop}
theorem fG {v:Value} (hr:RO P (ev n L) op w v w') (hF:aj w w') (hR:R v w'):al P ops n L ⟨d,op,ty,pos,after,none⟩ w R:=
 .inl ⟨rfl,.inl ⟨v,w',hr _ _ _ _ _,hF,hR⟩⟩
theorem ai {v:Value} (hr:RO P (ev n L) op w v w) (hR:R v w):al P ops n L ⟨d,op,ty,pos,after,none⟩ w R:=fG hr aj.rfl_ hR
theorem er {f:FuncId} {l:List Operand} {ats:Array TypeId} (hf:az P f=true) (hc:Rt P f (l.map (ev n L)) w fun v w'=>aj w w'∧R v w') :
 al P ops n L ⟨d,.call { callee:=.value (.func f),args:=l.toArray,argTypes:=ats },ty,pos,after,none⟩ w R:=
 .inl ⟨rfl,.inr ⟨f,l.map (ev n L),by rw [jz (fun _=>rfl),f_ hf],hc⟩⟩
theorem aP {v:Value} {j:Nat} {b:Bool} (hg:lF ops n L j=.bool b) (hr:RO P (ev n L) op w v w) (hR:R v w):al P ops n L ⟨d,op,ty,pos,after,some (j,b)⟩ w R:=
 .inl ⟨by show (yielded ops (mkT n.n L) j==some b)=true;rw [gD hg];simp,.inl ⟨v,w,hr _ _ _ _ _,aj.rfl_,hR⟩⟩
theorem rf {f:FuncId} {l:List Operand} {ats:Array TypeId} {j:Nat} {b:Bool} (hg:lF ops n L j=.bool b) (hf:az P f=true) (hc:Rt P f (l.map (ev n L)) w fun v w'=>aj w w'∧R v w') :
 al P ops n L ⟨d,.call { callee:=.value (.func f),args:=l.toArray,argTypes:=ats },ty,pos,after,some (j,b)⟩ w R:=
 .inl ⟨by show (yielded ops (mkT n.n L) j==some b)=true;rw [gD hg];simp,.inr ⟨f,l.map (ev n L),by rw [jz (fun _=>rfl),f_ hf],hc⟩⟩
theorem bI {j:Nat} {b b':Bool} (hg:lF ops n L j=.bool b') (hb:(b'==b)=false) (hR:R undef w):al P ops n L ⟨d,op,ty,pos,after,some (j,b)⟩ w R:=
 .inr ⟨by show (yielded ops (mkT n.n L) j==some b)=false;rw [gD hg];simpa using hb,hR⟩
end
def nK (ops:Array Oper) (pre:List Nat) (o:Oper):List Nat:=(pre.filter fun t=>(o.looksAt ops).elem t)
def dq:Op→Bool | .select _ _=>true | _=>false
def ji (o:Oper) (i:Nat):Bool:=o.after.toList.any fun e=>Region.binds .any e&&e.on==i
def zD (l:List Oper) (K:Nat):Bool:=
 let ops:=l.toArray
 let dst (i:Nat):Option Nat:=(l[i]?).bind (·.dst)
 decide (K≤l.length)&&
 (List.range l.length).all fun i=>match l[i]? with
  |none=>false
  |some o=>
   (o.after.toList.all fun e=> !Region.binds .any e||decide (e.on<i))&&!dq o.op&&
   (if i<K then
    (match o.dst with
     |none=>false
     |some d=>(List.range K).all (fun j=>j==i||dst j != some d)&&!((o.looksAt ops).elem d))&&
    (List.range K).all (fun j=>match dst j with
     |none=>false
     |some d=> !(o.looksAt ops).elem d||(decide (j<i)&&ji o j))
    else (List.range i).all (fun j=>ji o j))
def sq (P:Program) (ops:Array Oper) (n:Fr) (L:List (Nat×Value)) (w:World) (R:Nat→Value→World→Prop) (pre:List Nat):List Oper→Prop
 |[]=>True
 |o::r=>(∀ w',aj w w'→gh R w' (nK ops pre o) fun M=>al P ops n (M++L) o w' (R (o.dst.getD 0)))∧sq P ops n L w R pre r
theorem vX {P:Program} {ops:Array Oper} {n:Fr} {L:List (Nat×Value)} {w:World} {R:Nat→Value→World→Prop} {pre:List Nat}:∀ {l:List Oper},sq P ops n L w R pre l→∀ (i:Nat) (o:Oper),l[i]? =some o→
 ∀ w',aj w w'→gh R w' (nK ops pre o) fun M=>al P ops n (M++L) o w' (R (o.dst.getD 0))
 |[],_,i,o,h=>by simp at h
 |x::r,⟨h1,h2⟩,0,o,h=>by
  simp only [List.getElem?_cons_zero,Option.some.injEq] at h;subst h;exact h1
 |x::r,⟨h1,h2⟩,i+1,o,h=>vX h2 i o (by simpa using h)
def dW (l:List Oper) (K:Nat):List Nat:=(l.take K).filterMap (·.dst)
theorem ek:∀ {l:List Bool} {i:Nat},l[i]? =some false→(l.set i true).count false+1=l.count false
 |[],i,h=>by simp at h
 |x::r,0,h=>by
  simp only [List.getElem?_cons_zero,Option.some.injEq] at h;subst h;simp
 |x::r,i+1,h=>by
  have:=ek (l:=r) (i:=i) (by simpa using h);simp only [List.set_cons_succ,List.count_cons];omega
section main
variable {P:Program} {Q:Exit→Act→World→Prop} {n:Fr} {L:List (Nat×Value)} {w:World} {l:List Oper} {K:Nat} {R:Nat→Value→World→Prop}
theorem bg {listed:Array Bool} {i:Nat} (h:i<listed.size):listed.getD i true=listed.getD i false:=by
 simp [Array.getD,h]
theorem qE (hc:zD l K=true):∀ (m k:Nat) (listed:Array Bool) (a:Act) (w':World),k+m=l.length→K≤k→listed.size=l.length→(∀ j,j<l.length→listed.getD j true=decide (j<k))→
 wpList P l.toArray Q (l.drop k) a w'→wpAny P .any l.toArray Q m listed a w'
 |0,k,listed,a,w',hk,hK,hs,hl,h=>by
  have hd:l.drop k=[]:=List.drop_eq_nil_of_le (by omega);rw [hd] at h;refine ⟨?_,h⟩;rw [List.eq_nil_iff_forall_not_mem];intro j hj;obtain ⟨h0,o,ho,_⟩:=mem_ready.1 hj
  have hjl:j<l.length:=by
   rw [List.getElem?_toArray] at ho;exact (List.getElem?_eq_some_iff.1 ho).1
  rw [hl j hjl] at h0;simp at h0;omega
 |m+1,k,listed,a,w',hk,hK,hs,hl,h=>by
  have hkl:k<l.length:=by omega
  have hdrop:l.drop k=l[k]::l.drop (k+1):=List.drop_eq_getElem_cons hkl;have hck:=(List.all_eq_true.1 (Bool.and_eq_true_iff.1 hc).2)
  have hrk:k∈Region.ready .any l.toArray listed:=by
   refine mem_ready.2 ⟨by rw [hl k hkl];simp,l[k],by rw [List.getElem?_toArray,List.getElem?_eq_getElem hkl],fun e he hb=>?_⟩;have hx:=hck k (List.mem_range.2 hkl);rw [List.getElem?_eq_getElem hkl] at hx;simp only [Bool.and_eq_true] at hx;have he2:=List.all_eq_true.1 hx.1.1 e (by simpa using he);rw [hb] at he2;simp at he2;rw [←bg (by omega),hl _ (by omega)];simpa using he2
  refine ⟨fun h0=>(by rw [h0] at hrk;cases hrk),fun j hj=>?_⟩;obtain ⟨h0,o,ho,hall⟩:=mem_ready.1 hj;rw [List.getElem?_toArray] at ho;have hjl:j<l.length:=(List.getElem?_eq_some_iff.1 ho).1;rw [hl j hjl] at h0
  have hjk:j=k:=by
   simp at h0;rcases Nat.eq_or_lt_of_le h0 with e | hlt
   ·exact e.symm
   ·exfalso;have hx:=hck j (List.mem_range.2 hjl);rw [ho] at hx;simp only [Bool.and_eq_true] at hx;have h3:=hx.2;rw [if_neg (by omega)] at h3;have h4:=List.all_eq_true.1 h3 k (List.mem_range.2 hlt);obtain ⟨e,he,he2⟩:=List.any_eq_true.1 h4;simp only [Bool.and_eq_true,beq_iff_eq] at he2;have h5:=hall e (by simpa using he) he2.1;rw [he2.2,←bg (by omega),hl k hkl] at h5;simp at h5
  subst hjk;rw [hdrop] at h
  have hk2:wpOp P l.toArray Q j (wpList P l.toArray Q (l.drop (j+1))) a w':=by
   unfold wpOp;rw [List.getElem?_toArray,List.getElem?_eq_getElem hkl];exact h
  refine wpOp_mono (fun a'' w'' h''=>qE hc m (j+1) _ a'' w'' (by omega) (by omega) (by simpa using hs) (fun i hi=>?_) h'') hk2;by_cases e:j=i
  ·subst e;simp [hs,hkl]
  ·rw [getD_set_ne true e,hl i hi];have:(i<j+1)↔(i<j):=by omega
   simp [this]
theorem eN {ops:Array Oper} {o:Oper} {L1 L2:List (Nat×Value)} (hs:dq o.op=false) (h:∀ t,(o.looksAt ops).elem t=true→aY L1 t=aY L2 t) :
 execOp (ev n L1) o=execOp (ev n L2) o∧Region.wanted o (yielded ops (mkT n.n L1))=Region.wanted o (yielded ops (mkT n.n L2)):=by
 constructor
 ·refine execOp_congr o (fun cs b e=>by rw [e] at hs;simp [dq] at hs) fun x hx=>?_
  cases x with
  |tmp t=>
   have:aY L1 t=aY L2 t:=h t (by
    simp only [List.elem_eq_mem,decide_eq_true_eq];exact List.mem_append_left _ (List.mem_filterMap.2 ⟨.tmp t,by simpa using hx,rfl⟩))
   simp only [ev,this]
  |_=>rfl
 ·unfold Region.wanted;cases hg:o.guard with
  |none=>rfl
  |some gw=>
   obtain ⟨g,want⟩:=gw
   have hy:yielded ops (mkT n.n L1) g=yielded ops (mkT n.n L2) g:=by
    unfold yielded;cases ht:(ops[g]?).bind (·.dst) with
    |none=>rfl
    |some t=>
     have:aY L1 t=aY L2 t:=h t (by
      simp only [List.elem_eq_mem,decide_eq_true_eq];exact List.mem_append_right _ (by simp [hg,ht]))
     simp only [Option.bind_some,kY,this]
   simp only [hy]
theorem wb (hc:zD l K=true) (hmono:∀ t v w1 w2,aj w1 w2→R t v w1→R t v w2) (hop:sq P l.toArray n L w R (dW l K) (l.take K))
 (hend:∀ w',aj w w'→gh R w' (dW l K) fun M=>St P l.toArray Q (l.drop K) n (M++L) w') :
 ∀ (m:Nat) (listed:Array Bool) (L':List (Nat×Value)) (w':World),listed.toList.count false=m→listed.size=l.length→(∀ j,K≤j→j<l.length→listed.getD j true=false)→aj w w'→
  (∀ t,(∀ i o,i<K→l[i]? =some o→listed.getD i true=true→o.dst≠some t)→aY L' t=aY L t)→
  (∀ i o d,i<K→l[i]? =some o→listed.getD i true=true→o.dst=some d→R d (aY L' d) w')→wpAny P .any l.toArray Q m listed (mkA n L') w':=by
 have hKl:K≤l.length:=dT_ (Bool.and_eq_true_iff.1 hc).1;have hck:=(List.all_eq_true.1 (Bool.and_eq_true_iff.1 hc).2);intro m
 induction m with
 |zero=>
  intro listed L' w' hcount hs htail hF hfr hR
  have hall:∀ j,j<l.length→listed.getD j true=true:=by
   intro j hj;have hm:listed[j]'(by omega)∈listed.toList:=by simp
   cases hb:listed[j]'(by omega) with
   |true=>simp [Array.getD,show j<listed.size by omega,hb]
   |false=>
    rw [hb] at hm;exact absurd hcount (Nat.pos_iff_ne_zero.1 (List.count_pos_iff.2 hm))
  have hKe:K=l.length:=by
   rcases Nat.lt_or_ge K l.length with h | h
   ·have h1:=htail K (Nat.le_refl _) h;rw [hall K h] at h1;cases h1
   ·omega
  have he:=eJ (aY L') (dW l K) (fun d hd=>by
   obtain ⟨o,ho,hod⟩:=List.mem_filterMap.1 hd;obtain ⟨i,hi⟩:=List.mem_iff_getElem?.1 ho;rw [List.getElem?_take] at hi;split at hi
   ·exact hR i o d (by assumption) hi (hall i (List.getElem?_eq_some_iff.1 hi).1) hod
   ·cases hi) (hend w' hF)
  have hL:mkA n ((dW l K).map (fun d=>(d,aY L' d))++L)=mkA n L':=gK fun t _=>by
   rw [jM];split
   ·rfl
   ·rename_i hne;refine (hfr t fun i o hi ho _ hod=>hne ?_).symm;simp only [List.elem_eq_mem,decide_eq_true_eq];exact List.mem_filterMap.2 ⟨o,List.mem_iff_getElem?.2 ⟨i,by rw [List.getElem?_take,if_pos hi];exact ho⟩,hod⟩
  replace he:=he.out;rw [hL] at he;exact qE hc 0 l.length listed _ w' (by omega) (by omega) hs (fun j hj=>by rw [hall j hj];simp [hj]) (by rw [hKe] at he;exact he)
 |succ m ih=>
  intro listed L' w' hcount hs htail hF hfr hR;by_cases hpre:∀ i,i<K→listed.getD i true=true
  ·
   have he:=eJ (aY L') (dW l K) (fun d hd=>by
    obtain ⟨o,ho,hod⟩:=List.mem_filterMap.1 hd;obtain ⟨i,hi⟩:=List.mem_iff_getElem?.1 ho;rw [List.getElem?_take] at hi;split at hi
    ·exact hR i o d (by assumption) hi (hpre i (by assumption)) hod
    ·cases hi) (hend w' hF)
   have hL:mkA n ((dW l K).map (fun d=>(d,aY L' d))++L)=mkA n L':=gK fun t _=>by
    rw [jM];split
    ·rfl
    ·rename_i hne;refine (hfr t fun i o hi ho _ hod=>hne ?_).symm;simp only [List.elem_eq_mem,decide_eq_true_eq];exact List.mem_filterMap.2 ⟨o,List.mem_iff_getElem?.2 ⟨i,by rw [List.getElem?_take,if_pos hi];exact ho⟩,hod⟩
   replace he:=he.out;rw [hL] at he
   have hcnt:m+1=l.length-K:=by
    have:listed.toList=List.replicate K true++List.replicate (l.length-K) false:=by
     apply List.ext_getElem?;intro j;rw [Array.getElem?_toList];rw [List.getElem?_append];simp only [List.length_replicate,List.getElem?_replicate];by_cases hj:j<l.length
     ·have hjs:j<listed.size:=by omega
      by_cases hjK:j<K
      ·have:=hpre j hjK;simp [Array.getD,hjs] at this;simp [hjs,hjK,this]
      ·have:=htail j (by omega) hj;simp [Array.getD,hjs] at this;rw [if_neg hjK,if_pos (by omega),Array.getElem?_eq_getElem hjs,this]
     ·rw [Array.getElem?_eq_none (by omega),if_neg (by omega),if_neg (by omega)]
    rw [this,List.count_append,List.count_replicate,List.count_replicate] at hcount;simp at hcount;exact hcount.symm
   refine qE hc (m+1) K listed _ w' (by omega) (Nat.le_refl _) hs (fun j hj=>?_) he;by_cases hjK:j<K
   ·rw [hpre j hjK];simp [hjK]
   ·rw [htail j (by omega) hj];simp [hjK]
  ·
   have hex:∃ i,i<K∧listed.getD i true=false:=by
    refine Classical.byContradiction fun hno=>hpre fun i hi=>?_
    cases hb:listed.getD i true with
    |true=>rfl
    |false=>exact absurd ⟨i,hi,hb⟩ hno
   obtain ⟨i0,hi0,hmin⟩:=exists_least hex;have hi0l:i0<l.length:=by omega
   have hready:i0∈Region.ready .any l.toArray listed:=by
    refine mem_ready.2 ⟨hi0.2,l[i0],by rw [List.getElem?_toArray,List.getElem?_eq_getElem hi0l],fun e he hb=>?_⟩;have hx:=hck i0 (List.mem_range.2 hi0l);rw [List.getElem?_eq_getElem hi0l] at hx;simp only [Bool.and_eq_true] at hx;have he2:=List.all_eq_true.1 hx.1.1 e (by simpa using he);rw [hb] at he2;simp at he2;rw [←bg (by omega)];cases hb2:listed.getD e.on true with
    |true=>rfl
    |false=>exact absurd (hmin e.on ⟨by omega,hb2⟩) (by omega)
   refine ⟨fun h0=>(by rw [h0] at hready;cases hready),fun i hi=>?_⟩;obtain ⟨h0,o,ho,hall⟩:=mem_ready.1 hi;rw [List.getElem?_toArray] at ho;have hil:i<l.length:=(List.getElem?_eq_some_iff.1 ho).1;have hx:=hck i (List.mem_range.2 hil);rw [ho] at hx;simp only [Bool.and_eq_true] at hx
   have hiK:i<K:=by
    rcases Nat.lt_or_ge i K with h | h
    ·exact h
    ·exfalso;have h3:=hx.2;rw [if_neg (by omega)] at h3;have h4:=List.all_eq_true.1 h3 i0 (List.mem_range.2 (by omega));obtain ⟨e,he,he2⟩:=List.any_eq_true.1 h4;simp only [Bool.and_eq_true,beq_iff_eq] at he2;have h5:=hall e (by simpa using he) he2.1;rw [he2.2,←bg (by omega),hi0.2] at h5;cases h5
   have h3:=hx.2;rw [if_pos hiK] at h3;simp only [Bool.and_eq_true] at h3;obtain ⟨h3a,h3b⟩:=h3;cases hod:o.dst with
   |none=>rw [hod] at h3a;cases h3a
   |some d=>
    rw [hod] at h3a;simp only [Bool.and_eq_true] at h3a
    have hlooks:∀ t,(o.looksAt l.toArray).elem t=true→aY ((nK l.toArray (dW l K) o).map (fun d=>(d,aY L' d))++L) t=aY L' t:=by
     intro t ht;rw [jM];split
     ·rfl
     ·rename_i hne;refine (hfr t fun j oj hj hoj hlj hd=>hne ?_).symm;simp only [List.elem_eq_mem,decide_eq_true_eq];refine List.mem_filter.2 ⟨List.mem_filterMap.2 ⟨oj,List.mem_iff_getElem?.2 ⟨j,by rw [List.getElem?_take,if_pos hj];exact hoj⟩,hd⟩,ht⟩
    have hfact:∀ t∈nK l.toArray (dW l K) o,R t (aY L' t) w':=by
     intro t ht;obtain ⟨ht1,ht2⟩:=List.mem_filter.1 ht;obtain ⟨oj,hoj,hd⟩:=List.mem_filterMap.1 ht1;obtain ⟨j,hj⟩:=List.mem_iff_getElem?.1 hoj;rw [List.getElem?_take] at hj;split at hj
     ·rename_i hjK;have h5:=List.all_eq_true.1 h3b j (List.mem_range.2 hjK);rw [hj] at h5;simp only [Option.bind_some,hd,ht2,Bool.not_true,Bool.false_or,Bool.and_eq_true,decide_eq_true_eq] at h5;obtain ⟨e,he,he2⟩:=List.any_eq_true.1 h5.2;simp only [Bool.and_eq_true,beq_iff_eq] at he2;have h6:=hall e (by simpa using he) he2.1;rw [he2.2] at h6;exact hR j oj t hjK hj (by rw [bg (by omega)];exact h6) hd
     ·cases hj
    have hok:=eJ (aY L') _ hfact (vX hop i o (by rw [List.getElem?_take,if_pos hiK];exact ho) w' hF);have hsel:dq o.op=false:=by simpa using hx.1.2
    obtain ⟨hE,hW⟩:=eN (n:=n) (ops:=l.toArray) (o:=o) hsel hlooks;rw [hod] at hok;simp only [Option.getD_some] at hok
    have next:∀ v w'',aj w' w''→R d v w''→wpAny P .any l.toArray Q m (listed.setIfInBounds i true) ((mkA n L').put (some d) v) w'':=by
     intro v w'' hF' hRv;rw [dY]
     have hne:∀ j oj d',j<K→l[j]? =some oj→j≠i→oj.dst=some d'→d'≠d:=by
      intro j oj d' hj hoj hji hd e;have h5:=List.all_eq_true.1 h3a.1 j (List.mem_range.2 hj);rw [hoj] at h5;simp [hji,hd,e] at h5
     refine ih _ _ w'' ?_ (by simpa using hs) (fun j hj1 hj2=>?_) (hF.next hF') (fun t ht=>?_) (fun j oj d' hj hoj hlj hd=>?_)
     ·have hil':i<listed.size:=by omega
      have hfalse:listed.toList[i]? =some false:=by
       rw [Array.getElem?_toList,Array.getElem?_eq_getElem hil'];simp [Array.getD,hil'] at h0;rw [h0]
      rw [Array.toList_setIfInBounds];have:=ek (l:=listed.toList) (i:=i) hfalse;omega
     ·rw [getD_set_ne true (by omega)];exact htail j hj1 hj2
     ·have htd:t≠d:=fun e=>ht i o hiK ho (by simp [show i<listed.size by omega]) (by rw [hod,e])
      rw [cg,if_neg htd];refine hfr t fun j oj hj hoj hlj=>ht j oj hj hoj ?_
      by_cases e:i=j
      ·subst e;rw [h0] at hlj;cases hlj
      ·rw [getD_set_ne true e];exact hlj
     ·rw [cg];by_cases e:j=i
      ·subst e;rw [ho] at hoj;cases hoj;rw [hod] at hd;cases hd;rw [if_pos rfl];exact hRv
      ·rw [if_neg (hne j oj d' hj hoj e hd)];rw [getD_set_ne true (Ne.symm e)] at hlj;exact hmono _ _ _ _ hF' (hR j oj d' hj hoj hlj hd)
    unfold wpOp;rw [List.getElem?_toArray,ho];show if Region.wanted o (yielded l.toArray (mkT n.n L'))=true then _ else _
    unfold al at hok;rw [hE,hW] at hok;rcases hok with ⟨hw,⟨v,w'',hr,hF',hRv⟩ | ⟨f,args,hr,hcall⟩⟩ | ⟨hw,hRv⟩
    ·rw [if_pos hw];refine .inl ?_;unfold Oper.wp;rw [bU,hr,Oper.upon_value,hod];exact next v w'' hF' hRv
    ·rw [if_pos hw];refine .inl ?_;unfold Oper.wp;rw [bU,hr,Oper.upon_enter,hod];refine Calls.mono hcall fun e w'' ⟨v,he,hF',hRv⟩=>?_
     subst he;exact next v w'' hF' hRv
    ·rw [if_neg (by rw [hw];simp),hod];exact next undef w' aj.rfl_ hRv
theorem dN {id:Nat} (K:Nat) (RL:List (Nat×(Value→World→Prop))) (hm:P.follows .mixedOrders=true) (hc:zD l K=true) (hmono:kN RL)
 (hop:sq P l.toArray n L w (dX RL) (dW l K) (l.take K)) (hend:∀ w',aj w w'→gh (dX RL) w' (dW l K) fun M=>St P l.toArray Q (l.drop K) n (M++L) w'):Cd P (.region id l.toArray true) Q n L w:=by
 refine ⟨wp_region_any hm ?_⟩;have hKl:K≤l.length:=dT_ (Bool.and_eq_true_iff.1 hc).1
 have:=wb (Q:=Q) (w:=w) hc (dD hmono) hop hend l.length (Array.replicate l.length false) L { w with drawn:=w.drawn+1 } (by simp) (by simp)
  (fun j _ hj=>by simp [Array.getD,hj]) (aj.rfl_.d1) (fun _ _=>rfl) (fun i o d hi _ hl=>by
   have:i<l.length:=by omega
   simp [Array.getD,this] at hl)
 simpa using this
end main
end Go.Proofs.YtcbakncjacnnjaaGreat
namespace Go.Proofs.YtcbakncjacnnjaaGreat
open Go.Proofs.Tryz (prog)
open Go.RowKit
structure cH (g:Nat) (w w':World):Prop where
 os:w'.os=w.os
 tape:w'.tape=w.tape
 output:w'.output=w.output
 size:w'.heap.size=w.heap.size
 block:∀ k,k≠g→w'.heap[k]? =w.heap[k]?
theorem cH.setCell (w:World) (g i:Nat) (v:Value):cH g w (w.setCell ⟨g,i,none⟩ v):=⟨rfl,rfl,rfl,by simp,fun k hk=>Below.heap_setCell w ⟨g,i,none⟩ v k hk⟩
theorem cH.trans {g:Nat} {w w1 w2:World} (h:cH g w w1) (k:cH g w1 w2):cH g w w2:=⟨k.os.trans h.os,k.tape.trans h.tape,k.output.trans h.output,k.size.trans h.size,fun i hi=>(k.block i hi).trans (h.block i hi)⟩
theorem cH.rfl_ {g:Nat} {w:World}:cH g w w:=⟨rfl,rfl,rfl,rfl,fun _ _=>rfl⟩
theorem aj.only {a w w':World} {g:Nat} (h:aj a w) (o:cH g w w') (hg:a.heap.size≤g):aj a w':=
 ⟨o.os.trans h.os,o.tape.trans h.tape,o.output.trans h.output,by rw [o.size];exact h.size,fun k hk=>(o.block k (by omega)).trans (h.block k hk)⟩
theorem Blk.only {w w':World} {k g:Nat} {t:TypeId} {cs:Array Value} (h:Blk w k t cs) (o:cH g w w') (hk:k≠g):Blk w' k t cs:=(o.block k hk).trans h
theorem cH.cell {w w':World} {g b i:Nat} (o:cH g w w') (hb:b≠g):w'.cell? ⟨b,i,none⟩=w.cell? ⟨b,i,none⟩:=World.cell?_of_block (w:=w) (o.block b hb)
theorem bx {w w':World} {a:Addr} {v:Value} (h:aj w w') (hc:w.cell? a=some v):w'.cell? a=some v:=
 (Below.cell h (World.block_lt_of_cell? w a hc)).trans hc
theorem Blk.rd {w:World} {g:Nat} {t:TypeId} {cs:Array Value} (h:Blk w g t cs) (i:Nat) {v:Value} (hv:cs[i]? =some v):w.cell? ⟨g,i,none⟩=some v:=by rw [h.cell i];exact hv
def dp (cs:List Value) (o:Nat) (vs:List Value):List Value:=cs.take o++vs++cs.drop (o+vs.length)
theorem Cz (cs:List Value) (o:Nat) (v:Value) (vs:List Value) (h:o<cs.length):dp (cs.set o v) (o+1) vs=dp cs o (v::vs):=by
 unfold dp
 have h1:(cs.set o v).take (o+1)=cs.take o++[v]:=by
  rw [List.take_set];have:cs.take (o+1)=cs.take o++[cs[o]]:=(List.take_append_getElem h).symm;rw [this,List.set_append_right _ _ (by simp;omega)];have hm:min o cs.length=o:=by omega
  simp [hm]
 have h2:(cs.set o v).drop (o+1+vs.length)=cs.drop (o+(v::vs).length):=by
  rw [List.drop_set_of_lt (by omega)];simp only [List.length_cons]
  congr 1
  omega
 rw [h1,h2];simp
theorem Blk.sets {t:TypeId} {g:Nat}:∀ (vs:List Value) (o:Nat) {w:World} {cs:List Value},Blk w g t cs.toArray→o+vs.length≤cs.length→Blk (w.setCells g o vs) g t (dp cs o vs).toArray
 |[],o,w,cs,h,_=>by
  have:dp cs o []=cs:=by simp [dp]
  rw [this];exact h
 |v::vs,o,w,cs,h,hl=>by
  simp only [List.length_cons] at hl;have h1:=h.set_ o v;rw [List.setIfInBounds_toArray] at h1;have:=Blk.sets vs (o+1) h1 (by simp;omega);rw [Cz cs o v vs (by omega)] at this;exact this
theorem cH.sets {g:Nat}:∀ (vs:List Value) (o:Nat) (w:World),cH g w (w.setCells g o vs)
 |[],_,_=>cH.rfl_
 |v::vs,o,w=>(cH.setCell w g o v).trans (cH.sets vs (o+1) _)
theorem Blk.there {w:World} {g:Nat} {t:TypeId} {cs:Array Value} (h:Blk w g t cs) (o n:Nat) (hl:o+n≤cs.size):w.there g o n:=fun j hj=>
 ⟨by rw [h.cell];simp [show o+j<cs.size by omega],h.frozen _⟩
theorem Blk.range {w:World} {g:Nat} {t:TypeId} {cs:List Value} (h:Blk w g t cs.toArray) (o:Nat) (vs:List Value) (hl:∀ j v,vs[j]? =some v→cs[o+j]? =some v):w.rangeAt g o vs:=fun j v hv=>by
 rw [h.cell];simpa using hl j v hv
theorem Blk.whole {w:World} {g:Nat} {t:TypeId} {cs:List Value} (h:Blk w g t cs.toArray):w.rangeAt g 0 cs:=h.range 0 cs fun j v hv=>by rw [Nat.zero_add];exact hv
theorem du {w w':World} {b o:Nat} {cs:List Value} (h:aj w w') (hc:w.rangeAt b o cs):w'.rangeAt b o cs:=fun j v hv=>bx h (hc j v hv)
section
variable {P:Program} {ops:Array Oper} {Q:Exit→Act→World→Prop} {rest:List Oper} {n:Fr} {L:List (Nat×Value)} {w:World} {ty:TypeId} {pos:String} {after:Array Edge} {d:Nat} {t:TypeId} {x y:Operand}
theorem cK {v:Value} (hx:ev n L x=v) (k:∀ b w',aj w w'→b=w.heap.size→Blk w' b t v.cells→St P ops Q rest n ((d,.pointer (some ⟨b,0,none⟩))::L) w') :
 St P ops Q (⟨some d,.box t x,ty,pos,after,none⟩::rest) n L w:=
 ae (xH hx) (k _ _ (aj.rfl_.new _) rfl (Blk.new w t _))
theorem dI {z:Value} (hz:lN P t=some z) (k:∀ b w',aj w w'→b=w.heap.size→Blk w' b t z.cells→St P ops Q rest n ((d,.pointer (some ⟨b,0,none⟩))::L) w') :
 St P ops Q (⟨some d,.alloc t,ty,pos,after,none⟩::rest) n L w:=
 ae (CZ hz) (k _ _ (aj.rfl_.new _) rfl (Blk.new w t _))
theorem bH {g i:Nat} {u:TypeId} {cs:Array Value} {v:Value} (ht:dK P t=some 1) (hx:ev n L x=.pointer (some ⟨g,i,none⟩)) (hy:ev n L y=v) (h1:v.oneCell'=true) (hb:Blk w g u cs) (hi:i<cs.size)
 (k:∀ w',cH g w w'→Blk w' g u (cs.setIfInBounds i v)→St P ops Q rest n L w'):St P ops Q (⟨none,.store t x y,ty,pos,after,none⟩::rest) n L w:=by
 have hc:w.cell? ⟨g,i,none⟩=some (cs[i]'hi):=by rw [hb.cell];simp [hi]
 exact nI (qP ht hx hy h1 hc (hb.frozen i)) (k _ (cH.setCell w g i v) (hb.set_ i v))
theorem Fi {g i:Nat} {u:TypeId} {cs vs:List Value} (ht:dK P t=some vs.length) (hx:ev n L x=.pointer (some ⟨g,i,none⟩)) (hy:ev n L y=.agg vs.toArray) (h1:∀ v∈vs,v.oneCell'=true) (hb:Blk w g u cs.toArray) (hi:i+vs.length≤cs.length)
 (k:∀ w',cH g w w'→Blk w' g u (dp cs i vs).toArray→St P ops Q rest n L w'):St P ops Q (⟨none,.store t x y,ty,pos,after,none⟩::rest) n L w:=
 nI (oQ ht hx hy h1 (hb.there i vs.length (by simpa using hi))) (k _ (cH.sets vs i w) (Blk.sets vs i hb hi))
theorem Dk (cs vs:List Value) (h:vs.length=cs.length):dp cs 0 vs=vs:=by
 unfold dp;simp [h]
theorem fR {g:Nat} {u:TypeId} {cs:Array Value} {vs:List Value} (ht:dK P t=some vs.length) (hx:ev n L x=.pointer (some ⟨g,0,none⟩)) (hy:ev n L y=.agg vs.toArray) (h1:∀ v∈vs,v.oneCell'=true) (hb:Blk w g u cs) (hi:vs.length=cs.size)
 (k:∀ w',cH g w w'→Blk w' g u vs.toArray→St P ops Q rest n L w'):St P ops Q (⟨none,.store t x y,ty,pos,after,none⟩::rest) n L w:=by
 refine Fi (cs:=cs.toList) (u:=u) ht hx hy h1 (by simpa using hb) (by simp;omega) fun w' o b=>?_
 rw [Dk cs.toList vs (by simp;omega)] at b;exact k w' o b
def kB (P:Program) (t:TypeId):Option (TypeId×Nat×Value):=match P.underlying t with | some (.slice e)=>(P.info? e).bind fun i=>if i.size=1 then i.zero.map fun z=>(e,i.bytes,z) else none | _=>none
theorem gi {e by_ m:Nat} {z:Value} {kl kc:IntKind} (ht:kB P t=some (e,by_,z)) (hz:z.cells=#[z]) (hx:ev n L x=.int kl (m:Nat)) (hy:ev n L y=.int kc (m:Nat)) (hm:m≤9223372036854775807) (hb:by_*m≤281474976710656)
 (k:∀ g w',aj w w'→g=w.heap.size→Blk w' g e (List.replicate m z).toArray→St P ops Q rest n ((d,.slice (some ⟨g,0,none⟩) m m)::L) w'):St P ops Q (⟨some d,.makeSlice t x y,ty,pos,after,none⟩::rest) n L w:=by
 unfold kB at ht;split at ht
 ·rename_i e' hu;cases hi:P.info? e' with
  |none=>simp [hi] at ht
  |some i=>
   rw [hi] at ht;simp only [Option.bind_some] at ht;split at ht
   ·rename_i hs;cases hzz:i.zero with
    |none=>simp [hzz] at ht
    |some z'=>
     simp only [hzz,Option.map_some,Option.some.injEq,Prod.mk.injEq] at ht;obtain ⟨rfl,rfl,rfl⟩:=ht
     have hr:=run_make (P:=P) w t e' i z' hu hi hzz kl kc (m:Int) (m:Int) (by omega) (Int.le_refl _) (by
      have:((i.bytes*m:Nat):Int)≤281474976710656:=by omega
      rwa [Int.natCast_mul] at this) (by omega)
     have hcells:madeCells z'.cells ((m:Int).toNat*i.size)=(List.replicate m z').toArray:=by
      rw [hs,Int.toNat_natCast,Nat.mul_one,hz];apply Array.ext_getElem?;intro j;simp only [madeCells,Array.getElem?_map];by_cases hj:j<m
      ·simp [hj,Nat.mod_one]
      ·simp [hj]
     rw [hcells,Int.toNat_natCast] at hr;refine ae (v:=.slice (some ⟨w.heap.size,0,none⟩) m m) (w':=w.alloc (.cells (List.replicate m z').toArray e')) (fun _ _ _ _ _=>?_) (k _ _ (aj.rfl_.new _) rfl (Blk.new w e' _));simp [execOp,hx,hy,hr]
   ·cases ht
 ·cases ht
end
end Go.Proofs.YtcbakncjacnnjaaGreat
namespace Go.Proofs.YtcbakncjacnnjaaGreat
open Go.Proofs.Tryz (prog)
open Go.RowKit
def bA {α:Type} (f:α→Value) (w:World) (A:Option Addr) (l:List α):Prop:=
 0<l.length→∃ b o,A=some ⟨b,o,none⟩∧∀ i (h:i<l.length),w.cell? ⟨b,o+i,none⟩=some (f l[i])
theorem bA.from_ {α:Type} {f:α→Value} {w w':World} {A:Option Addr} {l:List α} (h:bA f w A l) (hw:aj w w'):bA f w' A l:=fun h0=>
 let ⟨b,o,hA,hc⟩:=h h0
 ⟨b,o,hA,fun i hi=>bx hw (hc i hi)⟩
theorem bA.of_row {α:Type} {f:α→Value} {w:World} {A:Option Addr} {n cap:Nat} {l:List α} (h:Row w (.slice A n cap) (l.map f)):n=l.length∧bA f w A l:=by
 obtain ⟨A',c',he,hp⟩:=CL h;simp only [Value.slice.injEq] at he;obtain ⟨rfl,rfl,rfl⟩:=he;exact ⟨rfl,fun h0=>let ⟨b,o,hA,_,hc⟩:=hp h0;⟨b,o,hA,hc⟩⟩
theorem bA.blk {α:Type} {f:α→Value} {w:World} {g:Nat} {t:TypeId} {cs:Array Value} {l:List α} (h:Blk w g t cs) (hl:∀ i (hi:i<l.length),cs[i]? =some (f l[i])):bA f w (some ⟨g,0,none⟩) l:=fun _=>
 ⟨g,0,rfl,fun i hi=>by rw [Nat.zero_add,h.cell];exact hl i hi⟩
theorem bA.own {α:Type} {f:α→Value} {w:World} {base:Nat} {e:TypeId} {A:Option Addr} {n cap:Nat} {l:List α} (h:w.ownsRow base e 1 (.slice A n cap) n (l.map f)):n=l.length∧bA f w A l:=bA.of_row (Row.of_own h)
structure But (g:Nat) (w w':World):Prop where
 os:w'.os=w.os
 tape:w'.tape=w.tape
 output:w'.output=w.output
 size:w.heap.size≤w'.heap.size
 block:∀ k,k<w.heap.size→k≠g→w'.heap[k]? =w.heap[k]?
abbrev bV (x:Nat):Value:=.int .u8 x
abbrev uV (x:Nat):Value:=.int .u64 x
abbrev iV (x:Int):Value:=.int .i64 x
def fH (P:Program) (t:TypeId):Option (TypeId×Nat×Nat×Value):=match P.underlying t with | some (.slice e)=>(P.info? e).bind fun i=>i.zero.map fun z=>(e,i.size,i.bytes,z) | _=>none
theorem lY {P:Program} {t e size by_:Nat} {z:Value} (h:fH P t=some (e,size,by_,z)):∃ i,P.underlying t=some (.slice e)∧P.info? e=some i∧i.size=size∧i.bytes=by_∧i.zero=some z:=by
 unfold fH at h;split at h
 ·rename_i e' hu;cases hi:P.info? e' with
  |none=>simp [hi] at h
  |some i=>
   rw [hi] at h;cases hz:i.zero with
   |none=>simp [hz] at h
   |some z'=>
    simp only [Option.bind_some,hz,Option.map_some,Option.some.injEq,Prod.mk.injEq] at h;obtain ⟨rfl,rfl,rfl,rfl⟩:=h;exact ⟨i,hu,hi,rfl,rfl,hz⟩
 ·cases h
section
variable {P:Program} {ops:Array Oper} {Q:Exit→Act→World→Prop} {rest:List Oper} {n:Fr} {L:List (Nat×Value)} {w:World} {ty:TypeId} {pos:String} {after:Array Edge} {d:Nat} {t:TypeId} {x s:Operand}
theorem qT {ρ:Operand→Value} {e m size by_:Nat} {l:List (Nat×Operand)} {cells:Array Value} {z:Value} (hq:fH P t=some (e,size,by_,z)) (hsmall:Nat.ble (m*size) 16777216=true) (hpos:Nat.beq (m*size) 0=false)
 (hf:Instr.fill (fun i=>some (i*size,size)) ((Array.range (m*size)).map (z.cells[·%z.cells.size]!)) (l.map fun p=>(p.1,ρ p.2))=some cells) :
 RO P ρ (.buildSlice t m l.toArray) w (.slice (some ⟨w.heap.size,0,none⟩) m m) (w.alloc (.cells cells e)):=by
 obtain ⟨i,hu,hi,hs,_,hz⟩:=lY hq;subst hs;refine sG hu hi hz ?_ ?_ hf
 ·have:=Nat.le_of_ble_eq_true hsmall;omega
 ·intro h0;rw [h0] at hpos;cases hpos
theorem xB {e m size by_:Nat} {l:List (Nat×Operand)} {cells:Array Value} {z:Value} (hq:fH P t=some (e,size,by_,z)) (hsmall:Nat.ble (m*size) 16777216=true) (hpos:Nat.beq (m*size) 0=false)
 (hf:Instr.fill (fun i=>some (i*size,size)) ((Array.range (m*size)).map (z.cells[·%z.cells.size]!)) (l.map fun p=>(p.1,ev n L p.2))=some cells)
 (k:∀ g w',aj w w'→g=w.heap.size→Blk w' g e cells→St P ops Q rest n ((d,.slice (some ⟨g,0,none⟩) m m)::L) w'):St P ops Q (⟨some d,.buildSlice t m l.toArray,ty,pos,after,none⟩::rest) n L w:=
 ae (qT hq hsmall hpos hf) (k _ _ (aj.rfl_.new _) rfl (Blk.new w e _))
theorem fy {e by_:Nat} {z v:Value} (hq:fH P t=some (e,1,by_,z)) (_:z.cells.size=1) (hx:ev n L x=v) (hv:v.cells=#[v])
 (k:∀ g w',aj w w'→g=w.heap.size→Blk w' g e #[v]→St P ops Q rest n ((d,.slice (some ⟨g,0,none⟩) 1 1)::L) w'):St P ops Q (⟨some d,.buildSlice t 1 #[(0,x)],ty,pos,after,none⟩::rest) n L w:=by
 refine xB (l:=[(0,x)]) (cells:=#[v]) hq rfl rfl ?_ k
 have e1:(Array.range (1*1)).map (z.cells[·%z.cells.size]!)=#[z.cells[0]!]:=by
  rw [show Array.range (1*1)=#[0] from rfl];simp
 rw [e1];simp [Instr.fill,hx,hv]
def DB {α:Type}:Nat→List α→List (Nat×α)
 |_,[]=>[]
 |i,x::r=>(i,x)::DB (i+1) r
theorem dB {base:Nat} {A A2:Option Addr} {m j cap c2 e size by_:Nat} {z:Value} {xs news:List Value} (hq:fH P t=some (e,size,by_,z)) (hzs:z.cells.size=size) (hs0:0<size)
 (hs:ev n L s=.slice A m cap) (hown:w.ownsRow base e size (.slice A m cap) m xs) (hB:base≤w.heap.size)
 (hx:ev n L x=.slice A2 j c2) (hl:news.length=j*size) (hsrc:0<j→∃ b o,A2=some ⟨b,o,none⟩∧w.rangeAt b o news) (hnil:A2=none→c2=0) (h1:∀ u∈news,u.oneCell'=true) (h63:m+j≤9223372036854775807) (hby:(m+j)*by_≤140737488355328)
 (k:∀ A' cap' w',w'.ownsRow base e size (.slice A' (m+j) cap') (m+j) (xs++news)→w.grownBy w' (A.map (·.block))→St P ops Q rest n ((d,.slice A' (m+j) cap')::L) w') :
 St P ops Q (⟨some d,.call { callee:=.builtin .append,args:=#[s,x],argTypes:=#[t,t] },ty,pos,after,none⟩::rest) n L w:=by
 obtain ⟨i,hu,hi,hsz,hb,hz⟩:=lY hq;have hobl:(Value.slice A m cap).ownBlock=A.map (·.block):=by cases A <;> rfl
 cases A2 with
 |none=>
  have hj:j=0:=by
   rcases Nat.eq_zero_or_pos j with h | h
   ·exact h
   ·obtain ⟨b,o,hA,_⟩:=hsrc h;cases hA
  subst hj;have hnn:news=[]:=List.eq_nil_of_length_eq_zero (by simpa using hl);subst hnn;have hc:=hnil rfl;subst hc;refine ⟨wpList_append_own_none (P:=P) (a:=mkA n L) rfl s x t rfl base e i size hu hi _ m xs (by rw [bU];exact hs) hown (by rw [bU];exact hx) ?_⟩;rw [dY];have:=k A cap w (by simpa using hown) (World.grownBy.refl _ _);simpa using this.out
 |some ad=>
  by_cases hj:j=0
  ·subst hj;have hnn:news=[]:=List.eq_nil_of_length_eq_zero (by simpa using hl);subst hnn;refine ⟨wpList_append_own (P:=P) w (a:=mkA n L) rfl s x t rfl base e i z size by_ hu hi hz hsz hb hzs hs0 _ m xs (by rw [bU];exact hs) hown ad 0 c2 [] (by rw [bU];exact hx) (by simp) (by simp) (by simp) (by unfold maxLen;omega) hby hB ?_⟩;intro v' w' hown' hg _;obtain ⟨A',cap',rfl⟩:=nT hown';rw [dY];exact (k A' cap' w' hown' (by rw [←hobl];exact hg)).out
  ·obtain ⟨b,o,hA,hr⟩:=hsrc (by omega);cases hA;refine ⟨wpList_append_own (P:=P) w (a:=mkA n L) rfl s x t rfl base e i z size by_ hu hi hz hsz hb hzs hs0 _ m xs (by rw [bU];exact hs) hown ⟨b,o,none⟩ j c2 news (by rw [bU];exact hx) hl (fun i u hu=>by rw [Addr.add_mid];exact hr i u hu) h1 (by unfold maxLen;omega) hby hB ?_⟩;intro v' w' hown' hg _;obtain ⟨A',cap',rfl⟩:=nT hown';rw [dY];exact (k A' cap' w' hown' (by rw [←hobl];exact hg)).out
theorem mo {a0:World} {A A2:Option Addr} {m j cap c2 e size by_:Nat} {z:Value} {xs news:List Value} (hq:fH P t=some (e,size,by_,z)) (hzs:z.cells.size=size) (hs0:0<size)
 (hs:ev n L s=.slice A m cap) (hown:w.ownsRow a0.heap.size e size (.slice A m cap) m xs) (hB:aj a0 w)
 (hx:ev n L x=.slice A2 j c2) (hl:news.length=j*size) (hsrc:0<j→∃ b o,A2=some ⟨b,o,none⟩∧w.rangeAt b o news) (hnil:A2=none→c2=0) (h1:∀ u∈news,u.oneCell'=true) (h63:m+j≤9223372036854775807) (hby:(m+j)*by_≤140737488355328)
 (k:∀ A' cap' w',w'.ownsRow a0.heap.size e size (.slice A' (m+j) cap') (m+j) (xs++news)→aj a0 w'→w.grownBy w' (A.map (·.block))→St P ops Q rest n ((d,.slice A' (m+j) cap')::L) w') :
 St P ops Q (⟨some d,.call { callee:=.builtin .append,args:=#[s,x],argTypes:=#[t,t] },ty,pos,after,none⟩::rest) n L w:=
 dB hq hzs hs0 hs hown hB.size hx hl hsrc hnil h1 h63 hby fun A' cap' w' ho hg=>k A' cap' w' ho (hB.grew hg (fun k' hk=>(hown.lt k' (by rw [←hk];cases A <;> rfl)).1)) hg
theorem qK {a0:World} {A:Option Addr} {m cap e by_ b:Nat} {z v:Value} {xs:List Value} (hq:fH P t=some (e,1,by_,z)) (hzs:z.cells.size=1)
 (hs:ev n L s=.slice A m cap) (hown:w.ownsRow a0.heap.size e 1 (.slice A m cap) m xs) (hB:aj a0 w)
 (hx:ev n L x=.slice (some ⟨b,0,none⟩) 1 1) (hb:Blk w b e #[v]) (h1:v.oneCell'=true) (h63:m+1≤9223372036854775807) (hby:(m+1)*by_≤140737488355328)
 (k:∀ A' cap' w',w'.ownsRow a0.heap.size e 1 (.slice A' (m+1) cap') (m+1) (xs++[v])→aj a0 w'→w.grownBy w' (A.map (·.block))→St P ops Q rest n ((d,.slice A' (m+1) cap')::L) w') :
 St P ops Q (⟨some d,.call { callee:=.builtin .append,args:=#[s,x],argTypes:=#[t,t] },ty,pos,after,none⟩::rest) n L w:=
 mo hq hzs (by decide) hs hown hB hx rfl (fun _=>⟨b,0,rfl,fun i u hu=>by
  cases i with
  |zero=>simp at hu;subst hu;rw [hb.cell];rfl
  |succ i=>simp at hu⟩) (fun h=>by cases h) (by simpa using h1) h63 hby k
end
theorem dm {w:World} {base e s n c:Nat} {A:Option Addr} {xs:List Value} (h:w.ownsRow base e s (.slice A n c) n xs) (hn:0<n):∃ g,A=some ⟨g,0,none⟩:=by
 rcases h.2 with ⟨_,h0⟩ | ⟨g,cap,cur,hv,_⟩
 ·omega
 ·simp only [Value.slice.injEq] at hv;exact ⟨g,hv.1⟩
theorem Gg {α:Type} {f:α→Value} {w:World} {base e n:Nat} {v:Value} {l:List α} (h:w.ownsRow base e 1 v n (l.map f)):l.length=n:=by simpa using h.1
theorem ra {α:Type} {f:α→Value} {w:World} {base e g n c:Nat} {l:List α} (h:w.ownsRow base e 1 (.slice (some ⟨g,0,none⟩) n c) n (l.map f)) (i:Nat) (hi:i<l.length):w.cell? ⟨g,i,none⟩=some (f l[i]):=by
 rw [h.cellAt i (by rw [←Gg h];omega)];simp [hi]
theorem aN {w w1 w2:World} {r:Option Nat} (h:w.grownBy w1 r) (k:w1.grownBy w2 r):w.grownBy w2 r:=
 ⟨k.os.trans h.os,k.tape.trans h.tape,k.output.trans h.output,Nat.le_trans h.size k.size,fun i hi hg=>(k.block i (Nat.lt_of_lt_of_le hi h.size) hg).trans (h.block i hi hg)⟩
theorem cH.grown {g:Nat} {w w':World} (h:cH g w w'):w.grownBy w' (some g):=⟨h.os,h.tape,h.output,by rw [h.size];exact Nat.le_refl _,fun k _ hk=>h.block k (fun e=>hk (by rw [e]))⟩
theorem aj.grown {w w':World} (h:aj w w') (r:Option Nat):w.grownBy w' r:=⟨h.os,h.tape,h.output,h.size,fun k hk _=>h.block k hk⟩
theorem lV {w w':World} {r:Option Nat} {base e s n:Nat} {v:Value} {xs:List Value} (h:w.ownsRow base e s v n xs) (hg:w.grownBy w' r) (hne:∀ k,r=some k→k<base):w'.ownsRow base e s v n xs:=by
 refine h.kept hg ?_;cases hv:v.ownBlock with
 |none=>exact .inl rfl
 |some k=>
  refine .inr fun e=>?_
  have:=(h.lt k hv).1;have:=hne k e.symm;omega
end Go.Proofs.YtcbakncjacnnjaaGreat
namespace Go.Proofs.YtcbakncjacnnjaaGreat
open Go.Proofs.Tryz (prog)
open Go.RowKit
structure RV (P:Program) (n:Fr) (L:List (Nat×Value)) (w:World) (r:ResultVar) (v:Value):Prop where
 out:match r with
  | .tmp t=>(mkT n.n L)[t]?.getD undef=v
  | .cell a t=>∃ ad,(mkT n.n L)[a]?.getD undef=.pointer (some ad)∧(loadVar t ad).run P w=.ok v w
section
variable {P:Program} {n:Fr} {L:List (Nat×Value)} {w:World} {fn:Func}
theorem Ef {t:Nat} {v:Value} (h:ev n L (.tmp t)=v):(mkT n.n L)[t]?.getD undef=v:=by
 have:=hZ n.n L t;rw [←Array.getD_eq_getD_getElem?,this];exact h
theorem CH {t:Nat} {v:Value} (h:ev n L (.tmp t)=v):RV P n L w (.tmp t) v:=⟨Ef h⟩
theorem e_ {t ty:Nat} {ad:Addr} {v:Value} (ht:fp P ty=some false) (hx:ev n L (.tmp t)=.pointer (some ad)) (hc:w.cell? ad=some v):RV P n L w (.cell t ty) v:=⟨ad,Ef hx,by simp [loadVar,kJ ht,hc]⟩
theorem vD {t ty b off:Nat} {cs:List Value} (ht:fp P ty=some true) (hs:dK P ty=some cs.length) (hx:ev n L (.tmp t)=.pointer (some ⟨b,off,none⟩)) (hc:w.rangeAt b off cs):RV P n L w (.cell t ty) (.agg cs.toArray):=⟨_,Ef hx,by
 have hl:(loadCells ⟨b,off,none⟩ cs.length).run P w=.ok cs.toArray w:=
  run_loadCells_list (P:=P) w ⟨b,off,none⟩ cs (fun j v hv=>by rw [Addr.add_mid];exact hc j v hv)
 simp [loadVar,kJ ht,dG hs,hl]⟩
theorem eR {ρ:Operand→Value} {op:Op} {w':World} {v v':Value} (h:RO P ρ op w v w') (he:v=v'):RO P ρ op w v' w':=he ▸ h
theorem jE {ρ:Operand→Value} {op:Op} {w':World} {b:Bool} (h:RO P ρ op w (.bool b) w') (he:b=true):RO P ρ op w (.bool true) w':=he ▸ h
theorem dS {ρ:Operand→Value} {op:Op} {w':World} {b:Bool} (h:RO P ρ op w (.bool b) w') (he:b=false):RO P ρ op w (.bool false) w':=he ▸ h
theorem Ib {ρ:Operand→Value} {x y:Operand} {k:IntKind} {a b:Int} {ats:Array TypeId} (hx:ρ x=.int k a) (hy:ρ y=.int k b):RO P ρ (.call { callee:=.builtin .min,args:=#[x,y],argTypes:=ats }) w (.int k (min a b)) w:=fun _ _ _ _ _=>by
 have h:(if b<a then b else a)=min a b:=by split <;> omega
 simp [BigFrame.execOp_builtin,BigFrame.builtin_min,hx,hy,run_min_int2,h]
def iZ (A:Option Addr) (c l sz:Nat):Option Addr:=if c=l then A else A.map fun x=>x.add (l*sz)
theorem bm {ρ:Operand→Value} {x:Operand} {t e sz l h m c:Nat} {A:Option Addr} (ht:cN P t=some (e,sz)) {lo hi:Option Operand} (hx:ρ x=.slice A m c)
 (hl:(lo=none∧l=0)∨∃ y k i,lo=some y∧ρ y=.int k i∧i=(l:Int)) (hh:(hi=none∧h=m)∨∃ y k i,hi=some y∧ρ y=.int k i∧i=(h:Int)) (h1:l≤h) (h2:h≤c) :
 RO P ρ (.slice t x lo hi none) w (.slice (iZ A c l sz) (h-l) (c-l)) w:=fun _ _ _ _ _=>by
 obtain ⟨hu,hs⟩:=jj ht;have hE:P.elem t=e:=by simp [Program.elem,hu]
 have hu':P.underlying t=some (.slice (P.elem t)):=by rw [hE];exact hu
 have fin:(Result.ok (sliced A l h c sz) w:Result Value)=.ok (.slice (iZ A c l sz) (h-l) (c-l)) w:=by
  simp only [sliced,iZ]
 rcases hl with ⟨rfl,rfl⟩ | ⟨y1,k1,_,rfl,hy1,rfl⟩ <;> rcases hh with ⟨rfl,rfl⟩ | ⟨y2,k2,_,rfl,hy2,rfl⟩
 ·simp only [execOp,hx,Option.map_none,Sem.run_bind];rw [run_sliceAt_slice w t _ _ _ _ hu',run_slice_all w t _ _ c hu',hE,dG hs,Result.andThen_ok,fin];rfl
 ·simp only [execOp,hx,hy2,Option.map_none,Option.map_some,Sem.run_bind];rw [run_sliceAt_slice w t _ _ _ _ hu',run_slice_h w t _ m c hu' k2 (h:Int) (by omega) (by omega),hE,dG hs,Result.andThen_ok,Int.toNat_natCast,fin];rfl
 ·simp only [execOp,hx,hy1,Option.map_none,Option.map_some,Sem.run_bind];rw [run_sliceAt_slice w t _ _ _ _ hu',run_slice_l w t _ _ c hu' k1 (l:Int) (by omega) (by omega),hE,dG hs,Result.andThen_ok,Int.toNat_natCast,fin];rfl
 ·simp only [execOp,hx,hy1,hy2,Option.map_none,Option.map_some,Sem.run_bind];rw [run_sliceAt_slice w t _ _ _ _ hu',run_slice_lh w t _ m c hu' k1 k2 (l:Int) (h:Int) (by omega) (by omega) (by omega),hE,dG hs,Result.andThen_ok,Int.toNat_natCast,Int.toNat_natCast,fin];rfl
theorem Jr {m:Nat} {r:ResultVar} {R:Value→World→Prop} {v:Value} (hr:fn.results=#[r]) (h1:RV P ⟨m,[]⟩ L w r v) (h:R v w) :
 bodyPost P fn (fun e w'=>∃ v,e=.returned v∧R v w') .ret (mkA ⟨m,[]⟩ L) w:=by
 refine bodyPost_ret (v:=v) ?_ rfl ⟨v,rfl,h⟩;have e1:=h1.out;show (results fn (mkT m L)).run P w=_;cases r <;> simp_all only [] <;> (try obtain ⟨_,_,_⟩:=e1) <;> simp_all [results,asAddr]
theorem Jq {m:Nat} {r r' r'':ResultVar} {R:Value→World→Prop} {v v' v'':Value} (hr:fn.results=#[r,r',r'']) (h1:RV P ⟨m,[]⟩ L w r v) (h2:RV P ⟨m,[]⟩ L w r' v') (h3:RV P ⟨m,[]⟩ L w r'' v'') (h:R (.tuple #[v,v',v'']) w) :
 bodyPost P fn (fun e w'=>∃ v,e=.returned v∧R v w') .ret (mkA ⟨m,[]⟩ L) w:=by
 refine bodyPost_ret (v:=.tuple #[v,v',v'']) ?_ rfl ⟨_,rfl,h⟩;have e1:=h1.out;have e2:=h2.out;have e3:=h3.out;show (results fn (mkT m L)).run P w=_;cases r <;> cases r' <;> cases r'' <;> simp_all only [] <;> (try obtain ⟨_,_,_⟩:=e1) <;> (try obtain ⟨_,_,_⟩:=e2) <;> (try obtain ⟨_,_,_⟩:=e3) <;> simp_all [results,asAddr]
end
end Go.Proofs.YtcbakncjacnnjaaGreat
namespace Go.Proofs.YtcbakncjacnnjaaGreat
open Go.Proofs.Tryz (prog)
open Go.RowKit
structure PQ (Q:Exit→Act→World→Prop):Prop where
 out:∀ (d:Option Nat) (v:Value) (c:List PanicEntry) (a:Act) (w:World),Q (.panic c) (a.put d v) w→Q (.panic c) a w
theorem cm {K:Act→World→Prop} {Q:Exit→Act→World→Prop} (h:PQ Q):PQ (Exit.then K Q):=⟨fun d v c a w hq=>h.out d v c a w hq⟩
theorem bO {id:Nat} {Q:Exit→Act→World→Prop} (h:PQ Q):PQ (Exit.inBlock id Q):=⟨fun d v c a w hq=>h.out d v c a w hq⟩
theorem cy {P:Program} {fn:Func} {R:Ending→World→Prop}:PQ (bodyPost P fn R):=⟨fun d v c a w hq=>by
 cases d with
 |none=>exact hq
 |some d=>exact hq⟩
def pK:Op→Bool | .move _=>true | .assign _=>true | .extract _ _=>true | _=>false
theorem rp {P:Program} {ρ:Operand→Value} {o:Oper} (h:pK o.op=true) {w w':World} {r:Next} (hr:(execOp ρ o).run P w=.ok r w'):w'=w∧∀ w2,(execOp ρ o).run P w2=.ok r w2:=by
 obtain ⟨dst,op,ty,pos,after,guard⟩:=o;cases op <;> simp only [pK,Bool.false_eq_true] at h
 ·simp only [execOp,Sem.run_pure,Result.ok.injEq] at hr ⊢;exact ⟨hr.2.symm,fun w2=>⟨hr.1,trivial⟩⟩
 ·simp only [execOp,Sem.run_pure,Result.ok.injEq] at hr ⊢;exact ⟨hr.2.symm,fun w2=>⟨hr.1,trivial⟩⟩
 ·rename_i x i;simp only [execOp,Sem.run_bind] at hr ⊢;cases hx:ρ x <;> simp only [hx,Instr.extract] at hr ⊢ <;> (try (simp at hr;done))
  rename_i vs;cases hv:vs[i]? <;> simp [hv] at hr ⊢
  exact ⟨hr.2.symm,hr.1⟩
def DI (l:List Oper) (K j:Nat):Bool:=(List.range l.length).any fun i=>decide (K≤i)&&(match l[i]? with | some o=> !ji o j | none=>false)
def JG (l:List Oper) (K:Nat):Bool:=
 (List.range K).all fun j=> !DI l K j||match l[j]? with
  |none=>false
  |some o=>pK o.op&&o.guard.isNone&&o.dst.isSome&&(List.range l.length).all fun i=>i==j||match l[i]? with
   |none=>false
   |some y=>(if i<K then !DI l K i else ji y j)||o.apart l.toArray y
def Kv (l:List Oper) (K:Nat):Bool:=
 let ops:=l.toArray
 let dst (i:Nat):Option Nat:=(l[i]?).bind (·.dst)
 (decide (K≤l.length)&&
 (List.range l.length).all fun i=>match l[i]? with
  |none=>false
  |some o=>
   (o.after.toList.all fun e=> !Region.binds .any e||decide (e.on<i))&&!dq o.op&&
   (if i<K then
    (match o.dst with
     |none=>false
     |some d=>(List.range K).all (fun j=>j==i||dst j != some d)&&!((o.looksAt ops).elem d))&&
    (List.range K).all (fun j=>match dst j with
     |none=>false
     |some d=> !(o.looksAt ops).elem d||(decide (j<i)&&ji o j))
    else (List.range i).all (fun j=>ji o j||decide (j<K))))&&JG l K
section late
variable {P:Program} {Q:Exit→Act→World→Prop} {n:Fr} {L:List (Nat×Value)} {w:World} {l:List Oper} {K:Nat} {R:Nat→Value→World→Prop}
def eB (l:List Oper) (f:Nat→Value):List Nat→Act→Act
 |[],a=>a
 |i::r,a=>(eB l f r a).put ((l[i]?).bind (·.dst)) (f i)
theorem vR {f:Nat→Value} {x:Option Nat} {v:Value}:∀ (U:List Nat) (a:Act),(∀ i∈U,∀ d,x=some d→(l[i]?).bind (·.dst)≠some d)→eB l f U (a.put x v)=(eB l f U a).put x v
 |[],_,_=>rfl
 |i::r,a,h=>by
  show (eB l f r (a.put x v)).put _ _=((eB l f r a).put _ _).put _ _;rw [vR r a (fun j hj=>h j (List.mem_cons_of_mem _ hj))];exact Act.put_comm _ _ _ (h i (List.mem_cons_self ..))
theorem q5 {f:Nat→Value} {i:Nat}:∀ (U:List Nat) (a:Act),i∈U→U.Nodup→(∀ j∈U,j≠i→∀ d,(l[i]?).bind (·.dst)=some d→(l[j]?).bind (·.dst)≠some d)→eB l f (U.erase i) (a.put ((l[i]?).bind (·.dst)) (f i))=eB l f U a
 |[],_,h,_,_=>by cases h
 |j::r,a,h,hn,hd=>by
  obtain ⟨hn1,hn2⟩:=List.nodup_cons.1 hn;by_cases e:j=i
  ·subst e;rw [List.erase_cons_head];exact vR r a (fun k hk=>hd k (List.mem_cons_of_mem _ hk) (fun e=>hn1 (e ▸ hk)))
  ·rw [List.erase_cons_tail (by simpa using e)];show (eB l f (r.erase i) _).put _ _=(eB l f r a).put _ _;rw [q5 r a ((List.mem_cons.1 h).resolve_left (fun h=>e h.symm)) hn2 (fun k hk=>hd k (List.mem_cons_of_mem _ hk))]
theorem qA {o y:Oper} {v u:Value} {a:Act} (hs:dq o.op=false) (hap:o.apart l.toArray y=true):Yields P l.toArray o v (a.put y.dst u)↔Yields P l.toArray o v a:=by
 have h3:=(Oper.apart_spec hap).2.2;have hs':∀ cs b,o.op≠.select cs b:=fun cs b e=>by rw [e] at hs;simp [dq] at hs
 exact ⟨fun h=>h.of_same (execOp_put o hs' a y.dst u h3).symm (wanted_put o a y.dst u h3).symm,fun h=>h.of_same (execOp_put o hs' a y.dst u h3) (wanted_put o a y.dst u h3)⟩
theorem lO {f:Nat→Value} {o:Oper} {v:Value} (hs:dq o.op=false):∀ (U:List Nat) (a:Act),(∀ i∈U,∃ y,l[i]? =some y∧o.apart l.toArray y=true)→(Yields P l.toArray o v (eB l f U a)↔Yields P l.toArray o v a)
 |[],_,_=>Iff.rfl
 |i::r,a,h=>by
  obtain ⟨y,hy,hap⟩:=h i (List.mem_cons_self ..);show Yields P l.toArray o v ((eB l f r a).put _ _)↔_;rw [hy];exact (qA hs hap).trans (lO hs r a (fun j hj=>h j (List.mem_cons_of_mem _ hj)))
theorem sY (hQ:PQ Q) {f:Nat→Value} {k:Nat} {o:Oper} (ho:l[k]? =some o) (hs:dq o.op=false):∀ (U:List Nat) (Kk:Act→World→Prop) (a:Act),U.Nodup→
 (∀ i∈U,∃ y,l[i]? =some y∧dq y.op=false∧y.apart l.toArray o=true∧Yields P l.toArray y (f i) a∧∀ j∈U,j≠i→∃ z,l[j]? =some z∧y.apart l.toArray z=true)→
 wpOp P l.toArray Q k Kk (eB l f U a) w→wpOp P l.toArray Q k (fun a' w'=>(∀ i∈U,∀ y,l[i]? =some y→Yields P l.toArray y (f i) a')∧Kk (eB l f U a') w') a w
 |[],Kk,a,_,_,h=>wpOp_mono (fun a w h=>⟨by simp,h⟩) h
 |i::r,Kk,a,hn,hU,h=>by
  obtain ⟨hn1,hn2⟩:=List.nodup_cons.1 hn;obtain ⟨y,hy,hsy,hap,hyl,hoth⟩:=hU i (List.mem_cons_self ..);have hr:∀ j∈r,∃ z,l[j]? =some z∧y.apart l.toArray z=true:=fun j hj=>hoth j (List.mem_cons_of_mem _ hj) (fun e=>hn1 (e ▸ hj))
  have hsel:∀ {x:Oper},dq x.op=false→∀ cs b,x.op≠.select cs b:=fun hs cs b e=>by rw [e] at hs;simp [dq] at hs
  have e0:eB l f (i::r) a=(eB l f r a).put y.dst (f i):=by
   show (eB l f r a).put _ _=_;rw [hy];rfl
  rw [e0] at h;have h1:=wpOp_put (P:=P) (ops:=l.toArray) (by rw [List.getElem?_toArray];exact ho) hap (hsel hsy) (hsel hs) (fun c a w=>hQ.out _ _ c a w) ((lO hsy r a hr).2 hyl) h
  have h2:=sY hQ ho hs r _ a hn2 (fun j hj=>by
   obtain ⟨z,h1,h2,h3,h4,h5⟩:=hU j (List.mem_cons_of_mem _ hj);exact ⟨z,h1,h2,h3,h4,fun k hk=>h5 k (List.mem_cons_of_mem _ hk)⟩) h1
  refine wpOp_mono (fun a' w' hh=>?_) h2;obtain ⟨g1,g2,g3⟩:=hh;refine ⟨fun j hj z hz=>?_,?_⟩
  ·rcases List.mem_cons.1 hj with rfl | hj
   ·rw [hy] at hz;cases hz;exact (lO hsy r a' hr).1 g2
   ·exact g1 j hj z hz
  ·show Kk ((eB l f r a').put _ _) w';rw [hy];exact g3
theorem nR {f:Nat→Value}:∀ (U:List Nat) (L':List (Nat×Value)),eB l f U (mkA n L')=mkA n ((U.filterMap fun i=>((l[i]?).bind (·.dst)).map fun d=>(d,f i))++L')
 |[],_=>rfl
 |i::r,L'=>by
  show (eB l f r (mkA n L')).put _ _=_;rw [nR r L',List.filterMap_cons];cases hd:(l[i]?).bind (·.dst) with
  |none=>rfl
  |some d=>
   rw [dY];rfl
theorem gM {f:Nat→Value} {L':List (Nat×Value)} {t:Nat}:∀ (U:List Nat),(∀ i∈U,(l[i]?).bind (·.dst)≠some t)→aY ((U.filterMap fun i=>((l[i]?).bind (·.dst)).map fun d=>(d,f i))++L') t=aY L' t
 |[],_=>rfl
 |i::r,h=>by
  rw [List.filterMap_cons];have h1:=h i (List.mem_cons_self ..);cases hd:(l[i]?).bind (·.dst) with
  |none=>exact gM r (fun j hj=>h j (List.mem_cons_of_mem _ hj))
  |some d=>
   simp only [Option.map_some,List.cons_append];rw [cg,if_neg (fun e=>h1 (by rw [hd,e]))];exact gM r (fun j hj=>h j (List.mem_cons_of_mem _ hj))
theorem jh {f:Nat→Value} {L':List (Nat×Value)} {i d:Nat}:∀ (U:List Nat),i∈U→(l[i]?).bind (·.dst)=some d→(∀ j∈U,j≠i→(l[j]?).bind (·.dst)≠some d)→aY ((U.filterMap fun i=>((l[i]?).bind (·.dst)).map fun d=>(d,f i))++L') d=f i
 |[],h,_,_=>by cases h
 |j::r,h,hd,hne=>by
  rw [List.filterMap_cons];by_cases e:j=i
  ·subst e;rw [hd];simp only [Option.map_some,List.cons_append];rw [cg,if_pos rfl]
  ·have h1:=hne j (List.mem_cons_self ..) e;have ih:=jh (f:=f) (L':=L') r ((List.mem_cons.1 h).resolve_left (fun h=>e h.symm)) hd (fun k hk=>hne k (List.mem_cons_of_mem _ hk));cases hdj:(l[j]?).bind (·.dst) with
   |none=>exact ih
   |some d'=>
    simp only [Option.map_some,List.cons_append];rw [cg,if_neg (fun e=>h1 (by rw [hdj,e]))];exact ih
end late
end Go.Proofs.YtcbakncjacnnjaaGreat
namespace Go.Proofs.YtcbakncjacnnjaaGreat
open Go.Proofs.Tryz (prog)
open Go.RowKit
def j8 (Ex:List Nat) (RL:List (Nat×(Value→World→Prop))) (t:Nat):Value→World→Prop:=bif Ex.elem t then fun _ _=>True else dX RL t
theorem rm {Ex:List Nat} {l:List (Nat×(Value→World→Prop))} (h:kN l):∀ t v w1 w2,aj w1 w2→j8 Ex l t v w1→j8 Ex l t v w2:=by
 intro t v w1 w2 hF h1;unfold j8 at h1 ⊢;cases hb:Ex.elem t with
 |true=>trivial
 |false=>rw [hb] at h1;exact dD h t v w1 w2 hF h1
theorem wg {Ex:List Nat} {l:List (Nat×(Value→World→Prop))}:∀ t v w,dX l t v w→j8 Ex l t v w:=by
 intro t v w h;unfold j8;cases hb:Ex.elem t with
 |true=>trivial
 |false=>exact h
def MuR (Ex:List Nat) (d:Nat) (w1 w2:World):List (Nat×(Value→World→Prop))→Prop
 |[]=>True
 |(k,R)::r=>((Ex.elem k||Nat.beq k d)=true∨∀ u,R u w1→R u w2)∧MuR Ex d w1 w2 r
theorem iT {Ex:List Nat} {d:Nat} {w1 w2:World}:∀ {RL:List (Nat×(Value→World→Prop))},MuR Ex d w1 w2 RL→∀ t u,t≠d→dX RL t u w1→j8 Ex RL t u w2
 |[],_,t,u,_,_=>by unfold j8;cases Ex.elem t <;> trivial
 |(k,R)::r,⟨h1,h2⟩,t,u,hd,h=>by
  have e:dX ((k,R)::r) t=bif Nat.beq t k then R else dX r t:=rfl
  have ih:=iT h2 t u hd;unfold j8 at ih ⊢;rw [e] at h ⊢;cases hx:Ex.elem t with
  |true=>trivial
  |false=>
   rw [hx] at ih;simp only [cond_false] at ih ⊢;cases hb:Nat.beq t k with
   |true=>
    have hk:t=k:=Nat.eq_of_beq_eq_true hb;subst hk;rw [hb] at h;rcases h1 with h1 | h1
    ·rw [hx,Bool.false_or] at h1;exact absurd (Nat.eq_of_beq_eq_true h1) hd
    ·exact h1 u h
   |false=>rw [hb] at h;exact ih h
def n_ (l:List Oper) (o:Oper) (j:Nat):Bool:=ji o j||o.after.toList.any fun e=>Region.binds .any e&&match l[e.on]? with | some o'=>ji o' j | none=>false
def gm (l:List Oper) (listed:Array Bool):Prop:=∀ i o,l[i]? =some o→listed.getD i false=true→∀ e∈o.after,Region.binds .any e=true→listed.getD e.on false=true
theorem eh {l:List Oper} {listed:Array Bool} (hcl:gm l listed) {o:Oper} {j:Nat} (hall:∀ e∈o.after,Region.binds .any e=true→listed.getD e.on false=true) (h:n_ l o j=true):listed.getD j false=true:=by
 have direct:∀ (x:Oper),(∀ e∈x.after,Region.binds .any e=true→listed.getD e.on false=true)→ji x j=true→listed.getD j false=true:=by
  intro x hx he;obtain ⟨e,he,he2⟩:=List.any_eq_true.1 he;simp only [Bool.and_eq_true,beq_iff_eq] at he2;have:=hx e (by simpa using he) he2.1
  rwa [he2.2] at this
 unfold n_ at h;rcases Bool.or_eq_true_iff.1 h with h | h
 ·exact direct o hall h
 ·obtain ⟨e,he,he2⟩:=List.any_eq_true.1 h;simp only [Bool.and_eq_true] at he2;have h1:=hall e (by simpa using he) he2.1;cases ho:l[e.on]? with
  |none=>rw [ho] at he2;cases he2.2
  |some o'=>
   rw [ho] at he2;exact direct o' (hcl e.on o' ho h1) he2.2
theorem jQ {l:List Oper} {listed:Array Bool} (hcl:gm l listed) {i:Nat} {o:Oper} (ho:l[i]? =some o) (hall:∀ e∈o.after,Region.binds .any e=true→listed.getD e.on false=true):gm l (listed.setIfInBounds i true):=by
 have up:∀ k,listed.getD k false=true→(listed.setIfInBounds i true).getD k false=true:=by
  intro k hk;by_cases e:i=k
  ·subst e
   have:i<listed.size:=by
    rcases Nat.lt_or_ge i listed.size with h | h
    ·exact h
    ·simp [Array.getD,show ¬ i<listed.size by omega] at hk
   simp [this]
  ·rw [getD_set_ne false e];exact hk
 intro k x hx hk e he hb;by_cases h:i=k
 ·subst h;rw [ho] at hx;cases hx;exact up _ (hall e he hb)
 ·rw [getD_set_ne false h] at hk;exact up _ (hcl k x hx hk e he hb)
theorem iX (l:List Oper) (n:Nat):gm l (Array.replicate n false):=by
 intro i o _ h;simp [Array.getD] at h
def Gi (l:List Oper) (K i t:Nat):Bool:=(List.range K).any fun j=>match l[j]? with | some oj=>(oj.dst==some t)&&n_ l oj i | none=>false
def eu (l:List Oper) (K i:Nat) (o:Oper):List Nat:=(dW l K).filter fun t=>(o.looksAt l.toArray).elem t&&!Gi l K i t
def gC (P:Program) (ops:Array Oper) (n:Fr) (L:List (Nat×Value)) (I2:World→Prop) (R1 R2:Nat→Value→World→Prop) (l0:List Oper) (K:Nat) (mu:Nat):Nat→List Oper→Prop
 |_,[]=>True
 |i,o::r=>(Nat.beq i mu=false→∀ w',I2 w'→gh R2 w' (eu l0 K i o) fun M=>al P ops n (M++L) o w' (R1 (o.dst.getD 0)))∧gC P ops n L I2 R1 R2 l0 K mu (i+1) r
theorem kA {P:Program} {ops:Array Oper} {n:Fr} {L:List (Nat×Value)} {I2:World→Prop} {R1 R2:Nat→Value→World→Prop} {l0:List Oper} {K mu:Nat}:∀ {l:List Oper} {k:Nat},gC P ops n L I2 R1 R2 l0 K mu k l→∀ (i:Nat) (o:Oper),l[i]? =some o→k+i≠mu→
 ∀ w',I2 w'→gh R2 w' (eu l0 K (k+i) o) fun M=>al P ops n (M++L) o w' (R1 (o.dst.getD 0))
 |[],_,_,i,o,h,_=>by simp at h
 |x::r,k,⟨h1,h2⟩,0,o,h,hne=>by
  simp only [List.getElem?_cons_zero,Option.some.injEq] at h;subst h;rw [Nat.add_zero] at hne ⊢;refine h1 ?_;rw [←Bool.not_eq_true];intro hb;exact hne (Nat.eq_of_beq_eq_true hb)
 |x::r,k,⟨h1,h2⟩,i+1,o,h,hne=>by
  have:=kA h2 i o (by simpa using h) (by omega)
  rwa [show k+1+i=k+(i+1) by omega] at this
theorem jJ {P:Program} {ops:Array Oper} {n:Fr} {L:List (Nat×Value)} {I2:World→Prop} {R1 R2:Nat→Value→World→Prop} {l0:List Oper} {K mu:Nat} {l:List Oper} (h:gC P ops n L I2 R1 R2 l0 K mu 0 l) (i:Nat) (o:Oper) (ho:l[i]? =some o) (hne:i≠mu)
 (w':World) (hw:I2 w'):gh R2 w' (eu l0 K i o) fun M=>al P ops n (M++L) o w' (R1 (o.dst.getD 0)):=by
 have:=kA h i o ho (by rw [Nat.zero_add];exact hne) w' hw
 rwa [Nat.zero_add] at this
def mM (P:Program) (ops:Array Oper) (n:Fr) (L:List (Nat×Value)) (o:Oper) (w:World) (post:Value→World→Prop):Prop:=
 Region.wanted o (yielded ops (mkT n.n L))=true∧((∃ v w',(execOp (ev n L) o).run P w=.ok (.value v) w'∧post v w')∨(∃ f l,(execOp (ev n L) o).run P w=.ok (.enter f (List.toArray l)) w∧Rt P f l w post))
def xj (P:Program) (ops:Array Oper) (n:Fr) (L:List (Nat×Value)) (I1 I2:World→Prop) (R1 R2:Nat→Value→World→Prop) (l0:List Oper) (K mu:Nat):Option Oper→Prop
 |none=>True
 |some o=>∀ w',I1 w'→gh R1 w' (eu l0 K mu o) fun M=>mM P ops n (M++L) o w' fun v w''=>I2 w''∧R2 (o.dst.getD 0) v w''∧∀ t u,t≠o.dst.getD 0→R1 t u w'→R2 t u w''
def cR (l:List Oper) (K j:Nat):Bool:=(List.range l.length).any fun i=>decide (K≤i)&&(match l[i]? with | some o=> !n_ l o j | none=>false)
def Hx (l:List Oper) (K:Nat):Bool:=
 (List.range K).all fun j=> !cR l K j||match l[j]? with
  |none=>false
  |some o=>pK o.op&&o.guard.isNone&&o.dst.isSome&&(List.range l.length).all fun i=>i==j||match l[i]? with
   |none=>false
   |some y=>(if i<K then !cR l K i else n_ l y j)||o.apart l.toArray y
def jL (l:List Oper) (K:Nat):Bool:=
 let ops:=l.toArray
 let dst (i:Nat):Option Nat:=(l[i]?).bind (·.dst)
 (decide (K≤l.length)&&
 (List.range l.length).all fun i=>match l[i]? with
  |none=>false
  |some o=>
   (o.after.toList.all fun e=> !Region.binds .any e||decide (e.on<i))&&!dq o.op&&
   (if i<K then
    (match o.dst with
     |none=>false
     |some d=>(List.range K).all (fun j=>j==i||dst j != some d)&&!((o.looksAt ops).elem d))&&
    (List.range K).all (fun j=>match dst j with
     |none=>false
     |some d=> !(o.looksAt ops).elem d||Gi l K i d||(decide (j<i)&&n_ l o j))
    else (List.range i).all (fun j=>n_ l o j||decide (j<K))))&&Hx l K
section late
variable {P:Program} {Q:Exit→Act→World→Prop} {n:Fr} {L:List (Nat×Value)} {w:World} {l:List Oper} {K:Nat} {R:Nat→Value→World→Prop}
theorem iD (hc:Hx l K=true) {j:Nat} {o:Oper} (hj:j<K) (ho:l[j]? =some o) (hl:cR l K j=true) :
 pK o.op=true∧o.guard=none∧∀ i y,l[i]? =some y→i≠j→((i<K∧cR l K i=true)∨(K≤i∧n_ l y j=false))→o.apart l.toArray y=true:=by
 have h:=List.all_eq_true.1 hc j (List.mem_range.2 hj);rw [hl,ho] at h;simp only [Bool.not_true,Bool.false_or,Bool.and_eq_true] at h;refine ⟨h.1.1.1,by simpa using h.1.1.2,fun i y hi hne hcase=>?_⟩;have h2:=List.all_eq_true.1 h.2 i (List.mem_range.2 (List.getElem?_eq_some_iff.1 hi).1);rw [hi] at h2;simp only [beq_iff_eq,hne,Bool.or_eq_true,false_or] at h2;rcases hcase with ⟨h3,h4⟩ | ⟨h3,h4⟩
 ·simp [h3,h4] at h2;exact h2
 ·simp [show ¬ i<K by omega,h4] at h2;exact h2
theorem ki {i j:Nat} {o:Oper} (hl:cR l K j=false) (ho:l[i]? =some o) (hi:K≤i):n_ l o j=true:=by
 unfold cR at hl;have:=List.any_eq_false.1 hl i (List.mem_range.2 (List.getElem?_eq_some_iff.1 ho).1);rw [ho] at this;simpa [hi] using this
theorem mX (hQ:PQ Q) (hc:jL l K=true) {f:Nat→Value}:∀ (m k:Nat) (listed:Array Bool) (U:List Nat) (a:Act) (w':World),gm l listed→listed.toList.count false=m→listed.size=l.length→K≤k→k≤l.length→
 (∀ j,K≤j→j<l.length→listed.getD j true=decide (j<k))→U.Nodup→(∀ j,j<K→(listed.getD j true=false↔j∈U))→(∀ j∈U,j<K∧cR l K j=true∧∃ o,l[j]? =some o∧Yields P l.toArray o (f j) a)→
 wpList P l.toArray Q (l.drop k) (eB l f U a) w'→wpAny P .any l.toArray Q m listed a w':=by
 have hc1:=(Bool.and_eq_true_iff.1 hc).1;have hlate:=(Bool.and_eq_true_iff.1 hc).2;have hKl:K≤l.length:=dT_ (Bool.and_eq_true_iff.1 hc1).1;have hck:=(List.all_eq_true.1 (Bool.and_eq_true_iff.1 hc1).2);intro m
 induction m with
 |zero=>
  intro k listed U a w' hcl hcount hs hK hkl htail hn hU hUl h
  have hall:∀ j,j<l.length→listed.getD j true=true:=by
   intro j hj;have hm:listed[j]'(by omega)∈listed.toList:=by simp
   cases hb:listed[j]'(by omega) with
   |true=>simp [Array.getD,show j<listed.size by omega,hb]
   |false=>
    rw [hb] at hm;exact absurd hcount (Nat.pos_iff_ne_zero.1 (List.count_pos_iff.2 hm))
  have hU0:U=[]:=by
   rw [List.eq_nil_iff_forall_not_mem];intro j hj;have h1:=(hU j (hUl j hj).1).2 hj;rw [hall j (by have:=(hUl j hj).1;omega)] at h1;cases h1
  have hke:k=l.length:=by
   rcases Nat.lt_or_ge k l.length with hlt | hge
   ·have h1:=htail k hK hlt;rw [hall k hlt] at h1;simp at h1
   ·omega
  subst hU0 hke;refine ⟨?_,by simpa [eB,wpList] using h⟩;rw [List.eq_nil_iff_forall_not_mem];intro j hj;obtain ⟨h0,o,ho,_⟩:=mem_ready.1 hj;rw [List.getElem?_toArray] at ho;rw [hall j (List.getElem?_eq_some_iff.1 ho).1] at h0;cases h0
 |succ m ih=>
  intro k listed U a w' hcl hcount hs hK hkl htail hn hU hUl h
  have hex:∃ i,i<l.length∧listed.getD i true=false:=by
   obtain ⟨i,hi,hb⟩:=List.mem_iff_getElem.1 (List.count_pos_iff.1 (by rw [hcount];omega:0<listed.toList.count false));have hi':i<listed.size:=by simpa using hi
   exact ⟨i,by omega,by simpa [Array.getD,hi'] using hb⟩
  obtain ⟨i0,hi0,hmin⟩:=exists_least hex
  have hready:i0∈Region.ready .any l.toArray listed:=by
   refine mem_ready.2 ⟨hi0.2,l[i0]'hi0.1,by rw [List.getElem?_toArray,List.getElem?_eq_getElem hi0.1],fun e he hb=>?_⟩;have hx:=hck i0 (List.mem_range.2 hi0.1);rw [List.getElem?_eq_getElem hi0.1] at hx;simp only [Bool.and_eq_true] at hx;have he2:=List.all_eq_true.1 hx.1.1 e (by simpa using he);rw [hb] at he2;simp at he2;rw [←bg (by omega)];cases hb2:listed.getD e.on true with
   |true=>rfl
   |false=>exact absurd (hmin e.on ⟨by omega,hb2⟩) (by omega)
  refine ⟨fun h0=>(by rw [h0] at hready;cases hready),fun i hi=>?_⟩;obtain ⟨h0,o,ho,hall⟩:=mem_ready.1 hi;rw [List.getElem?_toArray] at ho;have hil:i<l.length:=(List.getElem?_eq_some_iff.1 ho).1;have hx:=hck i (List.mem_range.2 hil);rw [ho] at hx;simp only [Bool.and_eq_true] at hx;have hsel:dq o.op=false:=by simpa using hx.1.2
  have hcnt:(listed.setIfInBounds i true).toList.count false=m:=by
   have hil':i<listed.size:=by omega
   have hfalse:listed.toList[i]? =some false:=by
    rw [Array.getElem?_toList,Array.getElem?_eq_getElem hil'];simp [Array.getD,hil'] at h0;rw [h0]
   rw [Array.toList_setIfInBounds];have:=ek (l:=listed.toList) (i:=i) hfalse;omega
  by_cases hiK:i<K
  ·
   have hiU:=(hU i hiK).1 h0;obtain ⟨_,hil8,o',ho',hy⟩:=hUl i hiU;rw [ho] at ho';cases ho';obtain ⟨_,_,hap⟩:=iD hlate hiK ho hil8;refine Yields.wpOp (by rw [List.getElem?_toArray];exact ho) hy ?_;have he:a.put o.dst (f i)=a.put ((l[i]?).bind (·.dst)) (f i):=by rw [ho];rfl
   refine ih k _ (U.erase i) _ w' (jQ hcl ho hall) hcnt (by simpa using hs) hK hkl (fun j h1 h2=>by rw [getD_set_ne true (by omega)];exact htail j h1 h2) (hn.erase i) (fun j hj=>?_) (fun j hj=>?_) ?_
   ·by_cases e:i=j
    ·subst e;simp [hs,hil,hn.not_mem_erase]
    ·rw [getD_set_ne true e,hU j hj];exact (List.mem_erase_of_ne (Ne.symm e)).symm
   ·have hjU:=List.mem_of_mem_erase hj;obtain ⟨h1,h2,oj,h3,h4⟩:=hUl j hjU;have hne:i≠j:=fun e=>by subst e;exact (hn.not_mem_erase) hj
    obtain ⟨_,_,hapj⟩:=iD hlate h1 h3 h2;have hxj:=hck j (List.mem_range.2 (by omega));rw [h3] at hxj;simp only [Bool.and_eq_true] at hxj;exact ⟨h1,h2,oj,h3,(qA (by simpa using hxj.1.2) (hapj i o ho hne (.inl ⟨hiK,hil8⟩))).2 h4⟩
   ·rw [he,q5 U a hiU hn (fun j hj hne d hd=>?_)]
    ·exact h
    ·obtain ⟨h1,h2,oj,h3,h4⟩:=hUl j hj;have h5:=(Oper.apart_spec (hap j oj h3 hne (.inl ⟨h1,h2⟩))).2.1 d (by rw [ho] at hd;exact hd);rw [h3];exact h5
  ·
   have hik:i=k:=by
    rw [htail i (by omega) hil] at h0;have h0':k≤i:=by simpa using h0
    rcases Nat.eq_or_lt_of_le h0' with e | hlt
    ·exact e.symm
    ·exfalso;have h3:=hx.2;rw [if_neg hiK] at h3;have h4:=List.all_eq_true.1 h3 k (List.mem_range.2 hlt);simp only [show ¬ k<K by omega,decide_false,Bool.or_false] at h4;have h5:=eh hcl hall h4;rw [←bg (by omega),htail k hK (by omega)] at h5;simp at h5
   subst hik
   have hdrop:l.drop i=o::l.drop (i+1):=by
    rw [List.drop_eq_getElem_cons hil];rw [List.getElem?_eq_getElem hil] at ho;cases ho;rfl
   rw [hdrop] at h
   have hk2:wpOp P l.toArray Q i (wpList P l.toArray Q (l.drop (i+1))) (eB l f U a) w':=by
    unfold wpOp;rw [List.getElem?_toArray,ho];exact h
   have hne:∀ j∈U,j≠i:=fun j hj e=>by have:=(hUl j hj).1;omega
   have hk3:=sY hQ ho hsel U _ a hn (fun j hj=>by
    obtain ⟨h1,h2,oj,h3,h4⟩:=hUl j hj;obtain ⟨_,_,hapj⟩:=iD hlate h1 h3 h2;have hxj:=hck j (List.mem_range.2 (by omega));rw [h3] at hxj;simp only [Bool.and_eq_true] at hxj;refine ⟨oj,h3,by simpa using hxj.1.2,hapj i o ho (Ne.symm (hne j hj)) (.inr ⟨by omega,?_⟩),h4,fun j' hj' hne'=>?_⟩
    ·cases hE:n_ l o j with
     |false=>rfl
     |true=>
      have h5:=eh hcl hall hE;rw [←bg (by omega),(hU j h1).2 hj] at h5;cases h5
    ·obtain ⟨h1',h2',oj',h3',_⟩:=hUl j' hj';exact ⟨oj',h3',hapj j' oj' h3' hne' (.inl ⟨h1',h2'⟩)⟩) hk2
   refine wpOp_mono (fun a' w'' hh=>?_) hk3;refine ih (i+1) _ U a' w'' (jQ hcl ho hall) hcnt (by simpa using hs) (by omega) (by omega) (fun j h1 h2=>?_) hn (fun j hj=>?_) (fun j hj=>?_) hh.2
   ·by_cases e:i=j
    ·subst e;simp [hs,hil]
    ·rw [getD_set_ne true e,htail j h1 h2];have:(j<i+1)↔(j<i):=by omega
     simp [this]
   ·rw [getD_set_ne true (by omega)];exact hU j hj
   ·obtain ⟨h1,h2,oj,h3,_⟩:=hUl j hj;exact ⟨h1,h2,oj,h3,hh.1 j hj oj h3⟩
end late
section late
variable {P:Program} {Q:Exit→Act→World→Prop} {n:Fr} {L:List (Nat×Value)} {w:World} {l:List Oper} {K mu:Nat} {I1 I2:World→Prop} {R1 R:Nat→Value→World→Prop}
theorem Jl (hc:jL l K=true) {j j':Nat} {oj oj':Oper} {t:Nat} (hj:j<K) (hj':j'<K) (hoj:l[j]? =some oj) (hoj':l[j']? =some oj') (hd:oj.dst=some t) (hd':oj'.dst=some t):j=j':=by
 have hc1:=(Bool.and_eq_true_iff.1 hc).1;have hck:=(List.all_eq_true.1 (Bool.and_eq_true_iff.1 hc1).2);have hx:=hck j' (List.mem_range.2 (List.getElem?_eq_some_iff.1 hoj').1);rw [hoj'] at hx;simp only [Bool.and_eq_true] at hx;have h3:=hx.2;rw [if_pos hj'] at h3;simp only [Bool.and_eq_true] at h3;have h3a:=h3.1;rw [hd'] at h3a;simp only [Bool.and_eq_true] at h3a;have h5:=List.all_eq_true.1 h3a.1 j (List.mem_range.2 hj);rw [hoj] at h5;simpa [hd] using h5
theorem Ba {i t:Nat} (h:Gi l K i t=true):∃ j oj,j<K∧l[j]? =some oj∧oj.dst=some t∧n_ l oj i=true:=by
 obtain ⟨j,hj,h2⟩:=List.any_eq_true.1 h;cases hoj:l[j]? with
 |none=>rw [hoj] at h2;cases h2
 |some oj=>
  rw [hoj] at h2;simp only [Bool.and_eq_true,beq_iff_eq] at h2;exact ⟨j,oj,List.mem_range.1 hj,hoj,h2.1,h2.2⟩
theorem gF (hc:jL l K=true) {i t:Nat} {o:Oper} (hi:i<K) (ho:l[i]? =some o) (ht:t∈eu l K i o):(o.looksAt l.toArray).elem t=true∧∃ j oj,j<K∧l[j]? =some oj∧oj.dst=some t∧j<i∧n_ l o j=true:=by
 obtain ⟨ht1,ht2⟩:=List.mem_filter.1 ht;simp only [Bool.and_eq_true,Bool.not_eq_true'] at ht2;obtain ⟨oj,hoj,hdj⟩:=List.mem_filterMap.1 ht1;obtain ⟨j,hj⟩:=List.mem_iff_getElem?.1 hoj;rw [List.getElem?_take] at hj;split at hj
 ·rename_i hjK;refine ⟨ht2.1,j,oj,hjK,hj,hdj,?_⟩;have hc1:=(Bool.and_eq_true_iff.1 hc).1;have hck:=(List.all_eq_true.1 (Bool.and_eq_true_iff.1 hc1).2);have hx:=hck i (List.mem_range.2 (List.getElem?_eq_some_iff.1 ho).1);rw [ho] at hx;simp only [Bool.and_eq_true] at hx;have h3:=hx.2;rw [if_pos hi] at h3;simp only [Bool.and_eq_true] at h3;have h5:=List.all_eq_true.1 h3.2 j (List.mem_range.2 hjK);rw [hj] at h5;have h6:t∈o.looksAt l.toArray:=by simpa using ht2.1
  simpa [hdj,h6,ht2.2] using h5
 ·cases hj
theorem pb (hc:jL l K=true) {listed:Array Bool} (hcl:gm l listed) (hs:listed.size=l.length) {i:Nat} {o:Oper} (_ho:l[i]? =some o) (hil:i<l.length) (h0:listed.getD i true=false) {L':List (Nat×Value)}
 (hfr:∀ t,(∀ i o,i<K→l[i]? =some o→listed.getD i true=true→o.dst≠some t)→aY L' t=aY L t):∀ t,(o.looksAt l.toArray).elem t=true→aY ((eu l K i o).map (fun d=>(d,aY L' d))++L) t=aY L' t:=by
 intro t ht;rw [jM];split
 ·rfl
 ·rename_i hne;refine (hfr t fun j oj hj hoj hlj hd=>?_).symm;have hmem:t∈dW l K:=List.mem_filterMap.2 ⟨oj,List.mem_iff_getElem?.2 ⟨j,by rw [List.getElem?_take,if_pos hj];exact hoj⟩,hd⟩;cases hb:Gi l K i t with
  |false=>
   apply hne;simp only [List.elem_eq_mem,decide_eq_true_eq];exact List.mem_filter.2 ⟨hmem,by rw [ht,hb];rfl⟩
  |true=>
   obtain ⟨j',oj',hj',hoj',hd',hdep⟩:=Ba hb;have hjj:=Jl hc hj hj' hoj hoj' hd hd';subst hjj;rw [hoj] at hoj';cases hoj';have hjl:j<l.length:=(List.getElem?_eq_some_iff.1 hoj).1;have h1:=eh hcl (hcl j oj hoj (by rw [←bg (by omega)];exact hlj)) hdep;rw [←bg (by omega),h0] at h1;cases h1
theorem kG (hQ:PQ Q) (hc:jL l K=true) (hop:gC P l.toArray n L I2 R1 R l K mu 0 (l.take K)) (h12:∀ t v w,R1 t v w→R t v w) (hmuL:mu<K→cR l K mu=false)
 (hend:∀ w',I2 w'→gh R w' (dW l K) fun M=>St P l.toArray Q (l.drop K) n (M++L) w') (m:Nat) (listed:Array Bool) (L':List (Nat×Value)) (w':World) (hcl:gm l listed) (hcount:listed.toList.count false=m) (hs:listed.size=l.length)
 (htail:∀ j,K≤j→j<l.length→listed.getD j true=false) (hF:I2 w')
 (hfr:∀ t,(∀ i o,i<K→l[i]? =some o→listed.getD i true=true→o.dst≠some t)→aY L' t=aY L t)
 (hR:∀ i o d,i<K→l[i]? =some o→listed.getD i true=true→o.dst=some d→R d (aY L' d) w') (hpre:∀ i,i<K→listed.getD i true=false→cR l K i=true):wpAny P .any l.toArray Q m listed (mkA n L') w':=by
 have hc1:=(Bool.and_eq_true_iff.1 hc).1;have hlate:=(Bool.and_eq_true_iff.1 hc).2;have hKl:K≤l.length:=dT_ (Bool.and_eq_true_iff.1 hc1).1;have hck:=(List.all_eq_true.1 (Bool.and_eq_true_iff.1 hc1).2)
 have hhead:∀ i,i<K→∃ o d,l[i]? =some o∧o.dst=some d∧dq o.op=false∧(∀ j oj,j<K→j≠i→l[j]? =some oj→oj.dst≠some d):=by
  intro i hi;have hil:i<l.length:=by omega
  have hx:=hck i (List.mem_range.2 hil);rw [List.getElem?_eq_getElem hil] at hx;simp only [Bool.and_eq_true] at hx;have h3:=hx.2;rw [if_pos hi] at h3;simp only [Bool.and_eq_true] at h3;obtain ⟨h3a,h3b⟩:=h3;cases hod:(l[i]).dst with
  |none=>rw [hod] at h3a;cases h3a
  |some d=>
   rw [hod] at h3a;simp only [Bool.and_eq_true] at h3a;refine ⟨l[i],d,List.getElem?_eq_getElem hil,hod,by simpa using hx.1.2,fun j oj hj hne hoj e=>?_⟩;have h5:=List.all_eq_true.1 h3a.1 j (List.mem_range.2 hj);rw [hoj] at h5;simp [hne,e] at h5
 have hval:∀ i,i<K→listed.getD i true=false→∃ v,∀ o d,l[i]? =some o→o.dst=some d→Yields P l.toArray o v (mkA n L')∧R d v w':=by
  intro i hi hf;have hil8:=hpre i hi hf;obtain ⟨o,d,ho,hd,hsel,_⟩:=hhead i hi;obtain ⟨hk,hg,hap⟩:=iD hlate hi ho hil8
  have hfact:∀ t∈eu l K i o,R t (aY L' t) w':=by
   intro t ht;obtain ⟨ht2,j,oj,hjK,hj,hdj,hji,_⟩:=gF hc hi ho ht;refine hR j oj t hjK hj ?_ hdj;cases hb:listed.getD j true with
   |true=>rfl
   |false=>
    have h6:=hpre j hjK hb;have h7:=(Oper.apart_spec (hap j oj hj (by omega) (.inl ⟨hjK,h6⟩))).2.2 t hdj;exact absurd (by simpa using ht2) h7
  have hlooks:=pb (L:=L) hc hcl hs ho (by omega) hf hfr;have hok:=eJ (aY L') _ hfact (jJ hop i o (by rw [List.getElem?_take,if_pos hi];exact ho) (by intro e;rw [e,hmuL (by omega)] at hil8;cases hil8) w' hF);obtain ⟨hE,hW⟩:=eN (n:=n) (ops:=l.toArray) (o:=o) hsel hlooks;rw [hd] at hok;simp only [Option.getD_some] at hok
  have hyl:∃ v,Yields P l.toArray o v (mkA n L')∧R d v w':=by
   unfold al at hok;rw [hE,hW] at hok;rcases hok with ⟨hw,⟨v,w'',hr,hF',hRv⟩ | ⟨f,args,hr,hcall⟩⟩ | ⟨hw,hRv⟩
   ·obtain ⟨rfl,hall⟩:=rp hk hr;refine ⟨v,.inl ⟨hw,fun w2=>?_⟩,h12 _ _ _ hRv⟩;rw [bU];exact hall w2
   ·exfalso;obtain ⟨dst,op,ty,pos,after,guard⟩:=o;cases op <;> simp only [pK,Bool.false_eq_true] at hk <;> simp only [execOp,Sem.run_pure,Sem.run_bind,Result.ok.injEq] at hr
    ·cases hr.1
    ·cases hr.1
    ·rename_i x i';cases hx:ev n L' x <;> simp only [hx,Instr.extract] at hr <;> (try (simp at hr;done))
     rename_i vs;cases hv:vs[i']? <;> simp [hv] at hr
   ·exact ⟨undef,.inr ⟨hw,rfl⟩,h12 _ _ _ hRv⟩
  obtain ⟨v,hv1,hv2⟩:=hyl;refine ⟨v,fun o' d' ho' hd'=>?_⟩;rw [ho] at ho';cases ho';rw [hd] at hd';cases hd';exact ⟨hv1,hv2⟩
 obtain ⟨f,hf⟩:∃ f:Nat→Value,∀ i,i<K→listed.getD i true=false→∀ o d,l[i]? =some o→o.dst=some d→Yields P l.toArray o (f i) (mkA n L')∧R d (f i) w':=by
  refine ⟨fun i=>open Classical in if h:∃ v,∀ o d,l[i]? =some o→o.dst=some d→Yields P l.toArray o v (mkA n L')∧R d v w' then h.choose else undef,fun i hi hl=>?_⟩;have h:=hval i hi hl;simp only [dif_pos h];exact h.choose_spec
 have hUm:∀ i,i∈(List.range K).filter (fun i=> !listed.getD i true)↔i<K∧listed.getD i true=false:=fun i=>by
  rw [List.mem_filter,List.mem_range];simp
 obtain ⟨U,hU,hUn⟩:∃ U:List Nat,(∀ i,i∈U↔i<K∧listed.getD i true=false)∧U.Nodup:=⟨_,hUm,List.nodup_range.sublist (List.filter_sublist ..)⟩;have hbind:∀ {i:Nat} {o:Oper},l[i]? =some o→(l[i]?).bind (·.dst)=o.dst:=fun h=>by rw [h];rfl
 have hRall:∀ d∈dW l K,R d (aY ((U.filterMap fun i=>((l[i]?).bind (·.dst)).map fun d=>(d,f i))++L') d) w':=by
  intro d hd;obtain ⟨o,ho,hod⟩:=List.mem_filterMap.1 hd;obtain ⟨i,hi⟩:=List.mem_iff_getElem?.1 ho;rw [List.getElem?_take] at hi;split at hi
  ·rename_i hiK;obtain ⟨o',d',ho',hd',_,hdist⟩:=hhead i hiK;rw [hi] at ho';cases ho';rw [hod] at hd';cases hd'
   have hne:∀ j∈U,j≠i→(l[j]?).bind (·.dst)≠some d:=fun j hj hji=>by
    have hjK:=((hU j).1 hj).1;obtain ⟨oj,dj,hoj,_⟩:=hhead j hjK;rw [hbind hoj];exact hdist j oj hjK hji hoj
   cases hb:listed.getD i true with
   |true=>
    rw [gM U fun j hj=>hne j hj (fun e=>by subst e;have:=((hU j).1 hj).2;rw [hb] at this;cases this)];exact hR i o d hiK hi hb hod
   |false=>
    rw [jh U ((hU i).2 ⟨hiK,hb⟩) ((hbind hi).trans hod) hne];exact (hf i hiK hb o d hi hod).2
  ·cases hi
 have he:=eJ _ (dW l K) hRall (hend w' hF)
 have hL:mkA n ((dW l K).map (fun d=>(d,aY ((U.filterMap fun i=>((l[i]?).bind (·.dst)).map fun d=>(d,f i))++L') d))++L)=eB l f U (mkA n L'):=by
  rw [nR];refine gK fun t _=>?_
  rw [jM];split
  ·rfl
  ·rename_i hne
   have hnd:∀ i,i<K→∀ o,l[i]? =some o→o.dst≠some t:=fun i hi o ho hod=>hne (by
    simp only [List.elem_eq_mem,decide_eq_true_eq];exact List.mem_filterMap.2 ⟨o,List.mem_iff_getElem?.2 ⟨i,by rw [List.getElem?_take,if_pos hi];exact ho⟩,hod⟩)
   rw [gM U fun j hj=>by
    have hjK:=((hU j).1 hj).1;obtain ⟨oj,dj,hoj,_⟩:=hhead j hjK;rw [hbind hoj];exact hnd j hjK oj hoj]
   exact (hfr t fun i o hi ho _ hod=>hnd i hi o ho hod).symm
 replace he:=he.out;rw [hL] at he;refine mX hQ hc m K listed U _ w' hcl hcount hs (Nat.le_refl _) hKl (fun j h1 h2=>by rw [htail j h1 h2];simp [h1]) hUn (fun j hj=>⟨fun h=>(hU j).2 ⟨hj,h⟩,fun h=>((hU j).1 h).2⟩) (fun j hj=>?_) he;obtain ⟨h1,h2⟩:=(hU j).1 hj;obtain ⟨oj,dj,hoj,hdj,_⟩:=hhead j h1;exact ⟨h1,hpre j h1 h2,oj,hoj,(hf j h1 h2 oj dj hoj hdj).1⟩
theorem nW (hQ:PQ Q) (hc:jL l K=true) (hm1:∀ w1 w2,aj w1 w2→I1 w1→I1 w2) (hm2:∀ w1 w2,aj w1 w2→I2 w1→I2 w2) (hmono1:∀ t v w1 w2,aj w1 w2→R1 t v w1→R1 t v w2) (hmono:∀ t v w1 w2,aj w1 w2→R t v w1→R t v w2)
 (hop:gC P l.toArray n L I2 R1 R l K mu 0 (l.take K)) (h12:∀ t v w,R1 t v w→R t v w) (hmuL:mu<K→cR l K mu=false) (hmu:xj P l.toArray n L I1 I2 R1 R l K mu l[mu]?)
 (hend:∀ w',I2 w'→gh R w' (dW l K) fun M=>St P l.toArray Q (l.drop K) n (M++L) w') :
 ∀ (m:Nat) (listed:Array Bool) (L':List (Nat×Value)) (w':World),gm l listed→listed.toList.count false=m→listed.size=l.length→(∀ j,K≤j→j<l.length→listed.getD j true=false)→I2 w'→(listed.getD mu true=false→I1 w')→
  (∀ t,(∀ i o,i<K→l[i]? =some o→listed.getD i true=true→o.dst≠some t)→aY L' t=aY L t)→
  (∀ i o d,i<K→l[i]? =some o→listed.getD i true=true→o.dst=some d→R d (aY L' d) w')→(listed.getD mu true=false→∀ i o d,i<K→l[i]? =some o→listed.getD i true=true→o.dst=some d→R1 d (aY L' d) w')→wpAny P .any l.toArray Q m listed (mkA n L') w':=by
 have hc1:=(Bool.and_eq_true_iff.1 hc).1;have hlate:=(Bool.and_eq_true_iff.1 hc).2;have hKl:K≤l.length:=dT_ (Bool.and_eq_true_iff.1 hc1).1;have hck:=(List.all_eq_true.1 (Bool.and_eq_true_iff.1 hc1).2);intro m
 induction m with
 |zero=>
  intro listed L' w' hcl hcount hs htail hF hF1 hfr hR hR1
  exact kG hQ hc hop h12 hmuL hend 0 listed L' w' hcl hcount hs htail hF hfr hR (fun i hi h=>by
   have hm:listed[i]'(by omega)∈listed.toList:=by simp
   have hb:listed[i]'(by omega)=false:=by simpa [Array.getD,show i<listed.size by omega] using h
   rw [hb] at hm;exact absurd hcount (Nat.pos_iff_ne_zero.1 (List.count_pos_iff.2 hm)))
 |succ m ih=>
  intro listed L' w' hcl hcount hs htail hF hF1 hfr hR hR1;by_cases hpre:∀ i,i<K→listed.getD i true=false→cR l K i=true
  ·exact kG hQ hc hop h12 hmuL hend (m+1) listed L' w' hcl hcount hs htail hF hfr hR hpre
  ·
   have hn0:∃ i,i<K∧listed.getD i true=false∧cR l K i=false:=by
    refine Classical.byContradiction fun hno=>hpre fun i hi hf=>?_
    cases hb:cR l K i with
    |true=>rfl
    |false=>exact absurd ⟨i,hi,hf,hb⟩ hno
   obtain ⟨n0,hn0⟩:=hn0;obtain ⟨i0,hi0,hmin⟩:=exists_least (p:=fun i=>i<K∧listed.getD i true=false) ⟨n0,hn0.1,hn0.2.1⟩;have hi0l:i0<l.length:=by omega
   have hready:i0∈Region.ready .any l.toArray listed:=by
    refine mem_ready.2 ⟨hi0.2,l[i0],by rw [List.getElem?_toArray,List.getElem?_eq_getElem hi0l],fun e he hb=>?_⟩;have hx:=hck i0 (List.mem_range.2 hi0l);rw [List.getElem?_eq_getElem hi0l] at hx;simp only [Bool.and_eq_true] at hx;have he2:=List.all_eq_true.1 hx.1.1 e (by simpa using he);rw [hb] at he2;simp at he2;rw [←bg (by omega)];cases hb2:listed.getD e.on true with
    |true=>rfl
    |false=>exact absurd (hmin e.on ⟨by omega,hb2⟩) (by omega)
   refine ⟨fun h0=>(by rw [h0] at hready;cases hready),fun i hi=>?_⟩;obtain ⟨h0,o,ho,hall⟩:=mem_ready.1 hi;rw [List.getElem?_toArray] at ho;have hil:i<l.length:=(List.getElem?_eq_some_iff.1 ho).1;have hx:=hck i (List.mem_range.2 hil);rw [ho] at hx;simp only [Bool.and_eq_true] at hx
   have hiK:i<K:=by
    rcases Nat.lt_or_ge i K with h | h
    ·exact h
    ·exfalso;have h5:=eh hcl hall (ki hn0.2.2 ho h);rw [←bg (by omega),hn0.2.1] at h5;cases h5
   have h3:=hx.2;rw [if_pos hiK] at h3;simp only [Bool.and_eq_true] at h3;obtain ⟨h3a,h3b⟩:=h3;cases hod:o.dst with
   |none=>rw [hod] at h3a;cases h3a
   |some d=>
    rw [hod] at h3a;simp only [Bool.and_eq_true] at h3a;have hlooks:=pb (L:=L) hc hcl hs ho hil h0 hfr
    have hfactG:∀ (RR:Nat→Value→World→Prop),(∀ i o d,i<K→l[i]? =some o→listed.getD i true=true→o.dst=some d→RR d (aY L' d) w')→∀ t∈eu l K i o,RR t (aY L' t) w':=by
     intro RR hRR t ht;obtain ⟨_,j,oj,hjK,hj,hd,_,hdep⟩:=gF hc hiK ho ht;have h6:=eh hcl hall hdep;exact hRR j oj t hjK hj (by rw [bg (by omega)];exact h6) hd
    have hsel:dq o.op=false:=by simpa using hx.1.2
    obtain ⟨hE,hW⟩:=eN (n:=n) (ops:=l.toArray) (o:=o) hsel hlooks
    have next:∀ v w'',I2 w''→(i≠mu→listed.getD mu true=false→I1 w'')→R d v w''→(i≠mu→R1 d v w'')→(∀ t u,t≠d→R t u w'→(i=mu→R1 t u w')→R t u w'')→(i≠mu→∀ t u,R1 t u w'→R1 t u w'')→wpAny P .any l.toArray Q m (listed.setIfInBounds i true) ((mkA n L').put (some d) v) w'':=by
     intro v w'' hI2' hI1' hRv hR1v hst hst1;rw [dY]
     have hne:∀ j oj d',j<K→l[j]? =some oj→j≠i→oj.dst=some d'→d'≠d:=by
      intro j oj d' hj hoj hji hd e;have h5:=List.all_eq_true.1 h3a.1 j (List.mem_range.2 hj);rw [hoj] at h5;simp [hji,hd,e] at h5
     refine ih _ _ w'' (jQ hcl ho hall) ?_ (by simpa using hs) (fun j hj1 hj2=>?_) hI2' (fun hml=>?_) (fun t ht=>?_) (fun j oj d' hj hoj hlj hd=>?_) (fun hml j oj d' hj hoj hlj hd=>?_)
     ·have hil':i<listed.size:=by omega
      have hfalse:listed.toList[i]? =some false:=by
       rw [Array.getElem?_toList,Array.getElem?_eq_getElem hil'];simp [Array.getD,hil'] at h0;rw [h0]
      rw [Array.toList_setIfInBounds];have:=ek (l:=listed.toList) (i:=i) hfalse;omega
     ·rw [getD_set_ne true (by omega)];exact htail j hj1 hj2
     ·have him:i≠mu:=fun e=>by subst e;simp [show i<listed.size by omega] at hml
      rw [getD_set_ne true him] at hml;exact hI1' him hml
     ·have htd:t≠d:=fun e=>ht i o hiK ho (by simp [show i<listed.size by omega]) (by rw [hod,e])
      rw [cg,if_neg htd];refine hfr t fun j oj hj hoj hlj=>ht j oj hj hoj ?_
      by_cases e:i=j
      ·subst e;rw [h0] at hlj;cases hlj
      ·rw [getD_set_ne true e];exact hlj
     ·rw [cg];by_cases e:j=i
      ·subst e;rw [ho] at hoj;cases hoj;rw [hod] at hd;cases hd;rw [if_pos rfl];exact hRv
      ·have hdd:=hne j oj d' hj hoj e hd;rw [if_neg hdd];rw [getD_set_ne true (Ne.symm e)] at hlj;refine hst _ _ hdd (hR j oj d' hj hoj hlj hd) (fun e2=>?_);subst e2;exact hR1 h0 j oj d' hj hoj hlj hd
     ·have him:i≠mu:=fun e=>by subst e;simp [show i<listed.size by omega] at hml
      rw [getD_set_ne true him] at hml;rw [cg];by_cases e:j=i
      ·subst e;rw [ho] at hoj;cases hoj;rw [hod] at hd;cases hd;rw [if_pos rfl];exact hR1v him
      ·rw [if_neg (hne j oj d' hj hoj e hd)];rw [getD_set_ne true (Ne.symm e)] at hlj;exact hst1 him _ _ (hR1 hml j oj d' hj hoj hlj hd)
    unfold wpOp;rw [List.getElem?_toArray,ho];show if Region.wanted o (yielded l.toArray (mkT n.n L'))=true then _ else _
    by_cases him:i=mu
    ·subst him;rw [ho] at hmu;have hok:=eJ (aY L') _ (hfactG R1 (hR1 h0)) (hmu w' (hF1 h0));rw [hod] at hok;simp only [Option.getD_some] at hok;unfold mM at hok;rw [hE,hW] at hok;obtain ⟨hw,⟨v,w'',hr,hI,hRv,hst⟩ | ⟨f,args,hr,hcall⟩⟩:=hok
     ·rw [if_pos hw];refine .inl ?_;unfold Oper.wp;rw [bU,hr,Oper.upon_value,hod];exact next v w'' hI (fun h=>absurd rfl h) hRv (fun h=>absurd rfl h) (fun t u ht _ h1=>hst t u ht (h1 rfl)) (fun h=>absurd rfl h)
     ·rw [if_pos hw];refine .inl ?_;unfold Oper.wp;rw [bU,hr,Oper.upon_enter,hod];refine Calls.mono hcall fun e w'' ⟨v,he,hI,hRv,hst⟩=>?_
      subst he;exact next v w'' hI (fun h=>absurd rfl h) hRv (fun h=>absurd rfl h) (fun t u ht _ h1=>hst t u ht (h1 rfl)) (fun h=>absurd rfl h)
    ·have hok:=eJ (aY L') _ (hfactG R hR) (jJ hop i o (by rw [List.getElem?_take,if_pos hiK];exact ho) him w' hF);rw [hod] at hok;simp only [Option.getD_some] at hok;unfold al at hok;rw [hE,hW] at hok
     have next':∀ v w'',aj w' w''→R1 d v w''→wpAny P .any l.toArray Q m (listed.setIfInBounds i true) ((mkA n L').put (some d) v) w'':=fun v w'' hF' hRv=>
      next v w'' (hm2 _ _ hF' hF) (fun _ h=>hm1 _ _ hF' (hF1 h)) (h12 _ _ _ hRv) (fun _=>hRv) (fun t u _ h _=>hmono _ _ _ _ hF' h) (fun _ t u h=>hmono1 _ _ _ _ hF' h)
     rcases hok with ⟨hw,⟨v,w'',hr,hF',hRv⟩ | ⟨f,args,hr,hcall⟩⟩ | ⟨hw,hRv⟩
     ·rw [if_pos hw];refine .inl ?_;unfold Oper.wp;rw [bU,hr,Oper.upon_value,hod];exact next' v w'' hF' hRv
     ·rw [if_pos hw];refine .inl ?_;unfold Oper.wp;rw [bU,hr,Oper.upon_enter,hod];refine Calls.mono hcall fun e w'' ⟨v,he,hF',hRv⟩=>?_
      subst he;exact next' v w'' hF' hRv
     ·rw [if_neg (by rw [hw];simp),hod];exact next' undef w' aj.rfl_ hRv
theorem EB {id:Nat} (K mu:Nat) (Ex:List Nat) (RL:List (Nat×(Value→World→Prop))) (I1 I2:World→Prop) (hQ:PQ Q) (hm:P.follows .mixedOrders=true) (hc:jL l K=true) (hl:cR l K mu=false) (hmono:kN RL)
 (h0:I1 { w with drawn:=w.drawn+1 }) (h0':I2 { w with drawn:=w.drawn+1 }) (hm1:∀ w1 w2,aj w1 w2→I1 w1→I1 w2) (hm2:∀ w1 w2,aj w1 w2→I2 w1→I2 w2)
 (hop:gC P l.toArray n L I2 (dX RL) (j8 Ex RL) l K mu 0 (l.take K)) (hmu:xj P l.toArray n L I1 I2 (dX RL) (j8 Ex RL) l K mu l[mu]?)
 (hend:∀ w',I2 w'→gh (j8 Ex RL) w' (dW l K) fun M=>St P l.toArray Q (l.drop K) n (M++L) w'):Cd P (.region id l.toArray true) Q n L w:=by
 refine ⟨wp_region_any hm ?_⟩;have hKl:K≤l.length:=dT_ (Bool.and_eq_true_iff.1 (Bool.and_eq_true_iff.1 hc).1).1
 have:=nW (Q:=Q) hQ hc hm1 hm2 (dD hmono) (rm hmono) hop wg (fun _=>hl) hmu hend l.length (Array.replicate l.length false) L { w with drawn:=w.drawn+1 } (iX l _) (by simp) (by simp)
  (fun j _ hj=>by simp [Array.getD,hj]) h0' (fun _=>h0) (fun _ _=>rfl) (fun i o d hi _ hl=>by
   have:i<l.length:=by omega
   simp [Array.getD,this] at hl) (fun _ i o d hi _ hl=>by
   have:i<l.length:=by omega
   simp [Array.getD,this] at hl)
 simpa using this
theorem bS {id:Nat} (K:Nat) (RL:List (Nat×(Value→World→Prop))) (hQ:PQ Q) (hm:P.follows .mixedOrders=true) (hc:jL l K=true) (hmono:kN RL)
 (hop:gC P l.toArray n L (aj w) (dX RL) (dX RL) l K l.length 0 (l.take K)) (hend:∀ w',aj w w'→gh (dX RL) w' (dW l K) fun M=>St P l.toArray Q (l.drop K) n (M++L) w'):Cd P (.region id l.toArray true) Q n L w:=by
 refine ⟨wp_region_any hm ?_⟩;have hKl:K≤l.length:=dT_ (Bool.and_eq_true_iff.1 (Bool.and_eq_true_iff.1 hc).1).1
 have:=nW (Q:=Q) (mu:=l.length) (I1:=aj w) (I2:=aj w) (R1:=dX RL) hQ hc (fun _ _ hF h=>h.next hF) (fun _ _ hF h=>h.next hF) (dD hmono) (dD hmono) hop (fun _ _ _ h=>h) (fun h=>absurd h (by omega)) (by simp [xj]) hend l.length (Array.replicate l.length false) L { w with drawn:=w.drawn+1 } (iX l _) (by simp) (by simp)
  (fun j _ hj=>by simp [Array.getD,hj]) aj.rfl_.d1 (fun _=>aj.rfl_.d1) (fun _ _=>rfl) (fun i o d hi _ hl=>by
   have:i<l.length:=by omega
   simp [Array.getD,this] at hl) (fun _ i o d hi _ hl=>by
   have:i<l.length:=by omega
   simp [Array.getD,this] at hl)
 simpa using this
end late
section
variable {P:Program} {ρ:Operand→Value} {w:World} {t yt:TypeId} {x y:Operand}
theorem mw {a b:Nat} (hx:ρ x=.int .u64 (a:Nat)) (hy:ρ y=.int .u64 (b:Nat)) (h:a+b<2 ^ 64):RO P ρ (.binOp .add t x y yt) w (.int .u64 ((a+b:Nat):Int)) w:=by
 have:=xM (P:=P) (ρ:=ρ) (w:=w) (t:=t) (yt:=yt) hx hy
 rwa [show IntKind.u64.wrap ((a:Nat)+(b:Nat):Int)=((a+b:Nat):Int) by rw [IntKind.wrap_u64];omega] at this
theorem FI {a b:Nat} (hx:ρ x=.int .u64 (a:Nat)) (hy:ρ y=.int .u64 (b:Nat)) (h:b≤a∧a<2 ^ 64):RO P ρ (.binOp .sub t x y yt) w (.int .u64 ((a-b:Nat):Int)) w:=by
 have:=xG (P:=P) (ρ:=ρ) (w:=w) (t:=t) (yt:=yt) hx hy
 rwa [show IntKind.u64.wrap ((a:Nat)-(b:Nat):Int)=((a-b:Nat):Int) by rw [IntKind.wrap_u64];omega] at this
theorem EH {a b:Nat} (ha:a<2 ^ 63) (hb:b<2 ^ 63):bits .and .i64 (a:Int) (b:Int)=((a &&& b:Nat):Int):=by
 have e1:(BitVec.ofInt 64 (a:Int)).toNat=a:=by rw [BitVec.ofInt_natCast,BitVec.toNat_ofNat];exact Nat.mod_eq_of_lt (by omega)
 have e2:(BitVec.ofInt 64 (b:Int)).toNat=b:=by rw [BitVec.ofInt_natCast,BitVec.toNat_ofNat];exact Nat.mod_eq_of_lt (by omega)
 show IntKind.i64.wrap ((BitVec.ofInt 64 (a:Int) &&& BitVec.ofInt 64 (b:Int)).toNat:Int)=_;have h:a &&& b<2 ^ 63:=Nat.and_lt_two_pow _ hb;rw [BitVec.toNat_and,e1,e2,IntKind.wrap_i64];generalize a &&& b=c at*;omega
theorem tJ {a b:Nat} (hx:ρ x=.int .i64 (a:Nat)) (hy:ρ y=.int .i64 (b:Nat)) (h:a<2 ^ 63∧b<2 ^ 63):RO P ρ (.binOp .and t x y yt) w (.int .i64 ((a &&& b:Nat):Int)) w:=by
 have:=CY (P:=P) (ρ:=ρ) (w:=w) (t:=t) (yt:=yt) hx hy;rwa [EH h.1 h.2] at this
end
theorem xL {P:Program} {ρ:Operand→Value} {w:World} {s x:Operand} {t base:Nat} {A A2:Option Addr} {m j cap c2 e size by_:Nat} {z:Value} {xs news:List Value} (hq:fH P t=some (e,size,by_,z)) (hzs:z.cells.size=size) (hs0:0<size)
 (hs:ρ s=.slice A m cap) (hown:w.ownsRow base e size (.slice A m cap) m xs) (hB:base≤w.heap.size)
 (hx:ρ x=.slice A2 j c2) (hl:news.length=j*size) (hsrc:∃ b o,A2=some ⟨b,o,none⟩∧w.rangeAt b o news) (h1:∀ u∈news,u.oneCell'=true) (h63:m+j≤9223372036854775807) (hby:(m+j)*by_≤140737488355328) :
 ∃ A' cap' w',RO P ρ (.call { callee:=.builtin .append,args:=#[s,x],argTypes:=#[t,t] }) w (.slice A' (m+j) cap') w'∧w'.ownsRow base e size (.slice A' (m+j) cap') (m+j) (xs++news)∧w.grownBy w' (A.map (·.block)):=by
 obtain ⟨i,hu,hi,hsz,hb,hz⟩:=lY hq;obtain ⟨b,o,rfl,hr⟩:=hsrc;have hobl:(Value.slice A m cap).ownBlock=A.map (·.block):=by cases A <;> rfl
 have key:∀ ty,∃ v' w',(Builtin.append_ #[t,t] ty #[.slice A m cap,.slice (some ⟨b,o,none⟩) j c2]).run P w=.ok v' w'∧w'.ownsRow base e size v' (m+j) (xs++news)∧w.grownBy w' (A.map (·.block)):=fun ty=>by
  obtain ⟨v',w',h1,h2,h3,_⟩:=run_append_own (P:=P) w base t ty e i z size by_ hu hi hz hsz hb hzs hs0 _ m xs hown ⟨b,o,none⟩ j c2 news hl (fun i u hu=>by rw [Addr.add_mid];exact hr i u hu) h1 (by unfold maxLen;omega) hby hB;exact ⟨v',w',h1,h2,by rw [←hobl];exact h3⟩
 obtain ⟨v',w',hrun,hown',hg⟩:=key 0;obtain ⟨A',cap',rfl⟩:=nT hown';refine ⟨A',cap',w',fun dst ty pos after g=>?_,hown',hg⟩;have hty:(Builtin.append_ #[t,t] ty #[.slice A m cap,.slice (some ⟨b,o,none⟩) j c2]).run P w=(Builtin.append_ #[t,t] 0 #[.slice A m cap,.slice (some ⟨b,o,none⟩) j c2]).run P w:=rfl;unfold execOp;simp only [resolve,invoke,builtin,Sem.run_bind,Sem.run_pure,Result.andThen_ok,List.map_toArray,List.map_cons,List.map_nil,hs,hx,hty,hrun]
end Go.Proofs.YtcbakncjacnnjaaGreat
namespace Go.Proofs.YtcbakncjacnnjaaGreat
open Go.Proofs.Tryz (prog)
open Go.RowKit
section
variable {P:Program} {ops:Array Oper} {n:Fr} {L:List (Nat×Value)} {w:World} {ty:TypeId} {pos:String} {after:Array Edge} {dst:Option Nat} {t:TypeId} {x s:Operand}
theorem ql {ρ:Operand→Value} {e by_:Nat} {z v:Value} (hq:fH P t=some (e,1,by_,z)) (_:z.cells.size=1) (hx:ρ x=v) (hv:v.cells=#[v]):RO P ρ (.buildSlice t 1 #[(0,x)]) w (.slice (some ⟨w.heap.size,0,none⟩) 1 1) (w.alloc (.cells #[v] e)):=by
 refine qT (l:=[(0,x)]) (cells:=#[v]) hq rfl rfl ?_
 have e1:(Array.range (1*1)).map (z.cells[·%z.cells.size]!)=#[z.cells[0]!]:=by
  rw [show Array.range (1*1)=#[0] from rfl];simp
 rw [e1];simp [Instr.fill,hx,hv]
theorem mB {post:Value→World→Prop} {base:Nat} {A A2:Option Addr} {m j cap c2 e size by_:Nat} {z:Value} {xs news:List Value} (hq:fH P t=some (e,size,by_,z)) (hzs:z.cells.size=size) (hs0:0<size)
 (hs:ev n L s=.slice A m cap) (hown:w.ownsRow base e size (.slice A m cap) m xs) (hB:base≤w.heap.size)
 (hx:ev n L x=.slice A2 j c2) (hl:news.length=j*size) (hsrc:∃ b o,A2=some ⟨b,o,none⟩∧w.rangeAt b o news) (h1:∀ u∈news,u.oneCell'=true) (h63:m+j≤9223372036854775807) (hby:(m+j)*by_≤140737488355328)
 (k:∀ A' cap' w',w'.ownsRow base e size (.slice A' (m+j) cap') (m+j) (xs++news)→w.grownBy w' (A.map (·.block))→post (.slice A' (m+j) cap') w') :
 mM P ops n L ⟨dst,.call { callee:=.builtin .append,args:=#[s,x],argTypes:=#[t,t] },ty,pos,after,none⟩ w post:=by
 obtain ⟨A',cap',w',hr,ho,hg⟩:=xL (P:=P) (ρ:=ev n L) hq hzs hs0 hs hown hB hx hl hsrc h1 h63 hby;exact ⟨rfl,.inl ⟨_,w',hr _ _ _ _ _,k A' cap' w' ho hg⟩⟩
end
theorem cd {w:World} {bs e s n c m:Nat} {A:Option Addr} {l:List Value} (h:w.ownsRow bs e s (.slice A n c) m l):∀ k,A.map (·.block)=some k→bs≤k∧k<w.heap.size:=fun k hk=>h.lt k (by rw [←hk];cases A <;> rfl)
end Go.Proofs.YtcbakncjacnnjaaGreat
namespace Go.Proofs.YtcbakncjacnnjaaGreat
open Go.Proofs.Tryz (prog)
open Go.RowKit
section
variable {P:Program} {ops:Array Oper} {Q:Exit→Act→World→Prop} {rest:List Oper} {n:Fr} {L:List (Nat×Value)} {w:World} {ty:TypeId} {pos:String} {after:Array Edge} {d:Nat} {x:Operand}
theorem gG {ρ:Operand→Value} {f:FuncId} {l1 l2:List Operand}:RO P ρ (.makeFunc (.func f) l1.toArray l2.toArray) w (.func (.func f) (l1.map ρ).toArray (l2.map ρ).toArray) w:=fun _ _ _ _ _=>by
 simp [execOp,Instr.makeFunc]
theorem nj {ρ:Operand→Value} {f:FuncId} {l:List Operand} {caps:List Value} {ats:Array TypeId} {g:Option (Nat×Bool)} {dst:Option Tmp} (hx:ρ x=.func (.func f) #[] caps.toArray) :
 execOp ρ ⟨dst,.call { callee:=.value x,args:=l.toArray,argTypes:=ats },ty,pos,after,g⟩=callFunc f (l.map ρ++caps).toArray:=by
 have:execOp ρ ⟨dst,.call { callee:=.value x,args:=l.toArray,argTypes:=ats },ty,pos,after,g⟩=(do let d ←Deferred.ofValue (ρ x) (l.toArray.map ρ);invoke d.target d.args):=rfl;rw [this,hx];show callFunc f (#[]++l.toArray.map ρ++caps.toArray)=_;simp
theorem fh {f:FuncId} {l:List Operand} {caps:List Value} {ats:Array TypeId} {R:Value→World→Prop} (hx:ev n L x=.func (.func f) #[] caps.toArray) (hf:az P f=true) (hc:Rt P f (l.map (ev n L)++caps) w R) (k:∀ v w',R v w'→St P ops Q rest n ((d,v)::L) w') :
 St P ops Q (⟨some d,.call { callee:=.value x,args:=l.toArray,argTypes:=ats },ty,pos,after,none⟩::rest) n L w:=by
 refine ⟨wpList_plain rfl fun K hK=>?_⟩;unfold Oper.wp;rw [bU,nj hx,f_ hf,Oper.upon_enter];refine Calls.mono hc fun e w' ⟨v,he,hR⟩=>?_
 subst he;show K ((mkA n L).put (some d) v) w';rw [dY];exact hK _ _ (k v w' hR).out
theorem rh {f:FuncId} {l:List Operand} {caps:List Value} {ats:Array TypeId} {R:Value→World→Prop} {dst:Option Nat} (hx:ev n L x=.func (.func f) #[] caps.toArray) (hf:az P f=true) (hc:Rt P f (l.map (ev n L)++caps) w fun v w'=>aj w w'∧R v w') :
 al P ops n L ⟨dst,.call { callee:=.value x,args:=l.toArray,argTypes:=ats },ty,pos,after,none⟩ w R:=
 .inl ⟨rfl,.inr ⟨f,l.map (ev n L)++caps,by rw [nj hx,f_ hf],hc⟩⟩
end
end Go.Proofs.YtcbakncjacnnjaaGreat
namespace Go.Proofs.YtcbakncjacnnjaaGreat
open Go.Proofs.Tryz (prog)
open Go.ChangeShapes Go.WideShapes Go.ChangeAt Go.RowKit
theorem Tryz.own:ownKnob prog.godebug=none:=by kernel_rfl
theorem Tryz.laidOut:laidOutB prog=true:=by kernel_rfl
section
variable {H:Type} {enc:TypeId×Value→H} {P:Program}
theorem sJ {f:Func} {s:ChangeSpec} {apart fresh handsOn again:Bool} {W W':World} {args:Array Value} {v:Value} {ds gs:List (DataW H)} {before pa pv:List MemPlace}
 (hW:DataW.Whole enc P f.params.toList s.vars apart W args.toList ds gs before)
 (hres:∀ (b:Nat) (sp:Nat→Bool) (hd:Bool),DataW.TrodAll enc P W' b sp hd f.resultTypes.toList (v.resultList f.resultTypes.size) (s.fn H (ds++gs)).results [])
 (hargs:∀ sp:Nat→Bool,(∀ p∈before,sp p.block=true)→DataW.TrodAll enc P W' 0 sp true f.params.toList args.toList (s.fn H (ds++gs)).args pa)
 (hvars:∀ sp:Nat→Bool,(∀ p∈before,sp p.block=true)→DataW.TrodVars enc P W' sp s.vars (s.fn H (ds++gs)).vars pv)
 (hps:before=pa++pv) (hb:Below W.heap.size W W')
 (hok:∀ (j:Nat) (t:TypeId) (r:Value),f.resultTypes[j]? =some t→(v.resultList f.resultTypes.size)[j]? =some r→Value.okWide P W' .any 0 t r) :
 s.post enc P f apart fresh handsOn again W args v W':=by
 have hlt:∀ p∈before,p.block<W.heap.size:=fun p hp=>hW.lt p hp
 have hold:∀ p∈before,(fun b=>decide (b<W.heap.size)) p.block=true:=fun p hp=>by simpa using hlt p hp
 refine ⟨ds,gs,before,[],pa,pv,hW,hres _ _ _,hargs _ hold,hvars _ hold,World.keptBut_mono (fun p hp=>⟨hp,?_⟩) (hb.frame (·∈before)),fun _=>?_⟩
 ·rw [hps,List.mem_append] at hp;exact Or.inr hp
 ·obtain ⟨_,_,_,_,_,hz,hn⟩:=hW;refine ⟨hok,_,_,([]++pa)++pv,⟨[]++pa,pv,trodAll_append (hargs _ (fun _ _=>rfl)) (hres _ _ _),hvars _ (fun _ _=>rfl),rfl,?_,?_⟩,?_⟩
  ·intro b off hp;have hin:MemPlace.cell b off∈before:=by rw [hps];simpa using hp
   rw [hb.frozen (hlt _ hin)];exact hz b off hin
  ·intro ha;have:=hn ha;rw [hps] at this;simpa using this
  ·intro p hp _;rw [hps];simpa using hp
end
end Go.Proofs.YtcbakncjacnnjaaGreat
namespace Go.Proofs.YtcbakncjacnnjaaGreat
open Go.Proofs.Tryz (prog)
open Go.ChangeShapes Go.WideShapes Go.ChangeAt Go.RowKit
inductive Ty where
 |int (k:IntKind) | bool | str | sl (t:Ty) | pr (t u:Ty) | unit
def Ty.den:Ty→Type
 | .int _=>Int | .bool=>Bool | .str=>ByteArray | .sl t=>List t.den | .pr t u=>t.den×u.den | .unit=>Unit
def Ty.size:Ty→Nat
 | .pr t u=>t.size+u.size | .unit=>0 | _=>1
def Ty.bytes:Ty→Nat
 | .int .i8 | .int .u8 | .bool=>1 | .int .i16 | .int .u16=>2 | .int .i32 | .int .u32=>4 | .int _=>8 | .str=>16 | .sl _=>24 | .pr t u=>t.bytes+u.bytes | .unit=>0
def Ty.fits (P:Program):Ty→TypeId ⊕ (List Field×Nat)→Bool
 | .int k,.inl T=>match P.underlying T with | some (.int k')=>decide (k'=k) | _=>false
 | .bool,.inl T=>match P.underlying T with | some .bool=>true | _=>false
 | .str,.inl T=>match P.underlying T with | some .string=>true | _=>false
 | .sl t,.inl T=>match P.underlying T with | some (.slice e)=>t.fits P (.inl e)&&P.cellsOf e==t.size&&decide (0<t.size)&&decide (t.bytes≤P.bytesOf e) | _=>false
 | .pr t u,.inl T=>match P.underlying T with
  |some (.struct fs)=>match fs.toList with
   |f::r=>f.offset==0&&P.cellsOf f.type==t.size&&t.fits P (.inl f.type)&&u.fits P (.inr (r,t.size))&&P.cellsOf T==t.size+u.size
   |[]=>false
  |_=>false
 | .pr t u,.inr (f::r,o)=>f.offset==o&&P.cellsOf f.type==t.size&&t.fits P (.inl f.type)&&u.fits P (.inr (r,o+t.size))
 | .unit,.inr _=>true
 |_,_=>false
def Ty.At (w:World):(t:Ty)→(Nat→Option Value)→t.den→Prop
 | .int k,c,n=>c 0=some (.int k n)∧(Lit.int k n).wf=true
 | .bool,c,b=>c 0=some (.bool b)
 | .str,c,s=>c 0=some (.string s)∧ByteArray.size s≤140737488351232
 | .sl t,c,xs=>∃ (A:Option Addr) (cap:Nat),c 0=some (.slice A (List.length xs) cap)∧List.length xs*t.bytes≤140737488351232∧(List.length xs≤cap∧cap≤9223372036854775807∧(A=none→cap=0))∧
  (0<List.length xs→∃ b o,A=some ⟨b,o,none⟩∧b<w.heap.size∧∀ (i:Nat) (x:t.den),@getElem? (List t.den) Nat t.den _ _ xs i=some x→Ty.At w t (fun j=>w.cell? ⟨b,o+i*t.size+j,none⟩) x)
 | .pr t u,c,x=>Ty.At w t c x.1∧Ty.At w u (fun j=>c (t.size+j)) x.2
 | .unit,_,_=>True
theorem Ty.At.congr {w:World}:∀ (t:Ty) {c c':Nat→Option Value} {x:t.den},(∀ j,j<t.size→c' j=c j)→t.At w c x→t.At w c' x
 | .int k,c,c',n,hc,h=>⟨(hc 0 (by simp [Ty.size])).trans h.1,h.2⟩
 | .bool,c,c',n,hc,h=>(hc 0 (by simp [Ty.size])).trans h
 | .str,c,c',n,hc,h=>⟨(hc 0 (by simp [Ty.size])).trans h.1,h.2⟩
 | .sl t,c,c',n,hc,h=>by
  obtain ⟨A,cap,h0,r⟩:=h;exact ⟨A,cap,(hc 0 (by simp [Ty.size])).trans h0,r⟩
 | .pr t u,c,c',x,hc,h=>⟨Ty.At.congr t (fun j hj=>hc j (by simp only [Ty.size];omega)) h.1,Ty.At.congr u (fun j hj=>hc _ (by simp only [Ty.size];omega)) h.2⟩
 | .unit,_,_,_,_,_=>trivial
theorem rl {w:World} {a:Addr} {v:Value} (h:w.cell? a=some v):a.block<w.heap.size:=by
 rcases Nat.lt_or_ge a.block w.heap.size with hlt | hge
 ·exact hlt
 ·unfold World.cell? at h;rw [Array.getElem?_eq_none hge] at h;cases h
section
variable {H:Type} {enc:TypeId×Value→H} {P:Program} {w:World} {base:Nat} {spare:Nat→Bool} {held:Bool}
theorem wv {α:Type} {n:Nat} {p:Nat→α→Prop} (h:∀ i,i<n→∃ x,p i x):∃ xs:List α,xs.length=n∧∀ i x,xs[i]? =some x→p i x:=by
 induction n with
 |zero=>exact ⟨[],rfl,fun i x hx=>by simp at hx⟩
 |succ n ih=>
  obtain ⟨xs,hl,hx⟩:=ih fun i hi=>h i (by omega)
  obtain ⟨x,hp⟩:=h n (by omega);refine ⟨xs++[x],by simp [hl],fun i y hy=>?_⟩;rcases Nat.lt_or_ge i xs.length with hlt | hge
  ·rw [List.getElem?_append_left hlt] at hy;exact hx i y hy
  ·rw [List.getElem?_append_right hge] at hy
   have h0:i-xs.length=0:=by
    rcases Nat.eq_zero_or_pos (i-xs.length) with h0 | h0
    ·exact h0
    ·rw [List.getElem?_eq_none (by simp;omega)] at hy;cases hy
   rw [h0] at hy;simp at hy;subst hy;obtain rfl:i=n:=by omega
   exact hp
theorem pD {H:Type} {P:Program} {e:TypeId}:∀ (l:List (DataW H)) (d:DataW H),d∈l→∀ q∈d.weights P e,q∈DataW.weightsAll P e l
 |x::r,d,h,q,hq=>by
  simp only [DataW.weightsAll,List.mem_append];rcases List.mem_cons.1 h with rfl | h
  ·exact .inl hq
  ·exact .inr (pD r d h q hq)
theorem Ty.of_trod:∀ (t:Ty),
 (∀ (T:TypeId),t.fits P (.inl T)=true→∀ (fuel:Nat) (cs:List Value) (y:DataW H×List MemPlace),DataW.trod enc P w base spare held fuel T cs=some y→(∀ n∈y.1.weights P T,n≤140737488351232)→∃ x,t.At w (fun j=>cs[j]?) x)∧
 (∀ (fs:List Field) (o:Nat),t.fits P (.inr (fs,o))=true→∀ (cs:List Value),cs.length=o+t.size→(∀ (j:Nat) (f:Field),fs[j]? =some f→∃ (fuel:Nat) (y:DataW H×List MemPlace),DataW.trod enc P w base spare held fuel f.type ((cs.drop f.offset).take (P.cellsOf f.type))=some y∧∀ n∈y.1.weights P f.type,n≤140737488351232)→
  ∃ x,t.At w (fun j=>cs[o+j]?) x)
 | .int k=>by
  refine ⟨fun T hf fuel cs y h hsz=>?_,fun fs o hf=>by simp [Ty.fits] at hf⟩;simp only [Ty.fits] at hf;split at hf
  ·rename_i k' hu;obtain rfl:k'=k:=by simpa using hf
   obtain ⟨n,rfl,_,hn⟩:=DataW.trod_int hu h;exact ⟨n,rfl,hn⟩
  ·cases hf
 | .bool=>by
  refine ⟨fun T hf fuel cs y h hsz=>?_,fun fs o hf=>by simp [Ty.fits] at hf⟩;simp only [Ty.fits] at hf;split at hf
  ·rename_i hu;obtain ⟨n,rfl,_⟩:=DataW.trod_bool hu h;exact ⟨n,rfl⟩
  ·cases hf
 | .str=>by
  refine ⟨fun T hf fuel cs y h hsz=>?_,fun fs o hf=>by simp [Ty.fits] at hf⟩;simp only [Ty.fits] at hf;split at hf
  ·rename_i hu;obtain ⟨n,rfl,rfl,hn⟩:=DataW.trod_string hu h;exact ⟨n,rfl,by have:=hsz n.data.toList.length (by simp [DataW.weights]);simpa using this⟩
  ·cases hf
 | .sl t=>by
  refine ⟨fun T hf fuel cs y h hsz=>?_,fun fs o hf=>by simp [Ty.fits] at hf⟩;simp only [Ty.fits] at hf;split at hf
  ·rename_i e hu;simp only [Bool.and_eq_true,beq_iff_eq,decide_eq_true_eq] at hf;obtain ⟨⟨⟨hft,hC⟩,hpos⟩,hby⟩:=hf;rcases Go.Deep.open_slice hu h with ⟨rfl,_⟩ | ⟨a,len,cap,m,n,D,Pl,rfl,hb,hl,hm,hmm,rfl,hi⟩
   ·exact ⟨[],none,0,rfl,by simp,by simp,fun h0=>absurd h0 (by simp)⟩
   ·have hlm:len≤m:=by rw [hmm];split <;> omega
    have key:∀ i,i<len→∃ x,t.At w (fun j=>w.cell? ((a.add (i*t.size)).add j)) x:=by
     intro i hil;obtain ⟨cs',hc,ht'⟩:=hi i (by omega);obtain ⟨_,hcl,hat⟩:=World.cells?_some hc
     obtain ⟨x,hx⟩:=(Ty.of_trod t).1 e hft n cs' _ ht' (fun q hq=>hsz q (by
      simp only [DataW.weights,hu,List.mem_cons,List.mem_append];exact .inr (.inl (pD ((List.range len).map D) (D i) (List.mem_map.2 ⟨i,List.mem_range.2 hil,rfl⟩) q hq))))
     rw [hC] at hat hcl;exact ⟨x,Ty.At.congr t (fun j hj=>hat j hj) hx⟩
    obtain ⟨xs,hxl,hxs⟩:=wv key;have hwt:=hsz ((((List.range len).map D).length+((List.range (m-len)).map fun j=>D (len+j)).length)*P.bytesOf e) (by simp [DataW.weights,hu])
    have hwt2:len*t.bytes≤140737488351232:=by
     refine Nat.le_trans (Nat.mul_le_mul ?_ hby) hwt;simp
    unfold maxLen at hm;refine ⟨xs,some a,cap,by rw [hxl];rfl,by rw [hxl];exact hwt2,⟨by omega,by omega,fun hn=>by cases hn⟩,fun h0=>?_⟩
    have hc0:∃ v,w.cell? (a.add 0)=some v:=by
     obtain ⟨cs',hc,_⟩:=hi 0 (by omega);obtain ⟨_,hcl,hat⟩:=World.cells?_some hc;have h1:=hat 0 (by omega);rw [Go.Deep.add_add] at h1;simp only [Nat.zero_mul,Nat.add_zero] at h1;exact ⟨cs'[0]'(by omega),by rw [h1,List.getElem?_eq_getElem (by omega)]⟩
    obtain ⟨v,hv⟩:=hc0;obtain ⟨b,o,spot⟩:=a;have hspot:spot=none:=by simpa [Addr.add] using World.cell?_spot hv
    subst hspot;have hblt:b<w.heap.size:=by simpa [Addr.add] using rl hv
    refine ⟨b,o,rfl,hblt,fun i x hx=>?_⟩;refine Ty.At.congr t (fun j hj=>?_) (hxs i x hx);rw [Go.Deep.add_add,Go.WideShapes.add_plain,Nat.add_assoc]
  ·cases hf
 | .pr t u=>by
  have main:∀ (f:Field) (r:List Field) (o:Nat),(f.offset==o&&P.cellsOf f.type==t.size&&t.fits P (.inl f.type)&&u.fits P (.inr (r,o+t.size)))=true→∀ (cs:List Value),cs.length=o+(t.size+u.size)→
   (∀ (j:Nat) (g:Field),(f::r)[j]? =some g→∃ (fuel:Nat) (y:DataW H×List MemPlace),DataW.trod enc P w base spare held fuel g.type ((cs.drop g.offset).take (P.cellsOf g.type))=some y∧∀ n∈y.1.weights P g.type,n≤140737488351232)→
   ∃ x,Ty.At w (.pr t u) (fun j=>cs[o+j]?) x:=by
   intro f r o hf cs hcs hall;simp only [Bool.and_eq_true,beq_iff_eq] at hf;obtain ⟨⟨⟨ho,hc⟩,ht⟩,hu⟩:=hf;obtain ⟨fuel,y,hy,hyw⟩:=hall 0 f rfl;obtain ⟨x1,h1⟩:=(Ty.of_trod t).1 _ ht _ _ _ hy hyw;obtain ⟨x2,h2⟩:=(Ty.of_trod u).2 r (o+t.size) hu cs (by omega) (fun j g hg=>hall (j+1) g (by simpa using hg));refine ⟨(x1,x2),Ty.At.congr t (fun j hj=>?_) h1,Ty.At.congr u (fun j hj=>?_) h2⟩
   ·simp only [hc,ho];rw [List.getElem?_take,if_pos hj,List.getElem?_drop]
   ·simp only [Nat.add_assoc]
  refine ⟨fun T hf fuel cs y h hsz=>?_,fun fs o hf cs hcs hall=>?_⟩
  ·simp only [Ty.fits] at hf;split at hf
   ·rename_i fs hu;split at hf
    ·rename_i f r hfs;simp only [Bool.and_eq_true,beq_iff_eq] at hf;obtain ⟨⟨⟨⟨ho,hc⟩,ht⟩,hu'⟩,hsz⟩:=hf;obtain ⟨ys,n',_,rfl,hlen,_,hall⟩:=DataW.trod_struct hu h
     have hm:=main f r 0 (by simp [ho,hc,ht,hu']) cs (by omega) (fun j g hg=>by
      have hg':fs[j]? =some g:=by rw [←hfs] at hg;simpa using hg
      have:=hall j g hg'
      have hjl:j<ys.length:=by
       have:j<fs.size:=(Array.getElem?_eq_some_iff.1 hg').1;omega
      refine ⟨n',ys[j],by rw [hall j g hg',List.getElem?_eq_getElem hjl],fun q hq=>hsz q ?_⟩;simp only [DataW.weights,hu];exact DataW.weights_mem_each (j:=j) (t:=g.type) (d:=ys[j].1) (by rw [List.getElem?_map,Array.getElem?_toList,hg'];rfl) (by rw [List.getElem?_map,List.getElem?_eq_getElem hjl];rfl) q hq)
     simpa using hm
    ·cases hf
   ·cases hf
  ·match fs,hf with
   |f::r,hf=>
    simp only [Ty.fits] at hf;exact main f r o hf cs (by simpa [Ty.size] using hcs) hall
   |[],hf=>simp [Ty.fits] at hf
 | .unit=>by
  refine ⟨fun T hf=>by simp [Ty.fits] at hf,fun fs o hf cs hcs hall=>⟨(),trivial⟩⟩
end
theorem I8 {H:Type} {enc:TypeId×Value→H} {w:World} {base:Nat} {T:TypeId} {v:Value} {d:DataW H} {p:List MemPlace} (t u:Ty) (hf:(Ty.pr t u).fits prog (.inl T)=true)
 (hv:Value.okWide prog w .any base T v) (h:DataW.Trod enc prog w 0 (fun _=>true) true T v d p) (hsz:∀ n∈d.weights prog T,n≤140737488351232) :
 ∃ (cs:Array Value) (x:(Ty.pr t u).den),v=.agg cs∧cs.size=(Ty.pr t u).size∧(Ty.pr t u).At w (fun j=>cs[j]?) x:=by
 have hu:∃ fs,prog.underlying T=some (.struct fs)∧prog.cellsOf T=(Ty.pr t u).size:=by
  have hf':=hf;simp only [Ty.fits] at hf';split at hf'
  ·rename_i fs hu;split at hf'
   ·simp only [Bool.and_eq_true,beq_iff_eq] at hf';exact ⟨fs,hu,hf'.2⟩
   ·cases hf'
  ·cases hf'
 obtain ⟨fs,hu,hC⟩:=hu;obtain ⟨cs,rfl,hcs⟩:=okWide_struct hu hv;obtain ⟨fuel,hfu⟩:=h;obtain ⟨x,hx⟩:=(Ty.of_trod (.pr t u)).1 T hf fuel _ _ hfu hsz;refine ⟨cs,x,rfl,hcs.trans hC,?_⟩;simpa [Value.cells] using hx
end Go.Proofs.YtcbakncjacnnjaaGreat
namespace Go.Proofs.YtcbakncjacnnjaaGreat
open Go.Proofs.Tryz (prog)
open Go.RowKit Go.ChangeShapes Go.WideShapes Go.ChangeAt
theorem As {k:IntKind} {x:Int} (h:(Lit.int k x).wf=true):k.min≤x∧x≤k.max:=by simpa [Lit.wf] using h
theorem B9 {x:Int} (h:(Lit.int .i64 x).wf=true):-9223372036854775808≤x∧x≤9223372036854775807:=by
 have:=As h;have e1:IntKind.i64.min=-9223372036854775808:=by decide
 have e2:IntKind.i64.max=9223372036854775807:=by decide
 omega
theorem Blk.grown {w w':World} {g:Nat} {t:TypeId} {cs:Array Value} {r:Option Nat} (h:Blk w g t cs) (hg:w.grownBy w' r) (hne:∀ k,r=some k→k≠g):Blk w' g t cs:=
 (hg.block g h.lt (fun e=>hne g e.symm rfl)).trans h
end Go.Proofs.YtcbakncjacnnjaaGreat
namespace Go.Proofs.YtcbakncjacnnjaaGreat
open Go.Proofs.Tryz (prog)
open Go.RowKit Go.ChangeShapes Go.WideShapes Go.ChangeAt
end Go.Proofs.YtcbakncjacnnjaaGreat
namespace Go.Proofs.YtcbakncjacnnjaaGreat
open Go.Proofs.Tryz (prog)
open Go.RowKit Go.ChangeShapes Go.WideShapes Go.ChangeAt
theorem c0 {P:Program} {ops:Array Oper} {n:Fr} {L:List (Nat×Value)} {w:World} {op:Op} {ty:TypeId} {pos:String} {after:Array Edge} {d:Option Nat} {R:Value→World→Prop} {j:Nat} {b:Bool} (hg:lF ops n L j=undef) (hR:R undef w):al P ops n L ⟨d,op,ty,pos,after,some (j,b)⟩ w R:=
 .inr ⟨by show (yielded ops (mkT n.n L) j==some b)=false;rw [mO hg];rfl,hR⟩
theorem cY {w:World} {base e s n c m g t:Nat} {A:Option Addr} {xs:List Value} {cs:Array Value} (h:w.ownsRow base e s (.slice A n c) m xs) (hb:Blk w g t cs) (hne:t≠e):∀ k,A.map (·.block)=some k→k≠g:=by
 rintro k hk rfl;rcases h.2 with ⟨h0,_⟩ | ⟨g',cap,cur,hv,hg,hh,r⟩
 ·simp only [Value.slice.injEq] at h0;rw [h0.1] at hk;cases hk
 ·simp only [Value.slice.injEq] at hv;rw [hv.1] at hk;simp only [Option.map_some,Option.some.injEq] at hk;subst hk;unfold Blk at hb;rw [hh] at hb;simp only [Option.some.injEq,Obj.cells.injEq] at hb;exact hne hb.2.1.symm
theorem cf {w w':World} {base e s n c g:Nat} {A:Option Addr} {xs:List Value} (h:w.ownsRow base e s (.slice A n c) n xs) (o:cH g w w') (hne:∀ k,A.map (·.block)=some k→k≠g):w'.ownsRow base e s (.slice A n c) n xs:=by
 refine ⟨h.1,?_⟩;rcases h.2 with h2 | ⟨g',cap,cur,hv,hg,hh,r⟩
 ·exact .inl h2
 ·refine .inr ⟨g',cap,cur,hv,hg,?_,r⟩;simp only [Value.slice.injEq] at hv;rw [o.block g' (hne g' (by rw [hv.1];rfl))];exact hh
theorem gx {w:World} {base base' size n:Nat} {e:TypeId} {v:Value} {xs:List Value} (h:w.ownsRow base e size v n xs) (hb:base'≤base):w.ownsRow base' e size v n xs:=by
 refine ⟨h.1,?_⟩;rcases h.2 with h0 | ⟨g,cap,cur,hv,hg,r⟩
 ·exact .inl h0
 ·exact .inr ⟨g,cap,cur,hv,by omega,r⟩
end Go.Proofs.YtcbakncjacnnjaaGreat
namespace Go.Proofs.YtcbakncjacnnjaaGreat
open Go.Proofs.Tryz (prog)
open Go.RowKit
section
variable {α:Type} {f:α→List Value} {s:Nat}
theorem eW (hf:∀ x,(f x).length=s):∀ (L:List α),(L.flatMap f).length=L.length*s
 |[]=>by simp
 |x::r=>by rw [List.flatMap_cons,List.length_append,hf,eW hf r,List.length_cons,Nat.succ_mul];omega
theorem gP (hf:∀ x,(f x).length=s):∀ (L:List α) (k:Nat),(L.flatMap f).take (k*s)=(L.take k).flatMap f
 |[],k=>by simp
 |x::r,0=>by simp
 |x::r,k+1=>by
  rw [List.flatMap_cons,List.take_succ_cons,List.flatMap_cons,←gP hf r k,List.take_append,hf];rw [show (k+1)*s-s=k*s by rw [Nat.succ_mul];omega,List.take_of_length_le (by rw [hf,Nat.succ_mul];omega)]
theorem iG (hf:∀ x,(f x).length=s):∀ (L:List α) (k:Nat),(L.flatMap f).drop (k*s)=(L.drop k).flatMap f
 |[],k=>by simp
 |x::r,0=>by simp
 |x::r,k+1=>by
  rw [List.flatMap_cons,List.drop_succ_cons,←iG hf r k,List.drop_append,hf];rw [show (k+1)*s-s=k*s by rw [Nat.succ_mul];omega,List.drop_of_length_le (by rw [hf,Nat.succ_mul];omega),List.nil_append]
theorem qu (hf:∀ x,(f x).length=s) (L:List α) (i:Nat) (hi:i<L.length) (j:Nat) (hj:j<s):(L.flatMap f)[i*s+j]? =(f L[i])[j]? :=by
 have h1:((L.flatMap f).drop (i*s))[j]? =(L.flatMap f)[i*s+j]? :=by rw [List.getElem?_drop]
 rw [←h1,iG hf,List.drop_eq_getElem_cons hi,List.flatMap_cons,List.getElem?_append_left (by rw [hf];exact hj)]
theorem rA {L:List α} (h:∀ x∈L,∀ u∈f x,u.oneCell'=true):∀ u∈L.flatMap f,u.oneCell'=true:=fun u hu=>by
 obtain ⟨x,hx,hu⟩:=List.mem_flatMap.1 hu;exact h x hx u hu
def dg (s:Nat) (f:α→List Value) (w:World) (A:Option Addr) (L:List α):Prop:=0<L.length→∃ b o,A=some ⟨b,o,none⟩∧∀ i (h:i<L.length),w.rangeAt b (o+i*s) (f L[i])
theorem dg.from_ {w w':World} {A:Option Addr} {L:List α} (h:dg s f w A L) (hF:aj w w'):dg s f w' A L:=fun h0=>
 let ⟨b,o,hA,hc⟩:=h h0
 ⟨b,o,hA,fun i hi=>du hF (hc i hi)⟩
theorem dg.nil {w:World} {A:Option Addr}:dg s f w A []:=fun h=>absurd h (by simp)
theorem dg.flat (hf:∀ x,(f x).length=s) {w:World} {A:Option Addr} {L:List α} (h:dg s f w A L):0<L.length→∃ b o,A=some ⟨b,o,none⟩∧w.rangeAt b o (L.flatMap f):=fun h0=>by
 obtain ⟨b,o,hA,hc⟩:=h h0;refine ⟨b,o,hA,fun j v hv=>?_⟩
 have hlt:j<L.length*s:=by
  rw [←eW hf];rcases Nat.lt_or_ge j (L.flatMap f).length with a | a
  ·exact a
  ·rw [List.getElem?_eq_none a] at hv;cases hv
 have hs:0<s:=by
  rcases Nat.eq_zero_or_pos s with h | h
  ·subst h;omega
  ·exact h
 have hi:j/s<L.length:=by rw [Nat.div_lt_iff_lt_mul hs];exact hlt
 have hj:j/s*s+j%s=j:=by rw [Nat.mul_comm];exact Nat.div_add_mod j s
 rw [←hj,qu hf L _ hi _ (Nat.mod_lt _ hs)] at hv;have:=hc _ hi _ v hv
 rwa [Nat.add_assoc,hj] at this
theorem dg.take {w:World} {A:Option Addr} {L:List α} (h:dg s f w A L) (k:Nat):dg s f w A (L.take k):=fun h0=>by
 rw [List.length_take] at h0;obtain ⟨b,o,hA,hc⟩:=h (by omega);refine ⟨b,o,hA,fun i hi=>?_⟩;rw [List.getElem_take];exact hc i (by rw [List.length_take] at hi;omega)
theorem dg.own (hf:∀ x,(f x).length=s) (hs:0<s) {w:World} {base e n c:Nat} {A:Option Addr} {L:List α} (h:w.ownsRow base e s (.slice A n c) n (L.flatMap f)):L.length=n∧dg s f w A L:=by
 have hn:L.length=n:=by
  have:=h.1;rw [eW hf] at this;exact Nat.eq_of_mul_eq_mul_right hs this
 refine ⟨hn,fun h0=>?_⟩;obtain ⟨g,rfl⟩:=dm h (by omega);refine ⟨g,0,rfl,fun i hi j v hv=>?_⟩
 have hj:j<s:=by
  rw [←hf L[i]];rcases Nat.lt_or_ge j (f L[i]).length with a | a
  ·exact a
  ·rw [List.getElem?_eq_none a] at hv;cases hv
 have hlt:i*s+j<n*s:=by
  have:(i+1)*s≤n*s:=Nat.mul_le_mul_right s (by omega);rw [Nat.succ_mul] at this;omega
 rw [Nat.zero_add,h.cellAt _ hlt,qu hf L i hi j hj];exact hv
end
theorem fa {w:World} {base e size n c:Nat} {A:Option Addr} {xs:List Value} (h:w.ownsRow base e size (.slice A n c) n xs) (hn:0<n) :
 ∃ g cur,A=some ⟨g,0,none⟩∧base≤g∧Blk w g e (List.toArray cur)∧n≤c∧c≤maxLen∧cur.length=c*size∧cur.take (n*size)=xs:=by
 rcases h.2 with ⟨_,h0⟩ | ⟨g,cap,cur,hv,hg,hh,h1,h2,h3,h4⟩
 ·omega
 ·simp only [Value.slice.injEq,true_and] at hv;obtain ⟨rfl,rfl⟩:=hv;exact ⟨g,cur.toList,rfl,hg,by simpa [Blk] using hh,h1,h2,by simpa using h3,h4⟩
theorem gv {w:World} {base e size n c g:Nat} {cur xs:List Value} (hg:base≤g) (hb:Blk w g e cur.toArray) (h1:n≤c) (h2:c≤maxLen) (h3:cur.length=c*size) (h4:cur.take (n*size)=xs) :
 w.ownsRow base e size (.slice (some ⟨g,0,none⟩) n c) n xs:=by
 refine ⟨?_,.inr ⟨g,c,cur.toArray,rfl,hg,hb,h1,h2,by simpa using h3,by simpa using h4⟩⟩;rw [←h4,List.length_take,h3];exact Nat.min_eq_left (Nat.mul_le_mul_right _ h1)
theorem br (cs vs:List Value) (o:Nat) (h:o+vs.length≤cs.length):(dp cs o vs).length=cs.length:=by simp [dp];omega
theorem o3 (cs vs:List Value) (o k:Nat) (h:o+vs.length≤k) (hk:k≤cs.length):(dp cs o vs).take k=dp (cs.take k) o vs:=by
 unfold dp;rw [List.take_append,List.take_of_length_le (by simp;omega)];rw [List.take_take,Nat.min_eq_left (by omega),List.drop_take]
 congr 2
 simp;omega
theorem gZ (cs vs:List Value) (o k:Nat) (h:k≤o) (ho:o≤cs.length):(dp cs o vs).take k=cs.take k:=by
 unfold dp;rw [List.append_assoc,List.take_append_of_le_length (by simp;omega),List.take_take,Nat.min_eq_left h]
theorem vV (cs:List Value) (o:Nat):dp cs o []=cs:=by simp [dp]
theorem iN (cs vs:List Value) (o j:Nat) (h:o+vs.length≤cs.length):(dp cs o vs)[j]? =if o≤j∧j<o+vs.length then vs[j-o]? else cs[j]? :=by
 unfold dp;by_cases h1:j<o
 ·rw [if_neg (by omega),List.append_assoc,List.getElem?_append_left (by simp;omega),List.getElem?_take_of_lt h1]
 ·by_cases h2:j<o+vs.length
  ·rw [if_pos ⟨by omega,h2⟩,List.append_assoc,List.getElem?_append_right (by simp;omega),List.getElem?_append_left (by simp;omega)]
   congr 1
   simp;omega
  ·rw [if_neg (by omega),List.getElem?_append_right (by simp;omega),List.getElem?_drop]
   congr 1
   simp;omega
section
variable {P:Program} {ρ:Operand→Value} {w:World}
theorem Hf {t s:Nat} (h:dK P t=some s):∃ i,P.info? t=some i∧i.size=s:=by
 unfold dK at h;cases hi:P.info? t with
 |none=>simp [hi] at h
 |some i=>exact ⟨i,rfl,by simpa [hi] using h⟩
theorem oO {g o:Nat} {u:TypeId} {cur vs:List Value} {A:Option Addr} (hA:0<vs.length→A=some ⟨g,o,none⟩) (hb:Blk w g u cur.toArray) (hfit:o+vs.length≤cur.length) (h1:∀ v∈vs,v.oneCell'=true) :
 ∃ w',(match A with | some a=>storeCells a vs | none=>(pure ():Sem Unit)).run P w=.ok () w'∧cH g w w'∧Blk w' g u (dp cur o vs).toArray:=by
 cases vs with
 |nil=>
  refine ⟨w,?_,cH.rfl_,by rw [vV];exact hb⟩;cases A <;> simp [storeCells]
 |cons v vs=>
  obtain rfl:=hA (by simp);have:=run_storeCells_at P g o u (v::vs) 0 cur.toArray w hb (by simpa using hfit) h1;refine ⟨_,this,?_,?_⟩
  ·exact ⟨rfl,rfl,rfl,by simp [World.setRow],fun k hk=>setRow_other w g k _ hk⟩
  ·have h2:=setRow_heap w g cur.toArray ((cur.toArray.toList.take (o+0)++(v::vs)++cur.toArray.toList.drop (o+0+(v::vs).length)).toArray) u (0,0) hb;exact h2
theorem oP {cs:List Value} {n:Nat} {A:Option Addr} (hn:cs.length=n) (h:0<cs.length→∃ b o,A=some ⟨b,o,none⟩∧w.rangeAt b o cs) :
 (match A with | some a=>loadCells a n | none=>(pure #[]:Sem (Array Value))).run P w=.ok cs.toArray w:=by
 subst hn;cases cs with
 |nil=>cases A <;> simp [loadCells,loadCellsFrom]
 |cons c cs=>
  obtain ⟨b,o,rfl,hr⟩:=h (by simp);exact run_loadCells_list (P:=P) w ⟨b,o,none⟩ (c::cs) (fun j v hv=>by rw [Addr.add_mid];exact hr j v hv)
theorem qV {d s:Operand} {dT sT e size g o m c j c2:Nat} {A A2:Option Addr} {u:TypeId} {cur news:List Value} (ht:cN P dT=some (e,size)) (hd:ρ d=.slice A m c) (hs:ρ s=.slice A2 j c2) (hn:news.length=min j m*size)
 (hA:0<news.length→A=some ⟨g,o,none⟩) (hsrc:0<news.length→∃ b o,A2=some ⟨b,o,none⟩∧w.rangeAt b o news) (hb:Blk w g u cur.toArray) (hfit:o+news.length≤cur.length) (h1:∀ v∈news,v.oneCell'=true) :
 ∃ w',RO P ρ (.call { callee:=.builtin .copy,args:=#[d,s],argTypes:=#[dT,sT] }) w (.int .i64 (min j m:Nat)) w'∧cH g w w'∧Blk w' g u (dp cur o news).toArray:=by
 obtain ⟨hu,hsz⟩:=jj ht;obtain ⟨i,hi,hs2⟩:=Hf hsz;subst hs2;obtain ⟨w',hst,ho,hbl⟩:=oO (P:=P) (A:=A) hA hb hfit h1;have hl:=oP (P:=P) (n:=min j m*i.size) hn hsrc
 have key:∀ ty,(Builtin.copy_ #[dT,sT] ty #[.slice A m c,.slice A2 j c2]).run P w=.ok (.int .i64 (min j m:Nat)) w':=fun ty=>by
  have e1:Nat.min j m=min j m:=rfl;cases A2 with
  |none=>
   cases A with
   |none=>simp_all [Builtin.copy_,run_underlying hu,Builtin.lenOf,Builtin.firstCells,sizeOf,typeInfo,goInt]
   |some a=>simp_all [Builtin.copy_,run_underlying hu,Builtin.lenOf,Builtin.firstCells,sizeOf,typeInfo,goInt]
  |some a2=>
   simp only at hl;cases A with
   |none=>simp_all [Builtin.copy_,run_underlying hu,Builtin.lenOf,Builtin.firstCells,sizeOf,typeInfo,goInt]
   |some a=>simp_all [Builtin.copy_,run_underlying hu,Builtin.lenOf,Builtin.firstCells,sizeOf,typeInfo,goInt]
 refine ⟨w',fun dst ty pos after gg=>?_,ho,hbl⟩;unfold execOp;simp only [resolve,invoke,builtin,Sem.run_bind,Sem.run_pure,Result.andThen_ok,List.map_toArray,List.map_cons,List.map_nil,hd,hs,key]
theorem AQ {s:Operand} {t e size by_ g o n c:Nat} {A:Option Addr} {u:TypeId} {z:Value} {cur:List Value} (hq:fH P t=some (e,size,by_,z)) (hzs:z.cells.size=size) (hs:ρ s=.slice A n c)
 (hA:0<n*size→A=some ⟨g,o,none⟩) (hb:Blk w g u cur.toArray) (hfit:o+n*size≤cur.length) (h1:∀ v∈z.cells.toList,v.oneCell'=true) :
 ∃ w' zs,RO P ρ (.call { callee:=.builtin .clear,args:=#[s],argTypes:=#[t] }) w (.tuple #[]) w'∧cH g w w'∧zs.length=n*size∧Blk w' g u (dp cur o zs).toArray:=by
 obtain ⟨i,hu,hi,hsz,_,hz⟩:=lY hq;have hzc:(Builtin.zeroCells z.cells n).toList.length=n*size:=by simp [Builtin.zeroCells,hzs]
 have hz1:∀ v∈(Builtin.zeroCells z.cells n).toList,v.oneCell'=true:=fun v hv=>by
  simp only [Builtin.zeroCells,Array.toList_map,List.mem_map,Array.toList_range,List.mem_range] at hv;obtain ⟨k,hk,rfl⟩:=hv
  have hz0:0<z.cells.size:=by
   rcases Nat.eq_zero_or_pos z.cells.size with h | h
   ·rw [h] at hk;omega
   ·exact h
  refine h1 _ ?_;rw [getElem!_pos z.cells (k%z.cells.size) (Nat.mod_lt _ hz0)];exact Array.mem_toList_iff.2 (Array.getElem_mem _)
 obtain ⟨w',hst,ho,hbl⟩:=oO (P:=P) (A:=A) (vs:=(Builtin.zeroCells z.cells n).toList) (by rw [hzc];exact hA) hb (by rw [hzc];exact hfit) hz1;have hzv:(zeroValue e).run P w=.ok z w:=by simp [zeroValue,typeInfo,hi,hz]
 by_cases h0:n=0
 ·subst h0;refine ⟨w,[],fun dst ty pos after gg=>?_,cH.rfl_,by simp,by rw [vV];exact hb⟩;unfold execOp;cases A <;> simp [resolve,invoke,builtin,hs,Builtin.clear_,run_underlying hu]
 ·obtain ⟨k,rfl⟩:∃ k,n=k+1:=⟨n-1,by omega⟩;refine ⟨w',_,fun dst ty pos after gg=>?_,ho,hzc,hbl⟩;unfold execOp;cases A with
  |none=>simp_all [resolve,invoke,builtin,Builtin.clear_,run_underlying hu]
  |some a=>simp_all [resolve,invoke,builtin,Builtin.clear_,run_underlying hu]
theorem xJ {s x:Operand} {t e size g m cap j c2:Nat} {A2:Option Addr} {cur news:List Value} (ht:cN P t=some (e,size)) (hs:ρ s=.slice (some ⟨g,0,none⟩) m cap) (hx:ρ x=.slice A2 j c2) (hl:news.length=j*size)
 (hsrc:0<news.length→∃ b o,A2=some ⟨b,o,none⟩∧w.rangeAt b o news) (hb:Blk w g e cur.toArray) (h1:∀ v∈news,v.oneCell'=true) (hroom:m+j≤cap) (hfit:m*size+news.length≤cur.length) :
 ∃ w',RO P ρ (.call { callee:=.builtin .append,args:=#[s,x],argTypes:=#[t,t] }) w (.slice (some ⟨g,0,none⟩) (m+j) cap) w'∧cH g w w'∧Blk w' g e (dp cur (m*size) news).toArray:=by
 obtain ⟨hu,hsz⟩:=jj ht;obtain ⟨i,hi,hs2⟩:=Hf hsz;subst hs2;obtain ⟨w',hst,ho,hbl⟩:=oO (P:=P) (A:=some ⟨g,m*i.size,none⟩) (o:=m*i.size) (fun _=>rfl) hb hfit h1;have hld:=oP (P:=P) (n:=j*i.size) hl hsrc
 have key:∀ ty,(Builtin.append_ #[t,t] ty #[.slice (some ⟨g,0,none⟩) m cap,.slice A2 j c2]).run P w=.ok (.slice (some ⟨g,0,none⟩) (m+j) cap) w':=fun ty=>by
  have hf:(Builtin.firstCells i.size j (.slice A2 j c2)).run P w=.ok news.toArray w:=by cases A2 <;> exact hld
  simp only at hst;simp [Builtin.append_,run_underlying hu,sizeOf,typeInfo,hi,Builtin.lenOf,hroom,hf,Addr.add_lit,hst]
 refine ⟨w',fun dst ty pos after gg=>?_,ho,hbl⟩;unfold execOp;simp only [resolve,invoke,builtin,Sem.run_bind,Sem.run_pure,Result.andThen_ok,List.map_toArray,List.map_cons,List.map_nil,hs,hx,key]
theorem xI {s x:Operand} {t tn e size by_ m cap k:Nat} {A:Option Addr} {z:Value} {kn:IntKind} {olds:List Value} (hq:fH P t=some (e,size,by_,z)) (htn:P.underlying tn=some (.int kn)) (hzs:z.cells.size=size) (hs0:0<size)
 (hs:ρ s=.slice A m cap) (hx:ρ x=.int .i64 (k:Nat)) (hol:olds.length=m*size) (hold:0<olds.length→∃ b o,A=some ⟨b,o,none⟩∧w.rangeAt b o olds) (h0:0<k) (hg:cap<m+k) (h63:m+k≤maxLen) (hby:(m+k)*by_≤140737488355328) (_:m≤cap) :
 ∃ c' w' cur,RO P ρ (.call { callee:=.builtin .append,args:=#[s,x],argTypes:=#[t,tn] }) w (.slice (some ⟨w.heap.size,0,none⟩) (m+k) c') w'∧aj w w'∧Blk w' w.heap.size e (List.toArray cur)∧m+k≤c'∧c'≤maxLen∧cur.length=c'*size∧cur.take (m*size)=olds:=by
 obtain ⟨i,hu,hi,hsz,hb,hz⟩:=lY hq;subst hsz;subst hb
 have hld:(Builtin.firstCells i.size m (.slice A m cap)).run P w.drew=.ok olds.toArray w.drew:=by
  have:=oP (P:=P) (w:=w.drew) (n:=m*i.size) hol (fun h=>let ⟨b,o,h1,h2⟩:=hold h;⟨b,o,h1,fun j v hv=>h2 j v hv⟩);cases A <;> exact this
 have hnx:Builtin.nextslicecap (m+k) cap*i.bytes≤281474976710656:=growslice_fits hg hby
 have hrun:=fun ty=>Lib.run_append_grow_zeros (P:=P) w t tn ty e i z .i64 kn hu htn hi hz A m cap olds hld k h0 hs0 hg (by unfold maxLen at h63;omega) (by
  have:k*i.bytes≤(m+k)*i.bytes:=Nat.mul_le_mul_right _ (by omega);omega) hnx
 have hcge:=grownCap_ge w (m+k) cap e;have hcle:=grownCap_le_maxLen w (m+k) cap e h63
 generalize grownCap w (m+k) cap e=c' at hrun hcge hcle
 refine ⟨c',w.drew.alloc (.cells (olds.toArray++Builtin.zeroCells z.cells k++Builtin.zeroCells z.cells (c'-(m+k))) e),olds++(Builtin.zeroCells z.cells k).toList++(Builtin.zeroCells z.cells (c'-(m+k))).toList,fun dst ty pos after gg=>?_,aj.rfl_.d1.new _,?_,hcge,hcle,?_,?_⟩
 ·unfold execOp;simp only [resolve,invoke,builtin,Sem.run_bind,Sem.run_pure,Result.andThen_ok,List.map_toArray,List.map_cons,List.map_nil,hs,hx,hrun]
 ·have:=Blk.new w.drew e (olds.toArray++Builtin.zeroCells z.cells k++Builtin.zeroCells z.cells (c'-(m+k)))
  have e1:(olds++(Builtin.zeroCells z.cells k).toList++(Builtin.zeroCells z.cells (c'-(m+k))).toList).toArray=olds.toArray++Builtin.zeroCells z.cells k++Builtin.zeroCells z.cells (c'-(m+k)):=by
   apply Array.toList_inj.1;simp
  rw [e1];exact this
 ·simp only [List.length_append,Array.length_toList,size_zeroCells,hzs,hol,←Nat.add_mul]
  congr 1
  omega
 ·rw [List.append_assoc,List.take_append_of_le_length (by omega),List.take_of_length_le (by omega)]
end
end Go.Proofs.YtcbakncjacnnjaaGreat
