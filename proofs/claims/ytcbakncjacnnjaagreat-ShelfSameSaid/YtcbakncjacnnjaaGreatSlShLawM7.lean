/- texts that the claim stands on. -/
import Derived.Test.YtcbakncjacnnjaaGreatSlShLawM6

set_option maxRecDepth 100000
set_option maxHeartbeats 4000000
namespace Go.Proofs.YtcbakncjacnnjaaGreat
open Go.Proofs.Tryz (prog)
open Go.RowKit
open Go.ChangeShapes Go.WideShapes Go.ChangeAt
open Go.Proofs.YtcbakncjacnnjaaGreat.SA
theorem oT:aH prog 32=true:=by kernel_rfl
theorem tT:∀ (a0:ByteArray) (a1:Int),prog.built 57 [(0,.string a0),(1,.int .i64 a1)]=some #[.string a0,.int .i64 a1]:=by intros;kernel_rfl
theorem nc (A:Option Addr) (c n:Nat) (l:List Dc) (w:World) (hr:cL 2 dV w A l) (hn:n=l.length) (hl:n≤100000000) :
 Rt prog 11 [.slice A n c] w (fun v w'=>(∃ A' c',v=.slice A' n c'∧w'.ownsRow w.heap.size 37 2 (.slice A' n c') n (l.flatMap dV))∧aj w w'):=by
 refine enter (n:=19) Tryz.func11 rfl rfl rfl (ag (aa (ass rfl (ah (ab (ag (aa (ass rfl (ah (ab (ag (ag (aa (asi rfl (ah (ab (az (bg (G:=Nat×Option Addr×Nat) [5,6,7,8,9,10,11,12,13,14,15,16,17] (fun (k,A3,c3)=>[(3,.slice A3 k c3),(4,.int .i64 (k:Nat))]) (fun (k,A3,c3) w'=>k≤n∧w'.ownsRow w.heap.size 37 2 (.slice A3 k c3) k ((l.take k).flatMap dV)∧aj w w') (fun (k,_,_)=>n-k) ((0,none,0)) ⟨rfl,rfl,trivial⟩ ?_ ?_))))))))))))))))))
 ·exact ⟨Nat.zero_le _,World.ownsRow_nil _ _ _ _,aj.rfl_⟩
 rintro ⟨k,A3,c3⟩ ρ1 w1 ⟨hk,ho,hB⟩;refine ag (ag (aa (mvi rfl (mvs rfl (ae (aS bx rfl) (ae (aX rfl rfl) (ah (ab (Li rfl (fun Q2=>?_) (fun Q2=>?_))))))))))
 ·obtain ⟨ba,oa,rfl,hca⟩:=hr (by omega);have hkl:k<l.length:=by omega
  have hce:=hca k hkl;refine au (ab (ag (az (aa (mvs rfl (mvs rfl (mvi rfl (ae (aG aO rfl rfl (by omega)) (ae (bw (cs:=[_,_]) bO bq rfl (by exact c0 hB hce)) ?_)))))))));refine gd dr rfl rfl rfl ?_;intro b16 w3 E16 hb16 hk16;refine cZ dr rfl (by decide) rfl (A:=A3) (xs:=(l.take k).flatMap dV) (news:=dV l[k]) (ho.kept_from (aj.rfl_.next E16)) ((hB.next E16).size) rfl rfl (fun _=>⟨b16,0,rfl,hk16.whole⟩) (fun h=>by cases h) (by simp [dV,Value.oneCell']) (by omega) (by omega) ?_;intro A17 c17 w4 ho17 hg17;have HF17:=((hB.next E16)).grew hg17 (fun k hk=>(b_ (ho.kept_from (aj.rfl_.next E16)) k hk).1);refine ass rfl (ah (aN (ab (aa (mvi rfl (ae (aJ (b:=1) rfl rfl (by omega)) (asi rfl (ah ?_))))))));refine aR ((k+1,A17,c17)) ⟨(by first | rfl | (refine aM ?_;omega)),(by first | rfl | (refine aM ?_;omega)),trivial⟩ (by (iterate 30 refine aF rfl ?_);exact aK) ⟨?_,?_⟩
  ·exact ⟨by omega,by rw [List.take_succ_eq_append_getElem hkl,List.flatMap_append];simpa using ho17,HF17⟩
  ·show n-(k+1)<n-k;omega
 refine aZ (aD (aD (aU (ab (ag (aa (mvs rfl (ass rfl (ah (ab (ay (bE (v:=.slice _ _ _) rfl rfl ?_))))))))))));obtain rfl:k=n:=by omega
 rw [hn,List.take_length] at ho;exact ⟨⟨A3,c3,rfl,by rw [hn];exact ho⟩,hB⟩
theorem Dh (A B:Option Addr) (ca cb n m:Nat) (a b:List Dc) (w:World) (ha:cL 2 dV w A a) (hb:cL 2 dV w B b) (hn:n=a.length) (hm:m=b.length) (hl:n≤100000000) :
 Rt prog 29 [.slice A n ca,.slice B m cb] w (fun v w'=>v=.bool (decide (a=b))∧aj w w'):=by
 refine enter (n:=26) Tryz.func29 rfl rfl rfl (ag (aa (asb rfl (ah (ab (ag (ag (aa (mvs rfl (ae (aS bx rfl) (mvs rfl (ae (aS bx rfl) (ae (cq rfl rfl) ?_)))))))))))));refine ah (ab (Lf rfl (fun Q1=>?_) (fun Q1=>?_)))
 ·refine ag (aa (asb rfl (ah (ab (ay (aC (bE (v:=.bool _) rfl rfl ?_)))))));exact ⟨by rw [decide_eq_false];rintro rfl;omega,aj.rfl_⟩
 refine au (ab (ag (ag (aa (asi rfl (ah (ab (az (bg (G:=Nat) [4,11,12,13,14,15,16,17,18,19,20,21,22,23,24,25] (fun k=>[(5,.int .i64 (k:Nat))]) (fun k w'=>k≤n∧a.take k=b.take k∧aj w w') (fun k=>n-k) (0) ⟨rfl,trivial⟩ ?_ ?_)))))))))
 ·exact ⟨Nat.zero_le _,rfl,aj.rfl_⟩
 rintro k ρ2 w2 ⟨hk,ht,hB⟩;refine ag (ag (aa (mvi rfl (mvs rfl (ae (aS bx rfl) (ae (aX rfl rfl) (ah (ab (Li rfl (fun Q3=>?_) (fun Q3=>?_))))))))))
 ·obtain ⟨ba,oa,rfl,hca⟩:=ha (by omega);obtain ⟨bb,ob,rfl,hcb⟩:=hb (by omega);refine au (ab (ag (az (ag ?_))));apply bH 9 [(17,eqp _),(18,eqp _),(19,eqp _),(20,eqp (.agg (dV a[k]).toArray)),(21,eqp _),(22,eqp _),(23,eqp _),(24,eqp (.agg (dV b[k]).toArray)),(25,eqp _)] (by repeat first | exact bT | refine bS ?_ | refine bG ?_) (by kernel_rfl) (by kernel_rfl) ⟨af _,af _,af _,af _,af _,af _,af _,af _,af _,trivial⟩
  case hop=>
   constructor
   ·rintro-w5 D5;exact ai (ar (v:=.slice _ _ _) rfl) rfl
   constructor
   ·rintro-w6 D6;exact ai (ar (v:=.int _ _) rfl) rfl
   constructor
   ·rintro-w7 D7;rintro _ rfl _ rfl;exact ai (aG aO rfl rfl (by omega)) rfl
   constructor
   ·rintro-w8 D8;rintro _ rfl;exact ai (bw (cs:=dV a[k]) bO bq rfl (c0 (hB.next D8) (hca k (by omega)))) rfl
   constructor
   ·rintro-w9 D9;exact ai (ar (v:=.slice _ _ _) rfl) rfl
   constructor
   ·rintro-w10 D10;exact ai (ar (v:=.int _ _) rfl) rfl
   constructor
   ·rintro-w11 D11;rintro _ rfl _ rfl;exact ai (aG aO rfl rfl (by omega)) rfl
   constructor
   ·rintro-w12 D12;rintro _ rfl;exact ai (bw (cs:=dV b[k]) bO bq rfl (c0 (hB.next D12) (hcb k (by omega)))) rfl
   constructor
   ·rintro-w13 D13;rintro v13_20 rfl v13_24 rfl;exact ai (EL rfl rfl) rfl
   exact trivial
  case hend=>
   intro w14 D14;rintro _ rfl _ rfl _ rfl v20 rfl _ rfl _ rfl _ rfl v24 rfl _ rfl;show St ..;refine ah (ab (av rfl (fun Q15=>?_) (fun Q15=>?_)))
   ·with_reducible (replace Q15:=fx Q15;replace Q15:=dF_ Q15)
    have hne:¬ a[k]=b[k]:=by simpa using Q15
    refine ag (aa (asb rfl (ah (ab (ay (bn (aC (aC (bn (aC (bE (v:=.bool _) rfl rfl ?_)))))))))));exact ⟨by rw [decide_eq_false];rintro rfl;exact hne rfl,(hB.next D14)⟩
   with_reducible (replace Q15:=fy Q15;replace Q15:=dT_ Q15)
   have heq:a[k]=b[k]:=by simpa using Q15
   refine au (aN (ab (aa (mvi rfl (ae (aJ (b:=1) rfl rfl (by omega)) (asi rfl (ah ?_)))))));refine aR (k+1) ⟨(by first | rfl | (refine aM ?_;omega)),trivial⟩ (by (iterate 33 refine aF rfl ?_);exact aK) ⟨?_,?_⟩
   ·exact ⟨by omega,vb (by omega) (by omega) ht heq,(hB.next D14)⟩
   ·show n-(k+1)<n-k;omega
 refine aZ (aD (aD (aU (ab (ag (aa (asb rfl (ah (ab (ay (bE (v:=.bool _) rfl rfl (⟨by rw [decide_eq_true (Ge (by omega) (by omega) ht)],hB⟩))))))))))))
theorem lM (A B:Option Addr) (ca cb n m:Nat) (a b:List Ht) (w:World) (ha:cL 2 hV w A a) (hb:cL 2 hV w B b) (hn:n=a.length) (hm:m=b.length) (hl:n≤100000000) :
 Rt prog 22 [.slice A n ca,.slice B m cb] w (fun v w'=>v=.bool (decide (a=b))∧aj w w'):=by
 refine enter (n:=26) Tryz.func22 rfl rfl rfl (ag (aa (asb rfl (ah (ab (ag (ag (aa (mvs rfl (ae (aS gH rfl) (mvs rfl (ae (aS gH rfl) (ae (cq rfl rfl) ?_)))))))))))));refine ah (ab (Lf rfl (fun Q1=>?_) (fun Q1=>?_)))
 ·refine ag (aa (asb rfl (ah (ab (ay (aC (bE (v:=.bool _) rfl rfl ?_)))))));exact ⟨by rw [decide_eq_false];rintro rfl;omega,aj.rfl_⟩
 refine au (ab (ag (ag (aa (asi rfl (ah (ab (az (bg (G:=Nat) [4,11,12,13,14,15,16,17,18,19,20,21,22,23,24,25] (fun k=>[(5,.int .i64 (k:Nat))]) (fun k w'=>k≤n∧a.take k=b.take k∧aj w w') (fun k=>n-k) (0) ⟨rfl,trivial⟩ ?_ ?_)))))))))
 ·exact ⟨Nat.zero_le _,rfl,aj.rfl_⟩
 rintro k ρ2 w2 ⟨hk,ht,hB⟩;refine ag (ag (aa (mvi rfl (mvs rfl (ae (aS gH rfl) (ae (aX rfl rfl) (ah (ab (Li rfl (fun Q3=>?_) (fun Q3=>?_))))))))))
 ·obtain ⟨ba,oa,rfl,hca⟩:=ha (by omega);obtain ⟨bb,ob,rfl,hcb⟩:=hb (by omega);refine au (ab (ag (az (ag ?_))));apply bH 9 [(17,eqp _),(18,eqp _),(19,eqp _),(20,eqp (.agg (hV a[k]).toArray)),(21,eqp _),(22,eqp _),(23,eqp _),(24,eqp (.agg (hV b[k]).toArray)),(25,eqp _)] (by repeat first | exact bT | refine bS ?_ | refine bG ?_) (by kernel_rfl) (by kernel_rfl) ⟨af _,af _,af _,af _,af _,af _,af _,af _,af _,trivial⟩
  case hop=>
   constructor
   ·rintro-w5 D5;exact ai (ar (v:=.slice _ _ _) rfl) rfl
   constructor
   ·rintro-w6 D6;exact ai (ar (v:=.int _ _) rfl) rfl
   constructor
   ·rintro-w7 D7;rintro _ rfl _ rfl;exact ai (aG gJ rfl rfl (by omega)) rfl
   constructor
   ·rintro-w8 D8;rintro _ rfl;exact ai (bw (cs:=hV a[k]) js gF rfl (c0 (hB.next D8) (hca k (by omega)))) rfl
   constructor
   ·rintro-w9 D9;exact ai (ar (v:=.slice _ _ _) rfl) rfl
   constructor
   ·rintro-w10 D10;exact ai (ar (v:=.int _ _) rfl) rfl
   constructor
   ·rintro-w11 D11;rintro _ rfl _ rfl;exact ai (aG gJ rfl rfl (by omega)) rfl
   constructor
   ·rintro-w12 D12;rintro _ rfl;exact ai (bw (cs:=hV b[k]) js gF rfl (c0 (hB.next D12) (hcb k (by omega)))) rfl
   constructor
   ·rintro-w13 D13;rintro v13_20 rfl v13_24 rfl;exact ai (EK rfl rfl) rfl
   exact trivial
  case hend=>
   intro w14 D14;rintro _ rfl _ rfl _ rfl v20 rfl _ rfl _ rfl _ rfl v24 rfl _ rfl;show St ..;refine ah (ab (av rfl (fun Q15=>?_) (fun Q15=>?_)))
   ·with_reducible (replace Q15:=fx Q15;replace Q15:=dF_ Q15)
    have hne:¬ a[k]=b[k]:=by simpa using Q15
    refine ag (aa (asb rfl (ah (ab (ay (bn (aC (aC (bn (aC (bE (v:=.bool _) rfl rfl ?_)))))))))));exact ⟨by rw [decide_eq_false];rintro rfl;exact hne rfl,(hB.next D14)⟩
   with_reducible (replace Q15:=fy Q15;replace Q15:=dT_ Q15)
   have heq:a[k]=b[k]:=by simpa using Q15
   refine au (aN (ab (aa (mvi rfl (ae (aJ (b:=1) rfl rfl (by omega)) (asi rfl (ah ?_)))))));refine aR (k+1) ⟨(by first | rfl | (refine aM ?_;omega)),trivial⟩ (by (iterate 33 refine aF rfl ?_);exact aK) ⟨?_,?_⟩
   ·exact ⟨by omega,vb (by omega) (by omega) ht heq,(hB.next D14)⟩
   ·show n-(k+1)<n-k;omega
 refine aZ (aD (aD (aU (ab (ag (aa (asb rfl (ah (ab (ay (bE (v:=.bool _) rfl rfl (⟨by rw [decide_eq_true (Ge (by omega) (by omega) ht)],hB⟩))))))))))))
theorem vO (A:Option Addr) (c n:Nat) (ds:List Dc) (w:World) (hr:cL 2 dV w A ds) (hn:n=ds.length) (hl:n≤10000000000000) (hs:∀ d∈ds,Small d.1∧Small d.2) :
 Rt prog 30 [.slice A n c] w (fun v w'=>(∃ m:Nat,v=.int .i64 (m:Nat)∧n≤m)∧aj w w'):=by
 refine enter (n:=33) Tryz.func30 rfl rfl rfl (ag (aa (asi rfl (ah (ab (ag (aa (mvs rfl (ae (aS bx rfl) (asi rfl (ah (ab (ag (ag (aa (asi rfl ?_))))))))))))))));refine ah (ab (az (bg (G:=Nat×Nat) [7,8,9,10,11,12,13,14,15,16,17,18,19,20,21,22,23,24,25,26,27,28,29,30,31] (fun (m,i)=>[(3,.int .i64 (m:Nat)),(4,.int .i64 (i:Nat))]) (fun (m,i) w'=>i≤n∧n≤m∧m≤1000000000000000∧aj w w') (fun (_,i)=>n-i) ((n,0)) ⟨rfl,rfl,trivial⟩ ?_ ?_)))
 ·exact ⟨Nat.zero_le _,Nat.le_refl _,by omega,aj.rfl_⟩
 rintro ⟨m,i⟩ ρ1 w1 ⟨hi,hnm,hmb,hB⟩;refine ag (ag (aa (mvi rfl (mvs rfl (ae (aS bx rfl) (ae (aX rfl rfl) (mvb rfl (KL (t:=11) rfl (fun Q2=>?_) (fun Q2=>?_)))))))))
 ·refine an rfl (mvi rfl (an rfl (ae (aX rfl rfl) (ae (bc (v:=.bool _) rfl rfl) (ah (ab (Li rfl (fun Q3=>?_) (fun Q3=>?_))))))))
  ·obtain ⟨bd,od,rfl,hcd⟩:=hr (by omega);have hil:i<ds.length:=by omega
   have hce:=hcd i hil;rw [←bM hil] at hce;obtain ⟨hz1,hz2⟩:(ds.getD i dd).1.size≤140737488351232∧(ds.getD i dd).2.size≤140737488351232:=by rw [bM hil];exact hs _ (List.getElem_mem hil)
   refine au (ab (ag (az ?_)));apply bH 16 [(17,eqp _),(18,eqp _),(19,eqp _),(20,eqp _),(21,eqp _),(22,eqp (.string (ds.getD i dd).1)),(23,eqp _),(24,eqp _),(25,eqp _),(26,eqp _),(27,eqp _),(28,eqp _),(29,eqp (.string (ds.getD i dd).2)),(30,eqp _),(31,eqp _),(3,eqp _)] (by repeat first | exact bT | refine bS ?_ | refine bG ?_) (by kernel_rfl) (by kernel_rfl) ⟨af _,af _,af _,af _,af _,af _,af _,af _,af _,af _,af _,af _,af _,af _,af _,af _,trivial⟩
   case hop=>
    constructor
    ·rintro-w5 D5;exact ai (ar (v:=.int _ _) rfl) rfl
    constructor
    ·rintro-w6 D6;exact ai (ar (v:=.slice _ _ _) rfl) rfl
    constructor
    ·rintro-w7 D7;exact ai (ar (v:=.int _ _) rfl) rfl
    constructor
    ·rintro-w8 D8;rintro _ rfl _ rfl;exact ai (aG aO rfl rfl (by omega)) rfl
    constructor
    ·rintro-w9 D9;rintro _ rfl;exact ai (ak aW rfl) rfl
    constructor
    ·rintro-w10 D10;rintro _ rfl;exact ai (aq (v:=.string (ds.getD i dd).1) bf rfl (br (hB.next D10) (hce 0 _ rfl))) rfl
    constructor
    ·rintro-w11 D11;rintro v11_22 rfl;exact ai (cJ (by kernel_rfl) rfl) rfl
    constructor
    ·rintro-w12 D12;rintro _ rfl _ rfl;exact ai (aJ rfl rfl (by omega)) rfl
    constructor
    ·rintro-w13 D13;exact ai (ar (v:=.slice _ _ _) rfl) rfl
    constructor
    ·rintro-w14 D14;exact ai (ar (v:=.int _ _) rfl) rfl
    constructor
    ·rintro-w15 D15;rintro _ rfl _ rfl;exact ai (aG aO rfl rfl (by omega)) rfl
    constructor
    ·rintro-w16 D16;rintro _ rfl;exact ai (ak cf rfl) rfl
    constructor
    ·rintro-w17 D17;rintro _ rfl;exact ai (aq (v:=.string (ds.getD i dd).2) bf rfl (br (hB.next D17) (hce 1 _ rfl))) rfl
    constructor
    ·rintro-w18 D18;rintro v18_29 rfl;exact ai (cJ (by kernel_rfl) rfl) rfl
    constructor
    ·rintro-w19 D19;rintro _ rfl _ rfl;exact ai (aJ rfl rfl (by omega)) rfl
    constructor
    ·rintro-w20 D20;rintro _ rfl;exact ai (bQ (v:=.int _ _) rfl) rfl
    exact trivial
   case hend=>
    intro w21 D21;rintro _ rfl _ rfl _ rfl _ rfl _ rfl v22 rfl _ rfl _ rfl _ rfl _ rfl _ rfl _ rfl v29 rfl _ rfl _ rfl _ rfl;show St ..;refine ah (aN (ab (aa (mvi rfl (ae (aJ (b:=1) rfl rfl (by omega)) (asi rfl (ah ?_)))))));refine aR ((m+(ds.getD i dd).1.size+(ds.getD i dd).2.size,i+1)) ⟨(by first | rfl | (refine aM ?_;omega)),(by first | rfl | (refine aM ?_;omega)),trivial⟩ (by (iterate 55 refine aF rfl ?_);exact aK) ⟨?_,?_⟩
    ·exact ⟨by omega,by omega,by omega,(hB.next D21)⟩
    ·show n-(i+1)<n-i;omega
  refine aZ (aD (aD (aU (ab (ag (aa (mvi rfl (asi rfl (ah (ab (ay (bE (v:=.int _ _) rfl rfl (⟨⟨m,rfl,hnm⟩,hB⟩)))))))))))))
 refine aB rfl rfl (aB rfl rfl (ae (aQ (v:=.bool _) rfl rfl) (ah (ab (cm rfl (aZ (aD (aD (aU (ab (ag (aa (mvi rfl (asi rfl ?_))))))))))))));refine ah (ab (ay (bE (v:=.int _ _) rfl rfl (⟨⟨m,rfl,hnm⟩,hB⟩))))
theorem oi (A:Option Addr) (c n:Nat) (ds:List Dc) (w:World) (hr:cL 2 dV w A ds) (hn:n=ds.length) (hl:n≤100000000) (hz:dsz ds≤1000000000000000000) :
 Rt prog 32 [.slice A n c] w (fun v w'=>v=.int .i64 ((dsz ds:Nat):Int)∧aj w w'):=by
 refine enter (n:=20) Tryz.func32 rfl rfl rfl (ag (aa (asi rfl (ah (ab (ag (aa (asi rfl (ah (ab (ag (ag (aa (asi rfl (ah (ab (az (bg (G:=Nat) [5,6,7,8,9,10,11,12,13,14,15,16,17,18] (fun i=>[(3,.int .i64 (dsz (ds.take i):Nat)),(4,.int .i64 (i:Nat))]) (fun i w'=>i≤n∧aj w w') (fun i=>n-i) (0) ⟨rfl,rfl,trivial⟩ ?_ ?_))))))))))))))))))
 ·exact ⟨Nat.zero_le _,aj.rfl_⟩
 rintro i ρ1 w1 ⟨hi,hB⟩;refine ag (ag (aa (mvi rfl (mvs rfl (ae (aS bx rfl) (ae (aX rfl rfl) (ah (ab (Li rfl (fun Q2=>?_) (fun Q2=>?_))))))))))
 ·obtain ⟨bd,od,rfl,hcd⟩:=hr (by omega);have hil:i<ds.length:=by omega
  have hce:=hcd i hil;rw [←bM hil] at hce;have hdt:=iL hil;have hdl:=tf (ds:=ds) (i+1);refine au (ab (ag (az (aa (mvi rfl (mvs rfl (mvi rfl (ae (aG aO rfl rfl (by omega)) (ae (ak cf rfl) (ae (aq bf rfl (by exact br hB (hce 1 _ rfl))) ?_))))))))));refine ae (cJ (by kernel_rfl) rfl) (ae (aJ rfl rfl (by omega)) (asi rfl (ah (aN (ab (aa (mvi rfl (ae (aJ (b:=1) rfl rfl (by omega)) (asi rfl (ah ?_))))))))));refine aR (i+1) ⟨(aM (by rw [iL hil])),rfl,trivial⟩ (by (iterate 32 refine aF rfl ?_);exact aK) ⟨?_,?_⟩
  ·exact ⟨by omega,hB⟩
  ·show n-(i+1)<n-i;omega
 refine aZ (aD (aD (aU (ab (ag (aa (mvi rfl (asi rfl (ah (ab (ay (bE (v:=.int _ _) rfl rfl ?_))))))))))));obtain rfl:i=n:=by omega
 exact ⟨by rw [hn,List.take_length],hB⟩
theorem Gg {ds:List Dc} (h:∀ d∈ds,d.2.size≤2048):dsz ds≤ds.length*2048:=by
 induction ds with
 |nil=>exact Nat.zero_le _
 |cons d ds ih=>
  have h1:=h d (List.mem_cons_self ..);have h2:=ih fun e he=>h e (List.mem_cons_of_mem _ he)
  rw [dsz,List.length_cons];omega
theorem jD {s:ByteArray}:(s.toList==(⟨#[]⟩:ByteArray).toList)=true↔s.size=0:=fD.trans ⟨uH,oe⟩
theorem oq (A:Option Addr) (c n:Nat) (ds:List Dc) (w:World) (hr:cL 2 dV w A ds) (hn:n=ds.length) (hl:n≤100000000) :
 Rt prog 14 [.slice A n c] w (fun v w'=>v=.int .i64 (jm ds)∧aj w w'):=by
 refine enter (n:=63) Tryz.func14 rfl rfl rfl (ag (aa (asi rfl (ah (ab (ag (ag (aa (asi rfl (ah (ab (az (bg (G:=Nat) [2,5,6,7,8,9,10,11,12,13,14,15,16,17,18,19,20,21,22,23,24,25,26,27,28,29,30,31,32,33,34,35,36,37,38,39,40,41,42,43] (fun i=>[(3,.int .i64 (i:Nat))]) (fun i w'=>i≤n∧(∀ x,x<i→okI ds x)∧aj w w') (fun i=>n-i) (0) ⟨rfl,trivial⟩ ?_ ?_)))))))))))))
 ·exact ⟨Nat.zero_le _,fun x h=>absurd h (by omega),aj.rfl_⟩
 rintro i ρ1 w1 ⟨hi,hok,hB⟩;refine ag (ag (aa (mvi rfl (mvs rfl (ae (aS bx rfl) (ae (aX rfl rfl) (ah (ab (Li rfl (fun Q2=>?_) (fun Q2=>?_))))))))))
 ·obtain ⟨bd,od,rfl,hcd⟩:=hr (by omega);have hil:i<ds.length:=by omega
  have hce:=hcd i hil;rw [←bM hil] at hce
  have hcp:0<i→w.rangeAt bd (od+(i-1)*2) (dV (ds.getD (i-1) dd)):=fun h=>by
   have h2:=hcd (i-1) (by omega)
   rwa [←bM (show i-1<ds.length by omega)] at h2
  refine au (ab (ag (az (ag ?_))));have hsp:(ds.getD i dd).1.size=0∨(1≤(ds.getD i dd).1.size∧64<(ds.getD i dd).1.size)∨(1≤(ds.getD i dd).1.size∧(ds.getD i dd).1.size≤64∧i=0)∨(1≤(ds.getD i dd).1.size∧(ds.getD i dd).1.size≤64∧0<i):=by omega
  rcases hsp with hc1 | ⟨hc1,hc2⟩ | ⟨hc1,hc2,hc3⟩ | ⟨hc1,hc2,hc3⟩
  ·apply bH 33 [(11,eqp _),(12,eqp _),(13,eqp _),(14,eqp _),(15,eqp (.string (ds.getD i dd).1)),(16,eqp _),(17,eqp _),(18,eqp _),(19,eqp _),(20,eqp _),(21,eqp _),(22,eqp _),(23,eqp _),(24,eqp _),(25,eqp _),(26,eqp _),(27,eqp _),(28,eqp _),(29,eqp _),(30,eqp _),(31,eqp _),(32,eqp _),(33,eqp _),(34,eqp _),(35,eqp _),(36,eqp _),(37,eqp _),(38,eqp _),(39,eqp _),(40,eqp _),(41,eqp _),(42,eqp _),(43,eqp _)] (by repeat first | exact bT | refine bS ?_ | refine bG ?_) (by kernel_rfl) (by kernel_rfl) ⟨af _,af _,af _,af _,af _,af _,af _,af _,af _,af _,af _,af _,af _,af _,af _,af _,af _,af _,af _,af _,af _,af _,af _,af _,af _,af _,af _,af _,af _,af _,af _,af _,af _,trivial⟩
   case hop=>
    constructor
    ·rintro-w4 D4;exact ai (ar (v:=.slice _ _ _) rfl) rfl
    constructor
    ·rintro-w5 D5;exact ai (ar (v:=.int _ _) rfl) rfl
    constructor
    ·rintro-w6 D6;rintro _ rfl _ rfl;exact ai (aG aO rfl rfl (by omega)) rfl
    constructor
    ·rintro-w7 D7;rintro _ rfl;exact ai (ak aW rfl) rfl
    constructor
    ·rintro-w8 D8;rintro _ rfl;exact ai (aq (v:=.string (ds.getD i dd).1) bf rfl (br (hB.next D8) (hce 0 _ rfl))) rfl
    constructor
    ·rintro-w9 D9;rintro v9_15 rfl;exact ai (iw (gC rfl rfl) (jD.2 (by omega))) rfl
    constructor
    ·rintro-w10 D10;rintro _ rfl;exact ai (ar (v:=.bool _) rfl) rfl
    constructor
    ·rintro-w11 D11;rintro _ rfl;exact bj rfl rfl rfl
    constructor
    ·rintro-w12 D12;rintro _ rfl;exact bj rfl rfl rfl
    constructor
    ·rintro-w13 D13;rintro _ rfl _ rfl _ rfl;exact bj rfl rfl rfl
    constructor
    ·rintro-w14 D14;rintro _ rfl _ rfl;exact bj rfl rfl rfl
    constructor
    ·rintro-w15 D15;rintro _ rfl _ rfl;exact bj rfl rfl rfl
    constructor
    ·rintro-w16 D16;rintro _ rfl _ rfl;exact bj rfl rfl rfl
    constructor
    ·rintro-w17 D17;rintro _ rfl _ rfl;exact bj rfl rfl rfl
    constructor
    ·rintro-w18 D18;rintro _ rfl _ rfl;exact ai (bc (v:=.bool _) rfl rfl) rfl
    constructor
    ·rintro-w19 D19;rintro _ rfl;exact ai (ar (v:=.bool _) rfl) rfl
    constructor
    ·rintro-w20 D20;rintro _ rfl;exact bj rfl rfl rfl
    constructor
    ·rintro-w21 D21;rintro _ rfl _ rfl;exact bj rfl rfl rfl
    constructor
    ·rintro-w22 D22;rintro _ rfl _ rfl;exact bj rfl rfl rfl
    constructor
    ·rintro-w23 D23;rintro _ rfl;exact bX rfl rfl
    constructor
    ·rintro-w24 D24;rintro _ rfl;exact bX rfl rfl
    constructor
    ·rintro-w25 D25;rintro _ rfl _ rfl;exact bX rfl rfl
    constructor
    ·rintro-w26 D26;rintro _ rfl _ rfl _ rfl;exact bX rfl rfl
    constructor
    ·rintro-w27 D27;rintro _ rfl _ rfl;exact bX rfl rfl
    constructor
    ·rintro-w28 D28;rintro _ rfl _ rfl;exact bX rfl rfl
    constructor
    ·rintro-w29 D29;rintro _ rfl;exact bX rfl rfl
    constructor
    ·rintro-w30 D30;rintro _ rfl;exact bX rfl rfl
    constructor
    ·rintro-w31 D31;rintro _ rfl _ rfl _ rfl;exact bX rfl rfl
    constructor
    ·rintro-w32 D32;rintro _ rfl _ rfl;exact bX rfl rfl
    constructor
    ·rintro-w33 D33;rintro _ rfl _ rfl;exact bX rfl rfl
    constructor
    ·rintro-w34 D34;rintro _ rfl _ rfl _ rfl;exact bX rfl rfl
    constructor
    ·rintro-w35 D35;rintro _ rfl _ rfl _ rfl;exact bj rfl rfl rfl
    constructor
    ·rintro-w36 D36;rintro _ rfl _ rfl;exact ai (bc (v:=.bool _) rfl rfl) rfl
    exact trivial
   case hend=>
    intro w37 D37;rintro _ rfl _ rfl _ rfl _ rfl v15 rfl _ rfl _ rfl _ rfl _ rfl _ rfl _ rfl _ rfl _ rfl _ rfl _ rfl _ rfl _ rfl _ rfl _ rfl _ rfl _ rfl _ rfl _ rfl _ rfl _ rfl _ rfl _ rfl _ rfl _ rfl _ rfl _ rfl _ rfl _ rfl;show St ..;refine ah (ab (cB rfl (ag (aa (asi rfl (ah (ab (ay (bn (aC (aC (bn (aC (bE (v:=.int _ _) rfl rfl ?_))))))))))))))
    exact ⟨aM (by rw [yd (fun h=>by
     obtain ⟨x1,x2,x3⟩:=h i (by omega)
     first
      |omega
      |exact hnl (x3 (by omega)))]),(hB.next D37)⟩
  ·apply bH 33 [(11,eqp _),(12,eqp _),(13,eqp _),(14,eqp _),(15,eqp (.string (ds.getD i dd).1)),(16,eqp _),(17,eqp _),(18,eqp _),(19,eqp _),(20,eqp _),(21,eqp _),(22,eqp (.string (ds.getD i dd).1)),(23,eqp _),(24,eqp _),(25,eqp _),(26,eqp _),(27,eqp _),(28,eqp _),(29,eqp _),(30,eqp _),(31,eqp _),(32,eqp _),(33,eqp _),(34,eqp _),(35,eqp _),(36,eqp _),(37,eqp _),(38,eqp _),(39,eqp _),(40,eqp _),(41,eqp _),(42,eqp _),(43,eqp _)] (by repeat first | exact bT | refine bS ?_ | refine bG ?_) (by kernel_rfl) (by kernel_rfl) ⟨af _,af _,af _,af _,af _,af _,af _,af _,af _,af _,af _,af _,af _,af _,af _,af _,af _,af _,af _,af _,af _,af _,af _,af _,af _,af _,af _,af _,af _,af _,af _,af _,af _,trivial⟩
   case hop=>
    constructor
    ·rintro-w39 D39;exact ai (ar (v:=.slice _ _ _) rfl) rfl
    constructor
    ·rintro-w40 D40;exact ai (ar (v:=.int _ _) rfl) rfl
    constructor
    ·rintro-w41 D41;rintro _ rfl _ rfl;exact ai (aG aO rfl rfl (by omega)) rfl
    constructor
    ·rintro-w42 D42;rintro _ rfl;exact ai (ak aW rfl) rfl
    constructor
    ·rintro-w43 D43;rintro _ rfl;exact ai (aq (v:=.string (ds.getD i dd).1) bf rfl (br (hB.next D43) (hce 0 _ rfl))) rfl
    constructor
    ·rintro-w44 D44;rintro v44_15 rfl;exact ai (cG (gC rfl rfl) (by rw [←Bool.not_eq_true,jD];omega)) rfl
    constructor
    ·rintro-w45 D45;rintro _ rfl;exact ai (ar (v:=.bool _) rfl) rfl
    constructor
    ·rintro-w46 D46;rintro _ rfl;exact aI rfl (ar (v:=.slice _ _ _) rfl) rfl
    constructor
    ·rintro-w47 D47;rintro _ rfl;exact aI rfl (ar (v:=.int _ _) rfl) rfl
    constructor
    ·rintro-w48 D48;rintro _ rfl _ rfl _ rfl;exact aI rfl (aG aO rfl rfl (by omega)) rfl
    constructor
    ·rintro-w49 D49;rintro _ rfl _ rfl;exact aI rfl (ak aW rfl) rfl
    constructor
    ·rintro-w50 D50;rintro _ rfl _ rfl;exact aI rfl (aq (v:=.string (ds.getD i dd).1) bf rfl (br (hB.next D50) (hce 0 _ rfl))) rfl
    constructor
    ·rintro-w51 D51;rintro _ rfl v51_22 rfl;exact aI rfl (cJ (by kernel_rfl) rfl) rfl
    constructor
    ·rintro-w52 D52;rintro _ rfl _ rfl;exact aI rfl (iw (bU rfl rfl) (decide_eq_true (by omega))) rfl
    constructor
    ·rintro-w53 D53;rintro _ rfl _ rfl;exact ai (aQ (v:=.bool _) rfl rfl) rfl
    constructor
    ·rintro-w54 D54;rintro _ rfl;exact ai (ar (v:=.bool _) rfl) rfl
    constructor
    ·rintro-w55 D55;rintro _ rfl;exact bj rfl rfl rfl
    constructor
    ·rintro-w56 D56;rintro _ rfl _ rfl;exact bj rfl rfl rfl
    constructor
    ·rintro-w57 D57;rintro _ rfl _ rfl;exact bj rfl rfl rfl
    constructor
    ·rintro-w58 D58;rintro _ rfl;exact bX rfl rfl
    constructor
    ·rintro-w59 D59;rintro _ rfl;exact bX rfl rfl
    constructor
    ·rintro-w60 D60;rintro _ rfl _ rfl;exact bX rfl rfl
    constructor
    ·rintro-w61 D61;rintro _ rfl _ rfl _ rfl;exact bX rfl rfl
    constructor
    ·rintro-w62 D62;rintro _ rfl _ rfl;exact bX rfl rfl
    constructor
    ·rintro-w63 D63;rintro _ rfl _ rfl;exact bX rfl rfl
    constructor
    ·rintro-w64 D64;rintro _ rfl;exact bX rfl rfl
    constructor
    ·rintro-w65 D65;rintro _ rfl;exact bX rfl rfl
    constructor
    ·rintro-w66 D66;rintro _ rfl _ rfl _ rfl;exact bX rfl rfl
    constructor
    ·rintro-w67 D67;rintro _ rfl _ rfl;exact bX rfl rfl
    constructor
    ·rintro-w68 D68;rintro _ rfl _ rfl;exact bX rfl rfl
    constructor
    ·rintro-w69 D69;rintro _ rfl _ rfl _ rfl;exact bX rfl rfl
    constructor
    ·rintro-w70 D70;rintro _ rfl _ rfl _ rfl;exact bj rfl rfl rfl
    constructor
    ·rintro-w71 D71;rintro _ rfl _ rfl;exact ai (bc (v:=.bool _) rfl rfl) rfl
    exact trivial
   case hend=>
    intro w72 D72;rintro _ rfl _ rfl _ rfl _ rfl v15 rfl _ rfl _ rfl _ rfl _ rfl _ rfl _ rfl v22 rfl _ rfl _ rfl _ rfl _ rfl _ rfl _ rfl _ rfl _ rfl _ rfl _ rfl _ rfl _ rfl _ rfl _ rfl _ rfl _ rfl _ rfl _ rfl _ rfl _ rfl _ rfl;show St ..;refine ah (ab (cB rfl (ag (aa (asi rfl (ah (ab (ay (bn (aC (aC (bn (aC (bE (v:=.int _ _) rfl rfl ?_))))))))))))))
    exact ⟨aM (by rw [yd (fun h=>by
     obtain ⟨x1,x2,x3⟩:=h i (by omega)
     first
      |omega
      |exact hnl (x3 (by omega)))]),(hB.next D72)⟩
  ·apply bH 33 [(11,eqp _),(12,eqp _),(13,eqp _),(14,eqp _),(15,eqp (.string (ds.getD i dd).1)),(16,eqp _),(17,eqp _),(18,eqp _),(19,eqp _),(20,eqp _),(21,eqp _),(22,eqp (.string (ds.getD i dd).1)),(23,eqp _),(24,eqp _),(25,eqp _),(26,eqp _),(27,eqp _),(28,eqp _),(29,eqp _),(30,eqp _),(31,eqp _),(32,eqp _),(33,eqp _),(34,eqp _),(35,eqp _),(36,eqp _),(37,eqp _),(38,eqp _),(39,eqp _),(40,eqp _),(41,eqp _),(42,eqp _),(43,eqp _)] (by repeat first | exact bT | refine bS ?_ | refine bG ?_) (by kernel_rfl) (by kernel_rfl) ⟨af _,af _,af _,af _,af _,af _,af _,af _,af _,af _,af _,af _,af _,af _,af _,af _,af _,af _,af _,af _,af _,af _,af _,af _,af _,af _,af _,af _,af _,af _,af _,af _,af _,trivial⟩
   case hop=>
    constructor
    ·rintro-w74 D74;exact ai (ar (v:=.slice _ _ _) rfl) rfl
    constructor
    ·rintro-w75 D75;exact ai (ar (v:=.int _ _) rfl) rfl
    constructor
    ·rintro-w76 D76;rintro _ rfl _ rfl;exact ai (aG aO rfl rfl (by omega)) rfl
    constructor
    ·rintro-w77 D77;rintro _ rfl;exact ai (ak aW rfl) rfl
    constructor
    ·rintro-w78 D78;rintro _ rfl;exact ai (aq (v:=.string (ds.getD i dd).1) bf rfl (br (hB.next D78) (hce 0 _ rfl))) rfl
    constructor
    ·rintro-w79 D79;rintro v79_15 rfl;exact ai (cG (gC rfl rfl) (by rw [←Bool.not_eq_true,jD];omega)) rfl
    constructor
    ·rintro-w80 D80;rintro _ rfl;exact ai (ar (v:=.bool _) rfl) rfl
    constructor
    ·rintro-w81 D81;rintro _ rfl;exact aI rfl (ar (v:=.slice _ _ _) rfl) rfl
    constructor
    ·rintro-w82 D82;rintro _ rfl;exact aI rfl (ar (v:=.int _ _) rfl) rfl
    constructor
    ·rintro-w83 D83;rintro _ rfl _ rfl _ rfl;exact aI rfl (aG aO rfl rfl (by omega)) rfl
    constructor
    ·rintro-w84 D84;rintro _ rfl _ rfl;exact aI rfl (ak aW rfl) rfl
    constructor
    ·rintro-w85 D85;rintro _ rfl _ rfl;exact aI rfl (aq (v:=.string (ds.getD i dd).1) bf rfl (br (hB.next D85) (hce 0 _ rfl))) rfl
    constructor
    ·rintro-w86 D86;rintro _ rfl v86_22 rfl;exact aI rfl (cJ (by kernel_rfl) rfl) rfl
    constructor
    ·rintro-w87 D87;rintro _ rfl _ rfl;exact aI rfl (cG (bU rfl rfl) (decide_eq_false (by omega))) rfl
    constructor
    ·rintro-w88 D88;rintro _ rfl _ rfl;exact ai (aQ (v:=.bool _) rfl rfl) rfl
    constructor
    ·rintro-w89 D89;rintro _ rfl;exact ai (ar (v:=.bool _) rfl) rfl
    constructor
    ·rintro-w90 D90;rintro _ rfl;exact aI rfl (ar (v:=.int _ _) rfl) rfl
    constructor
    ·rintro-w91 D91;rintro _ rfl _ rfl;exact aI rfl (cG (bU rfl rfl) (decide_eq_false (by omega))) rfl
    constructor
    ·rintro-w92 D92;rintro _ rfl _ rfl;exact aI rfl (ar (v:=.bool _) rfl) rfl
    constructor
    ·rintro-w93 D93;rintro _ rfl;exact bj rfl rfl rfl
    constructor
    ·rintro-w94 D94;rintro _ rfl;exact bj rfl rfl rfl
    constructor
    ·rintro-w95 D95;rintro _ rfl _ rfl;exact bj rfl rfl rfl
    constructor
    ·rintro-w96 D96;rintro _ rfl _ rfl _ rfl;exact bj rfl rfl rfl
    constructor
    ·rintro-w97 D97;rintro _ rfl _ rfl;exact bj rfl rfl rfl
    constructor
    ·rintro-w98 D98;rintro _ rfl _ rfl;exact bj rfl rfl rfl
    constructor
    ·rintro-w99 D99;rintro _ rfl;exact bj rfl rfl rfl
    constructor
    ·rintro-w100 D100;rintro _ rfl;exact bj rfl rfl rfl
    constructor
    ·rintro-w101 D101;rintro _ rfl _ rfl _ rfl;exact bj rfl rfl rfl
    constructor
    ·rintro-w102 D102;rintro _ rfl _ rfl;exact bj rfl rfl rfl
    constructor
    ·rintro-w103 D103;rintro _ rfl _ rfl;exact bj rfl rfl rfl
    constructor
    ·rintro-w104 D104;rintro _ rfl _ rfl _ rfl;exact bj rfl rfl rfl
    constructor
    ·rintro-w105 D105;rintro _ rfl _ rfl _ rfl;exact aI rfl (aQ (v:=.bool _) rfl rfl) rfl
    constructor
    ·rintro-w106 D106;rintro _ rfl _ rfl;exact ai (aQ (v:=.bool _) rfl rfl) rfl
    exact trivial
   case hend=>
    intro w107 D107;rintro _ rfl _ rfl _ rfl _ rfl v15 rfl _ rfl _ rfl _ rfl _ rfl _ rfl _ rfl v22 rfl _ rfl _ rfl _ rfl _ rfl _ rfl _ rfl _ rfl _ rfl _ rfl _ rfl _ rfl _ rfl _ rfl _ rfl _ rfl _ rfl _ rfl _ rfl _ rfl _ rfl _ rfl;show St ..;refine ah (ab (cm rfl (au (aN (ab (aa (mvi rfl (ae (aJ (b:=1) rfl rfl (by omega)) (asi rfl (ah ?_))))))))));refine aR (i+1) ⟨(by first | rfl | (refine aM ?_;omega)),trivial⟩ (by (iterate 81 refine aF rfl ?_);exact aK) ⟨?_,?_⟩
    ·have hoi:okI ds i:=by first | exact ⟨by omega,by omega,fun h=>absurd h (by omega)⟩ | exact ⟨by omega,by omega,fun _=>hlt⟩
     exact ⟨by omega,fun x hx=>by
      rcases Nat.eq_or_lt_of_le (Nat.le_of_lt_succ hx) with e | e
      ·subst e;exact hoi
      ·exact hok x e,(hB.next D107)⟩
    ·show n-(i+1)<n-i;omega
  apply bH 33 [(11,eqp _),(12,eqp _),(13,eqp _),(14,eqp _),(15,eqp (.string (ds.getD i dd).1)),(16,eqp _),(17,eqp _),(18,eqp _),(19,eqp _),(20,eqp _),(21,eqp _),(22,eqp (.string (ds.getD i dd).1)),(23,eqp _),(24,eqp _),(25,eqp _),(26,eqp _),(27,eqp _),(28,eqp _),(29,eqp _),(30,eqp _),(31,eqp _),(32,eqp _),(33,eqp _),(34,eqp _),(35,eqp (.string (ds.getD (i-1) dd).1)),(36,eqp _),(37,eqp _),(38,eqp _),(39,eqp _),(40,eqp (.string (ds.getD i dd).1)),(41,eqp _),(42,eqp _),(43,eqp _)] (by repeat first | exact bT | refine bS ?_ | refine bG ?_) (by kernel_rfl) (by kernel_rfl) ⟨af _,af _,af _,af _,af _,af _,af _,af _,af _,af _,af _,af _,af _,af _,af _,af _,af _,af _,af _,af _,af _,af _,af _,af _,af _,af _,af _,af _,af _,af _,af _,af _,af _,trivial⟩
  case hop=>
   constructor
   ·rintro-w109 D109;exact ai (ar (v:=.slice _ _ _) rfl) rfl
   constructor
   ·rintro-w110 D110;exact ai (ar (v:=.int _ _) rfl) rfl
   constructor
   ·rintro-w111 D111;rintro _ rfl _ rfl;exact ai (aG aO rfl rfl (by omega)) rfl
   constructor
   ·rintro-w112 D112;rintro _ rfl;exact ai (ak aW rfl) rfl
   constructor
   ·rintro-w113 D113;rintro _ rfl;exact ai (aq (v:=.string (ds.getD i dd).1) bf rfl (br (hB.next D113) (hce 0 _ rfl))) rfl
   constructor
   ·rintro-w114 D114;rintro v114_15 rfl;exact ai (cG (gC rfl rfl) (by rw [←Bool.not_eq_true,jD];omega)) rfl
   constructor
   ·rintro-w115 D115;rintro _ rfl;exact ai (ar (v:=.bool _) rfl) rfl
   constructor
   ·rintro-w116 D116;rintro _ rfl;exact aI rfl (ar (v:=.slice _ _ _) rfl) rfl
   constructor
   ·rintro-w117 D117;rintro _ rfl;exact aI rfl (ar (v:=.int _ _) rfl) rfl
   constructor
   ·rintro-w118 D118;rintro _ rfl _ rfl _ rfl;exact aI rfl (aG aO rfl rfl (by omega)) rfl
   constructor
   ·rintro-w119 D119;rintro _ rfl _ rfl;exact aI rfl (ak aW rfl) rfl
   constructor
   ·rintro-w120 D120;rintro _ rfl _ rfl;exact aI rfl (aq (v:=.string (ds.getD i dd).1) bf rfl (br (hB.next D120) (hce 0 _ rfl))) rfl
   constructor
   ·rintro-w121 D121;rintro _ rfl v121_22 rfl;exact aI rfl (cJ (by kernel_rfl) rfl) rfl
   constructor
   ·rintro-w122 D122;rintro _ rfl _ rfl;exact aI rfl (cG (bU rfl rfl) (decide_eq_false (by omega))) rfl
   constructor
   ·rintro-w123 D123;rintro _ rfl _ rfl;exact ai (aQ (v:=.bool _) rfl rfl) rfl
   constructor
   ·rintro-w124 D124;rintro _ rfl;exact ai (ar (v:=.bool _) rfl) rfl
   constructor
   ·rintro-w125 D125;rintro _ rfl;exact aI rfl (ar (v:=.int _ _) rfl) rfl
   constructor
   ·rintro-w126 D126;rintro _ rfl _ rfl;exact aI rfl (iw (bU rfl rfl) (decide_eq_true (by omega))) rfl
   constructor
   ·rintro-w127 D127;rintro _ rfl _ rfl;exact aI rfl (ar (v:=.bool _) rfl) rfl
   constructor
   ·rintro-w128 D128;rintro _ rfl;exact aI rfl (ar (v:=.slice _ _ _) rfl) rfl
   constructor
   ·rintro-w129 D129;rintro _ rfl;exact aI rfl (ar (v:=.int _ _) rfl) rfl
   constructor
   ·rintro-w130 D130;rintro _ rfl _ rfl;exact aI rfl (ck (b:=1) rfl rfl (by omega)) rfl
   constructor
   ·rintro-w131 D131;rintro _ rfl _ rfl _ rfl;exact aI rfl (aG aO rfl rfl (by omega)) rfl
   constructor
   ·rintro-w132 D132;rintro _ rfl _ rfl;exact aI rfl (ak aW rfl) rfl
   constructor
   ·rintro-w133 D133;rintro _ rfl _ rfl;exact aI rfl (aq (v:=.string (ds.getD (i-1) dd).1) bf rfl (br (hB.next D133) (hcp (by omega) 0 _ rfl))) rfl
   constructor
   ·rintro-w134 D134;rintro _ rfl;exact aI rfl (ar (v:=.slice _ _ _) rfl) rfl
   constructor
   ·rintro-w135 D135;rintro _ rfl;exact aI rfl (ar (v:=.int _ _) rfl) rfl
   constructor
   ·rintro-w136 D136;rintro _ rfl _ rfl _ rfl;exact aI rfl (aG aO rfl rfl (by omega)) rfl
   constructor
   ·rintro-w137 D137;rintro _ rfl _ rfl;exact aI rfl (ak aW rfl) rfl
   constructor
   ·rintro-w138 D138;rintro _ rfl _ rfl;exact aI rfl (aq (v:=.string (ds.getD i dd).1) bf rfl (br (hB.next D138) (hce 0 _ rfl))) rfl
   constructor
   ·rintro-w139 D139;rintro _ rfl v139_35 rfl v139_40 rfl;exact aI rfl (vm rfl rfl) rfl
   constructor
   ·rintro-w140 D140;rintro _ rfl _ rfl _ rfl;exact aI rfl (bc (v:=.bool _) rfl rfl) rfl
   constructor
   ·rintro-w141 D141;rintro _ rfl _ rfl;exact ai (aQ (v:=.bool _) rfl rfl) rfl
   exact trivial
  case hend=>
   intro w142 D142;rintro _ rfl _ rfl _ rfl _ rfl v15 rfl _ rfl _ rfl _ rfl _ rfl _ rfl _ rfl v22 rfl _ rfl _ rfl _ rfl _ rfl _ rfl _ rfl _ rfl _ rfl _ rfl _ rfl _ rfl _ rfl v35 rfl _ rfl _ rfl _ rfl _ rfl v40 rfl _ rfl _ rfl _ rfl;show St ..;refine ah (ab (Lg rfl (fun Q143=>?_) (fun Q143=>?_)))
   ·have hnl:¬ sLt (ds.getD (i-1) dd).1 (ds.getD i dd).1:=fun h=>by
     have h9:=(jx _ _).2 h
     simp_all
    refine ag (aa (asi rfl (ah (ab (ay (bn (aC (aC (bn (aC (bE (v:=.int _ _) rfl rfl ?_)))))))))))
    exact ⟨aM (by rw [yd (fun h=>by
     obtain ⟨x1,x2,x3⟩:=h i (by omega)
     first
      |omega
      |exact hnl (x3 (by omega)))]),(hB.next D142)⟩
   have hlt:sLt (ds.getD (i-1) dd).1 (ds.getD i dd).1:=(jx _ _).1 (by simpa using Q143);refine au (aN (ab (aa (mvi rfl (ae (aJ (b:=1) rfl rfl (by omega)) (asi rfl (ah ?_)))))));refine aR (i+1) ⟨(by first | rfl | (refine aM ?_;omega)),trivial⟩ (by (iterate 81 refine aF rfl ?_);exact aK) ⟨?_,?_⟩
   ·have hoi:okI ds i:=by first | exact ⟨by omega,by omega,fun h=>absurd h (by omega)⟩ | exact ⟨by omega,by omega,fun _=>hlt⟩
    exact ⟨by omega,fun x hx=>by
     rcases Nat.eq_or_lt_of_le (Nat.le_of_lt_succ hx) with e | e
     ·subst e;exact hoi
     ·exact hok x e,(hB.next D142)⟩
   ·show n-(i+1)<n-i;omega
 have hord:iW ds:=fun x hx=>hok x (by omega)
 refine aZ (aD (aD (aU (ab (ag (ag (aa (mvs rfl (ae (aS bx rfl) (ae (bU rfl rfl) (ah (ab (Li rfl (fun Q144=>?_) (fun Q144=>?_))))))))))))))
 ·refine ag (aa (asi rfl (ah (ab (ay (aC (bE (v:=.int _ _) rfl rfl (⟨aM (by rw [yc hord (fun h=>by have:=h.1;omega)]),hB⟩))))))))
 refine au (ab (ag (ag (aa (asi rfl (ah (ab (az (bg (G:=Nat) [2,47,48,49,50,51,52,53,54,55,56,57,58,59] (fun i=>[(4,.int .i64 (i:Nat))]) (fun i w'=>i≤n∧(∀ x,x<i→(ds.getD x dd).2.size≤2048)∧aj w w') (fun i=>n-i) (0) ⟨rfl,trivial⟩ ?_ ?_)))))))))
 ·exact ⟨Nat.zero_le _,fun x h=>absurd h (by omega),hB⟩
 rintro i ρ145 w145 ⟨hi,hok2,hB⟩;refine ag (ag (aa (mvi rfl (mvs rfl (ae (aS bx rfl) (ae (aX rfl rfl) (ah (ab (Li rfl (fun Q146=>?_) (fun Q146=>?_))))))))))
 ·obtain ⟨bd,od,rfl,hcd⟩:=hr (by omega);have hil:i<ds.length:=by omega
  have hce:=hcd i hil;rw [←bM hil] at hce;refine au (ab (ag (az (ag (aa (mvs rfl (mvi rfl (ae (aG aO rfl rfl (by omega)) (ae (ak cf rfl) (ae (aq bf rfl (by exact br hB (hce 1 _ rfl))) ?_))))))))));refine ae (cJ (by kernel_rfl) rfl) (ae (bU rfl rfl) (ah (ab (Li rfl (fun Q147=>?_) (fun Q147=>?_)))))
  ·refine ag (aa (asi rfl (ah (ab (ay (bn (aC (aC (bn (aC (bE (v:=.int _ _) rfl rfl ?_)))))))))));exact ⟨aM (by rw [yc hord (fun h=>by have:=h.2.1 (ds.getD i dd) (by rw [bM (show i<ds.length by omega)];exact List.getElem_mem _);omega)]),hB⟩
  refine au (aN (ab (aa (mvi rfl (ae (aJ (b:=1) rfl rfl (by omega)) (asi rfl (ah ?_)))))));refine aR (i+1) ⟨(by first | rfl | (refine aM ?_;omega)),trivial⟩ (by (iterate 29 refine aF rfl ?_);exact aK) ⟨?_,?_⟩
  ·exact ⟨by omega,fun x hx=>by
    rcases Nat.eq_or_lt_of_le (Nat.le_of_lt_succ hx) with e | e
    ·subst e;omega
    ·exact hok2 x e,hB⟩
  ·show n-(i+1)<n-i;omega
 have hall:∀ d∈ds,d.2.size≤2048:=fun d hd=>by
  obtain ⟨x,hx,rfl⟩:=List.getElem_of_mem hd;have:=hok2 x (by omega)
  rwa [bM hx] at this
 have hdm:=Gg hall;refine aZ (aD (aD (aU (ab (ag (ag (aa (mvs rfl (aA oT (oi A c n ds _ (hr.from_ hB) hn hl (by omega)) ?_)))))))));rintro v61 w148 ⟨rfl,E61⟩;refine ae (bU rfl rfl) (ah (ab (Li rfl (fun Q149=>?_) (fun Q149=>?_))))
 ·refine ag (aa (asi rfl (ah (ab (ay (aC (bE (v:=.int _ _) rfl rfl (⟨aM (by rw [yc hord (fun h=>by have:=h.2.2;omega)]),(hB.next E61)⟩))))))))
 refine au (ab (ag (aa (asi rfl (ah (ab (ay (bE (v:=.int _ _) rfl rfl (⟨aM (by rw [BT hord ⟨by omega,hall,by omega⟩]),(hB.next E61)⟩)))))))))
def ik (p:ByteArray) (limit:Int):Int:=if p.size=0 then 5 else if 4096<p.size∨limit<1∨1000<limit then 2 else 0
theorem zo (p:ByteArray) (limit:Int) (w:World) :
 Rt prog 49 [.string p,.int .i64 limit] w (fun v w'=>v=.int .i64 (ik p limit)∧aj w w'):=by
 refine enter (n:=18) Tryz.func49 rfl rfl rfl (ag (aa (asi rfl (ah (ab (ag (ag (aa (mvg rfl (ae (gC rfl rfl) (ah (ab (Lh rfl (fun Q1=>?_) (fun Q1=>?_))))))))))))))
 ·have hp0:p.size=0:=jD.1 (by simpa using Q1);refine ag (aa (asi rfl (ah (ab (ay (aC (bE (v:=.int _ _) rfl rfl (⟨aM (by unfold ik;rw [if_pos hp0]),aj.rfl_⟩))))))))
 have hp0:p.size≠0:=fun h9=>by have:=jD.2 h9;simp_all
 refine au (ab (ag (ag (aa (mvg rfl (ae (cJ (by kernel_rfl) rfl) (ae (bU rfl rfl) (mvb rfl (KL (t:=10) rfl (fun Q2=>?_) (fun Q2=>?_))))))))))
 ·refine aB rfl rfl (aB rfl rfl (ae (bc (v:=.bool _) rfl rfl) (mvb rfl (aB rfl rfl (aB rfl rfl (ae (bc (v:=.bool _) rfl rfl) (ah (ab (cB rfl ?_)))))))));refine ag (aa (asi rfl (ah (ab (ay (aC (bE (v:=.int _ _) rfl rfl ?_)))))));exact ⟨aM (by unfold ik;rw [if_neg hp0,if_pos (by omega)]),aj.rfl_⟩
 refine an rfl (mvi rfl (an rfl (ae (aX rfl rfl) (ae (aQ (v:=.bool _) rfl rfl) (mvb rfl (KL (t:=14) rfl (fun Q3=>?_) (fun Q3=>?_)))))))
 ·refine aB rfl rfl (aB rfl rfl (ae (bc (v:=.bool _) rfl rfl) (ah (ab (cB rfl (ag (aa (asi rfl (ah (ab (ay (aC (bE (v:=.int _ _) rfl rfl ?_)))))))))))));exact ⟨aM (by unfold ik;rw [if_neg hp0,if_pos (by omega)]),aj.rfl_⟩
 refine an rfl (mvi rfl (an rfl (ae (bU rfl rfl) (ae (aQ (v:=.bool _) rfl rfl) (ah (ab (Li rfl (fun Q4=>?_) (fun Q4=>?_))))))))
 ·refine ag (aa (asi rfl (ah (ab (ay (aC (bE (v:=.int _ _) rfl rfl ?_)))))));exact ⟨aM (by unfold ik;rw [if_neg hp0,if_pos (by omega)]),aj.rfl_⟩
 refine au (ab (ag (aa (asi rfl (ah (ab (ay (bE (v:=.int _ _) rfl rfl ?_))))))));exact ⟨aM (by unfold ik;rw [if_neg hp0,if_neg (by omega)]),aj.rfl_⟩
theorem zn (A:Option Addr) (c n:Nat) (ds:List Dc) (w:World) (hr:cL 2 dV w A ds) (hn:n=ds.length) (hl:n≤100000000) (p:ByteArray) (hp0:p.size≠0) (hp:p.size≤140737488351232) (hz:dsz ds≤100000000) :
 Rt prog 50 [.slice A n c,.string p] w (fun v w'=>(∃ A' c',v=.slice A' (dg ds p).length c'∧w'.ownsRow w.heap.size 57 2 (.slice A' (dg ds p).length c') (dg ds p).length ((dg ds p).flatMap hV))∧aj w w'):=by
 refine enter (n:=51) Tryz.func50 rfl rfl rfl (ag (aa (ass rfl (ah (ab (ag (aa (ass rfl (ah (ab (ag (ag (aa (asi rfl (ah (ab (az (bg (G:=Nat×Option Addr×Nat) [7,8,9,10,11,12,13,14,15,16,17,18,19,20,21,22,23,24,25,26,27,28,29,30,31,32,33,34,35,36,37,38,39,40,41,42,43,44,45,46,47,48,49] (fun (i,A5,c5)=>[(6,.int .i64 (i:Nat)),(5,.slice A5 (dg (ds.take i) p).length c5)]) (fun (i,A5,c5) w'=>i≤n∧w'.ownsRow w.heap.size 57 2 (.slice A5 (dg (ds.take i) p).length c5) (dg (ds.take i) p).length ((dg (ds.take i) p).flatMap hV)∧aj w w') (fun (i,_,_)=>n-i) ((0,none,0)) ⟨rfl,rfl,trivial⟩ ?_ ?_))))))))))))))))))
 ·exact ⟨Nat.zero_le _,World.ownsRow_nil _ _ _ _,aj.rfl_⟩
 rintro ⟨i,A5,c5⟩ ρ1 w1 ⟨hi,ho,hB⟩;refine ag (ag (aa (mvi rfl (mvs rfl (ae (aS bx rfl) (ae (aX rfl rfl) (ah (ab (Li rfl (fun Q2=>?_) (fun Q2=>?_))))))))))
 ·obtain ⟨bd,od,rfl,hcd⟩:=hr (by omega);have hil:i<ds.length:=by omega
  have hce:=hcd i hil;rw [←bM hil] at hce;have hdm:=BS (show ds.getD i dd∈ds by rw [bM hil];exact List.getElem_mem hil);have hnb:=rN (p:=p) (ds.take i);have hnz:=tf (ds:=ds) i;have hnt:=List.length_take_le i ds;refine au (ab (ag (az (ag (aa (asi rfl (ah (ab (az ?_)))))))));refine bg (G:=Nat×Option Addr×Nat) [14,15,16,17,18,19,20,21,22,23,24,25,26,27,28,29,30,31,32,33,34,35,36,37,38,39,40,41,42,43,44,45,46,47,48,49] (fun (k,A5,c5)=>[(7,.int .i64 (k:Nat)),(5,.slice A5 ((dg (ds.take i) p)++(ig (txt (ds.getD i dd).2) (txt p) k).map fun k=>((ds.getD i dd).1,((k:Nat):Int))).length c5)]) (fun (k,A5,c5) w'=>k≤(ds.getD i dd).2.size+1∧(k=0∨k+p.size≤(ds.getD i dd).2.size+1)∧w'.ownsRow w.heap.size 57 2 (.slice A5 ((dg (ds.take i) p)++(ig (txt (ds.getD i dd).2) (txt p) k).map fun k=>((ds.getD i dd).1,((k:Nat):Int))).length c5) ((dg (ds.take i) p)++(ig (txt (ds.getD i dd).2) (txt p) k).map fun k=>((ds.getD i dd).1,((k:Nat):Int))).length (((dg (ds.take i) p)++(ig (txt (ds.getD i dd).2) (txt p) k).map fun k=>((ds.getD i dd).1,((k:Nat):Int))).flatMap hV)∧aj w w') (fun (k,_,_)=>(ds.getD i dd).2.size+1-k) ((0,A5,c5)) ⟨rfl,(by rw [show ig (txt (ds.getD i dd).2) (txt p) 0=[] from rfl,List.map_nil,List.append_nil];rfl),trivial⟩ ?_ ?_
  ·exact ⟨Nat.zero_le _,.inl rfl,by rw [show ig (txt (ds.getD i dd).2) (txt p) 0=[] from rfl,List.map_nil,List.append_nil];exact ho.kept_from aj.rfl_,hB⟩
  rintro ⟨k,A5,c5⟩ ρ3 w3 ⟨hk,hk2,ho,hB⟩;have hkb:=vD (t:=txt (ds.getD i dd).2) (q:=txt p) (k:=k);refine ag (ag (aa (mvi rfl (mvs rfl (mvi rfl (ae (aG aO rfl rfl (by omega)) (ae (ak cf rfl) (ae (aq bf rfl (by exact br hB (hce 1 _ rfl))) ?_))))))));refine ae (cJ (by kernel_rfl) rfl) (mvg rfl (ae (cJ (by kernel_rfl) rfl) (ae (eQ rfl rfl (by omega)) (ae (qd rfl rfl) (ah (ab (Li rfl (fun Q4=>?_) (fun Q4=>?_))))))))
  ·refine au (ab (ff (G:=Option Addr×Nat) [27,28,29,30,31,32,33,34,35,36,37,38,39,40,41,42,43,44,45,46,47,48,49] (fun (A9,c9)=>[(5,.slice A9 ((dg (ds.take i) p)++(ig (txt (ds.getD i dd).2) (txt p) (k+1)).map fun k=>((ds.getD i dd).1,((k:Nat):Int))).length c9)]) (fun (A9,c9) w'=>w'.ownsRow w.heap.size 57 2 (.slice A9 ((dg (ds.take i) p)++(ig (txt (ds.getD i dd).2) (txt p) (k+1)).map fun k=>((ds.getD i dd).1,((k:Nat):Int))).length c9) ((dg (ds.take i) p)++(ig (txt (ds.getD i dd).2) (txt p) (k+1)).map fun k=>((ds.getD i dd).1,((k:Nat):Int))).length (((dg (ds.take i) p)++(ig (txt (ds.getD i dd).2) (txt p) (k+1)).map fun k=>((ds.getD i dd).1,((k:Nat):Int))).flatMap hV)∧aj w w') ?_ ?_))
   ·refine az (ag (aa (mvs rfl (mvi rfl (ae (aG aO rfl rfl (by omega)) (ae (ak cf rfl) (ae (aq bf rfl (by exact br hB (hce 1 _ rfl))) ?_)))))));refine mvi rfl (mvi rfl (mvg rfl (ae (cJ (by kernel_rfl) rfl) (ae (aJ rfl rfl (by omega)) (ae (Bm (l:=k) (h:=k+p.size) (by kernel_rfl) rfl (.inr ⟨_,_,_,rfl,rfl,rfl⟩) (.inr ⟨_,_,_,rfl,rfl,rfl⟩) (by omega) (by omega)) (mvg rfl (ae (gC rfl rfl) (ah (ab ?_)))))))));refine Lh rfl (fun Q5=>?_) (fun Q5=>?_)
    ·have hpre:(txt p).isPrefixOf ((txt (ds.getD i dd).2).drop k)=true:=by rw [←vS];exact beq_iff_eq.2 Q5
     have hks:=xX hpre;refine aa (mvs rfl (mvs rfl (mvi rfl (ae (aG aO rfl rfl (by omega)) (ae (ak aW rfl) (ae (aq bf rfl (by exact br hB (hce 0 _ rfl))) ?_))))));refine mvi rfl (ae (du (l:=[(0,.tmp 45),(1,.tmp 46)]) (tT _ _)) (gd eO rfl rfl rfl ?_));intro b48 w6 E48 hb48 hk48;refine cZ eO rfl (by decide) rfl (A:=A5) (xs:=((dg (ds.take i) p)++(ig (txt (ds.getD i dd).2) (txt p) k).map fun k=>((ds.getD i dd).1,((k:Nat):Int))).flatMap hV) (news:=hV ((ds.getD i dd).1,((k:Nat):Int))) (ho.kept_from (aj.rfl_.next E48)) ((hB.next E48).size) rfl rfl (fun _=>⟨b48,0,rfl,hk48.whole⟩) (fun h=>by cases h) (by simp [hV,Value.oneCell']) (by simp only [List.length_append,List.length_map];omega) (by simp only [List.length_append,List.length_map];omega) ?_;intro A49 c49 w7 ho49 hg49;have HF49:=((hB.next E48)).grew hg49 (fun k hk=>(b_ (ho.kept_from (aj.rfl_.next E48)) k hk).1);refine ass rfl (ah (aN ?_));refine aR ((A49,c49)) ⟨(by rw [hks];simp only [List.length_append,List.length_map,List.length_cons,List.length_nil,Nat.add_assoc];rfl),trivial⟩ (by (iterate 24 refine aF rfl ?_);exact aK) ?_;exact ⟨by rw [hks,List.map_append,←List.append_assoc,List.flatMap_append,List.length_append];exact ho49.kept_from aj.rfl_,HF49⟩
    have hpre:(txt p).isPrefixOf ((txt (ds.getD i dd).2).drop k)=false:=by rw [←vS];exact beq_eq_false_iff_ne.2 Q5
    have hks:=vC hpre;refine au (aN ?_);refine aR ((A5,c5)) ⟨(by rw [hks];rfl),trivial⟩ (by (iterate 13 refine aF rfl ?_);exact aK) ?_;exact ⟨by rw [hks];exact ho.kept_from aj.rfl_,hB⟩
   rintro ⟨A9,c9⟩ ρ8 w8 ⟨ho9,hB⟩;refine aa (mvi rfl (ae (aJ (b:=1) rfl rfl (by omega)) (asi rfl (ah ?_))));refine aR ((k+1,A9,c9)) ⟨(by first | rfl | (refine aM ?_;omega)),(by first | rfl | (refine aM ?_;omega)),trivial⟩ (by (iterate 76 refine aF rfl ?_);exact aK) ⟨?_,?_⟩
   ·exact ⟨by omega,by omega,ho9.kept_from aj.rfl_,hB⟩
   ·show (ds.getD i dd).2.size+1-(k+1)<(ds.getD i dd).2.size+1-k;omega
  have hnx:dg (ds.take (i+1)) p=((dg (ds.take i) p)++(ig (txt (ds.getD i dd).2) (txt p) k).map fun k=>((ds.getD i dd).1,((k:Nat):Int))):=by
   rw [List.take_succ_eq_append_getElem hil,ky,←bM hil,dg,dg,List.append_nil,Jh (y6 hp0) (k:=k) (by rw [ef,ef];omega) (by rw [ef];omega)]
  refine aZ (aD (aD (aU (aN (ab (aa (mvi rfl (ae (aJ (b:=1) rfl rfl (by omega)) (asi rfl (ah ?_))))))))));refine aR ((i+1,A5,c5)) ⟨rfl,(by rw [hnx];rfl),trivial⟩ (by (iterate 102 refine aF rfl ?_);exact aK) ⟨?_,?_⟩
  ·exact ⟨by omega,by rw [hnx];exact ho.kept_from aj.rfl_,hB⟩
  ·show n-(i+1)<n-i;omega
 refine aZ (aD (aD (aU (ab (ag (aa (mvs rfl (ass rfl (ah (ab (ay (bE (v:=.slice _ _ _) rfl rfl ?_))))))))))));obtain rfl:i=n:=by omega
 rw [hn,List.take_length] at ho;rw [hn,List.take_length];exact ⟨⟨A5,c5,rfl,ho⟩,hB⟩
theorem AF:aH prog 41=true:=by kernel_rfl
theorem AE:aH prog 42=true:=by kernel_rfl
theorem AD:aH prog 43=true:=by kernel_rfl
theorem AC:aH prog 48=true:=by kernel_rfl
def sH (D:List Dc) (q:ByteArray) (lim:Int):List Ht:=if ik q lim=0 then (dg D q).take lim.toNat else []
def sN (D:List Dc) (q:ByteArray) (lim:Int):Nat:=if ik q lim=0 then (dg D q).length else 0
theorem yv {q:ByteArray} {lim:Int} (h:ik q lim=0):ou q=0∧q.size≠0∧1≤lim∧lim≤1000:=by
 unfold ik at h;split at h
 ·cases h
 ·split at h
  ·cases h
  ·unfold ou;rw [if_neg (by assumption),if_neg (by omega)];exact ⟨rfl,by assumption,by omega,by omega⟩
theorem x5 (q:ByteArray) {a b:List Dc} (h:a.Perm b) (hf:jJ b):(dg a q).length≤16448:=by
 have h1:=rN (p:=q) a;have h2:=te h;have h3:=h.length_eq;have h4:=hf.1;have h5:=hf.2.2;omega
noncomputable def hpf (ps:List Pt) (q:ByteArray) (i:Nat):List Ht:=dg ((ps.take i).flatMap Pt.live) q
theorem xZ {ps:List Pt} {q:ByteArray} {i:Nat} (h:i<ps.length):hpf ps q (i+1)=hpf ps q i++dg ps[i].live q:=by
 unfold hpf;rw [List.take_succ_eq_append_getElem h,List.flatMap_append,ky,List.flatMap_cons,List.flatMap_nil,List.append_nil]
noncomputable def hlf (ps:List Pt) (L:List Dc) (q:ByteArray) (j:Nat):List Ht:=hpf ps q ps.length++dg (L.take j) q
theorem x0 {ps:List Pt} {L:List Dc} {q:ByteArray} {j:Nat} (h:j<L.length):hlf ps L q (j+1)=hlf ps L q j++hOf L[j] q:=by
 unfold hlf;rw [List.take_succ_eq_append_getElem h,ky,List.append_assoc];show _++(_++(hOf L[j] q++[]))=_;rw [List.append_nil]
theorem sZ (ps:List Pt) (L:List Dc) (q:ByteArray):hlf ps L q 0=hpf ps q ps.length:=List.append_nil _
theorem BI {ps:List Pt} {L D:List Dc} (hG:ShG ps L D) (q:ByteArray):(hlf ps L q L.length).Perm (dg D q):=by
 have h1:=C_ hG.perm q;unfold hlf hpf;rw [List.take_length,List.take_length];refine List.Perm.trans ?_ h1.symm;unfold jI;rw [ky];exact List.perm_append_comm
theorem zD {ps:List Pt} {L D:List Dc} (hG:ShG ps L D) (q:ByteArray) {j:Nat} (_:j≤L.length):(hlf ps L q j).length≤16448:=by
 have h1:=(BI hG q).length_eq;have h2:=x5 q (.refl D) hG.fit
 have e:hlf ps L q L.length=hlf ps L q j++dg (L.drop j) q:=by
  unfold hlf;rw [List.append_assoc,←ky,List.take_append_drop,List.take_length]
 rw [e,List.length_append] at h1;omega
theorem Ka {ps:List Pt} {L D:List Dc} (hG:ShG ps L D) (q:ByteArray) {i:Nat} (_:i≤ps.length):(hpf ps q i).length≤16448:=by
 have h1:=zD hG q (Nat.zero_le L.length);rw [sZ] at h1
 have e:hpf ps q ps.length=hpf ps q i++dg ((ps.drop i).flatMap Pt.live) q:=by
  unfold hpf;rw [←ky,←List.flatMap_append,List.take_append_drop,List.take_length]
 rw [e,List.length_append] at h1;omega
theorem ir (U:Nat→Prop) (s:Nat) (D:List Dc) (w:World) (hs:dD w U s D) (q:ByteArray) (lim:Int) (m:Int) (hm:w.cell? ⟨0,0,none⟩=some (.int .i64 m)) (hqs:q.size≤140737488351232) :
 Rt prog 20 [.pointer (some ⟨s,0,none⟩),.string q,.int .i64 lim] w (fun v w'=>(∃ A' c',v=.tuple #[.slice A' (sH D q lim).length c',.int .i64 (sN D q lim:Nat),.int .i64 (ik q lim)]∧w'.ownsRow w.heap.size 57 2 (.slice A' (sH D q lim).length c') (sH D q lim).length ((sH D q lim).flatMap hV))∧aj w w'):=by
 have hs0:=hs;obtain ⟨ps,L,Ap,cp,Al,cl,hG,h,hU⟩:=hs;have hll:=hG.loose;have hpl:=hG.parts;refine enter (n:=80) Tryz.func20 rfl rfl rfl (ag (aa (ass rfl (asi rfl (asi rfl (ah (ab (ag (ag (aa (mvg rfl (ae (gC rfl rfl) (ah (ab ?_))))))))))))));refine Lh rfl (fun Q1=>?_) (fun Q1=>?_)
 ·have hp0:q.size=0:=jD.1 (by simpa using Q1);refine ag (aa (ass rfl (asi rfl (asi rfl (ah (ab (ay (aC (rh (v:=.slice _ _ _) (v':=.int _ _) (v'':=.int _ _) rfl rfl rfl rfl ?_)))))))));have hak:ik q lim=5:=by unfold ik;rw [if_pos hp0]
  have e1:sH D q lim=[]:=by unfold sH;rw [if_neg (by omega)]
  have e2:sN D q lim=0:=by unfold sN;rw [if_neg (by omega)]
  rw [e1,e2,hak];exact ⟨⟨none,0,rfl,World.ownsRow_nil _ _ _ _⟩,aj.rfl_⟩
 have hp0:q.size≠0:=fun h9=>by have:=jD.2 h9;simp_all
 refine au (ab (ag (ag (aa (mvg rfl (ae (cJ (by kernel_rfl) rfl) (ae (bU rfl rfl) (mvb rfl (KL (t:=20) rfl (fun Q2=>?_) (fun Q2=>?_))))))))))
 ·refine aB rfl rfl (aB rfl rfl (ae (bc (v:=.bool _) rfl rfl) (mvb rfl (aB rfl rfl (aB rfl rfl (ae (bc (v:=.bool _) rfl rfl) (ah (ab (cB rfl ?_)))))))));refine ag (aa (ass rfl (asi rfl (asi rfl (ah (ab (ay (aC (rh (v:=.slice _ _ _) (v':=.int _ _) (v'':=.int _ _) rfl rfl rfl rfl ?_)))))))));have hak:ik q lim=2:=by unfold ik;rw [if_neg hp0,if_pos (by omega)]
  have e1:sH D q lim=[]:=by unfold sH;rw [if_neg (by omega)]
  have e2:sN D q lim=0:=by unfold sN;rw [if_neg (by omega)]
  rw [e1,e2,hak];exact ⟨⟨none,0,rfl,World.ownsRow_nil _ _ _ _⟩,aj.rfl_⟩
 refine an rfl (mvi rfl (an rfl (ae (aX rfl rfl) (ae (aQ (v:=.bool _) rfl rfl) (mvb rfl (KL (t:=24) rfl (fun Q3=>?_) (fun Q3=>?_)))))))
 ·refine aB rfl rfl (aB rfl rfl (ae (bc (v:=.bool _) rfl rfl) (ah (ab (cB rfl (ag (aa (ass rfl (asi rfl (asi rfl ?_))))))))));refine ah (ab (ay (aC (rh (v:=.slice _ _ _) (v':=.int _ _) (v'':=.int _ _) rfl rfl rfl rfl ?_))));have hak:ik q lim=2:=by unfold ik;rw [if_neg hp0,if_pos (by omega)]
  have e1:sH D q lim=[]:=by unfold sH;rw [if_neg (by omega)]
  have e2:sN D q lim=0:=by unfold sN;rw [if_neg (by omega)]
  rw [e1,e2,hak];exact ⟨⟨none,0,rfl,World.ownsRow_nil _ _ _ _⟩,aj.rfl_⟩
 refine an rfl (mvi rfl (an rfl (ae (bU rfl rfl) (ae (aQ (v:=.bool _) rfl rfl) (ah (ab (Li rfl (fun Q4=>?_) (fun Q4=>?_))))))))
 ·refine ag (aa (ass rfl (asi rfl (asi rfl (ah (ab (ay (aC (rh (v:=.slice _ _ _) (v':=.int _ _) (v'':=.int _ _) rfl rfl rfl rfl ?_)))))))));have hak:ik q lim=2:=by unfold ik;rw [if_neg hp0,if_pos (by omega)]
  have e1:sH D q lim=[]:=by unfold sH;rw [if_neg (by omega)]
  have e2:sN D q lim=0:=by unfold sN;rw [if_neg (by omega)]
  rw [e1,e2,hak];exact ⟨⟨none,0,rfl,World.ownsRow_nil _ _ _ _⟩,aj.rfl_⟩
 have hak:ik q lim=0:=by unfold ik;rw [if_neg hp0,if_neg (by omega)]
 obtain ⟨hpe,_,hl1,hl2⟩:=yv hak;obtain ⟨l,rfl⟩:∃ l:Nat,lim=(l:Int):=⟨lim.toNat,by omega⟩;have hsH:sH D q l=(dg D q).take l:=by unfold sH;rw [if_pos hak,Int.toNat_natCast]
 have hsN:sN D q l=(dg D q).length:=by unfold sN;rw [if_pos hak]
 refine au (ab (ag (aa (ass rfl (ah (ab (ag (ag (aa (mvp rfl (ae (aw rfl) (ae (ak cz rfl) (ae (aq dX rfl (by exact (h.blk.from_ aj.rfl_).rd 0 rfl)) ?_)))))))))))));refine ae (aS dt rfl) (mvi rfl (ah (ab (az (bg (G:=Nat×Option Addr×Nat) [6,7,8,10,11,12,34,35,36,37,38,39,40,41,42,43,44,45,46,47,48,49,50,51,52,53] (fun (i,A9,c9)=>[(9,.slice A9 (hpf ps q i).length c9),(33,.int .i64 (i:Nat))]) (fun (i,A9,c9) w'=>i≤ps.length∧w'.ownsRow w.heap.size 57 2 (.slice A9 (hpf ps q i).length c9) (hpf ps q i).length ((hpf ps q i).flatMap hV)∧aj w w') (fun (i,_,_)=>ps.length-i) ((0,none,0)) ⟨rfl,rfl,trivial⟩ ?_ ?_)))))
 ·exact ⟨Nat.zero_le _,World.ownsRow_nil _ _ _ _,aj.rfl_⟩
 rintro ⟨i,A9,c9⟩ ρ5 w5 ⟨hi,ho9,hB⟩;refine ag (aa (ae (aX rfl rfl) (ah (ab (ag (Li rfl (fun Q6=>?_) (fun Q6=>?_)))))))
 ·have hil:i<ps.length:=by omega
  obtain ⟨g,rfl⟩:=dF h.rowP (by omega);have hpf1:(hpf ps q (i+1)).length=(hpf ps q i).length+(dg ps[i].live q).length:=by rw [xZ hil,List.length_append]
  have hpl4:=Ka hG q (show i+1≤ps.length by omega);refine au (ab (ag (az (ag (aa (mvi rfl (asi rfl (ah (ab (ag (aa (mvp rfl (ae (aw rfl) (ae (ak cz rfl) (ae (aq dX rfl (by exact (h.blk.from_ hB).rd 0 rfl)) ?_)))))))))))))));refine mvi rfl (ae (aG cN rfl rfl (by omega)) (mvg rfl (aA AF (Is g (0+i*2) ps[i] _ ((sA h.rowP (fun p hp=>h.ptIn hG hp) hil).from_ hB) q hqs hpe) ?_)));rintro v44 w7 ⟨⟨A44,c44,rfl,ho44⟩,E44⟩;refine mvt rfl (ae (ax rfl rfl) (ae (ax rfl rfl) (ass rfl (asi rfl (ah (ab (ag (ag (aa (mvi rfl (ae (cG (cq rfl rfl) (bne_self_eq_false _)) (ah (ab ?_)))))))))))));refine cm rfl (au (ab (aa (mvs rfl (mvs rfl (cZ eO rfl (by decide) rfl (A:=A9) (xs:=List.flatMap hV (hpf ps q i)) (news:=List.flatMap hV (dg ps[i].live q)) (ho9.kept_from (aj.rfl_.next E44)) ((hB.next E44).size) rfl (dR eB _) (fun h=>((cL.own eB (by decide) ho44).2).flat eB h) (fun e=>by subst e;exact jE ho44) (zG _) (by omega) (by omega) ?_))))));intro A52 c52 w8 ho52 hg52;have HF52:=((hB.next E44)).grew hg52 (fun k hk=>(b_ (ho9.kept_from (aj.rfl_.next E44)) k hk).1);refine ass rfl (ah (aN (ab (aa (ae (aJ (b:=1) rfl rfl (by omega)) (mvi rfl (ah ?_)))))));refine aR ((i+1,A52,c52)) ⟨(by rw [hpf1];rfl),rfl,trivial⟩ (by (iterate 52 refine aF rfl ?_);exact aK) ⟨?_,?_⟩
  ·exact ⟨by omega,by rw [hpf1,xZ hil,List.flatMap_append];exact ho52,HF52⟩
  ·show ps.length-(i+1)<ps.length-i;omega
 obtain rfl:i=ps.length:=by omega
 refine aZ (aD (aD (aU (ab (ag (ag (aa (mvp rfl (ae (aw rfl) (ae (ak eo rfl) (ae (aq bK rfl (by exact (h.blk.from_ hB).rd 1 rfl)) ?_)))))))))));refine ae (aS bx rfl) (mvi rfl (ah (ab (az (bg (G:=Nat×Option Addr×Nat) [14,60,61,62,63,64,65,66,67,68] (fun (j,A9,c9)=>[(9,.slice A9 (hlf ps L q j).length c9),(59,.int .i64 (j:Nat))]) (fun (j,A9,c9) w'=>j≤L.length∧w'.ownsRow w.heap.size 57 2 (.slice A9 (hlf ps L q j).length c9) (hlf ps L q j).length ((hlf ps L q j).flatMap hV)∧aj w w') (fun (j,_,_)=>L.length-j) ((0,A9,c9)) ⟨(by rw [sZ];rfl),rfl,trivial⟩ ?_ ?_)))))
 ·exact ⟨Nat.zero_le _,by rw [sZ];exact ho9,hB⟩
 rintro ⟨j,A9,c9⟩ ρ9 w9 ⟨hj,ho9,hB⟩;refine ag (aa (ae (aX rfl rfl) (ah (ab (ag (Li rfl (fun Q10=>?_) (fun Q10=>?_)))))))
 ·have hjl:j<L.length:=by omega
  obtain ⟨bL,oL,rfl,hcL⟩:=(cL.own bI (by decide) h.rowL).2 (by omega);have hce:=hcL j hjl;have hlf1:(hlf ps L q (j+1)).length=(hlf ps L q j).length+(hOf L[j] q).length:=by rw [x0 hjl,List.length_append]
  have hpl5:=zD hG q (show j+1≤L.length by omega);have hdj:=hG.looseFit.2.1 _ (List.getElem_mem hjl);refine au (ab (ag (az (ag (aa (ae (aG aO rfl rfl (by omega)) (ae (bw (cs:=[_,_]) bO bq rfl (by exact c0 hB hce)) ?_)))))));refine dN kj ?_;intro b14 w11 E14 hb14 hk14;have hg14:w.heap.size≤b14:=by rw [hb14];exact (hB).size
  refine fZ (vs:=[_,_]) bq rfl rfl (by simp [Value.oneCell']) (hk14) rfl ?_;intro w12 O16 P16;replace ho9:=cH (ho9.kept_from E14) O16 (fun q hq=>by have:=(b_ ho9 q hq).2;omega);refine ah (ab (aa (mvs rfl (ae (bw (cs:=[_,_]) bO bq rfl (by exact (P16.from_ aj.rfl_).whole)) ?_))));refine mvg rfl (aA AE (Hi L[j] q m _ (br ((hB.next E14).only O16 (hg14)) hm) hdj hp0) ?_);rintro v66 w13 ⟨⟨A66,c66,rfl,ho66⟩,E66⟩;refine cZ eO rfl (by decide) rfl (A:=A9) (xs:=List.flatMap hV (hlf ps L q j)) (news:=List.flatMap hV (hOf L[j] q)) (ho9.kept_from (aj.rfl_.next E66)) ((((hB.next E14).only O16 (hg14)).next E66).size) rfl (dR eB _) (fun h=>((cL.own eB (by decide) ho66).2).flat eB h) (fun e=>by subst e;exact jE ho66) (zG _) (by omega) (by omega) ?_;intro A67 c67 w14 ho67 hg67;have HF67:=((((hB.next E14).only O16 (hg14)).next E66)).grew hg67 (fun k hk=>(b_ (ho9.kept_from (aj.rfl_.next E66)) k hk).1);refine ass rfl (ah (aN (ab (aa (ae (aJ (b:=1) rfl rfl (by omega)) (mvi rfl (ah ?_)))))));refine aR ((j+1,A67,c67)) ⟨(by rw [hlf1];rfl),rfl,trivial⟩ (by (iterate 24 refine aF rfl ?_);exact aK) ⟨?_,?_⟩
  ·exact ⟨by omega,by rw [hlf1,x0 hjl,List.flatMap_append];exact ho67,HF67⟩
  ·show L.length-(j+1)<L.length-j;omega
 obtain rfl:j=L.length:=by omega
 have hpl6:=zD hG q (Nat.le_refl L.length);refine aZ (aD (aD (aU (ab (ag (aa (mvs rfl (aA AD (Cs _ A9 c9 (hlf ps L q L.length).length (hlf ps L q L.length) _ ho9 (by omega)) ?_))))))));rintro v70 w15 ⟨⟨ys,hyp,hys,hoy⟩,hg70⟩;obtain rfl:=C9 hG.sd (BI hG q) hyp hys;have hyl:=hyp.length_eq;refine ah (ab (ag (aa (mvs rfl (mvi rfl (mvs rfl (ae (aS gH rfl) (ae (eR (v':=.int .i64 ((min l (hlf ps L q L.length).length:Nat):Int)) (EN rfl rfl) (aM (by omega))) (ae (eR (v':=.slice A9 (min l (hlf ps L q L.length).length) c9) (bu (l:=0) (h:=min l (hlf ps L q L.length).length) gJ rfl (.inl ⟨rfl,rfl⟩) (.inr ⟨_,_,_,rfl,rfl,rfl⟩) (by omega) (by have:=kP hoy;omega)) (by rw [cP,Nat.sub_zero,Nat.sub_zero])) ?_)))))))));have hz77:=(((hB).grew hg70 (fun k hk=>(b_ ho9 k hk).1))).size;refine aA AC (dH A9 c9 (min l (hlf ps L q L.length).length) (((dg D q).take l).flatMap hV) _ (by rw [dR eB,List.length_take,hyl]) (fun h0=>((cL.own eB (by decide) hoy).2.take l).flat eB (by rw [List.length_take,hyl];exact h0)) (fun e=>by subst e;have e1:=qi hoy;have e2:=jE hoy;omega) (zG _) (by omega)) ?_;rintro v77 w16 ⟨⟨A77,c77,rfl,ho77⟩,E77⟩;refine mvs rfl (ae (aS gH rfl) (ass rfl (asi rfl (asi rfl (ah (ab (ay (rh (v:=.slice _ _ _) (v':=.int _ _) (v'':=.int _ _) rfl rfl rfl rfl ?_))))))));have hlen:((dg D q).take l).length=min l (hlf ps L q L.length).length:=by rw [List.length_take,hyl]
 rw [hsH,hsN,hak,hlen,hyl];exact ⟨⟨A77,c77,rfl,fu ho77 hz77⟩,(((hB).grew hg70 (fun k hk=>(b_ ho9 k hk).1)).next E77)⟩
structure L4 (w:World) (A B C:Option Addr) (ca:Nat) (ds:List Dc) (ps ns:List ByteArray):Prop where
 row:cL 2 dV w A ds
 sm:∀ d∈ds,Small d.1∧Small d.2
 len:ds.length*32≤140737488351232
 nil:A=none→ca=0
 rowP:bW Value.string w B ps
 smP:∀ s∈ps,Small s
 lenP:ps.length*16≤140737488351232
 rowN:bW Value.string w C ns
 smN:∀ s∈ns,Small s
 lenN:ns.length*16≤140737488351232
theorem It:lX [(⟨#[97]⟩,⟨#[120,120]⟩)] ⟨#[120]⟩=[(⟨#[97]⟩,0),(⟨#[97]⟩,1)]:=by
 have e2:txt ⟨#[120,120]⟩=[121,121]:=by unfold txt;rw [Lib.toList_data];rfl
 have e3:txt ⟨#[120]⟩=[121]:=by unfold txt;rw [Lib.toList_data];rfl
 have e4:ou ⟨#[120]⟩=0:=by decide
 have e5:ks [121,121] [121]=[0,1]:=by decide
 unfold lX;rw [e4,if_pos rfl];unfold dg dg;rw [e2,e3,e5];rfl
open Classical in
noncomputable def fI (ds:List Dc) (q:ByteArray):Int:=if h:∃ i,i<ds.length∧(ds.getD i dd).1=q∧∀ k,k<i→(ds.getD k dd).1≠q then ((Classical.choose h:Nat):Int) else -1
theorem Jk {ds:List Dc} {q:ByteArray} {i:Nat} (h1:i<ds.length) (h2:(ds.getD i dd).1=q) (h3:∀ k,k<i→(ds.getD k dd).1≠q):fI ds q=(i:Int):=by
 have h:∃ i,i<ds.length∧(ds.getD i dd).1=q∧∀ k,k<i→(ds.getD k dd).1≠q:=⟨i,h1,h2,h3⟩;unfold fI;rw [dif_pos h];obtain ⟨a1,a2,a3⟩:=Classical.choose_spec h;rcases Nat.lt_trichotomy (Classical.choose h) i with e | e | e
 ·exact absurd a2 (h3 _ e)
 ·rw [e]
 ·exact absurd h2 (a3 _ e)
theorem Jj {ds:List Dc} {q:ByteArray} (h:∀ i,i<ds.length→(ds.getD i dd).1≠q):fI ds q=-1:=by
 unfold fI;rw [dif_neg];rintro ⟨i,h1,h2,_⟩;exact h i h1 h2
theorem mZ (A B:Option Addr) (ca cb n m:Nat) (a:List Dc) (w:World) (ha:cL 2 dV w A a) (hb:cL 2 dV w B a) (hn:n=a.length) (hm:m=a.length) (hl:n≤100000000):Rt prog 29 [.slice A n ca,.slice B m cb] w fun v w'=>v=.bool true∧aj w w':=
 (Dh A B ca cb n m a a w ha hb hn hm hl).mono fun _ _ h=>⟨h.1.trans (congrArg Value.bool (decide_eq_true rfl)),h.2⟩
theorem xx (A:Option Addr) (c n:Nat) (ds:List Dc) (w:World) (hr:cL 2 dV w A ds) (hn:n=ds.length) (hl:n≤100000000) (q:ByteArray) :
 Rt prog 33 [.slice A n c,.string q] w (fun v w'=>v=.int .i64 (fI ds q)∧aj w w'):=by
 refine enter (n:=20) Tryz.func33 rfl rfl rfl (ag (aa (asi rfl (ah (ab (ag (ag (aa (asi rfl (ah (ab (az (bg (G:=Nat) [4,6,7,8,9,10,11,12,13,14,15,16,17,18,19] (fun i=>[(5,.int .i64 (i:Nat))]) (fun i w'=>i≤n∧(∀ k,k<i→(ds.getD k dd).1≠q)∧aj w w') (fun i=>n-i) (0) ⟨rfl,trivial⟩ ?_ ?_)))))))))))))
 ·exact ⟨Nat.zero_le _,fun k h=>absurd h (by omega),aj.rfl_⟩
 rintro i ρ1 w1 ⟨hi,hno,hB⟩;refine ag (ag (aa (mvi rfl (mvs rfl (ae (aS bx rfl) (ae (aX rfl rfl) (ah (ab (Li rfl (fun Q2=>?_) (fun Q2=>?_))))))))))
 ·obtain ⟨bd,od,rfl,hcd⟩:=hr (by omega);have hil:i<ds.length:=by omega
  have hce:=hcd i hil;rw [←bM hil] at hce;refine au (ab (ag (az (ag (aa (mvs rfl (mvi rfl (ae (aG aO rfl rfl (by omega)) (ae (ak aW rfl) (ae (aq bf rfl (by exact br hB (hce 0 _ rfl))) ?_))))))))));refine mvg rfl (ae (gC rfl rfl) (ah (ab (Lh rfl (fun Q3=>?_) (fun Q3=>?_)))))
  ·have heq:(ds.getD i dd).1=q:=by first | exact lU Q3 | exact fD.1 Q3
   refine ag (aa (mvi rfl (asi rfl (ah (ab (ay (bn (aC (aC (bn (aC (bE (v:=.int _ _) rfl rfl (⟨aM (by rw [Jk hil heq hno]),hB⟩)))))))))))))
  have hne:(ds.getD i dd).1≠q:=fun e=>by have:=fD.2 e;simp_all
  refine au (aN (ab (aa (mvi rfl (ae (aJ (b:=1) rfl rfl (by omega)) (asi rfl (ah ?_)))))));refine aR (i+1) ⟨(by first | rfl | (refine aM ?_;omega)),trivial⟩ (by (iterate 30 refine aF rfl ?_);exact aK) ⟨?_,?_⟩
  ·exact ⟨by omega,fun k hk=>by
    rcases Nat.eq_or_lt_of_le (Nat.le_of_lt_succ hk) with e | e
    ·subst e;exact hne
    ·exact hno k e,hB⟩
  ·show n-(i+1)<n-i;omega
 refine aZ (aD (aD (aU (ab (ag (aa (asi rfl (ah (ab (ay (bE (v:=.int _ _) rfl rfl (⟨aM (by rw [Jj (fun k hk=>hno k (by omega))]),hB⟩))))))))))))
end Go.Proofs.YtcbakncjacnnjaaGreat
namespace Go.Proofs.YtcbakncjacnnjaaGreat
open Go.Proofs.Tryz (prog)
open Go.RowKit
open Go.ChangeShapes Go.WideShapes Go.ChangeAt
open Go.Proofs.YtcbakncjacnnjaaGreat.SA
theorem Dx:aH prog 49=true:=by kernel_rfl
theorem Dw:aH prog 50=true:=by kernel_rfl
theorem u5:aH prog 33=true:=by kernel_rfl
theorem qK:aH prog 11=true:=by kernel_rfl
theorem o5 {s:ByteArray} (h:s.toList=(⟨#[]⟩:ByteArray).toList):s.size=0:=by rw [lU h];rfl
theorem xN {s:ByteArray} (h:s.size=0):s.toList=(⟨#[]⟩:ByteArray).toList:=by rw [oe h]
structure j6 (w:World) (U:Nat→Prop) (A:Option Addr) (c:Nat) (ds:List Dc):Prop where
 row:cL 2 dV w A ds
 cap:ds.length≤c
 nil:A=none→c=0
 off:0<ds.length→∀ q,A.map (·.block)=some q→¬ U q
theorem j6.from_ {w w':World} {U:Nat→Prop} {A:Option Addr} {c:Nat} {ds:List Dc} (h:j6 w U A c ds) (hF:aj w w'):j6 w' U A c ds:=⟨h.row.from_ hF,h.cap,h.nil,h.off⟩
theorem j6.lt {w:World} {U:Nat→Prop} {A:Option Addr} {c:Nat} {ds:List Dc} (h:j6 w U A c ds) (h0:0<ds.length):∀ q,A.map (·.block)=some q→q<w.heap.size:=fun q hq=>by
 obtain ⟨b,o,e,hc⟩:=h.row h0;subst e;cases hq;exact World.block_lt_of_cell? _ _ (hc 0 h0 0 _ rfl)
theorem j6.chg {w w':World} {U V:Nat→Prop} {A:Option Addr} {c:Nat} {ds:List Dc} (h:j6 w U A c ds) (hc:Chg U w w') (hV:∀ k,V k→Nx U w w' k):j6 w' V A c ds:=⟨fun h0=>by
 obtain ⟨b,o,e,hr⟩:=h.row h0;refine ⟨b,o,e,fun i hi=>?_⟩;have hb:=h.lt h0 b (by rw [e];rfl);have hu:=h.off h0 b (by rw [e];rfl);intro j v hv;have:=hr i hi j v hv;unfold World.cell? at this ⊢;show (match w'.heap[b]? with | some (.cells cs _ _)=>_ | _=>_)=_;rw [hc.block b hb hu];exact this,h.cap,h.nil,fun h0 q hq hv=>by
 rcases hV q hv with e | ⟨e,_⟩
 ·exact h.off h0 q hq e
 ·have:=h.lt h0 q hq;omega⟩
theorem j6.own {w w0:World} {U:Nat→Prop} {A:Option Addr} {c n:Nat} {ds:List Dc} (h:w.ownsRow w0.heap.size 37 2 (.slice A n c) n (ds.flatMap dV)) (hU:∀ q,U q→q<w0.heap.size):j6 w U A c ds:=by
 have hl:=fS bI h;subst hl;refine ⟨(cL.own bI (by decide) h).2,kP h,fun e=>by subst e;exact jE h,fun _ q hq hu=>?_⟩;have h1:=(b_ h q hq).1;have h2:=hU q hu;omega
theorem sk {w:World} {A:Option Addr} {c k:Nat} {ds:List Dc} (h:cL 2 dV w A ds) (hc:ds.length≤c) (hA:A=none→c=0) (hk:k≤ds.length):(0<ds.length-k→∃ b o,ib A c k 2=some ⟨b,o,none⟩∧w.rangeAt b o ((ds.drop k).flatMap dV))∧(ib A c k 2=none→c-k=0):=by
 refine ⟨fun h0=>?_,fun h0=>?_⟩
 ·obtain ⟨b,o,rfl,hr⟩:=h (by omega);rw [cw (by omega)];have h2:cL 2 dV w (some ⟨b,o+k*2,none⟩) (ds.drop k):=cL.drop (b:=b) (o:=o) h k hk;obtain ⟨b2,o2,e,hr2⟩:=h2.flat bI (by rw [List.length_drop];omega);cases e;exact ⟨_,_,rfl,hr2⟩
 ·cases A with
  |none=>have:=hA rfl;omega
  |some a=>
   unfold ib at h0;split at h0
   ·omega
   ·cases h0
theorem Gk {ds:List Dc} (hs:SD ds) {i:Nat} (hi:i<ds.length):(ds.take i).flatMap dV++(ds.drop (i+1)).flatMap dV=(eg ds ds[i].1).flatMap dV:=by rw [pB hs.dif hi,List.flatMap_append]
theorem IJ {ds:List Dc} (hs:SD ds) {i:Nat} (hi:i<ds.length):(eg ds ds[i].1).length=i+(ds.length-(i+1)):=by rw [pB hs.dif hi,List.length_append,List.length_take,List.length_drop];omega
theorem qT (A:Option Addr) (c n:Nat) (ds:List Dc) (w:World) (hr:cL 2 dV w A ds) (hn:n=ds.length) (hl:n≤100000000) (hs:SD ds) (id:ByteArray):Rt prog 33 [.slice A n c,.string id] w fun v w'=>((∃ i:Nat,v=.int .i64 (i:Nat)∧∃ hi:i<ds.length,ds[i].1=id)∨(v=.int .i64 (-1)∧¬ ∃ e∈ds,e.1=id))∧aj w w':=
 (xx A c n ds w hr hn hl id).mono fun v w' h=>by
  refine ⟨?_,h.2⟩;rw [h.1];by_cases hx:∃ e∈ds,e.1=id
  ·obtain ⟨e,he,rfl⟩:=hx;obtain ⟨i,hi,rfl⟩:=List.getElem_of_mem he;refine .inl ⟨i,?_,hi,rfl⟩;rw [Jk hi (by rw [bM hi]) fun k hk e=>?_];have h4:=iW.cmp hs hk hi;rw [e,bM hi] at h4;exact fF _ h4
  ·refine .inr ⟨?_,hx⟩;rw [Jj fun i hi e=>hx ⟨ds[i],List.getElem_mem hi,by rw [←e,bM hi]⟩]
theorem da (e:Int) (w:World) :
 Rt prog 15 [.int .i64 e] w (fun v w'=>v=.int .i64 e∧w=w'):=by
 refine enter (n:=4) Tryz.func15 rfl rfl rfl (ag (aa (asi rfl (ah (ab (ag (aa (mvi rfl (asi rfl (ah (ab (ay (bE (v:=.int _ _) rfl rfl (⟨rfl,rfl⟩))))))))))))))
theorem o9 (A:Option Addr) (c n:Nat) (ds:List Dc) (w:World) (hr:cL 2 dV w A ds) (hn:n=ds.length) (hl:n≤100000000) (q:ByteArray) (lim:Int) (hqs:q.size≤140737488351232) (hz:dsz ds≤100000000) :
 Rt prog 21 [.slice A n c,.string q,.int .i64 lim] w (fun v w'=>(∃ A' c',v=.tuple #[.slice A' (sH ds q lim).length c',.int .i64 (sN ds q lim:Nat),.int .i64 (ik q lim)]∧cL 2 hV w' A' (sH ds q lim))∧aj w w'):=by
 refine enter (n:=28) Tryz.func21 rfl rfl rfl (ag (aa (ass rfl (asi rfl (asi rfl (ah (ab (ag (aa (mvg rfl (mvi rfl (aA Dx (zo q lim _) ?_))))))))))));rintro v13 w1 ⟨rfl,E13⟩;refine asi rfl (ah (ab (ag (ag (aa (mvi rfl (ae (cq rfl rfl) (ah (ab (Lf rfl (fun Q2=>?_) (fun Q2=>?_)))))))))))
 ·have hak:ik q lim≠0:=by simpa using Q2
  refine ag (aa (mvi rfl (ass rfl (asi rfl (asi rfl (ah (ab (ay (aC (rh (v:=.slice _ _ _) (v':=.int _ _) (v'':=.int _ _) rfl rfl rfl rfl ?_))))))))));have e1:sH ds q lim=[]:=by unfold sH;rw [if_neg hak]
  have e2:sN ds q lim=0:=by unfold sN;rw [if_neg hak]
  rw [e1,e2];exact ⟨⟨none,0,rfl,cL.nil⟩,(aj.rfl_.next E13)⟩
 have hak:ik q lim=0:=by simpa using Q2
 obtain ⟨hpe,hp0,hl1,hl2⟩:=yv hak;obtain ⟨l,rfl⟩:∃ l:Nat,lim=(l:Int):=⟨lim.toNat,by omega⟩;have hsH:sH ds q l=(dg ds q).take l:=by unfold sH;rw [if_pos hak,Int.toNat_natCast]
 have hsN:sN ds q l=(dg ds q).length:=by unfold sN;rw [if_pos hak]
 refine au (ab (ag (aa (mvs rfl (mvg rfl (aA Dw (zn A c n ds _ (hr.from_ (aj.rfl_.next E13)) hn hl q hp0 hqs hz) ?_))))));rintro v19 w3 ⟨⟨A19,c19,rfl,ho19⟩,E19⟩;refine ass rfl (ah (ab (ag (aa (mvs rfl (mvs rfl (ae (aS gH rfl) (mvi rfl (ae (eR (v':=.int .i64 ((min (dg ds q).length l:Nat):Int)) (EN rfl rfl) (aM (by omega))) (ae (eR (v':=.slice A19 (min (dg ds q).length l) c19) (bu (l:=0) (h:=min (dg ds q).length l) gJ rfl (.inl ⟨rfl,rfl⟩) (.inr ⟨_,_,_,rfl,rfl,rfl⟩) (by omega) (by have:=kP ho19;omega)) (by rw [cP,Nat.sub_zero,Nat.sub_zero])) ?_))))))))));refine mvs rfl (ae (aS gH rfl) (ass rfl (asi rfl (asi rfl (ah (ab (ay (rh (v:=.slice _ _ _) (v':=.int _ _) (v'':=.int _ _) rfl rfl rfl rfl ?_))))))));have hlen:((dg ds q).take l).length=min (dg ds q).length l:=by rw [List.length_take,Nat.min_comm]
 rw [hsH,hsN,hak,hlen];exact ⟨⟨A19,c19,rfl,(cL.own eB (by decide) ho19).2.take l⟩,((aj.rfl_.next E13).next E19)⟩
theorem vp (U:Nat→Prop) (A:Option Addr) (c n:Nat) (ds:List Dc) (w:World) (hr:j6 w U A c ds) (hU:∀ q,U q→q<w.heap.size) (hn:n=ds.length) (hl:n≤100000000) (hs:SD ds) (id:ByteArray) (hd:id.size≤140737488351232) (ho:iW ds) :
 Rt prog 18 [.slice A n c,.string id] w (fun v w'=>(∃ A' c',v=.tuple #[.slice A' (eg ds id).length c',.int .i64 (yk ds id)]∧j6 w' U A' c' (eg ds id))∧aj w w'):=by
 subst hn;have hcap:=hr.cap;refine enter (n:=32) Tryz.func18 rfl rfl rfl (ag (aa (ass rfl (asi rfl (ah (ab (ag (ag (aa (mvg rfl (ae (gC rfl rfl) (mvb rfl (KK (t:=10) rfl (fun Q1=>?_) (fun Q1=>?_))))))))))))))
 ·refine aB rfl rfl (aB rfl rfl (aB rfl rfl (ae (bc (v:=.bool _) rfl rfl) (ah (ab (cB rfl (ag (aa (mvs rfl (ass rfl ?_))))))))));refine asi rfl (ah (ab (ay (aC (cY (v:=.slice _ _ _) (v':=.int _ _) rfl rfl rfl ?_)))));have hid:¬ (1≤id.size∧id.size≤64):=by first | omega | (have:=o5 (by assumption);omega)
  rw [zR hid,vQ ho hid];exact ⟨⟨A,c,rfl,hr.from_ aj.rfl_⟩,aj.rfl_⟩
 refine an rfl (mvg rfl (an rfl (ae (cJ (by kernel_rfl) rfl) (an rfl (ae (bU rfl rfl) (ae (aQ (v:=.bool _) rfl rfl) (ah (ab (Li rfl (fun Q2=>?_) (fun Q2=>?_))))))))))
 ·refine ag (aa (mvs rfl (ass rfl (asi rfl (ah (ab (ay (aC (cY (v:=.slice _ _ _) (v':=.int _ _) rfl rfl rfl ?_)))))))));have hid:¬ (1≤id.size∧id.size≤64):=by first | omega | (have:=o5 (by assumption);omega)
  rw [zR hid,vQ ho hid];exact ⟨⟨A,c,rfl,hr.from_ aj.rfl_⟩,aj.rfl_⟩
 have hid:1≤id.size∧id.size≤64:=by
  have h0:id.size≠0:=fun e=>absurd (xN e) (by assumption)
  omega
 refine au (ab (ag (aa (mvs rfl (mvg rfl (aA u5 (qT A c ds.length ds _ (hr.row.from_ aj.rfl_) rfl hl hs id) ?_))))));rintro v18 w3 ⟨hf18,E18⟩;rcases hf18 with ⟨i,rfl,hi,hie⟩ | ⟨rfl,hno⟩
 ·subst hie;have htl:=sk (k:=i+1) hr.row hr.cap hr.nil (by omega);refine asi rfl (ah (ab (ag (ag (aa (mvi rfl (ae (aX rfl rfl) (ah (ab (Li rfl (fun Q4=>?_) (fun Q4=>?_)))))))))))
  ·exfalso;omega
  refine au (ab (ag (aa (mvs rfl (mvi rfl (ae (eR (v':=.slice A i c) (bu (l:=0) (h:=i) aO rfl (.inl ⟨rfl,rfl⟩) (.inr ⟨_,_,_,rfl,rfl,rfl⟩) (by omega) (by omega)) (by rw [cP,Nat.sub_zero,Nat.sub_zero])) ?_))))));have hz25:=((aj.rfl_.next E18)).size;refine aA qK (nc A c i (ds.take i) _ ((hr.row.take i).from_ (aj.rfl_.next E18)) (by rw [List.length_take];omega) (by omega)) ?_;rintro v25 w5 ⟨⟨A25,c25,rfl,ho25⟩,E25⟩;refine ass rfl (ah (ab (ag (aa (mvs rfl (mvs rfl (mvi rfl (ae (aJ (b:=1) rfl rfl (by omega)) (ae (bu (l:=i+1) (h:=ds.length) aO rfl (.inr ⟨_,_,_,rfl,rfl,rfl⟩) (.inl ⟨rfl,rfl⟩) (by omega) (by omega)) ?_)))))))));refine cZ dr rfl (by decide) rfl (A:=A25) (xs:=List.flatMap dV (ds.take i)) (news:=List.flatMap dV (ds.drop (i+1))) (fu (ho25.kept_from aj.rfl_) hz25) (((aj.rfl_.next E18).next E25).size) rfl (by rw [dR bI,List.length_drop]) (fun h=>by obtain ⟨b,o,e1,e2⟩:=htl.1 (by first | exact h | (rw [dR bI,List.length_drop] at h;omega));exact ⟨b,o,e1,c0 ((aj.rfl_.next E18).next E25) e2⟩) htl.2 (nb _) (by omega) (by omega) ?_;intro A31 c31 w6 ho31 hg31;have HF31:=(((aj.rfl_.next E18).next E25)).grew hg31 (fun k hk=>Nat.le_trans hz25 (b_ ho25 k hk).1);refine ass rfl (asi rfl (ah (ab (ay (cY (v:=.slice _ _ _) (v':=.int _ _) rfl rfl rfl ?_)))));rw [vR hid ⟨_,List.getElem_mem hi,rfl⟩,IJ hs hi];rw [Gk hs hi] at ho31;exact ⟨⟨A31,c31,rfl,j6.own ho31 hU⟩,HF31⟩
 refine asi rfl (ah (ab (ag (ag (aa (mvi rfl (ae (aX rfl rfl) (ah (ab (Li rfl (fun Q7=>?_) (fun Q7=>?_)))))))))));rotate_left
 ·exfalso;omega
 refine ag (aa (mvs rfl (ass rfl (asi rfl (ah (ab (ay (aC (cY (v:=.slice _ _ _) (v':=.int _ _) rfl rfl rfl ?_)))))))));rw [Gl hid hno,yj hno];exact ⟨⟨A,c,rfl,hr.from_ (aj.rfl_.next E18)⟩,(aj.rfl_.next E18)⟩
theorem BH {ds:List Dc} {d:Dc} {i:Nat} (hs:SD ds) (hi:i≤ds.length) (h1:∀ x,x<i→sLt (SM.G Dz ds x).1 d.1) (h2:i<ds.length→¬ sLt (SM.G Dz ds i).1 d.1) (hn:¬ ∃ e∈ds,e.1=d.1):C5 ds d=ds.take i++d::ds.drop i:=
 rC (hs.ins hi h1 fun hlt=>⟨h2 hlt,fun e=>hn ⟨ds[i],List.getElem_mem hlt,by rw [←e,pK hlt]⟩⟩) mW
theorem CG (U:Nat→Prop) (A:Option Addr) (c n:Nat) (ds:List Dc) (w:World) (hr:j6 w U A c ds) (hU:∀ q,U q→q<w.heap.size) (hn:n=ds.length) (hl:n≤100000000) (hs:SD ds) (d:Dc) (hd1:d.1.size≤140737488351232) (hd2:d.2.size≤140737488351232) (hf:jJ ds) :
 Rt prog 26 [.slice A n c,.agg (dV d).toArray] w (fun v w'=>(∃ A' c',v=.tuple #[.slice A' (lq ds d).length c',.int .i64 (kN ds d)]∧j6 w' U A' c' (lq ds d))∧aj w w'):=by
 subst hn;have hcap:=hr.cap;have hf1:=hf.1;have hf3:=hf.2.2;refine enter (n:=70) Tryz.func26 rfl rfl rfl (ag (aa (cW (v:=.agg _) rfl ?_)));intro b3 w1 E3 hb3 hk3;refine ass rfl (asi rfl (ah (ab (ag (ag (aa (ae (ak aW rfl) (ae (aq bf rfl (by exact (hk3.from_ aj.rfl_).rd 0 rfl)) ?_))))))));refine ae (gC rfl rfl) (mvb rfl (KK (t:=11) rfl (fun Q2=>?_) (fun Q2=>?_)))
 ·refine aB rfl rfl (aB rfl rfl (aB rfl rfl (aB rfl rfl (ae (bc (v:=.bool _) rfl rfl) (ah (ab (cB rfl (ag (aa (mvs rfl ?_))))))))));refine ass rfl (asi rfl (ah (ab (ay (aC (cY (v:=.slice _ _ _) (v':=.int _ _) rfl rfl rfl ?_))))));have hid:¬ (1≤d.1.size∧d.1.size≤64):=by first | omega | (have:=o5 (by assumption);omega)
  rw [qG hid,g_ (by rw [qG hid];decide)];exact ⟨⟨A,c,rfl,hr.from_ (aj.rfl_.next E3)⟩,(aj.rfl_.next E3)⟩
 refine an rfl (ae (ak aW rfl) (an rfl (ae (aq bf rfl (by exact (hk3.from_ aj.rfl_).rd 0 rfl)) ?_)));refine an rfl (ae (cJ (by kernel_rfl) rfl) (an rfl (ae (bU rfl rfl) (ae (aQ (v:=.bool _) rfl rfl) (ah (ab (Li rfl (fun Q3=>?_) (fun Q3=>?_))))))))
 ·refine ag (aa (mvs rfl (ass rfl (asi rfl (ah (ab (ay (aC (cY (v:=.slice _ _ _) (v':=.int _ _) rfl rfl rfl ?_)))))))));have hid:¬ (1≤d.1.size∧d.1.size≤64):=by first | omega | (have:=o5 (by assumption);omega)
  rw [qG hid,g_ (by rw [qG hid];decide)];exact ⟨⟨A,c,rfl,hr.from_ (aj.rfl_.next E3)⟩,(aj.rfl_.next E3)⟩
 have hid:1≤d.1.size∧d.1.size≤64:=by
  have h0:d.1.size≠0:=fun e=>absurd (xN e) (by assumption)
  omega
 refine au (ab (ag (ag (aa (ae (ak cf rfl) (ae (aq bf rfl (by exact (hk3.from_ aj.rfl_).rd 1 rfl)) ?_))))));refine ae (cJ (by kernel_rfl) rfl) (ae (bU rfl rfl) (ah (ab (Li rfl (fun Q4=>?_) (fun Q4=>?_)))))
 ·refine ag (aa (mvs rfl (ass rfl (asi rfl (ah (ab (ay (aC (cY (v:=.slice _ _ _) (v':=.int _ _) rfl rfl rfl ?_)))))))));have he:=Ab (D:=ds) hid (by omega);rw [g_ (by rw [he];decide),he];exact ⟨⟨A,c,rfl,hr.from_ (aj.rfl_.next E3)⟩,(aj.rfl_.next E3)⟩
 refine au (ab (ag (ag (aa (mvs rfl (ae (ak aW rfl) (ae (aq bf rfl (by exact (hk3.from_ aj.rfl_).rd 0 rfl)) ?_)))))));refine aA u5 (qT A c ds.length ds _ (hr.row.from_ (aj.rfl_.next E3)) rfl hl hs d.1) ?_;rintro v26 w5 ⟨hf26,E26⟩;rcases hf26 with ⟨j,rfl,hj,hje⟩ | ⟨rfl,hno⟩
 ·refine ae (ek rfl rfl) (ah (ab (Li rfl (fun Q6=>?_) (fun Q6=>?_))));rotate_left
  ·exfalso;omega
  refine ag (aa (mvs rfl (ass rfl (asi rfl (ah (ab (ay (aC (cY (v:=.slice _ _ _) (v':=.int _ _) rfl rfl rfl ?_)))))))));have he:=tA hid (by omega) ⟨_,List.getElem_mem hj,hje⟩;rw [g_ (by rw [he];decide),he];exact ⟨⟨A,c,rfl,hr.from_ ((aj.rfl_.next E3).next E26)⟩,((aj.rfl_.next E3).next E26)⟩
 refine ae (ek rfl rfl) (ah (ab (Li rfl (fun Q105=>?_) (fun Q105=>?_))))
 ·exfalso;omega
 refine au (ab (ag (ag ?_)));have hsp:64≤ds.length∨(ds.length<64∧16384<dsz ds+d.2.size)∨(ds.length<64∧dsz ds+d.2.size≤16384):=by omega
 rcases hsp with hc1 | ⟨hc1,hc2⟩ | ⟨hc1,hc2⟩
 ·apply bH 12 [(29,eqp _),(30,eqp _),(31,eqp _),(32,eqp _),(33,eqp _),(34,eqp _),(35,eqp _),(36,eqp _),(37,eqp _),(38,eqp _),(39,eqp _),(40,eqp _)] (by repeat first | exact bT | refine bS ?_ | refine bG ?_) (by kernel_rfl) (by kernel_rfl) ⟨af _,af _,af _,af _,af _,af _,af _,af _,af _,af _,af _,af _,trivial⟩
  case hop=>
   constructor
   ·rintro-w107 D107;exact ai (ar (v:=.slice _ _ _) rfl) rfl
   constructor
   ·rintro-w108 D108;rintro _ rfl;exact ai (aS bx rfl) rfl
   constructor
   ·rintro-w109 D109;rintro _ rfl;exact ai (iw (ek rfl rfl) (decide_eq_true (by omega))) rfl
   constructor
   ·rintro-w110 D110;rintro _ rfl;exact ai (ar (v:=.bool _) rfl) rfl
   constructor
   ·rintro-w111 D111;rintro _ rfl;exact bj rfl rfl rfl
   constructor
   ·rintro-w112 D112;rintro _ rfl _ rfl;exact bj rfl rfl rfl
   constructor
   ·rintro-w113 D113;rintro _ rfl;exact bj rfl rfl rfl
   constructor
   ·rintro-w114 D114;rintro _ rfl _ rfl;exact bj rfl rfl rfl
   constructor
   ·rintro-w115 D115;rintro _ rfl _ rfl;exact bj rfl rfl rfl
   constructor
   ·rintro-w116 D116;rintro _ rfl _ rfl;exact bj rfl rfl rfl
   constructor
   ·rintro-w117 D117;rintro _ rfl _ rfl _ rfl;exact bj rfl rfl rfl
   constructor
   ·rintro-w118 D118;rintro _ rfl _ rfl;exact ai (bc (v:=.bool _) rfl rfl) rfl
   exact trivial
  case hend=>
   intro w119 D119;rintro _ rfl _ rfl _ rfl _ rfl _ rfl _ rfl _ rfl _ rfl _ rfl _ rfl _ rfl _ rfl;show St ..;refine ah (ab (cB rfl (ag (aa (mvs rfl (ass rfl (asi rfl (ah (ab (ay (aC (cY (v:=.slice _ _ _) (v':=.int _ _) rfl rfl rfl ?_))))))))))));have he:=qF hid (by omega) hno (by omega);rw [g_ (by rw [he];decide),he];exact ⟨⟨A,c,rfl,hr.from_ (((aj.rfl_.next E3).next E26).next D119)⟩,(((aj.rfl_.next E3).next E26).next D119)⟩
 ·apply bH 12 [(29,eqp _),(30,eqp _),(31,eqp _),(32,eqp _),(33,eqp _),(34,eqp (.int .i64 ((dsz ds:Nat):Int))),(35,eqp _),(36,eqp (.string d.2)),(37,eqp _),(38,eqp _),(39,eqp _),(40,eqp _)] (by repeat first | exact bT | refine bS ?_ | refine bG ?_) (by kernel_rfl) (by kernel_rfl) ⟨af _,af _,af _,af _,af _,af _,af _,af _,af _,af _,af _,af _,trivial⟩
  case hop=>
   constructor
   ·rintro-w121 D121;exact ai (ar (v:=.slice _ _ _) rfl) rfl
   constructor
   ·rintro-w122 D122;rintro _ rfl;exact ai (aS bx rfl) rfl
   constructor
   ·rintro-w123 D123;rintro _ rfl;exact ai (cG (ek rfl rfl) (decide_eq_false (by omega))) rfl
   constructor
   ·rintro-w124 D124;rintro _ rfl;exact ai (ar (v:=.bool _) rfl) rfl
   constructor
   ·rintro-w125 D125;rintro _ rfl;exact aI rfl (ar (v:=.slice _ _ _) rfl) rfl
   constructor
   ·rintro-w126 D126;rintro _ rfl _ rfl;refine mS rfl oT ((oi A c ds.length ds _ (hr.row.from_ (((aj.rfl_.next E3).next E26).next D126)) rfl hl (by omega)).mono ?_);rintro _ w2 ⟨rfl,hE⟩;exact ⟨hE,rfl⟩
   constructor
   ·rintro-w127 D127;rintro _ rfl;exact aI rfl (ak cf rfl) rfl
   constructor
   ·rintro-w128 D128;rintro _ rfl _ rfl;exact aI rfl (aq (v:=.string d.2) bf rfl ((hk3.from_ (((aj.rfl_.next E26).next D128))).rd 1 rfl)) rfl
   constructor
   ·rintro-w129 D129;rintro _ rfl v129_36 rfl;exact aI rfl (cJ (by kernel_rfl) rfl) rfl
   constructor
   ·rintro-w130 D130;rintro _ rfl _ rfl;exact aI rfl (eQ rfl rfl (by omega)) rfl
   constructor
   ·rintro-w131 D131;rintro _ rfl v131_34 rfl _ rfl;exact aI rfl (iw (bU rfl rfl) (decide_eq_true (by omega))) rfl
   constructor
   ·rintro-w132 D132;rintro _ rfl _ rfl;exact ai (aQ (v:=.bool _) rfl rfl) rfl
   exact trivial
  case hend=>
   intro w133 D133;rintro _ rfl _ rfl _ rfl _ rfl _ rfl v34 rfl _ rfl v36 rfl _ rfl _ rfl _ rfl _ rfl;show St ..;refine ah (ab (cB rfl (ag (aa (mvs rfl (ass rfl (asi rfl (ah (ab (ay (aC (cY (v:=.slice _ _ _) (v':=.int _ _) rfl rfl rfl ?_))))))))))));have he:=qF hid (by omega) hno (by omega);rw [g_ (by rw [he];decide),he];exact ⟨⟨A,c,rfl,hr.from_ (((aj.rfl_.next E3).next E26).next D133)⟩,(((aj.rfl_.next E3).next E26).next D133)⟩
 apply bH 12 [(29,eqp _),(30,eqp _),(31,eqp _),(32,eqp _),(33,eqp _),(34,eqp (.int .i64 ((dsz ds:Nat):Int))),(35,eqp _),(36,eqp (.string d.2)),(37,eqp _),(38,eqp _),(39,eqp _),(40,eqp _)] (by repeat first | exact bT | refine bS ?_ | refine bG ?_) (by kernel_rfl) (by kernel_rfl) ⟨af _,af _,af _,af _,af _,af _,af _,af _,af _,af _,af _,af _,trivial⟩
 case hop=>
  constructor
  ·rintro-w135 D135;exact ai (ar (v:=.slice _ _ _) rfl) rfl
  constructor
  ·rintro-w136 D136;rintro _ rfl;exact ai (aS bx rfl) rfl
  constructor
  ·rintro-w137 D137;rintro _ rfl;exact ai (cG (ek rfl rfl) (decide_eq_false (by omega))) rfl
  constructor
  ·rintro-w138 D138;rintro _ rfl;exact ai (ar (v:=.bool _) rfl) rfl
  constructor
  ·rintro-w139 D139;rintro _ rfl;exact aI rfl (ar (v:=.slice _ _ _) rfl) rfl
  constructor
  ·rintro-w140 D140;rintro _ rfl _ rfl;refine mS rfl oT ((oi A c ds.length ds _ (hr.row.from_ (((aj.rfl_.next E3).next E26).next D140)) rfl hl (by omega)).mono ?_);rintro _ w2 ⟨rfl,hE⟩;exact ⟨hE,rfl⟩
  constructor
  ·rintro-w141 D141;rintro _ rfl;exact aI rfl (ak cf rfl) rfl
  constructor
  ·rintro-w142 D142;rintro _ rfl _ rfl;exact aI rfl (aq (v:=.string d.2) bf rfl ((hk3.from_ (((aj.rfl_.next E26).next D142))).rd 1 rfl)) rfl
  constructor
  ·rintro-w143 D143;rintro _ rfl v143_36 rfl;exact aI rfl (cJ (by kernel_rfl) rfl) rfl
  constructor
  ·rintro-w144 D144;rintro _ rfl _ rfl;exact aI rfl (eQ rfl rfl (by omega)) rfl
  constructor
  ·rintro-w145 D145;rintro _ rfl v145_34 rfl _ rfl;exact aI rfl (cG (bU rfl rfl) (decide_eq_false (by omega))) rfl
  constructor
  ·rintro-w146 D146;rintro _ rfl _ rfl;exact ai (aQ (v:=.bool _) rfl rfl) rfl
  exact trivial
 case hend=>
  intro w147 D147;rintro _ rfl _ rfl _ rfl _ rfl _ rfl v34 rfl _ rfl v36 rfl _ rfl _ rfl _ rfl _ rfl;show St ..;refine ah (ab (cm rfl (au (ab (ag (aa (asi rfl (ah (ab (ag (az (bg (G:=Nat) [42,43,44,45,46,47,48,49,50,51,52,53,54,55,56,57] (fun i=>[(6,.int .i64 (i:Nat))]) (fun i w'=>i≤ds.length∧(∀ x,x<i→sLt (SM.G Dz ds x).1 d.1)∧Blk w' b3 37 (dV d).toArray∧aj w w') (fun i=>ds.length-i) (0) ⟨rfl,trivial⟩ ?_ ?_))))))))))))
  ·exact ⟨Nat.zero_le _,fun x h=>absurd h (by omega),hk3.from_ ((aj.rfl_.next E26).next D147),(((aj.rfl_.next E3).next E26).next D147)⟩
  rintro i ρ148 w148 ⟨hi,hlo,hP,hB⟩;refine ag (ag ?_);have hsp:ds.length≤i∨i<ds.length:=by omega
  rcases hsp with hc3 | hc3
  ·apply bH 14 [(42,eqp _),(43,eqp _),(44,eqp _),(45,eqp _),(46,eqp _),(47,eqp _),(48,eqp _),(49,eqp _),(50,eqp _),(51,eqp _),(52,eqp _),(53,eqp _),(54,eqp _),(55,eqp _)] (by repeat first | exact bT | refine bS ?_ | refine bG ?_) (by kernel_rfl) (by kernel_rfl) ⟨af _,af _,af _,af _,af _,af _,af _,af _,af _,af _,af _,af _,af _,af _,trivial⟩
   case hop=>
    constructor
    ·rintro-w150 D150;exact ai (ar (v:=.int _ _) rfl) rfl
    constructor
    ·rintro-w151 D151;exact ai (ar (v:=.slice _ _ _) rfl) rfl
    constructor
    ·rintro-w152 D152;rintro _ rfl;exact ai (aS bx rfl) rfl
    constructor
    ·rintro-w153 D153;rintro _ rfl _ rfl;exact ai (cG (aX rfl rfl) (decide_eq_false (by omega))) rfl
    constructor
    ·rintro-w154 D154;rintro _ rfl;exact ai (ar (v:=.bool _) rfl) rfl
    constructor
    ·rintro-w155 D155;rintro _ rfl;exact bj rfl rfl rfl
    constructor
    ·rintro-w156 D156;rintro _ rfl;exact bj rfl rfl rfl
    constructor
    ·rintro-w157 D157;rintro _ rfl _ rfl _ rfl;exact bj rfl rfl rfl
    constructor
    ·rintro-w158 D158;rintro _ rfl _ rfl;exact bj rfl rfl rfl
    constructor
    ·rintro-w159 D159;rintro _ rfl _ rfl;exact bj rfl rfl rfl
    constructor
    ·rintro-w160 D160;rintro _ rfl;exact bj rfl rfl rfl
    constructor
    ·rintro-w161 D161;rintro _ rfl _ rfl;exact bj rfl rfl rfl
    constructor
    ·rintro-w162 D162;rintro _ rfl _ rfl _ rfl;exact bj rfl rfl rfl
    constructor
    ·rintro-w163 D163;rintro _ rfl _ rfl;exact ai (aQ (v:=.bool _) rfl rfl) rfl
    exact trivial
   case hend=>
    intro w164 D164;rintro _ rfl _ rfl _ rfl _ rfl _ rfl _ rfl _ rfl _ rfl _ rfl _ rfl _ rfl _ rfl _ rfl _ rfl;show St ..;have hF12:=(hB.next D164);have hz12:=hF12.size;have hP12:=hP.from_ ((aj.rfl_.next D164));have htl:=sk (k:=i) hr.row hr.cap hr.nil hi;have hge:i<ds.length→¬ sLt (SM.G Dz ds i).1 d.1:=fun h=>absurd h (by omega)
    refine ah (ab (cm rfl (aZ (aD (aD (aU (ab (ag ?_))))))));apply qE 7 6 [61,63] [(58,eqp _),(59,eqp _),(60,eqp _),(61,fun v w'=>∃ A2 c2,v=.slice A2 i c2∧w'.ownsRow (w164).heap.size 37 2 (.slice A2 i c2) i ((ds.take i).flatMap dV)),(62,eqp (.agg (dV d).toArray)),(63,fun v w'=>∃ q,v=.slice (some ⟨q,0,none⟩) 1 1∧Blk w' q 37 (dV d).toArray),(64,fun v w'=>∃ A2 c2,v=.slice A2 (i+1) c2∧w'.ownsRow (w164).heap.size 37 2 (.slice A2 (i+1) c2) (i+1) ((ds.take i).flatMap dV++dV d))] (fun w'=>aj w164 w') (fun w'=>aj w164 w') (by repeat first | exact bT | refine bS ?_ | refine bG ?_) (by kernel_rfl) (by kernel_rfl) (by kernel_rfl) ⟨af _,af _,af _,(fun _ _ _ hF ⟨A2,c2,h1,h2⟩=>⟨A2,c2,h1,h2.kept_from hF⟩),af _,(fun _ _ _ hF ⟨q,h1,h2⟩=>⟨q,h1,h2.from_ hF⟩),(fun _ _ _ hF ⟨A2,c2,h1,h2⟩=>⟨A2,c2,h1,h2.kept_from hF⟩),trivial⟩ (aj.rfl_.d1) (aj.rfl_.d1) (fun _ _ hF h=>h.next hF) (fun _ _ hF h=>h.next hF)
    case hop=>
     constructor
     ·rintro-w166 D166;exact ai (ar (v:=.slice _ _ _) rfl) rfl
     constructor
     ·rintro-w167 D167;exact ai (ar (v:=.int _ _) rfl) rfl
     constructor
     ·rintro-w168 D168;rintro _ rfl _ rfl
      first
       |exact ai (eR (v':=.slice A i c) (bu (l:=0) (h:=i) aO rfl (.inl ⟨rfl,rfl⟩) (.inr ⟨_,_,_,rfl,rfl,rfl⟩) (by omega) (by omega)) (by rw [cP,Nat.sub_zero,Nat.sub_zero])) rfl
       |exact ai (eR (v':=.slice (some ⟨bd,od,none⟩) i c) (bu (l:=0) (h:=i) aO rfl (.inl ⟨rfl,rfl⟩) (.inr ⟨_,_,_,rfl,rfl,rfl⟩) (by omega) (by omega)) (by rw [cP,Nat.sub_zero,Nat.sub_zero])) rfl
     constructor
     ·rintro-w169 D169;rintro _ rfl;refine dP qK ((nc _ c i (ds.take i) _ ((hr.row.take i).from_ (hF12.next D169)) (by rw [List.length_take];omega) (by omega)).mono ?_);rintro v w2 ⟨⟨A2,c2,rfl,ho2⟩,hE⟩;exact ⟨hE,A2,c2,rfl,fu ho2 D169.size⟩
     constructor
     ·rintro-w170 D170;exact ai (bw (cs:=dV d) bO bq rfl ((hP12.from_ D170).whole)) rfl
     constructor
     ·rintro-w171 D171;rintro v171_62 rfl;exact d_ (sr dr rfl rfl rfl) (aj.rfl_.new _) ⟨_,rfl,Blk.new _ _ _⟩
     constructor
     ·intro h;cases h
     exact trivial
    case hmu=>
     rintro w173 D173;rintro v173_61 ⟨A61_173,c61_173,rfl,ho61_173⟩ v173_63 ⟨q173,rfl,hq173⟩;show mJ ..;refine kh dr rfl (by decide) rfl ho61_173 D173.size rfl rfl ⟨_,_,rfl,hq173.whole⟩ (by simp [dV,Value.oneCell']) (by omega) (by omega) ?_;intro A3 c3 w3 ho3 hg3;exact ⟨D173.grew hg3 (fun k hk=>(b_ ho61_173 k hk).1),⟨A3,c3,rfl,ho3⟩,fun t u ht h=>gT (by repeat first | exact trivial | refine ⟨.inl rfl,?_⟩ | refine ⟨.inr (fun _ h=>h),?_⟩) t u ht h⟩
    case hend=>
     rintro w174 D174;rintro _ rfl _ rfl _ rfl v61 _ v62 rfl v63 _ v64 ⟨A64,c64,rfl,ho64⟩;show St ..;refine ass rfl (ah (ab (ag (aa (mvs rfl (mvs rfl (mvi rfl (ae (bu (l:=i) (h:=ds.length) aO rfl (.inr ⟨_,_,_,rfl,rfl,rfl⟩) (.inl ⟨rfl,rfl⟩) (by omega) (by omega)) ?_))))))));refine cZ dr rfl (by decide) rfl (A:=A64) (xs:=List.flatMap dV (ds.take i)++dV d) (news:=List.flatMap dV (ds.drop i)) (fu (ho64.kept_from aj.rfl_) hz12) (((hB.next D164).next D174).size) rfl (by rw [dR bI,List.length_drop]) (fun h=>by obtain ⟨b,o,e1,e2⟩:=htl.1 (by first | exact h | (rw [dR bI,List.length_drop] at h;omega));exact ⟨b,o,e1,c0 ((hB.next D164).next D174) e2⟩) htl.2 (nb _) (by omega) (by omega) ?_;intro A69 c69 w175 ho69 hg69;have HF69:=(((hB.next D164).next D174)).grew hg69 (fun k hk=>Nat.le_trans hz12 (b_ ho64 k hk).1);refine ass rfl (asi rfl (ah (ab (ay (cY (v:=.slice _ _ _) (v':=.int _ _) rfl rfl rfl ?_)))));have he:=wj hid (by omega) hno (by omega);have hie:=BH hs hi hlo hge hno;have hln:(C5 ds d).length=i+1+(ds.length-i):=by rw [hie,nI];omega
     rw [rU he,he,hln];refine ⟨⟨A69,c69,rfl,j6.own (n:=i+1+(ds.length-i)) ?_ hU⟩,HF69⟩;rw [hie,List.flatMap_append,List.flatMap_cons,←List.append_assoc];exact ho69
  obtain ⟨bd,od,rfl,hcd⟩:=hr.row (by omega);have hil:i<ds.length:=hc3;have hce:=hcd i hil;rw [←pK hil] at hce;apply bH 14 [(42,eqp _),(43,eqp _),(44,eqp _),(45,eqp _),(46,eqp _),(47,eqp _),(48,eqp _),(49,eqp _),(50,eqp _),(51,eqp (.string (SM.G Dz ds i).1)),(52,eqp _),(53,eqp (.string d.1)),(54,eqp _),(55,eqp _)] (by repeat first | exact bT | refine bS ?_ | refine bG ?_) (by kernel_rfl) (by kernel_rfl) ⟨af _,af _,af _,af _,af _,af _,af _,af _,af _,af _,af _,af _,af _,af _,trivial⟩
  case hop=>
   constructor
   ·rintro-w177 D177;exact ai (ar (v:=.int _ _) rfl) rfl
   constructor
   ·rintro-w178 D178;exact ai (ar (v:=.slice _ _ _) rfl) rfl
   constructor
   ·rintro-w179 D179;rintro _ rfl;exact ai (aS bx rfl) rfl
   constructor
   ·rintro-w180 D180;rintro _ rfl _ rfl;exact ai (iw (aX rfl rfl) (decide_eq_true (by omega))) rfl
   constructor
   ·rintro-w181 D181;rintro _ rfl;exact ai (ar (v:=.bool _) rfl) rfl
   constructor
   ·rintro-w182 D182;rintro _ rfl;exact aI rfl (ar (v:=.slice _ _ _) rfl) rfl
   constructor
   ·rintro-w183 D183;rintro _ rfl;exact aI rfl (ar (v:=.int _ _) rfl) rfl
   constructor
   ·rintro-w184 D184;rintro _ rfl _ rfl _ rfl;exact aI rfl (aG aO rfl rfl (by omega)) rfl
   constructor
   ·rintro-w185 D185;rintro _ rfl _ rfl;exact aI rfl (ak aW rfl) rfl
   constructor
   ·rintro-w186 D186;rintro _ rfl _ rfl;exact aI rfl (aq (v:=.string (SM.G Dz ds i).1) bf rfl (br (hB.next D186) (hce 0 _ rfl))) rfl
   constructor
   ·rintro-w187 D187;rintro _ rfl;exact aI rfl (ak aW rfl) rfl
   constructor
   ·rintro-w188 D188;rintro _ rfl _ rfl;exact aI rfl (aq (v:=.string d.1) bf rfl ((hP.from_ ((aj.rfl_.next D188))).rd 0 rfl)) rfl
   constructor
   ·rintro-w189 D189;rintro _ rfl v189_51 rfl v189_53 rfl;exact aI rfl (Bl rfl rfl) rfl
   constructor
   ·rintro-w190 D190;rintro _ rfl _ rfl;exact ai (bc (v:=.bool _) rfl rfl) rfl
   exact trivial
  case hend=>
   intro w191 D191;rintro _ rfl _ rfl _ rfl _ rfl _ rfl _ rfl _ rfl _ rfl _ rfl v51 rfl _ rfl v53 rfl _ rfl _ rfl;show St ..;have hF12:=(hB.next D191);have hz12:=hF12.size;have hP12:=hP.from_ ((aj.rfl_.next D191));have htl:=sk (k:=i) hr.row hr.cap hr.nil hi;refine ah (ab (av rfl (fun Q192=>?_) (fun Q192=>?_)))
   ·have hlt:sLt (SM.G Dz ds i).1 d.1:=(jx _ _).1 Q192;refine au (ab (az (aa (mvi rfl (ae (aJ (b:=1) rfl rfl (by omega)) (asi rfl (ah (aN ?_))))))));refine aR (i+1) ⟨(by first | rfl | (refine aM ?_;omega)),trivial⟩ (by (iterate 34 refine aF rfl ?_);exact aK) ⟨?_,?_⟩
    ·exact ⟨by omega,fun x hx=>by
      rcases Nat.eq_or_lt_of_le (Nat.le_of_lt_succ hx) with e | e
      ·subst e;exact hlt
      ·exact hlo x e,hP.from_ (aj.rfl_.next D191),(hB.next D191)⟩
    ·show ds.length-(i+1)<ds.length-i;omega
   have hge:i<ds.length→¬ sLt (SM.G Dz ds i).1 d.1:=fun _ h9=>by
    have h8:=(jx _ _).2 h9
    simp_all
   refine aZ (aD (aD (aU (ab (ag ?_)))));apply qE 7 6 [61,63] [(58,eqp _),(59,eqp _),(60,eqp _),(61,fun v w'=>∃ A2 c2,v=.slice A2 i c2∧w'.ownsRow (w191).heap.size 37 2 (.slice A2 i c2) i ((ds.take i).flatMap dV)),(62,eqp (.agg (dV d).toArray)),(63,fun v w'=>∃ q,v=.slice (some ⟨q,0,none⟩) 1 1∧Blk w' q 37 (dV d).toArray),(64,fun v w'=>∃ A2 c2,v=.slice A2 (i+1) c2∧w'.ownsRow (w191).heap.size 37 2 (.slice A2 (i+1) c2) (i+1) ((ds.take i).flatMap dV++dV d))] (fun w'=>aj w191 w') (fun w'=>aj w191 w') (by repeat first | exact bT | refine bS ?_ | refine bG ?_) (by kernel_rfl) (by kernel_rfl) (by kernel_rfl) ⟨af _,af _,af _,(fun _ _ _ hF ⟨A2,c2,h1,h2⟩=>⟨A2,c2,h1,h2.kept_from hF⟩),af _,(fun _ _ _ hF ⟨q,h1,h2⟩=>⟨q,h1,h2.from_ hF⟩),(fun _ _ _ hF ⟨A2,c2,h1,h2⟩=>⟨A2,c2,h1,h2.kept_from hF⟩),trivial⟩ (aj.rfl_.d1) (aj.rfl_.d1) (fun _ _ hF h=>h.next hF) (fun _ _ hF h=>h.next hF)
   case hop=>
    constructor
    ·rintro-w194 D194;exact ai (ar (v:=.slice _ _ _) rfl) rfl
    constructor
    ·rintro-w195 D195;exact ai (ar (v:=.int _ _) rfl) rfl
    constructor
    ·rintro-w196 D196;rintro _ rfl _ rfl
     first
      |exact ai (eR (v':=.slice A i c) (bu (l:=0) (h:=i) aO rfl (.inl ⟨rfl,rfl⟩) (.inr ⟨_,_,_,rfl,rfl,rfl⟩) (by omega) (by omega)) (by rw [cP,Nat.sub_zero,Nat.sub_zero])) rfl
      |exact ai (eR (v':=.slice (some ⟨bd,od,none⟩) i c) (bu (l:=0) (h:=i) aO rfl (.inl ⟨rfl,rfl⟩) (.inr ⟨_,_,_,rfl,rfl,rfl⟩) (by omega) (by omega)) (by rw [cP,Nat.sub_zero,Nat.sub_zero])) rfl
    constructor
    ·rintro-w197 D197;rintro _ rfl;refine dP qK ((nc _ c i (ds.take i) _ ((hr.row.take i).from_ (hF12.next D197)) (by rw [List.length_take];omega) (by omega)).mono ?_);rintro v w2 ⟨⟨A2,c2,rfl,ho2⟩,hE⟩;exact ⟨hE,A2,c2,rfl,fu ho2 D197.size⟩
    constructor
    ·rintro-w198 D198;exact ai (bw (cs:=dV d) bO bq rfl ((hP12.from_ D198).whole)) rfl
    constructor
    ·rintro-w199 D199;rintro v199_62 rfl;exact d_ (sr dr rfl rfl rfl) (aj.rfl_.new _) ⟨_,rfl,Blk.new _ _ _⟩
    constructor
    ·intro h;cases h
    exact trivial
   case hmu=>
    rintro w201 D201;rintro v201_61 ⟨A61_201,c61_201,rfl,ho61_201⟩ v201_63 ⟨q201,rfl,hq201⟩;show mJ ..;refine kh dr rfl (by decide) rfl ho61_201 D201.size rfl rfl ⟨_,_,rfl,hq201.whole⟩ (by simp [dV,Value.oneCell']) (by omega) (by omega) ?_;intro A3 c3 w3 ho3 hg3;exact ⟨D201.grew hg3 (fun k hk=>(b_ ho61_201 k hk).1),⟨A3,c3,rfl,ho3⟩,fun t u ht h=>gT (by repeat first | exact trivial | refine ⟨.inl rfl,?_⟩ | refine ⟨.inr (fun _ h=>h),?_⟩) t u ht h⟩
   case hend=>
    rintro w202 D202;rintro _ rfl _ rfl _ rfl v61 _ v62 rfl v63 _ v64 ⟨A64,c64,rfl,ho64⟩;show St ..;refine ass rfl (ah (ab (ag (aa (mvs rfl (mvs rfl (mvi rfl (ae (bu (l:=i) (h:=ds.length) aO rfl (.inr ⟨_,_,_,rfl,rfl,rfl⟩) (.inl ⟨rfl,rfl⟩) (by omega) (by omega)) ?_))))))));refine cZ dr rfl (by decide) rfl (A:=A64) (xs:=List.flatMap dV (ds.take i)++dV d) (news:=List.flatMap dV (ds.drop i)) (fu (ho64.kept_from aj.rfl_) hz12) (((hB.next D191).next D202).size) rfl (by rw [dR bI,List.length_drop]) (fun h=>by obtain ⟨b,o,e1,e2⟩:=htl.1 (by first | exact h | (rw [dR bI,List.length_drop] at h;omega));exact ⟨b,o,e1,c0 ((hB.next D191).next D202) e2⟩) htl.2 (nb _) (by omega) (by omega) ?_;intro A69 c69 w203 ho69 hg69;have HF69:=(((hB.next D191).next D202)).grew hg69 (fun k hk=>Nat.le_trans hz12 (b_ ho64 k hk).1);refine ass rfl (asi rfl (ah (ab (ay (cY (v:=.slice _ _ _) (v':=.int _ _) rfl rfl rfl ?_)))));have he:=wj hid (by omega) hno (by omega);have hie:=BH hs hi hlo hge hno;have hln:(C5 ds d).length=i+1+(ds.length-i):=by rw [hie,nI];omega
    rw [rU he,he,hln];refine ⟨⟨A69,c69,rfl,j6.own (n:=i+1+(ds.length-i)) ?_ hU⟩,HF69⟩;rw [hie,List.flatMap_append,List.flatMap_cons,←List.append_assoc];exact ho69
end Go.Proofs.YtcbakncjacnnjaaGreat
namespace Go.Proofs.YtcbakncjacnnjaaGreat
open Go.Proofs.Tryz (prog)
open Go.RowKit
open Go.ChangeShapes Go.WideShapes Go.ChangeAt
section
variable {cur xs vs zs:List Value} {i n c:Nat}
theorem xJ {cs vs:List Value} {o:Nat} (h:o≤cs.length):(dG cs o vs).take (o+vs.length)=cs.take o++vs:=by
 unfold dG;rw [List.take_append_of_le_length (by rw [List.length_append,List.length_take];omega),List.take_of_length_le (by rw [List.length_append,List.length_take];omega)]
theorem CM {cs vs:List Value} {o k:Nat} (h:o+vs.length≤k) (hl:o≤cs.length):(dG cs o vs).drop k=cs.drop k:=by
 unfold dG;rw [List.drop_append,List.drop_eq_nil_of_le (by rw [List.length_append,List.length_take];omega),List.nil_append,List.length_append,List.length_take,Nat.min_eq_left hl,List.drop_drop]
 congr 1
 omega
theorem Bo (hct:cur.take (n*2)=xs) (hcl:cur.length=c*2) (hnc:n≤c) (hi:i+4≤n) (hv:vs.length=2):(dG cur (i*2) vs).take ((i+1)*2)=xs.take (i*2)++vs:=by
 have e:(i+1)*2=i*2+vs.length:=by omega
 rw [e,xJ (by omega),←hct,List.take_take,Nat.min_eq_left (by omega)]
theorem HC (hct:cur.take (n*2)=xs) (hcl:cur.length=c*2) (hnc:n≤c) (hi:i+4≤n) (hv:vs.length=2):(dG cur (i*2) vs).take (n*2)=dG xs (i*2) vs:=by
 rw [qk _ _ _ _ (by omega) (by omega),hct]
theorem HD (hct:cur.take (n*2)=xs) (hcl:cur.length=c*2) (hnc:n≤c) (hi:i+4≤n) (hv:vs.length=2):(dG (dG (dG cur (i*2) vs) ((i+1)*2) (xs.drop ((i+4)*2))) ((i+1+(n-(i+4)))*2) zs).take ((i+1+(n-(i+4)))*2)=xs.take (i*2)++vs++xs.drop ((i+4)*2):=by
 have hxl:xs.length=n*2:=by rw [←hct,List.length_take];omega
 have h1:(dG cur (i*2) vs).length=cur.length:=bJ _ _ _ (by omega);have hd:(xs.drop ((i+4)*2)).length=(n-(i+4))*2:=by rw [List.length_drop];omega
 have h2:(dG (dG cur (i*2) vs) ((i+1)*2) (xs.drop ((i+4)*2))).length=cur.length:=by rw [bJ _ _ _ (by omega),h1]
 rw [iI _ _ _ _ (Nat.le_refl _) (by omega)];have e:(i+1+(n-(i+4)))*2=(i+1)*2+(xs.drop ((i+4)*2)).length:=by omega
 rw [e,xJ (by omega),Bo hct hcl hnc hi hv]
end
theorem H9 {P:Program} {ops:Array Oper} {n:Fr} {L:List (Nat×Value)} {w:World} {ty:TypeId} {pos:String} {after:Array Edge} {dst:Option Nat} {post:Value→World→Prop} {d s:Operand} {dT sT e size g o m c j c2:Nat} {A A2:Option Addr} {u:TypeId} {cur news:List Value} (ht:dh P dT=some (e,size)) (hd:ev n L d=.slice A m c) (hs:ev n L s=.slice A2 j c2) (hn:news.length=min j m*size)
 (hA:0<news.length→A=some ⟨g,o,none⟩) (hsrc:0<news.length→∃ b o,A2=some ⟨b,o,none⟩∧w.rangeAt b o news) (hb:Blk w g u cur.toArray) (hfit:o+news.length≤cur.length) (h1:∀ v∈news,v.oneCell'=true)
 (k:∀ w',de g w w'→Blk w' g u (dG cur o news).toArray→post (.int .i64 (min j m:Nat)) w'):mJ P ops n L ⟨dst,.call { callee:=.builtin .copy,args:=#[d,s],argTypes:=#[dT,sT] },ty,pos,after,none⟩ w post:=
 let ⟨w',hR,hO,hB⟩:=sv (sT:=sT) ht hd hs hn hA hsrc hb hfit h1
 I_ hR (k w' hO hB)
theorem qS (base:Nat) (A:Option Addr) (c n i b vc:Nat) (xs vs:List Value) (tv:TypeId) (csv:Array Value) (w:World) (ho:w.ownsRow base 66 2 (.slice A n c) n xs) (hi:i+4≤n) (hvl:vs.length=2) (hvr:w.rangeAt b 0 vs) (_:Blk w b tv csv) (hne:∀ k,A.map (·.block)=some k→k≠b) (h1:∀ u∈xs,u.oneCell'=true) (h1v:∀ u∈vs,u.oneCell'=true) (hl:n≤100000000) :
 Rt prog 54 [.slice A n c,.int .i64 (i:Nat),.int .i64 ((i+4:Nat):Int),.slice (some ⟨b,0,none⟩) 1 vc] w (fun v w'=>(∃ A' c',v=.slice A' (n-3) c'∧w'.ownsRow base 66 2 (.slice A' (n-3) c') (n-3) (xs.take (i*2)++vs++xs.drop ((i+4)*2))∧∀ q,A'.map (·.block)=some q→A.map (·.block)=some q)∧w.grownBy w' (A.map (·.block))):=by
 obtain ⟨g,cur,rfl,hg,hbk,hnc,hcm,hcl,hct⟩:=fH ho (by omega);have hxl:xs.length=n*2:=ho.1;have hgb:g≠b:=hne g rfl;have hdl:(xs.drop ((i+4)*2)).length=(n-(i+4))*2:=by rw [List.length_drop,hxl];omega
 have hbz:w.grownBy w (some g):=World.grownBy.refl _ _;refine enter (n:=224) Tryz.func54 rfl rfl rfl (ag (aa (ass rfl (ah (ab (ag (aa (mvs rfl (mvi rfl (mvi rfl (ae (bu (l:=i) (h:=i+4) cN rfl (.inr ⟨_,_,_,rfl,rfl,rfl⟩) (.inr ⟨_,_,_,rfl,rfl,rfl⟩) (by omega) (by omega)) (ah (ab (ag (ag (aa ?_))))))))))))))));refine mvi rfl (mvi rfl (ae (cG (cF rfl rfl) (by rw [beq_eq_false_iff_ne];omega)) ?_));refine ah (ab (cm rfl (au (ab (ag (ag (aa (mvi rfl (mvs rfl (ae (aS dt rfl) (ae (cF rfl rfl) (ah (ab (Li rfl (fun Q1=>?_) (fun Q1=>?_)))))))))))))))
 ·refine ag (aa (mvs rfl (mvi rfl (ae (eR (v':=.slice (some ⟨g,0,none⟩) i c) (bu (l:=0) (h:=i) cN rfl (.inl ⟨rfl,rfl⟩) (.inr ⟨_,_,_,rfl,rfl,rfl⟩) (by omega) (by omega)) (by rw [cP,Nat.sub_zero,Nat.sub_zero])) ?_))));refine mvs rfl (oc (news:=vs) (cur:=cur) cN rfl rfl (by rw [hvl]) (fun h=>⟨b,0,rfl,hvr⟩) hbk h1v (by omega) (by omega) ?_);intro w2 O34 P34;refine ass rfl (ah (ab (ag (ag (aa (mvs rfl (ae (aS dt rfl) (mvs rfl (ae (aS dt rfl) (ae (iw (aX rfl rfl) (decide_eq_true (by omega))) (ah (ab (cB rfl ?_)))))))))))));refine aa (mvs rfl (mvs rfl (ae (aS dt rfl) (ae (bu (l:=(i+1)) (h:=n) cN rfl (.inr ⟨_,_,_,rfl,rfl,rfl⟩) (.inl ⟨rfl,rfl⟩) (by omega) (by omega)) ?_))));refine ke (g:=g) (o:=(i+1)*2) fv rfl rfl (fun h=>by rw [cw (by omega),Nat.zero_add]) P34 (by rw [bJ _ _ _ (by omega),hcl];omega) (by decide) ?_;intro w3 zs O7 hzl P7;refine ah (ab (ag (aa (mvs rfl (ass rfl (ah (ab (ay (aC (bE (v:=.slice _ _ _) rfl rfl ?_))))))))));obtain rfl:n=i+4:=by omega
  have e3:i+4-3=i+1:=by omega
  rw [e3];refine ⟨⟨_,_,rfl,ic hg P7 (by omega) hcm (by rw [bJ _ _ _ (by rw [hzl,bJ _ _ _ (by omega),hcl];omega),bJ _ _ _ (by omega),hcl]) ?_,fun q hq=>hq⟩,aT hbz (aT O34.grown O7.grown)⟩;rw [iI _ _ _ _ (Nat.le_refl _) (by rw [bJ _ _ _ (by omega)];omega),Bo hct hcl hnc hi hvl,List.drop_of_length_le (by omega),List.append_nil]
 refine au (ab (ag ?_));apply bH 13 [(45,eqp _),(46,eqp _),(47,eqp _),(48,eqp _),(49,eqp _),(50,eqp _),(51,eqp _),(52,eqp _),(53,eqp _),(54,eqp _),(55,eqp _),(56,eqp _),(10,eqp _)] (by repeat first | exact bT | refine bS ?_ | refine bG ?_) (by kernel_rfl) (by kernel_rfl) ⟨af _,af _,af _,af _,af _,af _,af _,af _,af _,af _,af _,af _,af _,trivial⟩
 case hop=>
  constructor
  ·rintro-w5 D5;exact ai (ar (v:=.slice _ _ _) rfl) rfl
  constructor
  ·rintro-w6 D6;exact ai (ar (v:=.int _ _) rfl) rfl
  constructor
  ·rintro-w7 D7;rintro _ rfl _ rfl;exact ai (eR (v':=.slice (some ⟨g,0,none⟩) i c) (bu (l:=0) (h:=i) cN rfl (.inl ⟨rfl,rfl⟩) (.inr ⟨_,_,_,rfl,rfl,rfl⟩) (by omega) (by omega)) (by rw [cP,Nat.sub_zero,Nat.sub_zero])) rfl
  constructor
  ·rintro-w8 D8;rintro _ rfl;exact ai (aS dt rfl) rfl
  constructor
  ·rintro-w9 D9;exact ai (ar (v:=.slice _ _ _) rfl) rfl
  constructor
  ·rintro-w10 D10;rintro _ rfl;exact ai (aS dt rfl) rfl
  constructor
  ·rintro-w11 D11;rintro _ rfl _ rfl;exact ai (aJ rfl rfl (by omega)) rfl
  constructor
  ·rintro-w12 D12;exact ai (ar (v:=.slice _ _ _) rfl) rfl
  constructor
  ·rintro-w13 D13;exact ai (ar (v:=.int _ _) rfl) rfl
  constructor
  ·rintro-w14 D14;rintro _ rfl _ rfl;exact ai (bu (l:=(i+4)) (h:=n) cN rfl (.inr ⟨_,_,_,rfl,rfl,rfl⟩) (.inl ⟨rfl,rfl⟩) (by omega) (by omega)) rfl
  constructor
  ·rintro-w15 D15;rintro _ rfl;exact ai (aS dt rfl) rfl
  constructor
  ·rintro-w16 D16;rintro _ rfl _ rfl;exact ai (aJ rfl rfl (by omega)) rfl
  constructor
  ·rintro-w17 D17;rintro _ rfl;exact ai (bQ (v:=.int _ _) rfl) rfl
  exact trivial
 case hend=>
  intro w18 D18;rintro _ rfl _ rfl _ rfl _ rfl _ rfl _ rfl _ rfl _ rfl _ rfl _ rfl _ rfl _ rfl _ rfl;show St ..;replace hbz:=aT hbz (aj.grown D18 _);replace hbk:=hbk.from_ D18;replace hvr:=c0 D18 hvr;refine ah (ab (ag (ag (aa (mvi rfl (mvs rfl (ae (sw dt rfl) (ae (cG (bU rfl rfl) (decide_eq_false (by omega))) (ah (ab (cm rfl (au (ab (ag (aa (mvs rfl ?_))))))))))))))));refine mvi rfl (ae (eR (v':=.slice (some ⟨g,0,none⟩) (i+1+(n-(i+4))) c) (bu (l:=0) (h:=(i+1+(n-(i+4)))) cN rfl (.inl ⟨rfl,rfl⟩) (.inr ⟨_,_,_,rfl,rfl,rfl⟩) (by omega) (by omega)) (by rw [cP,Nat.sub_zero,Nat.sub_zero])) ?_);refine ass rfl (ah (ab (ag (ag (aa (mvi rfl (mvs rfl (ae (aS dt rfl) (ae (aJ rfl rfl (by omega)) (mvi rfl (ae (iw (qd rfl rfl) (decide_eq_true (by omega))) (ah (ab ?_)))))))))))));refine cB rfl (ag (aa (mvs rfl (mvi rfl (ae (bu (l:=i) (h:=(i+1+(n-(i+4)))) cN rfl (.inr ⟨_,_,_,rfl,rfl,rfl⟩) (.inl ⟨rfl,rfl⟩) (by omega) (by omega)) (mvs rfl (iF (news:=vs) (g:=g) (o:=i*2) cN rfl rfl (by rw [hvl,show min 1 ((i+1+(n-(i+4)))-i)=1 by omega]) (fun h=>by rw [cw (by omega),Nat.zero_add]) (fun h=>⟨b,0,rfl,hvr⟩) hbk (by omega) h1v ?_)))))));intro w19 O97 P97;replace hbz:=aT hbz (de.grown O97);refine ah (ab (ag ?_));apply GE 10 9 [] [(98,eqp _),(99,eqp _),(100,eqp _),(101,eqp _),(102,eqp _),(103,eqp _),(104,eqp _),(105,eqp _),(106,eqp _),(107,fun _ w'=>Blk w' g 66 (dG (dG cur (i*2) vs) ((i+1)*2) (xs.drop ((i+4)*2))).toArray)] (fun w'=>aj w19 w') (fun w'=>World.grownBy w w' (some g)) (by repeat first | exact bT | refine bS ?_ | refine bG ?_) (by kernel_rfl) (by kernel_rfl) (by kernel_rfl) ⟨af _,af _,af _,af _,af _,af _,af _,af _,af _,(fun _ _ _ hF h=>h.from_ hF),trivial⟩ (aj.rfl_.d1) (aT hbz ((aj.rfl_.d1 (a:=w19)).grown _)) (fun _ _ hF h=>h.next hF) (fun _ _ hF h=>aT h (hF.grown _))
  case hop=>
   constructor
   ·rintro-w21 hZ21;exact ai (ar (v:=.slice _ _ _) rfl) rfl
   constructor
   ·rintro-w22 hZ22;exact ai (ar (v:=.int _ _) rfl) rfl
   constructor
   ·rintro-w23 hZ23;exact ai (ar (v:=.slice _ _ _) rfl) rfl
   constructor
   ·rintro-w24 hZ24;rintro _ rfl;exact ai (aS dt rfl) rfl
   constructor
   ·rintro-w25 hZ25;rintro _ rfl _ rfl;exact ai (aJ rfl rfl (by omega)) rfl
   constructor
   ·rintro-w26 hZ26;rintro _ rfl _ rfl;exact ai (bu (l:=(i+1)) (h:=(i+1+(n-(i+4)))) cN rfl (.inr ⟨_,_,_,rfl,rfl,rfl⟩) (.inl ⟨rfl,rfl⟩) (by omega) (by omega)) rfl
   constructor
   ·rintro-w27 hZ27;exact ai (ar (v:=.slice _ _ _) rfl) rfl
   constructor
   ·rintro-w28 hZ28;exact ai (ar (v:=.int _ _) rfl) rfl
   constructor
   ·rintro-w29 hZ29;rintro _ rfl _ rfl;exact ai (bu (l:=(i+4)) (h:=n) cN rfl (.inr ⟨_,_,_,rfl,rfl,rfl⟩) (.inl ⟨rfl,rfl⟩) (by omega) (by omega)) rfl
   constructor
   ·intro h;cases h
   exact trivial
  case hmu=>
   rintro w31 D31;rintro _ rfl _ rfl;show mJ ..;refine H9 (news:=xs.drop ((i+4)*2)) (g:=g) (o:=(i+1)*2) cN rfl rfl (by rw [hdl,show min (n-(i+4)) ((i+1+(n-(i+4)))-(i+1))=n-(i+4) by omega]) (fun h=>by rw [cw (by omega),Nat.zero_add]) (fun h=>⟨g,(i+4)*2,by rw [cw (by omega),Nat.zero_add],(CM (o:=i*2) (vs:=vs) (by omega) (by omega):(dG xs (i*2) vs).drop ((i+4)*2)=_) ▸ km (P97.from_ D31) (HC hct hcl hnc hi hvl)⟩) (P97.from_ D31) (by rw [hdl,bJ _ _ _ (by omega),hcl];omega) (fun v hv=>h1 v (List.mem_of_mem_drop hv)) ?_;intro w3 O3 P3;exact ⟨aT (aT hbz (D31.grown _)) O3.grown,P3,fun t u ht h=>gT (by repeat first | exact trivial | refine ⟨.inl rfl,?_⟩ | refine ⟨.inr (fun _ h=>h),?_⟩) t u ht h⟩
  case hend=>
   rintro w32 hZ32;rintro _ rfl _ rfl _ rfl _ rfl _ rfl _ rfl _ rfl _ rfl _ rfl v107 P107;show St ..;replace hbz:=hZ32;refine ah (ab (ag (aa (mvs rfl (mvi rfl (ae (bu (l:=(i+1+(n-(i+4)))) (h:=n) cN rfl (.inr ⟨_,_,_,rfl,rfl,rfl⟩) (.inl ⟨rfl,rfl⟩) (by omega) (by omega)) ?_))))));refine ke (g:=g) (o:=(i+1+(n-(i+4)))*2) fv rfl rfl (fun h=>by rw [cw (by omega),Nat.zero_add]) P107 (by rw [bJ _ _ _ (by rw [hdl,bJ _ _ _ (by omega),hcl];omega),bJ _ _ _ (by omega),hcl];omega) (by decide) ?_;intro w33 zs O19 hzl P19;refine ah (ab (ag (aa (mvs rfl (ass rfl (ah (ab (ay (aC (bE (v:=.slice _ _ _) rfl rfl ?_))))))))));have e3:n-3=(i+1+(n-(i+4))):=by omega
   rw [e3];exact ⟨⟨_,_,rfl,ic hg P19 (by omega) hcm (by rw [bJ _ _ _ (by rw [hzl,bJ _ _ _ (by rw [hdl,bJ _ _ _ (by omega),hcl];omega),bJ _ _ _ (by omega),hcl];omega),bJ _ _ _ (by rw [hdl,bJ _ _ _ (by omega),hcl];omega),bJ _ _ _ (by omega),hcl]) (HD hct hcl hnc hi hvl),fun q hq=>hq⟩,aT hbz O19.grown⟩
end Go.Proofs.YtcbakncjacnnjaaGreat
namespace Go.Proofs.YtcbakncjacnnjaaGreat
open Go.Proofs.Tryz (prog)
open Go.RowKit
open Go.ChangeShapes Go.WideShapes Go.ChangeAt
theorem kX:aH prog 119=true:=by kernel_rfl
theorem ng:aH prog 212=true:=by kernel_rfl
theorem xo {b c:Bool} (h:b=true→c=true) (k:c=false):b=false:=by
 cases b with
 |false=>rfl
 |true=>rw [h rfl] at k;cases k
theorem Cm (a b:ByteArray) (w:World):Rt prog 46 [.string a,.string b] w fun v w'=>v=.int .i64 (jG a b)∧w=w':=
 Calls.mono (Tryz.strings_Compare a b w) fun e w' h=>⟨_,h.1,by unfold jG;rw [Lib.toList_data,Lib.toList_data],h.2.symm⟩
theorem rS (a b:Dc) (w:World) :
 Rt prog 119 [.agg (dV a).toArray,.agg (dV b).toArray] w (fun v w'=>v=.int .i64 (jG a.1 b.1)∧aj w w'):=by
 refine enter (n:=10) Tryz.func119 rfl rfl rfl (ag (aa (cW (v:=.agg _) rfl ?_)));intro b2 w1 E2 hb2 hk2;refine cW (v:=.agg _) rfl ?_;intro b3 w2 E3 hb3 hk3;refine asi rfl (ah (ab (ag (aa (ae (ak aW rfl) (ae (aq bf rfl (by exact (hk2.from_ E3).rd 0 rfl)) ?_))))));refine ae (ak aW rfl) (ae (aq bf rfl (by exact hk3.rd 0 rfl)) ?_);refine aA iT (Cm a.1 b.1 _) ?_;rintro v9 w3 ⟨rfl,rfl⟩;refine asi rfl (ah (ab (ay (bE (v:=.int _ _) rfl rfl (⟨rfl,((aj.rfl_.next E2).next E3)⟩)))))
theorem r8 (base:Nat) (A:Option Addr) (c n:Nat) (xs:List Dc) (w:World) (ho:w.ownsRow base 37 2 (.slice A n c) n (xs.flatMap dV)) (_:base≤w.heap.size) (hl:n≤100000000) (a b q:Nat) (hab:a+q≤b) (hbn:b+q≤n) :
 Rt prog 212 [.slice A n c,.int .i64 (a:Nat),.int .i64 (b:Nat),.int .i64 (q:Nat),.func (.func 119) #[] #[]] w (fun _ w'=>∃ ys,w'.ownsRow base 37 2 (.slice A n c) n (List.flatMap dV ys)∧w.grownBy w' (A.map (·.block))∧SM.PW Dz a (b+q) xs ys∧∀ k,SM.G Dz ys k=SM.swr a b q (SM.G Dz xs) k):=by
 have hxl:=fS bI ho;refine enter (n:=38) Tryz.func212 rfl rfl rfl (ag (aa (asi rfl (ah (ab (az (bg (G:=Nat×List Dc) [11,12,13,14,15,16,17,18,19,20,21,22,23,24,25,26,27,28,29,30,31,32,33,34,35,36,37] (fun (i,_)=>[(10,.int .i64 (i:Nat))]) (fun (i,ys) w'=>i≤q∧w'.ownsRow base 37 2 (.slice A n c) n (List.flatMap dV ys)∧w.grownBy w' (A.map (·.block))∧SM.PW Dz a (b+q) xs ys∧∀ k,SM.G Dz ys k=SM.swr a b i (SM.G Dz xs) k) (fun (i,_)=>q-i) ((0,xs)) ⟨rfl,trivial⟩ ?_ ?_)))))))
 ·exact ⟨Nat.zero_le _,ho,World.grownBy.refl _ _,.rfl_,fun k=>(SM.swr_zero a b _ k).symm⟩
 rintro ⟨i,ys⟩ ρ1 w1 ⟨hi,hoy,hG0,hP,hR⟩;refine ag (ag (aa (mvi rfl (mvi rfl (ae (aX rfl rfl) (ah (ab (Li rfl (fun Q2=>?_) (fun Q2=>?_)))))))))
 ·obtain ⟨g,rfl⟩:=dF ho (by omega);have hyl:=fS bI hoy;refine au (ab (ag (az ?_)));have hU3:oG [(0,16,.slice (some ⟨g,0,none⟩) n c),(1,17,.int .i64 ((a:Nat):Int)),(2,18,.int .i64 ((i:Nat):Int)),(3,19,.int .i64 (((a+i):Nat):Int)),(4,20,.slice (some ⟨g,0,none⟩) n c),(5,21,.int .i64 ((b:Nat):Int)),(6,22,.int .i64 ((i:Nat):Int)),(7,23,.int .i64 (((b+i):Nat):Int)),(8,24,.slice (some ⟨g,0,none⟩) n c),(9,25,.int .i64 ((b:Nat):Int)),(10,26,.int .i64 ((i:Nat):Int)),(11,27,.int .i64 (((b+i):Nat):Int)),(12,28,.pointer (some ⟨g,0+(b+i)*2,none⟩)),(13,29,.agg (dV (SM.G Dz ys (b+i))).toArray),(14,30,.slice (some ⟨g,0,none⟩) n c),(15,31,.int .i64 ((a:Nat):Int)),(16,32,.int .i64 ((i:Nat):Int)),(17,33,.int .i64 (((a+i):Nat):Int)),(18,34,.pointer (some ⟨g,0+(a+i)*2,none⟩)),(19,35,.agg (dV (SM.G Dz ys (a+i))).toArray),(20,36,.pointer (some ⟨g,0+(a+i)*2,none⟩)),(22,37,.pointer (some ⟨g,0+(b+i)*2,none⟩))]:=by simp [oG]
  refine pC [(0,16,.slice (some ⟨g,0,none⟩) n c),(1,17,.int .i64 ((a:Nat):Int)),(2,18,.int .i64 ((i:Nat):Int)),(3,19,.int .i64 (((a+i):Nat):Int)),(4,20,.slice (some ⟨g,0,none⟩) n c),(5,21,.int .i64 ((b:Nat):Int)),(6,22,.int .i64 ((i:Nat):Int)),(7,23,.int .i64 (((b+i):Nat):Int)),(8,24,.slice (some ⟨g,0,none⟩) n c),(9,25,.int .i64 ((b:Nat):Int)),(10,26,.int .i64 ((i:Nat):Int)),(11,27,.int .i64 (((b+i):Nat):Int)),(12,28,.pointer (some ⟨g,0+(b+i)*2,none⟩)),(13,29,.agg (dV (SM.G Dz ys (b+i))).toArray),(14,30,.slice (some ⟨g,0,none⟩) n c),(15,31,.int .i64 ((a:Nat):Int)),(16,32,.int .i64 ((i:Nat):Int)),(17,33,.int .i64 (((a+i):Nat):Int)),(18,34,.pointer (some ⟨g,0+(a+i)*2,none⟩)),(19,35,.agg (dV (SM.G Dz ys (a+i))).toArray),(20,36,.pointer (some ⟨g,0+(a+i)*2,none⟩)),(22,37,.pointer (some ⟨g,0+(b+i)*2,none⟩))] (fun S w'=>World.grownBy w1 w' (some g)∧(S 21=false→w'.ownsRow base 37 2 (.slice (some ⟨g,0,none⟩) n c) n (List.flatMap dV ys))∧(S 21=true→S 13=true∧S 19=true)∧(S 21=true→S 23=false→w'.ownsRow base 37 2 (.slice (some ⟨g,0,none⟩) n c) n (List.flatMap dV (ys.set (a+i) (SM.G Dz ys (b+i)))))∧(S 21=true→S 23=true→w'.ownsRow base 37 2 (.slice (some ⟨g,0,none⟩) n c) n (List.flatMap dV ((ys.set (a+i) (SM.G Dz ys (b+i))).set (b+i) (SM.G Dz ys (a+i)))))∧(S 21=false→S 23=false)) (by kernel_rfl) (by kernel_rfl) hU3 (by simp) (⟨(aj.rfl_.d1 (a:=w1)).grown _,fun _=>hoy.kept_from aj.rfl_.d1,fun q=>Bool.noConfusion q,fun q=>Bool.noConfusion q,fun q=>Bool.noConfusion q,fun _=>rfl⟩) ?_ ?_
  ·constructor
   ·rintro S L' wS hI hM hS0 ⟨-⟩;have e0:=hI.1 0 (by simp);have hM':=hM;obtain ⟨hG,hA,hB1,hC,hD,hE⟩:=hM';exact bB (ar e0) ⟨hI.put hU3 (.head _),hM⟩
   constructor
   ·rintro S L' wS hI hM hS0 ⟨-⟩;have e1:=hI.1 1 (by simp);have hM':=hM;obtain ⟨hG,hA,hB1,hC,hD,hE⟩:=hM';exact bB (ar e1) ⟨hI.put hU3 (.tail _ (.head _)),hM⟩
   constructor
   ·rintro S L' wS hI hM hS0 ⟨-⟩;have e10:=hI.1 10 (by simp);have hM':=hM;obtain ⟨hG,hA,hB1,hC,hD,hE⟩:=hM';exact bB (ar e10) ⟨hI.put hU3 (.tail _ (.tail _ (.head _))),hM⟩
   constructor
   ·rintro S L' wS hI hM hS0 ⟨d1,d2,-⟩;have e17:bh L' 17=.int .i64 ((a:Nat):Int):=hI.get (i:=1) (.tail _ (.head _)) d1;have e18:bh L' 18=.int .i64 ((i:Nat):Int):=hI.get (i:=2) (.tail _ (.tail _ (.head _))) d2;have hM':=hM;obtain ⟨hG,hA,hB1,hC,hD,hE⟩:=hM';exact bB (aJ (a:=a) (b:=i) e17 e18 (by omega)) ⟨hI.put hU3 (.tail _ (.tail _ (.tail _ (.head _)))),hM⟩
   constructor
   ·rintro S L' wS hI hM hS0 ⟨-,-⟩;have e0:=hI.1 0 (by simp);have hM':=hM;obtain ⟨hG,hA,hB1,hC,hD,hE⟩:=hM';exact bB (ar e0) ⟨hI.put hU3 (.tail _ (.tail _ (.tail _ (.tail _ (.head _))))),hM⟩
   constructor
   ·rintro S L' wS hI hM hS0 ⟨-,-⟩;have e2:=hI.1 2 (by simp);have hM':=hM;obtain ⟨hG,hA,hB1,hC,hD,hE⟩:=hM';exact bB (ar e2) ⟨hI.put hU3 (.tail _ (.tail _ (.tail _ (.tail _ (.tail _ (.head _)))))),hM⟩
   constructor
   ·rintro S L' wS hI hM hS0 ⟨-,-⟩;have e10:=hI.1 10 (by simp);have hM':=hM;obtain ⟨hG,hA,hB1,hC,hD,hE⟩:=hM';exact bB (ar e10) ⟨hI.put hU3 (.tail _ (.tail _ (.tail _ (.tail _ (.tail _ (.tail _ (.head _))))))),hM⟩
   constructor
   ·rintro S L' wS hI hM hS0 ⟨d5,d6,-,-⟩;have e21:bh L' 21=.int .i64 ((b:Nat):Int):=hI.get (i:=5) (.tail _ (.tail _ (.tail _ (.tail _ (.tail _ (.head _)))))) d5;have e22:bh L' 22=.int .i64 ((i:Nat):Int):=hI.get (i:=6) (.tail _ (.tail _ (.tail _ (.tail _ (.tail _ (.tail _ (.head _))))))) d6;have hM':=hM;obtain ⟨hG,hA,hB1,hC,hD,hE⟩:=hM';exact bB (aJ (a:=b) (b:=i) e21 e22 (by omega)) ⟨hI.put hU3 (.tail _ (.tail _ (.tail _ (.tail _ (.tail _ (.tail _ (.tail _ (.head _)))))))),hM⟩
   constructor
   ·rintro S L' wS hI hM hS0 ⟨-⟩;have e0:=hI.1 0 (by simp);have hM':=hM;obtain ⟨hG,hA,hB1,hC,hD,hE⟩:=hM';exact bB (ar e0) ⟨hI.put hU3 (.tail _ (.tail _ (.tail _ (.tail _ (.tail _ (.tail _ (.tail _ (.tail _ (.head _))))))))),hM⟩
   constructor
   ·rintro S L' wS hI hM hS0 ⟨-⟩;have e2:=hI.1 2 (by simp);have hM':=hM;obtain ⟨hG,hA,hB1,hC,hD,hE⟩:=hM';exact bB (ar e2) ⟨hI.put hU3 (.tail _ (.tail _ (.tail _ (.tail _ (.tail _ (.tail _ (.tail _ (.tail _ (.tail _ (.head _)))))))))),hM⟩
   constructor
   ·rintro S L' wS hI hM hS0 ⟨-⟩;have e10:=hI.1 10 (by simp);have hM':=hM;obtain ⟨hG,hA,hB1,hC,hD,hE⟩:=hM';exact bB (ar e10) ⟨hI.put hU3 (.tail _ (.tail _ (.tail _ (.tail _ (.tail _ (.tail _ (.tail _ (.tail _ (.tail _ (.tail _ (.head _))))))))))),hM⟩
   constructor
   ·rintro S L' wS hI hM hS0 ⟨d9,d10,-⟩;have e25:bh L' 25=.int .i64 ((b:Nat):Int):=hI.get (i:=9) (.tail _ (.tail _ (.tail _ (.tail _ (.tail _ (.tail _ (.tail _ (.tail _ (.tail _ (.head _)))))))))) d9;have e26:bh L' 26=.int .i64 ((i:Nat):Int):=hI.get (i:=10) (.tail _ (.tail _ (.tail _ (.tail _ (.tail _ (.tail _ (.tail _ (.tail _ (.tail _ (.tail _ (.head _))))))))))) d10;have hM':=hM;obtain ⟨hG,hA,hB1,hC,hD,hE⟩:=hM';exact bB (aJ (a:=b) (b:=i) e25 e26 (by omega)) ⟨hI.put hU3 (.tail _ (.tail _ (.tail _ (.tail _ (.tail _ (.tail _ (.tail _ (.tail _ (.tail _ (.tail _ (.tail _ (.head _)))))))))))),hM⟩
   constructor
   ·rintro S L' wS hI hM hS0 ⟨d8,d11,-⟩;have e24:bh L' 24=.slice (some ⟨g,0,none⟩) n c:=hI.get (i:=8) (.tail _ (.tail _ (.tail _ (.tail _ (.tail _ (.tail _ (.tail _ (.tail _ (.head _))))))))) d8;have e27:bh L' 27=.int .i64 (((b+i):Nat):Int):=hI.get (i:=11) (.tail _ (.tail _ (.tail _ (.tail _ (.tail _ (.tail _ (.tail _ (.tail _ (.tail _ (.tail _ (.tail _ (.head _)))))))))))) d11;have hM':=hM;obtain ⟨hG,hA,hB1,hC,hD,hE⟩:=hM';exact bB (aG (i:=(b+i)) aO e24 e27 (by omega)) ⟨hI.put hU3 (.tail _ (.tail _ (.tail _ (.tail _ (.tail _ (.tail _ (.tail _ (.tail _ (.tail _ (.tail _ (.tail _ (.tail _ (.head _))))))))))))),hM⟩
   constructor
   ·rintro S L' wS hI hM hS0 ⟨d12,-⟩;have e28:bh L' 28=.pointer (some ⟨g,0+(b+i)*2,none⟩):=hI.get (i:=12) (.tail _ (.tail _ (.tail _ (.tail _ (.tail _ (.tail _ (.tail _ (.tail _ (.tail _ (.tail _ (.tail _ (.tail _ (.head _))))))))))))) d12;have hM':=hM;obtain ⟨hG,hA,hB1,hC,hD,hE⟩:=hM';exact bB (bw (cs:=dV (SM.G Dz ys (b+i))) bO bq e28 (ft bI Dz (hA (xo (fun q=>(hB1 q).1) hS0)) (by omega))) ⟨hI.put hU3 (.tail _ (.tail _ (.tail _ (.tail _ (.tail _ (.tail _ (.tail _ (.tail _ (.tail _ (.tail _ (.tail _ (.tail _ (.tail _ (.head _)))))))))))))),hG,hA,fun q=>⟨rfl,(hB1 q).2⟩,hC,hD,hE⟩
   constructor
   ·rintro S L' wS hI hM hS0 ⟨-⟩;have e0:=hI.1 0 (by simp);have hM':=hM;obtain ⟨hG,hA,hB1,hC,hD,hE⟩:=hM';exact bB (ar e0) ⟨hI.put hU3 (.tail _ (.tail _ (.tail _ (.tail _ (.tail _ (.tail _ (.tail _ (.tail _ (.tail _ (.tail _ (.tail _ (.tail _ (.tail _ (.tail _ (.head _))))))))))))))),hM⟩
   constructor
   ·rintro S L' wS hI hM hS0 ⟨-⟩;have e1:=hI.1 1 (by simp);have hM':=hM;obtain ⟨hG,hA,hB1,hC,hD,hE⟩:=hM';exact bB (ar e1) ⟨hI.put hU3 (.tail _ (.tail _ (.tail _ (.tail _ (.tail _ (.tail _ (.tail _ (.tail _ (.tail _ (.tail _ (.tail _ (.tail _ (.tail _ (.tail _ (.tail _ (.head _)))))))))))))))),hM⟩
   constructor
   ·rintro S L' wS hI hM hS0 ⟨-⟩;have e10:=hI.1 10 (by simp);have hM':=hM;obtain ⟨hG,hA,hB1,hC,hD,hE⟩:=hM';exact bB (ar e10) ⟨hI.put hU3 (.tail _ (.tail _ (.tail _ (.tail _ (.tail _ (.tail _ (.tail _ (.tail _ (.tail _ (.tail _ (.tail _ (.tail _ (.tail _ (.tail _ (.tail _ (.tail _ (.head _))))))))))))))))),hM⟩
   constructor
   ·rintro S L' wS hI hM hS0 ⟨d15,d16,-⟩;have e31:bh L' 31=.int .i64 ((a:Nat):Int):=hI.get (i:=15) (.tail _ (.tail _ (.tail _ (.tail _ (.tail _ (.tail _ (.tail _ (.tail _ (.tail _ (.tail _ (.tail _ (.tail _ (.tail _ (.tail _ (.tail _ (.head _)))))))))))))))) d15;have e32:bh L' 32=.int .i64 ((i:Nat):Int):=hI.get (i:=16) (.tail _ (.tail _ (.tail _ (.tail _ (.tail _ (.tail _ (.tail _ (.tail _ (.tail _ (.tail _ (.tail _ (.tail _ (.tail _ (.tail _ (.tail _ (.tail _ (.head _))))))))))))))))) d16;have hM':=hM;obtain ⟨hG,hA,hB1,hC,hD,hE⟩:=hM';exact bB (aJ (a:=a) (b:=i) e31 e32 (by omega)) ⟨hI.put hU3 (.tail _ (.tail _ (.tail _ (.tail _ (.tail _ (.tail _ (.tail _ (.tail _ (.tail _ (.tail _ (.tail _ (.tail _ (.tail _ (.tail _ (.tail _ (.tail _ (.tail _ (.head _)))))))))))))))))),hM⟩
   constructor
   ·rintro S L' wS hI hM hS0 ⟨d14,d17,-⟩;have e30:bh L' 30=.slice (some ⟨g,0,none⟩) n c:=hI.get (i:=14) (.tail _ (.tail _ (.tail _ (.tail _ (.tail _ (.tail _ (.tail _ (.tail _ (.tail _ (.tail _ (.tail _ (.tail _ (.tail _ (.tail _ (.head _))))))))))))))) d14;have e33:bh L' 33=.int .i64 (((a+i):Nat):Int):=hI.get (i:=17) (.tail _ (.tail _ (.tail _ (.tail _ (.tail _ (.tail _ (.tail _ (.tail _ (.tail _ (.tail _ (.tail _ (.tail _ (.tail _ (.tail _ (.tail _ (.tail _ (.tail _ (.head _)))))))))))))))))) d17;have hM':=hM;obtain ⟨hG,hA,hB1,hC,hD,hE⟩:=hM';exact bB (aG (i:=(a+i)) aO e30 e33 (by omega)) ⟨hI.put hU3 (.tail _ (.tail _ (.tail _ (.tail _ (.tail _ (.tail _ (.tail _ (.tail _ (.tail _ (.tail _ (.tail _ (.tail _ (.tail _ (.tail _ (.tail _ (.tail _ (.tail _ (.tail _ (.head _))))))))))))))))))),hM⟩
   constructor
   ·rintro S L' wS hI hM hS0 ⟨d18,-⟩;have e34:bh L' 34=.pointer (some ⟨g,0+(a+i)*2,none⟩):=hI.get (i:=18) (.tail _ (.tail _ (.tail _ (.tail _ (.tail _ (.tail _ (.tail _ (.tail _ (.tail _ (.tail _ (.tail _ (.tail _ (.tail _ (.tail _ (.tail _ (.tail _ (.tail _ (.tail _ (.head _))))))))))))))))))) d18;have hM':=hM;obtain ⟨hG,hA,hB1,hC,hD,hE⟩:=hM';exact bB (bw (cs:=dV (SM.G Dz ys (a+i))) bO bq e34 (ft bI Dz (hA (xo (fun q=>(hB1 q).2) hS0)) (by omega))) ⟨hI.put hU3 (.tail _ (.tail _ (.tail _ (.tail _ (.tail _ (.tail _ (.tail _ (.tail _ (.tail _ (.tail _ (.tail _ (.tail _ (.tail _ (.tail _ (.tail _ (.tail _ (.tail _ (.tail _ (.tail _ (.head _)))))))))))))))))))),hG,hA,fun q=>⟨(hB1 q).1,rfl⟩,hC,hD,hE⟩
   constructor
   ·rintro S L' wS hI hM hS0 ⟨d0,d3,d0,d1,d2,d3,-,-,-,-,d8,d9,d10,d11,d12,d13,-,-,-,-,-,d19,-⟩;have e16:bh L' 16=.slice (some ⟨g,0,none⟩) n c:=hI.get (i:=0) (.head _) d0;have e19:bh L' 19=.int .i64 (((a+i):Nat):Int):=hI.get (i:=3) (.tail _ (.tail _ (.tail _ (.head _)))) d3;have hM':=hM;obtain ⟨hG,hA,hB1,hC,hD,hE⟩:=hM';exact bB (aG (i:=(a+i)) aO e16 e19 (by omega)) ⟨hI.put hU3 (.tail _ (.tail _ (.tail _ (.tail _ (.tail _ (.tail _ (.tail _ (.tail _ (.tail _ (.tail _ (.tail _ (.tail _ (.tail _ (.tail _ (.tail _ (.tail _ (.tail _ (.tail _ (.tail _ (.tail _ (.head _))))))))))))))))))))),hM⟩
   constructor
   ·rintro S L' wS hI hM hS0 ⟨d20,d13,d0,d1,d2,d3,-,-,-,-,d8,d9,d10,d11,d12,d13,-,-,-,-,-,d19,-⟩;have e29:bh L' 29=.agg (dV (SM.G Dz ys (b+i))).toArray:=hI.get (i:=13) (.tail _ (.tail _ (.tail _ (.tail _ (.tail _ (.tail _ (.tail _ (.tail _ (.tail _ (.tail _ (.tail _ (.tail _ (.tail _ (.head _)))))))))))))) d13;have e36:bh L' 36=.pointer (some ⟨g,0+(a+i)*2,none⟩):=hI.get (i:=20) (.tail _ (.tail _ (.tail _ (.tail _ (.tail _ (.tail _ (.tail _ (.tail _ (.tail _ (.tail _ (.tail _ (.tail _ (.tail _ (.tail _ (.tail _ (.tail _ (.tail _ (.tail _ (.tail _ (.tail _ (.head _))))))))))))))))))))) d20;have hM':=hM;obtain ⟨hG,hA,hB1,hC,hD,hE⟩:=hM';obtain ⟨w2,hR,hO,hb⟩:=gh (n:=38) (L:=L') (x:=.tmp 36) (y:=.tmp 29) (f:=dV) bI jY (i:=(a+i)) bq e36 e29 (hA hS0) (by omega);exact iE hR ⟨hI.skip (by simp),aT hG hO.grown,fun q=>Bool.noConfusion q,fun _=>⟨d13,d19⟩,fun _ _=>hb,fun _ q=>Bool.noConfusion (q.symm.trans (hE hS0)),fun q=>Bool.noConfusion q⟩
   constructor
   ·rintro S L' wS hI hM hS0 ⟨d4,d7,d0,d1,d2,d3,d4,d5,d6,d7,d8,d9,d10,d11,d12,d13,d14,d15,d16,d17,d18,d19,d20,d21,-⟩;have e20:bh L' 20=.slice (some ⟨g,0,none⟩) n c:=hI.get (i:=4) (.tail _ (.tail _ (.tail _ (.tail _ (.head _))))) d4;have e23:bh L' 23=.int .i64 (((b+i):Nat):Int):=hI.get (i:=7) (.tail _ (.tail _ (.tail _ (.tail _ (.tail _ (.tail _ (.tail _ (.head _)))))))) d7;have hM':=hM;obtain ⟨hG,hA,hB1,hC,hD,hE⟩:=hM';exact bB (aG (i:=(b+i)) aO e20 e23 (by omega)) ⟨hI.put hU3 (.tail _ (.tail _ (.tail _ (.tail _ (.tail _ (.tail _ (.tail _ (.tail _ (.tail _ (.tail _ (.tail _ (.tail _ (.tail _ (.tail _ (.tail _ (.tail _ (.tail _ (.tail _ (.tail _ (.tail _ (.tail _ (.head _)))))))))))))))))))))),hM⟩
   constructor
   ·rintro S L' wS hI hM hS0 ⟨d22,d19,d21,d0,d1,d2,d3,d4,d5,d6,d7,d8,d9,d10,d11,d12,d13,d14,d15,d16,d17,d18,d19,d20,d21,-⟩;have e35:bh L' 35=.agg (dV (SM.G Dz ys (a+i))).toArray:=hI.get (i:=19) (.tail _ (.tail _ (.tail _ (.tail _ (.tail _ (.tail _ (.tail _ (.tail _ (.tail _ (.tail _ (.tail _ (.tail _ (.tail _ (.tail _ (.tail _ (.tail _ (.tail _ (.tail _ (.tail _ (.head _)))))))))))))))))))) d19;have e37:bh L' 37=.pointer (some ⟨g,0+(b+i)*2,none⟩):=hI.get (i:=22) (.tail _ (.tail _ (.tail _ (.tail _ (.tail _ (.tail _ (.tail _ (.tail _ (.tail _ (.tail _ (.tail _ (.tail _ (.tail _ (.tail _ (.tail _ (.tail _ (.tail _ (.tail _ (.tail _ (.tail _ (.tail _ (.head _)))))))))))))))))))))) d22;have hM':=hM;obtain ⟨hG,hA,hB1,hC,hD,hE⟩:=hM';obtain ⟨w2,hR,hO,hb⟩:=gh (n:=38) (L:=L') (x:=.tmp 37) (y:=.tmp 35) (f:=dV) bI jY (i:=(b+i)) bq e37 e35 (hC d21 hS0) (by omega);exact iE hR ⟨hI.skip (by simp),aT hG hO.grown,fun q=>Bool.noConfusion (q.symm.trans d21),hB1,fun _ q=>Bool.noConfusion q,fun _ _=>hb,fun q=>Bool.noConfusion (q.symm.trans d21)⟩
   exact trivial
  ·intro w4 hM;obtain ⟨hG,hA,hB1,hC,hD,hE⟩:=hM;have hS9:=hD rfl rfl;change World.ownsRow _ _ _ _ _ _ (List.flatMap dV (SM.swp Dz ys (a+i) (b+i))) at hS9;refine aN (ab (aa (mvi rfl (ae (aJ (b:=1) rfl rfl (by omega)) (asi rfl (ah ?_))))));refine aR ((i+1,SM.swp Dz ys (a+i) (b+i))) ⟨(by first | rfl | (refine aM ?_;omega)),trivial⟩ (by (iterate 56 refine aF rfl ?_);exact aK) ⟨?_,?_⟩
   ·exact ⟨by omega,hS9,aT hG0 hG,hP.trans (.swap (by omega) (by omega) (by omega)),SM.swr_succ hR (by omega) hyl (by omega)⟩
   ·show q-(i+1)<q-i;omega
 refine aZ (aD (aD (aU (gZ (k_ rfl ?_)))));obtain rfl:i=q:=by omega
 exact ⟨ys,hoy,hG0,hP,hR⟩
theorem uR (base:Nat) (A:Option Addr) (c n:Nat) (xs:List Dc) (w:World) (ho:w.ownsRow base 37 2 (.slice A n c) n (xs.flatMap dV)) (_:base≤w.heap.size) (hl:n≤100000000) (a b:Nat) (hab:a≤b) (hbn:b≤n) :
 Rt prog 122 [.slice A n c,.int .i64 (a:Nat),.int .i64 (b:Nat),.func (.func 119) #[] #[]] w (fun _ w'=>∃ ys,w'.ownsRow base 37 2 (.slice A n c) n (List.flatMap dV ys)∧w.grownBy w' (A.map (·.block))∧SM.PW Dz a b xs ys∧SM.Srt Dz ltD a b ys):=by
 have hxl:=fS bI ho;refine enter (n:=53) Tryz.func122 rfl rfl rfl (ag (aa (mvi rfl (ae (aJ (b:=1) rfl rfl (by omega)) (asi rfl (ah (ab (az (bg (G:=Nat×List Dc) [9,12,13,14,15,16,17,18,19,20,21,22,23,24,25,26,27,28,29,30,31,32,33,34,35,36,37,38,39,40,41,42,43,44,45,46,47,48,49,50,51,52] (fun (i,_)=>[(8,.int .i64 (i:Nat))]) (fun (i,ys) w'=>a+1≤i∧(i≤b∨i=a+1)∧w'.ownsRow base 37 2 (.slice A n c) n (List.flatMap dV ys)∧w.grownBy w' (A.map (·.block))∧SM.PW Dz a b xs ys∧SM.Srt Dz ltD a i ys) (fun (i,_)=>b-i) ((a+1,xs)) ⟨rfl,trivial⟩ ?_ ?_)))))))))
 ·exact ⟨Nat.le_refl _,.inr rfl,ho,World.grownBy.refl _ _,.rfl_,(SM.Srt.one iJ (by omega)).2 trivial⟩
 rintro ⟨i,ys⟩ ρ1 w1 ⟨hia,hib,hoy,hG0,hP,hR⟩;refine ag (ag (aa (mvi rfl (mvi rfl (ae (aX rfl rfl) (ah (ab (Li rfl (fun Q2=>?_) (fun Q2=>?_)))))))))
 ·obtain ⟨g,rfl⟩:=dF ho (by omega);refine au (ab (ag (az (ag (aa (mvi rfl (asi rfl (ah (ab (az (bg (G:=Nat×List Dc) [18,19,20,21,22,23,24,25,26,27,28,29,30,31,32,33,34,35,36,37,38,39,40,41,42,43,44,45,46,47,48,49,50,51,52] (fun (j,_)=>[(9,.int .i64 (j:Nat))]) (fun (j,ys) w'=>a≤j∧j≤i∧w'.ownsRow base 37 2 (.slice (some ⟨g,0,none⟩) n c) n (List.flatMap dV ys)∧w.grownBy w' (some g)∧SM.PW Dz a b xs ys∧SM.Ins Dz ltD a i j ys) (fun (j,_)=>j-a) ((i,ys)) ⟨rfl,trivial⟩ ?_ ?_)))))))))))
  ·exact ⟨by omega,Nat.le_refl _,hoy,hG0,hP,SM.Ins.start hR⟩
  rintro ⟨j,ys⟩ ρ3 w3 ⟨hja,hji,hoy,hG0,hP,hR⟩;refine ag (ag ?_);have hsp:j=a∨a<j:=by omega
  rcases hsp with hj9 | hj9
  ·apply bH 17 [(18,eqp _),(19,eqp _),(20,eqp _),(21,eqp _),(22,eqp _),(23,eqp _),(24,eqp _),(25,eqp _),(26,eqp _),(27,eqp _),(28,eqp _),(29,eqp _),(30,eqp _),(31,eqp _),(32,eqp _),(33,eqp _),(34,eqp _)] (by repeat first | exact bT | refine bS ?_ | refine bG ?_) (by kernel_rfl) (by kernel_rfl) ⟨af _,af _,af _,af _,af _,af _,af _,af _,af _,af _,af _,af _,af _,af _,af _,af _,af _,trivial⟩
   case hop=>
    constructor
    ·rintro-w5 D5;exact ai (ar (v:=.int _ _) rfl) rfl
    constructor
    ·rintro-w6 D6;exact ai (ar (v:=.int _ _) rfl) rfl
    constructor
    ·rintro-w7 D7;rintro _ rfl _ rfl;exact ai (cG (bU rfl rfl) (decide_eq_false (by omega))) rfl
    constructor
    ·rintro-w8 D8;rintro _ rfl;exact ai (ar (v:=.bool _) rfl) rfl
    constructor
    ·rintro-w9 D9;rintro _ rfl;exact bj rfl rfl rfl
    constructor
    ·rintro-w10 D10;rintro _ rfl;exact bj rfl rfl rfl
    constructor
    ·rintro-w11 D11;rintro _ rfl;exact bj rfl rfl rfl
    constructor
    ·rintro-w12 D12;rintro _ rfl _ rfl _ rfl;exact bj rfl rfl rfl
    constructor
    ·rintro-w13 D13;rintro _ rfl _ rfl;exact bj rfl rfl rfl
    constructor
    ·rintro-w14 D14;rintro _ rfl;exact bj rfl rfl rfl
    constructor
    ·rintro-w15 D15;rintro _ rfl;exact bj rfl rfl rfl
    constructor
    ·rintro-w16 D16;rintro _ rfl _ rfl;exact bj rfl rfl rfl
    constructor
    ·rintro-w17 D17;rintro _ rfl _ rfl _ rfl;exact bj rfl rfl rfl
    constructor
    ·rintro-w18 D18;rintro _ rfl _ rfl;exact bj rfl rfl rfl
    constructor
    ·rintro-w19 D19;rintro _ rfl _ rfl _ rfl _ rfl;exact bj rfl rfl rfl
    constructor
    ·rintro-w20 D20;rintro _ rfl _ rfl;exact bj rfl rfl rfl
    constructor
    ·rintro-w21 D21;rintro _ rfl _ rfl;exact ai (aQ (v:=.bool _) rfl rfl) rfl
    exact trivial
   case hend=>
    intro w22 D22;rintro _ rfl _ rfl _ rfl _ rfl _ rfl _ rfl _ rfl _ rfl _ rfl _ rfl _ rfl _ rfl _ rfl _ rfl _ rfl _ rfl _ rfl;show St ..;have hM4:=D22;have hoz:=hoy.kept_from hM4;have hGz:=aT hG0 (hM4.grown _);subst hj9;have hRz:SM.Srt Dz ltD j (i+1) ys:=hR.low iJ;refine ah (ab (cm rfl (aZ (aD (aD (aU (aN (ab (aa (mvi rfl (ae (aJ (b:=1) rfl rfl (by omega)) (asi rfl (ah ?_)))))))))))));refine aR ((i+1,ys)) ⟨(by first | rfl | (refine aM ?_;omega)),trivial⟩ (by (iterate 104 refine aF rfl ?_);exact aK) ⟨?_,?_⟩
    ·exact ⟨by omega,.inl (by omega),hoz,hGz,hP,hRz⟩
    ·show b-(i+1)<b-i;omega
  apply bH 17 [(18,eqp _),(19,eqp _),(20,eqp _),(21,eqp _),(22,eqp _),(23,eqp _),(24,eqp _),(25,eqp _),(26,eqp (.agg (dV (SM.G Dz ys j)).toArray)),(27,eqp _),(28,eqp _),(29,eqp _),(30,eqp _),(31,eqp (.agg (dV (SM.G Dz ys (j-1))).toArray)),(32,eqp _),(33,eqp _),(34,eqp _)] (by repeat first | exact bT | refine bS ?_ | refine bG ?_) (by kernel_rfl) (by kernel_rfl) ⟨af _,af _,af _,af _,af _,af _,af _,af _,af _,af _,af _,af _,af _,af _,af _,af _,af _,trivial⟩
  case hop=>
   constructor
   ·rintro-w24 D24;exact ai (ar (v:=.int _ _) rfl) rfl
   constructor
   ·rintro-w25 D25;exact ai (ar (v:=.int _ _) rfl) rfl
   constructor
   ·rintro-w26 D26;rintro _ rfl _ rfl;exact ai (iw (bU rfl rfl) (decide_eq_true (by omega))) rfl
   constructor
   ·rintro-w27 D27;rintro _ rfl;exact ai (ar (v:=.bool _) rfl) rfl
   constructor
   ·rintro-w28 D28;rintro _ rfl;exact aI rfl (ar (v:=.func _ _ _) rfl) rfl
   constructor
   ·rintro-w29 D29;rintro _ rfl;exact aI rfl (ar (v:=.slice _ _ _) rfl) rfl
   constructor
   ·rintro-w30 D30;rintro _ rfl;exact aI rfl (ar (v:=.int _ _) rfl) rfl
   constructor
   ·rintro-w31 D31;rintro _ rfl _ rfl _ rfl;exact aI rfl (dO aO rfl rfl (by omega)) rfl
   constructor
   ·rintro-w32 D32;rintro _ rfl _ rfl;exact aI rfl (bw (cs:=dV (SM.G Dz ys j)) bO bq rfl (ft bI Dz (hoy.kept_from D32) (by omega))) rfl
   constructor
   ·rintro-w33 D33;rintro _ rfl;exact aI rfl (ar (v:=.slice _ _ _) rfl) rfl
   constructor
   ·rintro-w34 D34;rintro _ rfl;exact aI rfl (ar (v:=.int _ _) rfl) rfl
   constructor
   ·rintro-w35 D35;rintro _ rfl _ rfl;exact aI rfl (ck (b:=1) rfl rfl (by omega)) rfl
   constructor
   ·rintro-w36 D36;rintro _ rfl _ rfl _ rfl;exact aI rfl (dO aO rfl rfl (by omega)) rfl
   constructor
   ·rintro-w37 D37;rintro _ rfl _ rfl;exact aI rfl (bw (cs:=dV (SM.G Dz ys (j-1))) bO bq rfl (ft bI Dz (hoy.kept_from D37) (by omega))) rfl
   constructor
   ·rintro-w38 D38;rintro _ rfl _ rfl v38_26 rfl v38_31 rfl;exact CP (caps:=[]) rfl rfl kX ((rS (SM.G Dz ys j) (SM.G Dz ys (j-1)) _).mono fun v w2 h=>⟨h.2,h.1⟩)
   constructor
   ·rintro-w39 D39;rintro _ rfl _ rfl;exact aI rfl (aX rfl rfl) rfl
   constructor
   ·rintro-w40 D40;rintro _ rfl _ rfl;exact ai (bc (v:=.bool _) rfl rfl) rfl
   exact trivial
  case hend=>
   intro w41 D41;rintro _ rfl _ rfl _ rfl _ rfl _ rfl _ rfl _ rfl _ rfl v26 rfl _ rfl _ rfl _ rfl _ rfl v31 rfl _ rfl _ rfl _ rfl;show St ..;have hM4:=D41;refine ah (ab (Li rfl (fun Q42=>?_) (fun Q42=>?_)))
   ·have hyl:=fS bI hoy;have hoy4:=hoy.kept_from hM4;refine au (ab (ag (az ?_)));have hU43:oG [(0,37,.slice (some ⟨g,0,none⟩) n c),(1,38,.int .i64 ((j:Nat):Int)),(2,39,.slice (some ⟨g,0,none⟩) n c),(3,40,.int .i64 ((j:Nat):Int)),(4,41,.int .i64 (((j-1):Nat):Int)),(5,42,.slice (some ⟨g,0,none⟩) n c),(6,43,.int .i64 ((j:Nat):Int)),(7,44,.int .i64 (((j-1):Nat):Int)),(8,45,.pointer (some ⟨g,0+(j-1)*2,none⟩)),(9,46,.agg (dV (SM.G Dz ys (j-1))).toArray),(10,47,.slice (some ⟨g,0,none⟩) n c),(11,48,.int .i64 ((j:Nat):Int)),(12,49,.pointer (some ⟨g,0+j*2,none⟩)),(13,50,.agg (dV (SM.G Dz ys j)).toArray),(14,51,.pointer (some ⟨g,0+j*2,none⟩)),(16,52,.pointer (some ⟨g,0+(j-1)*2,none⟩))]:=by simp [oG]
    refine pC [(0,37,.slice (some ⟨g,0,none⟩) n c),(1,38,.int .i64 ((j:Nat):Int)),(2,39,.slice (some ⟨g,0,none⟩) n c),(3,40,.int .i64 ((j:Nat):Int)),(4,41,.int .i64 (((j-1):Nat):Int)),(5,42,.slice (some ⟨g,0,none⟩) n c),(6,43,.int .i64 ((j:Nat):Int)),(7,44,.int .i64 (((j-1):Nat):Int)),(8,45,.pointer (some ⟨g,0+(j-1)*2,none⟩)),(9,46,.agg (dV (SM.G Dz ys (j-1))).toArray),(10,47,.slice (some ⟨g,0,none⟩) n c),(11,48,.int .i64 ((j:Nat):Int)),(12,49,.pointer (some ⟨g,0+j*2,none⟩)),(13,50,.agg (dV (SM.G Dz ys j)).toArray),(14,51,.pointer (some ⟨g,0+j*2,none⟩)),(16,52,.pointer (some ⟨g,0+(j-1)*2,none⟩))] (fun S w'=>World.grownBy w41 w' (some g)∧(S 15=false→w'.ownsRow base 37 2 (.slice (some ⟨g,0,none⟩) n c) n (List.flatMap dV ys))∧(S 15=true→S 9=true∧S 13=true)∧(S 15=true→S 17=false→w'.ownsRow base 37 2 (.slice (some ⟨g,0,none⟩) n c) n (List.flatMap dV (ys.set j (SM.G Dz ys (j-1)))))∧(S 15=true→S 17=true→w'.ownsRow base 37 2 (.slice (some ⟨g,0,none⟩) n c) n (List.flatMap dV ((ys.set j (SM.G Dz ys (j-1))).set (j-1) (SM.G Dz ys j))))∧(S 15=false→S 17=false)) (by kernel_rfl) (by kernel_rfl) hU43 (by simp) (⟨(aj.rfl_.d1 (a:=w41)).grown _,fun _=>hoy4.kept_from aj.rfl_.d1,fun q=>Bool.noConfusion q,fun q=>Bool.noConfusion q,fun q=>Bool.noConfusion q,fun _=>rfl⟩) ?_ ?_
    ·constructor
     ·rintro S L' wS hI hM hS0 ⟨-⟩;have e0:=hI.1 0 (by simp);have hM':=hM;obtain ⟨hG,hA,hB1,hC,hD,hE⟩:=hM';exact bB (ar e0) ⟨hI.put hU43 (.head _),hM⟩
     constructor
     ·rintro S L' wS hI hM hS0 ⟨-⟩;have e9:=hI.1 9 (by simp);have hM':=hM;obtain ⟨hG,hA,hB1,hC,hD,hE⟩:=hM';exact bB (ar e9) ⟨hI.put hU43 (.tail _ (.head _)),hM⟩
     constructor
     ·rintro S L' wS hI hM hS0 ⟨-,-⟩;have e0:=hI.1 0 (by simp);have hM':=hM;obtain ⟨hG,hA,hB1,hC,hD,hE⟩:=hM';exact bB (ar e0) ⟨hI.put hU43 (.tail _ (.tail _ (.head _))),hM⟩
     constructor
     ·rintro S L' wS hI hM hS0 ⟨-,-⟩;have e9:=hI.1 9 (by simp);have hM':=hM;obtain ⟨hG,hA,hB1,hC,hD,hE⟩:=hM';exact bB (ar e9) ⟨hI.put hU43 (.tail _ (.tail _ (.tail _ (.head _)))),hM⟩
     constructor
     ·rintro S L' wS hI hM hS0 ⟨d3,-,-⟩;have e40:bh L' 40=.int .i64 ((j:Nat):Int):=hI.get (i:=3) (.tail _ (.tail _ (.tail _ (.head _)))) d3;have hM':=hM;obtain ⟨hG,hA,hB1,hC,hD,hE⟩:=hM';exact bB (ck (a:=j) (b:=1) e40 rfl (by omega)) ⟨hI.put hU43 (.tail _ (.tail _ (.tail _ (.tail _ (.head _))))),hM⟩
     constructor
     ·rintro S L' wS hI hM hS0 ⟨-⟩;have e0:=hI.1 0 (by simp);have hM':=hM;obtain ⟨hG,hA,hB1,hC,hD,hE⟩:=hM';exact bB (ar e0) ⟨hI.put hU43 (.tail _ (.tail _ (.tail _ (.tail _ (.tail _ (.head _)))))),hM⟩
     constructor
     ·rintro S L' wS hI hM hS0 ⟨-⟩;have e9:=hI.1 9 (by simp);have hM':=hM;obtain ⟨hG,hA,hB1,hC,hD,hE⟩:=hM';exact bB (ar e9) ⟨hI.put hU43 (.tail _ (.tail _ (.tail _ (.tail _ (.tail _ (.tail _ (.head _))))))),hM⟩
     constructor
     ·rintro S L' wS hI hM hS0 ⟨d6,-⟩;have e43:bh L' 43=.int .i64 ((j:Nat):Int):=hI.get (i:=6) (.tail _ (.tail _ (.tail _ (.tail _ (.tail _ (.tail _ (.head _))))))) d6;have hM':=hM;obtain ⟨hG,hA,hB1,hC,hD,hE⟩:=hM';exact bB (ck (a:=j) (b:=1) e43 rfl (by omega)) ⟨hI.put hU43 (.tail _ (.tail _ (.tail _ (.tail _ (.tail _ (.tail _ (.tail _ (.head _)))))))),hM⟩
     constructor
     ·rintro S L' wS hI hM hS0 ⟨d5,d7,-⟩;have e42:bh L' 42=.slice (some ⟨g,0,none⟩) n c:=hI.get (i:=5) (.tail _ (.tail _ (.tail _ (.tail _ (.tail _ (.head _)))))) d5;have e44:bh L' 44=.int .i64 (((j-1):Nat):Int):=hI.get (i:=7) (.tail _ (.tail _ (.tail _ (.tail _ (.tail _ (.tail _ (.tail _ (.head _)))))))) d7;have hM':=hM;obtain ⟨hG,hA,hB1,hC,hD,hE⟩:=hM';exact bB (aG (i:=(j-1)) aO e42 e44 (by omega)) ⟨hI.put hU43 (.tail _ (.tail _ (.tail _ (.tail _ (.tail _ (.tail _ (.tail _ (.tail _ (.head _))))))))),hM⟩
     constructor
     ·rintro S L' wS hI hM hS0 ⟨d8,-⟩;have e45:bh L' 45=.pointer (some ⟨g,0+(j-1)*2,none⟩):=hI.get (i:=8) (.tail _ (.tail _ (.tail _ (.tail _ (.tail _ (.tail _ (.tail _ (.tail _ (.head _))))))))) d8;have hM':=hM;obtain ⟨hG,hA,hB1,hC,hD,hE⟩:=hM';exact bB (bw (cs:=dV (SM.G Dz ys (j-1))) bO bq e45 (ft bI Dz (hA (xo (fun q=>(hB1 q).1) hS0)) (by omega))) ⟨hI.put hU43 (.tail _ (.tail _ (.tail _ (.tail _ (.tail _ (.tail _ (.tail _ (.tail _ (.tail _ (.head _)))))))))),hG,hA,fun q=>⟨rfl,(hB1 q).2⟩,hC,hD,hE⟩
     constructor
     ·rintro S L' wS hI hM hS0 ⟨-⟩;have e0:=hI.1 0 (by simp);have hM':=hM;obtain ⟨hG,hA,hB1,hC,hD,hE⟩:=hM';exact bB (ar e0) ⟨hI.put hU43 (.tail _ (.tail _ (.tail _ (.tail _ (.tail _ (.tail _ (.tail _ (.tail _ (.tail _ (.tail _ (.head _))))))))))),hM⟩
     constructor
     ·rintro S L' wS hI hM hS0 ⟨-⟩;have e9:=hI.1 9 (by simp);have hM':=hM;obtain ⟨hG,hA,hB1,hC,hD,hE⟩:=hM';exact bB (ar e9) ⟨hI.put hU43 (.tail _ (.tail _ (.tail _ (.tail _ (.tail _ (.tail _ (.tail _ (.tail _ (.tail _ (.tail _ (.tail _ (.head _)))))))))))),hM⟩
     constructor
     ·rintro S L' wS hI hM hS0 ⟨d10,d11,-⟩;have e47:bh L' 47=.slice (some ⟨g,0,none⟩) n c:=hI.get (i:=10) (.tail _ (.tail _ (.tail _ (.tail _ (.tail _ (.tail _ (.tail _ (.tail _ (.tail _ (.tail _ (.head _))))))))))) d10;have e48:bh L' 48=.int .i64 ((j:Nat):Int):=hI.get (i:=11) (.tail _ (.tail _ (.tail _ (.tail _ (.tail _ (.tail _ (.tail _ (.tail _ (.tail _ (.tail _ (.tail _ (.head _)))))))))))) d11;have hM':=hM;obtain ⟨hG,hA,hB1,hC,hD,hE⟩:=hM';exact bB (aG (i:=j) aO e47 e48 (by omega)) ⟨hI.put hU43 (.tail _ (.tail _ (.tail _ (.tail _ (.tail _ (.tail _ (.tail _ (.tail _ (.tail _ (.tail _ (.tail _ (.tail _ (.head _))))))))))))),hM⟩
     constructor
     ·rintro S L' wS hI hM hS0 ⟨d12,-⟩;have e49:bh L' 49=.pointer (some ⟨g,0+j*2,none⟩):=hI.get (i:=12) (.tail _ (.tail _ (.tail _ (.tail _ (.tail _ (.tail _ (.tail _ (.tail _ (.tail _ (.tail _ (.tail _ (.tail _ (.head _))))))))))))) d12;have hM':=hM;obtain ⟨hG,hA,hB1,hC,hD,hE⟩:=hM';exact bB (bw (cs:=dV (SM.G Dz ys j)) bO bq e49 (ft bI Dz (hA (xo (fun q=>(hB1 q).2) hS0)) (by omega))) ⟨hI.put hU43 (.tail _ (.tail _ (.tail _ (.tail _ (.tail _ (.tail _ (.tail _ (.tail _ (.tail _ (.tail _ (.tail _ (.tail _ (.tail _ (.head _)))))))))))))),hG,hA,fun q=>⟨(hB1 q).1,rfl⟩,hC,hD,hE⟩
     constructor
     ·rintro S L' wS hI hM hS0 ⟨d0,d1,d0,d1,-,-,-,d5,d6,d7,d8,d9,-,-,-,d13,-⟩;have e37:bh L' 37=.slice (some ⟨g,0,none⟩) n c:=hI.get (i:=0) (.head _) d0;have e38:bh L' 38=.int .i64 ((j:Nat):Int):=hI.get (i:=1) (.tail _ (.head _)) d1;have hM':=hM;obtain ⟨hG,hA,hB1,hC,hD,hE⟩:=hM';exact bB (aG (i:=j) aO e37 e38 (by omega)) ⟨hI.put hU43 (.tail _ (.tail _ (.tail _ (.tail _ (.tail _ (.tail _ (.tail _ (.tail _ (.tail _ (.tail _ (.tail _ (.tail _ (.tail _ (.tail _ (.head _))))))))))))))),hM⟩
     constructor
     ·rintro S L' wS hI hM hS0 ⟨d14,d9,d0,d1,-,-,-,d5,d6,d7,d8,d9,-,-,-,d13,-⟩;have e46:bh L' 46=.agg (dV (SM.G Dz ys (j-1))).toArray:=hI.get (i:=9) (.tail _ (.tail _ (.tail _ (.tail _ (.tail _ (.tail _ (.tail _ (.tail _ (.tail _ (.head _)))))))))) d9;have e51:bh L' 51=.pointer (some ⟨g,0+j*2,none⟩):=hI.get (i:=14) (.tail _ (.tail _ (.tail _ (.tail _ (.tail _ (.tail _ (.tail _ (.tail _ (.tail _ (.tail _ (.tail _ (.tail _ (.tail _ (.tail _ (.head _))))))))))))))) d14;have hM':=hM;obtain ⟨hG,hA,hB1,hC,hD,hE⟩:=hM';obtain ⟨w2,hR,hO,hb⟩:=gh (n:=53) (L:=L') (x:=.tmp 51) (y:=.tmp 46) (f:=dV) bI jY (i:=j) bq e51 e46 (hA hS0) (by omega);exact iE hR ⟨hI.skip (by simp),aT hG hO.grown,fun q=>Bool.noConfusion q,fun _=>⟨d9,d13⟩,fun _ _=>hb,fun _ q=>Bool.noConfusion (q.symm.trans (hE hS0)),fun q=>Bool.noConfusion q⟩
     constructor
     ·rintro S L' wS hI hM hS0 ⟨d2,d4,d0,d1,d2,d3,d4,d5,d6,d7,d8,d9,d10,d11,d12,d13,d14,d15,-⟩;have e39:bh L' 39=.slice (some ⟨g,0,none⟩) n c:=hI.get (i:=2) (.tail _ (.tail _ (.head _))) d2;have e41:bh L' 41=.int .i64 (((j-1):Nat):Int):=hI.get (i:=4) (.tail _ (.tail _ (.tail _ (.tail _ (.head _))))) d4;have hM':=hM;obtain ⟨hG,hA,hB1,hC,hD,hE⟩:=hM';exact bB (aG (i:=(j-1)) aO e39 e41 (by omega)) ⟨hI.put hU43 (.tail _ (.tail _ (.tail _ (.tail _ (.tail _ (.tail _ (.tail _ (.tail _ (.tail _ (.tail _ (.tail _ (.tail _ (.tail _ (.tail _ (.tail _ (.head _)))))))))))))))),hM⟩
     constructor
     ·rintro S L' wS hI hM hS0 ⟨d16,d13,d15,d0,d1,d2,d3,d4,d5,d6,d7,d8,d9,d10,d11,d12,d13,d14,d15,-⟩;have e50:bh L' 50=.agg (dV (SM.G Dz ys j)).toArray:=hI.get (i:=13) (.tail _ (.tail _ (.tail _ (.tail _ (.tail _ (.tail _ (.tail _ (.tail _ (.tail _ (.tail _ (.tail _ (.tail _ (.tail _ (.head _)))))))))))))) d13;have e52:bh L' 52=.pointer (some ⟨g,0+(j-1)*2,none⟩):=hI.get (i:=16) (.tail _ (.tail _ (.tail _ (.tail _ (.tail _ (.tail _ (.tail _ (.tail _ (.tail _ (.tail _ (.tail _ (.tail _ (.tail _ (.tail _ (.tail _ (.head _)))))))))))))))) d16;have hM':=hM;obtain ⟨hG,hA,hB1,hC,hD,hE⟩:=hM';obtain ⟨w2,hR,hO,hb⟩:=gh (n:=53) (L:=L') (x:=.tmp 52) (y:=.tmp 50) (f:=dV) bI jY (i:=(j-1)) bq e52 e50 (hC d15 hS0) (by omega);exact iE hR ⟨hI.skip (by simp),aT hG hO.grown,fun q=>Bool.noConfusion (q.symm.trans d15),hB1,fun _ q=>Bool.noConfusion q,fun _ _=>hb,fun q=>Bool.noConfusion (q.symm.trans d15)⟩
     exact trivial
    ·intro w44 hM;obtain ⟨hG,hA,hB1,hC,hD,hE⟩:=hM;have hS9:=hD rfl rfl;change World.ownsRow _ _ _ _ _ _ (List.flatMap dV (SM.swp Dz ys j (j-1))) at hS9;refine aN (ab (aa (mvi rfl (ae (ck (b:=1) rfl rfl (by omega)) (asi rfl (ah ?_))))));refine aR ((j-1,SM.swp Dz ys j (j-1))) ⟨(by first | rfl | (refine aM ?_;omega)),trivial⟩ (by (iterate 72 refine aF rfl ?_);exact aK) ⟨?_,?_⟩
     ·exact ⟨by omega,by omega,hS9,aT (aT hG0 (hM4.grown _)) hG,hP.trans (.swap (by omega) (by omega) (by omega)),hR.step iJ (by omega) hji (by omega) (q0.1 (by omega))⟩
     ·show j-1-a<j-a;omega
   have hoz:=hoy.kept_from hM4;have hGz:=aT hG0 (hM4.grown _);have hRz:SM.Srt Dz ltD a (i+1) ys:=hR.stop iJ hj9 (fun h9=>by have:=q0.2 h9;omega);refine aZ (aD (aD (aU (aN (ab (aa (mvi rfl (ae (aJ (b:=1) rfl rfl (by omega)) (asi rfl (ah ?_))))))))));refine aR ((i+1,ys)) ⟨(by first | rfl | (refine aM ?_;omega)),trivial⟩ (by (iterate 104 refine aF rfl ?_);exact aK) ⟨?_,?_⟩
   ·exact ⟨by omega,.inl (by omega),hoz,hGz,hP,hRz⟩
   ·show b-(i+1)<b-i;omega
 refine aZ (aD (aD (aU (gZ (k_ rfl (⟨ys,hoy,hG0,hP,hR.sub (Nat.le_refl _) (by omega)⟩))))))
theorem Cz (base:Nat) (A:Option Addr) (c n:Nat) (xs:List Dc) (w:World) (ho:w.ownsRow base 37 2 (.slice A n c) n (xs.flatMap dV)) (hbs:base≤w.heap.size) (hl:n≤100000000) (a m b:Nat) (h1:a<m) (h2:m<b) (hbn:b≤n) :
 Rt prog 202 [.slice A n c,.int .i64 (a:Nat),.int .i64 (m:Nat),.int .i64 (b:Nat),.func (.func 119) #[] #[]] w (fun _ w'=>∃ ys,w'.ownsRow base 37 2 (.slice A n c) n (List.flatMap dV ys)∧w.grownBy w' (A.map (·.block))∧SM.PW Dz a b xs ys∧∀ k,SM.G Dz ys k=SM.rot a m b (SM.G Dz xs) k):=by
 refine enter (n:=58) Tryz.func202 rfl rfl rfl (ag (aa (mvi rfl (mvi rfl (ae (ck rfl rfl (by omega)) (asi rfl (ah (ab (ag (aa (mvi rfl (mvi rfl ?_))))))))))));refine ae (ck rfl rfl (by omega)) (asi rfl (ah (ab (ag (az (bg (G:=Nat×Nat×List Dc) [18,19,20,21,22,23,24,25,26,27,28,29,30,31,32,33,34,35,36,37,38,39,40,41,42,43,44,45,46,47,48,49] (fun (i,j,_)=>[(10,.int .i64 (i:Nat)),(11,.int .i64 (j:Nat))]) (fun (i,j,ys) w'=>0<i∧0<j∧a≤m-i∧i≤m∧m+j≤b∧w'.ownsRow base 37 2 (.slice A n c) n (List.flatMap dV ys)∧w.grownBy w' (A.map (·.block))∧SM.PW Dz a b xs ys∧∀ k,SM.rot (m-i) m (m+j) (SM.G Dz ys) k=SM.rot a m b (SM.G Dz xs) k) (fun (i,j,_)=>i+j) ((m-a,b-m,xs)) ⟨rfl,rfl,trivial⟩ ?_ ?_))))))
 ·exact ⟨by omega,by omega,by omega,by omega,by omega,ho,World.grownBy.refl _ _,.rfl_,fun k=>by rw [show m-(m-a)=a by omega,show m+(b-m)=b by omega]⟩
 rintro ⟨i,j,ys⟩ ρ1 w1 ⟨hi,hj,hia,him,hjb,hoy,hG0,hP,hR⟩;refine ag (ag (aa (mvi rfl (mvi rfl (ae (cq rfl rfl) (ah (ab (Lf rfl (fun Q2=>?_) (fun Q2=>?_)))))))))
 ·refine au (ab (az (ag (aa (mvi rfl (mvi rfl (ae (bU rfl rfl) (ah (ab (Li rfl (fun Q3=>?_) (fun Q3=>?_)))))))))))
  ·refine ag (aa (mvs rfl (mvi rfl (mvi rfl (ae (ck rfl rfl (by omega)) (mvi rfl (mvi rfl (ae (ar (v:=.func _ _ _) rfl) (aA ng (r8 base A c n ys _ hoy (Nat.le_trans hbs hG0.size) hl (m-i) m j (by omega) (by omega)) ?_)))))))));rintro v31 w4 ⟨zs,hoz,hGz,hPz,hRz⟩;refine ah (ab (aa (mvi rfl (mvi rfl (ae (ck rfl rfl (by omega)) (asi rfl (ah (aN ?_))))))));refine aR ((i-j,j,zs)) ⟨(by first | rfl | (refine aM ?_;omega)),(by first | rfl | (refine aM ?_;omega)),trivial⟩ (by (iterate 52 refine aF rfl ?_);exact aK) ⟨?_,?_⟩
   ·exact ⟨by omega,hj,by omega,by omega,hjb,hoz,aT hG0 hGz,hP.trans (hPz.wide (by omega) (by omega)),fun k=>(SM.rot_left hj (by omega) him hRz k).trans (hR k)⟩
   ·show i-j+j<i+j;omega
  refine ag (aa (mvs rfl (mvi rfl (mvi rfl (ae (ck rfl rfl (by omega)) (mvi rfl (mvi rfl (ae (aJ rfl rfl (by omega)) (mvi rfl ?_)))))))));refine ae (ck rfl rfl (by omega)) (mvi rfl (ae (ar (v:=.func _ _ _) rfl) (aA ng (r8 base A c n ys _ hoy (Nat.le_trans hbs hG0.size) hl (m-i) (m+j-i) i (by omega) (by omega)) ?_)));rintro v46 w5 ⟨zs,hoz,hGz,hPz,hRz⟩;refine ah (ab (aa (mvi rfl (mvi rfl (ae (ck rfl rfl (by omega)) (asi rfl (ah (aN ?_))))))));refine aR ((i,j-i,zs)) ⟨(by first | rfl | (refine aM ?_;omega)),(by first | rfl | (refine aM ?_;omega)),trivial⟩ (by (iterate 56 refine aF rfl ?_);exact aK) ⟨?_,?_⟩
  ·exact ⟨hi,by omega,hia,him,by omega,hoz,aT hG0 hGz,hP.trans (hPz.wide (by omega) (by omega)),fun k=>(SM.rot_right hi (by omega) him hRz k).trans (hR k)⟩
  ·show i+(j-i)<i+j;omega
 obtain rfl:i=j:=by omega
 refine aZ (aD (aD (aU (ab (aa (mvs rfl (mvi rfl (mvi rfl (ae (ck rfl rfl (by omega)) (mvi rfl (mvi rfl (ae (ar (v:=.func _ _ _) rfl) ?_))))))))))));refine aA ng (r8 base A c n ys _ hoy (Nat.le_trans hbs hG0.size) hl (m-i) m i (by omega) (by omega)) ?_;rintro v57 w6 ⟨zs,hoz,hGz,hPz,hRz⟩;refine ah (gZ (k_ rfl (⟨zs,hoz,aT hG0 hGz,hP.trans (hPz.wide (by omega) (by omega)),fun k=>(SM.rot_same him hRz k).trans (hR k)⟩)))
theorem Ad:aH prog 202=true:=by kernel_rfl
theorem ma:aH prog 180=true:=by kernel_rfl
theorem DW (base:Nat) (A:Option Addr) (c n:Nat) (xs:List Dc) (w:World) (ho:w.ownsRow base 37 2 (.slice A n c) n (xs.flatMap dV)) (hbs:base≤w.heap.size) (hl:n≤100000000) (a m b:Nat) (h1:a<m) (h2:m<b) (hbn:b≤n) (s1:SM.Srt Dz ltD a m xs) (s2:SM.Srt Dz ltD m b xs) (IH:∀ (xs:List Dc) (w:World) (a' m' b':Nat),w.ownsRow base 37 2 (.slice A n c) n (xs.flatMap dV)→base≤w.heap.size→a'<m'→m'<b'→b'≤n→b'-a'<b-a→SM.Srt Dz ltD a' m' xs→SM.Srt Dz ltD m' b' xs→Rt prog 180 [.slice A n c,.int .i64 (a':Nat),.int .i64 (m':Nat),.int .i64 (b':Nat),.func (.func 119) #[] #[]] w (fun _ w'=>∃ ys,w'.ownsRow base 37 2 (.slice A n c) n (List.flatMap dV ys)∧w.grownBy w' (A.map (·.block))∧SM.PW Dz a' b' xs ys∧SM.Srt Dz ltD a' b' ys)) :
 Rt prog 180 [.slice A n c,.int .i64 (a:Nat),.int .i64 (m:Nat),.int .i64 (b:Nat),.func (.func 119) #[] #[]] w (fun _ w'=>∃ ys,w'.ownsRow base 37 2 (.slice A n c) n (List.flatMap dV ys)∧w.grownBy w' (A.map (·.block))∧SM.PW Dz a b xs ys∧SM.Srt Dz ltD a b ys):=by
 have hxl:=fS bI ho;obtain ⟨g,rfl⟩:=dF ho (by omega);refine enter (n:=220) Tryz.func180 rfl rfl rfl (ag (ag (aa (mvi rfl (mvi rfl (ae (ck rfl rfl (by omega)) (ae (cF rfl rfl) (ah (ab (Li rfl (fun Q1=>?_) (fun Q1=>?_)))))))))))
 ·refine ag (aa (mvi rfl (asi rfl (ah (ab (ag (aa (mvi rfl (asi rfl (ah (ab (ag (az (bg (G:=Nat×Nat) [12,31,32,33,34,35,36,37,38,39,40,41,42,43,44,45,46,47,48,49,50,51,52,53] (fun (i,j)=>[(10,.int .i64 (i:Nat)),(11,.int .i64 (j:Nat))]) (fun (i,j) w'=>m≤i∧i≤j∧j≤b∧(i=m∨ltD (SM.G Dz xs (i-1)) (SM.G Dz xs a))∧(j=b∨¬ ltD (SM.G Dz xs j) (SM.G Dz xs a))∧w'.ownsRow base 37 2 (.slice (some ⟨g,0,none⟩) n c) n (List.flatMap dV xs)∧w.grownBy w' (some g)) (fun (i,j)=>j-i) ((m,b)) ⟨rfl,rfl,trivial⟩ ?_ ?_))))))))))))))
  ·exact ⟨Nat.le_refl _,by omega,Nat.le_refl _,.inl rfl,.inl rfl,ho,World.grownBy.refl _ _⟩
  rintro ⟨i,j⟩ ρ2 w2 ⟨h3,h4,h5,hlo,hhi,hoy,hG0⟩;refine ag (ag (aa (mvi rfl (mvi rfl (ae (aX rfl rfl) (ah (ab (Li rfl (fun Q3=>?_) (fun Q3=>?_)))))))))
  ·refine au (ab (az (ag (aa (mvi rfl (mvi rfl (ae (aJ rfl rfl (by omega)) ?_)))))));obtain ⟨h,hh⟩:∃ h,h=(i+j)/2 ^ 1:=⟨_,rfl⟩;refine ae (fq eE fw rfl (by omega)) (ae (e_ (b:=1) rfl rfl (by decide)) (ae (eD gG eW rfl (by omega)) (dE (t:=39) (v:=.int _ _) (v':=.int .i64 (h:Nat)) rfl (by rw [hh]) ?_)));refine asi rfl (ah (ab (ag ?_)));apply bH 11 [(40,eqp _),(41,eqp _),(42,eqp _),(43,eqp _),(44,eqp (.agg (dV (SM.G Dz xs h)).toArray)),(45,eqp _),(46,eqp _),(47,eqp _),(48,eqp (.agg (dV (SM.G Dz xs a)).toArray)),(49,eqp _),(50,eqp _)] (by repeat first | exact bT | refine bS ?_ | refine bG ?_) (by kernel_rfl) (by kernel_rfl) ⟨af _,af _,af _,af _,af _,af _,af _,af _,af _,af _,af _,trivial⟩
   case hop=>
    constructor
    ·rintro-w5 D5;exact ai (ar (v:=.func _ _ _) rfl) rfl
    constructor
    ·rintro-w6 D6;exact ai (ar (v:=.slice _ _ _) rfl) rfl
    constructor
    ·rintro-w7 D7;exact ai (ar (v:=.int _ _) rfl) rfl
    constructor
    ·rintro-w8 D8;rintro _ rfl _ rfl;exact ai (aG aO rfl rfl (by omega)) rfl
    constructor
    ·rintro-w9 D9;rintro _ rfl;exact ai (bw (cs:=dV (SM.G Dz xs h)) bO bq rfl (ft bI Dz (hoy.kept_from D9) (by omega))) rfl
    constructor
    ·rintro-w10 D10;exact ai (ar (v:=.slice _ _ _) rfl) rfl
    constructor
    ·rintro-w11 D11;exact ai (ar (v:=.int _ _) rfl) rfl
    constructor
    ·rintro-w12 D12;rintro _ rfl _ rfl;exact ai (aG aO rfl rfl (by omega)) rfl
    constructor
    ·rintro-w13 D13;rintro _ rfl;exact ai (bw (cs:=dV (SM.G Dz xs a)) bO bq rfl (ft bI Dz (hoy.kept_from D13) (by omega))) rfl
    constructor
    ·rintro-w14 D14;rintro _ rfl v14_44 rfl v14_48 rfl;exact sL (caps:=[]) rfl kX ((rS (SM.G Dz xs h) (SM.G Dz xs a) _).mono fun v w2 h=>⟨h.2,h.1⟩)
    constructor
    ·rintro-w15 D15;rintro _ rfl;exact ai (aX rfl rfl) rfl
    exact trivial
   case hend=>
    intro w16 D16;rintro _ rfl _ rfl _ rfl _ rfl v44 rfl _ rfl _ rfl _ rfl v48 rfl _ rfl _ rfl;show St ..;replace hG0:=aT hG0 (D16.grown _);replace hoy:=hoy.kept_from D16;refine ah (ab (Li rfl (fun Q17=>?_) (fun Q17=>?_)))
    ·have hlt:=q0.1 (show jG (SM.G Dz xs h).1 (SM.G Dz xs a).1<0 by omega);refine aa (mvi rfl (ae (aJ (b:=1) rfl rfl (by omega)) (asi rfl (ah (aN ?_)))));refine aR ((h+1,j)) ⟨(by first | rfl | (refine aM ?_;omega)),(by first | rfl | (refine aM ?_;omega)),trivial⟩ (by (iterate 51 refine aF rfl ?_);exact aK) ⟨?_,?_⟩
     ·exact ⟨by omega,by omega,h5,.inr (by rw [show h+1-1=h by omega];exact hlt),hhi,hoy,hG0⟩
     ·show j-(h+1)<j-i;omega
    have hnl:¬ ltD (SM.G Dz xs h) (SM.G Dz xs a):=fun h9=>by have:=q0.2 h9;omega
    refine aa (mvi rfl (asi rfl (ah (aN ?_))));refine aR ((i,h)) ⟨(by first | rfl | (refine aM ?_;omega)),(by first | rfl | (refine aM ?_;omega)),trivial⟩ (by (iterate 50 refine aF rfl ?_);exact aK) ⟨?_,?_⟩
    ·exact ⟨h3,by omega,by omega,hlo,.inr hnl,hoy,hG0⟩
    ·show h-i<j-i;omega
  refine aZ (aD (aD (aU (ab (ag (ag (aa (mvi rfl (asi rfl (ah (ab (az (bg (G:=Nat×List Dc) [55,56,57,58,59,60,61,62,63,64,65,66,67,68,69,70,71,72,73,74,75,76] (fun (k,_)=>[(13,.int .i64 (k:Nat))]) (fun (k,ys) w'=>a≤k∧k≤i-1∧w'.ownsRow base 37 2 (.slice (some ⟨g,0,none⟩) n c) n (List.flatMap dV ys)∧w.grownBy w' (some g)∧SM.PW Dz a b xs ys∧∀ t,SM.G Dz ys t=SM.mvl a k (SM.G Dz xs) t) (fun (k,_)=>i-k) ((a,xs)) ⟨rfl,trivial⟩ ?_ ?_)))))))))))))
  ·exact ⟨Nat.le_refl _,by omega,hoy,hG0,.rfl_,fun t=>(SM.mvl_zero _ t).symm⟩
  rintro ⟨k,ys⟩ ρ18 w18 ⟨hka,hki,hoy,hG0,hP,hR⟩;have hyl:=fS bI hoy;refine ag (ag (aa (mvi rfl (mvi rfl (ae (ck (b:=1) rfl rfl (by omega)) (ae (aX rfl rfl) (ah (ab (Li rfl (fun Q19=>?_) (fun Q19=>?_))))))))))
  ·refine au (ab (ag (az ?_)));have hU20:oG [(0,61,.slice (some ⟨g,0,none⟩) n c),(1,62,.int .i64 ((k:Nat):Int)),(2,63,.slice (some ⟨g,0,none⟩) n c),(3,64,.int .i64 ((k:Nat):Int)),(4,65,.int .i64 (((k+1):Nat):Int)),(5,66,.slice (some ⟨g,0,none⟩) n c),(6,67,.int .i64 ((k:Nat):Int)),(7,68,.int .i64 (((k+1):Nat):Int)),(8,69,.pointer (some ⟨g,0+(k+1)*2,none⟩)),(9,70,.agg (dV (SM.G Dz ys (k+1))).toArray),(10,71,.slice (some ⟨g,0,none⟩) n c),(11,72,.int .i64 ((k:Nat):Int)),(12,73,.pointer (some ⟨g,0+k*2,none⟩)),(13,74,.agg (dV (SM.G Dz ys k)).toArray),(14,75,.pointer (some ⟨g,0+k*2,none⟩)),(16,76,.pointer (some ⟨g,0+(k+1)*2,none⟩))]:=by simp [oG]
   refine pC [(0,61,.slice (some ⟨g,0,none⟩) n c),(1,62,.int .i64 ((k:Nat):Int)),(2,63,.slice (some ⟨g,0,none⟩) n c),(3,64,.int .i64 ((k:Nat):Int)),(4,65,.int .i64 (((k+1):Nat):Int)),(5,66,.slice (some ⟨g,0,none⟩) n c),(6,67,.int .i64 ((k:Nat):Int)),(7,68,.int .i64 (((k+1):Nat):Int)),(8,69,.pointer (some ⟨g,0+(k+1)*2,none⟩)),(9,70,.agg (dV (SM.G Dz ys (k+1))).toArray),(10,71,.slice (some ⟨g,0,none⟩) n c),(11,72,.int .i64 ((k:Nat):Int)),(12,73,.pointer (some ⟨g,0+k*2,none⟩)),(13,74,.agg (dV (SM.G Dz ys k)).toArray),(14,75,.pointer (some ⟨g,0+k*2,none⟩)),(16,76,.pointer (some ⟨g,0+(k+1)*2,none⟩))] (fun S w'=>World.grownBy w18 w' (some g)∧(S 15=false→w'.ownsRow base 37 2 (.slice (some ⟨g,0,none⟩) n c) n (List.flatMap dV ys))∧(S 15=true→S 9=true∧S 13=true)∧(S 15=true→S 17=false→w'.ownsRow base 37 2 (.slice (some ⟨g,0,none⟩) n c) n (List.flatMap dV (ys.set k (SM.G Dz ys (k+1)))))∧(S 15=true→S 17=true→w'.ownsRow base 37 2 (.slice (some ⟨g,0,none⟩) n c) n (List.flatMap dV ((ys.set k (SM.G Dz ys (k+1))).set (k+1) (SM.G Dz ys k))))∧(S 15=false→S 17=false)) (by kernel_rfl) (by kernel_rfl) hU20 (by simp) (⟨(aj.rfl_.d1 (a:=w18)).grown _,fun _=>hoy.kept_from aj.rfl_.d1,fun q=>Bool.noConfusion q,fun q=>Bool.noConfusion q,fun q=>Bool.noConfusion q,fun _=>rfl⟩) ?_ ?_
   ·constructor
    ·rintro S L' wS hI hM hS0 ⟨-⟩;have e0:=hI.1 0 (by simp);have hM':=hM;obtain ⟨hG,hA,hB1,hC,hD,hE⟩:=hM';exact bB (ar e0) ⟨hI.put hU20 (.head _),hM⟩
    constructor
    ·rintro S L' wS hI hM hS0 ⟨-⟩;have e13:=hI.1 13 (by simp);have hM':=hM;obtain ⟨hG,hA,hB1,hC,hD,hE⟩:=hM';exact bB (ar e13) ⟨hI.put hU20 (.tail _ (.head _)),hM⟩
    constructor
    ·rintro S L' wS hI hM hS0 ⟨-,-⟩;have e0:=hI.1 0 (by simp);have hM':=hM;obtain ⟨hG,hA,hB1,hC,hD,hE⟩:=hM';exact bB (ar e0) ⟨hI.put hU20 (.tail _ (.tail _ (.head _))),hM⟩
    constructor
    ·rintro S L' wS hI hM hS0 ⟨-,-⟩;have e13:=hI.1 13 (by simp);have hM':=hM;obtain ⟨hG,hA,hB1,hC,hD,hE⟩:=hM';exact bB (ar e13) ⟨hI.put hU20 (.tail _ (.tail _ (.tail _ (.head _)))),hM⟩
    constructor
    ·rintro S L' wS hI hM hS0 ⟨d3,-,-⟩;have e64:bh L' 64=.int .i64 ((k:Nat):Int):=hI.get (i:=3) (.tail _ (.tail _ (.tail _ (.head _)))) d3;have hM':=hM;obtain ⟨hG,hA,hB1,hC,hD,hE⟩:=hM';exact bB (aJ (a:=k) (b:=1) e64 rfl (by omega)) ⟨hI.put hU20 (.tail _ (.tail _ (.tail _ (.tail _ (.head _))))),hM⟩
    constructor
    ·rintro S L' wS hI hM hS0 ⟨-⟩;have e0:=hI.1 0 (by simp);have hM':=hM;obtain ⟨hG,hA,hB1,hC,hD,hE⟩:=hM';exact bB (ar e0) ⟨hI.put hU20 (.tail _ (.tail _ (.tail _ (.tail _ (.tail _ (.head _)))))),hM⟩
    constructor
    ·rintro S L' wS hI hM hS0 ⟨-⟩;have e13:=hI.1 13 (by simp);have hM':=hM;obtain ⟨hG,hA,hB1,hC,hD,hE⟩:=hM';exact bB (ar e13) ⟨hI.put hU20 (.tail _ (.tail _ (.tail _ (.tail _ (.tail _ (.tail _ (.head _))))))),hM⟩
    constructor
    ·rintro S L' wS hI hM hS0 ⟨d6,-⟩;have e67:bh L' 67=.int .i64 ((k:Nat):Int):=hI.get (i:=6) (.tail _ (.tail _ (.tail _ (.tail _ (.tail _ (.tail _ (.head _))))))) d6;have hM':=hM;obtain ⟨hG,hA,hB1,hC,hD,hE⟩:=hM';exact bB (aJ (a:=k) (b:=1) e67 rfl (by omega)) ⟨hI.put hU20 (.tail _ (.tail _ (.tail _ (.tail _ (.tail _ (.tail _ (.tail _ (.head _)))))))),hM⟩
    constructor
    ·rintro S L' wS hI hM hS0 ⟨d5,d7,-⟩;have e66:bh L' 66=.slice (some ⟨g,0,none⟩) n c:=hI.get (i:=5) (.tail _ (.tail _ (.tail _ (.tail _ (.tail _ (.head _)))))) d5;have e68:bh L' 68=.int .i64 (((k+1):Nat):Int):=hI.get (i:=7) (.tail _ (.tail _ (.tail _ (.tail _ (.tail _ (.tail _ (.tail _ (.head _)))))))) d7;have hM':=hM;obtain ⟨hG,hA,hB1,hC,hD,hE⟩:=hM';exact bB (aG (i:=(k+1)) aO e66 e68 (by omega)) ⟨hI.put hU20 (.tail _ (.tail _ (.tail _ (.tail _ (.tail _ (.tail _ (.tail _ (.tail _ (.head _))))))))),hM⟩
    constructor
    ·rintro S L' wS hI hM hS0 ⟨d8,-⟩;have e69:bh L' 69=.pointer (some ⟨g,0+(k+1)*2,none⟩):=hI.get (i:=8) (.tail _ (.tail _ (.tail _ (.tail _ (.tail _ (.tail _ (.tail _ (.tail _ (.head _))))))))) d8;have hM':=hM;obtain ⟨hG,hA,hB1,hC,hD,hE⟩:=hM';exact bB (bw (cs:=dV (SM.G Dz ys (k+1))) bO bq e69 (ft bI Dz (hA (xo (fun q=>(hB1 q).1) hS0)) (by omega))) ⟨hI.put hU20 (.tail _ (.tail _ (.tail _ (.tail _ (.tail _ (.tail _ (.tail _ (.tail _ (.tail _ (.head _)))))))))),hG,hA,fun q=>⟨rfl,(hB1 q).2⟩,hC,hD,hE⟩
    constructor
    ·rintro S L' wS hI hM hS0 ⟨-⟩;have e0:=hI.1 0 (by simp);have hM':=hM;obtain ⟨hG,hA,hB1,hC,hD,hE⟩:=hM';exact bB (ar e0) ⟨hI.put hU20 (.tail _ (.tail _ (.tail _ (.tail _ (.tail _ (.tail _ (.tail _ (.tail _ (.tail _ (.tail _ (.head _))))))))))),hM⟩
    constructor
    ·rintro S L' wS hI hM hS0 ⟨-⟩;have e13:=hI.1 13 (by simp);have hM':=hM;obtain ⟨hG,hA,hB1,hC,hD,hE⟩:=hM';exact bB (ar e13) ⟨hI.put hU20 (.tail _ (.tail _ (.tail _ (.tail _ (.tail _ (.tail _ (.tail _ (.tail _ (.tail _ (.tail _ (.tail _ (.head _)))))))))))),hM⟩
    constructor
    ·rintro S L' wS hI hM hS0 ⟨d10,d11,-⟩;have e71:bh L' 71=.slice (some ⟨g,0,none⟩) n c:=hI.get (i:=10) (.tail _ (.tail _ (.tail _ (.tail _ (.tail _ (.tail _ (.tail _ (.tail _ (.tail _ (.tail _ (.head _))))))))))) d10;have e72:bh L' 72=.int .i64 ((k:Nat):Int):=hI.get (i:=11) (.tail _ (.tail _ (.tail _ (.tail _ (.tail _ (.tail _ (.tail _ (.tail _ (.tail _ (.tail _ (.tail _ (.head _)))))))))))) d11;have hM':=hM;obtain ⟨hG,hA,hB1,hC,hD,hE⟩:=hM';exact bB (aG (i:=k) aO e71 e72 (by omega)) ⟨hI.put hU20 (.tail _ (.tail _ (.tail _ (.tail _ (.tail _ (.tail _ (.tail _ (.tail _ (.tail _ (.tail _ (.tail _ (.tail _ (.head _))))))))))))),hM⟩
    constructor
    ·rintro S L' wS hI hM hS0 ⟨d12,-⟩;have e73:bh L' 73=.pointer (some ⟨g,0+k*2,none⟩):=hI.get (i:=12) (.tail _ (.tail _ (.tail _ (.tail _ (.tail _ (.tail _ (.tail _ (.tail _ (.tail _ (.tail _ (.tail _ (.tail _ (.head _))))))))))))) d12;have hM':=hM;obtain ⟨hG,hA,hB1,hC,hD,hE⟩:=hM';exact bB (bw (cs:=dV (SM.G Dz ys k)) bO bq e73 (ft bI Dz (hA (xo (fun q=>(hB1 q).2) hS0)) (by omega))) ⟨hI.put hU20 (.tail _ (.tail _ (.tail _ (.tail _ (.tail _ (.tail _ (.tail _ (.tail _ (.tail _ (.tail _ (.tail _ (.tail _ (.tail _ (.head _)))))))))))))),hG,hA,fun q=>⟨(hB1 q).1,rfl⟩,hC,hD,hE⟩
    constructor
    ·rintro S L' wS hI hM hS0 ⟨d0,d1,d0,d1,-,-,-,d5,d6,d7,d8,d9,-,-,-,d13,-⟩;have e61:bh L' 61=.slice (some ⟨g,0,none⟩) n c:=hI.get (i:=0) (.head _) d0;have e62:bh L' 62=.int .i64 ((k:Nat):Int):=hI.get (i:=1) (.tail _ (.head _)) d1;have hM':=hM;obtain ⟨hG,hA,hB1,hC,hD,hE⟩:=hM';exact bB (aG (i:=k) aO e61 e62 (by omega)) ⟨hI.put hU20 (.tail _ (.tail _ (.tail _ (.tail _ (.tail _ (.tail _ (.tail _ (.tail _ (.tail _ (.tail _ (.tail _ (.tail _ (.tail _ (.tail _ (.head _))))))))))))))),hM⟩
    constructor
    ·rintro S L' wS hI hM hS0 ⟨d14,d9,d0,d1,-,-,-,d5,d6,d7,d8,d9,-,-,-,d13,-⟩;have e70:bh L' 70=.agg (dV (SM.G Dz ys (k+1))).toArray:=hI.get (i:=9) (.tail _ (.tail _ (.tail _ (.tail _ (.tail _ (.tail _ (.tail _ (.tail _ (.tail _ (.head _)))))))))) d9;have e75:bh L' 75=.pointer (some ⟨g,0+k*2,none⟩):=hI.get (i:=14) (.tail _ (.tail _ (.tail _ (.tail _ (.tail _ (.tail _ (.tail _ (.tail _ (.tail _ (.tail _ (.tail _ (.tail _ (.tail _ (.tail _ (.head _))))))))))))))) d14;have hM':=hM;obtain ⟨hG,hA,hB1,hC,hD,hE⟩:=hM';obtain ⟨w2,hR,hO,hb⟩:=gh (n:=220) (L:=L') (x:=.tmp 75) (y:=.tmp 70) (f:=dV) bI jY (i:=k) bq e75 e70 (hA hS0) (by omega);exact iE hR ⟨hI.skip (by simp),aT hG hO.grown,fun q=>Bool.noConfusion q,fun _=>⟨d9,d13⟩,fun _ _=>hb,fun _ q=>Bool.noConfusion (q.symm.trans (hE hS0)),fun q=>Bool.noConfusion q⟩
    constructor
    ·rintro S L' wS hI hM hS0 ⟨d2,d4,d0,d1,d2,d3,d4,d5,d6,d7,d8,d9,d10,d11,d12,d13,d14,d15,-⟩;have e63:bh L' 63=.slice (some ⟨g,0,none⟩) n c:=hI.get (i:=2) (.tail _ (.tail _ (.head _))) d2;have e65:bh L' 65=.int .i64 (((k+1):Nat):Int):=hI.get (i:=4) (.tail _ (.tail _ (.tail _ (.tail _ (.head _))))) d4;have hM':=hM;obtain ⟨hG,hA,hB1,hC,hD,hE⟩:=hM';exact bB (aG (i:=(k+1)) aO e63 e65 (by omega)) ⟨hI.put hU20 (.tail _ (.tail _ (.tail _ (.tail _ (.tail _ (.tail _ (.tail _ (.tail _ (.tail _ (.tail _ (.tail _ (.tail _ (.tail _ (.tail _ (.tail _ (.head _)))))))))))))))),hM⟩
    constructor
    ·rintro S L' wS hI hM hS0 ⟨d16,d13,d15,d0,d1,d2,d3,d4,d5,d6,d7,d8,d9,d10,d11,d12,d13,d14,d15,-⟩;have e74:bh L' 74=.agg (dV (SM.G Dz ys k)).toArray:=hI.get (i:=13) (.tail _ (.tail _ (.tail _ (.tail _ (.tail _ (.tail _ (.tail _ (.tail _ (.tail _ (.tail _ (.tail _ (.tail _ (.tail _ (.head _)))))))))))))) d13;have e76:bh L' 76=.pointer (some ⟨g,0+(k+1)*2,none⟩):=hI.get (i:=16) (.tail _ (.tail _ (.tail _ (.tail _ (.tail _ (.tail _ (.tail _ (.tail _ (.tail _ (.tail _ (.tail _ (.tail _ (.tail _ (.tail _ (.tail _ (.head _)))))))))))))))) d16;have hM':=hM;obtain ⟨hG,hA,hB1,hC,hD,hE⟩:=hM';obtain ⟨w2,hR,hO,hb⟩:=gh (n:=220) (L:=L') (x:=.tmp 76) (y:=.tmp 74) (f:=dV) bI jY (i:=(k+1)) bq e76 e74 (hC d15 hS0) (by omega);exact iE hR ⟨hI.skip (by simp),aT hG hO.grown,fun q=>Bool.noConfusion (q.symm.trans d15),hB1,fun _ q=>Bool.noConfusion q,fun _ _=>hb,fun q=>Bool.noConfusion (q.symm.trans d15)⟩
    exact trivial
   ·intro w21 hM;obtain ⟨hG,hA,hB1,hC,hD,hE⟩:=hM;have hS9:=hD rfl rfl;change World.ownsRow _ _ _ _ _ _ (List.flatMap dV (SM.swp Dz ys k (k+1))) at hS9;refine aN (ab (aa (mvi rfl (ae (aJ (b:=1) rfl rfl (by omega)) (asi rfl (ah ?_))))));refine aR ((k+1,SM.swp Dz ys k (k+1))) ⟨(by first | rfl | (refine aM ?_;omega)),trivial⟩ (by (iterate 46 refine aF rfl ?_);exact aK) ⟨?_,?_⟩
    ·exact ⟨by omega,by omega,hS9,aT hG0 hG,hP.trans (.swap (by omega) (by omega) (by omega)),SM.mvl_succ hR hka (by omega)⟩
    ·show i-(k+1)<i-k;omega
  refine aZ (aD (aD (aU (ab (ay (aC (k_ rfl ?_)))))));obtain rfl:k=i-1:=by omega
  exact ⟨ys,hoy,hG0,hP,SM.mrg_first iJ (by omega) s2 ⟨h3,by omega⟩ hlo (by rw [show i=j by omega];exact hhi) hR⟩
 refine au (ab (ag (ag (aa (mvi rfl (mvi rfl (ae (ck rfl rfl (by omega)) (ae (cF rfl rfl) (ah (ab (Li rfl (fun Q22=>?_) (fun Q22=>?_))))))))))))
 ·refine ag (aa (mvi rfl (asi rfl (ah (ab (ag (aa (mvi rfl (asi rfl (ah (ab (ag (az (bg (G:=Nat×Nat) [16,83,84,85,86,87,88,89,90,91,92,93,94,95,96,97,98,99,100,101,102,103,104,105,106] (fun (i,j)=>[(14,.int .i64 (i:Nat)),(15,.int .i64 (j:Nat))]) (fun (i,j) w'=>a≤i∧i≤j∧j≤m∧(i=a∨¬ ltD (SM.G Dz xs m) (SM.G Dz xs (i-1)))∧(j=m∨ltD (SM.G Dz xs m) (SM.G Dz xs j))∧w'.ownsRow base 37 2 (.slice (some ⟨g,0,none⟩) n c) n (List.flatMap dV xs)∧w.grownBy w' (some g)) (fun (i,j)=>j-i) ((a,m)) ⟨rfl,rfl,trivial⟩ ?_ ?_))))))))))))))
  ·exact ⟨Nat.le_refl _,by omega,Nat.le_refl _,.inl rfl,.inl rfl,ho,World.grownBy.refl _ _⟩
  rintro ⟨i,j⟩ ρ23 w23 ⟨h3,h4,h5,hlo,hhi,hoy,hG0⟩;refine ag (ag (aa (mvi rfl (mvi rfl (ae (aX rfl rfl) (ah (ab (Li rfl (fun Q24=>?_) (fun Q24=>?_)))))))))
  ·refine au (ab (az (ag (aa (mvi rfl (mvi rfl (ae (aJ rfl rfl (by omega)) ?_)))))));obtain ⟨h,hh⟩:∃ h,h=(i+j)/2 ^ 1:=⟨_,rfl⟩;refine ae (fq eE fw rfl (by omega)) (ae (e_ (b:=1) rfl rfl (by decide)) (ae (eD gG eW rfl (by omega)) (dE (t:=91) (v:=.int _ _) (v':=.int .i64 (h:Nat)) rfl (by rw [hh]) ?_)));refine asi rfl (ah (ab (ag ?_)));apply bH 12 [(92,eqp _),(93,eqp _),(94,eqp _),(95,eqp _),(96,eqp (.agg (dV (SM.G Dz xs m)).toArray)),(97,eqp _),(98,eqp _),(99,eqp _),(100,eqp (.agg (dV (SM.G Dz xs h)).toArray)),(101,eqp _),(102,eqp _),(103,eqp _)] (by repeat first | exact bT | refine bS ?_ | refine bG ?_) (by kernel_rfl) (by kernel_rfl) ⟨af _,af _,af _,af _,af _,af _,af _,af _,af _,af _,af _,af _,trivial⟩
   case hop=>
    constructor
    ·rintro-w26 D26;exact ai (ar (v:=.func _ _ _) rfl) rfl
    constructor
    ·rintro-w27 D27;exact ai (ar (v:=.slice _ _ _) rfl) rfl
    constructor
    ·rintro-w28 D28;exact ai (ar (v:=.int _ _) rfl) rfl
    constructor
    ·rintro-w29 D29;rintro _ rfl _ rfl;exact ai (aG aO rfl rfl (by omega)) rfl
    constructor
    ·rintro-w30 D30;rintro _ rfl;exact ai (bw (cs:=dV (SM.G Dz xs m)) bO bq rfl (ft bI Dz (hoy.kept_from D30) (by omega))) rfl
    constructor
    ·rintro-w31 D31;exact ai (ar (v:=.slice _ _ _) rfl) rfl
    constructor
    ·rintro-w32 D32;exact ai (ar (v:=.int _ _) rfl) rfl
    constructor
    ·rintro-w33 D33;rintro _ rfl _ rfl;exact ai (aG aO rfl rfl (by omega)) rfl
    constructor
    ·rintro-w34 D34;rintro _ rfl;exact ai (bw (cs:=dV (SM.G Dz xs h)) bO bq rfl (ft bI Dz (hoy.kept_from D34) (by omega))) rfl
    constructor
    ·rintro-w35 D35;rintro _ rfl v35_96 rfl v35_100 rfl;exact sL (caps:=[]) rfl kX ((rS (SM.G Dz xs m) (SM.G Dz xs h) _).mono fun v w2 h=>⟨h.2,h.1⟩)
    constructor
    ·rintro-w36 D36;rintro _ rfl;exact ai (aX rfl rfl) rfl
    constructor
    ·rintro-w37 D37;rintro _ rfl;exact ai (dZ rfl) rfl
    exact trivial
   case hend=>
    intro w38 D38;rintro _ rfl _ rfl _ rfl _ rfl v96 rfl _ rfl _ rfl _ rfl v100 rfl _ rfl _ rfl _ rfl;show St ..;replace hG0:=aT hG0 (D38.grown _);replace hoy:=hoy.kept_from D38;refine ah (ab (av rfl (fun Q39=>?_) (fun Q39=>?_)))
    ·with_reducible (replace Q39:=fx Q39;replace Q39:=dF_ Q39)
     have hnl:¬ ltD (SM.G Dz xs m) (SM.G Dz xs h):=fun h9=>by
      have h8:=q0.2 h9;exact absurd h8 (by omega)
     refine aa (mvi rfl (ae (aJ (b:=1) rfl rfl (by omega)) (asi rfl (ah (aN ?_)))));refine aR ((h+1,j)) ⟨(by first | rfl | (refine aM ?_;omega)),(by first | rfl | (refine aM ?_;omega)),trivial⟩ (by (iterate 53 refine aF rfl ?_);exact aK) ⟨?_,?_⟩
     ·exact ⟨by omega,by omega,h5,.inr (by rw [show h+1-1=h by omega];exact hnl),hhi,hoy,hG0⟩
     ·show j-(h+1)<j-i;omega
    with_reducible (replace Q39:=fy Q39;replace Q39:=dT_ Q39)
    have hlt:=q0.1 (show jG (SM.G Dz xs m).1 (SM.G Dz xs h).1<0 by simpa using Q39);refine aa (mvi rfl (asi rfl (ah (aN ?_))));refine aR ((i,h)) ⟨(by first | rfl | (refine aM ?_;omega)),(by first | rfl | (refine aM ?_;omega)),trivial⟩ (by (iterate 52 refine aF rfl ?_);exact aK) ⟨?_,?_⟩
    ·exact ⟨h3,by omega,by omega,hlo,.inr hlt,hoy,hG0⟩
    ·show h-i<j-i;omega
  refine aZ (aD (aD (aU (ab (ag (ag (aa (mvi rfl (asi rfl (ah (ab (az (bg (G:=Nat×List Dc) [108,109,110,111,112,113,114,115,116,117,118,119,120,121,122,123,124,125,126,127,128] (fun (k,_)=>[(17,.int .i64 (k:Nat))]) (fun (k,ys) w'=>i≤k∧k≤m∧w'.ownsRow base 37 2 (.slice (some ⟨g,0,none⟩) n c) n (List.flatMap dV ys)∧w.grownBy w' (some g)∧SM.PW Dz a b xs ys∧∀ t,SM.G Dz ys t=SM.mvr k m (SM.G Dz xs) t) (fun (k,_)=>k-i) ((m,xs)) ⟨rfl,trivial⟩ ?_ ?_)))))))))))))
  ·exact ⟨by omega,Nat.le_refl _,hoy,hG0,.rfl_,fun t=>(SM.mvr_zero _ _ t).symm⟩
  rintro ⟨k,ys⟩ ρ40 w40 ⟨hki,hkm,hoy,hG0,hP,hR⟩;have hyl:=fS bI hoy;refine ag (ag (aa (mvi rfl (mvi rfl (ae (bU rfl rfl) (ah (ab (Li rfl (fun Q41=>?_) (fun Q41=>?_)))))))))
  ·refine au (ab (ag (az ?_)));have hU42:oG [(0,113,.slice (some ⟨g,0,none⟩) n c),(1,114,.int .i64 ((k:Nat):Int)),(2,115,.slice (some ⟨g,0,none⟩) n c),(3,116,.int .i64 ((k:Nat):Int)),(4,117,.int .i64 (((k-1):Nat):Int)),(5,118,.slice (some ⟨g,0,none⟩) n c),(6,119,.int .i64 ((k:Nat):Int)),(7,120,.int .i64 (((k-1):Nat):Int)),(8,121,.pointer (some ⟨g,0+(k-1)*2,none⟩)),(9,122,.agg (dV (SM.G Dz ys (k-1))).toArray),(10,123,.slice (some ⟨g,0,none⟩) n c),(11,124,.int .i64 ((k:Nat):Int)),(12,125,.pointer (some ⟨g,0+k*2,none⟩)),(13,126,.agg (dV (SM.G Dz ys k)).toArray),(14,127,.pointer (some ⟨g,0+k*2,none⟩)),(16,128,.pointer (some ⟨g,0+(k-1)*2,none⟩))]:=by simp [oG]
   refine pC [(0,113,.slice (some ⟨g,0,none⟩) n c),(1,114,.int .i64 ((k:Nat):Int)),(2,115,.slice (some ⟨g,0,none⟩) n c),(3,116,.int .i64 ((k:Nat):Int)),(4,117,.int .i64 (((k-1):Nat):Int)),(5,118,.slice (some ⟨g,0,none⟩) n c),(6,119,.int .i64 ((k:Nat):Int)),(7,120,.int .i64 (((k-1):Nat):Int)),(8,121,.pointer (some ⟨g,0+(k-1)*2,none⟩)),(9,122,.agg (dV (SM.G Dz ys (k-1))).toArray),(10,123,.slice (some ⟨g,0,none⟩) n c),(11,124,.int .i64 ((k:Nat):Int)),(12,125,.pointer (some ⟨g,0+k*2,none⟩)),(13,126,.agg (dV (SM.G Dz ys k)).toArray),(14,127,.pointer (some ⟨g,0+k*2,none⟩)),(16,128,.pointer (some ⟨g,0+(k-1)*2,none⟩))] (fun S w'=>World.grownBy w40 w' (some g)∧(S 15=false→w'.ownsRow base 37 2 (.slice (some ⟨g,0,none⟩) n c) n (List.flatMap dV ys))∧(S 15=true→S 9=true∧S 13=true)∧(S 15=true→S 17=false→w'.ownsRow base 37 2 (.slice (some ⟨g,0,none⟩) n c) n (List.flatMap dV (ys.set k (SM.G Dz ys (k-1)))))∧(S 15=true→S 17=true→w'.ownsRow base 37 2 (.slice (some ⟨g,0,none⟩) n c) n (List.flatMap dV ((ys.set k (SM.G Dz ys (k-1))).set (k-1) (SM.G Dz ys k))))∧(S 15=false→S 17=false)) (by kernel_rfl) (by kernel_rfl) hU42 (by simp) (⟨(aj.rfl_.d1 (a:=w40)).grown _,fun _=>hoy.kept_from aj.rfl_.d1,fun q=>Bool.noConfusion q,fun q=>Bool.noConfusion q,fun q=>Bool.noConfusion q,fun _=>rfl⟩) ?_ ?_
   ·constructor
    ·rintro S L' wS hI hM hS0 ⟨-⟩;have e0:=hI.1 0 (by simp);have hM':=hM;obtain ⟨hG,hA,hB1,hC,hD,hE⟩:=hM';exact bB (ar e0) ⟨hI.put hU42 (.head _),hM⟩
    constructor
    ·rintro S L' wS hI hM hS0 ⟨-⟩;have e17:=hI.1 17 (by simp);have hM':=hM;obtain ⟨hG,hA,hB1,hC,hD,hE⟩:=hM';exact bB (ar e17) ⟨hI.put hU42 (.tail _ (.head _)),hM⟩
    constructor
    ·rintro S L' wS hI hM hS0 ⟨-,-⟩;have e0:=hI.1 0 (by simp);have hM':=hM;obtain ⟨hG,hA,hB1,hC,hD,hE⟩:=hM';exact bB (ar e0) ⟨hI.put hU42 (.tail _ (.tail _ (.head _))),hM⟩
    constructor
    ·rintro S L' wS hI hM hS0 ⟨-,-⟩;have e17:=hI.1 17 (by simp);have hM':=hM;obtain ⟨hG,hA,hB1,hC,hD,hE⟩:=hM';exact bB (ar e17) ⟨hI.put hU42 (.tail _ (.tail _ (.tail _ (.head _)))),hM⟩
    constructor
    ·rintro S L' wS hI hM hS0 ⟨d3,-,-⟩;have e116:bh L' 116=.int .i64 ((k:Nat):Int):=hI.get (i:=3) (.tail _ (.tail _ (.tail _ (.head _)))) d3;have hM':=hM;obtain ⟨hG,hA,hB1,hC,hD,hE⟩:=hM';exact bB (ck (a:=k) (b:=1) e116 rfl (by omega)) ⟨hI.put hU42 (.tail _ (.tail _ (.tail _ (.tail _ (.head _))))),hM⟩
    constructor
    ·rintro S L' wS hI hM hS0 ⟨-⟩;have e0:=hI.1 0 (by simp);have hM':=hM;obtain ⟨hG,hA,hB1,hC,hD,hE⟩:=hM';exact bB (ar e0) ⟨hI.put hU42 (.tail _ (.tail _ (.tail _ (.tail _ (.tail _ (.head _)))))),hM⟩
    constructor
    ·rintro S L' wS hI hM hS0 ⟨-⟩;have e17:=hI.1 17 (by simp);have hM':=hM;obtain ⟨hG,hA,hB1,hC,hD,hE⟩:=hM';exact bB (ar e17) ⟨hI.put hU42 (.tail _ (.tail _ (.tail _ (.tail _ (.tail _ (.tail _ (.head _))))))),hM⟩
    constructor
    ·rintro S L' wS hI hM hS0 ⟨d6,-⟩;have e119:bh L' 119=.int .i64 ((k:Nat):Int):=hI.get (i:=6) (.tail _ (.tail _ (.tail _ (.tail _ (.tail _ (.tail _ (.head _))))))) d6;have hM':=hM;obtain ⟨hG,hA,hB1,hC,hD,hE⟩:=hM';exact bB (ck (a:=k) (b:=1) e119 rfl (by omega)) ⟨hI.put hU42 (.tail _ (.tail _ (.tail _ (.tail _ (.tail _ (.tail _ (.tail _ (.head _)))))))),hM⟩
    constructor
    ·rintro S L' wS hI hM hS0 ⟨d5,d7,-⟩;have e118:bh L' 118=.slice (some ⟨g,0,none⟩) n c:=hI.get (i:=5) (.tail _ (.tail _ (.tail _ (.tail _ (.tail _ (.head _)))))) d5;have e120:bh L' 120=.int .i64 (((k-1):Nat):Int):=hI.get (i:=7) (.tail _ (.tail _ (.tail _ (.tail _ (.tail _ (.tail _ (.tail _ (.head _)))))))) d7;have hM':=hM;obtain ⟨hG,hA,hB1,hC,hD,hE⟩:=hM';exact bB (aG (i:=(k-1)) aO e118 e120 (by omega)) ⟨hI.put hU42 (.tail _ (.tail _ (.tail _ (.tail _ (.tail _ (.tail _ (.tail _ (.tail _ (.head _))))))))),hM⟩
    constructor
    ·rintro S L' wS hI hM hS0 ⟨d8,-⟩;have e121:bh L' 121=.pointer (some ⟨g,0+(k-1)*2,none⟩):=hI.get (i:=8) (.tail _ (.tail _ (.tail _ (.tail _ (.tail _ (.tail _ (.tail _ (.tail _ (.head _))))))))) d8;have hM':=hM;obtain ⟨hG,hA,hB1,hC,hD,hE⟩:=hM';exact bB (bw (cs:=dV (SM.G Dz ys (k-1))) bO bq e121 (ft bI Dz (hA (xo (fun q=>(hB1 q).1) hS0)) (by omega))) ⟨hI.put hU42 (.tail _ (.tail _ (.tail _ (.tail _ (.tail _ (.tail _ (.tail _ (.tail _ (.tail _ (.head _)))))))))),hG,hA,fun q=>⟨rfl,(hB1 q).2⟩,hC,hD,hE⟩
    constructor
    ·rintro S L' wS hI hM hS0 ⟨-⟩;have e0:=hI.1 0 (by simp);have hM':=hM;obtain ⟨hG,hA,hB1,hC,hD,hE⟩:=hM';exact bB (ar e0) ⟨hI.put hU42 (.tail _ (.tail _ (.tail _ (.tail _ (.tail _ (.tail _ (.tail _ (.tail _ (.tail _ (.tail _ (.head _))))))))))),hM⟩
    constructor
    ·rintro S L' wS hI hM hS0 ⟨-⟩;have e17:=hI.1 17 (by simp);have hM':=hM;obtain ⟨hG,hA,hB1,hC,hD,hE⟩:=hM';exact bB (ar e17) ⟨hI.put hU42 (.tail _ (.tail _ (.tail _ (.tail _ (.tail _ (.tail _ (.tail _ (.tail _ (.tail _ (.tail _ (.tail _ (.head _)))))))))))),hM⟩
    constructor
    ·rintro S L' wS hI hM hS0 ⟨d10,d11,-⟩;have e123:bh L' 123=.slice (some ⟨g,0,none⟩) n c:=hI.get (i:=10) (.tail _ (.tail _ (.tail _ (.tail _ (.tail _ (.tail _ (.tail _ (.tail _ (.tail _ (.tail _ (.head _))))))))))) d10;have e124:bh L' 124=.int .i64 ((k:Nat):Int):=hI.get (i:=11) (.tail _ (.tail _ (.tail _ (.tail _ (.tail _ (.tail _ (.tail _ (.tail _ (.tail _ (.tail _ (.tail _ (.head _)))))))))))) d11;have hM':=hM;obtain ⟨hG,hA,hB1,hC,hD,hE⟩:=hM';exact bB (aG (i:=k) aO e123 e124 (by omega)) ⟨hI.put hU42 (.tail _ (.tail _ (.tail _ (.tail _ (.tail _ (.tail _ (.tail _ (.tail _ (.tail _ (.tail _ (.tail _ (.tail _ (.head _))))))))))))),hM⟩
    constructor
    ·rintro S L' wS hI hM hS0 ⟨d12,-⟩;have e125:bh L' 125=.pointer (some ⟨g,0+k*2,none⟩):=hI.get (i:=12) (.tail _ (.tail _ (.tail _ (.tail _ (.tail _ (.tail _ (.tail _ (.tail _ (.tail _ (.tail _ (.tail _ (.tail _ (.head _))))))))))))) d12;have hM':=hM;obtain ⟨hG,hA,hB1,hC,hD,hE⟩:=hM';exact bB (bw (cs:=dV (SM.G Dz ys k)) bO bq e125 (ft bI Dz (hA (xo (fun q=>(hB1 q).2) hS0)) (by omega))) ⟨hI.put hU42 (.tail _ (.tail _ (.tail _ (.tail _ (.tail _ (.tail _ (.tail _ (.tail _ (.tail _ (.tail _ (.tail _ (.tail _ (.tail _ (.head _)))))))))))))),hG,hA,fun q=>⟨(hB1 q).1,rfl⟩,hC,hD,hE⟩
    constructor
    ·rintro S L' wS hI hM hS0 ⟨d0,d1,d0,d1,-,-,-,d5,d6,d7,d8,d9,-,-,-,d13,-⟩;have e113:bh L' 113=.slice (some ⟨g,0,none⟩) n c:=hI.get (i:=0) (.head _) d0;have e114:bh L' 114=.int .i64 ((k:Nat):Int):=hI.get (i:=1) (.tail _ (.head _)) d1;have hM':=hM;obtain ⟨hG,hA,hB1,hC,hD,hE⟩:=hM';exact bB (aG (i:=k) aO e113 e114 (by omega)) ⟨hI.put hU42 (.tail _ (.tail _ (.tail _ (.tail _ (.tail _ (.tail _ (.tail _ (.tail _ (.tail _ (.tail _ (.tail _ (.tail _ (.tail _ (.tail _ (.head _))))))))))))))),hM⟩
    constructor
    ·rintro S L' wS hI hM hS0 ⟨d14,d9,d0,d1,-,-,-,d5,d6,d7,d8,d9,-,-,-,d13,-⟩;have e122:bh L' 122=.agg (dV (SM.G Dz ys (k-1))).toArray:=hI.get (i:=9) (.tail _ (.tail _ (.tail _ (.tail _ (.tail _ (.tail _ (.tail _ (.tail _ (.tail _ (.head _)))))))))) d9;have e127:bh L' 127=.pointer (some ⟨g,0+k*2,none⟩):=hI.get (i:=14) (.tail _ (.tail _ (.tail _ (.tail _ (.tail _ (.tail _ (.tail _ (.tail _ (.tail _ (.tail _ (.tail _ (.tail _ (.tail _ (.tail _ (.head _))))))))))))))) d14;have hM':=hM;obtain ⟨hG,hA,hB1,hC,hD,hE⟩:=hM';obtain ⟨w2,hR,hO,hb⟩:=gh (n:=220) (L:=L') (x:=.tmp 127) (y:=.tmp 122) (f:=dV) bI jY (i:=k) bq e127 e122 (hA hS0) (by omega);exact iE hR ⟨hI.skip (by simp),aT hG hO.grown,fun q=>Bool.noConfusion q,fun _=>⟨d9,d13⟩,fun _ _=>hb,fun _ q=>Bool.noConfusion (q.symm.trans (hE hS0)),fun q=>Bool.noConfusion q⟩
    constructor
    ·rintro S L' wS hI hM hS0 ⟨d2,d4,d0,d1,d2,d3,d4,d5,d6,d7,d8,d9,d10,d11,d12,d13,d14,d15,-⟩;have e115:bh L' 115=.slice (some ⟨g,0,none⟩) n c:=hI.get (i:=2) (.tail _ (.tail _ (.head _))) d2;have e117:bh L' 117=.int .i64 (((k-1):Nat):Int):=hI.get (i:=4) (.tail _ (.tail _ (.tail _ (.tail _ (.head _))))) d4;have hM':=hM;obtain ⟨hG,hA,hB1,hC,hD,hE⟩:=hM';exact bB (aG (i:=(k-1)) aO e115 e117 (by omega)) ⟨hI.put hU42 (.tail _ (.tail _ (.tail _ (.tail _ (.tail _ (.tail _ (.tail _ (.tail _ (.tail _ (.tail _ (.tail _ (.tail _ (.tail _ (.tail _ (.tail _ (.head _)))))))))))))))),hM⟩
    constructor
    ·rintro S L' wS hI hM hS0 ⟨d16,d13,d15,d0,d1,d2,d3,d4,d5,d6,d7,d8,d9,d10,d11,d12,d13,d14,d15,-⟩;have e126:bh L' 126=.agg (dV (SM.G Dz ys k)).toArray:=hI.get (i:=13) (.tail _ (.tail _ (.tail _ (.tail _ (.tail _ (.tail _ (.tail _ (.tail _ (.tail _ (.tail _ (.tail _ (.tail _ (.tail _ (.head _)))))))))))))) d13;have e128:bh L' 128=.pointer (some ⟨g,0+(k-1)*2,none⟩):=hI.get (i:=16) (.tail _ (.tail _ (.tail _ (.tail _ (.tail _ (.tail _ (.tail _ (.tail _ (.tail _ (.tail _ (.tail _ (.tail _ (.tail _ (.tail _ (.tail _ (.head _)))))))))))))))) d16;have hM':=hM;obtain ⟨hG,hA,hB1,hC,hD,hE⟩:=hM';obtain ⟨w2,hR,hO,hb⟩:=gh (n:=220) (L:=L') (x:=.tmp 128) (y:=.tmp 126) (f:=dV) bI jY (i:=(k-1)) bq e128 e126 (hC d15 hS0) (by omega);exact iE hR ⟨hI.skip (by simp),aT hG hO.grown,fun q=>Bool.noConfusion (q.symm.trans d15),hB1,fun _ q=>Bool.noConfusion q,fun _ _=>hb,fun q=>Bool.noConfusion (q.symm.trans d15)⟩
    exact trivial
   ·intro w43 hM;obtain ⟨hG,hA,hB1,hC,hD,hE⟩:=hM;have hS9:=hD rfl rfl;change World.ownsRow _ _ _ _ _ _ (List.flatMap dV (SM.swp Dz ys k (k-1))) at hS9;refine aN (ab (aa (mvi rfl (ae (ck (b:=1) rfl rfl (by omega)) (asi rfl (ah ?_))))));refine aR ((k-1,SM.swp Dz ys k (k-1))) ⟨(by first | rfl | (refine aM ?_;omega)),trivial⟩ (by (iterate 44 refine aF rfl ?_);exact aK) ⟨?_,?_⟩
    ·exact ⟨by omega,by omega,hS9,aT hG0 hG,hP.trans (.swap (by omega) (by omega) (by omega)),SM.mvr_succ hR (by omega) hkm (by omega)⟩
    ·show k-1-i<k-i;omega
  refine aZ (aD (aD (aU (ab (ay (aC (k_ rfl ?_)))))));obtain rfl:k=i:=by omega
  exact ⟨ys,hoy,hG0,hP,SM.mrg_last iJ (by omega) s1 ⟨h3,by omega⟩ hlo (by rw [show k=j by omega];exact hhi) hR⟩
 refine au (ab (ag (aa (mvi rfl (mvi rfl (ae (aJ rfl rfl (by omega)) ?_))))));obtain ⟨mid,hmid⟩:∃ mid,mid=(a+b)/2 ^ 1:=⟨_,rfl⟩;refine ae (fq eE fw rfl (by omega)) (ae (e_ (b:=1) rfl rfl (by decide)) (ae (eD gG eW rfl (by omega)) (dE (t:=134) (v:=.int _ _) (v':=.int .i64 (mid:Nat)) rfl (by rw [hmid]) ?_)));refine asi rfl (ah (ab (ag (aa (mvi rfl (mvi rfl (ae (aJ rfl rfl (by omega)) (asi rfl (ah (ab (ag (aa (asi rfl (asi rfl ?_))))))))))))));refine ah (ab (ff (G:=Nat×Nat) [138,139,140,141,142,143,144,145,146] (fun (lo,hi)=>[(20,.int .i64 (lo:Nat)),(21,.int .i64 (hi:Nat))]) (fun (lo,hi) w'=>((lo=a∧hi=m∧m≤mid)∨(lo+b=mid+m∧hi=mid∧mid<m))∧w=w') ?_ ?_))
 ·refine ag (aa (mvi rfl (mvi rfl (ae (bU rfl rfl) (ah (ab (Li rfl (fun Q44=>?_) (fun Q44=>?_))))))))
  ·refine ag (aa (mvi rfl (mvi rfl (ae (ck rfl rfl (by omega)) (asi rfl (ah (ab (aa (mvi rfl (asi rfl (ah ?_)))))))))));refine aR ((mid+m-b,mid)) ⟨(by first | rfl | (refine aM ?_;omega)),(by first | rfl | (refine aM ?_;omega)),trivial⟩ (by (iterate 9 refine aF rfl ?_);exact aK) ?_;exact ⟨.inr ⟨by omega,rfl,by omega⟩,rfl⟩
  refine ag (aa (mvi rfl (asi rfl (ah (ab (aa (mvi rfl (asi rfl (ah ?_)))))))));refine aR ((a,m)) ⟨(by first | rfl | (refine aM ?_;omega)),(by first | rfl | (refine aM ?_;omega)),trivial⟩ (by (iterate 7 refine aF rfl ?_);exact aK) ?_;exact ⟨.inl ⟨rfl,rfl,by omega⟩,rfl⟩
 rintro ⟨lo,hi⟩ ρ45 w45 ⟨hlh,rfl⟩;refine ag (aa (mvi rfl (ae (ck (b:=1) rfl rfl (by omega)) (asi rfl (ah (ab (ag (az (bg (G:=Nat×Nat) [23,149,150,151,152,153,154,155,156,157,158,159,160,161,162,163,164,165,166,167,168,169,170,171,172,173,174] (fun (s,r)=>[(20,.int .i64 (s:Nat)),(21,.int .i64 (r:Nat))]) (fun (s,r) w'=>lo≤s∧s≤r∧r≤hi∧(s=lo∨¬ ltD (SM.G Dz xs (mid+m-1-(s-1))) (SM.G Dz xs (s-1)))∧(r=hi∨ltD (SM.G Dz xs (mid+m-1-r)) (SM.G Dz xs r))∧w'.ownsRow base 37 2 (.slice (some ⟨g,0,none⟩) n c) n (List.flatMap dV xs)∧w.grownBy w' (some g)) (fun (s,r)=>r-s) ((lo,hi)) ⟨rfl,rfl,trivial⟩ ?_ ?_)))))))))
 ·exact ⟨Nat.le_refl _,by omega,Nat.le_refl _,.inl rfl,.inl rfl,ho,World.grownBy.refl _ _⟩
 rintro ⟨s,r⟩ ρ46 w46 ⟨h3,h4,h5,hlo,hhi,hoy,hG0⟩;refine ag (ag (aa (mvi rfl (mvi rfl (ae (aX rfl rfl) (ah (ab (Li rfl (fun Q47=>?_) (fun Q47=>?_)))))))))
 ·refine au (ab (az (ag (aa (mvi rfl (mvi rfl (ae (aJ rfl rfl (by omega)) ?_)))))));obtain ⟨h,hh⟩:∃ h,h=(s+r)/2 ^ 1:=⟨_,rfl⟩;refine ae (fq eE fw rfl (by omega)) (ae (e_ (b:=1) rfl rfl (by decide)) (ae (eD gG eW rfl (by omega)) (dE (t:=157) (v:=.int _ _) (v':=.int .i64 (h:Nat)) rfl (by rw [hh]) ?_)));refine asi rfl (ah (ab (ag ?_)));apply bH 14 [(158,eqp _),(159,eqp _),(160,eqp _),(161,eqp _),(162,eqp _),(163,eqp _),(164,eqp (.agg (dV (SM.G Dz xs (mid+m-1-h))).toArray)),(165,eqp _),(166,eqp _),(167,eqp _),(168,eqp (.agg (dV (SM.G Dz xs h)).toArray)),(169,eqp _),(170,eqp _),(171,eqp _)] (by repeat first | exact bT | refine bS ?_ | refine bG ?_) (by kernel_rfl) (by kernel_rfl) ⟨af _,af _,af _,af _,af _,af _,af _,af _,af _,af _,af _,af _,af _,af _,trivial⟩
  case hop=>
   constructor
   ·rintro-w49 D49;exact ai (ar (v:=.func _ _ _) rfl) rfl
   constructor
   ·rintro-w50 D50;exact ai (ar (v:=.slice _ _ _) rfl) rfl
   constructor
   ·rintro-w51 D51;exact ai (ar (v:=.int _ _) rfl) rfl
   constructor
   ·rintro-w52 D52;exact ai (ar (v:=.int _ _) rfl) rfl
   constructor
   ·rintro-w53 D53;rintro _ rfl _ rfl;exact ai (ck rfl rfl (by omega)) rfl
   constructor
   ·rintro-w54 D54;rintro _ rfl _ rfl;exact ai (aG aO rfl rfl (by omega)) rfl
   constructor
   ·rintro-w55 D55;rintro _ rfl;exact ai (bw (cs:=dV (SM.G Dz xs (mid+m-1-h))) bO bq rfl (ft bI Dz (hoy.kept_from D55) (by omega))) rfl
   constructor
   ·rintro-w56 D56;exact ai (ar (v:=.slice _ _ _) rfl) rfl
   constructor
   ·rintro-w57 D57;exact ai (ar (v:=.int _ _) rfl) rfl
   constructor
   ·rintro-w58 D58;rintro _ rfl _ rfl;exact ai (aG aO rfl rfl (by omega)) rfl
   constructor
   ·rintro-w59 D59;rintro _ rfl;exact ai (bw (cs:=dV (SM.G Dz xs h)) bO bq rfl (ft bI Dz (hoy.kept_from D59) (by omega))) rfl
   constructor
   ·rintro-w60 D60;rintro _ rfl v60_164 rfl v60_168 rfl;exact sL (caps:=[]) rfl kX ((rS (SM.G Dz xs (mid+m-1-h)) (SM.G Dz xs h) _).mono fun v w2 h=>⟨h.2,h.1⟩)
   constructor
   ·rintro-w61 D61;rintro _ rfl;exact ai (aX rfl rfl) rfl
   constructor
   ·rintro-w62 D62;rintro _ rfl;exact ai (dZ rfl) rfl
   exact trivial
  case hend=>
   intro w63 D63;rintro _ rfl _ rfl _ rfl _ rfl _ rfl _ rfl v164 rfl _ rfl _ rfl _ rfl v168 rfl _ rfl _ rfl _ rfl;show St ..;replace hG0:=aT hG0 (D63.grown _);replace hoy:=hoy.kept_from D63;refine ah (ab (av rfl (fun Q64=>?_) (fun Q64=>?_)))
   ·with_reducible (replace Q64:=fx Q64;replace Q64:=dF_ Q64)
    have hnl:¬ ltD (SM.G Dz xs (mid+m-1-h)) (SM.G Dz xs h):=fun h9=>by
     have h8:=q0.2 h9;exact absurd h8 (by omega)
    refine aa (mvi rfl (ae (aJ (b:=1) rfl rfl (by omega)) (asi rfl (ah (aN ?_)))));refine aR ((h+1,r)) ⟨(by first | rfl | (refine aM ?_;omega)),(by first | rfl | (refine aM ?_;omega)),trivial⟩ (by (iterate 57 refine aF rfl ?_);exact aK) ⟨?_,?_⟩
    ·exact ⟨by omega,by omega,h5,.inr (by rw [show h+1-1=h by omega];exact hnl),hhi,hoy,hG0⟩
    ·show r-(h+1)<r-s;omega
   with_reducible (replace Q64:=fy Q64;replace Q64:=dT_ Q64)
   have hlt:=q0.1 (show jG (SM.G Dz xs (mid+m-1-h)).1 (SM.G Dz xs h).1<0 by simpa using Q64);refine aa (mvi rfl (asi rfl (ah (aN ?_))));refine aR ((s,h)) ⟨(by first | rfl | (refine aM ?_;omega)),(by first | rfl | (refine aM ?_;omega)),trivial⟩ (by (iterate 56 refine aF rfl ?_);exact aK) ⟨?_,?_⟩
   ·exact ⟨h3,by omega,by omega,hlo,.inr hlt,hoy,hG0⟩
   ·show h-s<r-s;omega
 obtain rfl:s=r:=by omega
 have hcut:SM.Cut Dz ltD a m b mid s xs:=by
  refine ⟨⟨by omega,by omega,by omega⟩,⟨by omega,by omega⟩,?_,?_⟩
  ·rcases hlo with e | e
   ·exact .inl (by omega)
   ·by_cases e2:s=a
    ·exact .inl (.inl e2)
    ·exact .inr ⟨by rw [show mid+m-s=mid+m-1-(s-1) by omega];exact e,by omega⟩
  ·rcases hhi with e | e
   ·exact .inl (by omega)
   ·by_cases e2:s=m∨s=mid
    ·exact .inl e2
    ·exact .inr ⟨e,by omega,by omega⟩
 refine aZ (aD (aD (aU (ab (ag (aa (mvi rfl (mvi rfl (ae (ck rfl rfl (by omega)) (asi rfl (ah (ab (ff (G:=List Dc) [178,179,180,181,182,183,184,185,186,187,188,189,190,191] (fun _=>[]) (fun ys w'=>w'.ownsRow base 37 2 (.slice (some ⟨g,0,none⟩) n c) n (List.flatMap dV ys)∧w.grownBy w' (some g)∧SM.PW Dz a b xs ys∧∀ k,SM.G Dz ys k=SM.rot s m (mid+m-s) (SM.G Dz xs) k) ?_ ?_)))))))))))))
 ·refine ag (aa (mvi rfl (mvi rfl (ae (aX rfl rfl) (mvb rfl (KL (t:=181) rfl (fun Q65=>?_) (fun Q65=>?_)))))))
  ·refine an rfl (mvi rfl (an rfl (mvi rfl (an rfl (ae (aX rfl rfl) (ae (bc (v:=.bool _) rfl rfl) (ah (ab (Li rfl (fun Q66=>?_) (fun Q66=>?_))))))))))
   ·refine aa (mvs rfl (mvi rfl (mvi rfl (mvi rfl (ae (ar (v:=.func _ _ _) rfl) (aA Ad (Cz base _ c n xs _ hoy (Nat.le_trans hbs hG0.size) hl s m (mid+m-s) (by omega) (by omega) (by omega)) ?_))))));rintro v191 w67 ⟨zs,hoz,hGz,hPz,hRz⟩;refine ah ?_;refine aR (zs) trivial (by (iterate 15 refine aF rfl ?_);exact aK) ?_;exact ⟨hoz,aT hG0 hGz,hPz.wide (by omega) (by omega),hRz⟩
   refine au ?_;refine aR (xs) trivial (by (iterate 9 refine aF rfl ?_);exact aK) ?_;exact ⟨hoy,hG0,.rfl_,fun k=>(SM.rot_none (by omega) k).symm⟩
  refine aB rfl rfl (aB rfl rfl (aB rfl rfl (ae (aQ (v:=.bool _) rfl rfl) (ah (ab (cm rfl (au ?_)))))));refine aR (xs) trivial (by (iterate 9 refine aF rfl ?_);exact aK) ?_;exact ⟨hoy,hG0,.rfl_,fun k=>(SM.rot_none (by omega) k).symm⟩
 rintro ys ρ68 w68 ⟨hoy,hG0,hP,hR⟩;obtain ⟨t1,t2,t3,t4,hx⟩:=SM.cut_all iJ s1 s2 hcut ⟨by omega,by omega⟩ ⟨by omega,by omega⟩ hR;refine ff (G:=List Dc) [192,193,194,195,196,197,198,199,200,201,202,203,204,205] (fun _=>[]) (fun zs w'=>w'.ownsRow base 37 2 (.slice (some ⟨g,0,none⟩) n c) n (List.flatMap dV zs)∧w.grownBy w' (some g)∧SM.PW Dz a mid ys zs∧SM.Srt Dz ltD a mid zs) ?_ ?_
 ·refine ag (aa (mvi rfl (mvi rfl (ae (aX rfl rfl) (mvb rfl (KL (t:=195) rfl (fun Q69=>?_) (fun Q69=>?_)))))))
  ·refine an rfl (mvi rfl (an rfl (mvi rfl (an rfl (ae (aX rfl rfl) (ae (bc (v:=.bool _) rfl rfl) (ah (ab (Li rfl (fun Q70=>?_) (fun Q70=>?_))))))))))
   ·refine aa (mvs rfl (mvi rfl (mvi rfl (mvi rfl (ae (ar (v:=.func _ _ _) rfl) (aA ma (IH ys _ a s mid hoy (Nat.le_trans hbs hG0.size) (by omega) (by omega) (by omega) (by omega) t1 t2) ?_))))));rintro v205 w71 ⟨vs,hov,hGv,hPv,hSv⟩;refine ah ?_;refine aR (vs) trivial (by (iterate 15 refine aF rfl ?_);exact aK) ?_;exact ⟨hov,aT hG0 hGv,hPv,hSv⟩
   refine au ?_;refine aR (ys) trivial (by (iterate 9 refine aF rfl ?_);exact aK) ?_
   exact ⟨hoy,hG0,.rfl_,by
    first
     |exact (show s=a by omega) ▸ t2
     |exact (show s=mid by omega) ▸ t1⟩
  refine aB rfl rfl (aB rfl rfl (aB rfl rfl (ae (aQ (v:=.bool _) rfl rfl) (ah (ab (cm rfl (au ?_)))))));refine aR (ys) trivial (by (iterate 9 refine aF rfl ?_);exact aK) ?_
  exact ⟨hoy,hG0,.rfl_,by
   first
    |exact (show s=a by omega) ▸ t2
    |exact (show s=mid by omega) ▸ t1⟩
 rintro zs ρ72 w72 ⟨hoz,hGz,hPz,hSz⟩;refine ag (aa (mvi rfl (mvi rfl (ae (aX rfl rfl) (mvb rfl (KL (t:=209) rfl (fun Q73=>?_) (fun Q73=>?_)))))))
 ·refine an rfl (mvi rfl (an rfl (mvi rfl (an rfl (ae (aX rfl rfl) (ae (bc (v:=.bool _) rfl rfl) (ah (ab (Li rfl (fun Q74=>?_) (fun Q74=>?_))))))))))
  ·refine aa (mvs rfl (mvi rfl (mvi rfl (mvi rfl (ae (ar (v:=.func _ _ _) rfl) (aA ma (IH zs _ mid (mid+m-s) b hoz (Nat.le_trans hbs hGz.size) (by omega) (by omega) (by omega) (by omega) (t3.off hPz (by omega)) (t4.off hPz (by omega))) ?_))))));rintro v219 w75 ⟨vs,hov,hGv,hPv,hSv⟩;refine ah (gZ (k_ rfl (⟨vs,hov,aT hGz hGv,hP.trans ((hPz.wide (Nat.le_refl _) (by omega)).trans (hPv.wide (by omega) (Nat.le_refl _))),SM.half_half hx hPz hSz hPv hSv⟩)))
  refine au (gZ (k_ rfl ?_))
  have hlast:SM.Srt Dz ltD mid b zs:=by
   first
    |exact (show mid+m-s=mid by omega) ▸ t4.off hPz (by omega)
    |exact (show mid+m-s=b by omega) ▸ t3.off hPz (by omega)
  exact ⟨zs,hoz,hGz,hP.trans (hPz.wide (Nat.le_refl _) (by omega)),SM.half_half hx hPz hSz .rfl_ hlast⟩
 refine aB rfl rfl (aB rfl rfl (aB rfl rfl (ae (aQ (v:=.bool _) rfl rfl) (ah (ab (cm rfl (au (gZ (k_ rfl ?_)))))))))
 have hlast:SM.Srt Dz ltD mid b zs:=by
  first
   |exact (show mid+m-s=mid by omega) ▸ t4.off hPz (by omega)
   |exact (show mid+m-s=b by omega) ▸ t3.off hPz (by omega)
 exact ⟨zs,hoz,hGz,hP.trans (hPz.wide (Nat.le_refl _) (by omega)),SM.half_half hx hPz hSz .rfl_ hlast⟩
theorem AY (base:Nat) (A:Option Addr) (c n:Nat) (hl:n≤100000000):∀ (N:Nat) (xs:List Dc) (w:World) (a m b:Nat),w.ownsRow base 37 2 (.slice A n c) n (xs.flatMap dV)→base≤w.heap.size→a<m→m<b→b≤n→b-a≤N→SM.Srt Dz ltD a m xs→SM.Srt Dz ltD m b xs→
 Rt prog 180 [.slice A n c,.int .i64 (a:Nat),.int .i64 (m:Nat),.int .i64 (b:Nat),.func (.func 119) #[] #[]] w (fun _ w'=>∃ ys,w'.ownsRow base 37 2 (.slice A n c) n (List.flatMap dV ys)∧w.grownBy w' (A.map (·.block))∧SM.PW Dz a b xs ys∧SM.Srt Dz ltD a b ys)
 |0,xs,w,a,m,b=>fun _ _ h1 h2 _ h3=>by omega
 |N+1,xs,w,a,m,b=>fun ho hbs h1 h2 hbn hN s1 s2=>DW base A c n xs w ho hbs hl a m b h1 h2 hbn s1 s2 fun ys w' a' m' b' k1 k2 k3 k4 k5 k6 k7 k8=>AY base A c n hl N ys w' a' m' b' k1 k2 k3 k4 k5 (by omega) k7 k8
theorem DX (base:Nat) (A:Option Addr) (c n:Nat) (xs:List Dc) (w:World) (ho:w.ownsRow base 37 2 (.slice A n c) n (xs.flatMap dV)) (hbs:base≤w.heap.size) (hl:n≤100000000) (a m b:Nat) (h1:a<m) (h2:m<b) (hbn:b≤n) (s1:SM.Srt Dz ltD a m xs) (s2:SM.Srt Dz ltD m b xs) :
 Rt prog 180 [.slice A n c,.int .i64 (a:Nat),.int .i64 (m:Nat),.int .i64 (b:Nat),.func (.func 119) #[] #[]] w (fun _ w'=>∃ ys,w'.ownsRow base 37 2 (.slice A n c) n (List.flatMap dV ys)∧w.grownBy w' (A.map (·.block))∧SM.PW Dz a b xs ys∧SM.Srt Dz ltD a b ys):=AY base A c n hl (b-a) xs w a m b ho hbs h1 h2 hbn (Nat.le_refl _) s1 s2
theorem nX:aH prog 122=true:=by kernel_rfl
theorem uv:aH prog 155=true:=by kernel_rfl
theorem m_ {s a:Nat} (h:s∣a):s∣a+s:=(Nat.dvd_add_iff_right h).1 (Nat.dvd_refl s)
theorem td {s a:Nat} (h:2*s∣a):s∣a:=Nat.dvd_trans (Nat.dvd_mul_left ..) h
theorem Cn (base:Nat) (A:Option Addr) (c n:Nat) (xs:List Dc) (w:World) (ho:w.ownsRow base 37 2 (.slice A n c) n (xs.flatMap dV)) (hbs:base≤w.heap.size) (hl:n≤100000000) (hxn:xs.length=n) :
 Rt prog 155 [.slice A n c,.int .i64 (n:Nat),.func (.func 119) #[] #[]] w (fun _ w'=>∃ ys,w'.ownsRow base 37 2 (.slice A n c) n (List.flatMap dV ys)∧w.grownBy w' (A.map (·.block))∧SM.PW Dz 0 n xs ys∧SM.Srt Dz ltD 0 n ys):=by
 refine enter (n:=63) Tryz.func155 rfl rfl rfl (ag (aa (asi rfl (ah (ab (ag (aa (mvi rfl (asi rfl (asi rfl (ah (ab (ag (az (bg (G:=Nat×List Dc) [11,12,13,14,15,16,17,18,19,20,21,22] (fun (a,_)=>[(7,.int .i64 (a:Nat)),(8,.int .i64 ((a+20:Nat):Int))]) (fun (a,ys) w'=>20∣a∧a≤n∧w'.ownsRow base 37 2 (.slice A n c) n (List.flatMap dV ys)∧w.grownBy w' (A.map (·.block))∧SM.PW Dz 0 n xs ys∧SM.Blks Dz ltD 20 n a ys) (fun (a,_)=>n-a) ((0,xs)) ⟨rfl,rfl,trivial⟩ ?_ ?_)))))))))))))))
 ·exact ⟨Nat.dvd_zero _,Nat.zero_le _,ho,World.grownBy.refl _ _,.rfl_,fun k _ h=>absurd h (by omega)⟩
 rintro ⟨a,ys⟩ ρ1 w1 ⟨hd,han,hoy,hG0,hP,hR⟩;refine ag (ag (aa (mvi rfl (mvi rfl (ae (qd rfl rfl) (ah (ab (Li rfl (fun Q2=>?_) (fun Q2=>?_)))))))))
 ·refine au (ab (az (ag (aa (mvs rfl (mvi rfl (mvi rfl (ae (ar (v:=.func _ _ _) rfl) (aA nX (uR base A c n ys _ hoy (Nat.le_trans hbs hG0.size) hl a (a+20) (by omega) (by omega)) ?_)))))))));rintro v18 w3 ⟨zs,hoz,hGz,hPz,hSz⟩;refine ah (ab (ag (aa (mvi rfl (asi rfl (ah (ab (aa (mvi rfl (mvi rfl (ae (aJ (a:=a+20) (b:=20) rfl rfl (by omega)) (asi rfl (ah (aN ?_))))))))))))));refine aR ((a+20,zs)) ⟨rfl,rfl,trivial⟩ (by (iterate 28 refine aF rfl ?_);exact aK) ⟨?_,?_⟩
  ·exact ⟨m_ hd,by omega,hoz,aT hG0 hGz,hP.trans (hPz.wide (Nat.zero_le _) (by omega)),hR.step (by decide) hd (by omega) hPz hSz⟩
  ·show n-(a+20)<n-a;omega
 refine aZ (aD (aD (aU (ab (ag (aa (mvs rfl (mvi rfl (mvi rfl (ae (ar (v:=.func _ _ _) rfl) (aA nX (uR base A c n ys _ hoy (Nat.le_trans hbs hG0.size) hl a n (by omega) (by omega)) ?_)))))))))));rintro v27 w4 ⟨zs,hoz,hGz,hPz,hSz⟩;refine ah (ab (az (bg (G:=Nat×List Dc) [7,8,9,28,29,30,31,32,33,34,35,36,37,38,39,40,41,42,43,44,45,46,47,48,49,50,51,52,53,54,55,56,57,58,59,60,61,62] (fun (s,_)=>[(6,.int .i64 (s:Nat))]) (fun (s,ys) w'=>0<s∧s≤2*n+20∧w'.ownsRow base 37 2 (.slice A n c) n (List.flatMap dV ys)∧w.grownBy w' (A.map (·.block))∧SM.PW Dz 0 n xs ys∧SM.Runs Dz ltD s n ys) (fun (s,_)=>n-s) ((20,zs)) ⟨rfl,trivial⟩ ?_ ?_)))
 ·exact ⟨by decide,by omega,hoz,aT hG0 hGz,hP.trans (hPz.wide (Nat.zero_le _) (Nat.le_refl _)),(hR.step (by decide) hd (by omega) hPz hSz).end_ (by omega)⟩
 rintro ⟨s,ys⟩ ρ5 w5 ⟨hs0,hsn,hoy,hG0,hP,hR⟩;refine ag (ag (aa (mvi rfl (mvi rfl (ae (aX rfl rfl) (ah (ab (Li rfl (fun Q6=>?_) (fun Q6=>?_)))))))))
 ·refine au (ab (az (ag (aa (mvi rfl (ae (rI (a:=2) (b:=s) rfl rfl (by omega)) (asi rfl (asi rfl (ah (ab (ag (az (bg (G:=Nat×List Dc) [33,34,35,36,37,38,39,40,41,42,43,44,45,46,47,48] (fun (a,_)=>[(7,.int .i64 (a:Nat)),(8,.int .i64 ((a+2*s:Nat):Int))]) (fun (a,ys) w'=>2*s∣a∧a≤n∧w'.ownsRow base 37 2 (.slice A n c) n (List.flatMap dV ys)∧w.grownBy w' (A.map (·.block))∧SM.PW Dz 0 n xs ys∧SM.Runs2 Dz ltD s n a ys) (fun (a,_)=>n-a) ((0,ys)) ⟨rfl,(aM (by omega)),trivial⟩ ?_ ?_)))))))))))))
  ·exact ⟨Nat.dvd_zero _,Nat.zero_le _,hoy,hG0,hP,.start hR⟩
  rintro ⟨a,ys⟩ ρ7 w7 ⟨hd,han,hoy,hG0,hP,hR⟩;have r1:=fun (h:a+2*s≤n)=>hR.2 a (td hd) (Nat.le_refl _)
  have r2:=hR.2 (a+s) (m_ (td hd)) (by omega);have r3:=hR.2 a (td hd) (Nat.le_refl _);refine ag (ag (aa (mvi rfl (mvi rfl (ae (qd rfl rfl) (ah (ab (Li rfl (fun Q8=>?_) (fun Q8=>?_)))))))))
  ·refine au (ab (az (ag (aa (mvs rfl (mvi rfl (mvi rfl (mvi rfl (ae (aJ rfl rfl (by omega)) (mvi rfl (ae (ar (v:=.func _ _ _) rfl) (aA ma (DX base A c n ys _ hoy (Nat.le_trans hbs hG0.size) hl a (a+s) (a+2*s) (by omega) (by omega) (by omega) (r3.sub (Nat.le_refl _) (by omega)) (r2.sub (Nat.le_refl _) (by omega))) ?_))))))))))));rintro v43 w9 ⟨zs,hoz,hGz,hPz,hSz⟩;refine ah (ab (ag (aa (mvi rfl (asi rfl (ah (ab (aa (mvi rfl (mvi rfl (ae (rI (a:=2) (b:=s) rfl rfl (by omega)) (ae (aJ rfl rfl (by omega)) (asi rfl ?_)))))))))))));refine ah (aN ?_);refine aR ((a+2*s,zs)) ⟨rfl,rfl,trivial⟩ (by (iterate 36 refine aF rfl ?_);exact aK) ⟨?_,?_⟩
   ·exact ⟨m_ hd,by omega,hoz,aT hG0 hGz,hP.trans (hPz.wide (Nat.zero_le _) (by omega)),hR.step hs0 hd (by omega) hPz hSz⟩
   ·show n-(a+2*s)<n-a;omega
  refine aZ (aD (aD (aU (ab (ff (G:=List Dc) [9,49,50,51,52,53,54,55,56,57,58,59,60] (fun _=>[]) (fun ys w'=>w'.ownsRow base 37 2 (.slice A n c) n (List.flatMap dV ys)∧w.grownBy w' (A.map (·.block))∧SM.PW Dz 0 n xs ys∧SM.Runs Dz ltD (2*s) n ys) ?_ ?_)))))
  ·refine ag (aa (mvi rfl (mvi rfl (ae (aJ rfl rfl (by omega)) (asi rfl (ah (ab (ag (aa (mvi rfl (mvi rfl (ae (aX rfl rfl) ?_))))))))))));refine ah (ab (Li rfl (fun Q10=>?_) (fun Q10=>?_)))
   ·refine aa (mvs rfl (mvi rfl (mvi rfl (mvi rfl (ae (ar (v:=.func _ _ _) rfl) (aA ma (DX base A c n ys _ hoy (Nat.le_trans hbs hG0.size) hl a (a+s) n (by omega) (by omega) (by omega) (r3.sub (Nat.le_refl _) (by omega)) (r2.sub (Nat.le_refl _) (by omega))) ?_))))));rintro v60 w11 ⟨zs,hoz,hGz,hPz,hSz⟩;refine ah ?_;refine aR (zs) trivial (by (iterate 13 refine aF rfl ?_);exact aK) ?_;exact ⟨hoz,aT hG0 hGz,hP.trans (hPz.wide (Nat.zero_le _) (Nat.le_refl _)),(hR.step hs0 hd (by omega) hPz hSz).end_ hs0 (m_ hd) (by omega)⟩
   refine au ?_;refine aR (ys) trivial (by (iterate 7 refine aF rfl ?_);exact aK) ?_;exact ⟨hoy,hG0,hP,(hR.last hs0 hd (by omega)).end_ hs0 (m_ hd) (by omega)⟩
  rintro ys ρ12 w12 ⟨hoy,hG0,hP,hR⟩;refine aa (mvi rfl (ae (rI (a:=s) (b:=2) rfl rfl (by omega)) (asi rfl (ah (aN ?_)))));refine aR ((s*2,ys)) ⟨rfl,trivial⟩ (by (iterate 83 refine aF rfl ?_);exact aK) ⟨?_,?_⟩
  ·exact ⟨by omega,by omega,hoy,hG0,hP,by rw [Nat.mul_comm];exact hR⟩
  ·show n-s*2<n-s;omega
 refine aZ (aD (aD (aU (gZ (k_ rfl (⟨ys,hoy,hG0,hP,hR.all (by omega)⟩))))))
theorem Ef (base:Nat) (A:Option Addr) (c n:Nat) (xs:List Dc) (w:World) (ho:w.ownsRow base 37 2 (.slice A n c) n (xs.flatMap dV)) (hbs:base≤w.heap.size) (hl:n≤100000000) (hxn:xs.length=n) :
 Rt prog 118 [.slice A n c,.func (.func 119) #[] #[]] w (fun _ w'=>∃ ys,w'.ownsRow base 37 2 (.slice A n c) n (List.flatMap dV ys)∧w.grownBy w' (A.map (·.block))∧SM.PW Dz 0 n xs ys∧SM.Srt Dz ltD 0 n ys):=by
 refine enter (n:=9) Tryz.func118 rfl rfl rfl (aa (mvs rfl (mvs rfl (ae (aS bx rfl) (ae (ar (v:=.func _ _ _) rfl) (aA uv (Cn base A c n xs _ ho hbs hl hxn) ?_))))));rintro v8 w1 ⟨ys,hoy,hG0,hP,hR⟩;refine ah (gZ (k_ rfl (⟨ys,hoy,hG0,hP,hR⟩)))
end Go.Proofs.YtcbakncjacnnjaaGreat
