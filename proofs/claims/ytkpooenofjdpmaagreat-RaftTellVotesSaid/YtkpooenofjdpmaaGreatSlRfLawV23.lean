/- texts that the claim stands on. -/
import Derived.Test.YtkpooenofjdpmaaGreatSlRfLawV22

set_option maxRecDepth 100000
set_option maxHeartbeats 4000000
namespace Go.Proofs.YtkpooenofjdpmaaGreat
open Go.Proofs.Tryz (prog)
open Go.RowKit
open Go.ChangeShapes Go.WideShapes Go.ChangeAt
theorem pc:aO prog 122=true:=by kernel_rfl
theorem uE:j4 prog 166=some (.agg #[.bool false,.bool false,.bool false,.bool false,.bool false,.bool false,.bool false,.bool false]):=by kernel_rfl
theorem pd:zB prog 166=some (8,1):=by kernel_rfl
theorem eb:jc prog 4=some false:=by kernel_rfl
theorem pb:dZ prog 4=some 1:=by kernel_rfl
theorem zL {α:Type} {a b:List α} {k:Nat} (hl:a.length=b.length) (hk:¬ k<a.length) (h:a.take k=b.take k):a=b:=by
 rw [List.take_of_length_le (by omega),List.take_of_length_le (by omega)] at h;exact h
theorem uJ {α:Type} {a b:List α} {k:Nat} (ha:k<a.length) (hb:k<b.length) (h:a.take k=b.take k) (he:a[k]=b[k]):a.take (k+1)=b.take (k+1):=by
 rw [List.take_succ_eq_append_getElem ha,List.take_succ_eq_append_getElem hb,h,he]
theorem Ba (A:Option Addr) (c:Nat) (L:List Int) (x:Int) (w:World) (hr:dE iV w A L) (hl:L.length≤1000000) :
 Rt prog 122 [.slice A L.length c,.int .i64 x] w (fun v w'=>(∃ r:Int,v=.int .i64 r∧(0≤r↔x∈L))∧w=w'):=by
 refine enter (n:=19) Tryz.func122 rfl rfl rfl (ak (af (asi rfl (aj (ag (ak (ak (af (asi rfl (aj (ag (aU (cM (G:=Nat) [4,6,7,8,9,10,11,12,13,14,15,16,17,18] (fun k=>[(5,.int .i64 (k:Nat))]) (fun k w'=>k≤L.length∧(∀ i (h:i<L.length),i<k→L[i]≠x)∧w=w') (fun k=>L.length-k) (0) ⟨rfl,trivial⟩ ?_ ?_)))))))))))))
 ·exact ⟨Nat.zero_le _,fun i h h0=>absurd h0 (by omega),rfl⟩
 rintro k ρ1 w1 ⟨hk,hne,rfl⟩;refine ak (ak (af (mvi rfl (mvs rfl (aa (bH bI rfl) (aa (bM rfl rfl) (aj (ag (Bk rfl (fun Q2=>?_) (fun Q2=>?_))))))))))
 ·obtain ⟨ba,oa,rfl,hca⟩:=hr (by omega);refine aM (ag (ak (aU (ak (af (mvs rfl (mvi rfl (aa (bX bj rfl rfl (by omega)) (aa (ar ao rfl (by exact hca k (by omega))) ?_)))))))));refine mvi rfl (aa (bg rfl rfl) (aj (ag (Bj rfl (fun Q3=>?_) (fun Q3=>?_)))))
  ·refine ak (af (mvi rfl (asi rfl (aj (ag (aB (bC (aD (aD (bC (aD (bn (v:=.int _ _) rfl rfl (⟨⟨_,rfl,fun _=>?_,fun _=>by omega⟩,rfl⟩)))))))))))))
   rename L[k]=x=>hx
   rw [←hx];exact List.getElem_mem _
  refine aM (bo (ag (af (mvi rfl (aa (cl (b:=1) rfl rfl (by omega)) (asi rfl (aj ?_)))))));refine cp (k+1) ⟨(by first | rfl | (refine br ?_;omega)),trivial⟩ (by (iterate 28 refine bA rfl ?_);exact bN) ⟨?_,?_⟩
  ·refine ⟨by omega,fun i h h0=>?_,rfl⟩;rcases Nat.lt_or_ge i k with a | a
   ·exact hne i h a
   ·obtain rfl:i=k:=by omega
    assumption
  ·omega
 refine b_ (bf (bf (bL (ag (ak (af (asi rfl (aj (ag (aB (bn (v:=.int _ _) rfl rfl (⟨⟨_,rfl,fun h=>absurd h (by omega),fun h=>?_⟩,rfl⟩))))))))))));obtain ⟨i,hi,e⟩:=List.getElem_of_mem h;exact absurd e (hne i hi (by omega))
theorem Az (n:Nat):cv [] n=0:=by
 unfold cv;rw [List.countP_eq_zero];simp
def okV (n:Int) (L:List Int):Bool:=decide (1≤n∧n≤7)&&decide (n<2*(cv L n.toNat:Nat))
def eV (n:Int):Int:=if 1≤n∧n≤7 then 0 else 1
theorem Aj {N:Nat} (h:1≤(N:Int)∧(N:Int)≤7) (L:List Int):okV N L=decide ((N:Int)<2*(cv L N:Nat)):=by
 unfold okV;rw [decide_eq_true h,Bool.true_and,Int.toNat_natCast]
theorem uT {n:Int} (h:¬ (1≤n∧n≤7)) (L:List Int):okV n L=false:=by
 unfold okV;rw [decide_eq_false h,Bool.false_and]
theorem Be {n:Int} (h:1≤n∧n≤7):eV n=0:=if_pos h
theorem yc {n:Int} (h:¬ (1≤n∧n≤7)):eV n=1:=if_neg h
theorem AN {a b:Bool} {x:Value} (h:a=b):Value.tuple #[.bool a,x]=.tuple #[.bool b,x]:=by rw [h]
theorem qs (A:Option Addr) (c N:Nat) (L:List Int) (w:World) (hr:dE iV w A L) (hl:L.length≤1000000) (hN:N≤7) :
 Rt prog 85 [.int .i64 (N:Nat),.slice A L.length c] w (fun v w'=>v=.bool (decide ((N:Int)<2*(cv L N:Nat)))∧w=w'):=by
 refine enter (n:=22) Tryz.func85 rfl rfl rfl (ak (af (asb rfl (aj (ag (ak (af (asi rfl (aj (ag (ak (ak (af (asi rfl (aj (ag (aU (cM (G:=Nat) [7,8,9,10,11,12,13,14,15,16,17] (fun j=>[(5,.int .i64 (cv L j:Nat)),(6,.int .i64 (j+1:Nat))]) (fun j w'=>j≤N∧w=w') (fun j=>N-j) (0) ⟨rfl,rfl,trivial⟩ ?_ ?_))))))))))))))))))
 ·exact ⟨Nat.zero_le _,rfl⟩
 rintro j ρ1 w1 ⟨hj,rfl⟩;have hcl:=zN L j;have hcs:=qD L j;refine ak (ak (af (mvi rfl (mvi rfl (aa (gp rfl rfl) (aj (ag (Bk rfl (fun Q2=>?_) (fun Q2=>?_)))))))))
 ·refine aM (ag (ak (aU (ak (af (mvs rfl (mvi rfl (ay pc (Ba A c L ((j+1:Nat):Int) _ hr hl) ?_))))))));rintro v14 w3 ⟨⟨r14,rfl,hr14⟩,rfl⟩;refine aa (jr rfl rfl) (aj (ag (Bk rfl (fun Q4=>?_) (fun Q4=>?_))))
  ·rw [if_pos (hr14.1 (by omega))] at hcs;refine af (mvi rfl (aa (cl (b:=1) rfl rfl (by omega)) (asi rfl (aj (bo (ag (af (mvi rfl (aa (cl (b:=1) rfl rfl (by omega)) (asi rfl (aj ?_)))))))))));refine cp (j+1) ⟨(by first | rfl | (refine br ?_;omega)),(by first | rfl | (refine br ?_;omega)),trivial⟩ (by (iterate 26 refine bA rfl ?_);exact bN) ⟨?_,?_⟩
   ·exact ⟨by omega,rfl⟩
   ·omega
  rw [if_neg (fun hm=>by have:=hr14.2 hm;omega)] at hcs;refine aM (bo (ag (af (mvi rfl (aa (cl (b:=1) rfl rfl (by omega)) (asi rfl (aj ?_)))))));refine cp (j+1) ⟨(by first | rfl | (refine br ?_;omega)),(by first | rfl | (refine br ?_;omega)),trivial⟩ (by (iterate 23 refine bA rfl ?_);exact bN) ⟨?_,?_⟩
  ·exact ⟨by omega,rfl⟩
  ·omega
 refine b_ (bf (bf (bL (ag (ak (af (mvi rfl (aa (qo (a:=2) rfl rfl (by omega)) (mvi rfl (aa (cn rfl rfl) (asb rfl (aj (ag (aB (bn (v:=.bool _) rfl rfl ?_)))))))))))))));obtain rfl:j=N:=by omega
 exact ⟨congrArg Value.bool (decide_eq_decide.2 (by omega)),rfl⟩
theorem vW (A:Option Addr) (c:Nat) (n:Int) (L:List Int) (w:World) (hr:dE iV w A L) (hl:L.length≤1000000) :
 Rt prog 123 [.int .i64 n,.slice A L.length c] w (fun v w'=>v=.tuple #[.bool (okV n L),.int .i64 (eV n)]∧ah w w'):=by
 refine enter (n:=43) Tryz.func123 rfl rfl rfl (ak (af (asb rfl (asi rfl (aj (ag (ak (ak (af (mvi rfl (aa (bM rfl rfl) (mvb rfl (AL (t:=12) rfl (fun Q1=>?_) (fun Q1=>?_))))))))))))))
 ·refine an rfl rfl (an rfl rfl (aa (aL (v:=.bool _) rfl rfl) (aj (ag (aS rfl (ak (af (asb rfl (asi rfl (aj (ag (aB (aD ?_)))))))))))));refine lS (v:=.bool _) (v':=.int _ _) rfl rfl rfl (⟨?_,ah.rfl_⟩);rw [uT (by omega),yc (by omega)]
 refine ae rfl (mvi rfl (ae rfl (aa (cn rfl rfl) (aa (aw (v:=.bool _) rfl rfl) (aj (ag (Bk rfl (fun Q2=>?_) (fun Q2=>?_))))))))
 ·refine ak (af (asb rfl (asi rfl (aj (ag (aB (aD (lS (v:=.bool _) (v':=.int _ _) rfl rfl rfl (⟨?_,ah.rfl_⟩)))))))));rw [uT (by omega),yc (by omega)]
 refine aM (ag (ak (af ?_)));obtain ⟨N,rfl⟩:∃ N:Nat,n=N:=⟨n.toNat,by omega⟩;have hB6:ah w w:=ah.rfl_;refine bP uE ?_;intro b6 w3 E6 hb6 hk6;have hg6:w.heap.size≤b6:=by have:=hB6.size;omega
 refine aj (ag (ak (af (asi rfl (aj (ag (ak (ak (af (mvs rfl (aa (bH bI rfl) (mvi rfl (aj (ag (aU (cM (G:=Nat) [9,19,20,21,22,23,24,25,26,27,28,29,30,31,32,33,34,35,36,37,38] (fun k=>[(7,.int .i64 (cv (L.take k) N:Nat)),(18,.int .i64 (k:Nat))]) (fun k w'=>k≤L.length∧Blk w' b6 166 (lG (L.take k) N).toArray∧ah w w') (fun k=>L.length-k) (0) ⟨(br (by rw [List.take_zero,Az];rfl)),rfl,trivial⟩ ?_ ?_))))))))))))))))
 ·exact ⟨Nat.zero_le _,by rw [List.take_zero,wy];exact hk6.from_ ah.rfl_,(ah.rfl_.next E6)⟩
 rintro k ρ4 w4 ⟨hk,hP,hB⟩;have hcl:=zN (L.take k) N;refine ak (af (aa (bM rfl rfl) (aj (ag (ak (Bk rfl (fun Q5=>?_) (fun Q5=>?_)))))))
 ·obtain ⟨ba,oa,rfl,hca⟩:=hr (by omega);refine aM (ag (ak (aU (ak (af (aa (bX bj rfl rfl (by omega)) (aa (ar ao rfl (by exact dP hB (hca k (by omega)))) ?_)))))));refine asi rfl (aj (ag (ak (ak (af (mvi rfl (aa (bM rfl rfl) (mvb rfl (AL (t:=24) rfl (fun Q6=>?_) (fun Q6=>?_))))))))))
  ·have hsk:¬ (1≤L[k]∧L[k]≤N)∨L[k]∈L.take k:=.inl (by omega);have hV:=hP;rw [←mx (by omega) hsk] at hV;have hC:=nJ (n:=N) (by omega) hsk;refine an rfl rfl (an rfl rfl (an rfl rfl (aa (aL (v:=.bool _) rfl rfl) (mvb rfl (an rfl rfl (an rfl rfl (an rfl rfl (aa (aL (v:=.bool _) rfl rfl) ?_))))))));refine aj (ag (aS rfl (b_ (bf (bL (ag (af (aa (cl (b:=1) rfl rfl (by omega)) (mvi rfl (aj ?_))))))))));refine cp (k+1) ⟨(by first | rfl | (refine br ?_;omega)),(by first | rfl | (refine br ?_;omega)),trivial⟩ (by (iterate 42 refine bA rfl ?_);exact bN) ⟨?_,?_⟩
   ·exact ⟨by omega,hV,hB⟩
   ·omega
  refine ae rfl (mvi rfl (ae rfl (mvi rfl (ae rfl (aa (cn rfl rfl) (aa (aw (v:=.bool _) rfl rfl) (mvb rfl (AL (t:=29) rfl (fun Q7=>?_) (fun Q7=>?_)))))))))
  ·have hsk:¬ (1≤L[k]∧L[k]≤N)∨L[k]∈L.take k:=.inl (by omega);have hV:=hP;rw [←mx (by omega) hsk] at hV;have hC:=nJ (n:=N) (by omega) hsk;refine an rfl rfl (an rfl rfl (an rfl rfl (aa (aL (v:=.bool _) rfl rfl) (aj (ag (aS rfl (b_ (bf (bL (ag (af (aa (cl (b:=1) rfl rfl (by omega)) ?_))))))))))));refine mvi rfl (aj ?_);refine cp (k+1) ⟨(by first | rfl | (refine br ?_;omega)),(by first | rfl | (refine br ?_;omega)),trivial⟩ (by (iterate 43 refine bA rfl ?_);exact bN) ⟨?_,?_⟩
   ·exact ⟨by omega,hV,hB⟩
   ·omega
  refine ae rfl (mvi rfl (ae rfl (aa (lf pd rfl rfl (by omega)) (ae rfl (aa (ar eb rfl (by exact hP.rd _ (rp _ N _ (by omega)))) ?_)))));refine aa (aw (v:=.bool _) rfl rfl) (aj (ag (Bk rfl (fun Q8=>?_) (fun Q8=>?_))))
  ·have h9:=Q8;have hsk:¬ (1≤L[k]∧L[k]≤N)∨L[k]∈L.take k:=.inr (by have h8:=h9.2.2;rwa [Int.toNat_of_nonneg (by omega)] at h8);have hV:=hP;rw [←mx (by omega) hsk] at hV;have hC:=nJ (n:=N) (by omega) hsk;refine b_ (bf (bL (ag (af (aa (cl (b:=1) rfl rfl (by omega)) (mvi rfl (aj ?_)))))));refine cp (k+1) ⟨(by first | rfl | (refine br ?_;omega)),(by first | rfl | (refine br ?_;omega)),trivial⟩ (by (iterate 43 refine bA rfl ?_);exact bN) ⟨?_,?_⟩
   ·exact ⟨by omega,hV,hB⟩
   ·omega
  have h9:=Q8;have hnew:L[k] ∉ L.take k:=fun hm=>h9 ⟨by omega,by omega,by rw [Int.toNat_of_nonneg (by omega)];exact hm⟩
  have hC:=yd (by omega) hnew N (by omega) (by omega);refine aM (ag (ak (af (mvi rfl (aa (lf pd rfl rfl (by omega)) (fR (v:=.bool _) pb rfl rfl rfl (hP) (by simp [lG];omega) ?_))))));intro w9 O9 P9;have hV:=P9;rw [wz (by omega) (by omega) (by omega) (by omega)] at hV;refine aj (ag (af (mvi rfl (aa (cl (b:=1) rfl rfl (by omega)) (asi rfl (aj (bo (ag (af (aa (cl (b:=1) rfl rfl (by omega)) (mvi rfl (aj ?_))))))))))));refine cp (k+1) ⟨(by first | rfl | (refine br ?_;omega)),(by first | rfl | (refine br ?_;omega)),trivial⟩ (by (iterate 48 refine bA rfl ?_);exact bN) ⟨?_,?_⟩
  ·exact ⟨by omega,hV,(hB.only O9 (hg6))⟩
  ·omega
 refine b_ (bf (bf (bL (ag (ak (af (mvi rfl (aa (qo (a:=2) rfl rfl (by omega)) (mvi rfl (aa (cn rfl rfl) (asb rfl (asi rfl (aj (ag (aB ?_)))))))))))))));refine lS (v:=.bool _) (v':=.int _ _) rfl rfl rfl ?_;obtain rfl:k=L.length:=by omega
 refine ⟨?_,hB⟩;rw [Aj (by omega),Be (by omega),List.take_length];exact AN (decide_eq_decide.2 (by omega))
theorem rQ (A:Option Addr) (c:Nat) (L:List Int) (w:World) (hr:dE iV w A L) (hF:Fit L) :
 Rt prog 110 [.slice A L.length c] w (fun v w'=>v=.int .i64 (med L)∧ah w w'):=by
 obtain ⟨f1,f2,f3⟩:=id hF;obtain ⟨ba,oa,rfl,hca⟩:=hr (by omega);have hm0:=f3 _ (lZ f1);refine enter (n:=42) Tryz.func110 rfl rfl rfl (ak (af (asi rfl (aj (ag (ak (af (asi rfl (aj (ag (ak (ak (af (asi rfl (aj (ag (aU (cM (G:=Int×Nat) [5,6,7,8,9,10,11,12,13,14,15,16,17,18,19,20,21,22,23,24,25,26,27,28,29,30,31,32,33,34,35,36,37,38,39,40] (fun (m,i)=>[(3,.int .i64 m),(4,.int .i64 (i:Nat))]) (fun (m,i) w'=>i≤L.length∧m≤med L∧(∀ j (h:j<L.length),j<i→L[j]=med L→m=med L)∧ah w w') (fun (_,i)=>L.length-i) ((0,0)) ⟨rfl,rfl,trivial⟩ ?_ ?_))))))))))))))))))
 ·exact ⟨Nat.zero_le _,hm0,fun j h h0=>absurd h0 (by omega),ah.rfl_⟩
 rintro ⟨m,i⟩ ρ1 w1 ⟨hi,hm,hj,hB⟩;refine ak (ak (af (mvi rfl (mvs rfl (aa (bH bI rfl) (aa (bM rfl rfl) (aj (ag (Bk rfl (fun Q2=>?_) (fun Q2=>?_))))))))))
 ·refine aM (ag (ak (aU (ak (af (asi rfl (aj (ag (ak (ak (af (asi rfl (aj (ag (aU (cM (G:=Nat) [13,14,15,16,17,18,19,20,21,22,23,24,25,26,27,28,29] (fun k=>[(5,.int .i64 ((L.take k).countP (fun y=>decide (L[i]≤y)):Nat)),(6,.int .i64 (k:Nat))]) (fun k w'=>k≤L.length∧ah w w') (fun k=>L.length-k) (0) ⟨rfl,rfl,trivial⟩ ?_ ?_))))))))))))))))
  ·exact ⟨Nat.zero_le _,hB⟩
  rintro k ρ3 w3 ⟨hk,hB⟩;have hcl:=List.countP_le_length (p:=fun y=>decide (L[i]≤y)) (l:=L.take k);rw [List.length_take] at hcl;refine ak (ak (af (mvi rfl (mvs rfl (aa (bH bI rfl) (aa (bM rfl rfl) (aj (ag (Bk rfl (fun Q4=>?_) (fun Q4=>?_))))))))))
  ·refine aM (ag (ak (aU (ak ?_))));apply sm 9 [(19,eqp _),(20,eqp _),(21,eqp _),(22,eqp _),(23,eqp _),(24,eqp _),(25,eqp _),(26,eqp _),(27,eqp _)] (by kernel_rfl) (by kernel_rfl) ⟨aq _,aq _,aq _,aq _,aq _,aq _,aq _,aq _,aq _,trivial⟩
   case hop=>
    constructor
    ·intro w6 D6;exact au (aH (v:=.slice _ _ _) rfl) rfl
    constructor
    ·intro w7 D7;exact au (aH (v:=.int _ _) rfl) rfl
    constructor
    ·intro w8 D8;rintro _ rfl _ rfl;exact au (bX bj rfl rfl (by omega)) rfl
    constructor
    ·intro w9 D9;rintro _ rfl;exact au (ar ao rfl (by exact dP (hB.next D9) (hca k (by omega)))) rfl
    constructor
    ·intro w10 D10;exact au (aH (v:=.slice _ _ _) rfl) rfl
    constructor
    ·intro w11 D11;exact au (aH (v:=.int _ _) rfl) rfl
    constructor
    ·intro w12 D12;rintro _ rfl _ rfl;exact au (bX bj rfl rfl (by omega)) rfl
    constructor
    ·intro w13 D13;rintro _ rfl;exact au (ar ao rfl (by exact dP (hB.next D13) (hca i (by omega)))) rfl
    constructor
    ·intro w14 D14;rintro _ rfl _ rfl;exact au (jr rfl rfl) rfl
    exact trivial
   case hend=>
    intro w15 D15;rintro _ rfl _ rfl _ rfl _ rfl _ rfl _ rfl _ rfl _ rfl _ rfl;show St ..;refine aj (ag (Bk rfl (fun Q16=>?_) (fun Q16=>?_)))
    ·have hcp:=oM (p:=fun y=>decide (L[i]≤y)) (L:=L) (k:=k) (by omega);rw [if_pos (decide_eq_true (by omega))] at hcp;refine af (mvi rfl (aa (cl (b:=1) rfl rfl (by omega)) (asi rfl (aj (bo (ag (af (mvi rfl (aa (cl (b:=1) rfl rfl (by omega)) (asi rfl (aj ?_)))))))))));refine cp (k+1) ⟨(by first | rfl | (refine br ?_;omega)),(by first | rfl | (refine br ?_;omega)),trivial⟩ (by (iterate 38 refine bA rfl ?_);exact bN) ⟨?_,?_⟩
     ·exact ⟨by omega,(hB.next D15)⟩
     ·omega
    have hcp:=oM (p:=fun y=>decide (L[i]≤y)) (L:=L) (k:=k) (by omega);rw [if_neg (by rw [decide_eq_true_eq];omega)] at hcp;refine aM (bo (ag (af (mvi rfl (aa (cl (b:=1) rfl rfl (by omega)) (asi rfl (aj ?_)))))));refine cp (k+1) ⟨(by first | rfl | (refine br ?_;omega)),(by first | rfl | (refine br ?_;omega)),trivial⟩ (by (iterate 35 refine bA rfl ?_);exact bN) ⟨?_,?_⟩
    ·exact ⟨by omega,(hB.next D15)⟩
    ·omega
  refine b_ (bf (bf (bL (ag (ak (af (mvi rfl (aa (qo (a:=2) rfl rfl (by omega)) (mvs rfl (aa (bH bI rfl) (aa (cn rfl rfl) (aj (ag (Bk rfl (fun Q17=>?_) (fun Q17=>?_)))))))))))))))
  ·have hme:L[i]≤med L:=by
    rcases Int.lt_or_le (med L) L[i] with a | a
    ·have h1:=yf f1 a;obtain rfl:k=L.length:=by omega
     rw [List.take_length] at*;unfold cnt at h1;omega
    ·exact a
   obtain ⟨m2,hm2⟩:∃ m2,m2=max m L[i]:=⟨_,rfl⟩;refine af (mvi rfl (mvs rfl (mvi rfl (aa (bX bj rfl rfl (by omega)) (aa (ar ao rfl (by exact dP hB (hca i (by omega)))) ?_)))));refine aa (ts rfl rfl) (asi rfl (aj (bo (ag (af (mvi rfl (aa (cl (b:=1) rfl rfl (by omega)) (asi rfl (aj ?_)))))))));refine cp ((m2,i+1)) ⟨(by first | rfl | (refine br ?_;omega)),(by first | rfl | (refine br ?_;omega)),trivial⟩ (by (iterate 82 refine bA rfl ?_);exact bN) ⟨?_,?_⟩
   ·refine ⟨by omega,by omega,fun j h h0 he=>?_,hB⟩;rcases Nat.lt_or_ge j i with a | a
    ·have:=hj j h a he;omega
    ·obtain rfl:j=i:=by omega
     omega
   ·show _-_<_-_;omega
  have hme:L[i]≠med L:=by
   intro a;have h1:=zq f1 (Int.le_of_eq a);obtain rfl:k=L.length:=by omega
   rw [List.take_length] at*;unfold cnt at h1;omega
  obtain ⟨m2,hm2⟩:∃ m2,m2=m:=⟨_,rfl⟩;refine aM (bo (ag (af (mvi rfl (aa (cl (b:=1) rfl rfl (by omega)) (asi rfl (aj ?_)))))));refine cp ((m2,i+1)) ⟨(by first | rfl | (refine br ?_;omega)),(by first | rfl | (refine br ?_;omega)),trivial⟩ (by (iterate 75 refine bA rfl ?_);exact bN) ⟨?_,?_⟩
  ·refine ⟨by omega,by omega,fun j h h0 he=>?_,hB⟩;rcases Nat.lt_or_ge j i with a | a
   ·have:=hj j h a he;omega
   ·obtain rfl:j=i:=by omega
    omega
  ·show _-_<_-_;omega
 refine b_ (bf (bf (bL (ag (ak (af (mvi rfl (asi rfl (aj (ag (aB (bn (v:=.int _ _) rfl rfl ?_))))))))))));obtain ⟨j,hjl,he⟩:=List.getElem_of_mem (lZ f1);exact ⟨br (hj j hjl (by omega) he),hB⟩
theorem dd:jc prog 24=some true:=by kernel_rfl
theorem cT:dZ prog 24=some 3:=by kernel_rfl
theorem aC:cK prog 91 0=some 0:=by kernel_rfl
theorem bq:cK prog 29 6=some 6:=by kernel_rfl
theorem mj:aO prog 152=true:=by kernel_rfl
theorem qU:aO prog 121=true:=by kernel_rfl
theorem gB:aO prog 111=true:=by kernel_rfl
theorem bJ:cK prog 29 1=some 1:=by kernel_rfl
theorem qT:aO prog 123=true:=by kernel_rfl
theorem gC:cK prog 29 11=some 13:=by kernel_rfl
theorem kH:jc prog 25=some false:=by kernel_rfl
theorem sS:aO prog 94=true:=by kernel_rfl
theorem sR:dZ prog 25=some 1:=by kernel_rfl
theorem eN:cK prog 29 10=some 12:=by kernel_rfl
theorem bF:dZ prog 3=some 1:=by kernel_rfl
theorem dq:cK prog 29 9=some 11:=by kernel_rfl
theorem bZ:cK prog 29 0=some 0:=by kernel_rfl
theorem bB:jF prog 26=some (3,1,8,(.int .i64 0)):=by kernel_rfl
theorem zx (s:Int) (w:World):Rt prog 94 [.int .u64 s,.int .i64 10] w fun v w'=>v=.tuple #[.int .u64 (nx s),.int .i64 (bl s 10)]∧ah w w':=Rt.of (below s 10 w (by decide))
theorem zj (A:Option Addr) (c:Nat) (n:Int) (L:List Int) (w:World) (hr:dE iV w A L) (hl:L.length≤1000000) (hn:1≤n∧n≤7):Rt prog 123 [.int .i64 n,.slice A L.length c] w fun v w'=>v=.tuple #[.bool (dU n L),.int .i64 0]∧ah w w':=
 (vW A c n L w hr hl).mono fun v w' h=>⟨by
  rw [h.1];unfold okV eV dU;rw [if_pos hn,decide_eq_true hn,Bool.true_and,show decide (n<2*((cv L n.toNat:Nat):Int))=decide (n.toNat<2*cv L n.toNat) from decide_eq_decide.2 (by omega)],h.2⟩
theorem qv (id:Int) (k:Nat):(gY id k).length≤k:=by
 unfold gY;refine Nat.le_trans (List.length_filter_le _ _) ?_;simp
theorem xw {id:Int} {k:Nat} (h:((k:Int)+1)≠id):gY id (k+1)=gY id k++[(k:Int)+1]:=by
 rw [mH,if_neg (by omega)];rfl
theorem yW {id:Int} {k:Nat} (h:((k:Int)+1)=id):gY id (k+1)=gY id k:=by rw [mH,if_pos (by omega)]
theorem kt (T g:Nat) (s:Rf) (a:Ra) (R:List Value) (w:World) (hb:Blk w g T (rfV s a++R).toArray) (he:cz w (.slice a.E s.es.length a.Ec) s.es) (hm:cJ s.b s.t s.es=true) :
 Rt prog 111 [.pointer (some ⟨g,0,none⟩)] w (fun v w'=>v=.tuple #[.int .i64 (a_ s),.int .i64 (de s.t s.es)]∧ah w w'):=by
 refine enter (n:=16) Tryz.func111 rfl rfl rfl (ak (af (asi rfl (asi rfl (aj (ag (ak (af (mvp rfl (aa (av rfl) (aa (ab aC rfl) (aa (ab bq rfl) ?_))))))))))));refine aa (aG (cs:=[.int .i64 s.b,.int .i64 s.t,.slice a.E s.es.length a.Ec]) dd cT rfl (js (hb.from_ ah.rfl_))) (ay mj (y_ s.b s.t a.E s.es.length a.Ec s.es _ (he.from_ ah.rfl_) hm) ?_);rintro v10 w1 ⟨rfl,E10⟩;refine mvt rfl (aa (aZ rfl rfl) (aa (aZ rfl rfl) (aa (aZ rfl rfl) (asi rfl (asi rfl (aj (ag (ak (af (mvi rfl (mvi rfl ?_)))))))))));refine asi rfl (asi rfl (aj (ag (aB (lS (v:=.int _ _) (v':=.int _ _) rfl rfl rfl (⟨rfl,(ah.rfl_.next E10)⟩))))))
theorem ru (T g:Nat) (s:Rf) (a:Ra) (R:List Value) (w:World) (hb:Blk w g T (rfV s a++R).toArray) (he:cz w (.slice a.E s.es.length a.Ec) s.es) (hm:cJ s.b s.t s.es=true) (i:Int) (hi:s.b≤i∧i≤a_ s) :
 Rt prog 83 [.pointer (some ⟨g,0,none⟩),.int .i64 i] w (fun v w'=>v=.int .i64 (dJ s.b s.t s.es i)∧ah w w'):=by
 refine enter (n:=18) Tryz.func83 rfl rfl rfl (ak (af (asi rfl (aj (ag (ak (af (mvp rfl (aa (av rfl) (aa (ab aC rfl) (aa (ab bq rfl) (aa (aG (cs:=[.int .i64 s.b,.int .i64 s.t,.slice a.E s.es.length a.Ec]) dd cT rfl (js (hb.from_ ah.rfl_))) ?_))))))))))));refine mvi rfl (ay qU (yH s.b s.t i a.E s.es.length a.Ec s.es _ (he.from_ ah.rfl_) hm hi) ?_);rintro v14 w1 ⟨rfl,E14⟩;refine mvt rfl (aa (aZ rfl rfl) (aa (aZ rfl rfl) (asi rfl (asi rfl (aj (ag (ak (af (mvi rfl (asi rfl (aj (ag (aB ?_)))))))))))));refine bn (v:=.int _ _) rfl rfl (⟨rfl,(ah.rfl_.next E14)⟩)
theorem zd (T g:Nat) (s:Rf) (a:Ra) (R:List Value) (w:World) (hb:Blk w g T (rfV s a++R).toArray) (he:cz w (.slice a.E s.es.length a.Ec) s.es) (hm:cJ s.b s.t s.es=true) :
 Rt prog 75 [.pointer (some ⟨g,0,none⟩)] w (fun v w'=>v=.bool (fA s)∧ah w w'):=by
 refine enter (n:=22) Tryz.func75 rfl rfl rfl (ak (af (asb rfl (aj (ag (ak (af (mvp rfl (ay gB (kt T g s a R _ (hb.from_ ah.rfl_) (he.from_ ah.rfl_) hm) ?_)))))))));rintro v7 w1 ⟨rfl,E7⟩;refine mvt rfl (aa (aZ rfl rfl) (aa (aZ rfl rfl) (asi rfl (asi rfl (aj (ag (ak (af (mvp rfl (aa (av rfl) (aa (ab aC rfl) ?_)))))))))));refine aa (ab bq rfl) (aa (ab cW rfl) (aa (ar cI rfl (by exact ct (hb.from_ (ah.rfl_.next E7)) 8 rfl)) ?_));refine aa (bH cU rfl) (aa (bg rfl rfl) (mvb rfl (AK (t:=18) rfl (fun Q2=>?_) (fun Q2=>?_))))
 ·refine an rfl rfl (an rfl rfl (aa (aL (v:=.bool _) rfl rfl) (asb rfl (aj (ag (aB (bn (v:=.bool _) rfl rfl (⟨congrArg Value.bool ?_,(ah.rfl_.next E7)⟩))))))));unfold fA
  first
   |(rw [Bool.eq_iff_iff];simp only [Bool.or_eq_true,decide_eq_true_eq];omega)
   |(rw [eq_comm,Bool.or_eq_true];left;rw [decide_eq_true_eq];omega)
 refine ae rfl (mvi rfl (ae rfl (aa (bg rfl rfl) (aa (aw (v:=.bool _) rfl rfl) (asb rfl (aj (ag (aB (bn (v:=.bool _) rfl rfl (⟨congrArg Value.bool ?_,(ah.rfl_.next E7)⟩))))))))));unfold fA
 first
  |(rw [Bool.eq_iff_iff];simp only [Bool.or_eq_true,decide_eq_true_eq,beq_iff_eq];omega)
  |(rw [eq_comm,Bool.or_eq_true];left;rw [decide_eq_true_eq];omega)
theorem tU (T g:Nat) (s:Rf) (a:Ra) (R:List Value) (w:World) (hb:Blk w g T (rfV s a++R).toArray) (A:Option Addr) (c:Nat) (l:List Int) (hr:dE iV w A l) (hl:l.length≤1000000) (hn:1≤s.nodes∧s.nodes≤7) :
 Rt prog 86 [.pointer (some ⟨g,0,none⟩),.slice A l.length c] w (fun v w'=>v=.bool (dU s.nodes l)∧ah w w'):=by
 refine enter (n:=22) Tryz.func86 rfl rfl rfl (ak (af (asb rfl (aj (ag (ak (af (mvp rfl (aa (av rfl) (aa (ab aC rfl) (aa (ab bJ rfl) (aa (ar ao rfl (by exact ct (hb.from_ ah.rfl_) 1 rfl)) ?_))))))))))));refine mvs rfl (ay qT (zj A c s.nodes l _ (hr.from_ ah.rfl_) hl hn) ?_);rintro v14 w1 ⟨rfl,E14⟩;refine mvt rfl (aa (aZ rfl rfl) (aa (aZ rfl rfl) (asb rfl (asi rfl (aj (ag (ak (af (mvb rfl (mvb rfl (AL (t:=18) rfl (fun Q2=>?_) (fun Q2=>?_))))))))))))
 ·refine ae rfl (mvi rfl (ae rfl (aa (c6 (bg rfl rfl) rfl) (aa (aL (v:=.bool _) rfl rfl) (asb rfl (aj (ag (aB (bn (v:=.bool _) rfl rfl (⟨congrArg Value.bool ?_,(ah.rfl_.next E14)⟩))))))))));unfold dU
  first
   |exact (decide_eq_true (by omega)).symm
   |exact (decide_eq_false (by omega)).symm
 refine an rfl rfl (an rfl rfl (aa (aw (v:=.bool _) rfl rfl) (asb rfl (aj (ag (aB (bn (v:=.bool _) rfl rfl (⟨congrArg Value.bool ?_,(ah.rfl_.next E14)⟩))))))));unfold dU
 first
  |exact (decide_eq_true (by omega)).symm
  |exact (decide_eq_false (by omega)).symm
theorem qC (T g:Nat) (s:Rf) (a:Ra) (R:List Value) (w:World) (hb:Blk w g T (rfV s a++R).toArray) :
 Rt prog 54 [.pointer (some ⟨g,0,none⟩)] w (fun v w'=>v=.tuple #[]∧Blk w' g T (rfV (ir s) a++R).toArray∧Chg (fun k=>k=g) w w'):=by
 have hbl:=ud s.seed;refine enter (n:=28) Tryz.func54 rfl rfl rfl (ak (af (mvp rfl (aa (av rfl) (aa (ab aC rfl) (aa (ab gC rfl) (aa (ar kH rfl (by exact ct (hb.from_ ah.rfl_) 13 rfl)) ?_)))))));refine ay sS (zx s.seed _) ?_;rintro v10 w1 ⟨rfl,E10⟩;refine mvt rfl (aa (aZ rfl rfl) (aa (aZ rfl rfl) (asi rfl (asi rfl (aj (ag (af (mvp rfl (mvp rfl (mvp rfl ?_))))))))));refine mvi rfl (mvi rfl (aa (b0 rfl rfl (by omega)) (aa (av rfl) (aa (ab aC rfl) (aa (ab gC rfl) (cj (s':={ s with seed:=nx s.seed }) (a':=a) (v:=.int _ _) sR rfl rfl rfl ((hb.from_ (ah.rfl_.next E10))) (by exact ⟨by decide,rfl⟩) ?_))))));intro w2 O1a P1a;have hC1:Chg (fun k=>k=g) w w2:=(ah.toChg E10).only O1a rfl;refine aa (av rfl) (aa (ab aC rfl) (aa (ab eN rfl) (cj (s':={ s with seed:=nx s.seed,timeout:=10+bl s.seed 10 }) (a':=a) (v:=.int _ _) bF rfl rfl rfl (P1a) (by exact ⟨by decide,rfl⟩) ?_)));intro w3 O1b P1b;replace hC1:=hC1.only O1b rfl;refine aa (av rfl) (aa (ab aC rfl) (aa (ab dq rfl) (cj (s':=ir s) (a':=a) (v:=.int _ _) bF rfl rfl rfl (P1b) (by exact ⟨by decide,rfl⟩) ?_)));intro w4 O1c P1c;replace hC1:=hC1.only O1c rfl;refine aj (cC (dV rfl (⟨rfl,P1c,hC1⟩)))
theorem pR (T g:Nat) (s:Rf) (a:Ra) (R:List Value) (w:World) (hb:Blk w g T (rfV s a++R).toArray) (hn:0≤s.nodes∧s.nodes≤1000000) :
 Rt prog 77 [.pointer (some ⟨g,0,none⟩)] w (fun v w'=>(∃ A c,v=.slice A (dw s).length c∧w'.ownsRow w.heap.size 3 1 (.slice A (dw s).length c) (dw s).length ((dw s).map iV))∧ah w w'):=by
 refine enter (n:=26) Tryz.func77 rfl rfl rfl (ak (af (ass rfl (aj (ag (ak (af (ass rfl (aj (ag (ak (ak (af (asi rfl (aj (ag (aU (cM (G:=Nat×Option Addr×Nat) [5,6,7,8,9,10,11,12,13,14,15,16,17,18,19,20,21,22,23,24] (fun (k,A3,c3)=>[(3,.slice A3 (gY s.id k).length c3),(4,.int .i64 ((k:Int)+1))]) (fun (k,A3,c3) w'=>(k:Int)≤s.nodes∧w'.ownsRow w.heap.size 3 1 (.slice A3 (gY s.id k).length c3) (gY s.id k).length ((gY s.id k).map iV)∧ah w w') (fun (k,_,_)=>s.nodes.toNat-k) ((0,none,0)) ⟨rfl,rfl,trivial⟩ ?_ ?_))))))))))))))))))
 ·exact ⟨by omega,World.ownsRow_nil _ _ _ _,ah.rfl_⟩
 rintro ⟨k,A3,c3⟩ ρ1 w1 ⟨hk,ho3,hB⟩;refine ak (ak (af (mvi rfl (mvp rfl (aa (av rfl) (aa (ab aC rfl) (aa (ab bJ rfl) (aa (ar ao rfl (by exact ct (hb.from_ hB) 1 rfl)) ?_))))))));refine aa (gp rfl rfl) (aj (ag (Bk rfl (fun Q2=>?_) (fun Q2=>?_))))
 ·have hle:=qv s.id k;refine aM (ag (ak (aU (ak (af (mvi rfl (mvp rfl (aa (av rfl) (aa (ab aC rfl) (aa (ab bZ rfl) (aa (ar ao rfl (by exact ct (hb.from_ hB) 0 rfl)) ?_)))))))))));refine aa (dk rfl rfl) (aj (ag (aR rfl (fun Q3=>?_) (fun Q3=>?_))))
  ·replace Q3:=dK Q3;replace Q3:=eH Q3;have hoy:=xw (id:=s.id) (k:=k) (by omega);have hol:(gY s.id (k+1)).length=(gY s.id k).length+1:=by rw [hoy,List.length_append];rfl
   refine af (mvs rfl (mvi rfl (eO (v:=.int _ _) bB rfl rfl rfl ?_)));intro b23 w4 E23 hb23 hk23;refine rC (a0:=w) bB rfl rfl (ho3.kept_from E23) (hB.next E23) rfl hk23 rfl (by omega) (by omega) ?_;intro A24 c24 w5 ho24 B24 hg24;refine ass rfl (aj (bo (ag (af (mvi rfl (aa (b0 rfl rfl (by omega)) (asi rfl (aj ?_))))))));refine cp ((k+1,A24,c24)) ⟨by first | exact congrArg (fun q=>Value.slice A24 q c24) hol.symm | exact (congrArg (fun q=>Value.slice A24 q c24) hol).symm,br (by omega),trivial⟩ (by (iterate 44 refine bA rfl ?_);exact bN) ⟨?_,?_⟩
   ·exact ⟨by omega,by first | (rw [hoy,List.map_append,List.length_append];exact ho24) | (rw [hoy];exact ho24),B24⟩
   ·show s.nodes.toNat-(k+1)<s.nodes.toNat-k;omega
  replace Q3:=dL Q3;replace Q3:=eG Q3;obtain ⟨A24,rfl⟩:∃ x,x=A3:=⟨_,rfl⟩;obtain ⟨c24,rfl⟩:∃ x,x=c3:=⟨_,rfl⟩;have hoy:=yW (id:=s.id) (k:=k) (by omega);have hol:(gY s.id (k+1)).length=(gY s.id k).length:=by rw [hoy]
  have ho24:=ho3;refine aM (bo (ag (af (mvi rfl (aa (b0 rfl rfl (by omega)) (asi rfl (aj ?_)))))));refine cp ((k+1,A24,c24)) ⟨by first | exact congrArg (fun q=>Value.slice A24 q c24) hol.symm | exact (congrArg (fun q=>Value.slice A24 q c24) hol).symm,br (by omega),trivial⟩ (by (iterate 39 refine bA rfl ?_);exact bN) ⟨?_,?_⟩
  ·exact ⟨by omega,by first | (rw [hoy,List.map_append,List.length_append];exact ho24) | (rw [hoy];exact ho24),hB⟩
  ·show s.nodes.toNat-(k+1)<s.nodes.toNat-k;omega
 refine b_ (bf (bf (bL (ag (ak (af (mvs rfl (ass rfl (aj (ag (aB (bn (v:=.slice _ _ _) rfl rfl ?_))))))))))));have hkn:k=s.nodes.toNat:=by omega
 subst hkn;exact ⟨⟨A3,c3,rfl,ho3⟩,hB⟩
end Go.Proofs.YtkpooenofjdpmaaGreat
namespace Go.Proofs.YtkpooenofjdpmaaGreat
open Go.Proofs.Tryz (prog)
open Go.RowKit
def nW (B T:Int) (xs:List Ent) (i n:Int):Int:=if cJ B T xs=true then (if B+1≤i∧i≤df B xs+1 then (if n<0 then 1 else 0) else 3) else 1
def Bo (w w':World) (ys:List Ent) (c:Int) (v:Value):Prop:=(c≠0→v=.slice none 0 0)∧(c=0→w'.ownsRow w.heap.size 99 3 v ys.length (dF ys))
def AQ (A:Option Addr) (cap k:Nat):Option Addr:=if cap=k then A else Option.map (fun x=>x.add (k*3)) A
theorem vp (B T i n:Int) (v:Value) (xs:List Ent) (w:World) (h:cz w v xs) (hn9:n≤9223372036854775807) :
 Calls prog 114 #[.agg #[.int .i64 B,.int .i64 T,v],.int .i64 i,.int .i64 n] w fun e w'=>∃ L,e=.returned (.tuple #[L,.int .i64 (nW B T xs i n)])∧Bo w w' ((xs.drop (i-B-1).toNat).take n.toNat) (nW B T xs i n) L∧ah w w':=by
 obtain ⟨f0,f1,f2,hbb,hwb⟩:=fB (w:=w) (B:=B) (T:=T) (v:=v) (t:=24);have hch:=fun w' (hw:ah w w')=>kY B T v xs w' (h.from_ hw)
 have hlo:=fun w' (hw:ah w w')=>jS B T v xs w' (h.from_ hw)
 have hwi:=iJ;have HW:=Lib.hid hwi;unfold chk at hch;have HE:=Lib.hid h;have hdef:nW B T xs i n=nW B T xs i n:=rfl
 conv at hdef=>rhs;unfold nW
 obtain ⟨A,cap,rfl,hc1,hc2,hc3,hrow⟩:=h;clear hc3 hrow hwi;by_cases hm:cJ B T xs=true
 ·rw [if_pos hm] at hch hdef;obtain ⟨hl,hB0,hB1,hx⟩:=pU hm;rw [hl] at hlo hdef;have HC:=Lib.hid hch;have HL:=Lib.hid hlo;clear hch hlo hm hl;by_cases hin:B+1≤i∧i≤B+xs.length+1
  ·rw [if_pos hin] at hdef;have hib:=fk hin;by_cases hneg:n<0
   ·rw [if_pos hneg] at hdef;rw [hdef];have e1:decide (n<0)=true:=decide_eq_true hneg;clear hdef hin hneg
    go_enter Tryz.func114,Tryz.ntmps114
    go_wp2_with (first
     |(go_at_call 116;(with_reducible refine (HC.out _ hwb).mono ?_);rintro e w1 ⟨rfl,hb1⟩;have hw1:=ah.next (a:=w) hwb hb1;have hbw1:=ah.next (a:=_) hbb hb1)
     |(go_at_call 117;(with_reducible refine (HL.out _ hw1).mono ?_);rintro e w2 ⟨rfl,hb3⟩;have hw2:=ah.next (a:=w) hw1 hb3;have hbw2:=ah.next (a:=_) hbw1 hb3)
     |(go_at_call 118;(with_reducible refine (HW.out _ _ _ _).mono ?_);rintro e w3 ⟨rfl,hb4⟩;have hw3:=ah.next (a:=w) hw2 hb4))
    go_ret2
    exact ⟨_,rfl,⟨fun _=>rfl,fun h=>absurd h (by decide)⟩,hw3⟩
   ·rw [if_neg hneg] at hdef;rw [hdef];obtain ⟨k,hk⟩:∃ k:Nat,i=B+k+1:=⟨(i-B-1).toNat,by omega⟩;obtain ⟨m,hmn⟩:∃ m:Nat,n=m:=⟨n.toNat,by omega⟩;subst hmn;have e1:decide ((m:Int)<0)=false:=decide_eq_false hneg;have hkn:(i-B-1).toNat=k:=by omega
    have hmt:(m:Int).toNat=m:=by omega
    rw [hkn,hmt];have hkl:k≤xs.length:=by omega
    have hrest:=HE.out.rest hkl;have hdl:(xs.drop k).length=xs.length-k:=List.length_drop;obtain ⟨q,hq⟩:∃ q:Nat,q=min m (xs.length-k):=⟨_,rfl⟩;have hql:q≤xs.length-k:=by omega
    have hcut:=hrest.cut (k:=q) (by omega)
    have htk:(xs.drop k).take m=(xs.drop k).take q:=by
     rw [hq];by_cases hle:m≤xs.length-k
     ·rw [Nat.min_eq_left hle]
     ·rw [Nat.min_eq_right (by omega),List.take_of_length_le (by omega),List.take_of_length_le (by omega)]
    rw [htk];have hcl:=fun w' (hw:ah w w')=>p7 _ _ w' (hcut.from_ hw) (by rw [List.length_take];omega)
    have HCL:=Lib.hid hcl;have hra:(if cap=k then A else Option.map (fun x=>x.add (k*3)) A)=AQ A cap k:=rfl;rw [hra] at HCL;have j0:i-B-1=(k:Int):=by omega
    have j1:(0:Int)≤(k:Int):=by omega
    have j2:(k:Int)≤(xs.length:Int):=by omega
    have j3:(k:Int)≤(cap:Int):=by omega
    have q1:(0:Int)≤(q:Int):=by omega
    have q2:(q:Int)≤((xs.length-k:Nat):Int):=by omega
    have q3:(q:Int)≤((cap-k:Nat):Int):=by omega
    have hHQ:=Lib.hid hq;have HI:=Lib.hid hin;have hii:B+1≤i∧i≤B+600:=by omega
    clear hdef hkn hmt hrest hcut htk hcl hin hneg hq;by_cases hle:m≤xs.length-k
    ·have hqm:q=m:=by have:=hHQ.out;omega
     subst hqm;have e5:min (q:Int) ((xs.length-k:Nat):Int)=(q:Int):=by omega
     have e6:(q:Int)≤((xs.length-k:Nat):Int):=by omega
     clear hk
     go_enter Tryz.func114,Tryz.ntmps114
     go_wp2_with (first
      |(go_at_call 116;(with_reducible refine (HC.out _ hwb).mono ?_);rintro e w1 ⟨rfl,hb1⟩;have hw1:=ah.next (a:=w) hwb hb1;have hbw1:=ah.next (a:=_) hbb hb1)
      |(go_at_call 117;(with_reducible refine (HL.out _ hw1).mono ?_);rintro e w2 ⟨rfl,hb3⟩;have hw2:=ah.next (a:=w) hw1 hb3;have hbw2:=ah.next (a:=_) hbw1 hb3)
      |(go_at_call 118;(with_reducible refine (HW.out _ _ _ _).mono ?_);rintro e w3 ⟨rfl,hb4⟩;have hw3:=ah.next (a:=w) hw2 hb4;have hbw3:=ah.next (a:=_) hbw2 hb4)
      |(go_at_call 120;(with_reducible refine (HCL.out _ hw3).mono ?_);rintro e w4 ⟨v4,rfl,hown4,hb5⟩;have hw4:=ah.next (a:=w) hw3 hb5;have HO:=Lib.hid (And.intro hown4 hw3.size);clear hown4))
     go_ret2
     exact ⟨_,rfl,⟨fun h=>absurd rfl h,fun _=>fZ HO.out.1 HO.out.2⟩,hw4⟩
    ·have hqm:q=xs.length-k:=by have:=hHQ.out;omega
     subst hqm;have e5:min (m:Int) ((xs.length-k:Nat):Int)=((xs.length-k:Nat):Int):=by omega
     have e6:¬ (m:Int)≤((xs.length-k:Nat):Int):=by omega
     clear hk
     go_enter Tryz.func114,Tryz.ntmps114
     go_wp2_with (first
      |(go_at_call 116;(with_reducible refine (HC.out _ hwb).mono ?_);rintro e w1 ⟨rfl,hb1⟩;have hw1:=ah.next (a:=w) hwb hb1;have hbw1:=ah.next (a:=_) hbb hb1)
      |(go_at_call 117;(with_reducible refine (HL.out _ hw1).mono ?_);rintro e w2 ⟨rfl,hb3⟩;have hw2:=ah.next (a:=w) hw1 hb3;have hbw2:=ah.next (a:=_) hbw1 hb3)
      |(go_at_call 118;(with_reducible refine (HW.out _ _ _ _).mono ?_);rintro e w3 ⟨rfl,hb4⟩;have hw3:=ah.next (a:=w) hw2 hb4;have hbw3:=ah.next (a:=_) hbw2 hb4)
      |(go_at_call 120;(with_reducible refine (HCL.out _ hw3).mono ?_);rintro e w4 ⟨v4,rfl,hown4,hb5⟩;have hw4:=ah.next (a:=w) hw3 hb5;have HO:=Lib.hid (And.intro hown4 hw3.size);clear hown4))
     go_ret2
     exact ⟨_,rfl,⟨fun h=>absurd rfl h,fun _=>fZ HO.out.1 HO.out.2⟩,hw4⟩
  ·rw [if_neg hin] at hdef;rw [hdef];have hib:=qA hin;clear hdef hin
   go_enter Tryz.func114,Tryz.ntmps114
   go_wp2_with (first
    |(go_at_call 116;(with_reducible refine (HC.out _ hwb).mono ?_);rintro e w1 ⟨rfl,hb1⟩;have hw1:=ah.next (a:=w) hwb hb1;have hbw1:=ah.next (a:=_) hbb hb1)
    |(go_at_call 117;(with_reducible refine (HL.out _ hw1).mono ?_);rintro e w2 ⟨rfl,hb3⟩;have hw2:=ah.next (a:=w) hw1 hb3;have hbw2:=ah.next (a:=_) hbw1 hb3)
    |(go_at_call 118;(with_reducible refine (HW.out _ _ _ _).mono ?_);rintro e w3 ⟨rfl,hb4⟩;have hw3:=ah.next (a:=w) hw2 hb4))
   go_ret2
   exact ⟨_,rfl,⟨fun _=>rfl,fun h=>absurd h (by decide)⟩,hw3⟩
 ·rw [if_neg hm] at hch hdef;rw [hdef];have HC:=Lib.hid hch;clear hch hlo hm hdef
  go_enter Tryz.func114,Tryz.ntmps114
  go_wp2_with (first
   |(go_at_call 116;(with_reducible refine (HC.out _ hwb).mono ?_);rintro e w1 ⟨rfl,hb1⟩;have hw1:=ah.next (a:=w) hwb hb1))
  go_ret2
  exact ⟨_,rfl,⟨fun _=>rfl,fun h=>absurd h (by decide)⟩,hw1⟩
def tV (l:List Oper):Bool:=(List.range l.length).all fun i=>match l[i]? with
 |none=>false
 |some o=>o.after.toList.all fun e=> !Region.binds .any e||decide (e.on<i)
section
variable {P:Program} {Q:Exit→Act→World→Prop} {n:Fr} {L:List (Nat×Value)} {w:World} {l:List Oper}
theorem xS {Inv:(Nat→Bool)→List (Nat×Value)→World→Prop} (hwf:tV l=true)
 (hstep:∀ (i:Nat) (o:Oper) (S:Nat→Bool) (L':List (Nat×Value)) (w':World),l[i]? =some o→Inv S L' w'→S i=false→(∀ e∈o.after,Region.binds .any e=true→S e.on=true)→Region.wanted o (yielded l.toArray (mkT n.n L'))=true∧gj P n o (Inv (dv S i)) L' w')
 (hend:∀ L' w',Inv (fun i=>decide (i<l.length)) L' w'→Q .normal (mkA n L') w') :
 ∀ (m:Nat) (listed:Array Bool) (L':List (Nat×Value)) (w':World),listed.toList.count false=m→listed.size=l.length→Inv (fun i=>listed.getD i false) L' w'→wpAny P .any l.toArray Q m listed (mkA n L') w':=by
 have hck:=List.all_eq_true.1 hwf;intro m
 induction m with
 |zero=>
  intro listed L' w' hcount hs hI
  have hall:∀ i,i<l.length→listed.getD i false=true:=fun i hi=>by
   have hm:listed[i]'(by omega)∈listed.toList:=by simp
   cases hb:listed[i]'(by omega) with
   |true=>simp [Array.getD,show i<listed.size by omega,hb]
   |false=>rw [hb] at hm;exact absurd hcount (Nat.pos_iff_ne_zero.1 (List.count_pos_iff.2 hm))
  have e:(fun i=>listed.getD i false)=fun i=>decide (i<l.length):=by
   funext i
   by_cases hi:i<l.length
   ·rw [hall i hi,decide_eq_true hi]
   ·rw [decide_eq_false hi];simp [Array.getD,show ¬ i<listed.size by omega]
  rw [e] at hI;refine ⟨?_,hend L' w' hI⟩;cases hr:Region.ready .any l.toArray listed with
  |nil=>rfl
  |cons i r=>
   exfalso;obtain ⟨h0,o,ho,_⟩:=mem_ready.1 (show i∈Region.ready .any l.toArray listed by rw [hr];simp);rw [List.getElem?_toArray] at ho;have hil:i<l.length:=(List.getElem?_eq_some_iff.1 ho).1;have:=hall i hil;rw [←bG (by omega),h0] at this;cases this
 |succ m ih=>
  intro listed L' w' hcount hs hI
  have hn0:∃ i,i<l.length∧listed.getD i true=false:=by
   have hpos:0<listed.toList.count false:=by omega
   obtain ⟨i,hi,hb⟩:=List.getElem_of_mem (List.count_pos_iff.1 hpos);rw [Array.length_toList] at hi;refine ⟨i,by omega,?_⟩;rw [Array.getElem_toList] at hb;simp [Array.getD,hi,hb]
  obtain ⟨i0,hi0,hmin⟩:=exists_least (p:=fun i=>i<l.length∧listed.getD i true=false) hn0
  have hready:i0∈Region.ready .any l.toArray listed:=by
   refine mem_ready.2 ⟨hi0.2,l[i0]'hi0.1,by rw [List.getElem?_toArray,List.getElem?_eq_getElem hi0.1],fun e he hb=>?_⟩;have hx:=hck i0 (List.mem_range.2 hi0.1);rw [List.getElem?_eq_getElem hi0.1] at hx;have he2:=List.all_eq_true.1 hx e (by simpa using he);rw [hb] at he2;simp at he2;have:=hi0.1;rw [←bG (by omega)];cases hb2:listed.getD e.on true with
   |true=>rfl
   |false=>exact absurd (hmin e.on ⟨by omega,hb2⟩) (by omega)
  refine ⟨fun h0=>(by rw [h0] at hready;cases hready),fun i hi=>?_⟩;obtain ⟨h0,o,ho,hall⟩:=mem_ready.1 hi;rw [List.getElem?_toArray] at ho;have hil:i<l.length:=(List.getElem?_eq_some_iff.1 ho).1;have hx:=hck i (List.mem_range.2 hil);rw [ho] at hx;have h0f:listed.getD i false=false:=by rw [←bG (by omega)];exact h0
  have hset:(fun j=>(listed.setIfInBounds i true).getD j false)=dv (fun j=>listed.getD j false) i:=by
   funext j
   unfold dv;by_cases e:j=i
   ·subst e;simp [Array.getD,show j<listed.size by omega]
   ·rw [if_neg e,getD_set_ne false (Ne.symm e)]
  have hcnt:(listed.setIfInBounds i true).toList.count false=m:=by
   have hil':i<listed.size:=by omega
   have hfalse:listed.toList[i]? =some false:=by
    rw [Array.getElem?_toList,Array.getElem?_eq_getElem hil'];simp [Array.getD,hil'] at h0;rw [h0]
   rw [Array.toList_setIfInBounds];have:=eL (l:=listed.toList) (i:=i) hfalse;omega
  have next:∀ L2 w2,Inv (dv (fun j=>listed.getD j false) i) L2 w2→wpAny P .any l.toArray Q m (listed.setIfInBounds i true) (mkA n L2) w2:=fun L2 w2 h=>
   ih _ L2 w2 hcnt (by simpa using hs) (by rw [hset];exact h)
  unfold wpOp;rw [List.getElem?_toArray,ho];show if Region.wanted o (yielded l.toArray (mkT n.n L'))=true then _ else _
  rw [if_pos (hstep i o _ L' w' ho hI h0f hall).1];refine .inl ?_;unfold Oper.wp;rw [dg];rcases (hstep i o _ L' w' ho hI h0f hall).2 with ⟨d,v,w'',hd,hr,hI2⟩ | ⟨w'',hd,hr,hI2⟩ | ⟨d,f,args,hd,hr,hc⟩
  ·rw [hr,Oper.upon_value,hd,fq];exact next _ _ hI2
  ·rw [hr,Oper.upon_skip,hd];exact next _ _ hI2
  ·rw [hr,Oper.upon_enter,hd];refine Calls.mono hc fun e w'' ⟨v,he,hI2⟩=>?_
   subst he;show wpAny P .any l.toArray Q m (listed.setIfInBounds i true) ((mkA n L').put (some d) v) w'';rw [fq];exact next _ _ hI2
theorem zr {id:Nat} (Inv:(Nat→Bool)→List (Nat×Value)→World→Prop) (hm:P.follows .mixedOrders=true) (hwf:tV l=true) (h0:Inv (fun _=>false) L { w with drawn:=w.drawn+1 })
 (hstep:∀ (i:Nat) (o:Oper) (S:Nat→Bool) (L':List (Nat×Value)) (w':World),l[i]? =some o→Inv S L' w'→S i=false→(∀ e∈o.after,Region.binds .any e=true→S e.on=true)→Region.wanted o (yielded l.toArray (mkT n.n L'))=true∧gj P n o (Inv (dv S i)) L' w')
 (hend:∀ L' w',Inv (fun i=>decide (i<l.length)) L' w'→Q .normal (mkA n L') w'):Cd P (.region id l.toArray true) Q n L w:=by
 refine ⟨wp_region_any hm ?_⟩
 have:=xS (Q:=Q) hwf hstep hend l.length (Array.replicate l.length false) L { w with drawn:=w.drawn+1 } (by simp) (by simp) (by
  have e:(fun i=>(Array.replicate l.length false).getD i false)=fun _=>false:=by
   funext i
   by_cases hi:i<l.length <;> simp [Array.getD,hi]
  rw [e];exact h0)
 simpa using this
def yE (o:Oper):Oper:={ o with guard:=none }
theorem vT (ρ:Operand→Value) (o:Oper):execOp ρ (yE o)=execOp ρ o:=by
 obtain ⟨dst,op,ty,pos,after,g⟩:=o;cases op <;> rfl
theorem vj {o:Oper} {Inv:List (Nat×Value)→World→Prop} {L':List (Nat×Value)} {w':World} (h:gj P n (yE o) Inv L' w'):gj P n o Inv L' w':=by
 unfold gj at h ⊢;simp only [vT] at h;exact h
def gdB (n:Fr) (T:List (Nat×Nat×Value)) (l:List Oper) (o:Oper):Bool:=match o.guard with
 |none=>true
 |some (j,b)=>o.after.toList.any (fun e=>e.on==j&&Region.binds .any e)&&match T.find? fun p=>p.1==j with
  |some (_,t,.bool x)=>(x==b)&&(match jP l j with | some t'=>t'==t&&Nat.blt t n.n | none=>false)
  |_=>false
end
end Go.Proofs.YtkpooenofjdpmaaGreat
namespace Go.Proofs.YtkpooenofjdpmaaGreat
open Go.Proofs.Tryz (prog)
open Go.RowKit
abbrev PT:=List (Nat×Nat×((Nat→Bool)→Value→World→Prop))
def ka (L:List (Nat×Value)) (T:PT) (S:Nat→Bool) (L':List (Nat×Value)) (w:World):Prop:=
 (∀ t,(∀ p∈T,p.2.1≠t)→bE L' t=bE L t)∧(∀ p∈T,S p.1=true→p.2.2 S (bE L' p.2.1) w)∧∀ p∈T,S p.1=false→bE L' p.2.1=bE L p.2.1
def mQ:List (Nat×Nat)→Prop
 |[]=>True
 |p::r=>(∀ q∈r,q.1≠p.1∧q.2≠p.2)∧mQ r
def vh:List (Nat×Nat)→Bool
 |[]=>true
 |p::r=>(r.all fun q=> !(Nat.beq q.1 p.1)&&!(Nat.beq q.2 p.2))&&vh r
theorem xC {a b:Nat}:Nat.beq a b=false↔a≠b:=by
 refine ⟨fun h e=>?_,fun h=>?_⟩
 ·subst e;rw [Nat.beq_refl] at h;cases h
 ·rcases hb:Nat.beq a b with _ | _
  ·rfl
  ·exact absurd (Nat.eq_of_beq_eq_true hb) h
theorem lH:∀ {l:List (Nat×Nat)},vh l=true→mQ l
 |[],_=>trivial
 |p::r,h=>by
  simp only [vh,Bool.and_eq_true,List.all_eq_true,Bool.not_eq_true',xC] at h;exact ⟨fun q hq=>h.1 q hq,lH h.2⟩
theorem nD:∀ {T:PT},mQ (T.map fun p=>(p.1,p.2.1))→∀ {p q:Nat×Nat×((Nat→Bool)→Value→World→Prop)},p∈T→q∈T→p.1=q.1∨p.2.1=q.2.1→p=q
 |_::_,⟨h1,h2⟩,p,q,hp,hq,he=>by
  rcases List.mem_cons.1 hp with rfl | hp' <;> rcases List.mem_cons.1 hq with rfl | hq'
  ·rfl
  ·rcases he with e | e
   ·exact absurd e.symm (h1 _ (List.mem_map_of_mem (f:=fun p=>(p.1,p.2.1)) hq')).1
   ·exact absurd e.symm (h1 _ (List.mem_map_of_mem (f:=fun p=>(p.1,p.2.1)) hq')).2
  ·rcases he with e | e
   ·exact absurd e (h1 _ (List.mem_map_of_mem (f:=fun p=>(p.1,p.2.1)) hp')).1
   ·exact absurd e (h1 _ (List.mem_map_of_mem (f:=fun p=>(p.1,p.2.1)) hp')).2
  ·exact nD h2 hp' hq' he
theorem ka.get {L:List (Nat×Value)} {T:PT} {S:Nat→Bool} {L':List (Nat×Value)} {w:World} {i d:Nat} {R:(Nat→Bool)→Value→World→Prop} (h:ka L T S L' w) (hp:(i,d,R)∈T) (hs:S i=true):∃ v,bE L' d=v∧R S v w:=⟨_,rfl,h.2.1 _ hp hs⟩
theorem lO {S:Nat→Bool} {i k:Nat} (h:dv S i k=false):S k=false:=by
 unfold dv at h;split at h
 ·cases h
 ·exact h
theorem nC {S:Nat→Bool} {i k:Nat} (hk:k≠i) (h:dv S i k=true):S k=true:=by
 unfold dv at h
 rwa [if_neg hk] at h
theorem ld (S:Nat→Bool) (i:Nat):dv S i i=true:=by unfold dv;rw [if_pos rfl]
theorem fp {S:Nat→Bool} {i k:Nat} (hk:k≠i):dv S i k=S k:=by unfold dv;rw [if_neg hk]
def mo (Mu:List Nat):PT→Prop
 |[]=>True
 |p::r=>(∀ S i v w1 w2,Mu.elem i=false→ah w1 w2→p.2.2 S v w1→p.2.2 (dv S i) v w2)∧mo Mu r
def ChP (i:Nat) (S:Nat→Bool) (w1 w2:World):PT→Prop
 |[]=>True
 |p::r=>(Nat.beq p.1 i=false→S p.1=true→∀ v,p.2.2 S v w1→p.2.2 (dv S i) v w2)∧ChP i S w1 w2 r
theorem rX {Mu:List Nat}:∀ {T:PT},mo Mu T→∀ p∈T,∀ S i v w1 w2,Mu.elem i=false→ah w1 w2→p.2.2 S v w1→p.2.2 (dv S i) v w2
 |_::_,⟨h1,h2⟩,p,hp=>by
  rcases List.mem_cons.1 hp with rfl | hp
  ·exact h1
  ·exact rX h2 p hp
theorem t_ {i:Nat} {S:Nat→Bool} {w1 w2:World}:∀ {T:PT},ChP i S w1 w2 T→∀ p∈T,p.1≠i→S p.1=true→∀ v,p.2.2 S v w1→p.2.2 (dv S i) v w2
 |_::_,⟨h1,h2⟩,p,hp=>by
  rcases List.mem_cons.1 hp with rfl | hp
  ·exact fun hne=>h1 (by rw [xC];exact hne)
  ·exact t_ h2 p hp
theorem ka.next {L:List (Nat×Value)} {T:PT} {S:Nat→Bool} {L':List (Nat×Value)} {w w':World} {i d:Nat} {v:Value} {R:(Nat→Bool)→Value→World→Prop} (h:ka L T S L' w) (hU:mQ (T.map fun p=>(p.1,p.2.1))) (hp:(i,d,R)∈T) (hR:R (dv S i) v w')
 (hst:∀ p∈T,p.1≠i→S p.1=true→∀ v,p.2.2 S v w→p.2.2 (dv S i) v w'):ka L T (dv S i) ((d,v)::L') w':=by
 refine ⟨fun t ht=>?_,fun p hq hs=>?_,fun p hq hs=>?_⟩
 ·rw [cP,if_neg (fun e=>ht _ hp e.symm)];exact h.1 t ht
 ·rw [cP];by_cases e:p.2.1=d
  ·rw [if_pos e,nD hU hq hp (.inr e)];exact hR
  ·rw [if_neg e];have e2:p.1≠i:=fun e2=>e (congrArg (·.2.1) (nD hU hq hp (.inl e2)))
   have hs':=nC e2 hs;exact hst p hq e2 hs' _ (h.2.1 p hq hs')
 ·have hs':=lO hs;have e2:p.1≠i:=fun e2=>by rw [e2,ld] at hs;cases hs
  rw [cP,if_neg (fun e=>e2 (congrArg (·.1) (nD hU hq hp (.inr e))))];exact h.2.2 p hq hs'
theorem ka.same {L:List (Nat×Value)} {T:PT} {S:Nat→Bool} {L':List (Nat×Value)} {w w':World} {i:Nat} (h:ka L T S L' w) (hi:∀ p∈T,p.1≠i)
 (hst:∀ p∈T,p.1≠i→S p.1=true→∀ v,p.2.2 S v w→p.2.2 (dv S i) v w'):ka L T (dv S i) L' w':=by
 refine ⟨h.1,fun p hq hs=>?_,fun p hq hs=>h.2.2 p hq (lO hs)⟩;have hs':=nC (hi p hq) hs;exact hst p hq (hi p hq) hs' _ (h.2.1 p hq hs')
def ri (L':List (Nat×Value)):List (Nat×Value)→Prop
 |[]=>True
 |(t,v)::r=>bE L' t=v∧ri L' r
theorem p_ {L':List (Nat×Value)}:∀ {M:List (Nat×Value)},ri L' M→∀ t,(M.map Prod.fst).elem t=true→bE M t=bE L' t
 |(k,v)::r,⟨h1,h2⟩,t,ht=>by
  rw [cP];by_cases e:t=k
  ·rw [if_pos e,e,h1]
  ·rw [if_neg e];refine p_ h2 t ?_;simpa [e] using ht
section
variable {P:Program} {Q:Exit→Act→World→Prop} {n:Fr} {L L' M:List (Nat×Value)} {w w' w'':World} {l:List Oper} {T:PT} {Mem:(Nat→Bool)→World→Prop} {Mu:List Nat} {S:Nat→Bool} {op:Op} {ty:TypeId} {pos:String} {after:Array Edge} {i d:Nat} {v:Value} {R:(Nat→Bool)→Value→World→Prop}
theorem jG {dst:Option Nat} (hs:dy op=false) (hk:(((⟨dst,op,ty,pos,after,none⟩:Oper).looksAt #[]).all fun t=>(M.map Prod.fst).elem t)=true) (hag:ri L' M):execOp (ev n L') ⟨dst,op,ty,pos,after,none⟩=execOp (ev n M) ⟨dst,op,ty,pos,after,none⟩:=by
 have h:∀ t,((⟨dst,op,ty,pos,after,none⟩:Oper).looksAt #[]).elem t=true→bE M t=bE L' t:=fun t ht=>
  p_ hag t (List.all_eq_true.1 hk t (List.elem_iff.1 ht))
 exact (fy (n:=n) (ops:=#[]) (o:=⟨dst,op,ty,pos,after,none⟩) hs h).1.symm
abbrev qa (P:Program) (n:Fr) (L:List (Nat×Value)) (T:PT) (Mem:(Nat→Bool)→World→Prop) (S:Nat→Bool) (i:Nat) (o:Oper) (L':List (Nat×Value)) (w':World):Prop:=gj P n o (fun L2 w2=>ka L T (dv S i) L2 w2∧Mem (dv S i) w2) L' w'
theorem xj (hmo:mo Mu T) (hq:Mu.elem i=false) (hF:ah w' w''):∀ p∈T,p.1≠i→S p.1=true→∀ v,p.2.2 S v w'→p.2.2 (dv S i) v w'':=fun p hp _ _ v h=>rX hmo p hp S i v w' w'' hq hF h
theorem aE (M:List (Nat×Value)) (hU:mQ (T.map fun p=>(p.1,p.2.1))) (hmo:mo Mu T) (hme:∀ S i w1 w2,Mu.elem i=false→ah w1 w2→Mem S w1→Mem (dv S i) w2) (hI:ka L T S L' w') (hM:Mem S w') (hp:(i,d,R)∈T) (hq:Mu.elem i=false)
 (hs:dy op=false) (hk:(((⟨some d,op,ty,pos,after,none⟩:Oper).looksAt #[]).all fun t=>(M.map Prod.fst).elem t)=true) (hag:ri L' M) (hr:RO P (ev n M) op w' v w'') (hF:ah w' w'') (hR:R (dv S i) v w''):qa P n L T Mem S i ⟨some d,op,ty,pos,after,none⟩ L' w':=
 .inl ⟨d,v,w'',rfl,by rw [jG hs hk hag];exact hr _ _ _ _ _,hI.next hU hp hR (xj hmo hq hF),hme S i _ _ hq hF hM⟩
theorem iK (M:List (Nat×Value)) {f:FuncId} {al:List Operand} {ats:Array TypeId} (hU:mQ (T.map fun p=>(p.1,p.2.1))) (hmo:mo Mu T) (hme:∀ S i w1 w2,Mu.elem i=false→ah w1 w2→Mem S w1→Mem (dv S i) w2) (hI:ka L T S L' w') (hM:Mem S w') (hp:(i,d,R)∈T) (hq:Mu.elem i=false)
 (hk:(((⟨some d,.call { callee:=.value (.func f),args:=al.toArray,argTypes:=ats },ty,pos,after,none⟩:Oper).looksAt #[]).all fun t=>(M.map Prod.fst).elem t)=true) (hag:ri L' M) (hf:aO P f=true) (hc:Rt P f (al.map (ev n M)) w' fun v w''=>ah w' w''∧R (dv S i) v w'') :
 qa P n L T Mem S i ⟨some d,.call { callee:=.value (.func f),args:=al.toArray,argTypes:=ats },ty,pos,after,none⟩ L' w':=
 .inr (.inr ⟨d,f,al.map (ev n M),rfl,by rw [jG rfl hk hag,gO (fun _=>rfl),jA hf],Calls.mono hc fun e w2 ⟨v,he,hF,hR⟩=>⟨v,he,hI.next hU hp hR (xj hmo hq hF),hme S i _ _ hq hF hM⟩⟩)
theorem gI (M:List (Nat×Value)) {f:FuncId} {al:List Operand} {ats:Array TypeId} (hU:mQ (T.map fun p=>(p.1,p.2.1))) (hI:ka L T S L' w') (hp:(i,d,R)∈T)
 (hk:(((⟨some d,.call { callee:=.value (.func f),args:=al.toArray,argTypes:=ats },ty,pos,after,none⟩:Oper).looksAt #[]).all fun t=>(M.map Prod.fst).elem t)=true) (hag:ri L' M) (hf:aO P f=true) (hc:Rt P f (al.map (ev n M)) w' fun v w''=>Mem (dv S i) w''∧R (dv S i) v w''∧ChP i S w' w'' T) :
 qa P n L T Mem S i ⟨some d,.call { callee:=.value (.func f),args:=al.toArray,argTypes:=ats },ty,pos,after,none⟩ L' w':=
 .inr (.inr ⟨d,f,al.map (ev n M),rfl,by rw [jG rfl hk hag,gO (fun _=>rfl),jA hf],Calls.mono hc fun e w2 ⟨v,he,hM,hR,hC⟩=>⟨v,he,hI.next hU hp hR (t_ hC),hM⟩⟩)
theorem nT (M:List (Nat×Value)) (hI:ka L T S L' w') (hi:∀ p∈T,p.1≠i)
 (hs:dy op=false) (hk:(((⟨none,op,ty,pos,after,none⟩:Oper).looksAt #[]).all fun t=>(M.map Prod.fst).elem t)=true) (hag:ri L' M) (hr:RS P (ev n M) op w' w'') (hM:Mem (dv S i) w'') (hC:ChP i S w' w'' T):qa P n L T Mem S i ⟨none,op,ty,pos,after,none⟩ L' w':=
 .inr (.inl ⟨w'',rfl,by rw [jG hs hk hag];exact hr _ _ _ _ _,hI.same hi (t_ hC),hM⟩)
def yu (S:Nat→Bool) (w:World):PT→(List (Nat×Value)→Prop)→Prop
 |[],K=>K []
 |p::r,K=>∀ v,p.2.2 S v w→yu S w r fun M=>K ((p.2.1,v)::M)
theorem gy {S:Nat→Bool} {w:World} {K:List (Nat×Value)→Prop} (h:K []):yu S w [] K:=h
theorem qO {S:Nat→Bool} {w:World} (ρ:Nat→Value):∀ (l:PT) {K:List (Nat×Value)→Prop},(∀ p∈l,p.2.2 S (ρ p.2.1) w)→yu S w l K→K (l.map fun p=>(p.2.1,ρ p.2.1))
 |[],_,_,h=>h
 |p::r,_,hr,h=>qO ρ r (fun e he=>hr e (List.mem_cons_of_mem _ he)) (h (ρ p.2.1) (hr p (List.mem_cons_self ..)))
theorem pV (ρ:Nat→Value) (T:PT) (L:List (Nat×Value)) (t:Nat):((∃ p∈T,p.2.1=t)∧bE (T.map (fun p=>(p.2.1,ρ p.2.1))++L) t=ρ t)∨((∀ p∈T,p.2.1≠t)∧bE (T.map (fun p=>(p.2.1,ρ p.2.1))++L) t=bE L t):=by
 induction T with
 |nil=>exact .inr ⟨fun p hp=>by simp at hp,rfl⟩
 |cons q r ih=>
  rw [List.map_cons,List.cons_append,cP];by_cases e:t=q.2.1
  ·rw [if_pos e,←e];exact .inl ⟨⟨q,.head _,e.symm⟩,rfl⟩
  ·rw [if_neg e];rcases ih with ⟨⟨p,hp,h1⟩,h2⟩ | ⟨h1,h2⟩
   ·exact .inl ⟨⟨p,.tail _ hp,h1⟩,h2⟩
   ·refine .inr ⟨fun p hp=>?_,h2⟩;rcases List.mem_cons.1 hp with rfl | hp2
    ·exact fun e2=>e e2.symm
    ·exact h1 p hp2
theorem ea {T:PT} {t:Nat} (h:(T.map fun p=>p.2.1).elem t=false):∀ p∈T,p.2.1≠t:=fun p hp e=>by
 have:t∈T.map fun p=>p.2.1:=List.mem_map.2 ⟨p,hp,e⟩
 rw [List.elem_eq_mem,decide_eq_false_iff_not] at h;exact h this
theorem As {T:PT} {i:Nat} (h:(T.map fun p=>p.1).elem i=false):∀ p∈T,p.1≠i:=fun p hp e=>by
 have:i∈T.map fun p=>p.1:=List.mem_map.2 ⟨p,hp,e⟩
 rw [List.elem_eq_mem,decide_eq_false_iff_not] at h;exact h this
theorem gj.mono {o:Oper} {I1 I2:List (Nat×Value)→World→Prop} (hi:∀ L2 w2,I1 L2 w2→I2 L2 w2) (h:gj P n o I1 L' w'):gj P n o I2 L' w':=by
 rcases h with ⟨d,v,w2,h1,h2,h3⟩ | ⟨w2,h1,h2,h3⟩ | ⟨d,f,args,h1,h2,h3⟩
 ·exact .inl ⟨d,v,w2,h1,h2,hi _ _ h3⟩
 ·exact .inr (.inl ⟨w2,h1,h2,hi _ _ h3⟩)
 ·exact .inr (.inr ⟨d,f,args,h1,h2,Calls.mono h3 fun e w2 ⟨v,he,h⟩=>⟨v,he,hi _ _ h⟩⟩)
def gV (l:List Oper) (S:Nat→Bool):Prop:=∀ j o,l[j]? =some o→S j=true→∀ e∈o.after,Region.binds .any e=true→S e.on=true
theorem ai {j i:Nat} {o:Oper} (hC:gV l S) (ho:l[j]? =some o) (he:(o.after.toList.any fun e=>Region.binds .any e&&Nat.beq e.on i)=true) (hS:S i=false):S j=false:=by
 rcases hj:S j with _ | _
 ·rfl
 ·obtain ⟨e,h1,h2⟩:=List.any_eq_true.1 he;rw [Bool.and_eq_true] at h2;have:=hC j o ho hj e (by simpa using h1) h2.1;rw [Nat.eq_of_beq_eq_true h2.2,hS] at this;cases this
theorem kz {i:Nat} {o:Oper} (hC:gV l S) (ho:l[i]? =some o) (hE:∀ e∈o.after,Region.binds .any e=true→S e.on=true):gV l (dv S i):=fun j o' hj hs e he hb=>by
 have up:∀ k,S k=true→dv S i k=true:=fun k hk=>by
  unfold dv;split
  ·rfl
  ·exact hk
 by_cases hji:j=i
 ·subst hji;rw [ho] at hj;cases hj;exact up _ (hE e he hb)
 ·exact up _ (hC j o' hj (nC hji hs) e he hb)
def qP (P:Program) (n:Fr) (L:List (Nat×Value)) (T:PT) (Mu:List Nat) (Mem:(Nat→Bool)→World→Prop) (l:List Oper):Nat→List Oper→Prop
 |_,[]=>True
 |i,o::r=>(∀ S L' w',mQ (T.map fun p=>(p.1,p.2.1))→mo Mu T→(∀ S i w1 w2,Mu.elem i=false→ah w1 w2→Mem S w1→Mem (dv S i) w2)→ka L T S L' w'→Mem S w'→gV l S→S i=false→iG S o.after.toList→qa P n L T Mem S i o L' w')∧qP P n L T Mu Mem l (i+1) r
theorem mz {L0:List (Nat×Value)} {l0:List Oper}:∀ {r:List Oper} {k:Nat},qP P n L0 T Mu Mem l0 k r→mQ (T.map fun p=>(p.1,p.2.1))→mo Mu T→(∀ S i w1 w2,Mu.elem i=false→ah w1 w2→Mem S w1→Mem (dv S i) w2)→∀ (i:Nat) (o:Oper),r[i]? =some o→∀ S L' w',ka L0 T S L' w'→Mem S w'→gV l0 S→S (k+i)=false→iG S o.after.toList→qa P n L0 T Mem S (k+i) o L' w'
 |[],_,_,_,_,_,i,o,h=>by simp at h
 |x::r,k,⟨h1,h2⟩,a,b,c,0,o,h=>by
  simp only [List.getElem?_cons_zero,Option.some.injEq] at h;subst h;exact fun S L' w'=>h1 S L' w' a b c
 |x::r,k,⟨h1,h2⟩,a,b,c,i+1,o,h=>by
  have:=mz h2 a b c i o (by simpa using h)
  rwa [show k+1+i=k+(i+1) by omega] at this
theorem kZ {id:Nat} (T:PT) (Mu:List Nat) (Mem:(Nat→Bool)→World→Prop) (hm:P.follows .mixedOrders=true) (hwf:oJ l=true) (hlt:(T.all fun p=>Nat.blt p.1 l.length)=true) (hU:vh (T.map fun p=>(p.1,p.2.1))=true) (hmo:mo Mu T) (hme:∀ S i w1 w2,Mu.elem i=false→ah w1 w2→Mem S w1→Mem (dv S i) w2) (h0:Mem (fun _=>false) { w with drawn:=w.drawn+1 })
 (hstep:qP P n L T Mu Mem l 0 l) (hend:∀ w',Mem (fun i=>decide (i<l.length)) w'→yu (fun i=>decide (i<l.length)) w' T fun M=>Q .normal (mkA n (M++L)) w'):Cd P (.region id l.toArray true) Q n L w:=
 ua (fun S L' w'=>ka L T S L' w'∧Mem S w'∧gV l S) hm hwf ⟨⟨fun _ _=>rfl,fun _ _ h=>(by cases h),fun _ _ _=>rfl⟩,h0,fun _ _ _ h=>by cases h⟩ (fun i o S L' w' ho ⟨hI,hM,hC⟩ hS hE=>by
  have:=mz hstep (lH hU) hmo hme i o ho S L' w' hI hM hC (by rw [Nat.zero_add];exact hS) (ky fun e he=>hE e (by simpa using he));rw [Nat.zero_add] at this;exact gj.mono (fun L2 w2 h=>⟨h.1,h.2,kz hC ho hE⟩) this) fun L' w' ⟨hI,hM,_⟩=>by
  have hlt':∀ p∈T,p.1<l.length:=fun p hp=>by
   have:=List.all_eq_true.1 hlt p hp;exact Nat.le_of_ble_eq_true this
  have h:=qO (bE L') T (fun p hp=>hI.2.1 p hp (decide_eq_true (hlt' p hp))) (hend w' hM)
  have e:mkA n L'=mkA n (T.map (fun p=>(p.2.1,bE L' p.2.1))++L):=by
   unfold mkA;rw [jD fun t _=>?_];rcases pV (bE L') T L t with ⟨_,h2⟩ | ⟨h1,h2⟩
   ·exact h2.symm
   ·rw [h2];exact hI.1 t h1
  rw [e];exact h
end
end Go.Proofs.YtkpooenofjdpmaaGreat
namespace Go.Proofs.YtkpooenofjdpmaaGreat
open Go.Proofs.Tryz (prog)
open Go.RowKit
def GdP (n:Fr) (T:PT) (l0:List Oper):List Oper→Prop
 |[]=>True
 |o::r=>(match o.guard with
  |none=>True
  |some (j,b)=>o.after.toList.any (fun e=>e.on==j&&Region.binds .any e)=true∧∃ t R,(j,t,R)∈T∧jP l0 j=some t∧Nat.blt t n.n=true∧∀ S v w,R S v w→v=.bool b)∧GdP n T l0 r
section
variable {P:Program} {Q:Exit→Act→World→Prop} {n:Fr} {L:List (Nat×Value)} {w:World} {l:List Oper}
theorem Au {T:PT}:∀ (r:List Oper),GdP n T l r→∀ o∈r,∀ j b,o.guard=some (j,b)→o.after.toList.any (fun e=>e.on==j&&Region.binds .any e)=true∧∃ t R,(j,t,R)∈T∧jP l j=some t∧Nat.blt t n.n=true∧∀ S v w,R S v w→v=.bool b:=by
 intro r
 induction r with
 |nil=>intro _ o ho;cases ho
 |cons x r ih=>
  intro h o ho j b hg;rcases List.mem_cons.1 ho with e | ho'
  ·subst e;have h1:=h.1;rw [hg] at h1;exact h1
  ·exact ih h.2 o ho' j b hg
theorem td {T:PT} {S:Nat→Bool} {L':List (Nat×Value)} {w':World} (hI:ka L T S L' w') {r:List Oper} (hG:GdP n T l r) {o:Oper} (ho:o∈r) (hE:∀ e∈o.after,Region.binds .any e=true→S e.on=true):Region.wanted o (yielded l.toArray (mkT n.n L'))=true:=by
 have hg:=Au r hG o ho;obtain ⟨dst,op,ty,pos,after,g⟩:=o;cases g with
 |none=>rfl
 |some jb=>
  obtain ⟨j,b⟩:=jb;obtain ⟨ha,t,R,hp,hn,hlt,hR⟩:=hg j b rfl;obtain ⟨e,he,he2⟩:=List.any_eq_true.1 ha;simp only [Bool.and_eq_true] at he2;have hej:e.on=j:=by simpa using he2.1
  have hS:S j=true:=by rw [←hej];exact hE e (by simpa using he) he2.2
  obtain ⟨v,hv,hRv⟩:=hI.get hp hS;have hvb:=hR _ _ _ hRv;subst hvb
  have hw:jx l.toArray n L' j=.bool b:=by
   unfold jx;rw [show l.toArray.toList=l from rfl,hn];show (bif Nat.blt t n.n then bE L' t else undef)=_;rw [hlt];exact hv
  show (yielded l.toArray (mkT n.n L') j==some b)=true;rw [gh hw];simp
theorem oN {id:Nat} (T:PT) (Mu:List Nat) (Mem:(Nat→Bool)→World→Prop) (hm:P.follows .mixedOrders=true) (hwf:tV l=true) (hgd:GdP n T l l) (hlt:(T.all fun p=>Nat.blt p.1 l.length)=true) (hU:vh (T.map fun p=>(p.1,p.2.1))=true) (hmo:mo Mu T) (hme:∀ S i w1 w2,Mu.elem i=false→ah w1 w2→Mem S w1→Mem (dv S i) w2) (h0:Mem (fun _=>false) { w with drawn:=w.drawn+1 })
 (hstep:qP P n L T Mu Mem l 0 (l.map yE)) (hend:∀ w',Mem (fun i=>decide (i<l.length)) w'→yu (fun i=>decide (i<l.length)) w' T fun M=>Q .normal (mkA n (M++L)) w'):Cd P (.region id l.toArray true) Q n L w:=
 zr (fun S L' w'=>ka L T S L' w'∧Mem S w'∧gV l S) hm hwf ⟨⟨fun _ _=>rfl,fun _ _ h=>(by cases h),fun _ _ _=>rfl⟩,h0,fun _ _ _ h=>by cases h⟩ (fun i o S L' w' ho ⟨hI,hM,hC⟩ hS hE=>by
  refine ⟨td hI hgd (List.mem_of_getElem? ho) hE,?_⟩;have:=mz hstep (lH hU) hmo hme i (yE o) (by rw [List.getElem?_map,ho];rfl) S L' w' hI hM hC (by rw [Nat.zero_add];exact hS) (ky fun e he=>hE e (by have he':e∈o.after.toList:=he;simpa using he'));rw [Nat.zero_add] at this;exact gj.mono (fun L2 w2 h=>⟨h.1,h.2,kz hC ho hE⟩) (vj this)) fun L' w' ⟨hI,hM,_⟩=>by
  have hlt':∀ p∈T,p.1<l.length:=fun p hp=>by
   have:=List.all_eq_true.1 hlt p hp;exact Nat.le_of_ble_eq_true this
  have h:=qO (bE L') T (fun p hp=>hI.2.1 p hp (decide_eq_true (hlt' p hp))) (hend w' hM)
  have e:mkA n L'=mkA n (T.map (fun p=>(p.2.1,bE L' p.2.1))++L):=by
   unfold mkA;rw [jD fun t _=>?_];rcases pV (bE L') T L t with ⟨_,h2⟩ | ⟨h1,h2⟩
   ·exact h2.symm
   ·rw [h2];exact hI.1 t h1
  rw [e];exact h
end
end Go.Proofs.YtkpooenofjdpmaaGreat
namespace Go.Proofs.YtkpooenofjdpmaaGreat
open Go.Proofs.Tryz (prog)
open Go.RowKit
open Go.ChangeShapes Go.WideShapes Go.ChangeAt
theorem bk:jc prog 39=some true:=by kernel_rfl
theorem aY:dZ prog 39=some 13:=by kernel_rfl
theorem gP:jF prog 48=some (39,13,128,(.agg #[.int .i64 0,.int .i64 0,.int .i64 0,.int .i64 0,.int .i64 0,.int .i64 0,.int .i64 0,.int .i64 0,.bool false,.slice none 0 0,.int .i64 0,.string ⟨#[]⟩,.bool false]:Value)):=by kernel_rfl
theorem iX:jc prog 48=some false:=by kernel_rfl
theorem aN:cK prog 96 0=some 0:=by kernel_rfl
theorem bm:cK prog 29 3=some 3:=by kernel_rfl
theorem cH:cK prog 39 1=some 1:=by kernel_rfl
theorem en:cK prog 39 2=some 2:=by kernel_rfl
theorem bt:cK prog 39 3=some 3:=by kernel_rfl
theorem iD:cK prog 96 1=some 22:=by kernel_rfl
theorem oY:dZ prog 48=some 1:=by kernel_rfl
theorem qb:prog.underlying 9=some .string:=by kernel_rfl
theorem ic:aO prog 113=true:=by kernel_rfl
theorem bY:cK prog 29 13=some 15:=by kernel_rfl
theorem bc:jc prog 26=some false:=by kernel_rfl
theorem cN:cK prog 29 15=some 17:=by kernel_rfl
theorem di:cK prog 29 7=some 9:=by kernel_rfl
theorem cS:jc prog 9=some false:=by kernel_rfl
theorem mi:cK prog 24 1=some 1:=by kernel_rfl
theorem dp:cK prog 29 16=some 18:=by kernel_rfl
theorem fU:∀ (a0:Int) (a1:Int) (a2:Int) (a3:Int) (a4:ByteArray) (a5:Bool),prog.built 39 [(0,.int .i64 5),(4,.int .i64 a0),(5,.int .i64 a1),(10,.int .i64 a3),(11,.string a4),(12,.bool a5),(7,.int .i64 a2)]=some #[.int .i64 5,.int .i64 0,.int .i64 0,.int .i64 0,.int .i64 a0,.int .i64 a1,.int .i64 0,.int .i64 a2,.bool false,.slice none 0 0,.int .i64 a3,.string a4,.bool a5]:=by intros;kernel_rfl
theorem sJ:aO prog 114=true:=by kernel_rfl
theorem oZ:aO prog 83=true:=by kernel_rfl
theorem dh:cK prog 29 8=some 10:=by kernel_rfl
theorem gQ:∀ (a0:Int) (a1:Int) (a2:Int) (a3:Int) (a4:Option Addr) (a5 a6:Nat),prog.built 39 [(0,.int .i64 3),(4,.int .i64 a0),(5,.int .i64 a1),(6,.int .i64 a2),(9,.slice a4 a5 a6),(7,.int .i64 a3)]=some #[.int .i64 3,.int .i64 0,.int .i64 0,.int .i64 0,.int .i64 a0,.int .i64 a1,.int .i64 a2,.int .i64 a3,.bool false,.slice a4 a5 a6,.int .i64 0,.string ⟨#[]⟩,.bool false]:=by intros;kernel_rfl
theorem oq (w0:World) (Z:Nat→Prop) (T g:Nat) (p:Sp) (w:World) (h:aQ w0 Z w T g p) (tag:Nat→Nat) (a:Ra) (O:Option Addr) (oc:Nat) (L:List Msg) (hs:gn w Z T g tag p a O oc L) (hl:L.length≤1000) (m:Msg) (to:Int) (hE:w.ownsRow 0 99 3 (.slice m.E m.es.length m.c) m.es.length (dF m.es)∧Col tag (1000+2*L.length) m.E) :
 Rt prog 113 [.pointer (some ⟨g,0,none⟩),.int .i64 to,.agg (bD m).toArray] w (fun v w'=>v=.tuple #[]∧aQ w0 Z w' T g (p.tell (pl { m with t:=to }))):=by
 refine enter (n:=32) Tryz.func113 rfl rfl rfl (ak (af (bK (v:=.agg _) rfl ?_)));intro b5 w1 E5 hb5 hk5;have hgb:=hs.b.lt;have h5:g≠b5:=by omega
 have hg5:w.heap.size≤b5:=Nat.le_of_eq hb5.symm;have hb0:=hs.b.from_ (ah.rfl_.next E5);refine aj (ag (ak ?_));have hU2:ly [(0,6,.pointer (some ⟨g,0,none⟩)),(1,7,.pointer (some ⟨g,0,none⟩)),(2,8,.pointer (some ⟨g,0+0,none⟩)),(3,9,.pointer (some ⟨g,0+0+0,none⟩)),(4,10,.pointer (some ⟨g,0+0+0+0,none⟩)),(5,11,.int .i64 p.s.id),(6,12,.int .i64 to),(7,13,.pointer (some ⟨g,0,none⟩)),(8,14,.pointer (some ⟨g,0,none⟩)),(9,15,.pointer (some ⟨g,0+0,none⟩)),(10,16,.pointer (some ⟨g,0+0+0,none⟩)),(11,17,.pointer (some ⟨g,0+0+0+3,none⟩)),(12,18,.int .i64 p.s.term),(13,19,.pointer (some ⟨b5,0+1,none⟩)),(15,20,.pointer (some ⟨b5,0+2,none⟩)),(17,21,.pointer (some ⟨b5,0+3,none⟩))]:=by simp [ly]
 refine nK [(0,6,.pointer (some ⟨g,0,none⟩)),(1,7,.pointer (some ⟨g,0,none⟩)),(2,8,.pointer (some ⟨g,0+0,none⟩)),(3,9,.pointer (some ⟨g,0+0+0,none⟩)),(4,10,.pointer (some ⟨g,0+0+0+0,none⟩)),(5,11,.int .i64 p.s.id),(6,12,.int .i64 to),(7,13,.pointer (some ⟨g,0,none⟩)),(8,14,.pointer (some ⟨g,0,none⟩)),(9,15,.pointer (some ⟨g,0+0,none⟩)),(10,16,.pointer (some ⟨g,0+0+0,none⟩)),(11,17,.pointer (some ⟨g,0+0+0+3,none⟩)),(12,18,.int .i64 p.s.term),(13,19,.pointer (some ⟨b5,0+1,none⟩)),(15,20,.pointer (some ⟨b5,0+2,none⟩)),(17,21,.pointer (some ⟨b5,0+3,none⟩))] (fun S w'=>Blk w' g T (rfV p.s a++[Value.slice O L.length oc]).toArray∧Blk w' b5 39 #[.int .i64 m.k,.int .i64 (bif S 14 then p.s.id else m.f),.int .i64 (bif S 16 then to else m.t),.int .i64 (bif S 18 then p.s.term else m.tm),.int .i64 m.ix,.int .i64 m.lt,.int .i64 m.cm,.int .i64 m.rd,.bool m.ok,.slice m.E m.es.length m.c,.int .i64 m.a,.string m.d,.bool m.dn]∧ah w w') (by kernel_rfl) (by kernel_rfl) hU2 (by simp) (⟨hb0.from_ ((ah.rfl_).d1),hk5.from_ ((ah.rfl_).d1),((ah.rfl_.next E5)).d1⟩) ?_ ?_
 ·constructor
  ·rintro S L' wS hI hM hS0 ⟨-⟩;have e0:=hI.1 0 (by simp);have hM':=hM;obtain ⟨hgB,hX,hB⟩:=hM';exact cw (aH e0) ⟨hI.put hU2 (.head _),hM⟩
  constructor
  ·rintro S L' wS hI hM hS0 ⟨d0,-⟩;have e6:bE L' 6=.pointer (some ⟨g,0,none⟩):=hI.get (i:=0) (.head _) d0;have hM':=hM;obtain ⟨hgB,hX,hB⟩:=hM';exact cw (av e6) ⟨hI.put hU2 (.tail _ (.head _)),hM⟩
  constructor
  ·rintro S L' wS hI hM hS0 ⟨d1,-⟩;have e7:bE L' 7=.pointer (some ⟨g,0,none⟩):=hI.get (i:=1) (.tail _ (.head _)) d1;have hM':=hM;obtain ⟨hgB,hX,hB⟩:=hM';exact cw (ab aN e7) ⟨hI.put hU2 (gM 2 rfl),hM⟩
  constructor
  ·rintro S L' wS hI hM hS0 ⟨d2,-⟩;have e8:bE L' 8=.pointer (some ⟨g,0+0,none⟩):=hI.get (i:=2) (gM 2 rfl) d2;have hM':=hM;obtain ⟨hgB,hX,hB⟩:=hM';exact cw (ab aC e8) ⟨hI.put hU2 (gM 3 rfl),hM⟩
  constructor
  ·rintro S L' wS hI hM hS0 ⟨d3,-⟩;have e9:bE L' 9=.pointer (some ⟨g,0+0+0,none⟩):=hI.get (i:=3) (gM 3 rfl) d3;have hM':=hM;obtain ⟨hgB,hX,hB⟩:=hM';exact cw (ab bZ e9) ⟨hI.put hU2 (gM 4 rfl),hM⟩
  constructor
  ·rintro S L' wS hI hM hS0 ⟨d4,-⟩;have e10:bE L' 10=.pointer (some ⟨g,0+0+0+0,none⟩):=hI.get (i:=4) (gM 4 rfl) d4;have hM':=hM;obtain ⟨hgB,hX,hB⟩:=hM';exact cw (ar ao e10 (by exact ct hgB 0 rfl)) ⟨hI.put hU2 (gM 5 rfl),hM⟩
  constructor
  ·rintro S L' wS hI hM hS0 ⟨-,-⟩;have e1:=hI.1 1 (by simp);have hM':=hM;obtain ⟨hgB,hX,hB⟩:=hM';exact cw (aH e1) ⟨hI.put hU2 (gM 6 rfl),hM⟩
  constructor
  ·rintro S L' wS hI hM hS0 ⟨-,-⟩;have e0:=hI.1 0 (by simp);have hM':=hM;obtain ⟨hgB,hX,hB⟩:=hM';exact cw (aH e0) ⟨hI.put hU2 (gM 7 rfl),hM⟩
  constructor
  ·rintro S L' wS hI hM hS0 ⟨d7,-,-⟩;have e13:bE L' 13=.pointer (some ⟨g,0,none⟩):=hI.get (i:=7) (gM 7 rfl) d7;have hM':=hM;obtain ⟨hgB,hX,hB⟩:=hM';exact cw (av e13) ⟨hI.put hU2 (gM 8 rfl),hM⟩
  constructor
  ·rintro S L' wS hI hM hS0 ⟨d8,-,-⟩;have e14:bE L' 14=.pointer (some ⟨g,0,none⟩):=hI.get (i:=8) (gM 8 rfl) d8;have hM':=hM;obtain ⟨hgB,hX,hB⟩:=hM';exact cw (ab aN e14) ⟨hI.put hU2 (gM 9 rfl),hM⟩
  constructor
  ·rintro S L' wS hI hM hS0 ⟨d9,-,-⟩;have e15:bE L' 15=.pointer (some ⟨g,0+0,none⟩):=hI.get (i:=9) (gM 9 rfl) d9;have hM':=hM;obtain ⟨hgB,hX,hB⟩:=hM';exact cw (ab aC e15) ⟨hI.put hU2 (gM 10 rfl),hM⟩
  constructor
  ·rintro S L' wS hI hM hS0 ⟨d10,-,-⟩;have e16:bE L' 16=.pointer (some ⟨g,0+0+0,none⟩):=hI.get (i:=10) (gM 10 rfl) d10;have hM':=hM;obtain ⟨hgB,hX,hB⟩:=hM';exact cw (ab bm e16) ⟨hI.put hU2 (gM 11 rfl),hM⟩
  constructor
  ·rintro S L' wS hI hM hS0 ⟨d11,-,-⟩;have e17:bE L' 17=.pointer (some ⟨g,0+0+0+3,none⟩):=hI.get (i:=11) (gM 11 rfl) d11;have hM':=hM;obtain ⟨hgB,hX,hB⟩:=hM';exact cw (ar ao e17 (by exact ct hgB 3 rfl)) ⟨hI.put hU2 (gM 12 rfl),hM⟩
  constructor
  ·rintro S L' wS hI hM hS0 ⟨d0,d1,d2,d3,d4,d5,-,-,-,-,-,-,-,-⟩;have e5:=hI.1 5 (by simp);have hM':=hM;obtain ⟨hgB,hX,hB⟩:=hM';exact cw (ab cH e5) ⟨hI.put hU2 (gM 13 rfl),hM⟩
  constructor
  ·rintro S L' wS hI hM hS0 ⟨d13,d5,d0,d1,d2,d3,d4,d5,-,-,-,-,-,-,-,-⟩;have e11:bE L' 11=.int .i64 p.s.id:=hI.get (i:=5) (gM 5 rfl) d5;have e19:bE L' 19=.pointer (some ⟨b5,0+1,none⟩):=hI.get (i:=13) (gM 13 rfl) d13;have hM':=hM;obtain ⟨hgB,hX,hB⟩:=hM';obtain ⟨w2,hR,hO,hb⟩:=mC (n:=32) (L:=L') (x:=.tmp 19) (y:=.tmp 11) bF e19 e11 rfl hX (by simp);exact kO hR ⟨hI.skip (by simp),hgB.only hO h5,hb,hB.only hO hg5⟩
  constructor
  ·rintro S L' wS hI hM hS0 ⟨d0,d1,d2,d3,d4,d5,d6,-,-,-,-,-,-,d13,d14,-⟩;have e5:=hI.1 5 (by simp);have hM':=hM;obtain ⟨hgB,hX,hB⟩:=hM';exact cw (ab en e5) ⟨hI.put hU2 (gM 14 rfl),hM⟩
  constructor
  ·rintro S L' wS hI hM hS0 ⟨d15,d6,d14,d0,d1,d2,d3,d4,d5,d6,-,-,-,-,-,-,d13,d14,-⟩;have e12:bE L' 12=.int .i64 to:=hI.get (i:=6) (gM 6 rfl) d6;have e20:bE L' 20=.pointer (some ⟨b5,0+2,none⟩):=hI.get (i:=15) (gM 14 rfl) d15;have hM':=hM;obtain ⟨hgB,hX,hB⟩:=hM';obtain ⟨w2,hR,hO,hb⟩:=mC (n:=32) (L:=L') (x:=.tmp 20) (y:=.tmp 12) bF e20 e12 rfl hX (by simp);exact kO hR ⟨hI.skip (by simp),hgB.only hO h5,hb,hB.only hO hg5⟩
  constructor
  ·rintro S L' wS hI hM hS0 ⟨d0,d1,d2,d3,d4,d5,d6,d7,d8,d9,d10,d11,d12,d13,d14,d15,d16,-⟩;have e5:=hI.1 5 (by simp);have hM':=hM;obtain ⟨hgB,hX,hB⟩:=hM';exact cw (ab bt e5) ⟨hI.put hU2 (gM 15 rfl),hM⟩
  constructor
  ·rintro S L' wS hI hM hS0 ⟨d17,d12,d16,d0,d1,d2,d3,d4,d5,d6,d7,d8,d9,d10,d11,d12,d13,d14,d15,d16,-⟩;have e18:bE L' 18=.int .i64 p.s.term:=hI.get (i:=12) (gM 12 rfl) d12;have e21:bE L' 21=.pointer (some ⟨b5,0+3,none⟩):=hI.get (i:=17) (gM 15 rfl) d17;have hM':=hM;obtain ⟨hgB,hX,hB⟩:=hM';obtain ⟨w2,hR,hO,hb⟩:=mC (n:=32) (L:=L') (x:=.tmp 21) (y:=.tmp 18) bF e21 e18 rfl hX (by simp);exact kO hR ⟨hI.skip (by simp),hgB.only hO h5,hb,hB.only hO hg5⟩
  exact trivial
 ·intro w3 hM;obtain ⟨hgB,hX,hB⟩:=hM;have hB1:=hB;replace hX:Blk w3 b5 39 (bD { m with f:=p.s.id,t:=to,tm:=p.s.term }).toArray:=hX;refine ag ?_;apply qH 8 7 [28] [(22,eqp _),(23,eqp _),(24,eqp _),(25,eqp _),(26,eqp (.slice O L.length oc)),(27,eqp (.agg (bD { m with f:=p.s.id,t:=to,tm:=p.s.term }).toArray)),(28,fun v w'=>∃ q,v=.slice (some ⟨q,0,none⟩) 1 1∧Blk w' q 39 (bD { m with f:=p.s.id,t:=to,tm:=p.s.term }).toArray),(29,fun v w'=>∃ A2 c2,v=.slice A2 (L.length+1) c2∧w'.ownsRow 0 39 13 (.slice A2 (L.length+1) c2) (L.length+1) (L.flatMap bD++bD { m with f:=p.s.id,t:=to,tm:=p.s.term })∧(∀ k,A2.map (·.block)=some k→O.map (·.block)=some k∨(w3).heap.size≤k))] (fun w'=>ah w3 w') (fun w'=>(w3).grownBy w' (O.map (·.block))) (by repeat first | exact cB | refine cA ?_ | refine bW ?_) (by kernel_rfl) (by kernel_rfl) (by kernel_rfl) ⟨aq _,aq _,aq _,aq _,aq _,aq _,(fun _ _ _ hF ⟨q,h1,h2⟩=>⟨q,h1,h2.from_ hF⟩),(fun _ _ _ hF ⟨A2,c2,h1,h2,h3⟩=>⟨A2,c2,h1,h2.kept_from hF,h3⟩),trivial⟩ (ah.rfl_.d1) (ah.rfl_.d1.grown _) (fun _ _ hF h=>h.next hF) (fun _ _ hF h=>cY h (hF.grown _))
  case hop=>
   constructor
   ·rintro-w5 hG5;exact au (aH (v:=.pointer _) rfl) rfl
   constructor
   ·rintro-w6 D6;exact au (aH (v:=.pointer _) rfl) rfl
   constructor
   ·rintro-w7 D7;rintro _ rfl;exact au (av rfl) rfl
   constructor
   ·rintro-w8 D8;rintro _ rfl;exact au (ab iD rfl) rfl
   constructor
   ·rintro-w9 D9;rintro _ rfl;exact au (ar iX rfl (show _=some (Value.slice O L.length oc) from (hgB.from_ D9).rd 22 rfl)) rfl
   constructor
   ·rintro-w10 D10;exact au (aG (cs:=bD { m with f:=p.s.id,t:=to,tm:=p.s.term }) bk aY rfl ((hX.from_ D10).whole)) rfl
   constructor
   ·rintro-w11 D11;rintro v11_27 rfl;exact mJ (od (l:=[(0,.tmp 27)]) (cells:=(bD { m with f:=p.s.id,t:=to,tm:=p.s.term }).toArray) gP rfl rfl (by show Instr.fill _ _ [(0,Value.agg (bD { m with f:=p.s.id,t:=to,tm:=p.s.term }).toArray)]=_;kernel_rfl)) (ah.rfl_.new _) ⟨_,rfl,Blk.new _ _ _⟩
   constructor
   ·intro h;cases h
   exact trivial
  case hmu=>
   rintro w13 D13;rintro v13_26 rfl v13_28 ⟨q13,rfl,hq13⟩;show rf ..;refine lr (news:=bD { m with f:=p.s.id,t:=to,tm:=p.s.term }) gP rfl (by decide) rfl ((hs.m.o.kept_from hB).kept_from D13) (Nat.zero_le _) rfl rfl ⟨_,_,rfl,hq13.whole⟩ (by simp [bD,Value.oneCell']) (by omega) (by omega) ?_;intro A3 c3 w3 ho3 hg3 hl3;exact ⟨cY (D13.grown _) hg3,⟨A3,c3,rfl,ho3,fun k hk=>(hl3 k hk).imp id fun e=>Nat.le_trans D13.size e⟩,fun t u ht h=>kr (by repeat first | exact trivial | refine ⟨.inl rfl,?_⟩ | refine ⟨.inr (fun _ h=>h),?_⟩) t u ht h⟩
  case hend=>
   rintro w14 hG14;rintro _ rfl _ rfl _ rfl _ rfl v26 rfl v27 rfl v28 _ v29 ⟨A29,c29,rfl,ho29,hL29⟩;show St ..;have hgD:=hG14;have hgC:=hgB.chg (Chg.of_grown (U:=fun k=>tag k=6) hgD (fun k hk=>hs.m.c k hk)) (fun e=>by rw [hs.gc] at e;cases e);refine aa (av rfl) (aa (ab iD rfl) (fR (v:=.slice _ _ _) oY rfl rfl rfl (hgC) (by show _<23;decide) ?_));intro w15 O2 P2;refine aj (cC (dV rfl (⟨rfl,h.push hs (x:={ m with f:=p.s.id,t:=to,tm:=p.s.term }) hE hB hgD ho29 rfl (fun k hk=>(hL29 k hk).imp id fun e=>Nat.le_trans hB.size e) O2 P2⟩)))
theorem zW (B T i:Int) (A:Option Addr) (n c:Nat) (xs:List Ent) (w:World) (h:cz w (.slice A n c) xs) (hm:cJ B T xs=true) (hi:B+1≤i∧i≤df B xs+1) :
 Rt prog 114 [.agg #[.int .i64 B,.int .i64 T,.slice A n c],.int .i64 i,.int .i64 16] w fun v w'=>(∃ A' c',v=.tuple #[.slice A' ((xs.drop (i-B-1).toNat).take 16).length c',.int .i64 0]∧w'.ownsRow w.heap.size 99 3 (.slice A' ((xs.drop (i-B-1).toNat).take 16).length c') ((xs.drop (i-B-1).toNat).take 16).length (dF ((xs.drop (i-B-1).toNat).take 16)))∧ah w w':=
 (vp B T i 16 (.slice A n c) xs w h (by decide)).mono fun e w' ⟨L,he,hg,hF⟩=>by
  have h0:nW B T xs i 16=0:=by
   unfold nW;rw [if_pos hm,if_pos hi,if_neg (by decide)]
  rw [h0] at he hg;have ho:=hg.2 rfl;obtain ⟨A',c',rfl⟩:=fw ho;exact ⟨_,he,⟨A',c',rfl,ho⟩,hF⟩
theorem n_ {P:Program} {ρ:Operand→Value} {w:World} {t:TypeId} {x y z:Operand} {k k':IntKind} {s r:ByteArray} {l h:Nat} (ht:P.underlying t=some .string) (hx:ρ x=.string s) (hy:ρ y=.int k (l:Int)) (hz:ρ z=.int k' (h:Int)) (h1:l≤h) (h2:h≤s.size) (hr:s.extract l h=r):RO P ρ (.slice t x (some y) (some z) none) w (.string r) w:=fun _ _ _ _ _=>by
 subst hr;simp only [execOp,hx,hy,hz,Option.map_none,Option.map_some,Sem.run_bind];rw [run_sliceAt_string w t _ _ _ _ ht,run_slice_string_if w t s k k' (l:Int) (h:Int) ht,if_pos (by omega),if_pos (by omega),Result.andThen_ok,Int.toNat_natCast,Int.toNat_natCast];rfl
theorem nX {s:Rf} {to:Int} (h:at1 s.next to≤s.b) {na:Nat} (ha:at1 s.sent to=(na:Int)):kj s to={ zM with k:=5,t:=to,ix:=s.b,lt:=s.t,rd:=s.round,a:=(na:Int),d:=s.snap.extract na (min (na+1024) s.snap.size),dn:=decide (min (na+1024) s.snap.size=s.snap.size) }:=by
 unfold kj;simp only;rw [if_pos h,ha,Int.toNat_natCast]
theorem pG {s:Rf} {to:Int} (h:¬ at1 s.next to≤s.b):kj s to={ zM with k:=3,t:=to,ix:=at1 s.next to-1,lt:=dJ s.b s.t s.es (at1 s.next to-1),cm:=s.commit,rd:=s.round,es:=(s.es.drop (at1 s.next to-s.b-1).toNat).take 16 }:=by
 unfold kj;simp only;rw [if_neg h,show at1 s.next to-1-s.b=at1 s.next to-s.b-1 by omega]
theorem qK {l:List Int} {k:Nat} (h:k<l.length):at1 l ((k:Int)+1)=l[k]:=by
 unfold at1;rw [show ((k:Int)+1-1).toNat=k by omega,List.getD_eq_getElem?_getD,List.getElem?_eq_getElem h];rfl
theorem yL (w0:World) (Z:Nat→Prop) (T g:Nat) (p:Sp) (w:World) (h:aQ w0 Z w T g p) (hF:RfF p.s) (hr:p.s.role=2) (hl:p.out.length≤900) (to:Int) (hto:1≤to∧to≤p.s.nodes) :
 Rt prog 78 [.pointer (some ⟨g,0,none⟩),.int .i64 to] w (fun v w'=>v=.tuple #[]∧aQ w0 Z w' T g (p.send to)):=by
 obtain ⟨tag,a,O,oc,L,hs⟩:=h.ex;obtain ⟨E,Ec,V,Vc,X,Xc,M,Mc,S,Sc,Q,Qc,LL⟩:=a;have hb:=hs.b;have hll:L.length=p.out.length:=by rw [←hs.m.l,List.length_map]
 obtain ⟨k,rfl⟩:∃ k:Nat,to=(k:Int)+1:=⟨(to-1).toNat,by omega⟩;have hXl:p.s.next.length=p.s.nodes.toNat:=by rw [hF.nx.1,gx hr]
 have hSl:p.s.sent.length=p.s.nodes.toNat:=by rw [hF.se.1,gx hr]
 have hkX:k<p.s.next.length:=by omega
 have hkS:k<p.s.sent.length:=by omega
 have hnx:=hF.nx.2 _ (List.getElem_mem hkX);have hse:=hF.se.2 _ (List.getElem_mem hkS);obtain ⟨gX,rfl⟩:∃ q,X=some ⟨q,0,none⟩:=eK (hs.f.x (by decide)).1 (by omega);have hXo:w.ownsRow 0 3 1 (.slice (some ⟨gX,0,none⟩) p.s.next.length Xc) p.s.next.length (p.s.next.map iV):=(hs.f.x (by decide)).1;have hXc:=gu (l:=p.s.next) hXo k hkX;obtain ⟨gS,rfl⟩:∃ q,S=some ⟨q,0,none⟩:=eK (hs.f.n (by decide)).1 (by omega);have hSo:w.ownsRow 0 3 1 (.slice (some ⟨gS,0,none⟩) p.s.sent.length Sc) p.s.sent.length (p.s.sent.map iV):=(hs.f.n (by decide)).1;have hSc:=gu (l:=p.s.sent) hSo k hkS;obtain ⟨na,hna⟩:∃ na:Nat,p.s.sent[k]=(na:Int):=⟨p.s.sent[k].toNat,by omega⟩;have he:cz w (.slice E p.s.es.length Ec) p.s.es:=hs.f.rd.e;have hzw:=h.zw;have hnn:=hF.n;have hsn:=hF.sn;have hbl:=hF.last;have hlb:df p.s.b p.s.es=a_ p.s:=rfl;have hpn:=qK hkX;have hpx:=qK hkS;refine enter (n:=127) Tryz.func78 rfl rfl rfl (ak (af (mvp rfl (aa (av rfl) (aa (ab aN rfl) (aa (ab aC rfl) (aa (ab bY rfl) (aa (ar bc rfl (by exact ct (hb.from_ ah.rfl_) 15 rfl)) ?_))))))));refine mvi rfl (aa (ef rfl rfl (by omega)) (dY (t:=16) (v:=.int _ _) (v':=.int .i64 (k:Nat)) rfl (by exact br (by omega)) ?_));refine aa (da bj rfl rfl (by omega)) (aa (ar ao rfl (by exact dP ah.rfl_ hXc)) ?_);refine asi rfl (aj (ag (ak (ak (af (mvi rfl (mvp rfl (aa (av rfl) (aa (ab aN rfl) (aa (ab aC rfl) (aa (ab bq rfl) (aa (ab dI rfl) ?_))))))))))));refine aa (ar ao rfl (by exact ct (hb.from_ ah.rfl_) 6 rfl)) ?_;refine aa (gp rfl rfl) (aj (ag (Bk rfl (fun Q1=>?_) (fun Q1=>?_))))
 ·refine ak (af (mvp rfl (aa (av rfl) (aa (ab aN rfl) (aa (ab aC rfl) (aa (ab cN rfl) (aa (ar bc rfl (by exact ct (hb.from_ ah.rfl_) 17 rfl)) ?_)))))));refine mvi rfl (aa (ef rfl rfl (by omega)) (dY (t:=35) (v:=.int _ _) (v':=.int .i64 (k:Nat)) rfl (by exact br (by omega)) ?_));refine aa (da bj rfl rfl (by omega)) (aa (ar ao rfl (by exact dP ah.rfl_ hSc)) ?_);refine dY (t:=37) (v:=.int _ _) (v':=.int .i64 (na:Nat)) rfl (by exact congrArg (Value.int .i64) hna) ?_;refine asi rfl (aj (ag (ak (af (mvi rfl (aa (cl (b:=1024) rfl rfl (by omega)) (mvp rfl (aa (av rfl) (aa (ab aN rfl) (aa (ab aC rfl) (aa (ab di rfl) ?_)))))))))));refine aa (ar cS rfl (by exact ct (hb.from_ ah.rfl_) 9 rfl)) ?_;refine aa (eY (by kernel_rfl) rfl) (aa (km rfl rfl) (dY (t:=47) (v:=.int _ _) (v':=.int .i64 ((min (na+1024) p.s.snap.size:Nat):Int)) rfl (by exact br (by omega)) ?_));refine asi rfl (aj (ag (ak ?_)));apply kZ [(0,48,fun _ v _=>v=_),(1,49,fun _ v _=>v=_),(2,50,fun _ v _=>v=_),(3,51,fun _ v _=>v=_),(4,52,fun _ v _=>v=_),(5,53,fun _ v _=>v=_),(6,54,fun _ v _=>v=_),(7,55,fun _ v _=>v=_),(8,56,fun _ v _=>v=_),(9,57,fun _ v _=>v=_),(10,58,fun _ v _=>v=_),(11,59,fun _ v _=>v=_),(12,60,fun _ v _=>v=_),(13,61,fun _ v _=>v=_),(14,62,fun _ v _=>v=_),(15,63,fun _ v _=>v=_),(16,64,fun _ v _=>v=_),(17,65,fun _ v _=>v=_),(18,66,fun _ v _=>v=_),(19,67,fun _ v _=>v=_),(20,68,fun _ v _=>v=_),(21,69,fun _ v _=>v=_),(22,70,fun _ v _=>v=_),(23,71,fun _ v _=>v=_),(24,72,fun _ v _=>v=_),(25,73,fun _ v _=>v=_),(26,74,fun _ v _=>v=_),(27,75,fun _ v _=>v=_),(28,76,fun _ v _=>v=_),(29,77,fun _ v _=>v=_),(30,78,fun _ v _=>v=_),(31,79,fun _ v _=>v=_),(32,80,fun _ v _=>v=_),(33,81,fun _ v _=>v=_),(34,82,fun _ v _=>v=_),(35,83,fun _ v _=>v=_),(36,84,fun _ v _=>v=_),(37,85,fun _ v _=>v=_),(38,86,fun _ v _=>v=_),(39,87,fun _ v _=>v=_),(40,88,fun _ v _=>v=_),(41,89,fun _ v _=>v=_),(42,90,fun _ v _=>v=_)] [42] (fun S w'=>(S 42=false→ah w w')∧(S 42=true→aQ w0 Z w' T g (p.tell (pl { ({ zM with k:=5,ix:=p.s.b,lt:=p.s.t,rd:=p.s.round,a:=(na:Int),d:=p.s.snap.extract na (min (na+1024) p.s.snap.size),dn:=decide (min (na+1024) p.s.snap.size=p.s.snap.size) }:Msg) with t:=(k:Int)+1 })))) (by kernel_rfl) (by kernel_rfl) rfl rfl ⟨fun _ _ _ _ _ _ _ h=>h,fun _ _ _ _ _ _ _ h=>h,fun _ _ _ _ _ _ _ h=>h,fun _ _ _ _ _ _ _ h=>h,fun _ _ _ _ _ _ _ h=>h,fun _ _ _ _ _ _ _ h=>h,fun _ _ _ _ _ _ _ h=>h,fun _ _ _ _ _ _ _ h=>h,fun _ _ _ _ _ _ _ h=>h,fun _ _ _ _ _ _ _ h=>h,fun _ _ _ _ _ _ _ h=>h,fun _ _ _ _ _ _ _ h=>h,fun _ _ _ _ _ _ _ h=>h,fun _ _ _ _ _ _ _ h=>h,fun _ _ _ _ _ _ _ h=>h,fun _ _ _ _ _ _ _ h=>h,fun _ _ _ _ _ _ _ h=>h,fun _ _ _ _ _ _ _ h=>h,fun _ _ _ _ _ _ _ h=>h,fun _ _ _ _ _ _ _ h=>h,fun _ _ _ _ _ _ _ h=>h,fun _ _ _ _ _ _ _ h=>h,fun _ _ _ _ _ _ _ h=>h,fun _ _ _ _ _ _ _ h=>h,fun _ _ _ _ _ _ _ h=>h,fun _ _ _ _ _ _ _ h=>h,fun _ _ _ _ _ _ _ h=>h,fun _ _ _ _ _ _ _ h=>h,fun _ _ _ _ _ _ _ h=>h,fun _ _ _ _ _ _ _ h=>h,fun _ _ _ _ _ _ _ h=>h,fun _ _ _ _ _ _ _ h=>h,fun _ _ _ _ _ _ _ h=>h,fun _ _ _ _ _ _ _ h=>h,fun _ _ _ _ _ _ _ h=>h,fun _ _ _ _ _ _ _ h=>h,fun _ _ _ _ _ _ _ h=>h,fun _ _ _ _ _ _ _ h=>h,fun _ _ _ _ _ _ _ h=>h,fun _ _ _ _ _ _ _ h=>h,fun _ _ _ _ _ _ _ h=>h,fun _ _ _ _ _ _ _ h=>h,fun _ _ _ _ _ _ _ h=>h,trivial⟩ (fun S i w1 w2 hq hF h=>⟨fun h0=>(h.1 (lO h0)).next hF,fun h1=>(fun h=>h.from_ hF) (h.2 (nC (show 42≠i by rintro rfl;exact absurd hq (by decide)) h1))⟩) ⟨fun _=>ah.rfl_.d1,fun h=>by cases h⟩
  case hstep=>
   constructor
   ·rintro S L' w2 hU hmo hme hI hM hC hS ⟨-⟩;have hS0:S 42=false:=(ai hC (j:=42) rfl (by kernel_rfl) hS);have hM2:=hM.1 hS0;have e0:=hI.1 0 (ea rfl);exact aE [(0,_)] hU hmo hme hI hM (.head _) rfl rfl (by kernel_rfl) ⟨e0,trivial⟩ (aH (v:=.pointer _) rfl) ah.rfl_ (rfl)
   constructor
   ·rintro S L' w3 hU hmo hme hI hM hC hS ⟨-⟩;have hS0:S 42=false:=(ai hC (j:=42) rfl (by kernel_rfl) hS);have hM3:=hM.1 hS0;have e1:=hI.1 1 (ea rfl);exact aE [(1,_)] hU hmo hme hI hM (.tail _ (.head _)) rfl rfl (by kernel_rfl) ⟨e1,trivial⟩ (aH (v:=.int _ _) rfl) ah.rfl_ (rfl)
   constructor
   ·rintro S L' w4 hU hmo hme hI hM hC hS ⟨-⟩;have hS0:S 42=false:=(ai hC (j:=42) rfl (by kernel_rfl) (ai hC (j:=41) rfl (by kernel_rfl) (ai hC (j:=8) rfl (by kernel_rfl) (ai hC (j:=7) rfl (by kernel_rfl) (ai hC (j:=6) rfl (by kernel_rfl) (ai hC (j:=5) rfl (by kernel_rfl) (ai hC (j:=4) rfl (by kernel_rfl) (ai hC (j:=3) rfl (by kernel_rfl) hS))))))));have hM4:=hM.1 hS0;have e0:=hI.1 0 (ea rfl);exact aE [(0,_)] hU hmo hme hI hM (gM 2 rfl) rfl rfl (by kernel_rfl) ⟨e0,trivial⟩ (aH (v:=.pointer _) rfl) ah.rfl_ (rfl)
   constructor
   ·rintro S L' w5 hU hmo hme hI hM hC hS ⟨d2,-⟩;have hS0:S 42=false:=(ai hC (j:=42) rfl (by kernel_rfl) (ai hC (j:=41) rfl (by kernel_rfl) (ai hC (j:=8) rfl (by kernel_rfl) (ai hC (j:=7) rfl (by kernel_rfl) (ai hC (j:=6) rfl (by kernel_rfl) (ai hC (j:=5) rfl (by kernel_rfl) (ai hC (j:=4) rfl (by kernel_rfl) hS)))))));have hM5:=hM.1 hS0;obtain ⟨v5_50,e50,h50⟩:=hI.get (i:=2) (gM 2 rfl) d2;obtain rfl:=h50;exact aE [(50,_)] hU hmo hme hI hM (gM 3 rfl) rfl rfl (by kernel_rfl) ⟨e50,trivial⟩ (av rfl) ah.rfl_ (rfl)
   constructor
   ·rintro S L' w6 hU hmo hme hI hM hC hS ⟨d3,-⟩;have hS0:S 42=false:=(ai hC (j:=42) rfl (by kernel_rfl) (ai hC (j:=41) rfl (by kernel_rfl) (ai hC (j:=8) rfl (by kernel_rfl) (ai hC (j:=7) rfl (by kernel_rfl) (ai hC (j:=6) rfl (by kernel_rfl) (ai hC (j:=5) rfl (by kernel_rfl) hS))))));have hM6:=hM.1 hS0;obtain ⟨v6_51,e51,h51⟩:=hI.get (i:=3) (gM 3 rfl) d3;obtain rfl:=h51;exact aE [(51,_)] hU hmo hme hI hM (gM 4 rfl) rfl rfl (by kernel_rfl) ⟨e51,trivial⟩ (ab aN rfl) ah.rfl_ (rfl)
   constructor
   ·rintro S L' w7 hU hmo hme hI hM hC hS ⟨d4,-⟩;have hS0:S 42=false:=(ai hC (j:=42) rfl (by kernel_rfl) (ai hC (j:=41) rfl (by kernel_rfl) (ai hC (j:=8) rfl (by kernel_rfl) (ai hC (j:=7) rfl (by kernel_rfl) (ai hC (j:=6) rfl (by kernel_rfl) hS)))));have hM7:=hM.1 hS0;obtain ⟨v7_52,e52,h52⟩:=hI.get (i:=4) (gM 4 rfl) d4;obtain rfl:=h52;exact aE [(52,_)] hU hmo hme hI hM (gM 5 rfl) rfl rfl (by kernel_rfl) ⟨e52,trivial⟩ (ab aC rfl) ah.rfl_ (rfl)
   constructor
   ·rintro S L' w8 hU hmo hme hI hM hC hS ⟨d5,-⟩;have hS0:S 42=false:=(ai hC (j:=42) rfl (by kernel_rfl) (ai hC (j:=41) rfl (by kernel_rfl) (ai hC (j:=8) rfl (by kernel_rfl) (ai hC (j:=7) rfl (by kernel_rfl) hS))));have hM8:=hM.1 hS0;obtain ⟨v8_53,e53,h53⟩:=hI.get (i:=5) (gM 5 rfl) d5;obtain rfl:=h53;exact aE [(53,_)] hU hmo hme hI hM (gM 6 rfl) rfl rfl (by kernel_rfl) ⟨e53,trivial⟩ (ab bq rfl) ah.rfl_ (rfl)
   constructor
   ·rintro S L' w9 hU hmo hme hI hM hC hS ⟨d6,-⟩;have hS0:S 42=false:=(ai hC (j:=42) rfl (by kernel_rfl) (ai hC (j:=41) rfl (by kernel_rfl) (ai hC (j:=8) rfl (by kernel_rfl) hS)));have hM9:=hM.1 hS0;obtain ⟨v9_54,e54,h54⟩:=hI.get (i:=6) (gM 6 rfl) d6;obtain rfl:=h54;exact aE [(54,_)] hU hmo hme hI hM (gM 7 rfl) rfl rfl (by kernel_rfl) ⟨e54,trivial⟩ (ab dI rfl) ah.rfl_ (rfl)
   constructor
   ·rintro S L' w10 hU hmo hme hI hM hC hS ⟨d7,-⟩;have hS0:S 42=false:=(ai hC (j:=42) rfl (by kernel_rfl) (ai hC (j:=41) rfl (by kernel_rfl) hS));have hM10:=hM.1 hS0;obtain ⟨v10_55,e55,h55⟩:=hI.get (i:=7) (gM 7 rfl) d7;obtain rfl:=h55;exact aE [(55,_)] hU hmo hme hI hM (gM 8 rfl) rfl rfl (by kernel_rfl) ⟨e55,trivial⟩ (ar ao rfl (by exact ct (hb.from_ (ah.rfl_.next hM10)) 6 rfl)) ah.rfl_ (rfl)
   constructor
   ·rintro S L' w11 hU hmo hme hI hM hC hS ⟨-⟩;have hS0:S 42=false:=(ai hC (j:=42) rfl (by kernel_rfl) (ai hC (j:=41) rfl (by kernel_rfl) (ai hC (j:=15) rfl (by kernel_rfl) (ai hC (j:=14) rfl (by kernel_rfl) (ai hC (j:=13) rfl (by kernel_rfl) (ai hC (j:=12) rfl (by kernel_rfl) (ai hC (j:=11) rfl (by kernel_rfl) (ai hC (j:=10) rfl (by kernel_rfl) hS))))))));have hM11:=hM.1 hS0;have e0:=hI.1 0 (ea rfl);exact aE [(0,_)] hU hmo hme hI hM (gM 9 rfl) rfl rfl (by kernel_rfl) ⟨e0,trivial⟩ (aH (v:=.pointer _) rfl) ah.rfl_ (rfl)
   constructor
   ·rintro S L' w12 hU hmo hme hI hM hC hS ⟨d9,-⟩;have hS0:S 42=false:=(ai hC (j:=42) rfl (by kernel_rfl) (ai hC (j:=41) rfl (by kernel_rfl) (ai hC (j:=15) rfl (by kernel_rfl) (ai hC (j:=14) rfl (by kernel_rfl) (ai hC (j:=13) rfl (by kernel_rfl) (ai hC (j:=12) rfl (by kernel_rfl) (ai hC (j:=11) rfl (by kernel_rfl) hS)))))));have hM12:=hM.1 hS0;obtain ⟨v12_57,e57,h57⟩:=hI.get (i:=9) (gM 9 rfl) d9;obtain rfl:=h57;exact aE [(57,_)] hU hmo hme hI hM (gM 10 rfl) rfl rfl (by kernel_rfl) ⟨e57,trivial⟩ (av rfl) ah.rfl_ (rfl)
   constructor
   ·rintro S L' w13 hU hmo hme hI hM hC hS ⟨d10,-⟩;have hS0:S 42=false:=(ai hC (j:=42) rfl (by kernel_rfl) (ai hC (j:=41) rfl (by kernel_rfl) (ai hC (j:=15) rfl (by kernel_rfl) (ai hC (j:=14) rfl (by kernel_rfl) (ai hC (j:=13) rfl (by kernel_rfl) (ai hC (j:=12) rfl (by kernel_rfl) hS))))));have hM13:=hM.1 hS0;obtain ⟨v13_58,e58,h58⟩:=hI.get (i:=10) (gM 10 rfl) d10;obtain rfl:=h58;exact aE [(58,_)] hU hmo hme hI hM (gM 11 rfl) rfl rfl (by kernel_rfl) ⟨e58,trivial⟩ (ab aN rfl) ah.rfl_ (rfl)
   constructor
   ·rintro S L' w14 hU hmo hme hI hM hC hS ⟨d11,-⟩;have hS0:S 42=false:=(ai hC (j:=42) rfl (by kernel_rfl) (ai hC (j:=41) rfl (by kernel_rfl) (ai hC (j:=15) rfl (by kernel_rfl) (ai hC (j:=14) rfl (by kernel_rfl) (ai hC (j:=13) rfl (by kernel_rfl) hS)))));have hM14:=hM.1 hS0;obtain ⟨v14_59,e59,h59⟩:=hI.get (i:=11) (gM 11 rfl) d11;obtain rfl:=h59;exact aE [(59,_)] hU hmo hme hI hM (gM 12 rfl) rfl rfl (by kernel_rfl) ⟨e59,trivial⟩ (ab aC rfl) ah.rfl_ (rfl)
   constructor
   ·rintro S L' w15 hU hmo hme hI hM hC hS ⟨d12,-⟩;have hS0:S 42=false:=(ai hC (j:=42) rfl (by kernel_rfl) (ai hC (j:=41) rfl (by kernel_rfl) (ai hC (j:=15) rfl (by kernel_rfl) (ai hC (j:=14) rfl (by kernel_rfl) hS))));have hM15:=hM.1 hS0;obtain ⟨v15_60,e60,h60⟩:=hI.get (i:=12) (gM 12 rfl) d12;obtain rfl:=h60;exact aE [(60,_)] hU hmo hme hI hM (gM 13 rfl) rfl rfl (by kernel_rfl) ⟨e60,trivial⟩ (ab bq rfl) ah.rfl_ (rfl)
   constructor
   ·rintro S L' w16 hU hmo hme hI hM hC hS ⟨d13,-⟩;have hS0:S 42=false:=(ai hC (j:=42) rfl (by kernel_rfl) (ai hC (j:=41) rfl (by kernel_rfl) (ai hC (j:=15) rfl (by kernel_rfl) hS)));have hM16:=hM.1 hS0;obtain ⟨v16_61,e61,h61⟩:=hI.get (i:=13) (gM 13 rfl) d13;obtain rfl:=h61;exact aE [(61,_)] hU hmo hme hI hM (gM 14 rfl) rfl rfl (by kernel_rfl) ⟨e61,trivial⟩ (ab mi rfl) ah.rfl_ (rfl)
   constructor
   ·rintro S L' w17 hU hmo hme hI hM hC hS ⟨d14,-⟩;have hS0:S 42=false:=(ai hC (j:=42) rfl (by kernel_rfl) (ai hC (j:=41) rfl (by kernel_rfl) hS));have hM17:=hM.1 hS0;obtain ⟨v17_62,e62,h62⟩:=hI.get (i:=14) (gM 14 rfl) d14;obtain rfl:=h62;exact aE [(62,_)] hU hmo hme hI hM (gM 15 rfl) rfl rfl (by kernel_rfl) ⟨e62,trivial⟩ (ar ao rfl (by exact ct (hb.from_ (ah.rfl_.next hM17)) 7 rfl)) ah.rfl_ (rfl)
   constructor
   ·rintro S L' w18 hU hmo hme hI hM hC hS ⟨-⟩;have hS0:S 42=false:=(ai hC (j:=42) rfl (by kernel_rfl) (ai hC (j:=41) rfl (by kernel_rfl) hS));have hM18:=hM.1 hS0;have e5:=hI.1 5 (ea rfl);exact aE [(5,_)] hU hmo hme hI hM (gM 16 rfl) rfl rfl (by kernel_rfl) ⟨e5,trivial⟩ (aH (v:=.int _ _) rfl) ah.rfl_ (rfl)
   constructor
   ·rintro S L' w19 hU hmo hme hI hM hC hS ⟨-⟩;have hS0:S 42=false:=(ai hC (j:=42) rfl (by kernel_rfl) (ai hC (j:=41) rfl (by kernel_rfl) (ai hC (j:=25) rfl (by kernel_rfl) (ai hC (j:=22) rfl (by kernel_rfl) (ai hC (j:=21) rfl (by kernel_rfl) (ai hC (j:=20) rfl (by kernel_rfl) (ai hC (j:=19) rfl (by kernel_rfl) (ai hC (j:=18) rfl (by kernel_rfl) hS))))))));have hM19:=hM.1 hS0;have e0:=hI.1 0 (ea rfl);exact aE [(0,_)] hU hmo hme hI hM (gM 17 rfl) rfl rfl (by kernel_rfl) ⟨e0,trivial⟩ (aH (v:=.pointer _) rfl) ah.rfl_ (rfl)
   constructor
   ·rintro S L' w20 hU hmo hme hI hM hC hS ⟨d17,-⟩;have hS0:S 42=false:=(ai hC (j:=42) rfl (by kernel_rfl) (ai hC (j:=41) rfl (by kernel_rfl) (ai hC (j:=25) rfl (by kernel_rfl) (ai hC (j:=22) rfl (by kernel_rfl) (ai hC (j:=21) rfl (by kernel_rfl) (ai hC (j:=20) rfl (by kernel_rfl) (ai hC (j:=19) rfl (by kernel_rfl) hS)))))));have hM20:=hM.1 hS0;obtain ⟨v20_65,e65,h65⟩:=hI.get (i:=17) (gM 17 rfl) d17;obtain rfl:=h65;exact aE [(65,_)] hU hmo hme hI hM (gM 18 rfl) rfl rfl (by kernel_rfl) ⟨e65,trivial⟩ (av rfl) ah.rfl_ (rfl)
   constructor
   ·rintro S L' w21 hU hmo hme hI hM hC hS ⟨d18,-⟩;have hS0:S 42=false:=(ai hC (j:=42) rfl (by kernel_rfl) (ai hC (j:=41) rfl (by kernel_rfl) (ai hC (j:=25) rfl (by kernel_rfl) (ai hC (j:=22) rfl (by kernel_rfl) (ai hC (j:=21) rfl (by kernel_rfl) (ai hC (j:=20) rfl (by kernel_rfl) hS))))));have hM21:=hM.1 hS0;obtain ⟨v21_66,e66,h66⟩:=hI.get (i:=18) (gM 18 rfl) d18;obtain rfl:=h66;exact aE [(66,_)] hU hmo hme hI hM (gM 19 rfl) rfl rfl (by kernel_rfl) ⟨e66,trivial⟩ (ab aN rfl) ah.rfl_ (rfl)
   constructor
   ·rintro S L' w22 hU hmo hme hI hM hC hS ⟨d19,-⟩;have hS0:S 42=false:=(ai hC (j:=42) rfl (by kernel_rfl) (ai hC (j:=41) rfl (by kernel_rfl) (ai hC (j:=25) rfl (by kernel_rfl) (ai hC (j:=22) rfl (by kernel_rfl) (ai hC (j:=21) rfl (by kernel_rfl) hS)))));have hM22:=hM.1 hS0;obtain ⟨v22_67,e67,h67⟩:=hI.get (i:=19) (gM 19 rfl) d19;obtain rfl:=h67;exact aE [(67,_)] hU hmo hme hI hM (gM 20 rfl) rfl rfl (by kernel_rfl) ⟨e67,trivial⟩ (ab aC rfl) ah.rfl_ (rfl)
   constructor
   ·rintro S L' w23 hU hmo hme hI hM hC hS ⟨d20,-⟩;have hS0:S 42=false:=(ai hC (j:=42) rfl (by kernel_rfl) (ai hC (j:=41) rfl (by kernel_rfl) (ai hC (j:=25) rfl (by kernel_rfl) (ai hC (j:=22) rfl (by kernel_rfl) hS))));have hM23:=hM.1 hS0;obtain ⟨v23_68,e68,h68⟩:=hI.get (i:=20) (gM 20 rfl) d20;obtain rfl:=h68;exact aE [(68,_)] hU hmo hme hI hM (gM 21 rfl) rfl rfl (by kernel_rfl) ⟨e68,trivial⟩ (ab di rfl) ah.rfl_ (rfl)
   constructor
   ·rintro S L' w24 hU hmo hme hI hM hC hS ⟨d21,-⟩;have hS0:S 42=false:=(ai hC (j:=42) rfl (by kernel_rfl) (ai hC (j:=41) rfl (by kernel_rfl) (ai hC (j:=25) rfl (by kernel_rfl) hS)));have hM24:=hM.1 hS0;obtain ⟨v24_69,e69,h69⟩:=hI.get (i:=21) (gM 21 rfl) d21;obtain rfl:=h69;exact aE [(69,_)] hU hmo hme hI hM (gM 22 rfl) rfl rfl (by kernel_rfl) ⟨e69,trivial⟩ (ar cS rfl (by exact ct (hb.from_ (ah.rfl_.next hM24)) 9 rfl)) ah.rfl_ (rfl)
   constructor
   ·rintro S L' w25 hU hmo hme hI hM hC hS ⟨-⟩;have hS0:S 42=false:=(ai hC (j:=42) rfl (by kernel_rfl) (ai hC (j:=41) rfl (by kernel_rfl) (ai hC (j:=25) rfl (by kernel_rfl) hS)));have hM25:=hM.1 hS0;have e5:=hI.1 5 (ea rfl);exact aE [(5,_)] hU hmo hme hI hM (gM 23 rfl) rfl rfl (by kernel_rfl) ⟨e5,trivial⟩ (aH (v:=.int _ _) rfl) ah.rfl_ (rfl)
   constructor
   ·rintro S L' w26 hU hmo hme hI hM hC hS ⟨-⟩;have hS0:S 42=false:=(ai hC (j:=42) rfl (by kernel_rfl) (ai hC (j:=41) rfl (by kernel_rfl) (ai hC (j:=25) rfl (by kernel_rfl) hS)));have hM26:=hM.1 hS0;have e6:=hI.1 6 (ea rfl);exact aE [(6,_)] hU hmo hme hI hM (gM 24 rfl) rfl rfl (by kernel_rfl) ⟨e6,trivial⟩ (aH (v:=.int _ _) rfl) ah.rfl_ (rfl)
   constructor
   ·rintro S L' w27 hU hmo hme hI hM hC hS ⟨d22,d23,d24,-⟩;have hS0:S 42=false:=(ai hC (j:=42) rfl (by kernel_rfl) (ai hC (j:=41) rfl (by kernel_rfl) hS));have hM27:=hM.1 hS0;obtain ⟨v27_70,e70,h70⟩:=hI.get (i:=22) (gM 22 rfl) d22;obtain rfl:=h70;obtain ⟨v27_71,e71,h71⟩:=hI.get (i:=23) (gM 23 rfl) d23;obtain rfl:=h71;obtain ⟨v27_72,e72,h72⟩:=hI.get (i:=24) (gM 24 rfl) d24;obtain rfl:=h72;exact aE [(70,_),(71,_),(72,_)] hU hmo hme hI hM (gM 25 rfl) rfl rfl (by kernel_rfl) ⟨e70,e71,e72,trivial⟩ ((n_ (l:=na) (h:=min (na+1024) p.s.snap.size) qb rfl rfl rfl (by omega) (by omega) rfl)) (ah.rfl_) (rfl)
   constructor
   ·rintro S L' w28 hU hmo hme hI hM hC hS ⟨-⟩;have hS0:S 42=false:=(ai hC (j:=42) rfl (by kernel_rfl) (ai hC (j:=41) rfl (by kernel_rfl) (ai hC (j:=34) rfl (by kernel_rfl) hS)));have hM28:=hM.1 hS0;have e6:=hI.1 6 (ea rfl);exact aE [(6,_)] hU hmo hme hI hM (gM 26 rfl) rfl rfl (by kernel_rfl) ⟨e6,trivial⟩ (aH (v:=.int _ _) rfl) ah.rfl_ (rfl)
   constructor
   ·rintro S L' w29 hU hmo hme hI hM hC hS ⟨-⟩;have hS0:S 42=false:=(ai hC (j:=42) rfl (by kernel_rfl) (ai hC (j:=41) rfl (by kernel_rfl) (ai hC (j:=34) rfl (by kernel_rfl) (ai hC (j:=33) rfl (by kernel_rfl) (ai hC (j:=32) rfl (by kernel_rfl) (ai hC (j:=31) rfl (by kernel_rfl) (ai hC (j:=30) rfl (by kernel_rfl) (ai hC (j:=29) rfl (by kernel_rfl) (ai hC (j:=28) rfl (by kernel_rfl) hS)))))))));have hM29:=hM.1 hS0;have e0:=hI.1 0 (ea rfl);exact aE [(0,_)] hU hmo hme hI hM (gM 27 rfl) rfl rfl (by kernel_rfl) ⟨e0,trivial⟩ (aH (v:=.pointer _) rfl) ah.rfl_ (rfl)
   constructor
   ·rintro S L' w30 hU hmo hme hI hM hC hS ⟨d27,-⟩;have hS0:S 42=false:=(ai hC (j:=42) rfl (by kernel_rfl) (ai hC (j:=41) rfl (by kernel_rfl) (ai hC (j:=34) rfl (by kernel_rfl) (ai hC (j:=33) rfl (by kernel_rfl) (ai hC (j:=32) rfl (by kernel_rfl) (ai hC (j:=31) rfl (by kernel_rfl) (ai hC (j:=30) rfl (by kernel_rfl) (ai hC (j:=29) rfl (by kernel_rfl) hS))))))));have hM30:=hM.1 hS0;obtain ⟨v30_75,e75,h75⟩:=hI.get (i:=27) (gM 27 rfl) d27;obtain rfl:=h75;exact aE [(75,_)] hU hmo hme hI hM (gM 28 rfl) rfl rfl (by kernel_rfl) ⟨e75,trivial⟩ (av rfl) ah.rfl_ (rfl)
   constructor
   ·rintro S L' w31 hU hmo hme hI hM hC hS ⟨d28,-⟩;have hS0:S 42=false:=(ai hC (j:=42) rfl (by kernel_rfl) (ai hC (j:=41) rfl (by kernel_rfl) (ai hC (j:=34) rfl (by kernel_rfl) (ai hC (j:=33) rfl (by kernel_rfl) (ai hC (j:=32) rfl (by kernel_rfl) (ai hC (j:=31) rfl (by kernel_rfl) (ai hC (j:=30) rfl (by kernel_rfl) hS)))))));have hM31:=hM.1 hS0;obtain ⟨v31_76,e76,h76⟩:=hI.get (i:=28) (gM 28 rfl) d28;obtain rfl:=h76;exact aE [(76,_)] hU hmo hme hI hM (gM 29 rfl) rfl rfl (by kernel_rfl) ⟨e76,trivial⟩ (ab aN rfl) ah.rfl_ (rfl)
   constructor
   ·rintro S L' w32 hU hmo hme hI hM hC hS ⟨d29,-⟩;have hS0:S 42=false:=(ai hC (j:=42) rfl (by kernel_rfl) (ai hC (j:=41) rfl (by kernel_rfl) (ai hC (j:=34) rfl (by kernel_rfl) (ai hC (j:=33) rfl (by kernel_rfl) (ai hC (j:=32) rfl (by kernel_rfl) (ai hC (j:=31) rfl (by kernel_rfl) hS))))));have hM32:=hM.1 hS0;obtain ⟨v32_77,e77,h77⟩:=hI.get (i:=29) (gM 29 rfl) d29;obtain rfl:=h77;exact aE [(77,_)] hU hmo hme hI hM (gM 30 rfl) rfl rfl (by kernel_rfl) ⟨e77,trivial⟩ (ab aC rfl) ah.rfl_ (rfl)
   constructor
   ·rintro S L' w33 hU hmo hme hI hM hC hS ⟨d30,-⟩;have hS0:S 42=false:=(ai hC (j:=42) rfl (by kernel_rfl) (ai hC (j:=41) rfl (by kernel_rfl) (ai hC (j:=34) rfl (by kernel_rfl) (ai hC (j:=33) rfl (by kernel_rfl) (ai hC (j:=32) rfl (by kernel_rfl) hS)))));have hM33:=hM.1 hS0;obtain ⟨v33_78,e78,h78⟩:=hI.get (i:=30) (gM 30 rfl) d30;obtain rfl:=h78;exact aE [(78,_)] hU hmo hme hI hM (gM 31 rfl) rfl rfl (by kernel_rfl) ⟨e78,trivial⟩ (ab di rfl) ah.rfl_ (rfl)
   constructor
   ·rintro S L' w34 hU hmo hme hI hM hC hS ⟨d31,-⟩;have hS0:S 42=false:=(ai hC (j:=42) rfl (by kernel_rfl) (ai hC (j:=41) rfl (by kernel_rfl) (ai hC (j:=34) rfl (by kernel_rfl) (ai hC (j:=33) rfl (by kernel_rfl) hS))));have hM34:=hM.1 hS0;obtain ⟨v34_79,e79,h79⟩:=hI.get (i:=31) (gM 31 rfl) d31;obtain rfl:=h79;exact aE [(79,_)] hU hmo hme hI hM (gM 32 rfl) rfl rfl (by kernel_rfl) ⟨e79,trivial⟩ (ar cS rfl (by exact ct (hb.from_ (ah.rfl_.next hM34)) 9 rfl)) ah.rfl_ (rfl)
   constructor
   ·rintro S L' w35 hU hmo hme hI hM hC hS ⟨d32,-⟩;have hS0:S 42=false:=(ai hC (j:=42) rfl (by kernel_rfl) (ai hC (j:=41) rfl (by kernel_rfl) (ai hC (j:=34) rfl (by kernel_rfl) hS)));have hM35:=hM.1 hS0;obtain ⟨v35_80,e80,h80⟩:=hI.get (i:=32) (gM 32 rfl) d32;obtain rfl:=h80;exact aE [(80,_)] hU hmo hme hI hM (gM 33 rfl) rfl rfl (by kernel_rfl) ⟨e80,trivial⟩ (eY (by kernel_rfl) rfl) ah.rfl_ (rfl)
   constructor
   ·rintro S L' w36 hU hmo hme hI hM hC hS ⟨d26,d33,-⟩;have hS0:S 42=false:=(ai hC (j:=42) rfl (by kernel_rfl) (ai hC (j:=41) rfl (by kernel_rfl) hS));have hM36:=hM.1 hS0;obtain ⟨v36_74,e74,h74⟩:=hI.get (i:=26) (gM 26 rfl) d26;obtain rfl:=h74;obtain ⟨v36_81,e81,h81⟩:=hI.get (i:=33) (gM 33 rfl) d33;obtain rfl:=h81;exact aE [(74,_),(81,_)] hU hmo hme hI hM (gM 34 rfl) rfl rfl (by kernel_rfl) ⟨e74,e81,trivial⟩ ((fT (bg rfl rfl) (congrArg Value.bool (show (((min (na+1024) p.s.snap.size:Nat):Int)==((p.s.snap.size:Nat):Int))=decide (min (na+1024) p.s.snap.size=p.s.snap.size) by rw [Bool.eq_iff_iff,beq_iff_eq,decide_eq_true_eq];omega)))) (ah.rfl_) (rfl)
   constructor
   ·rintro S L' w37 hU hmo hme hI hM hC hS ⟨-⟩;have hS0:S 42=false:=(ai hC (j:=42) rfl (by kernel_rfl) (ai hC (j:=41) rfl (by kernel_rfl) (ai hC (j:=40) rfl (by kernel_rfl) (ai hC (j:=39) rfl (by kernel_rfl) (ai hC (j:=38) rfl (by kernel_rfl) (ai hC (j:=37) rfl (by kernel_rfl) (ai hC (j:=36) rfl (by kernel_rfl) hS)))))));have hM37:=hM.1 hS0;have e0:=hI.1 0 (ea rfl);exact aE [(0,_)] hU hmo hme hI hM (gM 35 rfl) rfl rfl (by kernel_rfl) ⟨e0,trivial⟩ (aH (v:=.pointer _) rfl) ah.rfl_ (rfl)
   constructor
   ·rintro S L' w38 hU hmo hme hI hM hC hS ⟨d35,-⟩;have hS0:S 42=false:=(ai hC (j:=42) rfl (by kernel_rfl) (ai hC (j:=41) rfl (by kernel_rfl) (ai hC (j:=40) rfl (by kernel_rfl) (ai hC (j:=39) rfl (by kernel_rfl) (ai hC (j:=38) rfl (by kernel_rfl) (ai hC (j:=37) rfl (by kernel_rfl) hS))))));have hM38:=hM.1 hS0;obtain ⟨v38_83,e83,h83⟩:=hI.get (i:=35) (gM 35 rfl) d35;obtain rfl:=h83;exact aE [(83,_)] hU hmo hme hI hM (gM 36 rfl) rfl rfl (by kernel_rfl) ⟨e83,trivial⟩ (av rfl) ah.rfl_ (rfl)
   constructor
   ·rintro S L' w39 hU hmo hme hI hM hC hS ⟨d36,-⟩;have hS0:S 42=false:=(ai hC (j:=42) rfl (by kernel_rfl) (ai hC (j:=41) rfl (by kernel_rfl) (ai hC (j:=40) rfl (by kernel_rfl) (ai hC (j:=39) rfl (by kernel_rfl) (ai hC (j:=38) rfl (by kernel_rfl) hS)))));have hM39:=hM.1 hS0;obtain ⟨v39_84,e84,h84⟩:=hI.get (i:=36) (gM 36 rfl) d36;obtain rfl:=h84;exact aE [(84,_)] hU hmo hme hI hM (gM 37 rfl) rfl rfl (by kernel_rfl) ⟨e84,trivial⟩ (ab aN rfl) ah.rfl_ (rfl)
   constructor
   ·rintro S L' w40 hU hmo hme hI hM hC hS ⟨d37,-⟩;have hS0:S 42=false:=(ai hC (j:=42) rfl (by kernel_rfl) (ai hC (j:=41) rfl (by kernel_rfl) (ai hC (j:=40) rfl (by kernel_rfl) (ai hC (j:=39) rfl (by kernel_rfl) hS))));have hM40:=hM.1 hS0;obtain ⟨v40_85,e85,h85⟩:=hI.get (i:=37) (gM 37 rfl) d37;obtain rfl:=h85;exact aE [(85,_)] hU hmo hme hI hM (gM 38 rfl) rfl rfl (by kernel_rfl) ⟨e85,trivial⟩ (ab aC rfl) ah.rfl_ (rfl)
   constructor
   ·rintro S L' w41 hU hmo hme hI hM hC hS ⟨d38,-⟩;have hS0:S 42=false:=(ai hC (j:=42) rfl (by kernel_rfl) (ai hC (j:=41) rfl (by kernel_rfl) (ai hC (j:=40) rfl (by kernel_rfl) hS)));have hM41:=hM.1 hS0;obtain ⟨v41_86,e86,h86⟩:=hI.get (i:=38) (gM 38 rfl) d38;obtain rfl:=h86;exact aE [(86,_)] hU hmo hme hI hM (gM 39 rfl) rfl rfl (by kernel_rfl) ⟨e86,trivial⟩ (ab dp rfl) ah.rfl_ (rfl)
   constructor
   ·rintro S L' w42 hU hmo hme hI hM hC hS ⟨d39,-⟩;have hS0:S 42=false:=(ai hC (j:=42) rfl (by kernel_rfl) (ai hC (j:=41) rfl (by kernel_rfl) hS));have hM42:=hM.1 hS0;obtain ⟨v42_87,e87,h87⟩:=hI.get (i:=39) (gM 39 rfl) d39;obtain rfl:=h87;exact aE [(87,_)] hU hmo hme hI hM (gM 40 rfl) rfl rfl (by kernel_rfl) ⟨e87,trivial⟩ (ar ao rfl (by exact ct (hb.from_ (ah.rfl_.next hM42)) 18 rfl)) ah.rfl_ (rfl)
   constructor
   ·rintro S L' w43 hU hmo hme hI hM hC hS ⟨d8,d15,d16,d25,d34,d40,-⟩;have hS0:S 42=false:=(ai hC (j:=42) rfl (by kernel_rfl) hS);have hM43:=hM.1 hS0;obtain ⟨v43_56,e56,h56⟩:=hI.get (i:=8) (gM 8 rfl) d8;obtain rfl:=h56;obtain ⟨v43_63,e63,h63⟩:=hI.get (i:=15) (gM 15 rfl) d15;obtain rfl:=h63;obtain ⟨v43_64,e64,h64⟩:=hI.get (i:=16) (gM 16 rfl) d16;obtain rfl:=h64;obtain ⟨v43_73,e73,h73⟩:=hI.get (i:=25) (gM 25 rfl) d25;obtain rfl:=h73;obtain ⟨v43_82,e82,h82⟩:=hI.get (i:=34) (gM 34 rfl) d34;obtain rfl:=h82;obtain ⟨v43_88,e88,h88⟩:=hI.get (i:=40) (gM 40 rfl) d40;obtain rfl:=h88;exact aE [(56,_),(63,_),(64,_),(73,_),(82,_),(88,_)] hU hmo hme hI hM (gM 41 rfl) rfl rfl (by kernel_rfl) ⟨e56,e63,e64,e73,e82,e88,trivial⟩ (cV (l:=[(0,.const (.int .i64 5)),(4,.tmp 56),(5,.tmp 63),(10,.tmp 64),(11,.tmp 73),(12,.tmp 82),(7,.tmp 88)]) (fU _ _ _ _ _ _)) ah.rfl_ (rfl)
   constructor
   ·rintro S L' w44 hU hmo hme hI hM hC hS ⟨d0,d1,d41,-⟩;have hS0:S 42=false:=hS;have hM44:=hM.1 hS0;obtain ⟨v44_48,e48,h48⟩:=hI.get (i:=0) (.head _) d0;obtain rfl:=h48;obtain ⟨v44_49,e49,h49⟩:=hI.get (i:=1) (.tail _ (.head _)) d1;obtain rfl:=h49;obtain ⟨v44_89,e89,h89⟩:=hI.get (i:=41) (gM 41 rfl) d41;obtain rfl:=h89;refine gI (al:=[.tmp 48,.tmp 49,.tmp 89]) [(48,_),(49,_),(89,_)] hU hI (gM 42 rfl) (by kernel_rfl) ⟨e48,e49,e89,trivial⟩ ic ((oq w0 Z T g p _ (h.from_ (ah.rfl_.next hM44)) tag _ O oc L (hs.from_ (ah.rfl_.next hM44)) (by omega) { zM with k:=5,ix:=p.s.b,lt:=p.s.t,rd:=p.s.round,a:=(na:Int),d:=p.s.snap.extract na (min (na+1024) p.s.snap.size),dn:=decide (min (na+1024) p.s.snap.size=p.s.snap.size) } ((k:Int)+1) ⟨dH,Col.none⟩).mono ?_);rintro v9 w2 ⟨rfl,hS2⟩;exact ⟨⟨fun h0=>(by rw [ld] at h0;cases h0),fun _=>hS2⟩,rfl,⟨fun _ _ _ h=>h,fun _ _ _ h=>h,fun _ _ _ h=>h,fun _ _ _ h=>h,fun _ _ _ h=>h,fun _ _ _ h=>h,fun _ _ _ h=>h,fun _ _ _ h=>h,fun _ _ _ h=>h,fun _ _ _ h=>h,fun _ _ _ h=>h,fun _ _ _ h=>h,fun _ _ _ h=>h,fun _ _ _ h=>h,fun _ _ _ h=>h,fun _ _ _ h=>h,fun _ _ _ h=>h,fun _ _ _ h=>h,fun _ _ _ h=>h,fun _ _ _ h=>h,fun _ _ _ h=>h,fun _ _ _ h=>h,fun _ _ _ h=>h,fun _ _ _ h=>h,fun _ _ _ h=>h,fun _ _ _ h=>h,fun _ _ _ h=>h,fun _ _ _ h=>h,fun _ _ _ h=>h,fun _ _ _ h=>h,fun _ _ _ h=>h,fun _ _ _ h=>h,fun _ _ _ h=>h,fun _ _ _ h=>h,fun _ _ _ h=>h,fun _ _ _ h=>h,fun _ _ _ h=>h,fun _ _ _ h=>h,fun _ _ _ h=>h,fun _ _ _ h=>h,fun _ _ _ h=>h,fun _ _ _ h=>h,fun _ _ _ h=>h,trivial⟩⟩
   exact trivial
  case hend=>
   intro w45 hM;obtain hS9:=hM.2 rfl;rintro v45_48 rfl v45_49 rfl v45_50 rfl v45_51 rfl v45_52 rfl v45_53 rfl v45_54 rfl v45_55 rfl v45_56 rfl v45_57 rfl v45_58 rfl v45_59 rfl v45_60 rfl v45_61 rfl v45_62 rfl v45_63 rfl v45_64 rfl v45_65 rfl v45_66 rfl v45_67 rfl v45_68 rfl v45_69 rfl v45_70 rfl v45_71 rfl v45_72 rfl v45_73 rfl v45_74 rfl v45_75 rfl v45_76 rfl v45_77 rfl v45_78 rfl v45_79 rfl v45_80 rfl v45_81 rfl v45_82 rfl v45_83 rfl v45_84 rfl v45_85 rfl v45_86 rfl v45_87 rfl v45_88 rfl v45_89 rfl v45_90 rfl;refine gy (ag (aB (aD (dV rfl ?_))))
   have e9:p.send ((k:Int)+1)=p.tell (pl { ({ zM with k:=5,ix:=p.s.b,lt:=p.s.t,rd:=p.s.round,a:=(na:Int),d:=p.s.snap.extract na (min (na+1024) p.s.snap.size),dn:=decide (min (na+1024) p.s.snap.size=p.s.snap.size) }:Msg) with t:=(k:Int)+1 }):=by
    unfold Sp.send;rw [nX (by rw [hpn];omega) (by rw [hpx,hna])];rfl
   rw [e9];exact ⟨rfl,hS9⟩
 refine aM (ag (ak (af (mvp rfl (aa (av rfl) (aa (ab aN rfl) (aa (ab aC rfl) (aa (ab bq rfl) (aa (aG (cs:=[.int .i64 p.s.b,.int .i64 p.s.t,.slice E p.s.es.length Ec]) dd cT rfl (js (hb.from_ ah.rfl_))) (mvi rfl ?_))))))))));have hB98:ah w w:=ah.rfl_;have hz98:=hB98.size;refine ay sJ (zW p.s.b p.s.t p.s.next[k] E p.s.es.length Ec p.s.es _ (he.from_ ah.rfl_) hF.lg (by omega)) ?_;rintro v99 w46 ⟨⟨A99,c99,rfl,ho99⟩,E99⟩;have hs9:=hs.new hzw (ah.rfl_.next E99) (1000+2*L.length);have hc9:Col (fv w.heap.size (1000+2*L.length) tag) (1000+2*L.length) A99:=fun q hq=>dB (by have:=(d_ ho99 q hq).1;omega)
 have h9:=h.from_ (ah.rfl_.next E99);refine mvt rfl (aa (aZ rfl rfl) (aa (aZ rfl rfl) (ass rfl (asi rfl (aj (ag ?_))))));apply kZ [(0,102,fun _ v _=>v=_),(1,103,fun _ v _=>v=_),(2,104,fun _ v _=>v=_),(3,105,fun _ v _=>v=_),(4,106,fun _ v _=>v=_),(5,107,fun _ v _=>v=_),(6,108,fun _ v _=>v=_),(7,109,fun _ v _=>v=_),(8,110,fun _ v _=>v=_),(9,111,fun _ v _=>v=_),(10,112,fun _ v _=>v=_),(11,113,fun _ v _=>v=_),(12,114,fun _ v _=>v=_),(13,115,fun _ v _=>v=_),(14,116,fun _ v _=>v=_),(15,117,fun _ v _=>v=_),(16,118,fun _ v _=>v=_),(17,119,fun _ v _=>v=_),(18,120,fun _ v _=>v=_),(19,121,fun _ v _=>v=_),(20,122,fun _ v _=>v=_),(21,123,fun _ v _=>v=_),(22,124,fun _ v _=>v=_),(23,125,fun _ v _=>v=_),(24,126,fun _ v _=>v=_)] [24] (fun S w'=>(S 24=false→ah w46 w')∧(S 24=true→aQ w0 Z w' T g (p.tell (pl { ({ zM with k:=3,ix:=p.s.next[k]-1,lt:=dJ p.s.b p.s.t p.s.es (p.s.next[k]-1),cm:=p.s.commit,rd:=p.s.round,E:=A99,c:=c99,es:=(p.s.es.drop (p.s.next[k]-p.s.b-1).toNat).take 16 }:Msg) with t:=(k:Int)+1 })))) (by kernel_rfl) (by kernel_rfl) rfl rfl ⟨fun _ _ _ _ _ _ _ h=>h,fun _ _ _ _ _ _ _ h=>h,fun _ _ _ _ _ _ _ h=>h,fun _ _ _ _ _ _ _ h=>h,fun _ _ _ _ _ _ _ h=>h,fun _ _ _ _ _ _ _ h=>h,fun _ _ _ _ _ _ _ h=>h,fun _ _ _ _ _ _ _ h=>h,fun _ _ _ _ _ _ _ h=>h,fun _ _ _ _ _ _ _ h=>h,fun _ _ _ _ _ _ _ h=>h,fun _ _ _ _ _ _ _ h=>h,fun _ _ _ _ _ _ _ h=>h,fun _ _ _ _ _ _ _ h=>h,fun _ _ _ _ _ _ _ h=>h,fun _ _ _ _ _ _ _ h=>h,fun _ _ _ _ _ _ _ h=>h,fun _ _ _ _ _ _ _ h=>h,fun _ _ _ _ _ _ _ h=>h,fun _ _ _ _ _ _ _ h=>h,fun _ _ _ _ _ _ _ h=>h,fun _ _ _ _ _ _ _ h=>h,fun _ _ _ _ _ _ _ h=>h,fun _ _ _ _ _ _ _ h=>h,fun _ _ _ _ _ _ _ h=>h,trivial⟩ (fun S i w1 w2 hq hF h=>⟨fun h0=>(h.1 (lO h0)).next hF,fun h1=>(fun h=>h.from_ hF) (h.2 (nC (show 24≠i by rintro rfl;exact absurd hq (by decide)) h1))⟩) ⟨fun _=>ah.rfl_.d1,fun h=>by cases h⟩
 case hstep=>
  constructor
  ·rintro S L' w47 hU hmo hme hI hM hC hS ⟨-⟩;have hS0:S 24=false:=(ai hC (j:=24) rfl (by kernel_rfl) hS);have hM47:=hM.1 hS0;have e0:=hI.1 0 (ea rfl);exact aE [(0,_)] hU hmo hme hI hM (.head _) rfl rfl (by kernel_rfl) ⟨e0,trivial⟩ (aH (v:=.pointer _) rfl) ah.rfl_ (rfl)
  constructor
  ·rintro S L' w48 hU hmo hme hI hM hC hS ⟨-⟩;have hS0:S 24=false:=(ai hC (j:=24) rfl (by kernel_rfl) hS);have hM48:=hM.1 hS0;have e1:=hI.1 1 (ea rfl);exact aE [(1,_)] hU hmo hme hI hM (.tail _ (.head _)) rfl rfl (by kernel_rfl) ⟨e1,trivial⟩ (aH (v:=.int _ _) rfl) ah.rfl_ (rfl)
  constructor
  ·rintro S L' w49 hU hmo hme hI hM hC hS ⟨-⟩;have hS0:S 24=false:=(ai hC (j:=24) rfl (by kernel_rfl) (ai hC (j:=23) rfl (by kernel_rfl) (ai hC (j:=3) rfl (by kernel_rfl) hS)));have hM49:=hM.1 hS0;have e4:=hI.1 4 (ea rfl);exact aE [(4,_)] hU hmo hme hI hM (gM 2 rfl) rfl rfl (by kernel_rfl) ⟨e4,trivial⟩ (aH (v:=.int _ _) rfl) ah.rfl_ (rfl)
  constructor
  ·rintro S L' w50 hU hmo hme hI hM hC hS ⟨d2,-⟩;have hS0:S 24=false:=(ai hC (j:=24) rfl (by kernel_rfl) (ai hC (j:=23) rfl (by kernel_rfl) hS));have hM50:=hM.1 hS0;obtain ⟨v50_104,e104,h104⟩:=hI.get (i:=2) (gM 2 rfl) d2;obtain rfl:=h104;exact aE [(104,_)] hU hmo hme hI hM (gM 3 rfl) rfl rfl (by kernel_rfl) ⟨e104,trivial⟩ (ef rfl rfl (by omega)) ah.rfl_ (rfl)
  constructor
  ·rintro S L' w51 hU hmo hme hI hM hC hS ⟨-⟩;have hS0:S 24=false:=(ai hC (j:=24) rfl (by kernel_rfl) (ai hC (j:=23) rfl (by kernel_rfl) (ai hC (j:=9) rfl (by kernel_rfl) (ai hC (j:=6) rfl (by kernel_rfl) (ai hC (j:=5) rfl (by kernel_rfl) hS)))));have hM51:=hM.1 hS0;have e0:=hI.1 0 (ea rfl);exact aE [(0,_)] hU hmo hme hI hM (gM 4 rfl) rfl rfl (by kernel_rfl) ⟨e0,trivial⟩ (aH (v:=.pointer _) rfl) ah.rfl_ (rfl)
  constructor
  ·rintro S L' w52 hU hmo hme hI hM hC hS ⟨d4,-⟩;have hS0:S 24=false:=(ai hC (j:=24) rfl (by kernel_rfl) (ai hC (j:=23) rfl (by kernel_rfl) (ai hC (j:=9) rfl (by kernel_rfl) (ai hC (j:=6) rfl (by kernel_rfl) hS))));have hM52:=hM.1 hS0;obtain ⟨v52_106,e106,h106⟩:=hI.get (i:=4) (gM 4 rfl) d4;obtain rfl:=h106;exact aE [(106,_)] hU hmo hme hI hM (gM 5 rfl) rfl rfl (by kernel_rfl) ⟨e106,trivial⟩ (av rfl) ah.rfl_ (rfl)
  constructor
  ·rintro S L' w53 hU hmo hme hI hM hC hS ⟨d5,-⟩;have hS0:S 24=false:=(ai hC (j:=24) rfl (by kernel_rfl) (ai hC (j:=23) rfl (by kernel_rfl) (ai hC (j:=9) rfl (by kernel_rfl) hS)));have hM53:=hM.1 hS0;obtain ⟨v53_107,e107,h107⟩:=hI.get (i:=5) (gM 5 rfl) d5;obtain rfl:=h107;exact aE [(107,_)] hU hmo hme hI hM (gM 6 rfl) rfl rfl (by kernel_rfl) ⟨e107,trivial⟩ (ab aN rfl) ah.rfl_ (rfl)
  constructor
  ·rintro S L' w54 hU hmo hme hI hM hC hS ⟨-⟩;have hS0:S 24=false:=(ai hC (j:=24) rfl (by kernel_rfl) (ai hC (j:=23) rfl (by kernel_rfl) (ai hC (j:=9) rfl (by kernel_rfl) (ai hC (j:=8) rfl (by kernel_rfl) hS))));have hM54:=hM.1 hS0;have e4:=hI.1 4 (ea rfl);exact aE [(4,_)] hU hmo hme hI hM (gM 7 rfl) rfl rfl (by kernel_rfl) ⟨e4,trivial⟩ (aH (v:=.int _ _) rfl) ah.rfl_ (rfl)
  constructor
  ·rintro S L' w55 hU hmo hme hI hM hC hS ⟨d7,-⟩;have hS0:S 24=false:=(ai hC (j:=24) rfl (by kernel_rfl) (ai hC (j:=23) rfl (by kernel_rfl) (ai hC (j:=9) rfl (by kernel_rfl) hS)));have hM55:=hM.1 hS0;obtain ⟨v55_109,e109,h109⟩:=hI.get (i:=7) (gM 7 rfl) d7;obtain rfl:=h109;exact aE [(109,_)] hU hmo hme hI hM (gM 8 rfl) rfl rfl (by kernel_rfl) ⟨e109,trivial⟩ (ef rfl rfl (by omega)) ah.rfl_ (rfl)
  constructor
  ·rintro S L' w56 hU hmo hme hI hM hC hS ⟨d6,d8,-⟩;have hS0:S 24=false:=(ai hC (j:=24) rfl (by kernel_rfl) hS);have hM56:=hM.1 hS0;obtain ⟨v56_108,e108,h108⟩:=hI.get (i:=6) (gM 6 rfl) d6;obtain rfl:=h108;obtain ⟨v56_110,e110,h110⟩:=hI.get (i:=8) (gM 8 rfl) d8;obtain rfl:=h110;refine iK (al:=[.tmp 108,.tmp 110]) [(108,_),(110,_)] hU hmo hme hI hM (gM 9 rfl) rfl (by kernel_rfl) ⟨e108,e110,trivial⟩ oZ ((ru T g p.s _ _ _ (hb.from_ ((ah.rfl_.next E99).next hM56)) (he.from_ ((ah.rfl_.next E99).next hM56)) hF.lg (p.s.next[k]-1) (by omega)).mono ?_);rintro v w2 ⟨rfl,E56'⟩;exact ⟨E56',rfl⟩
  constructor
  ·rintro S L' w57 hU hmo hme hI hM hC hS ⟨-⟩;have hS0:S 24=false:=(ai hC (j:=24) rfl (by kernel_rfl) (ai hC (j:=23) rfl (by kernel_rfl) (ai hC (j:=15) rfl (by kernel_rfl) (ai hC (j:=14) rfl (by kernel_rfl) (ai hC (j:=13) rfl (by kernel_rfl) (ai hC (j:=12) rfl (by kernel_rfl) (ai hC (j:=11) rfl (by kernel_rfl) hS)))))));have hM57:=hM.1 hS0;have e0:=hI.1 0 (ea rfl);exact aE [(0,_)] hU hmo hme hI hM (gM 10 rfl) rfl rfl (by kernel_rfl) ⟨e0,trivial⟩ (aH (v:=.pointer _) rfl) ah.rfl_ (rfl)
  constructor
  ·rintro S L' w58 hU hmo hme hI hM hC hS ⟨d10,-⟩;have hS0:S 24=false:=(ai hC (j:=24) rfl (by kernel_rfl) (ai hC (j:=23) rfl (by kernel_rfl) (ai hC (j:=15) rfl (by kernel_rfl) (ai hC (j:=14) rfl (by kernel_rfl) (ai hC (j:=13) rfl (by kernel_rfl) (ai hC (j:=12) rfl (by kernel_rfl) hS))))));have hM58:=hM.1 hS0;obtain ⟨v58_112,e112,h112⟩:=hI.get (i:=10) (gM 10 rfl) d10;obtain rfl:=h112;exact aE [(112,_)] hU hmo hme hI hM (gM 11 rfl) rfl rfl (by kernel_rfl) ⟨e112,trivial⟩ (av rfl) ah.rfl_ (rfl)
  constructor
  ·rintro S L' w59 hU hmo hme hI hM hC hS ⟨d11,-⟩;have hS0:S 24=false:=(ai hC (j:=24) rfl (by kernel_rfl) (ai hC (j:=23) rfl (by kernel_rfl) (ai hC (j:=15) rfl (by kernel_rfl) (ai hC (j:=14) rfl (by kernel_rfl) (ai hC (j:=13) rfl (by kernel_rfl) hS)))));have hM59:=hM.1 hS0;obtain ⟨v59_113,e113,h113⟩:=hI.get (i:=11) (gM 11 rfl) d11;obtain rfl:=h113;exact aE [(113,_)] hU hmo hme hI hM (gM 12 rfl) rfl rfl (by kernel_rfl) ⟨e113,trivial⟩ (ab aN rfl) ah.rfl_ (rfl)
  constructor
  ·rintro S L' w60 hU hmo hme hI hM hC hS ⟨d12,-⟩;have hS0:S 24=false:=(ai hC (j:=24) rfl (by kernel_rfl) (ai hC (j:=23) rfl (by kernel_rfl) (ai hC (j:=15) rfl (by kernel_rfl) (ai hC (j:=14) rfl (by kernel_rfl) hS))));have hM60:=hM.1 hS0;obtain ⟨v60_114,e114,h114⟩:=hI.get (i:=12) (gM 12 rfl) d12;obtain rfl:=h114;exact aE [(114,_)] hU hmo hme hI hM (gM 13 rfl) rfl rfl (by kernel_rfl) ⟨e114,trivial⟩ (ab aC rfl) ah.rfl_ (rfl)
  constructor
  ·rintro S L' w61 hU hmo hme hI hM hC hS ⟨d13,-⟩;have hS0:S 24=false:=(ai hC (j:=24) rfl (by kernel_rfl) (ai hC (j:=23) rfl (by kernel_rfl) (ai hC (j:=15) rfl (by kernel_rfl) hS)));have hM61:=hM.1 hS0;obtain ⟨v61_115,e115,h115⟩:=hI.get (i:=13) (gM 13 rfl) d13;obtain rfl:=h115;exact aE [(115,_)] hU hmo hme hI hM (gM 14 rfl) rfl rfl (by kernel_rfl) ⟨e115,trivial⟩ (ab dh rfl) ah.rfl_ (rfl)
  constructor
  ·rintro S L' w62 hU hmo hme hI hM hC hS ⟨d14,-⟩;have hS0:S 24=false:=(ai hC (j:=24) rfl (by kernel_rfl) (ai hC (j:=23) rfl (by kernel_rfl) hS));have hM62:=hM.1 hS0;obtain ⟨v62_116,e116,h116⟩:=hI.get (i:=14) (gM 14 rfl) d14;obtain rfl:=h116;exact aE [(116,_)] hU hmo hme hI hM (gM 15 rfl) rfl rfl (by kernel_rfl) ⟨e116,trivial⟩ (ar ao rfl (by exact ct (hb.from_ ((ah.rfl_.next E99).next hM62)) 10 rfl)) ah.rfl_ (rfl)
  constructor
  ·rintro S L' w63 hU hmo hme hI hM hC hS ⟨-⟩;have hS0:S 24=false:=(ai hC (j:=24) rfl (by kernel_rfl) (ai hC (j:=23) rfl (by kernel_rfl) hS));have hM63:=hM.1 hS0;have e7:=hI.1 7 (ea rfl);exact aE [(7,_)] hU hmo hme hI hM (gM 16 rfl) rfl rfl (by kernel_rfl) ⟨e7,trivial⟩ (aH (v:=.slice _ _ _) rfl) ah.rfl_ (rfl)
  constructor
  ·rintro S L' w64 hU hmo hme hI hM hC hS ⟨-⟩;have hS0:S 24=false:=(ai hC (j:=24) rfl (by kernel_rfl) (ai hC (j:=23) rfl (by kernel_rfl) (ai hC (j:=22) rfl (by kernel_rfl) (ai hC (j:=21) rfl (by kernel_rfl) (ai hC (j:=20) rfl (by kernel_rfl) (ai hC (j:=19) rfl (by kernel_rfl) (ai hC (j:=18) rfl (by kernel_rfl) hS)))))));have hM64:=hM.1 hS0;have e0:=hI.1 0 (ea rfl);exact aE [(0,_)] hU hmo hme hI hM (gM 17 rfl) rfl rfl (by kernel_rfl) ⟨e0,trivial⟩ (aH (v:=.pointer _) rfl) ah.rfl_ (rfl)
  constructor
  ·rintro S L' w65 hU hmo hme hI hM hC hS ⟨d17,-⟩;have hS0:S 24=false:=(ai hC (j:=24) rfl (by kernel_rfl) (ai hC (j:=23) rfl (by kernel_rfl) (ai hC (j:=22) rfl (by kernel_rfl) (ai hC (j:=21) rfl (by kernel_rfl) (ai hC (j:=20) rfl (by kernel_rfl) (ai hC (j:=19) rfl (by kernel_rfl) hS))))));have hM65:=hM.1 hS0;obtain ⟨v65_119,e119,h119⟩:=hI.get (i:=17) (gM 17 rfl) d17;obtain rfl:=h119;exact aE [(119,_)] hU hmo hme hI hM (gM 18 rfl) rfl rfl (by kernel_rfl) ⟨e119,trivial⟩ (av rfl) ah.rfl_ (rfl)
  constructor
  ·rintro S L' w66 hU hmo hme hI hM hC hS ⟨d18,-⟩;have hS0:S 24=false:=(ai hC (j:=24) rfl (by kernel_rfl) (ai hC (j:=23) rfl (by kernel_rfl) (ai hC (j:=22) rfl (by kernel_rfl) (ai hC (j:=21) rfl (by kernel_rfl) (ai hC (j:=20) rfl (by kernel_rfl) hS)))));have hM66:=hM.1 hS0;obtain ⟨v66_120,e120,h120⟩:=hI.get (i:=18) (gM 18 rfl) d18;obtain rfl:=h120;exact aE [(120,_)] hU hmo hme hI hM (gM 19 rfl) rfl rfl (by kernel_rfl) ⟨e120,trivial⟩ (ab aN rfl) ah.rfl_ (rfl)
  constructor
  ·rintro S L' w67 hU hmo hme hI hM hC hS ⟨d19,-⟩;have hS0:S 24=false:=(ai hC (j:=24) rfl (by kernel_rfl) (ai hC (j:=23) rfl (by kernel_rfl) (ai hC (j:=22) rfl (by kernel_rfl) (ai hC (j:=21) rfl (by kernel_rfl) hS))));have hM67:=hM.1 hS0;obtain ⟨v67_121,e121,h121⟩:=hI.get (i:=19) (gM 19 rfl) d19;obtain rfl:=h121;exact aE [(121,_)] hU hmo hme hI hM (gM 20 rfl) rfl rfl (by kernel_rfl) ⟨e121,trivial⟩ (ab aC rfl) ah.rfl_ (rfl)
  constructor
  ·rintro S L' w68 hU hmo hme hI hM hC hS ⟨d20,-⟩;have hS0:S 24=false:=(ai hC (j:=24) rfl (by kernel_rfl) (ai hC (j:=23) rfl (by kernel_rfl) (ai hC (j:=22) rfl (by kernel_rfl) hS)));have hM68:=hM.1 hS0;obtain ⟨v68_122,e122,h122⟩:=hI.get (i:=20) (gM 20 rfl) d20;obtain rfl:=h122;exact aE [(122,_)] hU hmo hme hI hM (gM 21 rfl) rfl rfl (by kernel_rfl) ⟨e122,trivial⟩ (ab dp rfl) ah.rfl_ (rfl)
  constructor
  ·rintro S L' w69 hU hmo hme hI hM hC hS ⟨d21,-⟩;have hS0:S 24=false:=(ai hC (j:=24) rfl (by kernel_rfl) (ai hC (j:=23) rfl (by kernel_rfl) hS));have hM69:=hM.1 hS0;obtain ⟨v69_123,e123,h123⟩:=hI.get (i:=21) (gM 21 rfl) d21;obtain rfl:=h123;exact aE [(123,_)] hU hmo hme hI hM (gM 22 rfl) rfl rfl (by kernel_rfl) ⟨e123,trivial⟩ (ar ao rfl (by exact ct (hb.from_ ((ah.rfl_.next E99).next hM69)) 18 rfl)) ah.rfl_ (rfl)
  constructor
  ·rintro S L' w70 hU hmo hme hI hM hC hS ⟨d3,d9,d15,d16,d22,-⟩;have hS0:S 24=false:=(ai hC (j:=24) rfl (by kernel_rfl) hS);have hM70:=hM.1 hS0;obtain ⟨v70_105,e105,h105⟩:=hI.get (i:=3) (gM 3 rfl) d3;obtain rfl:=h105;obtain ⟨v70_111,e111,h111⟩:=hI.get (i:=9) (gM 9 rfl) d9;obtain rfl:=h111;obtain ⟨v70_117,e117,h117⟩:=hI.get (i:=15) (gM 15 rfl) d15;obtain rfl:=h117;obtain ⟨v70_118,e118,h118⟩:=hI.get (i:=16) (gM 16 rfl) d16;obtain rfl:=h118;obtain ⟨v70_124,e124,h124⟩:=hI.get (i:=22) (gM 22 rfl) d22;obtain rfl:=h124;exact aE [(105,_),(111,_),(117,_),(118,_),(124,_)] hU hmo hme hI hM (gM 23 rfl) rfl rfl (by kernel_rfl) ⟨e105,e111,e117,e118,e124,trivial⟩ (cV (l:=[(0,.const (.int .i64 3)),(4,.tmp 105),(5,.tmp 111),(6,.tmp 117),(9,.tmp 118),(7,.tmp 124)]) (gQ _ _ _ _ _ _ _)) ah.rfl_ (rfl)
  constructor
  ·rintro S L' w71 hU hmo hme hI hM hC hS ⟨d0,d1,d23,d9,-⟩;have hS0:S 24=false:=hS;have hM71:=hM.1 hS0;obtain ⟨v71_102,e102,h102⟩:=hI.get (i:=0) (.head _) d0;obtain rfl:=h102;obtain ⟨v71_103,e103,h103⟩:=hI.get (i:=1) (.tail _ (.head _)) d1;obtain rfl:=h103;obtain ⟨v71_125,e125,h125⟩:=hI.get (i:=23) (gM 23 rfl) d23;obtain rfl:=h125;refine gI (al:=[.tmp 102,.tmp 103,.tmp 125]) [(102,_),(103,_),(125,_)] hU hI (gM 24 rfl) (by kernel_rfl) ⟨e102,e103,e125,trivial⟩ ic ((oq w0 Z T g p _ (h9.from_ (ah.rfl_.next hM71)) _ _ O oc L (hs9.from_ (ah.rfl_.next hM71)) (by omega) { zM with k:=3,ix:=p.s.next[k]-1,lt:=dJ p.s.b p.s.t p.s.es (p.s.next[k]-1),cm:=p.s.commit,rd:=p.s.round,E:=A99,c:=c99,es:=(p.s.es.drop (p.s.next[k]-p.s.b-1).toNat).take 16 } ((k:Int)+1) ⟨ei (ho99.kept_from (ah.rfl_.next hM71)) (Nat.zero_le _),hc9⟩).mono ?_);rintro v9 w2 ⟨rfl,hS2⟩;exact ⟨⟨fun h0=>(by rw [ld] at h0;cases h0),fun _=>hS2⟩,rfl,⟨fun _ _ _ h=>h,fun _ _ _ h=>h,fun _ _ _ h=>h,fun _ _ _ h=>h,fun _ _ _ h=>h,fun _ _ _ h=>h,fun _ _ _ h=>h,fun _ _ _ h=>h,fun _ _ _ h=>h,fun _ _ _ h=>h,fun _ _ _ h=>h,fun _ _ _ h=>h,fun _ _ _ h=>h,fun _ _ _ h=>h,fun _ _ _ h=>h,fun _ _ _ h=>h,fun _ _ _ h=>h,fun _ _ _ h=>h,fun _ _ _ h=>h,fun _ _ _ h=>h,fun _ _ _ h=>h,fun _ _ _ h=>h,fun _ _ _ h=>h,fun _ _ _ h=>h,fun _ _ _ h=>h,trivial⟩⟩
  exact trivial
 case hend=>
  intro w72 hM;obtain hS9:=hM.2 rfl;rintro v72_102 rfl v72_103 rfl v72_104 rfl v72_105 rfl v72_106 rfl v72_107 rfl v72_108 rfl v72_109 rfl v72_110 rfl v72_111 rfl v72_112 rfl v72_113 rfl v72_114 rfl v72_115 rfl v72_116 rfl v72_117 rfl v72_118 rfl v72_119 rfl v72_120 rfl v72_121 rfl v72_122 rfl v72_123 rfl v72_124 rfl v72_125 rfl v72_126 rfl;refine gy (cC (dV rfl ?_))
  have e9:p.send ((k:Int)+1)=p.tell (pl { ({ zM with k:=3,ix:=p.s.next[k]-1,lt:=dJ p.s.b p.s.t p.s.es (p.s.next[k]-1),cm:=p.s.commit,rd:=p.s.round,E:=A99,c:=c99,es:=(p.s.es.drop (p.s.next[k]-p.s.b-1).toNat).take 16 }:Msg) with t:=(k:Int)+1 }):=by
   unfold Sp.send;rw [pG (by rw [hpn];omega),hpn];rfl
  rw [e9];exact ⟨rfl,hS9⟩
theorem oW:aO prog 77=true:=by kernel_rfl
theorem um:aO prog 78=true:=by kernel_rfl
theorem f_:jF prog 22=some (99,3,32,(.agg #[.int .i64 0,.int .i64 0,.string ⟨#[]⟩])):=by kernel_rfl
theorem oV:j4 prog 24=some (.agg #[.int .i64 0,.int .i64 0,.slice none 0 0]):=by kernel_rfl
theorem mT:∀ (a0:Int) (a1:Int) (a2:ByteArray),prog.built 99 [(0,.int .i64 a0),(1,.int .i64 a1),(2,.string a2)]=some #[.int .i64 a0,.int .i64 a1,.string a2]:=by intros;kernel_rfl
theorem sE:aO prog 112=true:=by kernel_rfl
theorem cG:cK prog 29 2=some 2:=by kernel_rfl
theorem ek:cK prog 29 5=some 5:=by kernel_rfl
theorem cf:cK prog 29 12=some 14:=by kernel_rfl
theorem cy:dZ prog 26=some 1:=by kernel_rfl
theorem cu:cK prog 29 14=some 16:=by kernel_rfl
theorem bU:cK prog 29 17=some 19:=by kernel_rfl
theorem iW:dZ prog 27=some 1:=by kernel_rfl
theorem eQ:cK prog 29 4=some 4:=by kernel_rfl
theorem dX:cK prog 29 18=some 20:=by kernel_rfl
theorem mS:dZ prog 9=some 1:=by kernel_rfl
theorem dW:cK prog 29 19=some 21:=by kernel_rfl
theorem sD:aO prog 115=true:=by kernel_rfl
theorem jh (l:List Int) (p:Sp):(p.sends l).s=p.s:=by rw [ki]
theorem pF (l:List Int) (p:Sp):(p.sends l).out.length=p.out.length+l.length:=by rw [ki];simp
theorem vr {l:List Int} {i:Nat} (h:i<l.length) (p:Sp):p.sends (l.take (i+1))=(p.sends (l.take i)).send l[i]:=by
 rw [List.take_succ_eq_append_getElem h,mA];rfl
theorem lq (s:Rf):(dw s).length≤s.nodes.toNat:=qv _ _
theorem tz {s:Rf} {x:Int} (h:x∈dw s) (hn:0≤s.nodes):1≤x∧x≤s.nodes∧x≠s.id:=by
 have:=xy h;omega
theorem nY (w0:World) (Z:Nat→Prop) (T g:Nat) (p:Sp) (w:World) (h:aQ w0 Z w T g p) (hF:RfF p.s) (hr:p.s.role=2) (hl:p.out.length≤800) :
 Rt prog 84 [.pointer (some ⟨g,0,none⟩)] w (fun v w'=>v=.tuple #[]∧aQ w0 Z w' T g p.all):=by
 obtain ⟨tag,a,O,oc,L,hs⟩:=h.ex;obtain ⟨E,Ec,V,Vc,X,Xc,M,Mc,S,Sc,Q,Qc,LL⟩:=a;have hb:=hs.b;have hll:L.length=p.out.length:=by rw [←hs.m.l,List.length_map]
 have hn0:=hF.n;refine enter (n:=17) Tryz.func84 rfl rfl rfl (ak (af (mvp rfl (aa (av rfl) (aa (ab aN rfl) (ay oW (pR T g p.s _ _ _ (hb.from_ ah.rfl_) (by omega)) ?_))))));rintro v7 w1 ⟨⟨A7,c7,rfl,ho7a⟩,E7⟩
 have h7:=h.at_ (Z':=fun k=>Z k∨A7.map (·.block)=some k) (ah.rfl_.next E7) (fun k hk=>by
  have hz7:=((ah.rfl_.next E7)).size;rcases hk with e | e
  ·exact ⟨Nat.lt_of_lt_of_le (h.zw k e) hz7,.inl e⟩
  ·have:=d_ ho7a k e;exact ⟨this.2,.inr (by omega)⟩)
 have hB7:ah w w1:=(ah.rfl_.next E7);have ho7:=ho7a;obtain ⟨Z7,hZ7⟩:∃ Z7,Z7=fun k=>Z k∨A7.map (·.block)=some k:=⟨_,rfl⟩
 rw [←hZ7] at h7;have hzi:∀ k,Z k→Z7 k:=fun k hk=>by rw [hZ7];exact .inl hk
 have hzr:∀ k,A7.map (·.block)=some k→Z7 k:=fun k hk=>by rw [hZ7];exact .inr hk
 have hol:=lq p.s;have hnn:=hF.n;refine aa (bH bI rfl) (mvi rfl (aj (ag (aU (cM (G:=Nat) [3,10,11,12,13,14,15,16] (fun i=>[(9,.int .i64 (i:Nat))]) (fun i w'=>i≤(dw p.s).length∧aQ w1 Z7 w' T g (p.sends ((dw p.s).take i))) (fun i=>(dw p.s).length-i) (0) ⟨rfl,trivial⟩ ?_ ?_)))))
 ·exact ⟨Nat.zero_le _,h7⟩
 rintro i ρ2 w2 ⟨hi,h15⟩;refine ak (af (aa (bM rfl rfl) (aj (ag (ak (Bk rfl (fun Q3=>?_) (fun Q3=>?_)))))))
 ·have hi9:i<(dw p.s).length:=by omega
  obtain ⟨g7,rfl⟩:=eK ho7 (by omega);have ho8:=ew ho7 h15.fr (fun q hq e=>e (hzr q hq));have hc8:=gu (l:=dw p.s) ho8 i hi9;refine aM (ag (ak (aU (ak (af (aa (da bj rfl rfl (by omega)) (aa (ar ao rfl (by exact dP (ah.rfl_ (a:=w2)) hc8)) ?_)))))));refine asi rfl (aj (ag (af (mvp rfl (mvi rfl ?_)))));refine ay um (yL _ Z7 T g (p.sends ((dw p.s).take i)) _ (h15.from_ (ah.rfl_ (a:=w2))) (by rw [jh];exact hF) (by rw [jh];exact hr) (by rw [pF,List.length_take];omega) (dw p.s)[i] (by rw [jh];have:=tz (List.getElem_mem hi9) (by omega);omega)) ?_;rintro v15 w4 ⟨rfl,h16⟩;refine aj (bo (ag (af (aa (cl (b:=1) rfl rfl (by omega)) (mvi rfl (aj ?_))))));refine cp (i+1) ⟨(by first | rfl | (refine br ?_;omega)),trivial⟩ (by (iterate 18 refine bA rfl ?_);exact bN) ⟨?_,?_⟩
  ·exact ⟨by omega,by rw [vr hi9];exact h16.from_ (ah.rfl_ (a:=w4))⟩
  ·omega
 refine b_ (bf (bf (bL (cC (dV rfl ?_)))));obtain rfl:i=(dw p.s).length:=by omega
 rw [List.take_length] at h15;exact ⟨rfl,h.back hB7 h15 hzi⟩
theorem zC (s:Rf) (E U:Option Addr) (c u:Nat) (d:ByteArray) (w:World) (hF:RfF s) (hf:fA s=false) (hd:d.size≤4096) (h:cz w (.slice E s.es.length c) s.es) (hu:cz w (.slice U 1 u) [⟨a_ s+1,s.term,d⟩]) :
 Rt prog 112 [.agg #[.int .i64 s.b,.int .i64 s.t,.slice E s.es.length c],.slice U 1 u] w fun v w'=>(∃ A' c',v=.tuple #[.agg #[.int .i64 s.b,.int .i64 s.t,.slice A' (s.es.length+1) c'],.int .i64 0]∧w'.ownsRow w.heap.size 99 3 (.slice A' (s.es.length+1) c') (s.es.length+1) (dF (ec s d).es))∧ah w w':=
 (ue s.b s.t (.slice E s.es.length c) (.slice U 1 u) s.es [⟨a_ s+1,s.term,d⟩] w h hu (by show 1≤_;omega)).mono fun e w' ⟨L,he,hg,hF'⟩=>by
  have h1:=(hF.add hf d hd).1;have hl:=hF.last
  have h0:oS s.b s.t s.es [⟨a_ s+1,s.term,d⟩]=0:=by
   unfold oS;rw [if_pos hF.lg,if_pos ?_,if_pos ?_]
   ·have:=(hF.add hf d hd).2.2;have h2:=(eP h1).2.2.2;rw [this] at h2;exact h2
   ·unfold fA at hf;simp only [Bool.or_eq_false_iff,decide_eq_false_iff_not] at hf;show (fO _ (df s.b s.es) (de s.t s.es)&&true)=true;rw [Bool.and_true];unfold fO;have hte:=hF.te;have hlt:=hF.lt;simp only [Bool.and_eq_true,decide_eq_true_eq];exact ⟨⟨⟨rfl,fk ⟨by show 1≤a_ s+1;omega,by show a_ s+1≤_;omega⟩⟩,fk ⟨by show max (de s.t s.es) 0≤s.term;omega,hte.2⟩⟩,hd⟩
  rw [h0] at he hg;obtain ⟨v',hL,ho⟩:=hg.2 rfl;rw [List.length_append] at ho;obtain ⟨A',c',rfl⟩:=fw ho;subst hL;exact ⟨_,he,⟨A',c',rfl,ho⟩,hF'⟩
theorem AE (w0:World) (Z:Nat→Prop) (T g:Nat) (p:Sp) (w:World) (h:aQ w0 Z w T g p) (hF:RfF p.s) (hf:fA p.s=false) (d:ByteArray) (hd:d.size≤4096) :
 Rt prog 76 [.pointer (some ⟨g,0,none⟩),.string d] w (fun v w'=>v=.int .i64 (a_ p.s+1)∧aQ w0 Z w' T g ⟨ec p.s d,p.out⟩):=by
 obtain ⟨tag,a,O,oc,L,hs⟩:=h.ex;obtain ⟨E,Ec,V,Vc,X,Xc,M,Mc,S,Sc,Q,Qc,LL⟩:=a;have hb:=hs.b;have hll:L.length=p.out.length:=by rw [←hs.m.l,List.length_map]
 have hbl:=hF.last;have hlb:df p.s.b p.s.es=a_ p.s:=rfl;have he:cz w (.slice E p.s.es.length Ec) p.s.es:=hs.f.rd.e;have hnn:=hF.n;have hzw:=h.zw;refine enter (n:=42) Tryz.func76 rfl rfl rfl (ak (af (asi rfl (aj (ag (ak (af (mvp rfl (ay gB (kt T g p.s _ _ _ (hb.from_ ah.rfl_) (he.from_ ah.rfl_) hF.lg) ?_)))))))));rintro v11 w1 ⟨rfl,E11⟩;refine mvt rfl (aa (aZ rfl rfl) (aa (aZ rfl rfl) (asi rfl (asi rfl (aj (ag (ak (af (mvi rfl (aa (b0 rfl rfl (by omega)) (asi rfl ?_)))))))))));refine aj (ag (ak (ak ?_)));apply bQ 19 [(17,eqp _),(18,eqp _),(19,eqp _),(20,eqp _),(21,eqp _),(22,eqp _),(23,eqp _),(24,eqp _),(25,eqp _),(26,eqp _),(27,eqp _),(28,eqp _),(29,eqp _),(30,fun v w'=>∃ b,v=.slice (some ⟨b,0,none⟩) 1 1∧cz w' (.slice (some ⟨b,0,none⟩) 1 1) [⟨a_ p.s+1,p.s.term,d⟩]),(31,fun v w'=>∃ A' c',v=.tuple #[.agg #[.int .i64 p.s.b,.int .i64 p.s.t,.slice A' (p.s.es.length+1) c'],.int .i64 0]∧w'.ownsRow w.heap.size 99 3 (.slice A' (p.s.es.length+1) c') (p.s.es.length+1) (dF (ec p.s d).es)),(16,fun v w'=>∃ A' c',v=.tuple #[.agg #[.int .i64 p.s.b,.int .i64 p.s.t,.slice A' (p.s.es.length+1) c'],.int .i64 0]∧w'.ownsRow w.heap.size 99 3 (.slice A' (p.s.es.length+1) c') (p.s.es.length+1) (dF (ec p.s d).es)),(32,fun v w'=>∃ A' c',v=.agg #[.int .i64 p.s.b,.int .i64 p.s.t,.slice A' (p.s.es.length+1) c']∧w'.ownsRow w.heap.size 99 3 (.slice A' (p.s.es.length+1) c') (p.s.es.length+1) (dF (ec p.s d).es)),(33,eqp (.int .i64 0)),(7,fun v w'=>∃ b,v=.pointer (some ⟨b,0,none⟩)∧w.heap.size≤b∧Blk w' b 24 #[.int .i64 0,.int .i64 0,.slice none 0 0])] (by repeat first | exact cB | refine cA ?_ | refine bW ?_) (by kernel_rfl) (by kernel_rfl) ⟨aq _,aq _,aq _,aq _,aq _,aq _,aq _,aq _,aq _,aq _,aq _,aq _,aq _,(fun _ _ _ hF ⟨b,h1,h2⟩=>⟨b,h1,h2.from_ hF⟩),(fun _ _ _ hF ⟨a,b,h1,h2⟩=>⟨a,b,h1,h2.kept_from hF⟩),(fun _ _ _ hF ⟨a,b,h1,h2⟩=>⟨a,b,h1,h2.kept_from hF⟩),(fun _ _ _ hF ⟨a,b,h1,h2⟩=>⟨a,b,h1,h2.kept_from hF⟩),aq _,(fun _ _ _ hF ⟨b,h1,h2,h3⟩=>⟨b,h1,h2,h3.from_ hF⟩),trivial⟩
 case hop=>
  constructor
  ·rintro-w3 D3;exact au (aH (v:=.pointer _) rfl) rfl
  constructor
  ·rintro-w4 D4;rintro _ rfl;exact au (av rfl) rfl
  constructor
  ·rintro-w5 D5;rintro _ rfl;exact au (ab aC rfl) rfl
  constructor
  ·rintro-w6 D6;rintro _ rfl;exact au (ab bq rfl) rfl
  constructor
  ·rintro-w7 D7;rintro _ rfl;exact au (aG (cs:=[.int .i64 p.s.b,.int .i64 p.s.t,.slice E p.s.es.length Ec]) dd cT rfl (js (hb.from_ ((ah.rfl_.next E11).next D7)))) rfl
  constructor
  ·rintro-w8 D8;exact au (aH (v:=.int _ _) rfl) rfl
  constructor
  ·rintro-w9 D9;exact au (aH (v:=.pointer _) rfl) rfl
  constructor
  ·rintro-w10 D10;rintro _ rfl;exact au (av rfl) rfl
  constructor
  ·rintro-w11 D11;rintro _ rfl;exact au (ab aC rfl) rfl
  constructor
  ·rintro-w12 D12;rintro _ rfl;exact au (ab bm rfl) rfl
  constructor
  ·rintro-w13 D13;rintro _ rfl;exact au (ar ao rfl (by exact ct (hb.from_ ((ah.rfl_.next E11).next D13)) 3 rfl)) rfl
  constructor
  ·rintro-w14 D14;exact au (aH (v:=.string _) rfl) rfl
  constructor
  ·rintro-w15 D15;rintro _ rfl _ rfl _ rfl;exact au (cV (l:=[(0,.tmp 22),(1,.tmp 27),(2,.tmp 28)]) (mT _ _ _)) rfl
  constructor
  ·rintro-w16 D16;rintro _ rfl;exact mJ (od (l:=[(0,.tmp 29)]) (cells:=#[.int .i64 (a_ p.s+1),.int .i64 p.s.term,.string d]) f_ rfl rfl (by show Instr.fill _ _ [(0,Value.agg #[.int .i64 (a_ p.s+1),.int .i64 p.s.term,.string d])]=_;kernel_rfl)) (ah.rfl_.new _) ⟨_,rfl,x7 (e:=⟨a_ p.s+1,p.s.term,d⟩) (Blk.new _ _ _)⟩
  constructor
  ·rintro-w17 D17;rintro _ rfl v17_30 ⟨b30,rfl,hl30⟩;refine fJ sE ((zC p.s E _ Ec 1 d _ hF hf hd (he.from_ ((ah.rfl_.next E11).next D17)) hl30).mono ?_);rintro v w9 ⟨⟨a,b,rfl,ho⟩,hF9⟩;exact ⟨hF9,a,b,rfl,ei ho (((ah.rfl_.next E11).next D17)).size⟩
  constructor
  ·rintro-w18 D18;rintro v18_31 ⟨A31,c31,rfl,ho31⟩;exact au (aH (v:=.tuple #[_,_]) rfl) ⟨_,_,rfl,ho31⟩
  constructor
  ·rintro-w19 D19;rintro v19_16 ⟨A16,c16,rfl,ho16⟩;exact au (aZ rfl rfl) ⟨_,_,rfl,ho16⟩
  constructor
  ·rintro-w20 D20;rintro v20_16 ⟨A16,c16,rfl,ho16⟩;exact au (aZ rfl rfl) rfl
  constructor
  ·rintro-w21 D21;exact mJ (rM oV) (ah.rfl_.new _) ⟨_,rfl,(((ah.rfl_.next E11).next D21)).size,Blk.new _ _ _⟩
  exact trivial
 case hend=>
  intro w22 D22;rintro _ rfl _ rfl _ rfl _ rfl _ rfl _ rfl _ rfl _ rfl _ rfl _ rfl _ rfl _ rfl _ rfl v30 ⟨b30,rfl,hl30⟩ v31 ⟨A31,c31,rfl,ho31⟩ v16 ⟨A16,c16,rfl,ho16⟩ v32 ⟨A32,c32,rfl,ho32⟩ v33 rfl v7 ⟨b7,rfl,hg7,hk7⟩;show St ..;refine cg (vs:=[_,_,_]) cT rfl rfl (by simp [Value.oneCell']) (hk7) rfl ?_;intro w23 O3 P3;have ho9:=gi ho32 O3 (kU ho32 hk7 (by decide));refine asi rfl (aj (ag (ak (af (mvi rfl (aa (c6 (bg rfl rfl) rfl) (aj (ag (aS rfl (af (mvp rfl (aa (aG (cs:=[.int .i64 p.s.b,.int .i64 p.s.t,.slice A32 (p.s.es.length+1) c32]) dd cT rfl ((P3.from_ ah.rfl_).whole)) ?_))))))))))));refine aa (av rfl) (aa (ab aC rfl) (aa (ab bq rfl) ?_));have hB5:ah w w23:=(((ah.rfl_.next E11).next D22).only O3 (hg7));have ho5:=ho9.kept_from ah.rfl_;refine pD (es:=(ec p.s d).es) (by show _=(p.s.es++[_]).length;rw [List.length_append];rfl) cT rfl rfl (hb.from_ (((ah.rfl_.next E11).next D22).only O3 (hg7))) ?_;intro w24 O5 P5;refine aj (ag (ak (af (mvi rfl (asi rfl (aj (ag (aB (bn (v:=.int _ _) rfl rfl ?_)))))))));have hf5:=(hs.f.but (c:=0) (ah.toChg hB5)).log p.s.b p.s.t (l:=(ec p.s d).es) (by show _=(p.s.es++[_]).length;rw [List.length_append];rfl) (ei ho5 (Nat.zero_le _)) (fun q hq=>dB (d_ ho32 q hq).1);exact ⟨rfl,((h.put hs (ah.toChg hB5) (.inl (by decide)) hf5 (O5.toChg rfl) P5).2).from_ (ah.rfl_ (a:=w24))⟩
theorem p0 (w0:World) (Z:Nat→Prop) (T g:Nat) (p:Sp) (w:World) (h:aQ w0 Z w T g p) (tm:Int) :
 Rt prog 99 [.pointer (some ⟨g,0,none⟩),.int .i64 tm] w (fun v w'=>v=.tuple #[]∧aQ w0 Z w' T g ⟨bS p.s tm,p.out⟩):=by
 obtain ⟨s,out⟩:=p;obtain ⟨tag,a,O,oc,L,hs⟩:=h.ex;obtain ⟨E,Ec,V,Vc,X,Xc,M,Mc,S,Sc,Q,Qc,LL⟩:=a;have hb:Blk w g T (rfV s (⟨E,Ec,V,Vc,X,Xc,M,Mc,S,Sc,Q,Qc,LL⟩:Ra)++[Value.slice O L.length oc]).toArray:=hs.b
 have hll:L.length=out.length:=by
  have h9:=congrArg List.length hs.m.l;rw [List.length_map] at h9;exact h9
 have hB0:ah w w:=ah.rfl_;refine enter (n:=56) Tryz.func99 rfl rfl rfl (ak (af (mvp rfl (mvp rfl (aa (av rfl) (aa (ab aC rfl) (aa (ab cG rfl) (cj (s':=({ s with role:=0 }:Rf)) (a':=(⟨E,Ec,V,Vc,X,Xc,M,Mc,S,Sc,Q,Qc,LL⟩:Ra)) (v:=.int _ _) bF rfl rfl rfl ((hb.from_ ah.rfl_)) (by exact ⟨by decide,rfl⟩) ?_))))))));intro w1 O0_0 P0_0;have hC1:Chg (fun k=>k=g) w w1:=(ah.toChg hB0).only O0_0 rfl;refine aa (av rfl) (aa (ab aC rfl) (aa (ab ek rfl) (cj (s':=({ s with role:=0,leader:=0 }:Rf)) (a':=(⟨E,Ec,V,Vc,X,Xc,M,Mc,S,Sc,Q,Qc,LL⟩:Ra)) (v:=.int _ _) bF rfl rfl rfl (P0_0) (by exact ⟨by decide,rfl⟩) ?_)));intro w2 O0_1 P0_1;replace hC1:=hC1.only O0_1 rfl;refine aj (ag (ak (af (mvp rfl (mvp rfl (mvp rfl (mvp rfl (mvp rfl (aa (av rfl) (aa (ab aC rfl) (aa (ab cf rfl) ?_)))))))))));have hM0:ah _ w2:=ah.rfl_;refine cj (s':=({ s with role:=0,leader:=0,votes:=[] }:Rf)) (a':=(⟨E,Ec,none,0,X,Xc,M,Mc,S,Sc,Q,Qc,LL⟩:Ra)) (v:=.slice _ _ _) cy rfl rfl rfl ((P0_1.from_ ah.rfl_)) (by exact ⟨by decide,rfl⟩) ?_;intro w3 O1_0 P1_0;replace hC1:=(hC1.next (ah.toChg hM0)).only O1_0 rfl;refine aa (av rfl) (aa (ab aC rfl) (aa (ab bY rfl) (cj (s':=({ s with role:=0,leader:=0,votes:=[],next:=[] }:Rf)) (a':=(⟨E,Ec,none,0,none,0,M,Mc,S,Sc,Q,Qc,LL⟩:Ra)) (v:=.slice _ _ _) cy rfl rfl rfl (P1_0) (by exact ⟨by decide,rfl⟩) ?_)));intro w4 O1_1 P1_1;replace hC1:=hC1.only O1_1 rfl;refine aa (av rfl) (aa (ab aC rfl) (aa (ab cu rfl) (cj (s':=({ s with role:=0,leader:=0,votes:=[],next:=[],mtch:=[] }:Rf)) (a':=(⟨E,Ec,none,0,none,0,none,0,S,Sc,Q,Qc,LL⟩:Ra)) (v:=.slice _ _ _) cy rfl rfl rfl (P1_1) (by exact ⟨by decide,rfl⟩) ?_)));intro w5 O1_2 P1_2;replace hC1:=hC1.only O1_2 rfl;refine aa (av rfl) (aa (ab aC rfl) (aa (ab cN rfl) (cj (s':=({ s with role:=0,leader:=0,votes:=[],next:=[],mtch:=[],sent:=[] }:Rf)) (a':=(⟨E,Ec,none,0,none,0,none,0,none,0,Q,Qc,LL⟩:Ra)) (v:=.slice _ _ _) cy rfl rfl rfl (P1_2) (by exact ⟨by decide,rfl⟩) ?_)));intro w6 O1_3 P1_3;replace hC1:=hC1.only O1_3 rfl;refine aa (av rfl) (aa (ab aC rfl) (aa (ab bU rfl) (cj (s':=({ s with role:=0,leader:=0,votes:=[],next:=[],mtch:=[],sent:=[],reads:=[] }:Rf)) (a':=(⟨E,Ec,none,0,none,0,none,0,none,0,none,0,[]⟩:Ra)) (v:=.slice _ _ _) iW rfl rfl rfl (P1_3) (by exact ⟨by decide,rfl⟩) ?_)));intro w7 O1_4 P1_4;replace hC1:=hC1.only O1_4 rfl;refine aj (ag (ak (af (mvi rfl (mvp rfl (aa (av rfl) (aa (ab aC rfl) (aa (ab bm rfl) (aa (ar ao rfl (by exact (show _=some (Value.int .i64 s.term) from ct (P1_4.from_ ah.rfl_) 3 rfl))) ?_)))))))));refine aa (cn rfl rfl) (aj (ag (Bk rfl (fun Q8=>?_) (fun Q8=>?_))))
 ·refine af (mvp rfl (mvp rfl (mvp rfl (mvp rfl (mvi rfl (aa (av rfl) (aa (ab aC rfl) (aa (ab bm rfl) ?_))))))));have hM0:ah _ w7:=ah.rfl_;refine cj (s':=({ s with role:=0,leader:=0,votes:=[],next:=[],mtch:=[],sent:=[],reads:=[],term:=tm }:Rf)) (a':=(⟨E,Ec,none,0,none,0,none,0,none,0,none,0,[]⟩:Ra)) (v:=.int _ _) bF rfl rfl rfl ((P1_4.from_ ah.rfl_)) (by exact ⟨by decide,rfl⟩) ?_;intro w9 O3_0 P3_0;replace hC1:=(hC1.next (ah.toChg hM0)).only O3_0 rfl;refine aa (av rfl) (aa (ab aC rfl) (aa (ab eQ rfl) (cj (s':=({ s with role:=0,leader:=0,votes:=[],next:=[],mtch:=[],sent:=[],reads:=[],term:=tm,vote:=0 }:Rf)) (a':=(⟨E,Ec,none,0,none,0,none,0,none,0,none,0,[]⟩:Ra)) (v:=.int _ _) bF rfl rfl rfl (P3_0) (by exact ⟨by decide,rfl⟩) ?_)));intro w10 O3_1 P3_1;replace hC1:=hC1.only O3_1 rfl;refine aa (av rfl) (aa (ab aC rfl) (aa (ab dX rfl) (cj (s':=({ s with role:=0,leader:=0,votes:=[],next:=[],mtch:=[],sent:=[],reads:=[],term:=tm,vote:=0,part:=⟨#[]⟩ }:Rf)) (a':=(⟨E,Ec,none,0,none,0,none,0,none,0,none,0,[]⟩:Ra)) (v:=.string _) mS rfl rfl rfl (P3_1) (by exact ⟨by decide,rfl⟩) ?_)));intro w11 O3_2 P3_2;replace hC1:=hC1.only O3_2 rfl;refine aa (av rfl) (aa (ab aC rfl) (aa (ab dW rfl) (cj (s':=({ s with role:=0,leader:=0,votes:=[],next:=[],mtch:=[],sent:=[],reads:=[],term:=tm,vote:=0,part:=⟨#[]⟩,partOf:=0 }:Rf)) (a':=(⟨E,Ec,none,0,none,0,none,0,none,0,none,0,[]⟩:Ra)) (v:=.int _ _) bF rfl rfl rfl (P3_2) (by exact ⟨by decide,rfl⟩) ?_)));intro w12 O3_3 P3_3;replace hC1:=hC1.only O3_3 rfl;refine aj (cC (dV rfl (⟨rfl,?_⟩)));have hf1:=hs.f.alone;unfold bS;simp only
  first
   |(rw [if_pos (show s.term<tm by omega)];exact (h.set (s':=({ s with role:=0,leader:=0,votes:=[],next:=[],mtch:=[],sent:=[],reads:=[],term:=tm,vote:=0,part:=⟨#[]⟩,partOf:=0 }:Rf)) (a':=(⟨E,Ec,none,0,none,0,none,0,none,0,none,0,[]⟩:Ra)) hs hC1 (bh.same hf1 rfl rfl rfl rfl rfl rfl) P3_3).2)
   |(rw [if_neg (show ¬ s.term<tm by omega)];exact (h.set (s':=({ s with role:=0,leader:=0,votes:=[],next:=[],mtch:=[],sent:=[],reads:=[] }:Rf)) (a':=(⟨E,Ec,none,0,none,0,none,0,none,0,none,0,[]⟩:Ra)) hs (hC1.next (ah.toChg ah.rfl_)) (bh.same hf1 rfl rfl rfl rfl rfl rfl) (P1_4.from_ ah.rfl_)).2)
 refine aM (cC (dV rfl (⟨rfl,?_⟩)));have hf1:=hs.f.alone;unfold bS;simp only
 first
  |(rw [if_pos (show s.term<tm by omega)];exact (h.set (s':=({ s with role:=0,leader:=0,votes:=[],next:=[],mtch:=[],sent:=[],reads:=[],term:=tm,vote:=0,part:=⟨#[]⟩,partOf:=0 }:Rf)) (a':=(⟨E,Ec,none,0,none,0,none,0,none,0,none,0,[]⟩:Ra)) hs hC1 (bh.same hf1 rfl rfl rfl rfl rfl rfl) P3_3).2)
  |(rw [if_neg (show ¬ s.term<tm by omega)];exact (h.set (s':=({ s with role:=0,leader:=0,votes:=[],next:=[],mtch:=[],sent:=[],reads:=[] }:Rf)) (a':=(⟨E,Ec,none,0,none,0,none,0,none,0,none,0,[]⟩:Ra)) hs (hC1.next (ah.toChg ah.rfl_)) (bh.same hf1 rfl rfl rfl rfl rfl rfl) (P1_4.from_ ah.rfl_)).2)
theorem Bz (A:Option Addr) (c:Nat) (L:List Int) (w:World) (hr:dE iV w A L) (hf:Fit L):Rt prog 115 [.slice A L.length c] w fun v w'=>v=.tuple #[.int .i64 (med L),.int .i64 0]∧ah w w':=
 (xU A c L w hr).mono fun _ _ h=>⟨h.1.elim (fun e=>e.2) (fun e=>absurd hf e.1),h.2⟩
theorem tp (l:List Int) (k:Nat) (v:Int):(l.map iV).set k (iV v)=(l.set k v).map iV:=by rw [List.map_set]
theorem vq (w0:World) (Z:Nat→Prop) (T g:Nat) (s:Rf) (out:List Msg) (w:World) (h:aQ w0 Z w T g ⟨s,out⟩) (tag:Nat→Nat) (a:Ra) (O:Option Addr) (oc:Nat) (L:List Msg) (hs:gn w Z T g tag ⟨s,out⟩ a O oc L) (hF:RfF s) (hr:s.role=2) :
 Rt prog 79 [.pointer (some ⟨g,0,none⟩)] w (fun v w'=>v=.tuple #[]∧aQ w0 Z w' T g ⟨ck s,out⟩∧∃ tag',gn w' Z T g tag' ⟨ck s,out⟩ a O oc L):=by
 obtain ⟨E,Ec,V,Vc,X,Xc,M,Mc,S,Sc,Q,Qc,LL⟩:=a;have hb:Blk w g T (rfV s (⟨E,Ec,V,Vc,X,Xc,M,Mc,S,Sc,Q,Qc,LL⟩:Ra)++[Value.slice O L.length oc]).toArray:=hs.b
 have hll:L.length=out.length:=by
  have h9:=congrArg List.length hs.m.l;rw [List.length_map] at h9;exact h9
 have hbl:=hF.last;have hlb:df s.b s.es=a_ s:=rfl;have he:cz w (.slice E s.es.length Ec) s.es:=hs.f.rd.e;have hnn:=hF.n;have hid:=hF.i;have hzw:=h.zw;obtain ⟨k,hk⟩:∃ k:Nat,s.id=(k:Int)+1:=⟨(s.id-1).toNat,by omega⟩;have hMl:s.mtch.length=s.nodes.toNat:=by rw [hF.ma.1,gx hr]
 have hkM:k<s.mtch.length:=by omega
 obtain ⟨gM,rfl⟩:∃ q,M=some ⟨q,0,none⟩:=eK (n:=s.mtch.length) (hs.f.m (by decide)).1 (by omega);have hMo:w.ownsRow 0 3 1 (.slice (some ⟨gM,0,none⟩) s.mtch.length Mc) s.mtch.length (s.mtch.map iV):=(hs.f.m (by decide)).1;have hMc:=gu (l:=s.mtch) hMo k hkM;have hFs:=hF.settle hr;have hp1:dc s.mtch s.id (a_ s)=s.mtch.set k (a_ s):=by unfold dc;rw [show (s.id-1).toNat=k by omega]
 have hfit:Fit (dc s.mtch s.id (a_ s)):=⟨by rw [eD];omega,by rw [eD];omega,fun x hx=>(hFs.ma.2 x hx).1⟩;have hmed:0≤med (dc s.mtch s.id (a_ s))∧med (dc s.mtch s.id (a_ s))≤a_ s:=hFs.ma.2 _ (lZ hfit.1);have hco:=hF.co;refine enter (n:=57) Tryz.func79 rfl rfl rfl (ak ?_);apply bQ 16 [(5,eqp _),(6,eqp _),(7,eqp _),(8,eqp _),(9,eqp _),(10,eqp _),(11,eqp _),(12,eqp _),(13,eqp _),(14,eqp _),(15,eqp (.int .i64 (k:Nat))),(16,eqp _),(17,eqp _),(4,eqp _),(18,eqp _),(19,eqp _)] (by repeat first | exact cB | refine cA ?_ | refine bW ?_) (by kernel_rfl) (by kernel_rfl) ⟨aq _,aq _,aq _,aq _,aq _,aq _,aq _,aq _,aq _,aq _,aq _,aq _,aq _,aq _,aq _,aq _,trivial⟩
 case hop=>
  constructor
  ·rintro-w2 D2;exact au (aH (v:=.pointer _) rfl) rfl
  constructor
  ·rintro-w3 D3;rintro _ rfl;exact au (av rfl) rfl
  constructor
  ·rintro-w4 D4;rintro _ rfl;exact au (ab aC rfl) rfl
  constructor
  ·rintro-w5 D5;rintro _ rfl;exact au (ab cu rfl) rfl
  constructor
  ·rintro-w6 D6;rintro _ rfl;exact au (ar bc rfl (by exact ct (hb.from_ (ah.rfl_.next D6)) 16 rfl)) rfl
  constructor
  ·rintro-w7 D7;exact au (aH (v:=.pointer _) rfl) rfl
  constructor
  ·rintro-w8 D8;rintro _ rfl;exact au (av rfl) rfl
  constructor
  ·rintro-w9 D9;rintro _ rfl;exact au (ab aC rfl) rfl
  constructor
  ·rintro-w10 D10;rintro _ rfl;exact au (ab bZ rfl) rfl
  constructor
  ·rintro-w11 D11;rintro _ rfl;exact au (ar ao rfl (by exact ct (hb.from_ (ah.rfl_.next D11)) 0 rfl)) rfl
  constructor
  ·rintro-w12 D12;rintro _ rfl;exact au (fT (ef rfl rfl (by omega)) (br (by omega))) rfl
  constructor
  ·rintro-w13 D13;exact au (aH (v:=.pointer _) rfl) rfl
  constructor
  ·rintro-w14 D14;rintro _ rfl;refine fJ gB ((kt T g s _ _ _ (hb.from_ (ah.rfl_.next D14)) (he.from_ (ah.rfl_.next D14)) hF.lg).mono ?_);rintro v _ ⟨rfl,E14'⟩;exact ⟨E14',rfl⟩
  constructor
  ·rintro-w15 D15;rintro _ rfl;exact au (aH (v:=.tuple _) rfl) rfl
  constructor
  ·rintro-w16 D16;rintro _ rfl;exact au (aZ rfl rfl) rfl
  constructor
  ·rintro-w17 D17;rintro _ rfl;exact au (aZ rfl rfl) rfl
  exact trivial
 case hend=>
  intro w18 D18;rintro _ rfl _ rfl _ rfl _ rfl _ rfl _ rfl _ rfl _ rfl _ rfl _ rfl v15 rfl _ rfl _ rfl _ rfl _ rfl _ rfl;show St ..;refine aa (da bj rfl rfl (by omega)) ?_;have hB0:ah w w18:=(ah.rfl_.next D18);refine kP (xs:=s.mtch.map iV) bF rfl rfl rfl (hMo.kept_from (ah.rfl_.next D18)) (by omega) ?_;intro w19 O0 P0
  have hMo1:(w19).ownsRow 0 3 1 (.slice (some ⟨gM,0,none⟩) (dc s.mtch s.id (a_ s)).length Mc) (dc s.mtch s.id (a_ s)).length ((dc s.mtch s.id (a_ s)).map iV):=by
   rw [eD,hp1,←tp];exact P0
  have hgM7:tag gM=3:=(hs.f.m (by decide)).2 gM rfl;have hC1:Chg (fun k=>tag k=3) w w19:=(ah.toChg hB0).only O0 hgM7
  have hb1:Blk w19 g T (rfV ({ s with mtch:=dc s.mtch s.id (a_ s) }:Rf) (⟨E,Ec,V,Vc,X,Xc,some ⟨gM,0,none⟩,Mc,S,Sc,Q,Qc,LL⟩:Ra)++[Value.slice O L.length oc]).toArray:=by
   have h9:=(hb.from_ hB0).only O0 (fun e=>by have:=hs.gc;rw [e,hgM7] at this;cases this)
   have e9:rfV ({ s with mtch:=dc s.mtch s.id (a_ s) }:Rf) (⟨E,Ec,V,Vc,X,Xc,some ⟨gM,0,none⟩,Mc,S,Sc,Q,Qc,LL⟩:Ra)=rfV s (⟨E,Ec,V,Vc,X,Xc,some ⟨gM,0,none⟩,Mc,S,Sc,Q,Qc,LL⟩:Ra):=by
    unfold rfV;simp only [eD]
   rw [e9];exact h9
  have hf1:=(hs.f.but hC1).mtch (l:=dc s.mtch s.id (a_ s)) rfl hMo1 (fun q hq=>by cases hq;rw [cQ (dt hMo _ rfl)];exact hgM7);obtain ⟨hs1,h1⟩:=h.put hs hC1 (.inl (by decide)) hf1 (Chg.rfl_ (U:=fun k=>k=g)) hb1;have he1:cz w19 (.slice E s.es.length Ec) s.es:=hs1.f.rd.e;refine aj (ag (ak (af (mvp rfl (aa (av rfl) (aa (ab aC rfl) (aa (ab cu rfl) (aa (ar bc rfl (by exact ct (hb1.from_ (ah.rfl_ (a:=w19))) 16 rfl)) ?_))))))));refine ay sD (Bz (some ⟨gM,0,none⟩) Mc (dc s.mtch s.id (a_ s)) _ ((dE.own hMo1).2.from_ (ah.rfl_ (a:=w19))) hfit) ?_;rintro v27 w20 ⟨rfl,E27⟩;refine mvt rfl (aa (aZ rfl rfl) (aa (aZ rfl rfl) (asi rfl (asi rfl (aj (ag (ak ?_)))))));by_cases hgt:s.commit<med (dc s.mtch s.id (a_ s))
  ·apply bQ 22 [(30,eqp _),(31,eqp _),(32,eqp _),(33,eqp _),(34,eqp _),(35,eqp _),(36,eqp _),(37,eqp _),(38,eqp _),(39,eqp _),(40,eqp _),(41,eqp _),(42,eqp _),(43,eqp _),(44,eqp _),(45,eqp _),(46,eqp _),(47,eqp _),(48,eqp _),(49,eqp _),(50,eqp _),(51,eqp _)] (by repeat first | exact cB | refine cA ?_ | refine bW ?_) (by kernel_rfl) (by kernel_rfl) ⟨aq _,aq _,aq _,aq _,aq _,aq _,aq _,aq _,aq _,aq _,aq _,aq _,aq _,aq _,aq _,aq _,aq _,aq _,aq _,aq _,aq _,aq _,trivial⟩
   case hop=>
    constructor
    ·rintro-w22 D22;exact au (aH (v:=.int _ _) rfl) rfl
    constructor
    ·rintro-w23 D23;rintro _ rfl;exact au (c6 (bg rfl rfl) rfl) rfl
    constructor
    ·rintro-w24 D24;rintro _ rfl;exact au (aH (v:=.bool _) rfl) rfl
    constructor
    ·rintro-w25 D25;rintro _ rfl;exact dC rfl (aH (v:=.int _ _) rfl) rfl
    constructor
    ·rintro-w26 D26;rintro _ rfl;exact dC rfl (aH (v:=.pointer _) rfl) rfl
    constructor
    ·rintro-w27 D27;rintro _ rfl _ rfl;exact dC rfl (av rfl) rfl
    constructor
    ·rintro-w28 D28;rintro _ rfl _ rfl;exact dC rfl (ab aC rfl) rfl
    constructor
    ·rintro-w29 D29;rintro _ rfl _ rfl;exact dC rfl (ab dh rfl) rfl
    constructor
    ·rintro-w30 D30;rintro _ rfl _ rfl;exact dC rfl (ar ao rfl (by exact (show _=some (Value.int .i64 s.commit) from ct (hb1.from_ (((ah.rfl_ (a:=w19)).next E27).next D30)) 10 rfl))) rfl
    constructor
    ·rintro-w31 D31;rintro _ rfl _ rfl _ rfl;exact dC rfl (c6 (cn rfl rfl) (decide_eq_true hgt)) rfl
    constructor
    ·rintro-w32 D32;rintro _ rfl _ rfl;exact au (aL (v:=.bool _) rfl rfl) rfl
    constructor
    ·rintro-w33 D33;rintro _ rfl;exact au (aH (v:=.bool _) rfl) rfl
    constructor
    ·rintro-w34 D34;rintro _ rfl;exact dC rfl (aH (v:=.pointer _) rfl) rfl
    constructor
    ·rintro-w35 D35;rintro _ rfl;exact dC rfl (aH (v:=.int _ _) rfl) rfl
    constructor
    ·rintro-w36 D36;rintro _ rfl _ rfl _ rfl;refine xz rfl oZ ((ru T g ({ s with mtch:=dc s.mtch s.id (a_ s) }:Rf) _ _ _ (hb1.from_ (((ah.rfl_ (a:=w19)).next E27).next D36)) (he1.from_ (((ah.rfl_ (a:=w19)).next E27).next D36)) hF.lg (med (dc s.mtch s.id (a_ s))) (by show s.b≤_∧_≤a_ s;omega)).mono ?_);rintro v _ ⟨rfl,E36'⟩;exact ⟨E36',rfl⟩
    constructor
    ·rintro-w37 D37;rintro _ rfl;exact dC rfl (aH (v:=.pointer _) rfl) rfl
    constructor
    ·rintro-w38 D38;rintro _ rfl _ rfl;exact dC rfl (av rfl) rfl
    constructor
    ·rintro-w39 D39;rintro _ rfl _ rfl;exact dC rfl (ab aC rfl) rfl
    constructor
    ·rintro-w40 D40;rintro _ rfl _ rfl;exact dC rfl (ab bm rfl) rfl
    constructor
    ·rintro-w41 D41;rintro _ rfl _ rfl;exact dC rfl (ar ao rfl (by exact (show _=some (Value.int .i64 s.term) from ct (hb1.from_ (((ah.rfl_ (a:=w19)).next E27).next D41)) 3 rfl))) rfl
    constructor
    ·rintro-w42 D42;rintro _ rfl _ rfl _ rfl;exact dC rfl (bg rfl rfl) rfl
    constructor
    ·rintro-w43 D43;rintro _ rfl _ rfl;exact au (aL (v:=.bool _) rfl rfl) rfl
    exact trivial
   case hend=>
    intro w44 D44;rintro _ rfl _ rfl _ rfl _ rfl _ rfl _ rfl _ rfl _ rfl _ rfl _ rfl _ rfl _ rfl _ rfl _ rfl _ rfl _ rfl _ rfl _ rfl _ rfl _ rfl _ rfl _ rfl;show St ..;refine aj (ag (Bk rfl (fun Q45=>?_) (fun Q45=>?_)))
    ·refine af (mvp rfl (mvi rfl (aa (av rfl) (aa (ab aC rfl) (aa (ab dh rfl) ?_)))));have hB3:ah _ w44:=(((ah.rfl_ (a:=w19)).next E27).next D44);refine cj (s':=({ s with mtch:=dc s.mtch s.id (a_ s),commit:=med (dc s.mtch s.id (a_ s)) }:Rf)) (a':=(⟨E,Ec,V,Vc,X,Xc,some ⟨gM,0,none⟩,Mc,S,Sc,Q,Qc,LL⟩:Ra)) (v:=.int _ _) bF rfl rfl rfl ((hb1.from_ (((ah.rfl_ (a:=w19)).next E27).next D44))) (by exact ⟨by decide,rfl⟩) ?_;intro w46 O3_0 P3_0;refine aj (cC (dV rfl ?_))
     first
      |(have e9:ck s=({ s with mtch:=dc s.mtch s.id (a_ s),commit:=med (dc s.mtch s.id (a_ s)) }:Rf):=by unfold ck;simp only;rw [if_pos ⟨hgt,by assumption⟩]
        rw [e9];obtain ⟨hs2,h2⟩:=h1.set (s':=({ s with mtch:=dc s.mtch s.id (a_ s),commit:=med (dc s.mtch s.id (a_ s)) }:Rf)) (a':=(⟨E,Ec,V,Vc,X,Xc,some ⟨gM,0,none⟩,Mc,S,Sc,Q,Qc,LL⟩:Ra)) hs1 ((ah.toChg hB3).only O3_0 rfl) (bh.same hs1.f rfl rfl rfl rfl rfl rfl) P3_0;exact ⟨rfl,h2,_,hs2⟩)
      |(have e9:ck s=({ s with mtch:=dc s.mtch s.id (a_ s) }:Rf):=by unfold ck;simp only;rw [if_neg (fun e=>by first | exact absurd e.2 (by assumption) | exact absurd e.1 hgt)]
        rw [e9];exact ⟨rfl,h1.from_ (ah.rfl_ (a:=w46)),_,hs1.from_ (ah.rfl_ (a:=w46))⟩)
    refine aM (cC (dV rfl ?_))
    first
     |(have e9:ck s=({ s with mtch:=dc s.mtch s.id (a_ s),commit:=med (dc s.mtch s.id (a_ s)) }:Rf):=by unfold ck;simp only;rw [if_pos ⟨hgt,by assumption⟩]
       rw [e9];obtain ⟨hs2,h2⟩:=h1.set (s':=({ s with mtch:=dc s.mtch s.id (a_ s),commit:=med (dc s.mtch s.id (a_ s)) }:Rf)) (a':=(⟨E,Ec,V,Vc,X,Xc,some ⟨gM,0,none⟩,Mc,S,Sc,Q,Qc,LL⟩:Ra)) hs1 ((ah.toChg hB3).only O3_0 rfl) (bh.same hs1.f rfl rfl rfl rfl rfl rfl) P3_0;exact ⟨rfl,h2,_,hs2⟩)
     |(have e9:ck s=({ s with mtch:=dc s.mtch s.id (a_ s) }:Rf):=by unfold ck;simp only;rw [if_neg (fun e=>by first | exact absurd e.2 (by assumption) | exact absurd e.1 hgt)]
       rw [e9];exact ⟨rfl,h1.from_ (((ah.rfl_ (a:=w19)).next E27).next D44),_,hs1.from_ (((ah.rfl_ (a:=w19)).next E27).next D44)⟩)
  apply bQ 22 [(30,eqp _),(31,eqp _),(32,eqp _),(33,eqp _),(34,eqp _),(35,eqp _),(36,eqp _),(37,eqp _),(38,eqp _),(39,eqp _),(40,eqp _),(41,eqp _),(42,eqp _),(43,eqp _),(44,eqp _),(45,eqp _),(46,eqp _),(47,eqp _),(48,eqp _),(49,eqp _),(50,eqp _),(51,eqp _)] (by repeat first | exact cB | refine cA ?_ | refine bW ?_) (by kernel_rfl) (by kernel_rfl) ⟨aq _,aq _,aq _,aq _,aq _,aq _,aq _,aq _,aq _,aq _,aq _,aq _,aq _,aq _,aq _,aq _,aq _,aq _,aq _,aq _,aq _,aq _,trivial⟩
  case hop=>
   constructor
   ·rintro-w48 D48;exact au (aH (v:=.int _ _) rfl) rfl
   constructor
   ·rintro-w49 D49;rintro _ rfl;exact au (c6 (bg rfl rfl) rfl) rfl
   constructor
   ·rintro-w50 D50;rintro _ rfl;exact au (aH (v:=.bool _) rfl) rfl
   constructor
   ·rintro-w51 D51;rintro _ rfl;exact dC rfl (aH (v:=.int _ _) rfl) rfl
   constructor
   ·rintro-w52 D52;rintro _ rfl;exact dC rfl (aH (v:=.pointer _) rfl) rfl
   constructor
   ·rintro-w53 D53;rintro _ rfl _ rfl;exact dC rfl (av rfl) rfl
   constructor
   ·rintro-w54 D54;rintro _ rfl _ rfl;exact dC rfl (ab aC rfl) rfl
   constructor
   ·rintro-w55 D55;rintro _ rfl _ rfl;exact dC rfl (ab dh rfl) rfl
   constructor
   ·rintro-w56 D56;rintro _ rfl _ rfl;exact dC rfl (ar ao rfl (by exact (show _=some (Value.int .i64 s.commit) from ct (hb1.from_ (((ah.rfl_ (a:=w19)).next E27).next D56)) 10 rfl))) rfl
   constructor
   ·rintro-w57 D57;rintro _ rfl _ rfl _ rfl;exact dC rfl (ch (cn rfl rfl) (decide_eq_false hgt)) rfl
   constructor
   ·rintro-w58 D58;rintro _ rfl _ rfl;exact au (aL (v:=.bool _) rfl rfl) rfl
   constructor
   ·rintro-w59 D59;rintro _ rfl;exact au (aH (v:=.bool _) rfl) rfl
   constructor
   ·rintro-w60 D60;rintro _ rfl;exact jO rfl rfl rfl
   constructor
   ·rintro-w61 D61;rintro _ rfl;exact jO rfl rfl rfl
   constructor
   ·rintro-w62 D62;rintro _ rfl _ rfl _ rfl;exact jO rfl rfl rfl
   constructor
   ·rintro-w63 D63;rintro _ rfl;exact jO rfl rfl rfl
   constructor
   ·rintro-w64 D64;rintro _ rfl _ rfl;exact jO rfl rfl rfl
   constructor
   ·rintro-w65 D65;rintro _ rfl _ rfl;exact jO rfl rfl rfl
   constructor
   ·rintro-w66 D66;rintro _ rfl _ rfl;exact jO rfl rfl rfl
   constructor
   ·rintro-w67 D67;rintro _ rfl _ rfl;exact jO rfl rfl rfl
   constructor
   ·rintro-w68 D68;rintro _ rfl _ rfl _ rfl;exact jO rfl rfl rfl
   constructor
   ·rintro-w69 D69;rintro _ rfl _ rfl;exact au (aw (v:=.bool _) rfl rfl) rfl
   exact trivial
  case hend=>
   intro w70 D70;rintro _ rfl _ rfl _ rfl _ rfl _ rfl _ rfl _ rfl _ rfl _ rfl _ rfl _ rfl _ rfl _ rfl _ rfl _ rfl _ rfl _ rfl _ rfl _ rfl _ rfl _ rfl _ rfl;show St ..;refine aj (ag (bd rfl (aM (cC (dV rfl ?_)))))
   first
    |(have e9:ck s=({ s with mtch:=dc s.mtch s.id (a_ s),commit:=med (dc s.mtch s.id (a_ s)) }:Rf):=by unfold ck;simp only;rw [if_pos ⟨hgt,by assumption⟩]
      rw [e9];obtain ⟨hs2,h2⟩:=h1.set (s':=({ s with mtch:=dc s.mtch s.id (a_ s),commit:=med (dc s.mtch s.id (a_ s)) }:Rf)) (a':=(⟨E,Ec,V,Vc,X,Xc,some ⟨gM,0,none⟩,Mc,S,Sc,Q,Qc,LL⟩:Ra)) hs1 ((ah.toChg hB3).only O3_0 rfl) (bh.same hs1.f rfl rfl rfl rfl rfl rfl) P3_0;exact ⟨rfl,h2,_,hs2⟩)
    |(have e9:ck s=({ s with mtch:=dc s.mtch s.id (a_ s) }:Rf):=by unfold ck;simp only;rw [if_neg (fun e=>by first | exact absurd e.2 (by assumption) | exact absurd e.1 hgt)]
      rw [e9];exact ⟨rfl,h1.from_ (((ah.rfl_ (a:=w19)).next E27).next D70),_,hs1.from_ (((ah.rfl_ (a:=w19)).next E27).next D70)⟩)
end Go.Proofs.YtkpooenofjdpmaaGreat
namespace Go.Proofs.YtkpooenofjdpmaaGreat
open Go.Proofs.Tryz (prog)
open Go.RowKit
abbrev XT (X:Type):=List (Nat×Nat×(X→Value))
abbrev my {X:Type} (T:XT X) (x:X):List (Nat×Nat×Value):=T.map fun p=>(p.1,p.2.1,p.2.2 x)
theorem qm {X:Type}:∀ {T:XT X} {x:X},mQ (T.map fun p=>(p.1,p.2.1))→ly (my T x)
 |[],_,_=>trivial
 |p::r,x,h=>⟨fun q hq=>by
   obtain ⟨y,hy,rfl⟩:=List.mem_map.1 hq;exact h.1 (y.1,y.2.1) (List.mem_map.2 ⟨y,hy,rfl⟩),qm h.2⟩
def zH {X:Type} (S:Nat→Bool) (x x':X):XT X→Prop
 |[]=>True
 |p::r=>(S p.1=true→p.2.2 x'=p.2.2 x)∧zH S x x' r
theorem uY {X:Type} {S:Nat→Bool} {x x':X}:∀ {T:XT X},zH S x x' T→∀ p∈T,S p.1=true→p.2.2 x'=p.2.2 x
 |_::_,⟨h1,h2⟩,p,hp=>by
  rcases List.mem_cons.1 hp with rfl | hp
  ·exact h1
  ·exact uY h2 p hp
theorem cR {X:Type} {S:Nat→Bool} {x:X}:∀ {T:XT X},zH S x x T
 |[]=>trivial
 |_::_=>⟨fun _=>rfl,cR⟩
section
variable {X:Type} {P:Program} {Q:Exit→Act→World→Prop} {n:Fr} {L L' M:List (Nat×Value)} {w w' w'':World} {l:List Oper} {T:XT X} {I:X→(Nat→Bool)→World→Prop} {S:Nat→Bool} {op:Op} {ty:TypeId} {pos:String} {after:Array Edge} {i d:Nat} {f:X→Value} {x:X}
theorem InvX.get (h:iu L (my T x) S L') (hp:(i,d,f)∈T) (hs:S i=true):bE L' d=f x:=h.get (i:=i) (d:=d) (List.mem_map.2 ⟨_,hp,rfl⟩) hs
theorem InvX.out {t:Nat} (h:iu L (my T x) S L') (ht:(T.map fun p=>p.2.1).elem t=false):bE L' t=bE L t:=h.1 t fun p hp e=>by
 obtain ⟨y,hy,rfl⟩:=List.mem_map.1 hp;have:t∈T.map fun p=>p.2.1:=List.mem_map.2 ⟨y,hy,e⟩
 rw [List.elem_eq_mem,decide_eq_false_iff_not] at ht;exact ht this
theorem Ar {i:Nat} (h:(T.map fun p=>p.1).elem i=false):∀ p∈T,p.1≠i:=fun p hp e=>by
 rw [List.elem_eq_mem,decide_eq_false_iff_not] at h;exact h (List.mem_map.2 ⟨p,hp,e⟩)
theorem InvX.chg {x':X} (h:iu L (my T x) S L') (hc:∀ p∈T,S p.1=true→p.2.2 x'=p.2.2 x):iu L (my T x') S L':=by
 refine ⟨fun t ht=>h.1 t fun p hp=>?_,fun p hp hs=>?_,fun p hp hs=>?_⟩
 ·obtain ⟨y,hy,rfl⟩:=List.mem_map.1 hp;exact ht (y.1,y.2.1,y.2.2 x') (List.mem_map.2 ⟨y,hy,rfl⟩)
 ·obtain ⟨y,hy,rfl⟩:=List.mem_map.1 hp;have:=h.2.1 (y.1,y.2.1,y.2.2 x) (List.mem_map.2 ⟨y,hy,rfl⟩) hs;rw [this];exact (hc y hy hs).symm
 ·obtain ⟨y,hy,rfl⟩:=List.mem_map.1 hp;exact h.2.2 (y.1,y.2.1,y.2.2 x) (List.mem_map.2 ⟨y,hy,rfl⟩) hs
abbrev va (P:Program) (n:Fr) (L:List (Nat×Value)) (T:XT X) (I:X→(Nat→Bool)→World→Prop) (S:Nat→Bool) (i:Nat) (o:Oper) (L':List (Nat×Value)) (w':World):Prop:=gj P n o (fun L2 w2=>∃ x,iu L (my T x) (dv S i) L2∧I x (dv S i) w2) L' w'
theorem cL (M:List (Nat×Value)) (x':X) (hU:mQ (T.map fun p=>(p.1,p.2.1))) (hI:iu L (my T x) S L') (hp:(i,d,f)∈T)
 (hs:dy op=false) (hk:(((⟨some d,op,ty,pos,after,none⟩:Oper).looksAt #[]).all fun t=>(M.map Prod.fst).elem t)=true) (hag:ri L' M) (hr:RO P (ev n M) op w' (f x') w'') (hc:zH S x x' T) (hM:I x' (dv S i) w''):va P n L T I S i ⟨some d,op,ty,pos,after,none⟩ L' w':=
 .inl ⟨d,f x',w'',rfl,by rw [jG hs hk hag];exact hr _ _ _ _ _,x',(InvX.chg hI (uY hc)).put (qm hU) (List.mem_map.2 ⟨_,hp,rfl⟩),hM⟩
theorem nS (M:List (Nat×Value)) (hI:iu L (my T x) S L') (hi:∀ p∈T,p.1≠i)
 (hs:dy op=false) (hk:(((⟨none,op,ty,pos,after,none⟩:Oper).looksAt #[]).all fun t=>(M.map Prod.fst).elem t)=true) (hag:ri L' M) (hr:RS P (ev n M) op w' w'') (hM:I x (dv S i) w''):va P n L T I S i ⟨none,op,ty,pos,after,none⟩ L' w':=
 .inr (.inl ⟨w'',rfl,by rw [jG hs hk hag];exact hr _ _ _ _ _,x,hI.skip (fun p hp=>by
  obtain ⟨y,hy,rfl⟩:=List.mem_map.1 hp;exact hi y hy),hM⟩)
def ui (P:Program) (n:Fr) (L:List (Nat×Value)) (T:XT X) (Mu:List Nat) (I:X→(Nat→Bool)→World→Prop) (l:List Oper):Nat→List Oper→Prop
 |_,[]=>True
 |i,o::r=>(∀ S L' w' x,mQ (T.map fun p=>(p.1,p.2.1))→(∀ x S i w1 w2,Mu.elem i=false→ah w1 w2→I x S w1→I x (dv S i) w2)→iu L (my T x) S L'→I x S w'→gV l S→S i=false→iG S o.after.toList→va P n L T I S i o L' w')∧ui P n L T Mu I l (i+1) r
theorem pB {Mu:List Nat} {L0:List (Nat×Value)} {l0:List Oper}:∀ {r:List Oper} {k:Nat},ui P n L0 T Mu I l0 k r→mQ (T.map fun p=>(p.1,p.2.1))→(∀ x S i w1 w2,Mu.elem i=false→ah w1 w2→I x S w1→I x (dv S i) w2)→∀ (i:Nat) (o:Oper),r[i]? =some o→∀ S L' w' x,iu L0 (my T x) S L'→I x S w'→gV l0 S→S (k+i)=false→iG S o.after.toList→va P n L0 T I S (k+i) o L' w'
 |[],_,_,_,_,i,o,h=>by simp at h
 |y::r,k,⟨h1,h2⟩,a,b,0,o,h=>by
  simp only [List.getElem?_cons_zero,Option.some.injEq] at h;subst h;exact fun S L' w' x=>h1 S L' w' x a b
 |y::r,k,⟨h1,h2⟩,a,b,i+1,o,h=>by
  have:=pB h2 a b i o (by simpa using h)
  rwa [show k+1+i=k+(i+1) by omega] at this
theorem yi {id:Nat} (T:XT X) (Mu:List Nat) (I:X→(Nat→Bool)→World→Prop) (hm:P.follows .mixedOrders=true) (hwf:oJ l=true) (hlt:(T.all fun p=>Nat.blt p.1 l.length)=true) (hU:vh (T.map fun p=>(p.1,p.2.1))=true) (hme:∀ x S i w1 w2,Mu.elem i=false→ah w1 w2→I x S w1→I x (dv S i) w2) (h0:∃ x,I x (fun _=>false) { w with drawn:=w.drawn+1 })
 (hstep:ui P n L T Mu I l 0 l) (hend:∀ x w',I x (fun i=>decide (i<l.length)) w'→Q .normal (mkA n ((my T x).map (fun p=>(p.2.1,p.2.2))++L)) w'):Cd P (.region id l.toArray true) Q n L w:=
 ua (fun S L' w'=>(∃ x,iu L (my T x) S L'∧I x S w')∧gV l S) hm hwf ⟨let ⟨x,hx⟩:=h0;⟨x,⟨fun _ _=>rfl,fun _ _ h=>(by cases h),fun _ _ _=>rfl⟩,hx⟩,fun _ _ _ h=>by cases h⟩ (fun i o S L' w' ho ⟨⟨x,hI,hM⟩,hC⟩ hS hE=>by
  have:=pB hstep (lH hU) hme i o ho S L' w' x hI hM hC (by rw [Nat.zero_add];exact hS) (ky fun e he=>hE e (by simpa using he));rw [Nat.zero_add] at this;exact gj.mono (fun L2 w2 h=>⟨h,kz hC ho hE⟩) this) fun L' w' ⟨⟨x,hI,hM⟩,_⟩=>by
  have h:=hend x w' hM
  have hlt':∀ p∈my T x,decide (p.1<l.length)=true:=fun p hp=>by
   obtain ⟨y,hy,rfl⟩:=List.mem_map.1 hp;exact decide_eq_true (Nat.le_of_ble_eq_true (List.all_eq_true.1 hlt y hy))
  rw [za (qm (lH hU)) hlt' hI];exact h
end
end Go.Proofs.YtkpooenofjdpmaaGreat
