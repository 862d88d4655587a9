/- texts that the claim stands on. -/
import Derived.Test.YtkpooenofjdpmaaGreatSlRfLawP5

set_option maxRecDepth 100000
set_option maxHeartbeats 4000000
namespace Go.Proofs.YtkpooenofjdpmaaGreat
open Go.Proofs.Tryz (prog)
open Go.RowKit
open Go.ChangeShapes Go.WideShapes Go.ChangeAt
theorem rE:aY prog 106=true:=by kernel_rfl
theorem sX:aY prog 61=true:=by kernel_rfl
theorem fS:aY prog 62=true:=by kernel_rfl
theorem sW:aY prog 63=true:=by kernel_rfl
theorem gC:aY prog 64=true:=by kernel_rfl
theorem cS:aY prog 66=true:=by kernel_rfl
theorem wX (n:Int) (w:World) :
 Rt prog 61 [.int .i64 n] w (fun v w'=>v=.bool (decide (1≤n∧n≤7))∧w=w'):=by
 refine enter (n:=9) Tryz.func61 rfl rfl rfl (an (ah (asb rfl (ak (ag (an (ah (mvi rfl (aa (kP rfl rfl) (mvb rfl (wK (t:=5) rfl (fun Q1=>?_) (fun Q1=>?_))))))))))))
 ·refine af rfl (mvi rfl (af rfl (aa (iF rfl rfl) (aa (ao (v:=.bool _) rfl rfl) (asb rfl (ak (ag (aC (bh (v:=.bool _) rfl rfl (⟨congrArg Value.bool ?_,rfl⟩))))))))))
  first
   |exact (decide_eq_true (by omega)).symm
   |exact (decide_eq_false (by omega)).symm
   |(rw [decide_eq_decide];omega)
 refine ab rfl rfl (ab rfl rfl (aa (av (v:=.bool _) rfl rfl) (asb rfl (ak (ag (aC (bh (v:=.bool _) rfl rfl (⟨congrArg Value.bool ?_,rfl⟩))))))))
 first
  |exact (decide_eq_true (by omega)).symm
  |exact (decide_eq_false (by omega)).symm
  |(rw [decide_eq_decide];omega)
theorem qM (n:Int) (w:World) :
 Rt prog 62 [.int .i64 n] w (fun v w'=>v=.bool (decide (0≤n∧n≤1099511627775))∧w=w'):=by
 refine enter (n:=9) Tryz.func62 rfl rfl rfl (an (ah (asb rfl (ak (ag (an (ah (mvi rfl (aa (kP rfl rfl) (mvb rfl (wK (t:=5) rfl (fun Q1=>?_) (fun Q1=>?_))))))))))))
 ·refine af rfl (mvi rfl (af rfl (aa (bG rfl rfl) (aa (ao (v:=.bool _) rfl rfl) (asb rfl (ak (ag (aC (bh (v:=.bool _) rfl rfl (⟨congrArg Value.bool ?_,rfl⟩))))))))))
  first
   |exact (decide_eq_true (by omega)).symm
   |exact (decide_eq_false (by omega)).symm
   |(rw [decide_eq_decide];omega)
 refine ab rfl rfl (ab rfl rfl (aa (av (v:=.bool _) rfl rfl) (asb rfl (ak (ag (aC (bh (v:=.bool _) rfl rfl (⟨congrArg Value.bool ?_,rfl⟩))))))))
 first
  |exact (decide_eq_true (by omega)).symm
  |exact (decide_eq_false (by omega)).symm
  |(rw [decide_eq_decide];omega)
theorem xP (s:Rf) (E:Option Addr) (n c:Nat) (w:World) (h:ct w (.slice E n c) s.es):Rt prog 63 [.agg #[.int .i64 s.b,.int .i64 s.t,.slice E n c]] w fun v w'=>v=.bool (cg s.b s.t s.es)∧aj w w':=
 (Rt.of (u0 s.b s.t _ s.es w h)).mono fun _ _ h=>h
def bc (l:List Int) (n lo hi:Int):Prop:=(l.length:Int)=n∧bP lo hi l
instance (l:List Int) (n lo hi:Int):Decidable (bc l n lo hi):=by unfold bc;exact inferInstance
theorem vR (A:Option Addr) (c:Nat) (l:List Int) (w:World) (hr:dI iV w A l) (hl:l.length≤1000000) :
 Rt prog 106 [.slice A l.length c] w (fun v w'=>v=.bool (fL l)∧aj w w'):=by
 refine enter (n:=20) Tryz.func106 rfl rfl rfl (an (ah (asb rfl (ak (ag (an (an (ah (asi rfl (ak (ag (bf (cz (G:=Nat) [2,4,5,6,7,8,9,10,11,12,13,14,15,16,17,18,19] (fun k=>[(3,.int .i64 (k:Nat))]) (fun k w'=>1≤k∧(k≤l.length∨k=1)∧(∀ j (h:j+1<l.length),j+1<k→l[j]<l[j+1])∧aj w w') (fun k=>l.length-k) (1) ⟨rfl,trivial⟩ ?_ ?_)))))))))))))
 ·exact ⟨Nat.le_refl _,.inr rfl,fun j _ h=>absurd h (by omega),aj.rfl_⟩
 rintro k ρ1 w1 ⟨hk0,hk,h2,hB⟩;refine an (an (ah (mvi rfl (mvs rfl (aa (bm bJ rfl) (aa (bG rfl rfl) (ak (ag (xD rfl (fun Q2=>?_) (fun Q2=>?_))))))))))
 ·have hkx:k<l.length:=by omega
  obtain ⟨ba,oa,rfl,hca⟩:=hr (by omega);refine aR (ag (an (bf (an ?_))));apply dR 10 [(10,eqp _),(11,eqp _),(12,eqp _),(13,eqp (.int .i64 l[k])),(14,eqp _),(15,eqp _),(16,eqp (.int .i64 ((k-1:Nat):Int))),(17,eqp _),(18,eqp (.int .i64 l[k-1])),(19,eqp _)] (by repeat first | exact ej | refine ei ?_ | refine dO ?_) (by kernel_rfl) (by kernel_rfl) ⟨au _,au _,au _,au _,au _,au _,au _,au _,au _,au _,trivial⟩
  case hop=>
   constructor
   ·rintro-w4 D4;exact az (aP (v:=.slice _ _ _) rfl) rfl
   constructor
   ·rintro-w5 D5;exact az (aP (v:=.int _ _) rfl) rfl
   constructor
   ·rintro-w6 D6;rintro _ rfl _ rfl;exact az (cl bK rfl rfl (by omega)) rfl
   constructor
   ·rintro-w7 D7;rintro _ rfl;exact az (aq ar rfl (by exact dF (hB.next D7) (hca k hkx))) rfl
   constructor
   ·rintro-w8 D8;exact az (aP (v:=.slice _ _ _) rfl) rfl
   constructor
   ·rintro-w9 D9;exact az (aP (v:=.int _ _) rfl) rfl
   constructor
   ·rintro-w10 D10;rintro _ rfl;exact az (gk (dM rfl rfl (by omega)) (br (by omega))) rfl
   constructor
   ·rintro-w11 D11;rintro _ rfl v11_16 rfl;exact az (cl bK rfl rfl (by omega)) rfl
   constructor
   ·rintro-w12 D12;rintro _ rfl;exact az (aq ar rfl (by exact dF (hB.next D12) (hca (k-1) (by omega)))) rfl
   constructor
   ·rintro-w13 D13;rintro v13_13 rfl v13_18 rfl;exact az (iF rfl rfl) rfl
   exact trivial
  case hend=>
   intro w14 D14;rintro _ rfl _ rfl _ rfl v13 rfl _ rfl _ rfl v16 rfl _ rfl v18 rfl _ rfl;show St ..;refine ak (ag (xD rfl (fun Q15=>?_) (fun Q15=>?_)))
   ·refine an (ah (asb rfl (ak (ag (aC (aZ (ay (ay (aZ (ay (bh (v:=.bool _) rfl rfl (⟨congrArg Value.bool ?_,(hB.next D14)⟩))))))))))));rw [eq_comm,←Bool.not_eq_true,gI];intro h4;obtain ⟨j,rfl⟩:∃ j,k=j+1:=⟨k-1,by omega⟩;have h6:=h4 j hkx
    (try simp only [Nat.add_sub_cancel] at*)
    omega
   refine aR (bN (ag (ah (mvi rfl (aa (bE rfl rfl (by omega)) (asi rfl (ak ?_)))))));refine cK (k+1) ⟨(by first | rfl | (refine br ?_;omega)),trivial⟩ (by (iterate 35 refine bQ rfl ?_);exact b_) ⟨?_,?_⟩
   ·refine ⟨by omega,.inl (by omega),fun j h hj=>?_,(hB.next D14)⟩;rcases Nat.lt_or_ge (j+1) k with e | e
    ·exact h2 j h e
    ·obtain rfl:k=j+1:=by omega
     (try simp only [Nat.add_sub_cancel] at*)
     omega
   ·omega
 refine bZ (bg (bg (bF (ag (an (ah (asb rfl (ak (ag (aC (bh (v:=.bool _) rfl rfl (⟨congrArg Value.bool ?_,hB⟩))))))))))));rw [eq_comm,gI];exact fun j hj=>h2 j hj (by omega)
theorem k0 (A:Option Addr) (c:Nat) (l:List Int) (n:Int) (w:World) (hr:dI iV w A l) (hl:l.length≤1000000) :
 Rt prog 64 [.slice A l.length c,.int .i64 n] w (fun v w'=>v=.bool (fp l n)∧aj w w'):=by
 refine enter (n:=27) Tryz.func64 rfl rfl rfl (an (ah (asb rfl (ak (ag (an (an (ah (asi rfl (ak (ag (bf (cz (G:=Nat) [4,6,7,8,9,10,11,12,13,14,15,16,17,18,19,20,21,22,23,24] (fun k=>[(5,.int .i64 (k:Nat))]) (fun k w'=>k≤l.length∧(∀ j (h:j<l.length),j<k→1≤l[j]∧l[j]≤n)∧aj w w') (fun k=>l.length-k) (0) ⟨rfl,trivial⟩ ?_ ?_)))))))))))))
 ·exact ⟨Nat.zero_le _,fun j _ h=>absurd h (by omega),aj.rfl_⟩
 rintro k ρ1 w1 ⟨hk,h1,hB⟩;refine an (an (ah (mvi rfl (mvs rfl (aa (bm bJ rfl) (aa (bG rfl rfl) (ak (ag (xD rfl (fun Q2=>?_) (fun Q2=>?_))))))))))
 ·have hkx:k<l.length:=by omega
  obtain ⟨ba,oa,rfl,hca⟩:=hr (by omega);refine aR (ag (an (bf (an (ah (mvs rfl (mvi rfl (aa (cl bK rfl rfl (by omega)) (aa (aq ar rfl (by exact dF hB (hca k hkx))) ?_)))))))));refine aa (bG rfl rfl) (mvb rfl (wK (t:=17) rfl (fun Q3=>?_) (fun Q3=>?_)))
  ·refine ab rfl rfl (ab rfl rfl (ab rfl rfl (ab rfl rfl (ab rfl rfl (ab rfl rfl (aa (ao (v:=.bool _) rfl rfl) (ak (ag (aJ rfl ?_)))))))));refine an (ah (asb rfl (ak (ag (aC (aZ (ay (ay (aZ (ay (bh (v:=.bool _) rfl rfl (⟨congrArg Value.bool ?_,hB⟩))))))))))));rw [eq_comm,←Bool.not_eq_true,fM];rintro ⟨h3,h4⟩;have h5:=h3 _ (List.getElem_mem hkx);omega
  refine af rfl (mvs rfl (af rfl (mvi rfl (af rfl (aa (cl bK rfl rfl (by omega)) (af rfl (aa (aq ar rfl (by exact dF hB (hca k hkx))) ?_)))))));refine af rfl (mvi rfl (af rfl (aa (bH rfl rfl) (aa (av (v:=.bool _) rfl rfl) (ak (ag (xD rfl (fun Q4=>?_) (fun Q4=>?_))))))))
  ·refine an (ah (asb rfl (ak (ag (aC (aZ (ay (ay (aZ (ay (bh (v:=.bool _) rfl rfl (⟨congrArg Value.bool ?_,hB⟩))))))))))));rw [eq_comm,←Bool.not_eq_true,fM];rintro ⟨h3,h4⟩;have h5:=h3 _ (List.getElem_mem hkx);omega
  refine aR (bN (ag (ah (mvi rfl (aa (bE rfl rfl (by omega)) (asi rfl (ak ?_)))))));refine cK (k+1) ⟨(by first | rfl | (refine br ?_;omega)),trivial⟩ (by (iterate 42 refine bQ rfl ?_);exact b_) ⟨?_,?_⟩
  ·refine ⟨by omega,fun j h hj=>?_,hB⟩;rcases Nat.lt_or_ge j k with e | e
   ·exact h1 j h e
   ·obtain rfl:j=k:=by omega
    omega
  ·omega
 refine bZ (bg (bg (bF (ag (an (ah (mvs rfl (aG rE (vR A c l _ (hr.from_ hB) hl) ?_))))))));rintro v26 w5 ⟨rfl,E26⟩;refine asb rfl (ak (ag (aC (bh (v:=.bool _) rfl rfl (⟨congrArg Value.bool ?_,(hB.next E26)⟩)))));obtain rfl:k=l.length:=by omega
 rw [Bool.eq_iff_iff,fM,gI];exact ⟨fun h=>⟨fun x hx=>by obtain ⟨j,hj,rfl⟩:=List.getElem_of_mem hx;exact h1 j hj hj,h⟩,fun h=>h.2⟩
theorem eT (A:Option Addr) (c:Nat) (l:List Int) (n lo hi:Int) (w:World) (hr:dI iV w A l) (hl:l.length≤1000000) :
 Rt prog 66 [.slice A l.length c,.int .i64 n,.int .i64 lo,.int .i64 hi] w (fun v w'=>v=.bool (decide (bc l n lo hi))∧aj w w'):=by
 refine enter (n:=34) Tryz.func66 rfl rfl rfl (an (ah (asb rfl (ak (ag (an (an (ah (asi rfl (ak (ag (bf (cz (G:=Nat) [8,10,11,12,13,14,15,16,17,18,19,20,21,22,23,24,25,26,27,28,29] (fun k=>[(9,.int .i64 (k:Nat))]) (fun k w'=>k≤l.length∧(∀ j (h:j<l.length),j<k→lo≤l[j]∧l[j]≤hi)∧aj w w') (fun k=>l.length-k) (0) ⟨rfl,trivial⟩ ?_ ?_)))))))))))))
 ·exact ⟨Nat.zero_le _,fun j _ h=>absurd h (by omega),aj.rfl_⟩
 rintro k ρ1 w1 ⟨hk,h1,hB⟩;refine an (an (ah (mvi rfl (mvs rfl (aa (bm bJ rfl) (aa (bG rfl rfl) (ak (ag (xD rfl (fun Q2=>?_) (fun Q2=>?_))))))))))
 ·have hkx:k<l.length:=by omega
  obtain ⟨ba,oa,rfl,hca⟩:=hr (by omega);refine aR (ag (an (bf (an (ah (mvs rfl (mvi rfl (aa (cl bK rfl rfl (by omega)) (aa (aq ar rfl (by exact dF hB (hca k hkx))) ?_)))))))));refine mvi rfl (aa (bG rfl rfl) (mvb rfl (wK (t:=22) rfl (fun Q3=>?_) (fun Q3=>?_))))
  ·refine ab rfl rfl (ab rfl rfl (ab rfl rfl (ab rfl rfl (ab rfl rfl (ab rfl rfl (aa (ao (v:=.bool _) rfl rfl) (ak (ag (aJ rfl ?_)))))))));refine an (ah (asb rfl (ak (ag (aC (aZ (ay (ay (aZ (ay (bh (v:=.bool _) rfl rfl (⟨congrArg Value.bool ?_,hB⟩))))))))))));rw [eq_comm,decide_eq_false_iff_not];rintro ⟨h3,h4⟩;have h5:=h4 _ (List.getElem_mem hkx);omega
  refine af rfl (mvs rfl (af rfl (mvi rfl (af rfl (aa (cl bK rfl rfl (by omega)) (af rfl (aa (aq ar rfl (by exact dF hB (hca k hkx))) ?_)))))));refine af rfl (mvi rfl (af rfl (aa (bH rfl rfl) (aa (av (v:=.bool _) rfl rfl) (ak (ag (xD rfl (fun Q4=>?_) (fun Q4=>?_))))))))
  ·refine an (ah (asb rfl (ak (ag (aC (aZ (ay (ay (aZ (ay (bh (v:=.bool _) rfl rfl (⟨congrArg Value.bool ?_,hB⟩))))))))))));rw [eq_comm,decide_eq_false_iff_not];rintro ⟨h3,h4⟩;have h5:=h4 _ (List.getElem_mem hkx);omega
  refine aR (bN (ag (ah (mvi rfl (aa (bE rfl rfl (by omega)) (asi rfl (ak ?_)))))));refine cK (k+1) ⟨(by first | rfl | (refine br ?_;omega)),trivial⟩ (by (iterate 44 refine bQ rfl ?_);exact b_) ⟨?_,?_⟩
  ·refine ⟨by omega,fun j h hj=>?_,hB⟩;rcases Nat.lt_or_ge j k with e | e
   ·exact h1 j h e
   ·obtain rfl:j=k:=by omega
    omega
  ·omega
 refine bZ (bg (bg (bF (ag (an (ah (mvs rfl (aa (bm bJ rfl) (mvi rfl (aa (bC rfl rfl) (asb rfl (ak (ag (aC (bh (v:=.bool _) rfl rfl ?_)))))))))))))));refine ⟨congrArg Value.bool ?_,hB⟩;obtain rfl:k=l.length:=by omega
 rw [Bool.eq_iff_iff,beq_iff_eq,decide_eq_true_eq];exact ⟨fun h=>⟨h,fun x hx=>by obtain ⟨j,hj,rfl⟩:=List.getElem_of_mem hx;exact h1 j hj hj⟩,fun h=>h.1⟩
theorem wq (s:ByteArray):(!(s.toList==(⟨#[]⟩:ByteArray).toList))=decide (s.size≠0):=by
 rw [wt,Bool.eq_iff_iff];simp
theorem uP (s:Rf) (a:Ra) (w:World) (hrd:fi w s a) (hl:s.votes.length≤1000000∧s.next.length≤1000000∧s.mtch.length≤1000000∧s.sent.length≤1000000∧s.reads.length≤1000000∧∀ q∈s.reads,q.acks.length≤1000000) :
 Rt prog 30 [.agg (rfV s a).toArray] w (fun v w'=>v=.bool (iw s)∧aj w w'):=by
 obtain ⟨E,Ec,V,Vc,X,Xc,M,Mc,Sn,Sc,Q,Qc,LL⟩:=a;have hrL:LL.map (fun q=>q.1)=s.reads:=hrd.r;have hrk:∀ q∈LL,IR w q.2.1 q.2.2 q.1.acks:=hrd.k;obtain ⟨hl1,hl2,hl3,hl4,hl5,hl6⟩:=hl;have hrl:LL.length=s.reads.length:=by rw [←hrL,List.length_map]
 refine enter (n:=259) Tryz.func30 rfl rfl rfl (an (ah (cU (v:=.agg _) rfl ?_)));intro b1 w1 E1 hb1 hk1;refine asb rfl (ak (ag (an (an (ah (aa (ae bw rfl) (aa (aq ar rfl (by exact (hk1.from_ aj.rfl_).rd 1 rfl)) ?_)))))));refine aG sX (wX s.nodes _) ?_;rintro v10 w2 ⟨rfl,rfl⟩;refine aa (cd rfl) (mvb rfl (aE (t:=12) rfl (fun Q3=>?_) (fun Q3=>?_)))
 ·with_reducible (replace Q3:=dc Q3;replace Q3:=dF_ Q3)
  (try simp only [Bool.not_eq_true',Bool.not_eq_false',Bool.not_eq_true,Bool.not_eq_false,decide_eq_true_eq,decide_eq_false_iff_not,Bool.or_eq_true,Bool.and_eq_true] at Q3)
  refine ab rfl rfl (ab rfl rfl (ab rfl rfl (aa (ao (v:=.bool _) rfl rfl) (mvb rfl (ab rfl rfl (ab rfl rfl (ab rfl rfl (ab rfl rfl ?_))))))));refine ab rfl rfl (aa (ao (v:=.bool _) rfl rfl) (mvb rfl (ab rfl rfl (ab rfl rfl (ab rfl rfl (aa (ao (v:=.bool _) rfl rfl) (mvb rfl (ab rfl rfl ?_))))))));refine ab rfl rfl (ab rfl rfl (aa (ao (v:=.bool _) rfl rfl) (mvb rfl (ab rfl rfl (ab rfl rfl (ab rfl rfl (ab rfl rfl (aa (ao (v:=.bool _) rfl rfl) ?_))))))));refine mvb rfl (ab rfl rfl (ab rfl rfl (ab rfl rfl (aa (ao (v:=.bool _) rfl rfl) (mvb rfl (ab rfl rfl (ab rfl rfl (ab rfl rfl ?_))))))));refine ab rfl rfl (ab rfl rfl (aa (ao (v:=.bool _) rfl rfl) (mvb rfl (ab rfl rfl (ab rfl rfl (ab rfl rfl (aa (ao (v:=.bool _) rfl rfl) (mvb rfl ?_))))))));refine ab rfl rfl (ab rfl rfl (ab rfl rfl (ab rfl rfl (ab rfl rfl (aa (ao (v:=.bool _) rfl rfl) (mvb rfl (ab rfl rfl (ab rfl rfl ?_))))))));refine ab rfl rfl (ab rfl rfl (aa (ao (v:=.bool _) rfl rfl) (mvb rfl (ab rfl rfl (ab rfl rfl (ab rfl rfl (ab rfl rfl (aa (ao (v:=.bool _) rfl rfl) ?_))))))));refine mvb rfl (ab rfl rfl (ab rfl rfl (ab rfl rfl (ab rfl rfl (ab rfl rfl (aA rfl (aA rfl (aA rfl ?_))))))));refine ab rfl rfl (aa (ao (v:=.bool _) rfl rfl) (mvb rfl (ab rfl rfl (ab rfl rfl (ab rfl rfl (ab rfl rfl (aa (ao (v:=.bool _) rfl rfl) (mvb rfl ?_))))))));refine ab rfl rfl (ab rfl rfl (ab rfl rfl (ab rfl rfl (aa (ao (v:=.bool _) rfl rfl) (mvb rfl (ab rfl rfl (ab rfl rfl (ab rfl rfl ?_))))))));refine ab rfl rfl (aa (ao (v:=.bool _) rfl rfl) (mvb rfl (ab rfl rfl (ab rfl rfl (ab rfl rfl (ab rfl rfl (ab rfl rfl (ab rfl rfl ?_))))))));refine aa (ao (v:=.bool _) rfl rfl) (ak (ag (aJ rfl (an (ah (asb rfl (ak (ag (aC (ay (bh (v:=.bool _) rfl rfl (⟨congrArg Value.bool ?_,(aj.rfl_.next E1)⟩))))))))))));rw [eq_comm,←Bool.not_eq_true,aO];rintro ⟨⟨n1,n2,n3,⟨n4,n5⟩,n6,n7,n8,n9⟩,⟨g1,g2,g3,g4,g5⟩,v1,l1,⟨p1,p2,p3⟩⟩
  first
   |omega
   |(simp_all;done)
   |(simp_all;omega)
 with_reducible (replace Q3:=dd Q3;replace Q3:=dT_ Q3)
 (try simp only [Bool.not_eq_true',Bool.not_eq_false',Bool.not_eq_true,Bool.not_eq_false,decide_eq_true_eq,decide_eq_false_iff_not,Bool.or_eq_true,Bool.and_eq_true] at Q3)
 refine af rfl (aa (ae cW rfl) (af rfl (aa (aq ar rfl (by exact (hk1.from_ aj.rfl_).rd 0 rfl)) ?_)));refine af rfl (aa (bG rfl rfl) (aa (av (v:=.bool _) rfl rfl) (mvb rfl (wK (t:=17) rfl (fun Q4=>?_) (fun Q4=>?_)))))
 ·(try simp only [Bool.not_eq_true',Bool.not_eq_false',Bool.not_eq_true,Bool.not_eq_false,decide_eq_true_eq,decide_eq_false_iff_not,Bool.or_eq_true,Bool.and_eq_true] at Q4)
  refine ab rfl rfl (ab rfl rfl (ab rfl rfl (ab rfl rfl (ab rfl rfl (aa (ao (v:=.bool _) rfl rfl) (mvb rfl (ab rfl rfl (ab rfl rfl ?_))))))));refine ab rfl rfl (aa (ao (v:=.bool _) rfl rfl) (mvb rfl (ab rfl rfl (ab rfl rfl (ab rfl rfl (aa (ao (v:=.bool _) rfl rfl) (mvb rfl (ab rfl rfl ?_))))))));refine ab rfl rfl (ab rfl rfl (ab rfl rfl (aa (ao (v:=.bool _) rfl rfl) (mvb rfl (ab rfl rfl (ab rfl rfl (ab rfl rfl (aa (ao (v:=.bool _) rfl rfl) ?_))))))));refine mvb rfl (ab rfl rfl (ab rfl rfl (ab rfl rfl (ab rfl rfl (ab rfl rfl (aa (ao (v:=.bool _) rfl rfl) (mvb rfl (ab rfl rfl ?_))))))));refine ab rfl rfl (ab rfl rfl (aa (ao (v:=.bool _) rfl rfl) (mvb rfl (ab rfl rfl (ab rfl rfl (ab rfl rfl (ab rfl rfl (ab rfl rfl ?_))))))));refine aa (ao (v:=.bool _) rfl rfl) (mvb rfl (ab rfl rfl (ab rfl rfl (ab rfl rfl (ab rfl rfl (aa (ao (v:=.bool _) rfl rfl) (mvb rfl (ab rfl rfl ?_))))))));refine ab rfl rfl (ab rfl rfl (ab rfl rfl (aa (ao (v:=.bool _) rfl rfl) (mvb rfl (ab rfl rfl (ab rfl rfl (ab rfl rfl (ab rfl rfl ?_))))))));refine ab rfl rfl (aA rfl (aA rfl (aA rfl (ab rfl rfl (aa (ao (v:=.bool _) rfl rfl) (mvb rfl (ab rfl rfl (ab rfl rfl ?_))))))));refine ab rfl rfl (ab rfl rfl (aa (ao (v:=.bool _) rfl rfl) (mvb rfl (ab rfl rfl (ab rfl rfl (ab rfl rfl (ab rfl rfl (aa (ao (v:=.bool _) rfl rfl) ?_))))))));refine mvb rfl (ab rfl rfl (ab rfl rfl (ab rfl rfl (ab rfl rfl (aa (ao (v:=.bool _) rfl rfl) (mvb rfl (ab rfl rfl (ab rfl rfl ?_))))))));refine ab rfl rfl (ab rfl rfl (ab rfl rfl (ab rfl rfl (aa (ao (v:=.bool _) rfl rfl) (ak (ag (aJ rfl (an (ah (asb rfl ?_))))))))));refine ak (ag (aC (ay (bh (v:=.bool _) rfl rfl (⟨congrArg Value.bool ?_,(aj.rfl_.next E1)⟩)))));rw [eq_comm,←Bool.not_eq_true,aO];rintro ⟨⟨n1,n2,n3,⟨n4,n5⟩,n6,n7,n8,n9⟩,⟨g1,g2,g3,g4,g5⟩,v1,l1,⟨p1,p2,p3⟩⟩
  first
   |omega
   |(simp_all;done)
   |(simp_all;omega)
 (try simp only [Bool.not_eq_true',Bool.not_eq_false',Bool.not_eq_true,Bool.not_eq_false,decide_eq_true_eq,decide_eq_false_iff_not,Bool.or_eq_true,Bool.and_eq_true] at Q4)
 refine af rfl (aa (ae cW rfl) (af rfl (aa (aq ar rfl (by exact (hk1.from_ aj.rfl_).rd 0 rfl)) ?_)));refine af rfl (aa (ae bw rfl) (af rfl (aa (aq ar rfl (by exact (hk1.from_ aj.rfl_).rd 1 rfl)) ?_)));refine af rfl (aa (bH rfl rfl) (aa (av (v:=.bool _) rfl rfl) (mvb rfl (wK (t:=24) rfl (fun Q5=>?_) (fun Q5=>?_)))))
 ·(try simp only [Bool.not_eq_true',Bool.not_eq_false',Bool.not_eq_true,Bool.not_eq_false,decide_eq_true_eq,decide_eq_false_iff_not,Bool.or_eq_true,Bool.and_eq_true] at Q5)
  refine ab rfl rfl (ab rfl rfl (ab rfl rfl (aa (ao (v:=.bool _) rfl rfl) (mvb rfl (ab rfl rfl (ab rfl rfl (ab rfl rfl (aa (ao (v:=.bool _) rfl rfl) ?_))))))));refine mvb rfl (ab rfl rfl (ab rfl rfl (ab rfl rfl (ab rfl rfl (aa (ao (v:=.bool _) rfl rfl) (mvb rfl (ab rfl rfl (ab rfl rfl ?_))))))));refine ab rfl rfl (aa (ao (v:=.bool _) rfl rfl) (mvb rfl (ab rfl rfl (ab rfl rfl (ab rfl rfl (ab rfl rfl (ab rfl rfl (aa (ao (v:=.bool _) rfl rfl) ?_))))))));refine mvb rfl (ab rfl rfl (ab rfl rfl (ab rfl rfl (aa (ao (v:=.bool _) rfl rfl) (mvb rfl (ab rfl rfl (ab rfl rfl (ab rfl rfl ?_))))))));refine ab rfl rfl (ab rfl rfl (aa (ao (v:=.bool _) rfl rfl) (mvb rfl (ab rfl rfl (ab rfl rfl (ab rfl rfl (ab rfl rfl (aa (ao (v:=.bool _) rfl rfl) ?_))))))));refine mvb rfl (ab rfl rfl (ab rfl rfl (ab rfl rfl (ab rfl rfl (aa (ao (v:=.bool _) rfl rfl) (mvb rfl (ab rfl rfl (ab rfl rfl ?_))))))));refine ab rfl rfl (ab rfl rfl (ab rfl rfl (aA rfl (aA rfl (aA rfl (ab rfl rfl (aa (ao (v:=.bool _) rfl rfl) (mvb rfl ?_))))))));refine ab rfl rfl (ab rfl rfl (ab rfl rfl (ab rfl rfl (aa (ao (v:=.bool _) rfl rfl) (mvb rfl (ab rfl rfl (ab rfl rfl (ab rfl rfl ?_))))))));refine ab rfl rfl (aa (ao (v:=.bool _) rfl rfl) (mvb rfl (ab rfl rfl (ab rfl rfl (ab rfl rfl (ab rfl rfl (aa (ao (v:=.bool _) rfl rfl) (mvb rfl ?_))))))));refine ab rfl rfl (ab rfl rfl (ab rfl rfl (ab rfl rfl (ab rfl rfl (ab rfl rfl (aa (ao (v:=.bool _) rfl rfl) (ak (ag (aJ rfl ?_)))))))));refine an (ah (asb rfl (ak (ag (aC (ay (bh (v:=.bool _) rfl rfl (⟨congrArg Value.bool ?_,(aj.rfl_.next E1)⟩))))))));rw [eq_comm,←Bool.not_eq_true,aO];rintro ⟨⟨n1,n2,n3,⟨n4,n5⟩,n6,n7,n8,n9⟩,⟨g1,g2,g3,g4,g5⟩,v1,l1,⟨p1,p2,p3⟩⟩
  first
   |omega
   |(simp_all;done)
   |(simp_all;omega)
 (try simp only [Bool.not_eq_true',Bool.not_eq_false',Bool.not_eq_true,Bool.not_eq_false,decide_eq_true_eq,decide_eq_false_iff_not,Bool.or_eq_true,Bool.and_eq_true] at Q5)
 refine af rfl (aa (ae cF rfl) (af rfl (aa (aq ar rfl (by exact (hk1.from_ aj.rfl_).rd 2 rfl)) ?_)));refine af rfl (aa (bG rfl rfl) (aa (av (v:=.bool _) rfl rfl) (mvb rfl (wK (t:=29) rfl (fun Q6=>?_) (fun Q6=>?_)))))
 ·(try simp only [Bool.not_eq_true',Bool.not_eq_false',Bool.not_eq_true,Bool.not_eq_false,decide_eq_true_eq,decide_eq_false_iff_not,Bool.or_eq_true,Bool.and_eq_true] at Q6)
  refine ab rfl rfl (ab rfl rfl (ab rfl rfl (aa (ao (v:=.bool _) rfl rfl) (mvb rfl (ab rfl rfl (ab rfl rfl (ab rfl rfl (ab rfl rfl ?_))))))));refine aa (ao (v:=.bool _) rfl rfl) (mvb rfl (ab rfl rfl (ab rfl rfl (ab rfl rfl (aa (ao (v:=.bool _) rfl rfl) (mvb rfl (ab rfl rfl (ab rfl rfl ?_))))))));refine ab rfl rfl (ab rfl rfl (ab rfl rfl (aa (ao (v:=.bool _) rfl rfl) (mvb rfl (ab rfl rfl (ab rfl rfl (ab rfl rfl (aa (ao (v:=.bool _) rfl rfl) ?_))))))));refine mvb rfl (ab rfl rfl (ab rfl rfl (ab rfl rfl (ab rfl rfl (ab rfl rfl (aa (ao (v:=.bool _) rfl rfl) (mvb rfl (ab rfl rfl ?_))))))));refine ab rfl rfl (ab rfl rfl (ab rfl rfl (aa (ao (v:=.bool _) rfl rfl) (mvb rfl (ab rfl rfl (ab rfl rfl (ab rfl rfl (ab rfl rfl ?_))))))));refine aa (ao (v:=.bool _) rfl rfl) (mvb rfl (ab rfl rfl (ab rfl rfl (ab rfl rfl (ab rfl rfl (ab rfl rfl (aA rfl (aA rfl ?_))))))));refine aA rfl (ab rfl rfl (aa (ao (v:=.bool _) rfl rfl) (mvb rfl (ab rfl rfl (ab rfl rfl (ab rfl rfl (ab rfl rfl (aa (ao (v:=.bool _) rfl rfl) ?_))))))));refine mvb rfl (ab rfl rfl (ab rfl rfl (ab rfl rfl (ab rfl rfl (aa (ao (v:=.bool _) rfl rfl) (mvb rfl (ab rfl rfl (ab rfl rfl ?_))))))));refine ab rfl rfl (ab rfl rfl (aa (ao (v:=.bool _) rfl rfl) (mvb rfl (ab rfl rfl (ab rfl rfl (ab rfl rfl (ab rfl rfl (ab rfl rfl ?_))))))));refine ab rfl rfl (aa (ao (v:=.bool _) rfl rfl) (ak (ag (aJ rfl (an (ah (asb rfl (ak (ag (aC (ay (bh (v:=.bool _) rfl rfl (⟨congrArg Value.bool ?_,(aj.rfl_.next E1)⟩)))))))))))));rw [eq_comm,←Bool.not_eq_true,aO];rintro ⟨⟨n1,n2,n3,⟨n4,n5⟩,n6,n7,n8,n9⟩,⟨g1,g2,g3,g4,g5⟩,v1,l1,⟨p1,p2,p3⟩⟩
  first
   |omega
   |(simp_all;done)
   |(simp_all;omega)
 (try simp only [Bool.not_eq_true',Bool.not_eq_false',Bool.not_eq_true,Bool.not_eq_false,decide_eq_true_eq,decide_eq_false_iff_not,Bool.or_eq_true,Bool.and_eq_true] at Q6)
 refine af rfl (aa (ae cF rfl) (af rfl (aa (aq ar rfl (by exact (hk1.from_ aj.rfl_).rd 2 rfl)) ?_)));refine af rfl (aa (bH rfl rfl) (aa (av (v:=.bool _) rfl rfl) (mvb rfl (wK (t:=34) rfl (fun Q7=>?_) (fun Q7=>?_)))))
 ·(try simp only [Bool.not_eq_true',Bool.not_eq_false',Bool.not_eq_true,Bool.not_eq_false,decide_eq_true_eq,decide_eq_false_iff_not,Bool.or_eq_true,Bool.and_eq_true] at Q7)
  refine ab rfl rfl (ab rfl rfl (ab rfl rfl (ab rfl rfl (aa (ao (v:=.bool _) rfl rfl) (mvb rfl (ab rfl rfl (ab rfl rfl (ab rfl rfl ?_))))))));refine aa (ao (v:=.bool _) rfl rfl) (mvb rfl (ab rfl rfl (ab rfl rfl (ab rfl rfl (ab rfl rfl (ab rfl rfl (aa (ao (v:=.bool _) rfl rfl) (mvb rfl ?_))))))));refine ab rfl rfl (ab rfl rfl (ab rfl rfl (aa (ao (v:=.bool _) rfl rfl) (mvb rfl (ab rfl rfl (ab rfl rfl (ab rfl rfl (ab rfl rfl ?_))))))));refine ab rfl rfl (aa (ao (v:=.bool _) rfl rfl) (mvb rfl (ab rfl rfl (ab rfl rfl (ab rfl rfl (ab rfl rfl (aa (ao (v:=.bool _) rfl rfl) (mvb rfl ?_))))))));refine ab rfl rfl (ab rfl rfl (ab rfl rfl (ab rfl rfl (aa (ao (v:=.bool _) rfl rfl) (mvb rfl (ab rfl rfl (ab rfl rfl (ab rfl rfl ?_))))))));refine ab rfl rfl (ab rfl rfl (aA rfl (aA rfl (aA rfl (ab rfl rfl (aa (ao (v:=.bool _) rfl rfl) (mvb rfl (ab rfl rfl ?_))))))));refine ab rfl rfl (ab rfl rfl (ab rfl rfl (aa (ao (v:=.bool _) rfl rfl) (mvb rfl (ab rfl rfl (ab rfl rfl (ab rfl rfl (ab rfl rfl ?_))))))));refine aa (ao (v:=.bool _) rfl rfl) (mvb rfl (ab rfl rfl (ab rfl rfl (ab rfl rfl (ab rfl rfl (aa (ao (v:=.bool _) rfl rfl) (mvb rfl (ab rfl rfl ?_))))))));refine ab rfl rfl (ab rfl rfl (ab rfl rfl (ab rfl rfl (ab rfl rfl (aa (ao (v:=.bool _) rfl rfl) (ak (ag (aJ rfl (an (ah ?_))))))))));refine asb rfl (ak (ag (aC (ay (bh (v:=.bool _) rfl rfl (⟨congrArg Value.bool ?_,(aj.rfl_.next E1)⟩))))));rw [eq_comm,←Bool.not_eq_true,aO];rintro ⟨⟨n1,n2,n3,⟨n4,n5⟩,n6,n7,n8,n9⟩,⟨g1,g2,g3,g4,g5⟩,v1,l1,⟨p1,p2,p3⟩⟩
  first
   |omega
   |(simp_all;done)
   |(simp_all;omega)
 (try simp only [Bool.not_eq_true',Bool.not_eq_false',Bool.not_eq_true,Bool.not_eq_false,decide_eq_true_eq,decide_eq_false_iff_not,Bool.or_eq_true,Bool.and_eq_true] at Q7)
 refine af rfl (aa (ae cB rfl) (af rfl (aa (aq ar rfl (by exact (hk1.from_ aj.rfl_).rd 3 rfl)) ?_)));refine af rfl (aG fS (qM s.term _) ?_);rintro v37 w8 ⟨rfl,rfl⟩;refine af rfl (aa (cd rfl) (aa (av (v:=.bool _) rfl rfl) (mvb rfl (aE (t:=40) rfl (fun Q9=>?_) (fun Q9=>?_)))))
 ·with_reducible (replace Q9:=dc Q9;replace Q9:=dF_ Q9)
  (try simp only [Bool.not_eq_true',Bool.not_eq_false',Bool.not_eq_true,Bool.not_eq_false,decide_eq_true_eq,decide_eq_false_iff_not,Bool.or_eq_true,Bool.and_eq_true] at Q9)
  refine ab rfl rfl (ab rfl rfl (ab rfl rfl (aa (ao (v:=.bool _) rfl rfl) (mvb rfl (ab rfl rfl (ab rfl rfl (ab rfl rfl (ab rfl rfl ?_))))))));refine ab rfl rfl (aa (ao (v:=.bool _) rfl rfl) (mvb rfl (ab rfl rfl (ab rfl rfl (ab rfl rfl (aa (ao (v:=.bool _) rfl rfl) (mvb rfl (ab rfl rfl ?_))))))));refine ab rfl rfl (ab rfl rfl (ab rfl rfl (ab rfl rfl (aa (ao (v:=.bool _) rfl rfl) (mvb rfl (ab rfl rfl (ab rfl rfl (ab rfl rfl ?_))))))));refine ab rfl rfl (aa (ao (v:=.bool _) rfl rfl) (mvb rfl (ab rfl rfl (ab rfl rfl (ab rfl rfl (ab rfl rfl (aa (ao (v:=.bool _) rfl rfl) (mvb rfl ?_))))))));refine ab rfl rfl (ab rfl rfl (ab rfl rfl (ab rfl rfl (ab rfl rfl (aA rfl (aA rfl (aA rfl (ab rfl rfl ?_))))))));refine aa (ao (v:=.bool _) rfl rfl) (mvb rfl (ab rfl rfl (ab rfl rfl (ab rfl rfl (ab rfl rfl (aa (ao (v:=.bool _) rfl rfl) (mvb rfl (ab rfl rfl ?_))))))));refine ab rfl rfl (ab rfl rfl (ab rfl rfl (aa (ao (v:=.bool _) rfl rfl) (mvb rfl (ab rfl rfl (ab rfl rfl (ab rfl rfl (ab rfl rfl ?_))))))));refine aa (ao (v:=.bool _) rfl rfl) (mvb rfl (ab rfl rfl (ab rfl rfl (ab rfl rfl (ab rfl rfl (ab rfl rfl (ab rfl rfl (aa (ao (v:=.bool _) rfl rfl) ?_))))))));refine ak (ag (aJ rfl (an (ah (asb rfl (ak (ag (aC (ay (bh (v:=.bool _) rfl rfl (⟨congrArg Value.bool ?_,(aj.rfl_.next E1)⟩)))))))))));rw [eq_comm,←Bool.not_eq_true,aO];rintro ⟨⟨n1,n2,n3,⟨n4,n5⟩,n6,n7,n8,n9⟩,⟨g1,g2,g3,g4,g5⟩,v1,l1,⟨p1,p2,p3⟩⟩
  first
   |omega
   |(simp_all;done)
   |(simp_all;omega)
 with_reducible (replace Q9:=dd Q9;replace Q9:=dT_ Q9)
 (try simp only [Bool.not_eq_true',Bool.not_eq_false',Bool.not_eq_true,Bool.not_eq_false,decide_eq_true_eq,decide_eq_false_iff_not,Bool.or_eq_true,Bool.and_eq_true] at Q9)
 refine af rfl (aa (ae eG rfl) (af rfl (aa (aq ar rfl (by exact (hk1.from_ aj.rfl_).rd 4 rfl)) ?_)));refine af rfl (aa (bG rfl rfl) (aa (av (v:=.bool _) rfl rfl) (mvb rfl (wK (t:=45) rfl (fun Q10=>?_) (fun Q10=>?_)))))
 ·(try simp only [Bool.not_eq_true',Bool.not_eq_false',Bool.not_eq_true,Bool.not_eq_false,decide_eq_true_eq,decide_eq_false_iff_not,Bool.or_eq_true,Bool.and_eq_true] at Q10)
  refine ab rfl rfl (ab rfl rfl (ab rfl rfl (ab rfl rfl (ab rfl rfl (aa (ao (v:=.bool _) rfl rfl) (mvb rfl (ab rfl rfl (ab rfl rfl ?_))))))));refine ab rfl rfl (aa (ao (v:=.bool _) rfl rfl) (mvb rfl (ab rfl rfl (ab rfl rfl (ab rfl rfl (ab rfl rfl (ab rfl rfl (aa (ao (v:=.bool _) rfl rfl) ?_))))))));refine mvb rfl (ab rfl rfl (ab rfl rfl (ab rfl rfl (ab rfl rfl (aa (ao (v:=.bool _) rfl rfl) (mvb rfl (ab rfl rfl (ab rfl rfl ?_))))))));refine ab rfl rfl (ab rfl rfl (aa (ao (v:=.bool _) rfl rfl) (mvb rfl (ab rfl rfl (ab rfl rfl (ab rfl rfl (ab rfl rfl (ab rfl rfl ?_))))))));refine aA rfl (aA rfl (aA rfl (ab rfl rfl (aa (ao (v:=.bool _) rfl rfl) (mvb rfl (ab rfl rfl (ab rfl rfl (ab rfl rfl ?_))))))));refine ab rfl rfl (aa (ao (v:=.bool _) rfl rfl) (mvb rfl (ab rfl rfl (ab rfl rfl (ab rfl rfl (ab rfl rfl (aa (ao (v:=.bool _) rfl rfl) (mvb rfl ?_))))))));refine ab rfl rfl (ab rfl rfl (ab rfl rfl (ab rfl rfl (aa (ao (v:=.bool _) rfl rfl) (mvb rfl (ab rfl rfl (ab rfl rfl (ab rfl rfl ?_))))))));refine ab rfl rfl (ab rfl rfl (ab rfl rfl (aa (ao (v:=.bool _) rfl rfl) (ak (ag (aJ rfl (an (ah (asb rfl (ak (ag (aC (ay ?_)))))))))))));refine bh (v:=.bool _) rfl rfl (⟨congrArg Value.bool ?_,(aj.rfl_.next E1)⟩);rw [eq_comm,←Bool.not_eq_true,aO];rintro ⟨⟨n1,n2,n3,⟨n4,n5⟩,n6,n7,n8,n9⟩,⟨g1,g2,g3,g4,g5⟩,v1,l1,⟨p1,p2,p3⟩⟩
  first
   |omega
   |(simp_all;done)
   |(simp_all;omega)
 (try simp only [Bool.not_eq_true',Bool.not_eq_false',Bool.not_eq_true,Bool.not_eq_false,decide_eq_true_eq,decide_eq_false_iff_not,Bool.or_eq_true,Bool.and_eq_true] at Q10)
 refine af rfl (aa (ae eG rfl) (af rfl (aa (aq ar rfl (by exact (hk1.from_ aj.rfl_).rd 4 rfl)) ?_)));refine af rfl (aa (ae bw rfl) (af rfl (aa (aq ar rfl (by exact (hk1.from_ aj.rfl_).rd 1 rfl)) ?_)));refine af rfl (aa (bH rfl rfl) (aa (av (v:=.bool _) rfl rfl) (mvb rfl (wK (t:=52) rfl (fun Q11=>?_) (fun Q11=>?_)))))
 ·(try simp only [Bool.not_eq_true',Bool.not_eq_false',Bool.not_eq_true,Bool.not_eq_false,decide_eq_true_eq,decide_eq_false_iff_not,Bool.or_eq_true,Bool.and_eq_true] at Q11)
  refine ab rfl rfl (ab rfl rfl (ab rfl rfl (aa (ao (v:=.bool _) rfl rfl) (mvb rfl (ab rfl rfl (ab rfl rfl (ab rfl rfl (ab rfl rfl ?_))))))));refine ab rfl rfl (aa (ao (v:=.bool _) rfl rfl) (mvb rfl (ab rfl rfl (ab rfl rfl (ab rfl rfl (ab rfl rfl (aa (ao (v:=.bool _) rfl rfl) (mvb rfl ?_))))))));refine ab rfl rfl (ab rfl rfl (ab rfl rfl (ab rfl rfl (aa (ao (v:=.bool _) rfl rfl) (mvb rfl (ab rfl rfl (ab rfl rfl (ab rfl rfl ?_))))))));refine ab rfl rfl (ab rfl rfl (aA rfl (aA rfl (aA rfl (ab rfl rfl (aa (ao (v:=.bool _) rfl rfl) (mvb rfl (ab rfl rfl ?_))))))));refine ab rfl rfl (ab rfl rfl (ab rfl rfl (aa (ao (v:=.bool _) rfl rfl) (mvb rfl (ab rfl rfl (ab rfl rfl (ab rfl rfl (ab rfl rfl ?_))))))));refine aa (ao (v:=.bool _) rfl rfl) (mvb rfl (ab rfl rfl (ab rfl rfl (ab rfl rfl (ab rfl rfl (aa (ao (v:=.bool _) rfl rfl) (mvb rfl (ab rfl rfl ?_))))))));refine ab rfl rfl (ab rfl rfl (ab rfl rfl (ab rfl rfl (ab rfl rfl (aa (ao (v:=.bool _) rfl rfl) (ak (ag (aJ rfl (an (ah ?_))))))))));refine asb rfl (ak (ag (aC (ay (bh (v:=.bool _) rfl rfl (⟨congrArg Value.bool ?_,(aj.rfl_.next E1)⟩))))));rw [eq_comm,←Bool.not_eq_true,aO];rintro ⟨⟨n1,n2,n3,⟨n4,n5⟩,n6,n7,n8,n9⟩,⟨g1,g2,g3,g4,g5⟩,v1,l1,⟨p1,p2,p3⟩⟩
  first
   |omega
   |(simp_all;done)
   |(simp_all;omega)
 (try simp only [Bool.not_eq_true',Bool.not_eq_false',Bool.not_eq_true,Bool.not_eq_false,decide_eq_true_eq,decide_eq_false_iff_not,Bool.or_eq_true,Bool.and_eq_true] at Q11)
 refine af rfl (aa (ae er rfl) (af rfl (aa (aq ar rfl (by exact (hk1.from_ aj.rfl_).rd 5 rfl)) ?_)));refine af rfl (aa (bG rfl rfl) (aa (av (v:=.bool _) rfl rfl) (mvb rfl (wK (t:=57) rfl (fun Q12=>?_) (fun Q12=>?_)))))
 ·(try simp only [Bool.not_eq_true',Bool.not_eq_false',Bool.not_eq_true,Bool.not_eq_false,decide_eq_true_eq,decide_eq_false_iff_not,Bool.or_eq_true,Bool.and_eq_true] at Q12)
  refine ab rfl rfl (ab rfl rfl (ab rfl rfl (ab rfl rfl (ab rfl rfl (aa (ao (v:=.bool _) rfl rfl) (mvb rfl (ab rfl rfl (ab rfl rfl ?_))))))));refine ab rfl rfl (ab rfl rfl (aa (ao (v:=.bool _) rfl rfl) (mvb rfl (ab rfl rfl (ab rfl rfl (ab rfl rfl (ab rfl rfl (aa (ao (v:=.bool _) rfl rfl) ?_))))))));refine mvb rfl (ab rfl rfl (ab rfl rfl (ab rfl rfl (ab rfl rfl (ab rfl rfl (aA rfl (aA rfl (aA rfl ?_))))))));refine ab rfl rfl (aa (ao (v:=.bool _) rfl rfl) (mvb rfl (ab rfl rfl (ab rfl rfl (ab rfl rfl (ab rfl rfl (aa (ao (v:=.bool _) rfl rfl) (mvb rfl ?_))))))));refine ab rfl rfl (ab rfl rfl (ab rfl rfl (ab rfl rfl (aa (ao (v:=.bool _) rfl rfl) (mvb rfl (ab rfl rfl (ab rfl rfl (ab rfl rfl ?_))))))));refine ab rfl rfl (aa (ao (v:=.bool _) rfl rfl) (mvb rfl (ab rfl rfl (ab rfl rfl (ab rfl rfl (ab rfl rfl (ab rfl rfl (ab rfl rfl ?_))))))));refine aa (ao (v:=.bool _) rfl rfl) (ak (ag (aJ rfl (an (ah (asb rfl (ak (ag (aC (ay (bh (v:=.bool _) rfl rfl (⟨congrArg Value.bool ?_,(aj.rfl_.next E1)⟩))))))))))));rw [eq_comm,←Bool.not_eq_true,aO];rintro ⟨⟨n1,n2,n3,⟨n4,n5⟩,n6,n7,n8,n9⟩,⟨g1,g2,g3,g4,g5⟩,v1,l1,⟨p1,p2,p3⟩⟩
  first
   |omega
   |(simp_all;done)
   |(simp_all;omega)
 (try simp only [Bool.not_eq_true',Bool.not_eq_false',Bool.not_eq_true,Bool.not_eq_false,decide_eq_true_eq,decide_eq_false_iff_not,Bool.or_eq_true,Bool.and_eq_true] at Q12)
 refine af rfl (aa (ae er rfl) (af rfl (aa (aq ar rfl (by exact (hk1.from_ aj.rfl_).rd 5 rfl)) ?_)));refine af rfl (aa (ae bw rfl) (af rfl (aa (aq ar rfl (by exact (hk1.from_ aj.rfl_).rd 1 rfl)) ?_)));refine af rfl (aa (bH rfl rfl) (aa (av (v:=.bool _) rfl rfl) (mvb rfl (wK (t:=64) rfl (fun Q13=>?_) (fun Q13=>?_)))))
 ·(try simp only [Bool.not_eq_true',Bool.not_eq_false',Bool.not_eq_true,Bool.not_eq_false,decide_eq_true_eq,decide_eq_false_iff_not,Bool.or_eq_true,Bool.and_eq_true] at Q13)
  refine ab rfl rfl (ab rfl rfl (ab rfl rfl (ab rfl rfl (aa (ao (v:=.bool _) rfl rfl) (mvb rfl (ab rfl rfl (ab rfl rfl (ab rfl rfl ?_))))))));refine ab rfl rfl (aa (ao (v:=.bool _) rfl rfl) (mvb rfl (ab rfl rfl (ab rfl rfl (ab rfl rfl (ab rfl rfl (ab rfl rfl (aA rfl ?_))))))));refine aA rfl (aA rfl (ab rfl rfl (aa (ao (v:=.bool _) rfl rfl) (mvb rfl (ab rfl rfl (ab rfl rfl (ab rfl rfl (ab rfl rfl ?_))))))));refine aa (ao (v:=.bool _) rfl rfl) (mvb rfl (ab rfl rfl (ab rfl rfl (ab rfl rfl (ab rfl rfl (aa (ao (v:=.bool _) rfl rfl) (mvb rfl (ab rfl rfl ?_))))))));refine ab rfl rfl (ab rfl rfl (ab rfl rfl (aa (ao (v:=.bool _) rfl rfl) (mvb rfl (ab rfl rfl (ab rfl rfl (ab rfl rfl (ab rfl rfl ?_))))))));refine ab rfl rfl (ab rfl rfl (aa (ao (v:=.bool _) rfl rfl) (ak (ag (aJ rfl (an (ah (asb rfl (ak (ag (aC (ay (bh (v:=.bool _) rfl rfl ?_)))))))))))));refine ⟨congrArg Value.bool ?_,(aj.rfl_.next E1)⟩;rw [eq_comm,←Bool.not_eq_true,aO];rintro ⟨⟨n1,n2,n3,⟨n4,n5⟩,n6,n7,n8,n9⟩,⟨g1,g2,g3,g4,g5⟩,v1,l1,⟨p1,p2,p3⟩⟩
  first
   |omega
   |(simp_all;done)
   |(simp_all;omega)
 (try simp only [Bool.not_eq_true',Bool.not_eq_false',Bool.not_eq_true,Bool.not_eq_false,decide_eq_true_eq,decide_eq_false_iff_not,Bool.or_eq_true,Bool.and_eq_true] at Q13)
 refine af rfl (aa (ae bk rfl) (af rfl (aa (aT (cs:=[.int .i64 s.b,.int .i64 s.t,.slice E s.es.length Ec]) cZ cI rfl (lT (hk1.from_ aj.rfl_))) (af rfl (aG sW (xP s E s.es.length Ec _ (hrd.e.from_ (aj.rfl_.next E1))) ?_)))));rintro v67 w14 ⟨rfl,E67⟩;refine af rfl (aa (cd rfl) (aa (av (v:=.bool _) rfl rfl) (mvb rfl (wI (t:=70) rfl (fun Q15=>?_) (fun Q15=>?_)))))
 ·(try simp only [Bool.not_eq_true',Bool.not_eq_false',Bool.not_eq_true,Bool.not_eq_false,decide_eq_true_eq,decide_eq_false_iff_not,Bool.or_eq_true,Bool.and_eq_true] at Q15)
  refine ab rfl rfl (ab rfl rfl (ab rfl rfl (ab rfl rfl (aa (ao (v:=.bool _) rfl rfl) (mvb rfl (ab rfl rfl (ab rfl rfl (ab rfl rfl ?_))))))));refine ab rfl rfl (ab rfl rfl (aA rfl (aA rfl (aA rfl (ab rfl rfl (aa (ao (v:=.bool _) rfl rfl) (mvb rfl (ab rfl rfl ?_))))))));refine ab rfl rfl (ab rfl rfl (ab rfl rfl (aa (ao (v:=.bool _) rfl rfl) (mvb rfl (ab rfl rfl (ab rfl rfl (ab rfl rfl (ab rfl rfl ?_))))))));refine aa (ao (v:=.bool _) rfl rfl) (mvb rfl (ab rfl rfl (ab rfl rfl (ab rfl rfl (ab rfl rfl (aa (ao (v:=.bool _) rfl rfl) (mvb rfl (ab rfl rfl ?_))))))));refine ab rfl rfl (ab rfl rfl (ab rfl rfl (ab rfl rfl (ab rfl rfl (aa (ao (v:=.bool _) rfl rfl) (ak (ag (aJ rfl (an (ah ?_))))))))));refine asb rfl (ak (ag (aC (ay (bh (v:=.bool _) rfl rfl (⟨congrArg Value.bool ?_,((aj.rfl_.next E1).next E67)⟩))))));rw [eq_comm,←Bool.not_eq_true,aO];rintro ⟨⟨n1,n2,n3,⟨n4,n5⟩,n6,n7,n8,n9⟩,⟨g1,g2,g3,g4,g5⟩,v1,l1,⟨p1,p2,p3⟩⟩
  first
   |omega
   |(simp_all;done)
   |(simp_all;omega)
 (try simp only [Bool.not_eq_true',Bool.not_eq_false',Bool.not_eq_true,Bool.not_eq_false,decide_eq_true_eq,decide_eq_false_iff_not,Bool.or_eq_true,Bool.and_eq_true] at Q15)
 refine af rfl (aa (ae cf rfl) (af rfl (aa (aq bD rfl (by exact (hk1.from_ (aj.rfl_.next E67)).rd 9 rfl)) ?_)));refine af rfl (aa (df (by kernel_rfl) rfl) (af rfl (aa (bH rfl rfl) (aa (av (v:=.bool _) rfl rfl) (mvb rfl (wK (t:=76) rfl (fun Q16=>?_) (fun Q16=>?_)))))))
 ·(try simp only [Bool.not_eq_true',Bool.not_eq_false',Bool.not_eq_true,Bool.not_eq_false,decide_eq_true_eq,decide_eq_false_iff_not,Bool.or_eq_true,Bool.and_eq_true] at Q16)
  refine ab rfl rfl (ab rfl rfl (ab rfl rfl (ab rfl rfl (ab rfl rfl (aA rfl (aA rfl (aA rfl (ab rfl rfl ?_))))))));refine aa (ao (v:=.bool _) rfl rfl) (mvb rfl (ab rfl rfl (ab rfl rfl (ab rfl rfl (ab rfl rfl (aa (ao (v:=.bool _) rfl rfl) (mvb rfl (ab rfl rfl ?_))))))));refine ab rfl rfl (ab rfl rfl (ab rfl rfl (aa (ao (v:=.bool _) rfl rfl) (mvb rfl (ab rfl rfl (ab rfl rfl (ab rfl rfl (ab rfl rfl ?_))))))));refine aa (ao (v:=.bool _) rfl rfl) (mvb rfl (ab rfl rfl (ab rfl rfl (ab rfl rfl (ab rfl rfl (ab rfl rfl (ab rfl rfl (aa (ao (v:=.bool _) rfl rfl) ?_))))))));refine ak (ag (aJ rfl (an (ah (asb rfl (ak (ag (aC (ay (bh (v:=.bool _) rfl rfl (⟨congrArg Value.bool ?_,((aj.rfl_.next E1).next E67)⟩)))))))))));rw [eq_comm,←Bool.not_eq_true,aO];rintro ⟨⟨n1,n2,n3,⟨n4,n5⟩,n6,n7,n8,n9⟩,⟨g1,g2,g3,g4,g5⟩,v1,l1,⟨p1,p2,p3⟩⟩
  first
   |omega
   |(simp_all;done)
   |(simp_all;omega)
 (try simp only [Bool.not_eq_true',Bool.not_eq_false',Bool.not_eq_true,Bool.not_eq_false,decide_eq_true_eq,decide_eq_false_iff_not,Bool.or_eq_true,Bool.and_eq_true] at Q16)
 refine af rfl (aa (ae bk rfl) (af rfl (aa (ae dh rfl) (af rfl (aa (aq ar rfl (by exact (hk1.from_ (aj.rfl_.next E67)).rd 6 rfl)) ?_)))));refine af rfl (aa (bC rfl rfl) (af rfl (mvb rfl (wK (t:=81) rfl (fun Q17=>?_) (fun Q17=>?_)))))
 ·(try simp only [Bool.not_eq_true',Bool.not_eq_false',Bool.not_eq_true,Bool.not_eq_false,decide_eq_true_eq,decide_eq_false_iff_not,Bool.or_eq_true,Bool.and_eq_true] at Q17)
  refine af rfl (aa (ae cf rfl) (af rfl (aa (aq bD rfl (by exact (hk1.from_ (aj.rfl_.next E67)).rd 9 rfl)) ?_)));refine af rfl (aa (gk (oD rfl rfl) (congrArg Value.bool (wq s.snap))) (af rfl (aa (ao (v:=.bool _) rfl rfl) (aa (av (v:=.bool _) rfl rfl) (mvb rfl (wK (t:=87) rfl (fun Q18=>?_) (fun Q18=>?_)))))))
  ·(try simp only [Bool.not_eq_true',Bool.not_eq_false',Bool.not_eq_true,Bool.not_eq_false,decide_eq_true_eq,decide_eq_false_iff_not,Bool.or_eq_true,Bool.and_eq_true] at Q18)
   refine ab rfl rfl (ab rfl rfl (ab rfl rfl (ab rfl rfl (aa (ao (v:=.bool _) rfl rfl) (mvb rfl (ab rfl rfl (ab rfl rfl (ab rfl rfl ?_))))))));refine ab rfl rfl (aa (ao (v:=.bool _) rfl rfl) (mvb rfl (ab rfl rfl (ab rfl rfl (ab rfl rfl (ab rfl rfl (aa (ao (v:=.bool _) rfl rfl) (mvb rfl ?_))))))));refine ab rfl rfl (ab rfl rfl (ab rfl rfl (ab rfl rfl (ab rfl rfl (ab rfl rfl (aa (ao (v:=.bool _) rfl rfl) (ak (ag (aJ rfl ?_)))))))));refine an (ah (asb rfl (ak (ag (aC (ay (bh (v:=.bool _) rfl rfl (⟨congrArg Value.bool ?_,((aj.rfl_.next E1).next E67)⟩))))))));rw [eq_comm,←Bool.not_eq_true,aO];rintro ⟨⟨n1,n2,n3,⟨n4,n5⟩,n6,n7,n8,n9⟩,⟨g1,g2,g3,g4,g5⟩,v1,l1,⟨p1,p2,p3⟩⟩
   first
    |omega
    |(simp_all;done)
    |(simp_all;omega)
  (try simp only [Bool.not_eq_true',Bool.not_eq_false',Bool.not_eq_true,Bool.not_eq_false,decide_eq_true_eq,decide_eq_false_iff_not,Bool.or_eq_true,Bool.and_eq_true] at Q18)
  refine af rfl (aa (ae dk rfl) (af rfl (aa (aq ar rfl (by exact (hk1.from_ (aj.rfl_.next E67)).rd 11 rfl)) ?_)));refine af rfl (aG fS (qM s.elapsed _) ?_);rintro v90 w19 ⟨rfl,rfl⟩;refine af rfl (aa (cd rfl) (aa (av (v:=.bool _) rfl rfl) (mvb rfl (aE (t:=93) rfl (fun Q20=>?_) (fun Q20=>?_)))))
  ·with_reducible (replace Q20:=dc Q20;replace Q20:=dF_ Q20)
   (try simp only [Bool.not_eq_true',Bool.not_eq_false',Bool.not_eq_true,Bool.not_eq_false,decide_eq_true_eq,decide_eq_false_iff_not,Bool.or_eq_true,Bool.and_eq_true] at Q20)
   refine ab rfl rfl (ab rfl rfl (ab rfl rfl (ab rfl rfl (aa (ao (v:=.bool _) rfl rfl) (mvb rfl (ab rfl rfl (ab rfl rfl (ab rfl rfl ?_))))))));refine ab rfl rfl (aa (ao (v:=.bool _) rfl rfl) (mvb rfl (ab rfl rfl (ab rfl rfl (ab rfl rfl (ab rfl rfl (ab rfl rfl (ab rfl rfl ?_))))))));refine aa (ao (v:=.bool _) rfl rfl) (ak (ag (aJ rfl (an (ah (asb rfl (ak (ag (aC (ay (bh (v:=.bool _) rfl rfl (⟨congrArg Value.bool ?_,((aj.rfl_.next E1).next E67)⟩))))))))))));rw [eq_comm,←Bool.not_eq_true,aO];rintro ⟨⟨n1,n2,n3,⟨n4,n5⟩,n6,n7,n8,n9⟩,⟨g1,g2,g3,g4,g5⟩,v1,l1,⟨p1,p2,p3⟩⟩
   first
    |omega
    |(simp_all;done)
    |(simp_all;omega)
  with_reducible (replace Q20:=dd Q20;replace Q20:=dT_ Q20)
  (try simp only [Bool.not_eq_true',Bool.not_eq_false',Bool.not_eq_true,Bool.not_eq_false,decide_eq_true_eq,decide_eq_false_iff_not,Bool.or_eq_true,Bool.and_eq_true] at Q20)
  refine af rfl (aa (ae eh rfl) (af rfl (aa (aq ar rfl (by exact (hk1.from_ (aj.rfl_.next E67)).rd 12 rfl)) ?_)));refine af rfl (aG fS (qM s.timeout _) ?_);rintro v96 w21 ⟨rfl,rfl⟩;refine af rfl (aa (cd rfl) (aa (av (v:=.bool _) rfl rfl) (mvb rfl (aE (t:=99) rfl (fun Q22=>?_) (fun Q22=>?_)))))
  ·with_reducible (replace Q22:=dc Q22;replace Q22:=dF_ Q22)
   (try simp only [Bool.not_eq_true',Bool.not_eq_false',Bool.not_eq_true,Bool.not_eq_false,decide_eq_true_eq,decide_eq_false_iff_not,Bool.or_eq_true,Bool.and_eq_true] at Q22)
   refine ab rfl rfl (ab rfl rfl (ab rfl rfl (ab rfl rfl (aa (ao (v:=.bool _) rfl rfl) (mvb rfl (ab rfl rfl (ab rfl rfl (ab rfl rfl ?_))))))));refine ab rfl rfl (ab rfl rfl (ab rfl rfl (aa (ao (v:=.bool _) rfl rfl) (ak (ag (aJ rfl (an (ah (asb rfl (ak (ag (aC (ay ?_)))))))))))));refine bh (v:=.bool _) rfl rfl (⟨congrArg Value.bool ?_,((aj.rfl_.next E1).next E67)⟩);rw [eq_comm,←Bool.not_eq_true,aO];rintro ⟨⟨n1,n2,n3,⟨n4,n5⟩,n6,n7,n8,n9⟩,⟨g1,g2,g3,g4,g5⟩,v1,l1,⟨p1,p2,p3⟩⟩
   first
    |omega
    |(simp_all;done)
    |(simp_all;omega)
  with_reducible (replace Q22:=dd Q22;replace Q22:=dT_ Q22)
  (try simp only [Bool.not_eq_true',Bool.not_eq_false',Bool.not_eq_true,Bool.not_eq_false,decide_eq_true_eq,decide_eq_false_iff_not,Bool.or_eq_true,Bool.and_eq_true] at Q22)
  refine af rfl (aa (ae cL rfl) (af rfl (aa (aq ar rfl (by exact (hk1.from_ (aj.rfl_.next E67)).rd 18 rfl)) ?_)));refine af rfl (aG fS (qM s.round _) ?_);rintro v102 w23 ⟨rfl,rfl⟩;refine af rfl (aa (cd rfl) (aa (av (v:=.bool _) rfl rfl) (mvb rfl (aE (t:=105) rfl (fun Q24=>?_) (fun Q24=>?_)))))
  ·with_reducible (replace Q24:=dc Q24;replace Q24:=dF_ Q24)
   (try simp only [Bool.not_eq_true',Bool.not_eq_false',Bool.not_eq_true,Bool.not_eq_false,decide_eq_true_eq,decide_eq_false_iff_not,Bool.or_eq_true,Bool.and_eq_true] at Q24)
   refine ab rfl rfl (ab rfl rfl (ab rfl rfl (ab rfl rfl (ab rfl rfl (ab rfl rfl (aa (ao (v:=.bool _) rfl rfl) (ak (ag (aJ rfl ?_)))))))));refine an (ah (asb rfl (ak (ag (aC (ay (bh (v:=.bool _) rfl rfl (⟨congrArg Value.bool ?_,((aj.rfl_.next E1).next E67)⟩))))))));rw [eq_comm,←Bool.not_eq_true,aO];rintro ⟨⟨n1,n2,n3,⟨n4,n5⟩,n6,n7,n8,n9⟩,⟨g1,g2,g3,g4,g5⟩,v1,l1,⟨p1,p2,p3⟩⟩
   first
    |omega
    |(simp_all;done)
    |(simp_all;omega)
  with_reducible (replace Q24:=dd Q24;replace Q24:=dT_ Q24)
  (try simp only [Bool.not_eq_true',Bool.not_eq_false',Bool.not_eq_true,Bool.not_eq_false,decide_eq_true_eq,decide_eq_false_iff_not,Bool.or_eq_true,Bool.and_eq_true] at Q24)
  refine af rfl (aa (ae cP rfl) (af rfl (aa (aq aM rfl (by exact (show _=some (Value.slice V s.votes.length Vc) from (hk1.from_ (aj.rfl_.next E67)).rd 14 rfl))) ?_)));refine af rfl (aa (ae bw rfl) (af rfl (aa (aq ar rfl (by exact (hk1.from_ (aj.rfl_.next E67)).rd 1 rfl)) ?_)));refine af rfl (aG gC (k0 V Vc s.votes s.nodes _ (hrd.v.1.from_ ((aj.rfl_.next E1).next E67)) hl1) ?_);rintro v110 w25 ⟨rfl,E110⟩;refine af rfl (aa (cd rfl) (aa (av (v:=.bool _) rfl rfl) (ak (ag (xB rfl (fun Q26=>?_) (fun Q26=>?_))))))
  ·(try simp only [Bool.not_eq_true',Bool.not_eq_false',Bool.not_eq_true,Bool.not_eq_false,decide_eq_true_eq,decide_eq_false_iff_not,Bool.or_eq_true,Bool.and_eq_true] at Q26)
   refine an (ah (asb rfl (ak (ag (aC (ay (bh (v:=.bool _) rfl rfl (⟨congrArg Value.bool ?_,(((aj.rfl_.next E1).next E67).next E110)⟩))))))));rw [eq_comm,←Bool.not_eq_true,aO];rintro ⟨⟨n1,n2,n3,⟨n4,n5⟩,n6,n7,n8,n9⟩,⟨g1,g2,g3,g4,g5⟩,v1,l1,⟨p1,p2,p3⟩⟩
   first
    |omega
    |(simp_all;done)
    |(simp_all;omega)
  (try simp only [Bool.not_eq_true',Bool.not_eq_false',Bool.not_eq_true,Bool.not_eq_false,decide_eq_true_eq,decide_eq_false_iff_not,Bool.or_eq_true,Bool.and_eq_true] at Q26)
  refine aR (ag (an (ah (aa (ae bk rfl) (aa (aT (cs:=[.int .i64 s.b,.int .i64 s.t,.slice E s.es.length Ec]) cZ cI rfl (lT (hk1.from_ ((aj.rfl_.next E67).next E110)))) ?_)))));have hm1:cg s.b s.t s.es=true:=by first | assumption | simp_all
  have hbl:=en hm1;have hlr:aQ s=s.b+s.es.length:=hbl.1;refine aG j9 (mD s E s.es.length Ec _ (hrd.e.from_ (((aj.rfl_.next E1).next E67).next E110)) hm1) ?_;rintro v116 w27 ⟨rfl,E116⟩;refine mvt rfl (aa (aS rfl rfl) (aa (aS rfl rfl) (asi rfl (asi rfl (ak (ag (an (an (ah (mvi rfl (aa (ae cB rfl) (aa (aq ar rfl (by exact (hk1.from_ (((aj.rfl_.next E67).next E110).next E116)).rd 3 rfl)) ?_))))))))))));refine aa (bH rfl rfl) (ak (ag (xD rfl (fun Q28=>?_) (fun Q28=>?_))))
  ·refine an (ah (asb rfl (ak (ag (aC (ay (bh (v:=.bool _) rfl rfl (⟨congrArg Value.bool ?_,((((aj.rfl_.next E1).next E67).next E110).next E116)⟩))))))));rw [eq_comm,←Bool.not_eq_true,aO];rintro ⟨⟨n1,n2,n3,⟨n4,n5⟩,n6,n7,n8,n9⟩,⟨g1,g2,g3,g4,g5⟩,v1,l1,⟨p1,p2,p3⟩⟩
   first
    |omega
    |(simp_all;done)
    |(simp_all;omega)
  refine aR (ag (an (an (ah (aa (ae cA rfl) (aa (aq ar rfl (by exact (hk1.from_ (((aj.rfl_.next E67).next E110).next E116)).rd 10 rfl)) ?_))))));refine aa (ae bk rfl) (aa (ae dh rfl) (aa (aq ar rfl (by exact (hk1.from_ (((aj.rfl_.next E67).next E110).next E116)).rd 6 rfl)) ?_));refine aa (bG rfl rfl) (mvb rfl (wK (t:=129) rfl (fun Q29=>?_) (fun Q29=>?_)))
  ·(try simp only [Bool.not_eq_true',Bool.not_eq_false',Bool.not_eq_true,Bool.not_eq_false,decide_eq_true_eq,decide_eq_false_iff_not,Bool.or_eq_true,Bool.and_eq_true] at Q29)
   refine ab rfl rfl (ab rfl rfl (ab rfl rfl (ab rfl rfl (aa (ao (v:=.bool _) rfl rfl) (mvb rfl (ab rfl rfl (ab rfl rfl (ab rfl rfl ?_))))))));refine ab rfl rfl (aa (ao (v:=.bool _) rfl rfl) (mvb rfl (ab rfl rfl (ab rfl rfl (ab rfl rfl (aa (ao (v:=.bool _) rfl rfl) (mvb rfl (ab rfl rfl ?_))))))));refine ab rfl rfl (ab rfl rfl (aa (ao (v:=.bool _) rfl rfl) (mvb rfl (ab rfl rfl (ab rfl rfl (ab rfl rfl (ab rfl rfl (aA rfl ?_))))))));refine aA rfl (aA rfl (ab rfl rfl (aa (ao (v:=.bool _) rfl rfl) (ak (ag (aJ rfl (an (ah (asb rfl (ak (ag (aC (ay ?_)))))))))))));refine bh (v:=.bool _) rfl rfl (⟨congrArg Value.bool ?_,((((aj.rfl_.next E1).next E67).next E110).next E116)⟩);rw [eq_comm,←Bool.not_eq_true,aO];rintro ⟨⟨n1,n2,n3,⟨n4,n5⟩,n6,n7,n8,n9⟩,⟨g1,g2,g3,g4,g5⟩,v1,l1,⟨p1,p2,p3⟩⟩
   first
    |omega
    |(simp_all;done)
    |(simp_all;omega)
  (try simp only [Bool.not_eq_true',Bool.not_eq_false',Bool.not_eq_true,Bool.not_eq_false,decide_eq_true_eq,decide_eq_false_iff_not,Bool.or_eq_true,Bool.and_eq_true] at Q29)
  refine af rfl (aa (ae cA rfl) (af rfl (aa (aq ar rfl (by exact (hk1.from_ (((aj.rfl_.next E67).next E110).next E116)).rd 10 rfl)) ?_)));refine af rfl (mvi rfl (af rfl (aa (bH rfl rfl) (aa (av (v:=.bool _) rfl rfl) (mvb rfl (wK (t:=135) rfl (fun Q30=>?_) (fun Q30=>?_)))))))
  ·(try simp only [Bool.not_eq_true',Bool.not_eq_false',Bool.not_eq_true,Bool.not_eq_false,decide_eq_true_eq,decide_eq_false_iff_not,Bool.or_eq_true,Bool.and_eq_true] at Q30)
   refine ab rfl rfl (ab rfl rfl (ab rfl rfl (ab rfl rfl (aa (ao (v:=.bool _) rfl rfl) (mvb rfl (ab rfl rfl (ab rfl rfl (ab rfl rfl ?_))))))));refine aa (ao (v:=.bool _) rfl rfl) (mvb rfl (ab rfl rfl (ab rfl rfl (ab rfl rfl (aa (ao (v:=.bool _) rfl rfl) (mvb rfl (ab rfl rfl (ab rfl rfl ?_))))))));refine ab rfl rfl (ab rfl rfl (aA rfl (aA rfl (aA rfl (ab rfl rfl (aa (ao (v:=.bool _) rfl rfl) (ak (ag (aJ rfl ?_)))))))));refine an (ah (asb rfl (ak (ag (aC (ay (bh (v:=.bool _) rfl rfl (⟨congrArg Value.bool ?_,((((aj.rfl_.next E1).next E67).next E110).next E116)⟩))))))));rw [eq_comm,←Bool.not_eq_true,aO];rintro ⟨⟨n1,n2,n3,⟨n4,n5⟩,n6,n7,n8,n9⟩,⟨g1,g2,g3,g4,g5⟩,v1,l1,⟨p1,p2,p3⟩⟩
   first
    |omega
    |(simp_all;done)
    |(simp_all;omega)
  (try simp only [Bool.not_eq_true',Bool.not_eq_false',Bool.not_eq_true,Bool.not_eq_false,decide_eq_true_eq,decide_eq_false_iff_not,Bool.or_eq_true,Bool.and_eq_true] at Q30)
  refine af rfl (aa (ae dv rfl) (af rfl (aa (aq bD rfl (by exact (hk1.from_ (((aj.rfl_.next E67).next E110).next E116)).rd 20 rfl)) ?_)));refine af rfl (aa (df (by kernel_rfl) rfl) (af rfl (aa (bH rfl rfl) (aa (av (v:=.bool _) rfl rfl) (mvb rfl (wK (t:=141) rfl (fun Q31=>?_) (fun Q31=>?_)))))))
  ·(try simp only [Bool.not_eq_true',Bool.not_eq_false',Bool.not_eq_true,Bool.not_eq_false,decide_eq_true_eq,decide_eq_false_iff_not,Bool.or_eq_true,Bool.and_eq_true] at Q31)
   refine ab rfl rfl (ab rfl rfl (ab rfl rfl (aa (ao (v:=.bool _) rfl rfl) (mvb rfl (ab rfl rfl (ab rfl rfl (ab rfl rfl (aa (ao (v:=.bool _) rfl rfl) ?_))))))));refine mvb rfl (ab rfl rfl (ab rfl rfl (ab rfl rfl (ab rfl rfl (aA rfl (aA rfl (aA rfl (ab rfl rfl ?_))))))));refine aa (ao (v:=.bool _) rfl rfl) (ak (ag (aJ rfl (an (ah (asb rfl (ak (ag (aC (ay (bh (v:=.bool _) rfl rfl (⟨congrArg Value.bool ?_,((((aj.rfl_.next E1).next E67).next E110).next E116)⟩))))))))))));rw [eq_comm,←Bool.not_eq_true,aO];rintro ⟨⟨n1,n2,n3,⟨n4,n5⟩,n6,n7,n8,n9⟩,⟨g1,g2,g3,g4,g5⟩,v1,l1,⟨p1,p2,p3⟩⟩
   first
    |omega
    |(simp_all;done)
    |(simp_all;omega)
  (try simp only [Bool.not_eq_true',Bool.not_eq_false',Bool.not_eq_true,Bool.not_eq_false,decide_eq_true_eq,decide_eq_false_iff_not,Bool.or_eq_true,Bool.and_eq_true] at Q31)
  refine af rfl (aa (ae di rfl) (af rfl (aa (aq ar rfl (by exact (hk1.from_ (((aj.rfl_.next E67).next E110).next E116)).rd 21 rfl)) ?_)));refine af rfl (aa (bG rfl rfl) (aa (av (v:=.bool _) rfl rfl) (mvb rfl (wK (t:=146) rfl (fun Q32=>?_) (fun Q32=>?_)))))
  ·(try simp only [Bool.not_eq_true',Bool.not_eq_false',Bool.not_eq_true,Bool.not_eq_false,decide_eq_true_eq,decide_eq_false_iff_not,Bool.or_eq_true,Bool.and_eq_true] at Q32)
   refine ab rfl rfl (ab rfl rfl (ab rfl rfl (aa (ao (v:=.bool _) rfl rfl) (mvb rfl (ab rfl rfl (ab rfl rfl (ab rfl rfl (ab rfl rfl ?_))))))));refine aA rfl (aA rfl (aA rfl (ab rfl rfl (aa (ao (v:=.bool _) rfl rfl) (ak (ag (aJ rfl (an (ah (asb rfl ?_))))))))));refine ak (ag (aC (ay (bh (v:=.bool _) rfl rfl (⟨congrArg Value.bool ?_,((((aj.rfl_.next E1).next E67).next E110).next E116)⟩)))));rw [eq_comm,←Bool.not_eq_true,aO];rintro ⟨⟨n1,n2,n3,⟨n4,n5⟩,n6,n7,n8,n9⟩,⟨g1,g2,g3,g4,g5⟩,v1,l1,⟨p1,p2,p3⟩⟩
   first
    |omega
    |(simp_all;done)
    |(simp_all;omega)
  (try simp only [Bool.not_eq_true',Bool.not_eq_false',Bool.not_eq_true,Bool.not_eq_false,decide_eq_true_eq,decide_eq_false_iff_not,Bool.or_eq_true,Bool.and_eq_true] at Q32)
  refine af rfl (aa (ae di rfl) (af rfl (aa (aq ar rfl (by exact (hk1.from_ (((aj.rfl_.next E67).next E110).next E116)).rd 21 rfl)) ?_)));refine af rfl (aa (bH rfl rfl) (aa (av (v:=.bool _) rfl rfl) (mvb rfl (wK (t:=151) rfl (fun Q33=>?_) (fun Q33=>?_)))))
  ·(try simp only [Bool.not_eq_true',Bool.not_eq_false',Bool.not_eq_true,Bool.not_eq_false,decide_eq_true_eq,decide_eq_false_iff_not,Bool.or_eq_true,Bool.and_eq_true] at Q33)
   refine ab rfl rfl (ab rfl rfl (ab rfl rfl (ab rfl rfl (aA rfl (aA rfl (aA rfl (ab rfl rfl (aa (ao (v:=.bool _) rfl rfl) ?_))))))));refine ak (ag (aJ rfl (an (ah (asb rfl (ak (ag (aC (ay (bh (v:=.bool _) rfl rfl (⟨congrArg Value.bool ?_,((((aj.rfl_.next E1).next E67).next E110).next E116)⟩)))))))))));rw [eq_comm,←Bool.not_eq_true,aO];rintro ⟨⟨n1,n2,n3,⟨n4,n5⟩,n6,n7,n8,n9⟩,⟨g1,g2,g3,g4,g5⟩,v1,l1,⟨p1,p2,p3⟩⟩
   first
    |omega
    |(simp_all;done)
    |(simp_all;omega)
  (try simp only [Bool.not_eq_true',Bool.not_eq_false',Bool.not_eq_true,Bool.not_eq_false,decide_eq_true_eq,decide_eq_false_iff_not,Bool.or_eq_true,Bool.and_eq_true] at Q33)
  refine af rfl (aa (ae di rfl) (af rfl (aa (aq ar rfl (by exact (hk1.from_ (((aj.rfl_.next E67).next E110).next E116)).rd 21 rfl)) ?_)));refine af rfl (aa (bC rfl rfl) (af rfl (mvb rfl (wK (t:=155) rfl (fun Q34=>?_) (fun Q34=>?_)))))
  ·(try simp only [Bool.not_eq_true',Bool.not_eq_false',Bool.not_eq_true,Bool.not_eq_false,decide_eq_true_eq,decide_eq_false_iff_not,Bool.or_eq_true,Bool.and_eq_true] at Q34)
   refine af rfl (aa (ae dv rfl) (af rfl (aa (aq bD rfl (by exact (hk1.from_ (((aj.rfl_.next E67).next E110).next E116)).rd 20 rfl)) ?_)));refine af rfl (aa (gk (oD rfl rfl) (congrArg Value.bool (wq s.part))) (af rfl (aa (ao (v:=.bool _) rfl rfl) (aa (av (v:=.bool _) rfl rfl) (ak (ag (xD rfl (fun Q35=>?_) (fun Q35=>?_))))))))
   ·(try simp only [Bool.not_eq_true',Bool.not_eq_false',Bool.not_eq_true,Bool.not_eq_false,decide_eq_true_eq,decide_eq_false_iff_not,Bool.or_eq_true,Bool.and_eq_true] at Q35)
    refine an (ah (asb rfl (ak (ag (aC (ay (bh (v:=.bool _) rfl rfl (⟨congrArg Value.bool ?_,((((aj.rfl_.next E1).next E67).next E110).next E116)⟩))))))));rw [eq_comm,←Bool.not_eq_true,aO];rintro ⟨⟨n1,n2,n3,⟨n4,n5⟩,n6,n7,n8,n9⟩,⟨g1,g2,g3,g4,g5⟩,v1,l1,⟨p1,p2,p3⟩⟩
    first
     |omega
     |(simp_all;done)
     |(simp_all;omega)
   (try simp only [Bool.not_eq_true',Bool.not_eq_false',Bool.not_eq_true,Bool.not_eq_false,decide_eq_true_eq,decide_eq_false_iff_not,Bool.or_eq_true,Bool.and_eq_true] at Q35)
   refine aR (ag (an (ah (asi rfl (ak (ag (an (an (ah (aa (ae cF rfl) (aa (aq ar rfl (by exact (hk1.from_ (((aj.rfl_.next E67).next E110).next E116)).rd 2 rfl)) ?_)))))))))));refine aa (bC rfl rfl) (ak (ag (xD rfl (fun Q36=>?_) (fun Q36=>?_))))
   ·refine ah (aa (ae bw rfl) (aa (aq ar rfl (by exact (hk1.from_ (((aj.rfl_.next E67).next E110).next E116)).rd 1 rfl)) ?_));refine asi rfl (ak (ag (an (an (ah (aa (ae bu rfl) (aa (aq aM rfl (by exact (show _=some (Value.slice X s.next.length Xc) from (hk1.from_ (((aj.rfl_.next E67).next E110).next E116)).rd 15 rfl))) ?_)))))));refine mvi rfl (mvi rfl (aa (bE rfl rfl (by omega)) (aG cS (eT X Xc s.next _ 1 (aQ s+1) _ (hrd.x.1.from_ ((((aj.rfl_.next E1).next E67).next E110).next E116)) hl2) ?_)));rintro v171 w37 ⟨rfl,E171⟩;refine aa (cd rfl) (mvb rfl (aE (t:=173) rfl (fun Q38=>?_) (fun Q38=>?_)))
    ·with_reducible (replace Q38:=dc Q38;replace Q38:=dF_ Q38)
     (try simp only [Bool.not_eq_true',Bool.not_eq_false',Bool.not_eq_true,Bool.not_eq_false,decide_eq_true_eq,decide_eq_false_iff_not,Bool.or_eq_true,Bool.and_eq_true] at Q38)
     refine ab rfl rfl (ab rfl rfl (ab rfl rfl (ab rfl rfl (ab rfl rfl (ab rfl rfl (aa (ao (v:=.bool _) rfl rfl) (mvb rfl (ab rfl rfl ?_))))))));refine ab rfl rfl (ab rfl rfl (ab rfl rfl (ab rfl rfl (ab rfl rfl (ab rfl rfl (ab rfl rfl (aa (ao (v:=.bool _) rfl rfl) (mvb rfl ?_))))))));refine ab rfl rfl (ab rfl rfl (ab rfl rfl (ab rfl rfl (aa (ao (v:=.bool _) rfl rfl) (mvb rfl (ab rfl rfl (ab rfl rfl (ab rfl rfl ?_))))))));refine aA rfl (aA rfl (aA rfl (aA rfl (ab rfl rfl (aa (ao (v:=.bool _) rfl rfl) (ak (ag (aJ rfl (an (ah ?_))))))))));refine asb rfl (ak (ag (aC (ay (bh (v:=.bool _) rfl rfl (⟨congrArg Value.bool ?_,(((((aj.rfl_.next E1).next E67).next E110).next E116).next E171)⟩))))));rw [eq_comm,←Bool.not_eq_true,aO];rintro ⟨⟨n1,n2,n3,⟨n4,n5⟩,n6,n7,n8,n9⟩,⟨g1,g2,g3,g4,g5⟩,v1,l1,⟨p1,p2,p3⟩⟩;by_cases hro:s.role=2
     ·rw [aN hro] at l1;obtain ⟨⟨l2,l3,l4,l5⟩,⟨l6,l7,l8⟩,l9⟩:=l1
      first
       |omega
       |(rename_i q9;exact q9 ⟨by omega,by assumption⟩)
       |(simp_all [bc];done)
       |(simp_all [bc];omega)
     ·rw [a_ hro] at l1;have e1:s.next=[]:=List.eq_nil_of_length_eq_zero (by omega);have e2:s.mtch=[]:=List.eq_nil_of_length_eq_zero (by omega);have e3:s.sent=[]:=List.eq_nil_of_length_eq_zero (by omega)
      first
       |omega
       |(simp_all [bc,bP];done)
       |(simp_all [bc,bP];omega)
    with_reducible (replace Q38:=dd Q38;replace Q38:=dT_ Q38)
    (try simp only [Bool.not_eq_true',Bool.not_eq_false',Bool.not_eq_true,Bool.not_eq_false,decide_eq_true_eq,decide_eq_false_iff_not,Bool.or_eq_true,Bool.and_eq_true] at Q38)
    refine af rfl (aa (ae bM rfl) (af rfl (aa (aq aM rfl (by exact (show _=some (Value.slice M s.mtch.length Mc) from (hk1.from_ ((((aj.rfl_.next E67).next E110).next E116).next E171)).rd 16 rfl))) ?_)));refine af rfl (mvi rfl (af rfl (mvi rfl (af rfl (aG cS (eT M Mc s.mtch _ 0 (aQ s) _ (hrd.m.1.from_ (((((aj.rfl_.next E1).next E67).next E110).next E116).next E171)) hl3) ?_)))));rintro v178 w39 ⟨rfl,E178⟩;refine af rfl (aa (cd rfl) (aa (av (v:=.bool _) rfl rfl) (mvb rfl (aE (t:=181) rfl (fun Q40=>?_) (fun Q40=>?_)))))
    ·with_reducible (replace Q40:=dc Q40;replace Q40:=dF_ Q40)
     (try simp only [Bool.not_eq_true',Bool.not_eq_false',Bool.not_eq_true,Bool.not_eq_false,decide_eq_true_eq,decide_eq_false_iff_not,Bool.or_eq_true,Bool.and_eq_true] at Q40)
     refine ab rfl rfl (ab rfl rfl (ab rfl rfl (ab rfl rfl (ab rfl rfl (ab rfl rfl (ab rfl rfl (ab rfl rfl (aa (ao (v:=.bool _) rfl rfl) ?_))))))));refine mvb rfl (ab rfl rfl (ab rfl rfl (ab rfl rfl (ab rfl rfl (aa (ao (v:=.bool _) rfl rfl) (mvb rfl (ab rfl rfl (ab rfl rfl ?_))))))));refine ab rfl rfl (aA rfl (aA rfl (aA rfl (aA rfl (ab rfl rfl (aa (ao (v:=.bool _) rfl rfl) (ak (ag (aJ rfl ?_)))))))));refine an (ah (asb rfl (ak (ag (aC (ay (bh (v:=.bool _) rfl rfl (⟨congrArg Value.bool ?_,((((((aj.rfl_.next E1).next E67).next E110).next E116).next E171).next E178)⟩))))))));rw [eq_comm,←Bool.not_eq_true,aO];rintro ⟨⟨n1,n2,n3,⟨n4,n5⟩,n6,n7,n8,n9⟩,⟨g1,g2,g3,g4,g5⟩,v1,l1,⟨p1,p2,p3⟩⟩;by_cases hro:s.role=2
     ·rw [aN hro] at l1;obtain ⟨⟨l2,l3,l4,l5⟩,⟨l6,l7,l8⟩,l9⟩:=l1
      first
       |omega
       |(rename_i q9;exact q9 ⟨by omega,by assumption⟩)
       |(simp_all [bc];done)
       |(simp_all [bc];omega)
     ·rw [a_ hro] at l1;have e1:s.next=[]:=List.eq_nil_of_length_eq_zero (by omega);have e2:s.mtch=[]:=List.eq_nil_of_length_eq_zero (by omega);have e3:s.sent=[]:=List.eq_nil_of_length_eq_zero (by omega)
      first
       |omega
       |(simp_all [bc,bP];done)
       |(simp_all [bc,bP];omega)
    with_reducible (replace Q40:=dd Q40;replace Q40:=dT_ Q40)
    (try simp only [Bool.not_eq_true',Bool.not_eq_false',Bool.not_eq_true,Bool.not_eq_false,decide_eq_true_eq,decide_eq_false_iff_not,Bool.or_eq_true,Bool.and_eq_true] at Q40)
    refine af rfl (aa (ae bW rfl) (af rfl (aa (aq aM rfl (by exact (show _=some (Value.slice Sn s.sent.length Sc) from (hk1.from_ (((((aj.rfl_.next E67).next E110).next E116).next E171).next E178)).rd 17 rfl))) ?_)));refine af rfl (mvi rfl (af rfl (aa (ae cf rfl) (af rfl (aa (aq bD rfl (by exact (hk1.from_ (((((aj.rfl_.next E67).next E110).next E116).next E171).next E178)).rd 9 rfl)) ?_)))));refine af rfl (aa (df (by kernel_rfl) rfl) (af rfl (aG cS (eT Sn Sc s.sent _ 0 (s.snap.size:Nat) _ (hrd.n.1.from_ ((((((aj.rfl_.next E1).next E67).next E110).next E116).next E171).next E178)) hl4) ?_)));rintro v188 w41 ⟨rfl,E188⟩;refine af rfl (aa (cd rfl) (aa (av (v:=.bool _) rfl rfl) (mvb rfl (aE (t:=191) rfl (fun Q42=>?_) (fun Q42=>?_)))))
    ·with_reducible (replace Q42:=dc Q42;replace Q42:=dF_ Q42)
     (try simp only [Bool.not_eq_true',Bool.not_eq_false',Bool.not_eq_true,Bool.not_eq_false,decide_eq_true_eq,decide_eq_false_iff_not,Bool.or_eq_true,Bool.and_eq_true] at Q42)
     refine ab rfl rfl (ab rfl rfl (ab rfl rfl (ab rfl rfl (aa (ao (v:=.bool _) rfl rfl) (mvb rfl (ab rfl rfl (ab rfl rfl (ab rfl rfl ?_))))))));refine aA rfl (aA rfl (aA rfl (aA rfl (ab rfl rfl (aa (ao (v:=.bool _) rfl rfl) (ak (ag (aJ rfl (an (ah ?_))))))))));refine asb rfl (ak (ag (aC (ay (bh (v:=.bool _) rfl rfl (⟨congrArg Value.bool ?_,(((((((aj.rfl_.next E1).next E67).next E110).next E116).next E171).next E178).next E188)⟩))))));rw [eq_comm,←Bool.not_eq_true,aO];rintro ⟨⟨n1,n2,n3,⟨n4,n5⟩,n6,n7,n8,n9⟩,⟨g1,g2,g3,g4,g5⟩,v1,l1,⟨p1,p2,p3⟩⟩;by_cases hro:s.role=2
     ·rw [aN hro] at l1;obtain ⟨⟨l2,l3,l4,l5⟩,⟨l6,l7,l8⟩,l9⟩:=l1
      first
       |omega
       |(rename_i q9;exact q9 ⟨by omega,by assumption⟩)
       |(simp_all [bc];done)
       |(simp_all [bc];omega)
     ·rw [a_ hro] at l1;have e1:s.next=[]:=List.eq_nil_of_length_eq_zero (by omega);have e2:s.mtch=[]:=List.eq_nil_of_length_eq_zero (by omega);have e3:s.sent=[]:=List.eq_nil_of_length_eq_zero (by omega)
      first
       |omega
       |(simp_all [bc,bP];done)
       |(simp_all [bc,bP];omega)
    with_reducible (replace Q42:=dd Q42;replace Q42:=dT_ Q42)
    (try simp only [Bool.not_eq_true',Bool.not_eq_false',Bool.not_eq_true,Bool.not_eq_false,decide_eq_true_eq,decide_eq_false_iff_not,Bool.or_eq_true,Bool.and_eq_true] at Q42)
    refine af rfl (aa (ae bd rfl) (af rfl (aa (aq bn rfl (by exact (show _=some (Value.slice Q LL.length Qc) from (hk1.from_ ((((((aj.rfl_.next E67).next E110).next E116).next E171).next E178).next E188)).rd 19 rfl))) ?_)));refine af rfl (aa (bm bI rfl) (af rfl (aa (bH rfl rfl) (aa (av (v:=.bool _) rfl rfl) (mvb rfl (wK (t:=197) rfl (fun Q43=>?_) (fun Q43=>?_)))))))
    ·(try simp only [Bool.not_eq_true',Bool.not_eq_false',Bool.not_eq_true,Bool.not_eq_false,decide_eq_true_eq,decide_eq_false_iff_not,Bool.or_eq_true,Bool.and_eq_true] at Q43)
     refine ab rfl rfl (ab rfl rfl (ab rfl rfl (aA rfl (aA rfl (aA rfl (aA rfl (ab rfl rfl (aa (ao (v:=.bool _) rfl rfl) ?_))))))));refine ak (ag (aJ rfl (an (ah (asb rfl (ak (ag (aC (ay (bh (v:=.bool _) rfl rfl (⟨congrArg Value.bool ?_,(((((((aj.rfl_.next E1).next E67).next E110).next E116).next E171).next E178).next E188)⟩)))))))))));rw [eq_comm,←Bool.not_eq_true,aO];rintro ⟨⟨n1,n2,n3,⟨n4,n5⟩,n6,n7,n8,n9⟩,⟨g1,g2,g3,g4,g5⟩,v1,l1,⟨p1,p2,p3⟩⟩;by_cases hro:s.role=2
     ·rw [aN hro] at l1;obtain ⟨⟨l2,l3,l4,l5⟩,⟨l6,l7,l8⟩,l9⟩:=l1
      first
       |omega
       |(rename_i q9;exact q9 ⟨by omega,by assumption⟩)
       |(simp_all [bc];done)
       |(simp_all [bc];omega)
     ·rw [a_ hro] at l1;have e1:s.next=[]:=List.eq_nil_of_length_eq_zero (by omega);have e2:s.mtch=[]:=List.eq_nil_of_length_eq_zero (by omega);have e3:s.sent=[]:=List.eq_nil_of_length_eq_zero (by omega)
      first
       |omega
       |(simp_all [bc,bP];done)
       |(simp_all [bc,bP];omega)
    (try simp only [Bool.not_eq_true',Bool.not_eq_false',Bool.not_eq_true,Bool.not_eq_false,decide_eq_true_eq,decide_eq_false_iff_not,Bool.or_eq_true,Bool.and_eq_true] at Q43)
    refine af rfl (mvi rfl (af rfl (aa (bC rfl rfl) (af rfl (mvb rfl (wK (t:=200) rfl (fun Q44=>?_) (fun Q44=>?_)))))))
    ·(try simp only [Bool.not_eq_true',Bool.not_eq_false',Bool.not_eq_true,Bool.not_eq_false,decide_eq_true_eq,decide_eq_false_iff_not,Bool.or_eq_true,Bool.and_eq_true] at Q44)
     exfalso;omega
    (try simp only [Bool.not_eq_true',Bool.not_eq_false',Bool.not_eq_true,Bool.not_eq_false,decide_eq_true_eq,decide_eq_false_iff_not,Bool.or_eq_true,Bool.and_eq_true] at Q44)
    refine ab rfl rfl (ab rfl rfl (ab rfl rfl (ab rfl rfl (af rfl (aa (av (v:=.bool _) rfl rfl) (aa (av (v:=.bool _) rfl rfl) (ak (ag (ck rfl ?_)))))))));refine aR (ag (an (an (ah (asi rfl (ak (ag (bf (cz (G:=Nat) [2,7,207,208,209,210,211,212,213,214,215,216,217,218,219,220,221,222,223,224,225,226,227,228,229,230,231,232,233,234,235,236,237,238,239,240,241,242,243,244,245,246,247,248,249,250,251,252,253,254,255,256,257,258] (fun k=>[(6,.int .i64 (k:Nat))]) (fun k w'=>k≤LL.length∧(∀ j (h:j<LL.length),j<k→ez s LL[j].1=true)∧Blk w' b1 29 (rfV s (⟨E,Ec,V,Vc,X,Xc,M,Mc,Sn,Sc,Q,Qc,LL⟩:Ra)).toArray∧aj w w') (fun k=>LL.length-k) (0) ⟨rfl,trivial⟩ ?_ ?_)))))))))
    ·exact ⟨Nat.zero_le _,fun j _ h=>absurd h (by omega),hk1.from_ ((((((aj.rfl_.next E67).next E110).next E116).next E171).next E178).next E188),(((((((aj.rfl_.next E1).next E67).next E110).next E116).next E171).next E178).next E188)⟩
    rintro k ρ58 w58 ⟨hk,h1,hk1,hB⟩;refine an (an (ah (mvi rfl (aa (ae bd rfl) (aa (aq bn rfl (by exact (show _=some (Value.slice Q LL.length Qc) from (hk1.from_ aj.rfl_).rd 19 rfl))) ?_)))));refine aa (bm bI rfl) (aa (bG rfl rfl) (ak (ag (xD rfl (fun Q59=>?_) (fun Q59=>?_)))))
    ·have hkL:k<LL.length:=by omega
     have hqm:LL[k].1∈s.reads:=by rw [←hrL];exact List.mem_map_of_mem (List.getElem_mem hkL)
     obtain ⟨ba,oa,rfl,hcs⟩:∃ b o,Q=some ⟨b,o,none⟩∧∀ i (hi:i<LL.length),w.rangeAt b (o+i*4) (rdV LL[i]):=hrd.q (by show 0<LL.length;omega);refine aR (ag (an (bf (an (ah (aa (ae bd rfl) (aa (aq bn rfl (by exact (show _=some (Value.slice (some ⟨ba,oa,none⟩) LL.length Qc) from (hk1.from_ aj.rfl_).rd 19 rfl))) ?_)))))));refine mvi rfl (aa (bL dC rfl rfl (by omega)) (aa (aT (cs:=rdV LL[k]) dX cN rfl (eN hB (hcs k hkL))) (cq e_ ?_)));intro b7 w60 E7 hb7 hk7;have hg7:w.heap.size≤b7:=by rw [hb7];exact (hB).size
     have hk1L:=hk1.from_ (aj.rfl_.next E7);have hn7:b1≠b7:=by have:=hk1.lt;have:=((aj.rfl_.next E7)).size;omega
     refine cu (vs:=[_,_,_,_]) cN rfl rfl (by simp [Value.oneCell']) (hk7) rfl ?_;intro w61 O16 P16;replace hk1:=hk1L.only O16 hn7;refine ak (ag (an (ah (aa (ae dz rfl) (aa (aq ar rfl (by exact (show _=some (Value.int .i64 LL[k].1.id) from (P16.from_ aj.rfl_).rd 0 rfl))) ?_)))));refine aa (bG rfl rfl) (mvb rfl (wK (t:=222) rfl (fun Q62=>?_) (fun Q62=>?_)))
     ·(try simp only [Bool.not_eq_true',Bool.not_eq_false',Bool.not_eq_true,Bool.not_eq_false,decide_eq_true_eq,decide_eq_false_iff_not,Bool.or_eq_true,Bool.and_eq_true] at Q62)
      refine ab rfl rfl (ab rfl rfl (ab rfl rfl (aa (ao (v:=.bool _) rfl rfl) (mvb rfl (ab rfl rfl (ab rfl rfl (ab rfl rfl (aa (ao (v:=.bool _) rfl rfl) ?_))))))));refine mvb rfl (ab rfl rfl (ab rfl rfl (ab rfl rfl (ab rfl rfl (ab rfl rfl (aa (ao (v:=.bool _) rfl rfl) (mvb rfl (ab rfl rfl ?_))))))));refine ab rfl rfl (ab rfl rfl (aa (ao (v:=.bool _) rfl rfl) (mvb rfl (ab rfl rfl (ab rfl rfl (ab rfl rfl (ab rfl rfl (ab rfl rfl ?_))))))));refine aa (ao (v:=.bool _) rfl rfl) (mvb rfl (ab rfl rfl (ab rfl rfl (ab rfl rfl (ab rfl rfl (ab rfl rfl (ab rfl rfl (aa (ao (v:=.bool _) rfl rfl) ?_))))))));refine ak (ag (aJ rfl (an (ah (asb rfl (ak (ag (aC (aZ (ay (ay (aZ (ay (bh (v:=.bool _) rfl rfl (⟨congrArg Value.bool ?_,((hB.next E7).only O16 (hg7))⟩)))))))))))))));rw [eq_comm,←Bool.not_eq_true,aO];rintro ⟨_,_,_,l1,_⟩;by_cases hro:s.role=2
      ·rw [aN hro] at l1;have g5:=bS.1 (l1.2.2 _ hqm)
       first
        |omega
        |(simp_all;done)
      ·rw [a_ hro] at l1;omega
     (try simp only [Bool.not_eq_true',Bool.not_eq_false',Bool.not_eq_true,Bool.not_eq_false,decide_eq_true_eq,decide_eq_false_iff_not,Bool.or_eq_true,Bool.and_eq_true] at Q62)
     refine af rfl (aa (ae dz rfl) (af rfl (aa (aq ar rfl (by exact (show _=some (Value.int .i64 LL[k].1.id) from (P16.from_ aj.rfl_).rd 0 rfl))) ?_)));refine af rfl (aa (bH rfl rfl) (aa (av (v:=.bool _) rfl rfl) (mvb rfl (wK (t:=227) rfl (fun Q63=>?_) (fun Q63=>?_)))))
     ·(try simp only [Bool.not_eq_true',Bool.not_eq_false',Bool.not_eq_true,Bool.not_eq_false,decide_eq_true_eq,decide_eq_false_iff_not,Bool.or_eq_true,Bool.and_eq_true] at Q63)
      refine ab rfl rfl (ab rfl rfl (ab rfl rfl (aa (ao (v:=.bool _) rfl rfl) (mvb rfl (ab rfl rfl (ab rfl rfl (ab rfl rfl (ab rfl rfl ?_))))))));refine ab rfl rfl (aa (ao (v:=.bool _) rfl rfl) (mvb rfl (ab rfl rfl (ab rfl rfl (ab rfl rfl (aa (ao (v:=.bool _) rfl rfl) (mvb rfl (ab rfl rfl ?_))))))));refine ab rfl rfl (ab rfl rfl (ab rfl rfl (ab rfl rfl (aa (ao (v:=.bool _) rfl rfl) (mvb rfl (ab rfl rfl (ab rfl rfl (ab rfl rfl ?_))))))));refine ab rfl rfl (ab rfl rfl (ab rfl rfl (aa (ao (v:=.bool _) rfl rfl) (ak (ag (aJ rfl (an (ah (asb rfl (ak (ag (aC (aZ (ay (ay (aZ (ay ?_)))))))))))))))));refine bh (v:=.bool _) rfl rfl (⟨congrArg Value.bool ?_,((hB.next E7).only O16 (hg7))⟩);rw [eq_comm,←Bool.not_eq_true,aO];rintro ⟨_,_,_,l1,_⟩;by_cases hro:s.role=2
      ·rw [aN hro] at l1;have g5:=bS.1 (l1.2.2 _ hqm)
       first
        |omega
        |(simp_all;done)
      ·rw [a_ hro] at l1;omega
     (try simp only [Bool.not_eq_true',Bool.not_eq_false',Bool.not_eq_true,Bool.not_eq_false,decide_eq_true_eq,decide_eq_false_iff_not,Bool.or_eq_true,Bool.and_eq_true] at Q63)
     refine af rfl (aa (ae dy rfl) (af rfl (aa (aq ar rfl (by exact (show _=some (Value.int .i64 LL[k].1.ix) from (P16.from_ aj.rfl_).rd 1 rfl))) ?_)));refine af rfl (aa (bG rfl rfl) (aa (av (v:=.bool _) rfl rfl) (mvb rfl (wK (t:=232) rfl (fun Q64=>?_) (fun Q64=>?_)))))
     ·(try simp only [Bool.not_eq_true',Bool.not_eq_false',Bool.not_eq_true,Bool.not_eq_false,decide_eq_true_eq,decide_eq_false_iff_not,Bool.or_eq_true,Bool.and_eq_true] at Q64)
      refine ab rfl rfl (ab rfl rfl (ab rfl rfl (ab rfl rfl (ab rfl rfl (aa (ao (v:=.bool _) rfl rfl) (mvb rfl (ab rfl rfl (ab rfl rfl ?_))))))));refine ab rfl rfl (aa (ao (v:=.bool _) rfl rfl) (mvb rfl (ab rfl rfl (ab rfl rfl (ab rfl rfl (ab rfl rfl (ab rfl rfl (aa (ao (v:=.bool _) rfl rfl) ?_))))))));refine mvb rfl (ab rfl rfl (ab rfl rfl (ab rfl rfl (ab rfl rfl (ab rfl rfl (ab rfl rfl (aa (ao (v:=.bool _) rfl rfl) (ak (ag ?_)))))))));refine aJ rfl (an (ah (asb rfl (ak (ag (aC (aZ (ay (ay (aZ (ay (bh (v:=.bool _) rfl rfl (⟨congrArg Value.bool ?_,((hB.next E7).only O16 (hg7))⟩)))))))))))));rw [eq_comm,←Bool.not_eq_true,aO];rintro ⟨_,_,_,l1,_⟩;by_cases hro:s.role=2
      ·rw [aN hro] at l1;have g5:=bS.1 (l1.2.2 _ hqm)
       first
        |omega
        |(simp_all;done)
      ·rw [a_ hro] at l1;omega
     (try simp only [Bool.not_eq_true',Bool.not_eq_false',Bool.not_eq_true,Bool.not_eq_false,decide_eq_true_eq,decide_eq_false_iff_not,Bool.or_eq_true,Bool.and_eq_true] at Q64)
     refine af rfl (aa (ae dy rfl) (af rfl (aa (aq ar rfl (by exact (show _=some (Value.int .i64 LL[k].1.ix) from (P16.from_ aj.rfl_).rd 1 rfl))) ?_)));refine af rfl (aa (ae cA rfl) (af rfl (aa (aq ar rfl (by exact (hk1.from_ aj.rfl_).rd 10 rfl)) ?_)));refine af rfl (aa (bH rfl rfl) (aa (av (v:=.bool _) rfl rfl) (mvb rfl (wK (t:=239) rfl (fun Q65=>?_) (fun Q65=>?_)))))
     ·(try simp only [Bool.not_eq_true',Bool.not_eq_false',Bool.not_eq_true,Bool.not_eq_false,decide_eq_true_eq,decide_eq_false_iff_not,Bool.or_eq_true,Bool.and_eq_true] at Q65)
      refine ab rfl rfl (ab rfl rfl (ab rfl rfl (aa (ao (v:=.bool _) rfl rfl) (mvb rfl (ab rfl rfl (ab rfl rfl (ab rfl rfl (ab rfl rfl ?_))))))));refine ab rfl rfl (aa (ao (v:=.bool _) rfl rfl) (mvb rfl (ab rfl rfl (ab rfl rfl (ab rfl rfl (ab rfl rfl (ab rfl rfl (ab rfl rfl ?_))))))));refine aa (ao (v:=.bool _) rfl rfl) (ak (ag (aJ rfl (an (ah (asb rfl (ak (ag (aC (aZ (ay (ay (aZ (ay (bh (v:=.bool _) rfl rfl (⟨congrArg Value.bool ?_,((hB.next E7).only O16 (hg7))⟩))))))))))))))));rw [eq_comm,←Bool.not_eq_true,aO];rintro ⟨_,_,_,l1,_⟩;by_cases hro:s.role=2
      ·rw [aN hro] at l1;have g5:=bS.1 (l1.2.2 _ hqm)
       first
        |omega
        |(simp_all;done)
      ·rw [a_ hro] at l1;omega
     (try simp only [Bool.not_eq_true',Bool.not_eq_false',Bool.not_eq_true,Bool.not_eq_false,decide_eq_true_eq,decide_eq_false_iff_not,Bool.or_eq_true,Bool.and_eq_true] at Q65)
     refine af rfl (aa (ae dw rfl) (af rfl (aa (aq ar rfl (by exact (show _=some (Value.int .i64 LL[k].1.rn) from (P16.from_ aj.rfl_).rd 2 rfl))) ?_)));refine af rfl (aa (bG rfl rfl) (aa (av (v:=.bool _) rfl rfl) (mvb rfl (wK (t:=244) rfl (fun Q66=>?_) (fun Q66=>?_)))))
     ·(try simp only [Bool.not_eq_true',Bool.not_eq_false',Bool.not_eq_true,Bool.not_eq_false,decide_eq_true_eq,decide_eq_false_iff_not,Bool.or_eq_true,Bool.and_eq_true] at Q66)
      refine ab rfl rfl (ab rfl rfl (ab rfl rfl (ab rfl rfl (ab rfl rfl (aa (ao (v:=.bool _) rfl rfl) (mvb rfl (ab rfl rfl (ab rfl rfl ?_))))))));refine ab rfl rfl (ab rfl rfl (ab rfl rfl (ab rfl rfl (aa (ao (v:=.bool _) rfl rfl) (ak (ag (aJ rfl (an (ah (asb rfl ?_))))))))));refine ak (ag (aC (aZ (ay (ay (aZ (ay (bh (v:=.bool _) rfl rfl (⟨congrArg Value.bool ?_,((hB.next E7).only O16 (hg7))⟩)))))))));rw [eq_comm,←Bool.not_eq_true,aO];rintro ⟨_,_,_,l1,_⟩;by_cases hro:s.role=2
      ·rw [aN hro] at l1;have g5:=bS.1 (l1.2.2 _ hqm)
       first
        |omega
        |(simp_all;done)
      ·rw [a_ hro] at l1;omega
     (try simp only [Bool.not_eq_true',Bool.not_eq_false',Bool.not_eq_true,Bool.not_eq_false,decide_eq_true_eq,decide_eq_false_iff_not,Bool.or_eq_true,Bool.and_eq_true] at Q66)
     refine af rfl (aa (ae dw rfl) (af rfl (aa (aq ar rfl (by exact (show _=some (Value.int .i64 LL[k].1.rn) from (P16.from_ aj.rfl_).rd 2 rfl))) ?_)));refine af rfl (aa (ae cL rfl) (af rfl (aa (aq ar rfl (by exact (hk1.from_ aj.rfl_).rd 18 rfl)) ?_)));refine af rfl (aa (bH rfl rfl) (aa (av (v:=.bool _) rfl rfl) (mvb rfl (wK (t:=251) rfl (fun Q67=>?_) (fun Q67=>?_)))))
     ·(try simp only [Bool.not_eq_true',Bool.not_eq_false',Bool.not_eq_true,Bool.not_eq_false,decide_eq_true_eq,decide_eq_false_iff_not,Bool.or_eq_true,Bool.and_eq_true] at Q67)
      refine ab rfl rfl (ab rfl rfl (ab rfl rfl (ab rfl rfl (ab rfl rfl (ab rfl rfl (aa (ao (v:=.bool _) rfl rfl) (ak (ag (aJ rfl ?_)))))))));refine an (ah (asb rfl (ak (ag (aC (aZ (ay (ay (aZ (ay (bh (v:=.bool _) rfl rfl (⟨congrArg Value.bool ?_,((hB.next E7).only O16 (hg7))⟩))))))))))));rw [eq_comm,←Bool.not_eq_true,aO];rintro ⟨_,_,_,l1,_⟩;by_cases hro:s.role=2
      ·rw [aN hro] at l1;have g5:=bS.1 (l1.2.2 _ hqm)
       first
        |omega
        |(simp_all;done)
      ·rw [a_ hro] at l1;omega
     (try simp only [Bool.not_eq_true',Bool.not_eq_false',Bool.not_eq_true,Bool.not_eq_false,decide_eq_true_eq,decide_eq_false_iff_not,Bool.or_eq_true,Bool.and_eq_true] at Q67)
     refine af rfl (aa (ae c_ rfl) (af rfl (aa (aq aM rfl (by exact (show _=some (Value.slice LL[k].2.1 LL[k].1.acks.length LL[k].2.2) from (P16.from_ aj.rfl_).rd 3 rfl))) ?_)));refine af rfl (aa (ae bw rfl) (af rfl (aa (aq ar rfl (by exact (hk1.from_ aj.rfl_).rd 1 rfl)) ?_)));refine af rfl (aG gC (k0 LL[k].2.1 LL[k].2.2 LL[k].1.acks s.nodes _ ((hrk _ (List.getElem_mem hkL)).1.from_ ((hB.next E7).only O16 (hg7))) (hl6 _ hqm)) ?_);rintro v256 w68 ⟨rfl,E256⟩;refine af rfl (aa (cd rfl) (aa (av (v:=.bool _) rfl rfl) (ak (ag (xB rfl (fun Q69=>?_) (fun Q69=>?_))))))
     ·(try simp only [Bool.not_eq_true',Bool.not_eq_false',Bool.not_eq_true,Bool.not_eq_false,decide_eq_true_eq,decide_eq_false_iff_not,Bool.or_eq_true,Bool.and_eq_true] at Q69)
      refine an (ah (asb rfl (ak (ag (aC (aZ (ay (ay (aZ (ay (bh (v:=.bool _) rfl rfl (⟨congrArg Value.bool ?_,(((hB.next E7).only O16 (hg7)).next E256)⟩))))))))))));rw [eq_comm,←Bool.not_eq_true,aO];rintro ⟨_,_,_,l1,_⟩;by_cases hro:s.role=2
      ·rw [aN hro] at l1;have g5:=bS.1 (l1.2.2 _ hqm)
       first
        |omega
        |(simp_all;done)
      ·rw [a_ hro] at l1;omega
     (try simp only [Bool.not_eq_true',Bool.not_eq_false',Bool.not_eq_true,Bool.not_eq_false,decide_eq_true_eq,decide_eq_false_iff_not,Bool.or_eq_true,Bool.and_eq_true] at Q69)
     refine aR (bN (ag (ah (mvi rfl (aa (bE rfl rfl (by omega)) (asi rfl (ak ?_)))))));refine cK (k+1) ⟨(by first | rfl | (refine br ?_;omega)),trivial⟩ (by (iterate 115 refine bQ rfl ?_);exact b_) ⟨?_,?_⟩
     ·refine ⟨by omega,fun j h hj=>?_,hk1.from_ (aj.rfl_.next E256),(((hB.next E7).only O16 (hg7)).next E256)⟩;rcases Nat.lt_or_ge j k with e | e
      ·exact h1 j h e
      ·obtain rfl:j=k:=by omega
       rw [bS];exact ⟨by omega,by omega,by omega,by first | assumption | simp_all⟩
     ·omega
    refine bZ (bg (bg (bF (ag (an (ah (asb rfl (ak (ag (aC (bh (v:=.bool _) rfl rfl (⟨congrArg Value.bool ?_,hB⟩))))))))))));rw [eq_comm,aO]
    have hrd9:∀ q∈s.reads,ez s q=true:=fun q hq=>by
     rw [←hrL] at hq;obtain ⟨y,hy,rfl⟩:=List.mem_map.1 hq;obtain ⟨i,hi,rfl⟩:=List.getElem_of_mem hy;exact h1 i hi (by omega)
    refine ⟨⟨by omega,by omega,by omega,⟨by omega,by omega⟩,by omega,by omega,by omega,by omega⟩,⟨by simp_all,by omega,by omega,by omega,by omega⟩,by simp_all,?_,⟨by omega,by omega,by omega⟩⟩;by_cases hro:s.role=2
    ·rw [aN hro];refine ⟨⟨?_,?_,?_,?_⟩,⟨?_,?_,?_⟩,hrd9⟩ <;> first | omega | (simp_all [bc];done) | (simp_all [bc];omega)
    ·rw [a_ hro]
     simp_all
   refine aR (ag (an (an (ah (aa (ae bu rfl) (aa (aq aM rfl (by exact (show _=some (Value.slice X s.next.length Xc) from (hk1.from_ (((aj.rfl_.next E67).next E110).next E116)).rd 15 rfl))) ?_))))));refine mvi rfl (mvi rfl (aa (bE rfl rfl (by omega)) (aG cS (eT X Xc s.next _ 1 (aQ s+1) _ (hrd.x.1.from_ ((((aj.rfl_.next E1).next E67).next E110).next E116)) hl2) ?_)));rintro v171 w70 ⟨rfl,E171⟩;refine aa (cd rfl) (mvb rfl (aE (t:=173) rfl (fun Q71=>?_) (fun Q71=>?_)))
   ·with_reducible (replace Q71:=dc Q71;replace Q71:=dF_ Q71)
    (try simp only [Bool.not_eq_true',Bool.not_eq_false',Bool.not_eq_true,Bool.not_eq_false,decide_eq_true_eq,decide_eq_false_iff_not,Bool.or_eq_true,Bool.and_eq_true] at Q71)
    refine ab rfl rfl (ab rfl rfl (ab rfl rfl (ab rfl rfl (ab rfl rfl (ab rfl rfl (aa (ao (v:=.bool _) rfl rfl) (mvb rfl (ab rfl rfl ?_))))))));refine ab rfl rfl (ab rfl rfl (ab rfl rfl (ab rfl rfl (ab rfl rfl (ab rfl rfl (ab rfl rfl (aa (ao (v:=.bool _) rfl rfl) (mvb rfl ?_))))))));refine ab rfl rfl (ab rfl rfl (ab rfl rfl (ab rfl rfl (aa (ao (v:=.bool _) rfl rfl) (mvb rfl (ab rfl rfl (ab rfl rfl (ab rfl rfl ?_))))))));refine aA rfl (aA rfl (aA rfl (aA rfl (ab rfl rfl (aa (ao (v:=.bool _) rfl rfl) (ak (ag (aJ rfl (an (ah ?_))))))))));refine asb rfl (ak (ag (aC (ay (bh (v:=.bool _) rfl rfl (⟨congrArg Value.bool ?_,(((((aj.rfl_.next E1).next E67).next E110).next E116).next E171)⟩))))));rw [eq_comm,←Bool.not_eq_true,aO];rintro ⟨⟨n1,n2,n3,⟨n4,n5⟩,n6,n7,n8,n9⟩,⟨g1,g2,g3,g4,g5⟩,v1,l1,⟨p1,p2,p3⟩⟩;by_cases hro:s.role=2
    ·rw [aN hro] at l1;obtain ⟨⟨l2,l3,l4,l5⟩,⟨l6,l7,l8⟩,l9⟩:=l1
     first
      |omega
      |(rename_i q9;exact q9 ⟨by omega,by assumption⟩)
      |(simp_all [bc];done)
      |(simp_all [bc];omega)
    ·rw [a_ hro] at l1;have e1:s.next=[]:=List.eq_nil_of_length_eq_zero (by omega);have e2:s.mtch=[]:=List.eq_nil_of_length_eq_zero (by omega);have e3:s.sent=[]:=List.eq_nil_of_length_eq_zero (by omega)
     first
      |omega
      |(simp_all [bc,bP];done)
      |(simp_all [bc,bP];omega)
   with_reducible (replace Q71:=dd Q71;replace Q71:=dT_ Q71)
   (try simp only [Bool.not_eq_true',Bool.not_eq_false',Bool.not_eq_true,Bool.not_eq_false,decide_eq_true_eq,decide_eq_false_iff_not,Bool.or_eq_true,Bool.and_eq_true] at Q71)
   refine af rfl (aa (ae bM rfl) (af rfl (aa (aq aM rfl (by exact (show _=some (Value.slice M s.mtch.length Mc) from (hk1.from_ ((((aj.rfl_.next E67).next E110).next E116).next E171)).rd 16 rfl))) ?_)));refine af rfl (mvi rfl (af rfl (mvi rfl (af rfl (aG cS (eT M Mc s.mtch _ 0 (aQ s) _ (hrd.m.1.from_ (((((aj.rfl_.next E1).next E67).next E110).next E116).next E171)) hl3) ?_)))));rintro v178 w72 ⟨rfl,E178⟩;refine af rfl (aa (cd rfl) (aa (av (v:=.bool _) rfl rfl) (mvb rfl (aE (t:=181) rfl (fun Q73=>?_) (fun Q73=>?_)))))
   ·with_reducible (replace Q73:=dc Q73;replace Q73:=dF_ Q73)
    (try simp only [Bool.not_eq_true',Bool.not_eq_false',Bool.not_eq_true,Bool.not_eq_false,decide_eq_true_eq,decide_eq_false_iff_not,Bool.or_eq_true,Bool.and_eq_true] at Q73)
    refine ab rfl rfl (ab rfl rfl (ab rfl rfl (ab rfl rfl (ab rfl rfl (ab rfl rfl (ab rfl rfl (ab rfl rfl (aa (ao (v:=.bool _) rfl rfl) ?_))))))));refine mvb rfl (ab rfl rfl (ab rfl rfl (ab rfl rfl (ab rfl rfl (aa (ao (v:=.bool _) rfl rfl) (mvb rfl (ab rfl rfl (ab rfl rfl ?_))))))));refine ab rfl rfl (aA rfl (aA rfl (aA rfl (aA rfl (ab rfl rfl (aa (ao (v:=.bool _) rfl rfl) (ak (ag (aJ rfl ?_)))))))));refine an (ah (asb rfl (ak (ag (aC (ay (bh (v:=.bool _) rfl rfl (⟨congrArg Value.bool ?_,((((((aj.rfl_.next E1).next E67).next E110).next E116).next E171).next E178)⟩))))))));rw [eq_comm,←Bool.not_eq_true,aO];rintro ⟨⟨n1,n2,n3,⟨n4,n5⟩,n6,n7,n8,n9⟩,⟨g1,g2,g3,g4,g5⟩,v1,l1,⟨p1,p2,p3⟩⟩;by_cases hro:s.role=2
    ·rw [aN hro] at l1;obtain ⟨⟨l2,l3,l4,l5⟩,⟨l6,l7,l8⟩,l9⟩:=l1
     first
      |omega
      |(rename_i q9;exact q9 ⟨by omega,by assumption⟩)
      |(simp_all [bc];done)
      |(simp_all [bc];omega)
    ·rw [a_ hro] at l1;have e1:s.next=[]:=List.eq_nil_of_length_eq_zero (by omega);have e2:s.mtch=[]:=List.eq_nil_of_length_eq_zero (by omega);have e3:s.sent=[]:=List.eq_nil_of_length_eq_zero (by omega)
     first
      |omega
      |(simp_all [bc,bP];done)
      |(simp_all [bc,bP];omega)
   with_reducible (replace Q73:=dd Q73;replace Q73:=dT_ Q73)
   (try simp only [Bool.not_eq_true',Bool.not_eq_false',Bool.not_eq_true,Bool.not_eq_false,decide_eq_true_eq,decide_eq_false_iff_not,Bool.or_eq_true,Bool.and_eq_true] at Q73)
   refine af rfl (aa (ae bW rfl) (af rfl (aa (aq aM rfl (by exact (show _=some (Value.slice Sn s.sent.length Sc) from (hk1.from_ (((((aj.rfl_.next E67).next E110).next E116).next E171).next E178)).rd 17 rfl))) ?_)));refine af rfl (mvi rfl (af rfl (aa (ae cf rfl) (af rfl (aa (aq bD rfl (by exact (hk1.from_ (((((aj.rfl_.next E67).next E110).next E116).next E171).next E178)).rd 9 rfl)) ?_)))));refine af rfl (aa (df (by kernel_rfl) rfl) (af rfl (aG cS (eT Sn Sc s.sent _ 0 (s.snap.size:Nat) _ (hrd.n.1.from_ ((((((aj.rfl_.next E1).next E67).next E110).next E116).next E171).next E178)) hl4) ?_)));rintro v188 w74 ⟨rfl,E188⟩;refine af rfl (aa (cd rfl) (aa (av (v:=.bool _) rfl rfl) (mvb rfl (aE (t:=191) rfl (fun Q75=>?_) (fun Q75=>?_)))))
   ·with_reducible (replace Q75:=dc Q75;replace Q75:=dF_ Q75)
    (try simp only [Bool.not_eq_true',Bool.not_eq_false',Bool.not_eq_true,Bool.not_eq_false,decide_eq_true_eq,decide_eq_false_iff_not,Bool.or_eq_true,Bool.and_eq_true] at Q75)
    refine ab rfl rfl (ab rfl rfl (ab rfl rfl (ab rfl rfl (aa (ao (v:=.bool _) rfl rfl) (mvb rfl (ab rfl rfl (ab rfl rfl (ab rfl rfl ?_))))))));refine aA rfl (aA rfl (aA rfl (aA rfl (ab rfl rfl (aa (ao (v:=.bool _) rfl rfl) (ak (ag (aJ rfl (an (ah ?_))))))))));refine asb rfl (ak (ag (aC (ay (bh (v:=.bool _) rfl rfl (⟨congrArg Value.bool ?_,(((((((aj.rfl_.next E1).next E67).next E110).next E116).next E171).next E178).next E188)⟩))))));rw [eq_comm,←Bool.not_eq_true,aO];rintro ⟨⟨n1,n2,n3,⟨n4,n5⟩,n6,n7,n8,n9⟩,⟨g1,g2,g3,g4,g5⟩,v1,l1,⟨p1,p2,p3⟩⟩;by_cases hro:s.role=2
    ·rw [aN hro] at l1;obtain ⟨⟨l2,l3,l4,l5⟩,⟨l6,l7,l8⟩,l9⟩:=l1
     first
      |omega
      |(rename_i q9;exact q9 ⟨by omega,by assumption⟩)
      |(simp_all [bc];done)
      |(simp_all [bc];omega)
    ·rw [a_ hro] at l1;have e1:s.next=[]:=List.eq_nil_of_length_eq_zero (by omega);have e2:s.mtch=[]:=List.eq_nil_of_length_eq_zero (by omega);have e3:s.sent=[]:=List.eq_nil_of_length_eq_zero (by omega)
     first
      |omega
      |(simp_all [bc,bP];done)
      |(simp_all [bc,bP];omega)
   with_reducible (replace Q75:=dd Q75;replace Q75:=dT_ Q75)
   (try simp only [Bool.not_eq_true',Bool.not_eq_false',Bool.not_eq_true,Bool.not_eq_false,decide_eq_true_eq,decide_eq_false_iff_not,Bool.or_eq_true,Bool.and_eq_true] at Q75)
   refine af rfl (aa (ae bd rfl) (af rfl (aa (aq bn rfl (by exact (show _=some (Value.slice Q LL.length Qc) from (hk1.from_ ((((((aj.rfl_.next E67).next E110).next E116).next E171).next E178).next E188)).rd 19 rfl))) ?_)));refine af rfl (aa (bm bI rfl) (af rfl (aa (bH rfl rfl) (aa (av (v:=.bool _) rfl rfl) (mvb rfl (wK (t:=197) rfl (fun Q76=>?_) (fun Q76=>?_)))))))
   ·(try simp only [Bool.not_eq_true',Bool.not_eq_false',Bool.not_eq_true,Bool.not_eq_false,decide_eq_true_eq,decide_eq_false_iff_not,Bool.or_eq_true,Bool.and_eq_true] at Q76)
    refine ab rfl rfl (ab rfl rfl (ab rfl rfl (aA rfl (aA rfl (aA rfl (aA rfl (ab rfl rfl (aa (ao (v:=.bool _) rfl rfl) ?_))))))));refine ak (ag (aJ rfl (an (ah (asb rfl (ak (ag (aC (ay (bh (v:=.bool _) rfl rfl (⟨congrArg Value.bool ?_,(((((((aj.rfl_.next E1).next E67).next E110).next E116).next E171).next E178).next E188)⟩)))))))))));rw [eq_comm,←Bool.not_eq_true,aO];rintro ⟨⟨n1,n2,n3,⟨n4,n5⟩,n6,n7,n8,n9⟩,⟨g1,g2,g3,g4,g5⟩,v1,l1,⟨p1,p2,p3⟩⟩;by_cases hro:s.role=2
    ·rw [aN hro] at l1;obtain ⟨⟨l2,l3,l4,l5⟩,⟨l6,l7,l8⟩,l9⟩:=l1
     first
      |omega
      |(rename_i q9;exact q9 ⟨by omega,by assumption⟩)
      |(simp_all [bc];done)
      |(simp_all [bc];omega)
    ·rw [a_ hro] at l1;have e1:s.next=[]:=List.eq_nil_of_length_eq_zero (by omega);have e2:s.mtch=[]:=List.eq_nil_of_length_eq_zero (by omega);have e3:s.sent=[]:=List.eq_nil_of_length_eq_zero (by omega)
     first
      |omega
      |(simp_all [bc,bP];done)
      |(simp_all [bc,bP];omega)
   (try simp only [Bool.not_eq_true',Bool.not_eq_false',Bool.not_eq_true,Bool.not_eq_false,decide_eq_true_eq,decide_eq_false_iff_not,Bool.or_eq_true,Bool.and_eq_true] at Q76)
   refine af rfl (mvi rfl (af rfl (aa (bC rfl rfl) (af rfl (mvb rfl (wK (t:=200) rfl (fun Q77=>?_) (fun Q77=>?_)))))));rotate_left
   ·(try simp only at Q77)
    exfalso;contradiction
   (try simp only at Q77)
   refine af rfl (aa (ae bd rfl) (af rfl (aa (aq bn rfl (by exact (show _=some (Value.slice Q LL.length Qc) from (hk1.from_ ((((((aj.rfl_.next E67).next E110).next E116).next E171).next E178).next E188)).rd 19 rfl))) ?_)));refine af rfl (aa (bm bI rfl) (af rfl (aa (bH rfl rfl) (af rfl (aa (ao (v:=.bool _) rfl rfl) (aa (av (v:=.bool _) rfl rfl) (ak (ag (xD rfl (fun Q90=>?_) (fun Q90=>?_))))))))))
   ·(try simp only [Bool.not_eq_true',Bool.not_eq_false',Bool.not_eq_true,Bool.not_eq_false,decide_eq_true_eq,decide_eq_false_iff_not,Bool.or_eq_true,Bool.and_eq_true] at Q90)
    refine an (ah (asb rfl (ak (ag (aC (ay (bh (v:=.bool _) rfl rfl (⟨congrArg Value.bool ?_,(((((((aj.rfl_.next E1).next E67).next E110).next E116).next E171).next E178).next E188)⟩))))))));rw [eq_comm,←Bool.not_eq_true,aO];rintro ⟨⟨n1,n2,n3,⟨n4,n5⟩,n6,n7,n8,n9⟩,⟨g1,g2,g3,g4,g5⟩,v1,l1,⟨p1,p2,p3⟩⟩;by_cases hro:s.role=2
    ·rw [aN hro] at l1;obtain ⟨⟨l2,l3,l4,l5⟩,⟨l6,l7,l8⟩,l9⟩:=l1
     first
      |omega
      |(rename_i q9;exact q9 ⟨by omega,by assumption⟩)
      |(simp_all [bc];done)
      |(simp_all [bc];omega)
    ·rw [a_ hro] at l1;have e1:s.next=[]:=List.eq_nil_of_length_eq_zero (by omega);have e2:s.mtch=[]:=List.eq_nil_of_length_eq_zero (by omega);have e3:s.sent=[]:=List.eq_nil_of_length_eq_zero (by omega)
     first
      |omega
      |(simp_all [bc,bP];done)
      |(simp_all [bc,bP];omega)
   (try simp only [Bool.not_eq_true',Bool.not_eq_false',Bool.not_eq_true,Bool.not_eq_false,decide_eq_true_eq,decide_eq_false_iff_not,Bool.or_eq_true,Bool.and_eq_true] at Q90)
   refine aR (ag (an (an (ah (asi rfl (ak (ag (bf (cz (G:=Nat) [2,7,207,208,209,210,211,212,213,214,215,216,217,218,219,220,221,222,223,224,225,226,227,228,229,230,231,232,233,234,235,236,237,238,239,240,241,242,243,244,245,246,247,248,249,250,251,252,253,254,255,256,257,258] (fun k=>[(6,.int .i64 (k:Nat))]) (fun k w'=>k≤LL.length∧(∀ j (h:j<LL.length),j<k→ez s LL[j].1=true)∧Blk w' b1 29 (rfV s (⟨E,Ec,V,Vc,X,Xc,M,Mc,Sn,Sc,Q,Qc,LL⟩:Ra)).toArray∧aj w w') (fun k=>LL.length-k) (0) ⟨rfl,trivial⟩ ?_ ?_)))))))))
   ·exact ⟨Nat.zero_le _,fun j _ h=>absurd h (by omega),hk1.from_ ((((((aj.rfl_.next E67).next E110).next E116).next E171).next E178).next E188),(((((((aj.rfl_.next E1).next E67).next E110).next E116).next E171).next E178).next E188)⟩
   rintro k ρ91 w91 ⟨hk,h1,hk1,hB⟩;refine an (an (ah (mvi rfl (aa (ae bd rfl) (aa (aq bn rfl (by exact (show _=some (Value.slice Q LL.length Qc) from (hk1.from_ aj.rfl_).rd 19 rfl))) ?_)))));refine aa (bm bI rfl) (aa (bG rfl rfl) (ak (ag (xD rfl (fun Q92=>?_) (fun Q92=>?_)))))
   ·have hkL:k<LL.length:=by omega
    have hqm:LL[k].1∈s.reads:=by rw [←hrL];exact List.mem_map_of_mem (List.getElem_mem hkL)
    obtain ⟨ba,oa,rfl,hcs⟩:∃ b o,Q=some ⟨b,o,none⟩∧∀ i (hi:i<LL.length),w.rangeAt b (o+i*4) (rdV LL[i]):=hrd.q (by show 0<LL.length;omega);exfalso;omega
   refine bZ (bg (bg (bF (ag (an (ah (asb rfl (ak (ag (aC (bh (v:=.bool _) rfl rfl (⟨congrArg Value.bool ?_,hB⟩))))))))))));rw [eq_comm,aO]
   have hrd9:∀ q∈s.reads,ez s q=true:=fun q hq=>by
    rw [←hrL] at hq;obtain ⟨y,hy,rfl⟩:=List.mem_map.1 hq;obtain ⟨i,hi,rfl⟩:=List.getElem_of_mem hy;exact h1 i hi (by omega)
   refine ⟨⟨by omega,by omega,by omega,⟨by omega,by omega⟩,by omega,by omega,by omega,by omega⟩,⟨by simp_all,by omega,by omega,by omega,by omega⟩,by simp_all,?_,⟨by omega,by omega,by omega⟩⟩;by_cases hro:s.role=2
   ·rw [aN hro];refine ⟨⟨?_,?_,?_,?_⟩,⟨?_,?_,?_⟩,hrd9⟩ <;> first | omega | (simp_all [bc];done) | (simp_all [bc];omega)
   ·rw [a_ hro]
    simp_all [bc]
  (try simp only [Bool.not_eq_true',Bool.not_eq_false',Bool.not_eq_true,Bool.not_eq_false,decide_eq_true_eq,decide_eq_false_iff_not,Bool.or_eq_true,Bool.and_eq_true] at Q34)
  refine ab rfl rfl (ab rfl rfl (ab rfl rfl (af rfl (aa (av (v:=.bool _) rfl rfl) (aa (av (v:=.bool _) rfl rfl) (ak (ag (ck rfl (aR (ag (an (ah ?_))))))))))));refine asi rfl (ak (ag (an (an (ah (aa (ae cF rfl) (aa (aq ar rfl (by exact (hk1.from_ (((aj.rfl_.next E67).next E110).next E116)).rd 2 rfl)) ?_)))))));refine aa (bC rfl rfl) (ak (ag (xD rfl (fun Q103=>?_) (fun Q103=>?_))))
  ·refine ah (aa (ae bw rfl) (aa (aq ar rfl (by exact (hk1.from_ (((aj.rfl_.next E67).next E110).next E116)).rd 1 rfl)) ?_));refine asi rfl (ak (ag (an (an (ah (aa (ae bu rfl) (aa (aq aM rfl (by exact (show _=some (Value.slice X s.next.length Xc) from (hk1.from_ (((aj.rfl_.next E67).next E110).next E116)).rd 15 rfl))) ?_)))))));refine mvi rfl (mvi rfl (aa (bE rfl rfl (by omega)) (aG cS (eT X Xc s.next _ 1 (aQ s+1) _ (hrd.x.1.from_ ((((aj.rfl_.next E1).next E67).next E110).next E116)) hl2) ?_)));rintro v171 w104 ⟨rfl,E171⟩;refine aa (cd rfl) (mvb rfl (aE (t:=173) rfl (fun Q105=>?_) (fun Q105=>?_)))
   ·with_reducible (replace Q105:=dc Q105;replace Q105:=dF_ Q105)
    (try simp only [Bool.not_eq_true',Bool.not_eq_false',Bool.not_eq_true,Bool.not_eq_false,decide_eq_true_eq,decide_eq_false_iff_not,Bool.or_eq_true,Bool.and_eq_true] at Q105)
    refine ab rfl rfl (ab rfl rfl (ab rfl rfl (ab rfl rfl (ab rfl rfl (ab rfl rfl (aa (ao (v:=.bool _) rfl rfl) (mvb rfl (ab rfl rfl ?_))))))));refine ab rfl rfl (ab rfl rfl (ab rfl rfl (ab rfl rfl (ab rfl rfl (ab rfl rfl (ab rfl rfl (aa (ao (v:=.bool _) rfl rfl) (mvb rfl ?_))))))));refine ab rfl rfl (ab rfl rfl (ab rfl rfl (ab rfl rfl (aa (ao (v:=.bool _) rfl rfl) (mvb rfl (ab rfl rfl (ab rfl rfl (ab rfl rfl ?_))))))));refine aA rfl (aA rfl (aA rfl (aA rfl (ab rfl rfl (aa (ao (v:=.bool _) rfl rfl) (ak (ag (aJ rfl (an (ah ?_))))))))));refine asb rfl (ak (ag (aC (ay (bh (v:=.bool _) rfl rfl (⟨congrArg Value.bool ?_,(((((aj.rfl_.next E1).next E67).next E110).next E116).next E171)⟩))))));rw [eq_comm,←Bool.not_eq_true,aO];rintro ⟨⟨n1,n2,n3,⟨n4,n5⟩,n6,n7,n8,n9⟩,⟨g1,g2,g3,g4,g5⟩,v1,l1,⟨p1,p2,p3⟩⟩;by_cases hro:s.role=2
    ·rw [aN hro] at l1;obtain ⟨⟨l2,l3,l4,l5⟩,⟨l6,l7,l8⟩,l9⟩:=l1
     first
      |omega
      |(rename_i q9;exact q9 ⟨by omega,by assumption⟩)
      |(simp_all [bc];done)
      |(simp_all [bc];omega)
    ·rw [a_ hro] at l1;have e1:s.next=[]:=List.eq_nil_of_length_eq_zero (by omega);have e2:s.mtch=[]:=List.eq_nil_of_length_eq_zero (by omega);have e3:s.sent=[]:=List.eq_nil_of_length_eq_zero (by omega)
     first
      |omega
      |(simp_all [bc,bP];done)
      |(simp_all [bc,bP];omega)
   with_reducible (replace Q105:=dd Q105;replace Q105:=dT_ Q105)
   (try simp only [Bool.not_eq_true',Bool.not_eq_false',Bool.not_eq_true,Bool.not_eq_false,decide_eq_true_eq,decide_eq_false_iff_not,Bool.or_eq_true,Bool.and_eq_true] at Q105)
   refine af rfl (aa (ae bM rfl) (af rfl (aa (aq aM rfl (by exact (show _=some (Value.slice M s.mtch.length Mc) from (hk1.from_ ((((aj.rfl_.next E67).next E110).next E116).next E171)).rd 16 rfl))) ?_)));refine af rfl (mvi rfl (af rfl (mvi rfl (af rfl (aG cS (eT M Mc s.mtch _ 0 (aQ s) _ (hrd.m.1.from_ (((((aj.rfl_.next E1).next E67).next E110).next E116).next E171)) hl3) ?_)))));rintro v178 w106 ⟨rfl,E178⟩;refine af rfl (aa (cd rfl) (aa (av (v:=.bool _) rfl rfl) (mvb rfl (aE (t:=181) rfl (fun Q107=>?_) (fun Q107=>?_)))))
   ·with_reducible (replace Q107:=dc Q107;replace Q107:=dF_ Q107)
    (try simp only [Bool.not_eq_true',Bool.not_eq_false',Bool.not_eq_true,Bool.not_eq_false,decide_eq_true_eq,decide_eq_false_iff_not,Bool.or_eq_true,Bool.and_eq_true] at Q107)
    refine ab rfl rfl (ab rfl rfl (ab rfl rfl (ab rfl rfl (ab rfl rfl (ab rfl rfl (ab rfl rfl (ab rfl rfl (aa (ao (v:=.bool _) rfl rfl) ?_))))))));refine mvb rfl (ab rfl rfl (ab rfl rfl (ab rfl rfl (ab rfl rfl (aa (ao (v:=.bool _) rfl rfl) (mvb rfl (ab rfl rfl (ab rfl rfl ?_))))))));refine ab rfl rfl (aA rfl (aA rfl (aA rfl (aA rfl (ab rfl rfl (aa (ao (v:=.bool _) rfl rfl) (ak (ag (aJ rfl ?_)))))))));refine an (ah (asb rfl (ak (ag (aC (ay (bh (v:=.bool _) rfl rfl (⟨congrArg Value.bool ?_,((((((aj.rfl_.next E1).next E67).next E110).next E116).next E171).next E178)⟩))))))));rw [eq_comm,←Bool.not_eq_true,aO];rintro ⟨⟨n1,n2,n3,⟨n4,n5⟩,n6,n7,n8,n9⟩,⟨g1,g2,g3,g4,g5⟩,v1,l1,⟨p1,p2,p3⟩⟩;by_cases hro:s.role=2
    ·rw [aN hro] at l1;obtain ⟨⟨l2,l3,l4,l5⟩,⟨l6,l7,l8⟩,l9⟩:=l1
     first
      |omega
      |(rename_i q9;exact q9 ⟨by omega,by assumption⟩)
      |(simp_all [bc];done)
      |(simp_all [bc];omega)
    ·rw [a_ hro] at l1;have e1:s.next=[]:=List.eq_nil_of_length_eq_zero (by omega);have e2:s.mtch=[]:=List.eq_nil_of_length_eq_zero (by omega);have e3:s.sent=[]:=List.eq_nil_of_length_eq_zero (by omega)
     first
      |omega
      |(simp_all [bc,bP];done)
      |(simp_all [bc,bP];omega)
   with_reducible (replace Q107:=dd Q107;replace Q107:=dT_ Q107)
   (try simp only [Bool.not_eq_true',Bool.not_eq_false',Bool.not_eq_true,Bool.not_eq_false,decide_eq_true_eq,decide_eq_false_iff_not,Bool.or_eq_true,Bool.and_eq_true] at Q107)
   refine af rfl (aa (ae bW rfl) (af rfl (aa (aq aM rfl (by exact (show _=some (Value.slice Sn s.sent.length Sc) from (hk1.from_ (((((aj.rfl_.next E67).next E110).next E116).next E171).next E178)).rd 17 rfl))) ?_)));refine af rfl (mvi rfl (af rfl (aa (ae cf rfl) (af rfl (aa (aq bD rfl (by exact (hk1.from_ (((((aj.rfl_.next E67).next E110).next E116).next E171).next E178)).rd 9 rfl)) ?_)))));refine af rfl (aa (df (by kernel_rfl) rfl) (af rfl (aG cS (eT Sn Sc s.sent _ 0 (s.snap.size:Nat) _ (hrd.n.1.from_ ((((((aj.rfl_.next E1).next E67).next E110).next E116).next E171).next E178)) hl4) ?_)));rintro v188 w108 ⟨rfl,E188⟩;refine af rfl (aa (cd rfl) (aa (av (v:=.bool _) rfl rfl) (mvb rfl (aE (t:=191) rfl (fun Q109=>?_) (fun Q109=>?_)))))
   ·with_reducible (replace Q109:=dc Q109;replace Q109:=dF_ Q109)
    (try simp only [Bool.not_eq_true',Bool.not_eq_false',Bool.not_eq_true,Bool.not_eq_false,decide_eq_true_eq,decide_eq_false_iff_not,Bool.or_eq_true,Bool.and_eq_true] at Q109)
    refine ab rfl rfl (ab rfl rfl (ab rfl rfl (ab rfl rfl (aa (ao (v:=.bool _) rfl rfl) (mvb rfl (ab rfl rfl (ab rfl rfl (ab rfl rfl ?_))))))));refine aA rfl (aA rfl (aA rfl (aA rfl (ab rfl rfl (aa (ao (v:=.bool _) rfl rfl) (ak (ag (aJ rfl (an (ah ?_))))))))));refine asb rfl (ak (ag (aC (ay (bh (v:=.bool _) rfl rfl (⟨congrArg Value.bool ?_,(((((((aj.rfl_.next E1).next E67).next E110).next E116).next E171).next E178).next E188)⟩))))));rw [eq_comm,←Bool.not_eq_true,aO];rintro ⟨⟨n1,n2,n3,⟨n4,n5⟩,n6,n7,n8,n9⟩,⟨g1,g2,g3,g4,g5⟩,v1,l1,⟨p1,p2,p3⟩⟩;by_cases hro:s.role=2
    ·rw [aN hro] at l1;obtain ⟨⟨l2,l3,l4,l5⟩,⟨l6,l7,l8⟩,l9⟩:=l1
     first
      |omega
      |(rename_i q9;exact q9 ⟨by omega,by assumption⟩)
      |(simp_all [bc];done)
      |(simp_all [bc];omega)
    ·rw [a_ hro] at l1;have e1:s.next=[]:=List.eq_nil_of_length_eq_zero (by omega);have e2:s.mtch=[]:=List.eq_nil_of_length_eq_zero (by omega);have e3:s.sent=[]:=List.eq_nil_of_length_eq_zero (by omega)
     first
      |omega
      |(simp_all [bc,bP];done)
      |(simp_all [bc,bP];omega)
   with_reducible (replace Q109:=dd Q109;replace Q109:=dT_ Q109)
   (try simp only [Bool.not_eq_true',Bool.not_eq_false',Bool.not_eq_true,Bool.not_eq_false,decide_eq_true_eq,decide_eq_false_iff_not,Bool.or_eq_true,Bool.and_eq_true] at Q109)
   refine af rfl (aa (ae bd rfl) (af rfl (aa (aq bn rfl (by exact (show _=some (Value.slice Q LL.length Qc) from (hk1.from_ ((((((aj.rfl_.next E67).next E110).next E116).next E171).next E178).next E188)).rd 19 rfl))) ?_)));refine af rfl (aa (bm bI rfl) (af rfl (aa (bH rfl rfl) (aa (av (v:=.bool _) rfl rfl) (mvb rfl (wK (t:=197) rfl (fun Q110=>?_) (fun Q110=>?_)))))))
   ·(try simp only [Bool.not_eq_true',Bool.not_eq_false',Bool.not_eq_true,Bool.not_eq_false,decide_eq_true_eq,decide_eq_false_iff_not,Bool.or_eq_true,Bool.and_eq_true] at Q110)
    refine ab rfl rfl (ab rfl rfl (ab rfl rfl (aA rfl (aA rfl (aA rfl (aA rfl (ab rfl rfl (aa (ao (v:=.bool _) rfl rfl) ?_))))))));refine ak (ag (aJ rfl (an (ah (asb rfl (ak (ag (aC (ay (bh (v:=.bool _) rfl rfl (⟨congrArg Value.bool ?_,(((((((aj.rfl_.next E1).next E67).next E110).next E116).next E171).next E178).next E188)⟩)))))))))));rw [eq_comm,←Bool.not_eq_true,aO];rintro ⟨⟨n1,n2,n3,⟨n4,n5⟩,n6,n7,n8,n9⟩,⟨g1,g2,g3,g4,g5⟩,v1,l1,⟨p1,p2,p3⟩⟩;by_cases hro:s.role=2
    ·rw [aN hro] at l1;obtain ⟨⟨l2,l3,l4,l5⟩,⟨l6,l7,l8⟩,l9⟩:=l1
     first
      |omega
      |(rename_i q9;exact q9 ⟨by omega,by assumption⟩)
      |(simp_all [bc];done)
      |(simp_all [bc];omega)
    ·rw [a_ hro] at l1;have e1:s.next=[]:=List.eq_nil_of_length_eq_zero (by omega);have e2:s.mtch=[]:=List.eq_nil_of_length_eq_zero (by omega);have e3:s.sent=[]:=List.eq_nil_of_length_eq_zero (by omega)
     first
      |omega
      |(simp_all [bc,bP];done)
      |(simp_all [bc,bP];omega)
   (try simp only [Bool.not_eq_true',Bool.not_eq_false',Bool.not_eq_true,Bool.not_eq_false,decide_eq_true_eq,decide_eq_false_iff_not,Bool.or_eq_true,Bool.and_eq_true] at Q110)
   refine af rfl (mvi rfl (af rfl (aa (bC rfl rfl) (af rfl (mvb rfl (wK (t:=200) rfl (fun Q111=>?_) (fun Q111=>?_)))))))
   ·(try simp only [Bool.not_eq_true',Bool.not_eq_false',Bool.not_eq_true,Bool.not_eq_false,decide_eq_true_eq,decide_eq_false_iff_not,Bool.or_eq_true,Bool.and_eq_true] at Q111)
    exfalso;omega
   (try simp only [Bool.not_eq_true',Bool.not_eq_false',Bool.not_eq_true,Bool.not_eq_false,decide_eq_true_eq,decide_eq_false_iff_not,Bool.or_eq_true,Bool.and_eq_true] at Q111)
   refine ab rfl rfl (ab rfl rfl (ab rfl rfl (ab rfl rfl (af rfl (aa (av (v:=.bool _) rfl rfl) (aa (av (v:=.bool _) rfl rfl) (ak (ag (ck rfl ?_)))))))));refine aR (ag (an (an (ah (asi rfl (ak (ag (bf (cz (G:=Nat) [2,7,207,208,209,210,211,212,213,214,215,216,217,218,219,220,221,222,223,224,225,226,227,228,229,230,231,232,233,234,235,236,237,238,239,240,241,242,243,244,245,246,247,248,249,250,251,252,253,254,255,256,257,258] (fun k=>[(6,.int .i64 (k:Nat))]) (fun k w'=>k≤LL.length∧(∀ j (h:j<LL.length),j<k→ez s LL[j].1=true)∧Blk w' b1 29 (rfV s (⟨E,Ec,V,Vc,X,Xc,M,Mc,Sn,Sc,Q,Qc,LL⟩:Ra)).toArray∧aj w w') (fun k=>LL.length-k) (0) ⟨rfl,trivial⟩ ?_ ?_)))))))))
   ·exact ⟨Nat.zero_le _,fun j _ h=>absurd h (by omega),hk1.from_ ((((((aj.rfl_.next E67).next E110).next E116).next E171).next E178).next E188),(((((((aj.rfl_.next E1).next E67).next E110).next E116).next E171).next E178).next E188)⟩
   rintro k ρ125 w125 ⟨hk,h1,hk1,hB⟩;refine an (an (ah (mvi rfl (aa (ae bd rfl) (aa (aq bn rfl (by exact (show _=some (Value.slice Q LL.length Qc) from (hk1.from_ aj.rfl_).rd 19 rfl))) ?_)))));refine aa (bm bI rfl) (aa (bG rfl rfl) (ak (ag (xD rfl (fun Q126=>?_) (fun Q126=>?_)))))
   ·have hkL:k<LL.length:=by omega
    have hqm:LL[k].1∈s.reads:=by rw [←hrL];exact List.mem_map_of_mem (List.getElem_mem hkL)
    obtain ⟨ba,oa,rfl,hcs⟩:∃ b o,Q=some ⟨b,o,none⟩∧∀ i (hi:i<LL.length),w.rangeAt b (o+i*4) (rdV LL[i]):=hrd.q (by show 0<LL.length;omega);refine aR (ag (an (bf (an (ah (aa (ae bd rfl) (aa (aq bn rfl (by exact (show _=some (Value.slice (some ⟨ba,oa,none⟩) LL.length Qc) from (hk1.from_ aj.rfl_).rd 19 rfl))) ?_)))))));refine mvi rfl (aa (bL dC rfl rfl (by omega)) (aa (aT (cs:=rdV LL[k]) dX cN rfl (eN hB (hcs k hkL))) (cq e_ ?_)));intro b7 w127 E7 hb7 hk7;have hg7:w.heap.size≤b7:=by rw [hb7];exact (hB).size
    have hk1L:=hk1.from_ (aj.rfl_.next E7);have hn7:b1≠b7:=by have:=hk1.lt;have:=((aj.rfl_.next E7)).size;omega
    refine cu (vs:=[_,_,_,_]) cN rfl rfl (by simp [Value.oneCell']) (hk7) rfl ?_;intro w128 O16 P16;replace hk1:=hk1L.only O16 hn7;refine ak (ag (an (ah (aa (ae dz rfl) (aa (aq ar rfl (by exact (show _=some (Value.int .i64 LL[k].1.id) from (P16.from_ aj.rfl_).rd 0 rfl))) ?_)))));refine aa (bG rfl rfl) (mvb rfl (wK (t:=222) rfl (fun Q129=>?_) (fun Q129=>?_)))
    ·(try simp only [Bool.not_eq_true',Bool.not_eq_false',Bool.not_eq_true,Bool.not_eq_false,decide_eq_true_eq,decide_eq_false_iff_not,Bool.or_eq_true,Bool.and_eq_true] at Q129)
     refine ab rfl rfl (ab rfl rfl (ab rfl rfl (aa (ao (v:=.bool _) rfl rfl) (mvb rfl (ab rfl rfl (ab rfl rfl (ab rfl rfl (aa (ao (v:=.bool _) rfl rfl) ?_))))))));refine mvb rfl (ab rfl rfl (ab rfl rfl (ab rfl rfl (ab rfl rfl (ab rfl rfl (aa (ao (v:=.bool _) rfl rfl) (mvb rfl (ab rfl rfl ?_))))))));refine ab rfl rfl (ab rfl rfl (aa (ao (v:=.bool _) rfl rfl) (mvb rfl (ab rfl rfl (ab rfl rfl (ab rfl rfl (ab rfl rfl (ab rfl rfl ?_))))))));refine aa (ao (v:=.bool _) rfl rfl) (mvb rfl (ab rfl rfl (ab rfl rfl (ab rfl rfl (ab rfl rfl (ab rfl rfl (ab rfl rfl (aa (ao (v:=.bool _) rfl rfl) ?_))))))));refine ak (ag (aJ rfl (an (ah (asb rfl (ak (ag (aC (aZ (ay (ay (aZ (ay (bh (v:=.bool _) rfl rfl (⟨congrArg Value.bool ?_,((hB.next E7).only O16 (hg7))⟩)))))))))))))));rw [eq_comm,←Bool.not_eq_true,aO];rintro ⟨_,_,_,l1,_⟩;by_cases hro:s.role=2
     ·rw [aN hro] at l1;have g5:=bS.1 (l1.2.2 _ hqm)
      first
       |omega
       |(simp_all;done)
     ·rw [a_ hro] at l1;omega
    (try simp only [Bool.not_eq_true',Bool.not_eq_false',Bool.not_eq_true,Bool.not_eq_false,decide_eq_true_eq,decide_eq_false_iff_not,Bool.or_eq_true,Bool.and_eq_true] at Q129)
    refine af rfl (aa (ae dz rfl) (af rfl (aa (aq ar rfl (by exact (show _=some (Value.int .i64 LL[k].1.id) from (P16.from_ aj.rfl_).rd 0 rfl))) ?_)));refine af rfl (aa (bH rfl rfl) (aa (av (v:=.bool _) rfl rfl) (mvb rfl (wK (t:=227) rfl (fun Q130=>?_) (fun Q130=>?_)))))
    ·(try simp only [Bool.not_eq_true',Bool.not_eq_false',Bool.not_eq_true,Bool.not_eq_false,decide_eq_true_eq,decide_eq_false_iff_not,Bool.or_eq_true,Bool.and_eq_true] at Q130)
     refine ab rfl rfl (ab rfl rfl (ab rfl rfl (aa (ao (v:=.bool _) rfl rfl) (mvb rfl (ab rfl rfl (ab rfl rfl (ab rfl rfl (ab rfl rfl ?_))))))));refine ab rfl rfl (aa (ao (v:=.bool _) rfl rfl) (mvb rfl (ab rfl rfl (ab rfl rfl (ab rfl rfl (aa (ao (v:=.bool _) rfl rfl) (mvb rfl (ab rfl rfl ?_))))))));refine ab rfl rfl (ab rfl rfl (ab rfl rfl (ab rfl rfl (aa (ao (v:=.bool _) rfl rfl) (mvb rfl (ab rfl rfl (ab rfl rfl (ab rfl rfl ?_))))))));refine ab rfl rfl (ab rfl rfl (ab rfl rfl (aa (ao (v:=.bool _) rfl rfl) (ak (ag (aJ rfl (an (ah (asb rfl (ak (ag (aC (aZ (ay (ay (aZ (ay ?_)))))))))))))))));refine bh (v:=.bool _) rfl rfl (⟨congrArg Value.bool ?_,((hB.next E7).only O16 (hg7))⟩);rw [eq_comm,←Bool.not_eq_true,aO];rintro ⟨_,_,_,l1,_⟩;by_cases hro:s.role=2
     ·rw [aN hro] at l1;have g5:=bS.1 (l1.2.2 _ hqm)
      first
       |omega
       |(simp_all;done)
     ·rw [a_ hro] at l1;omega
    (try simp only [Bool.not_eq_true',Bool.not_eq_false',Bool.not_eq_true,Bool.not_eq_false,decide_eq_true_eq,decide_eq_false_iff_not,Bool.or_eq_true,Bool.and_eq_true] at Q130)
    refine af rfl (aa (ae dy rfl) (af rfl (aa (aq ar rfl (by exact (show _=some (Value.int .i64 LL[k].1.ix) from (P16.from_ aj.rfl_).rd 1 rfl))) ?_)));refine af rfl (aa (bG rfl rfl) (aa (av (v:=.bool _) rfl rfl) (mvb rfl (wK (t:=232) rfl (fun Q131=>?_) (fun Q131=>?_)))))
    ·(try simp only [Bool.not_eq_true',Bool.not_eq_false',Bool.not_eq_true,Bool.not_eq_false,decide_eq_true_eq,decide_eq_false_iff_not,Bool.or_eq_true,Bool.and_eq_true] at Q131)
     refine ab rfl rfl (ab rfl rfl (ab rfl rfl (ab rfl rfl (ab rfl rfl (aa (ao (v:=.bool _) rfl rfl) (mvb rfl (ab rfl rfl (ab rfl rfl ?_))))))));refine ab rfl rfl (aa (ao (v:=.bool _) rfl rfl) (mvb rfl (ab rfl rfl (ab rfl rfl (ab rfl rfl (ab rfl rfl (ab rfl rfl (aa (ao (v:=.bool _) rfl rfl) ?_))))))));refine mvb rfl (ab rfl rfl (ab rfl rfl (ab rfl rfl (ab rfl rfl (ab rfl rfl (ab rfl rfl (aa (ao (v:=.bool _) rfl rfl) (ak (ag ?_)))))))));refine aJ rfl (an (ah (asb rfl (ak (ag (aC (aZ (ay (ay (aZ (ay (bh (v:=.bool _) rfl rfl (⟨congrArg Value.bool ?_,((hB.next E7).only O16 (hg7))⟩)))))))))))));rw [eq_comm,←Bool.not_eq_true,aO];rintro ⟨_,_,_,l1,_⟩;by_cases hro:s.role=2
     ·rw [aN hro] at l1;have g5:=bS.1 (l1.2.2 _ hqm)
      first
       |omega
       |(simp_all;done)
     ·rw [a_ hro] at l1;omega
    (try simp only [Bool.not_eq_true',Bool.not_eq_false',Bool.not_eq_true,Bool.not_eq_false,decide_eq_true_eq,decide_eq_false_iff_not,Bool.or_eq_true,Bool.and_eq_true] at Q131)
    refine af rfl (aa (ae dy rfl) (af rfl (aa (aq ar rfl (by exact (show _=some (Value.int .i64 LL[k].1.ix) from (P16.from_ aj.rfl_).rd 1 rfl))) ?_)));refine af rfl (aa (ae cA rfl) (af rfl (aa (aq ar rfl (by exact (hk1.from_ aj.rfl_).rd 10 rfl)) ?_)));refine af rfl (aa (bH rfl rfl) (aa (av (v:=.bool _) rfl rfl) (mvb rfl (wK (t:=239) rfl (fun Q132=>?_) (fun Q132=>?_)))))
    ·(try simp only [Bool.not_eq_true',Bool.not_eq_false',Bool.not_eq_true,Bool.not_eq_false,decide_eq_true_eq,decide_eq_false_iff_not,Bool.or_eq_true,Bool.and_eq_true] at Q132)
     refine ab rfl rfl (ab rfl rfl (ab rfl rfl (aa (ao (v:=.bool _) rfl rfl) (mvb rfl (ab rfl rfl (ab rfl rfl (ab rfl rfl (ab rfl rfl ?_))))))));refine ab rfl rfl (aa (ao (v:=.bool _) rfl rfl) (mvb rfl (ab rfl rfl (ab rfl rfl (ab rfl rfl (ab rfl rfl (ab rfl rfl (ab rfl rfl ?_))))))));refine aa (ao (v:=.bool _) rfl rfl) (ak (ag (aJ rfl (an (ah (asb rfl (ak (ag (aC (aZ (ay (ay (aZ (ay (bh (v:=.bool _) rfl rfl (⟨congrArg Value.bool ?_,((hB.next E7).only O16 (hg7))⟩))))))))))))))));rw [eq_comm,←Bool.not_eq_true,aO];rintro ⟨_,_,_,l1,_⟩;by_cases hro:s.role=2
     ·rw [aN hro] at l1;have g5:=bS.1 (l1.2.2 _ hqm)
      first
       |omega
       |(simp_all;done)
     ·rw [a_ hro] at l1;omega
    (try simp only [Bool.not_eq_true',Bool.not_eq_false',Bool.not_eq_true,Bool.not_eq_false,decide_eq_true_eq,decide_eq_false_iff_not,Bool.or_eq_true,Bool.and_eq_true] at Q132)
    refine af rfl (aa (ae dw rfl) (af rfl (aa (aq ar rfl (by exact (show _=some (Value.int .i64 LL[k].1.rn) from (P16.from_ aj.rfl_).rd 2 rfl))) ?_)));refine af rfl (aa (bG rfl rfl) (aa (av (v:=.bool _) rfl rfl) (mvb rfl (wK (t:=244) rfl (fun Q133=>?_) (fun Q133=>?_)))))
    ·(try simp only [Bool.not_eq_true',Bool.not_eq_false',Bool.not_eq_true,Bool.not_eq_false,decide_eq_true_eq,decide_eq_false_iff_not,Bool.or_eq_true,Bool.and_eq_true] at Q133)
     refine ab rfl rfl (ab rfl rfl (ab rfl rfl (ab rfl rfl (ab rfl rfl (aa (ao (v:=.bool _) rfl rfl) (mvb rfl (ab rfl rfl (ab rfl rfl ?_))))))));refine ab rfl rfl (ab rfl rfl (ab rfl rfl (ab rfl rfl (aa (ao (v:=.bool _) rfl rfl) (ak (ag (aJ rfl (an (ah (asb rfl ?_))))))))));refine ak (ag (aC (aZ (ay (ay (aZ (ay (bh (v:=.bool _) rfl rfl (⟨congrArg Value.bool ?_,((hB.next E7).only O16 (hg7))⟩)))))))));rw [eq_comm,←Bool.not_eq_true,aO];rintro ⟨_,_,_,l1,_⟩;by_cases hro:s.role=2
     ·rw [aN hro] at l1;have g5:=bS.1 (l1.2.2 _ hqm)
      first
       |omega
       |(simp_all;done)
     ·rw [a_ hro] at l1;omega
    (try simp only [Bool.not_eq_true',Bool.not_eq_false',Bool.not_eq_true,Bool.not_eq_false,decide_eq_true_eq,decide_eq_false_iff_not,Bool.or_eq_true,Bool.and_eq_true] at Q133)
    refine af rfl (aa (ae dw rfl) (af rfl (aa (aq ar rfl (by exact (show _=some (Value.int .i64 LL[k].1.rn) from (P16.from_ aj.rfl_).rd 2 rfl))) ?_)));refine af rfl (aa (ae cL rfl) (af rfl (aa (aq ar rfl (by exact (hk1.from_ aj.rfl_).rd 18 rfl)) ?_)));refine af rfl (aa (bH rfl rfl) (aa (av (v:=.bool _) rfl rfl) (mvb rfl (wK (t:=251) rfl (fun Q134=>?_) (fun Q134=>?_)))))
    ·(try simp only [Bool.not_eq_true',Bool.not_eq_false',Bool.not_eq_true,Bool.not_eq_false,decide_eq_true_eq,decide_eq_false_iff_not,Bool.or_eq_true,Bool.and_eq_true] at Q134)
     refine ab rfl rfl (ab rfl rfl (ab rfl rfl (ab rfl rfl (ab rfl rfl (ab rfl rfl (aa (ao (v:=.bool _) rfl rfl) (ak (ag (aJ rfl ?_)))))))));refine an (ah (asb rfl (ak (ag (aC (aZ (ay (ay (aZ (ay (bh (v:=.bool _) rfl rfl (⟨congrArg Value.bool ?_,((hB.next E7).only O16 (hg7))⟩))))))))))));rw [eq_comm,←Bool.not_eq_true,aO];rintro ⟨_,_,_,l1,_⟩;by_cases hro:s.role=2
     ·rw [aN hro] at l1;have g5:=bS.1 (l1.2.2 _ hqm)
      first
       |omega
       |(simp_all;done)
     ·rw [a_ hro] at l1;omega
    (try simp only [Bool.not_eq_true',Bool.not_eq_false',Bool.not_eq_true,Bool.not_eq_false,decide_eq_true_eq,decide_eq_false_iff_not,Bool.or_eq_true,Bool.and_eq_true] at Q134)
    refine af rfl (aa (ae c_ rfl) (af rfl (aa (aq aM rfl (by exact (show _=some (Value.slice LL[k].2.1 LL[k].1.acks.length LL[k].2.2) from (P16.from_ aj.rfl_).rd 3 rfl))) ?_)));refine af rfl (aa (ae bw rfl) (af rfl (aa (aq ar rfl (by exact (hk1.from_ aj.rfl_).rd 1 rfl)) ?_)));refine af rfl (aG gC (k0 LL[k].2.1 LL[k].2.2 LL[k].1.acks s.nodes _ ((hrk _ (List.getElem_mem hkL)).1.from_ ((hB.next E7).only O16 (hg7))) (hl6 _ hqm)) ?_);rintro v256 w135 ⟨rfl,E256⟩;refine af rfl (aa (cd rfl) (aa (av (v:=.bool _) rfl rfl) (ak (ag (xB rfl (fun Q136=>?_) (fun Q136=>?_))))))
    ·(try simp only [Bool.not_eq_true',Bool.not_eq_false',Bool.not_eq_true,Bool.not_eq_false,decide_eq_true_eq,decide_eq_false_iff_not,Bool.or_eq_true,Bool.and_eq_true] at Q136)
     refine an (ah (asb rfl (ak (ag (aC (aZ (ay (ay (aZ (ay (bh (v:=.bool _) rfl rfl (⟨congrArg Value.bool ?_,(((hB.next E7).only O16 (hg7)).next E256)⟩))))))))))));rw [eq_comm,←Bool.not_eq_true,aO];rintro ⟨_,_,_,l1,_⟩;by_cases hro:s.role=2
     ·rw [aN hro] at l1;have g5:=bS.1 (l1.2.2 _ hqm)
      first
       |omega
       |(simp_all;done)
     ·rw [a_ hro] at l1;omega
    (try simp only [Bool.not_eq_true',Bool.not_eq_false',Bool.not_eq_true,Bool.not_eq_false,decide_eq_true_eq,decide_eq_false_iff_not,Bool.or_eq_true,Bool.and_eq_true] at Q136)
    refine aR (bN (ag (ah (mvi rfl (aa (bE rfl rfl (by omega)) (asi rfl (ak ?_)))))));refine cK (k+1) ⟨(by first | rfl | (refine br ?_;omega)),trivial⟩ (by (iterate 115 refine bQ rfl ?_);exact b_) ⟨?_,?_⟩
    ·refine ⟨by omega,fun j h hj=>?_,hk1.from_ (aj.rfl_.next E256),(((hB.next E7).only O16 (hg7)).next E256)⟩;rcases Nat.lt_or_ge j k with e | e
     ·exact h1 j h e
     ·obtain rfl:j=k:=by omega
      rw [bS];exact ⟨by omega,by omega,by omega,by first | assumption | simp_all⟩
    ·omega
   refine bZ (bg (bg (bF (ag (an (ah (asb rfl (ak (ag (aC (bh (v:=.bool _) rfl rfl (⟨congrArg Value.bool ?_,hB⟩))))))))))));rw [eq_comm,aO]
   have hrd9:∀ q∈s.reads,ez s q=true:=fun q hq=>by
    rw [←hrL] at hq;obtain ⟨y,hy,rfl⟩:=List.mem_map.1 hq;obtain ⟨i,hi,rfl⟩:=List.getElem_of_mem hy;exact h1 i hi (by omega)
   refine ⟨⟨by omega,by omega,by omega,⟨by omega,by omega⟩,by omega,by omega,by omega,by omega⟩,⟨by simp_all,by omega,by omega,by omega,by omega⟩,by simp_all,?_,⟨by omega,by omega,by omega⟩⟩;by_cases hro:s.role=2
   ·rw [aN hro];refine ⟨⟨?_,?_,?_,?_⟩,⟨?_,?_,?_⟩,hrd9⟩ <;> first | omega | (simp_all [bc];done) | (simp_all [bc];omega)
   ·rw [a_ hro]
    simp_all
  refine aR (ag (an (an (ah (aa (ae bu rfl) (aa (aq aM rfl (by exact (show _=some (Value.slice X s.next.length Xc) from (hk1.from_ (((aj.rfl_.next E67).next E110).next E116)).rd 15 rfl))) ?_))))));refine mvi rfl (mvi rfl (aa (bE rfl rfl (by omega)) (aG cS (eT X Xc s.next _ 1 (aQ s+1) _ (hrd.x.1.from_ ((((aj.rfl_.next E1).next E67).next E110).next E116)) hl2) ?_)));rintro v171 w137 ⟨rfl,E171⟩;refine aa (cd rfl) (mvb rfl (aE (t:=173) rfl (fun Q138=>?_) (fun Q138=>?_)))
  ·with_reducible (replace Q138:=dc Q138;replace Q138:=dF_ Q138)
   (try simp only [Bool.not_eq_true',Bool.not_eq_false',Bool.not_eq_true,Bool.not_eq_false,decide_eq_true_eq,decide_eq_false_iff_not,Bool.or_eq_true,Bool.and_eq_true] at Q138)
   refine ab rfl rfl (ab rfl rfl (ab rfl rfl (ab rfl rfl (ab rfl rfl (ab rfl rfl (aa (ao (v:=.bool _) rfl rfl) (mvb rfl (ab rfl rfl ?_))))))));refine ab rfl rfl (ab rfl rfl (ab rfl rfl (ab rfl rfl (ab rfl rfl (ab rfl rfl (ab rfl rfl (aa (ao (v:=.bool _) rfl rfl) (mvb rfl ?_))))))));refine ab rfl rfl (ab rfl rfl (ab rfl rfl (ab rfl rfl (aa (ao (v:=.bool _) rfl rfl) (mvb rfl (ab rfl rfl (ab rfl rfl (ab rfl rfl ?_))))))));refine aA rfl (aA rfl (aA rfl (aA rfl (ab rfl rfl (aa (ao (v:=.bool _) rfl rfl) (ak (ag (aJ rfl (an (ah ?_))))))))));refine asb rfl (ak (ag (aC (ay (bh (v:=.bool _) rfl rfl (⟨congrArg Value.bool ?_,(((((aj.rfl_.next E1).next E67).next E110).next E116).next E171)⟩))))));rw [eq_comm,←Bool.not_eq_true,aO];rintro ⟨⟨n1,n2,n3,⟨n4,n5⟩,n6,n7,n8,n9⟩,⟨g1,g2,g3,g4,g5⟩,v1,l1,⟨p1,p2,p3⟩⟩;by_cases hro:s.role=2
   ·rw [aN hro] at l1;obtain ⟨⟨l2,l3,l4,l5⟩,⟨l6,l7,l8⟩,l9⟩:=l1
    first
     |omega
     |(rename_i q9;exact q9 ⟨by omega,by assumption⟩)
     |(simp_all [bc];done)
     |(simp_all [bc];omega)
   ·rw [a_ hro] at l1;have e1:s.next=[]:=List.eq_nil_of_length_eq_zero (by omega);have e2:s.mtch=[]:=List.eq_nil_of_length_eq_zero (by omega);have e3:s.sent=[]:=List.eq_nil_of_length_eq_zero (by omega)
    first
     |omega
     |(simp_all [bc,bP];done)
     |(simp_all [bc,bP];omega)
  with_reducible (replace Q138:=dd Q138;replace Q138:=dT_ Q138)
  (try simp only [Bool.not_eq_true',Bool.not_eq_false',Bool.not_eq_true,Bool.not_eq_false,decide_eq_true_eq,decide_eq_false_iff_not,Bool.or_eq_true,Bool.and_eq_true] at Q138)
  refine af rfl (aa (ae bM rfl) (af rfl (aa (aq aM rfl (by exact (show _=some (Value.slice M s.mtch.length Mc) from (hk1.from_ ((((aj.rfl_.next E67).next E110).next E116).next E171)).rd 16 rfl))) ?_)));refine af rfl (mvi rfl (af rfl (mvi rfl (af rfl (aG cS (eT M Mc s.mtch _ 0 (aQ s) _ (hrd.m.1.from_ (((((aj.rfl_.next E1).next E67).next E110).next E116).next E171)) hl3) ?_)))));rintro v178 w139 ⟨rfl,E178⟩;refine af rfl (aa (cd rfl) (aa (av (v:=.bool _) rfl rfl) (mvb rfl (aE (t:=181) rfl (fun Q140=>?_) (fun Q140=>?_)))))
  ·with_reducible (replace Q140:=dc Q140;replace Q140:=dF_ Q140)
   (try simp only [Bool.not_eq_true',Bool.not_eq_false',Bool.not_eq_true,Bool.not_eq_false,decide_eq_true_eq,decide_eq_false_iff_not,Bool.or_eq_true,Bool.and_eq_true] at Q140)
   refine ab rfl rfl (ab rfl rfl (ab rfl rfl (ab rfl rfl (ab rfl rfl (ab rfl rfl (ab rfl rfl (ab rfl rfl (aa (ao (v:=.bool _) rfl rfl) ?_))))))));refine mvb rfl (ab rfl rfl (ab rfl rfl (ab rfl rfl (ab rfl rfl (aa (ao (v:=.bool _) rfl rfl) (mvb rfl (ab rfl rfl (ab rfl rfl ?_))))))));refine ab rfl rfl (aA rfl (aA rfl (aA rfl (aA rfl (ab rfl rfl (aa (ao (v:=.bool _) rfl rfl) (ak (ag (aJ rfl ?_)))))))));refine an (ah (asb rfl (ak (ag (aC (ay (bh (v:=.bool _) rfl rfl (⟨congrArg Value.bool ?_,((((((aj.rfl_.next E1).next E67).next E110).next E116).next E171).next E178)⟩))))))));rw [eq_comm,←Bool.not_eq_true,aO];rintro ⟨⟨n1,n2,n3,⟨n4,n5⟩,n6,n7,n8,n9⟩,⟨g1,g2,g3,g4,g5⟩,v1,l1,⟨p1,p2,p3⟩⟩;by_cases hro:s.role=2
   ·rw [aN hro] at l1;obtain ⟨⟨l2,l3,l4,l5⟩,⟨l6,l7,l8⟩,l9⟩:=l1
    first
     |omega
     |(rename_i q9;exact q9 ⟨by omega,by assumption⟩)
     |(simp_all [bc];done)
     |(simp_all [bc];omega)
   ·rw [a_ hro] at l1;have e1:s.next=[]:=List.eq_nil_of_length_eq_zero (by omega);have e2:s.mtch=[]:=List.eq_nil_of_length_eq_zero (by omega);have e3:s.sent=[]:=List.eq_nil_of_length_eq_zero (by omega)
    first
     |omega
     |(simp_all [bc,bP];done)
     |(simp_all [bc,bP];omega)
  with_reducible (replace Q140:=dd Q140;replace Q140:=dT_ Q140)
  (try simp only [Bool.not_eq_true',Bool.not_eq_false',Bool.not_eq_true,Bool.not_eq_false,decide_eq_true_eq,decide_eq_false_iff_not,Bool.or_eq_true,Bool.and_eq_true] at Q140)
  refine af rfl (aa (ae bW rfl) (af rfl (aa (aq aM rfl (by exact (show _=some (Value.slice Sn s.sent.length Sc) from (hk1.from_ (((((aj.rfl_.next E67).next E110).next E116).next E171).next E178)).rd 17 rfl))) ?_)));refine af rfl (mvi rfl (af rfl (aa (ae cf rfl) (af rfl (aa (aq bD rfl (by exact (hk1.from_ (((((aj.rfl_.next E67).next E110).next E116).next E171).next E178)).rd 9 rfl)) ?_)))));refine af rfl (aa (df (by kernel_rfl) rfl) (af rfl (aG cS (eT Sn Sc s.sent _ 0 (s.snap.size:Nat) _ (hrd.n.1.from_ ((((((aj.rfl_.next E1).next E67).next E110).next E116).next E171).next E178)) hl4) ?_)));rintro v188 w141 ⟨rfl,E188⟩;refine af rfl (aa (cd rfl) (aa (av (v:=.bool _) rfl rfl) (mvb rfl (aE (t:=191) rfl (fun Q142=>?_) (fun Q142=>?_)))))
  ·with_reducible (replace Q142:=dc Q142;replace Q142:=dF_ Q142)
   (try simp only [Bool.not_eq_true',Bool.not_eq_false',Bool.not_eq_true,Bool.not_eq_false,decide_eq_true_eq,decide_eq_false_iff_not,Bool.or_eq_true,Bool.and_eq_true] at Q142)
   refine ab rfl rfl (ab rfl rfl (ab rfl rfl (ab rfl rfl (aa (ao (v:=.bool _) rfl rfl) (mvb rfl (ab rfl rfl (ab rfl rfl (ab rfl rfl ?_))))))));refine aA rfl (aA rfl (aA rfl (aA rfl (ab rfl rfl (aa (ao (v:=.bool _) rfl rfl) (ak (ag (aJ rfl (an (ah ?_))))))))));refine asb rfl (ak (ag (aC (ay (bh (v:=.bool _) rfl rfl (⟨congrArg Value.bool ?_,(((((((aj.rfl_.next E1).next E67).next E110).next E116).next E171).next E178).next E188)⟩))))));rw [eq_comm,←Bool.not_eq_true,aO];rintro ⟨⟨n1,n2,n3,⟨n4,n5⟩,n6,n7,n8,n9⟩,⟨g1,g2,g3,g4,g5⟩,v1,l1,⟨p1,p2,p3⟩⟩;by_cases hro:s.role=2
   ·rw [aN hro] at l1;obtain ⟨⟨l2,l3,l4,l5⟩,⟨l6,l7,l8⟩,l9⟩:=l1
    first
     |omega
     |(rename_i q9;exact q9 ⟨by omega,by assumption⟩)
     |(simp_all [bc];done)
     |(simp_all [bc];omega)
   ·rw [a_ hro] at l1;have e1:s.next=[]:=List.eq_nil_of_length_eq_zero (by omega);have e2:s.mtch=[]:=List.eq_nil_of_length_eq_zero (by omega);have e3:s.sent=[]:=List.eq_nil_of_length_eq_zero (by omega)
    first
     |omega
     |(simp_all [bc,bP];done)
     |(simp_all [bc,bP];omega)
  with_reducible (replace Q142:=dd Q142;replace Q142:=dT_ Q142)
  (try simp only [Bool.not_eq_true',Bool.not_eq_false',Bool.not_eq_true,Bool.not_eq_false,decide_eq_true_eq,decide_eq_false_iff_not,Bool.or_eq_true,Bool.and_eq_true] at Q142)
  refine af rfl (aa (ae bd rfl) (af rfl (aa (aq bn rfl (by exact (show _=some (Value.slice Q LL.length Qc) from (hk1.from_ ((((((aj.rfl_.next E67).next E110).next E116).next E171).next E178).next E188)).rd 19 rfl))) ?_)));refine af rfl (aa (bm bI rfl) (af rfl (aa (bH rfl rfl) (aa (av (v:=.bool _) rfl rfl) (mvb rfl (wK (t:=197) rfl (fun Q143=>?_) (fun Q143=>?_)))))))
  ·(try simp only [Bool.not_eq_true',Bool.not_eq_false',Bool.not_eq_true,Bool.not_eq_false,decide_eq_true_eq,decide_eq_false_iff_not,Bool.or_eq_true,Bool.and_eq_true] at Q143)
   refine ab rfl rfl (ab rfl rfl (ab rfl rfl (aA rfl (aA rfl (aA rfl (aA rfl (ab rfl rfl (aa (ao (v:=.bool _) rfl rfl) ?_))))))));refine ak (ag (aJ rfl (an (ah (asb rfl (ak (ag (aC (ay (bh (v:=.bool _) rfl rfl (⟨congrArg Value.bool ?_,(((((((aj.rfl_.next E1).next E67).next E110).next E116).next E171).next E178).next E188)⟩)))))))))));rw [eq_comm,←Bool.not_eq_true,aO];rintro ⟨⟨n1,n2,n3,⟨n4,n5⟩,n6,n7,n8,n9⟩,⟨g1,g2,g3,g4,g5⟩,v1,l1,⟨p1,p2,p3⟩⟩;by_cases hro:s.role=2
   ·rw [aN hro] at l1;obtain ⟨⟨l2,l3,l4,l5⟩,⟨l6,l7,l8⟩,l9⟩:=l1
    first
     |omega
     |(rename_i q9;exact q9 ⟨by omega,by assumption⟩)
     |(simp_all [bc];done)
     |(simp_all [bc];omega)
   ·rw [a_ hro] at l1;have e1:s.next=[]:=List.eq_nil_of_length_eq_zero (by omega);have e2:s.mtch=[]:=List.eq_nil_of_length_eq_zero (by omega);have e3:s.sent=[]:=List.eq_nil_of_length_eq_zero (by omega)
    first
     |omega
     |(simp_all [bc,bP];done)
     |(simp_all [bc,bP];omega)
  (try simp only [Bool.not_eq_true',Bool.not_eq_false',Bool.not_eq_true,Bool.not_eq_false,decide_eq_true_eq,decide_eq_false_iff_not,Bool.or_eq_true,Bool.and_eq_true] at Q143)
  refine af rfl (mvi rfl (af rfl (aa (bC rfl rfl) (af rfl (mvb rfl (wK (t:=200) rfl (fun Q144=>?_) (fun Q144=>?_)))))));rotate_left
  ·(try simp only at Q144)
   exfalso;contradiction
  (try simp only at Q144)
  refine af rfl (aa (ae bd rfl) (af rfl (aa (aq bn rfl (by exact (show _=some (Value.slice Q LL.length Qc) from (hk1.from_ ((((((aj.rfl_.next E67).next E110).next E116).next E171).next E178).next E188)).rd 19 rfl))) ?_)));refine af rfl (aa (bm bI rfl) (af rfl (aa (bH rfl rfl) (af rfl (aa (ao (v:=.bool _) rfl rfl) (aa (av (v:=.bool _) rfl rfl) (ak (ag (xD rfl (fun Q157=>?_) (fun Q157=>?_))))))))))
  ·(try simp only [Bool.not_eq_true',Bool.not_eq_false',Bool.not_eq_true,Bool.not_eq_false,decide_eq_true_eq,decide_eq_false_iff_not,Bool.or_eq_true,Bool.and_eq_true] at Q157)
   refine an (ah (asb rfl (ak (ag (aC (ay (bh (v:=.bool _) rfl rfl (⟨congrArg Value.bool ?_,(((((((aj.rfl_.next E1).next E67).next E110).next E116).next E171).next E178).next E188)⟩))))))));rw [eq_comm,←Bool.not_eq_true,aO];rintro ⟨⟨n1,n2,n3,⟨n4,n5⟩,n6,n7,n8,n9⟩,⟨g1,g2,g3,g4,g5⟩,v1,l1,⟨p1,p2,p3⟩⟩;by_cases hro:s.role=2
   ·rw [aN hro] at l1;obtain ⟨⟨l2,l3,l4,l5⟩,⟨l6,l7,l8⟩,l9⟩:=l1
    first
     |omega
     |(rename_i q9;exact q9 ⟨by omega,by assumption⟩)
     |(simp_all [bc];done)
     |(simp_all [bc];omega)
   ·rw [a_ hro] at l1;have e1:s.next=[]:=List.eq_nil_of_length_eq_zero (by omega);have e2:s.mtch=[]:=List.eq_nil_of_length_eq_zero (by omega);have e3:s.sent=[]:=List.eq_nil_of_length_eq_zero (by omega)
    first
     |omega
     |(simp_all [bc,bP];done)
     |(simp_all [bc,bP];omega)
  (try simp only [Bool.not_eq_true',Bool.not_eq_false',Bool.not_eq_true,Bool.not_eq_false,decide_eq_true_eq,decide_eq_false_iff_not,Bool.or_eq_true,Bool.and_eq_true] at Q157)
  refine aR (ag (an (an (ah (asi rfl (ak (ag (bf (cz (G:=Nat) [2,7,207,208,209,210,211,212,213,214,215,216,217,218,219,220,221,222,223,224,225,226,227,228,229,230,231,232,233,234,235,236,237,238,239,240,241,242,243,244,245,246,247,248,249,250,251,252,253,254,255,256,257,258] (fun k=>[(6,.int .i64 (k:Nat))]) (fun k w'=>k≤LL.length∧(∀ j (h:j<LL.length),j<k→ez s LL[j].1=true)∧Blk w' b1 29 (rfV s (⟨E,Ec,V,Vc,X,Xc,M,Mc,Sn,Sc,Q,Qc,LL⟩:Ra)).toArray∧aj w w') (fun k=>LL.length-k) (0) ⟨rfl,trivial⟩ ?_ ?_)))))))))
  ·exact ⟨Nat.zero_le _,fun j _ h=>absurd h (by omega),hk1.from_ ((((((aj.rfl_.next E67).next E110).next E116).next E171).next E178).next E188),(((((((aj.rfl_.next E1).next E67).next E110).next E116).next E171).next E178).next E188)⟩
  rintro k ρ158 w158 ⟨hk,h1,hk1,hB⟩;refine an (an (ah (mvi rfl (aa (ae bd rfl) (aa (aq bn rfl (by exact (show _=some (Value.slice Q LL.length Qc) from (hk1.from_ aj.rfl_).rd 19 rfl))) ?_)))));refine aa (bm bI rfl) (aa (bG rfl rfl) (ak (ag (xD rfl (fun Q159=>?_) (fun Q159=>?_)))))
  ·have hkL:k<LL.length:=by omega
   have hqm:LL[k].1∈s.reads:=by rw [←hrL];exact List.mem_map_of_mem (List.getElem_mem hkL)
   obtain ⟨ba,oa,rfl,hcs⟩:∃ b o,Q=some ⟨b,o,none⟩∧∀ i (hi:i<LL.length),w.rangeAt b (o+i*4) (rdV LL[i]):=hrd.q (by show 0<LL.length;omega);exfalso;omega
  refine bZ (bg (bg (bF (ag (an (ah (asb rfl (ak (ag (aC (bh (v:=.bool _) rfl rfl (⟨congrArg Value.bool ?_,hB⟩))))))))))));rw [eq_comm,aO]
  have hrd9:∀ q∈s.reads,ez s q=true:=fun q hq=>by
   rw [←hrL] at hq;obtain ⟨y,hy,rfl⟩:=List.mem_map.1 hq;obtain ⟨i,hi,rfl⟩:=List.getElem_of_mem hy;exact h1 i hi (by omega)
  refine ⟨⟨by omega,by omega,by omega,⟨by omega,by omega⟩,by omega,by omega,by omega,by omega⟩,⟨by simp_all,by omega,by omega,by omega,by omega⟩,by simp_all,?_,⟨by omega,by omega,by omega⟩⟩;by_cases hro:s.role=2
  ·rw [aN hro];refine ⟨⟨?_,?_,?_,?_⟩,⟨?_,?_,?_⟩,hrd9⟩ <;> first | omega | (simp_all [bc];done) | (simp_all [bc];omega)
  ·rw [a_ hro]
   simp_all [bc]
 (try simp only [Bool.not_eq_true',Bool.not_eq_false',Bool.not_eq_true,Bool.not_eq_false,decide_eq_true_eq,decide_eq_false_iff_not,Bool.or_eq_true,Bool.and_eq_true] at Q17)
 refine ab rfl rfl (ab rfl rfl (ab rfl rfl (af rfl (aa (av (v:=.bool _) rfl rfl) (aa (av (v:=.bool _) rfl rfl) (mvb rfl (af rfl (aa (ae dk rfl) ?_))))))));refine af rfl (aa (aq ar rfl (by exact (hk1.from_ (aj.rfl_.next E67)).rd 11 rfl)) ?_);refine af rfl (aG fS (qM s.elapsed _) ?_);rintro v90 w170 ⟨rfl,rfl⟩;refine af rfl (aa (cd rfl) (aa (av (v:=.bool _) rfl rfl) (mvb rfl (aE (t:=93) rfl (fun Q171=>?_) (fun Q171=>?_)))))
 ·with_reducible (replace Q171:=dc Q171;replace Q171:=dF_ Q171)
  (try simp only [Bool.not_eq_true',Bool.not_eq_false',Bool.not_eq_true,Bool.not_eq_false,decide_eq_true_eq,decide_eq_false_iff_not,Bool.or_eq_true,Bool.and_eq_true] at Q171)
  refine ab rfl rfl (ab rfl rfl (ab rfl rfl (ab rfl rfl (aa (ao (v:=.bool _) rfl rfl) (mvb rfl (ab rfl rfl (ab rfl rfl (ab rfl rfl ?_))))))));refine ab rfl rfl (aa (ao (v:=.bool _) rfl rfl) (mvb rfl (ab rfl rfl (ab rfl rfl (ab rfl rfl (ab rfl rfl (ab rfl rfl (ab rfl rfl ?_))))))));refine aa (ao (v:=.bool _) rfl rfl) (ak (ag (aJ rfl (an (ah (asb rfl (ak (ag (aC (ay (bh (v:=.bool _) rfl rfl (⟨congrArg Value.bool ?_,((aj.rfl_.next E1).next E67)⟩))))))))))));rw [eq_comm,←Bool.not_eq_true,aO];rintro ⟨⟨n1,n2,n3,⟨n4,n5⟩,n6,n7,n8,n9⟩,⟨g1,g2,g3,g4,g5⟩,v1,l1,⟨p1,p2,p3⟩⟩
  first
   |omega
   |(simp_all;done)
   |(simp_all;omega)
 with_reducible (replace Q171:=dd Q171;replace Q171:=dT_ Q171)
 (try simp only [Bool.not_eq_true',Bool.not_eq_false',Bool.not_eq_true,Bool.not_eq_false,decide_eq_true_eq,decide_eq_false_iff_not,Bool.or_eq_true,Bool.and_eq_true] at Q171)
 refine af rfl (aa (ae eh rfl) (af rfl (aa (aq ar rfl (by exact (hk1.from_ (aj.rfl_.next E67)).rd 12 rfl)) ?_)));refine af rfl (aG fS (qM s.timeout _) ?_);rintro v96 w172 ⟨rfl,rfl⟩;refine af rfl (aa (cd rfl) (aa (av (v:=.bool _) rfl rfl) (mvb rfl (aE (t:=99) rfl (fun Q173=>?_) (fun Q173=>?_)))))
 ·with_reducible (replace Q173:=dc Q173;replace Q173:=dF_ Q173)
  (try simp only [Bool.not_eq_true',Bool.not_eq_false',Bool.not_eq_true,Bool.not_eq_false,decide_eq_true_eq,decide_eq_false_iff_not,Bool.or_eq_true,Bool.and_eq_true] at Q173)
  refine ab rfl rfl (ab rfl rfl (ab rfl rfl (ab rfl rfl (aa (ao (v:=.bool _) rfl rfl) (mvb rfl (ab rfl rfl (ab rfl rfl (ab rfl rfl ?_))))))));refine ab rfl rfl (ab rfl rfl (ab rfl rfl (aa (ao (v:=.bool _) rfl rfl) (ak (ag (aJ rfl (an (ah (asb rfl (ak (ag (aC (ay ?_)))))))))))));refine bh (v:=.bool _) rfl rfl (⟨congrArg Value.bool ?_,((aj.rfl_.next E1).next E67)⟩);rw [eq_comm,←Bool.not_eq_true,aO];rintro ⟨⟨n1,n2,n3,⟨n4,n5⟩,n6,n7,n8,n9⟩,⟨g1,g2,g3,g4,g5⟩,v1,l1,⟨p1,p2,p3⟩⟩
  first
   |omega
   |(simp_all;done)
   |(simp_all;omega)
 with_reducible (replace Q173:=dd Q173;replace Q173:=dT_ Q173)
 (try simp only [Bool.not_eq_true',Bool.not_eq_false',Bool.not_eq_true,Bool.not_eq_false,decide_eq_true_eq,decide_eq_false_iff_not,Bool.or_eq_true,Bool.and_eq_true] at Q173)
 refine af rfl (aa (ae cL rfl) (af rfl (aa (aq ar rfl (by exact (hk1.from_ (aj.rfl_.next E67)).rd 18 rfl)) ?_)));refine af rfl (aG fS (qM s.round _) ?_);rintro v102 w174 ⟨rfl,rfl⟩;refine af rfl (aa (cd rfl) (aa (av (v:=.bool _) rfl rfl) (mvb rfl (aE (t:=105) rfl (fun Q175=>?_) (fun Q175=>?_)))))
 ·with_reducible (replace Q175:=dc Q175;replace Q175:=dF_ Q175)
  (try simp only [Bool.not_eq_true',Bool.not_eq_false',Bool.not_eq_true,Bool.not_eq_false,decide_eq_true_eq,decide_eq_false_iff_not,Bool.or_eq_true,Bool.and_eq_true] at Q175)
  refine ab rfl rfl (ab rfl rfl (ab rfl rfl (ab rfl rfl (ab rfl rfl (ab rfl rfl (aa (ao (v:=.bool _) rfl rfl) (ak (ag (aJ rfl ?_)))))))));refine an (ah (asb rfl (ak (ag (aC (ay (bh (v:=.bool _) rfl rfl (⟨congrArg Value.bool ?_,((aj.rfl_.next E1).next E67)⟩))))))));rw [eq_comm,←Bool.not_eq_true,aO];rintro ⟨⟨n1,n2,n3,⟨n4,n5⟩,n6,n7,n8,n9⟩,⟨g1,g2,g3,g4,g5⟩,v1,l1,⟨p1,p2,p3⟩⟩
  first
   |omega
   |(simp_all;done)
   |(simp_all;omega)
 with_reducible (replace Q175:=dd Q175;replace Q175:=dT_ Q175)
 (try simp only [Bool.not_eq_true',Bool.not_eq_false',Bool.not_eq_true,Bool.not_eq_false,decide_eq_true_eq,decide_eq_false_iff_not,Bool.or_eq_true,Bool.and_eq_true] at Q175)
 refine af rfl (aa (ae cP rfl) (af rfl (aa (aq aM rfl (by exact (show _=some (Value.slice V s.votes.length Vc) from (hk1.from_ (aj.rfl_.next E67)).rd 14 rfl))) ?_)));refine af rfl (aa (ae bw rfl) (af rfl (aa (aq ar rfl (by exact (hk1.from_ (aj.rfl_.next E67)).rd 1 rfl)) ?_)));refine af rfl (aG gC (k0 V Vc s.votes s.nodes _ (hrd.v.1.from_ ((aj.rfl_.next E1).next E67)) hl1) ?_);rintro v110 w176 ⟨rfl,E110⟩;refine af rfl (aa (cd rfl) (aa (av (v:=.bool _) rfl rfl) (ak (ag (xB rfl (fun Q177=>?_) (fun Q177=>?_))))))
 ·(try simp only [Bool.not_eq_true',Bool.not_eq_false',Bool.not_eq_true,Bool.not_eq_false,decide_eq_true_eq,decide_eq_false_iff_not,Bool.or_eq_true,Bool.and_eq_true] at Q177)
  refine an (ah (asb rfl (ak (ag (aC (ay (bh (v:=.bool _) rfl rfl (⟨congrArg Value.bool ?_,(((aj.rfl_.next E1).next E67).next E110)⟩))))))));rw [eq_comm,←Bool.not_eq_true,aO];rintro ⟨⟨n1,n2,n3,⟨n4,n5⟩,n6,n7,n8,n9⟩,⟨g1,g2,g3,g4,g5⟩,v1,l1,⟨p1,p2,p3⟩⟩
  first
   |omega
   |(simp_all;done)
   |(simp_all;omega)
 (try simp only [Bool.not_eq_true',Bool.not_eq_false',Bool.not_eq_true,Bool.not_eq_false,decide_eq_true_eq,decide_eq_false_iff_not,Bool.or_eq_true,Bool.and_eq_true] at Q177)
 refine aR (ag (an (ah (aa (ae bk rfl) (aa (aT (cs:=[.int .i64 s.b,.int .i64 s.t,.slice E s.es.length Ec]) cZ cI rfl (lT (hk1.from_ ((aj.rfl_.next E67).next E110)))) ?_)))));have hm1:cg s.b s.t s.es=true:=by first | assumption | simp_all
 have hbl:=en hm1;have hlr:aQ s=s.b+s.es.length:=hbl.1;refine aG j9 (mD s E s.es.length Ec _ (hrd.e.from_ (((aj.rfl_.next E1).next E67).next E110)) hm1) ?_;rintro v116 w178 ⟨rfl,E116⟩;refine mvt rfl (aa (aS rfl rfl) (aa (aS rfl rfl) (asi rfl (asi rfl (ak (ag (an (an (ah (mvi rfl (aa (ae cB rfl) (aa (aq ar rfl (by exact (hk1.from_ (((aj.rfl_.next E67).next E110).next E116)).rd 3 rfl)) ?_))))))))))));refine aa (bH rfl rfl) (ak (ag (xD rfl (fun Q179=>?_) (fun Q179=>?_))))
 ·refine an (ah (asb rfl (ak (ag (aC (ay (bh (v:=.bool _) rfl rfl (⟨congrArg Value.bool ?_,((((aj.rfl_.next E1).next E67).next E110).next E116)⟩))))))));rw [eq_comm,←Bool.not_eq_true,aO];rintro ⟨⟨n1,n2,n3,⟨n4,n5⟩,n6,n7,n8,n9⟩,⟨g1,g2,g3,g4,g5⟩,v1,l1,⟨p1,p2,p3⟩⟩
  first
   |omega
   |(simp_all;done)
   |(simp_all;omega)
 refine aR (ag (an (an (ah (aa (ae cA rfl) (aa (aq ar rfl (by exact (hk1.from_ (((aj.rfl_.next E67).next E110).next E116)).rd 10 rfl)) ?_))))));refine aa (ae bk rfl) (aa (ae dh rfl) (aa (aq ar rfl (by exact (hk1.from_ (((aj.rfl_.next E67).next E110).next E116)).rd 6 rfl)) ?_));refine aa (bG rfl rfl) (mvb rfl (wK (t:=129) rfl (fun Q180=>?_) (fun Q180=>?_)))
 ·(try simp only [Bool.not_eq_true',Bool.not_eq_false',Bool.not_eq_true,Bool.not_eq_false,decide_eq_true_eq,decide_eq_false_iff_not,Bool.or_eq_true,Bool.and_eq_true] at Q180)
  refine ab rfl rfl (ab rfl rfl (ab rfl rfl (ab rfl rfl (aa (ao (v:=.bool _) rfl rfl) (mvb rfl (ab rfl rfl (ab rfl rfl (ab rfl rfl ?_))))))));refine ab rfl rfl (aa (ao (v:=.bool _) rfl rfl) (mvb rfl (ab rfl rfl (ab rfl rfl (ab rfl rfl (aa (ao (v:=.bool _) rfl rfl) (mvb rfl (ab rfl rfl ?_))))))));refine ab rfl rfl (ab rfl rfl (aa (ao (v:=.bool _) rfl rfl) (mvb rfl (ab rfl rfl (ab rfl rfl (ab rfl rfl (ab rfl rfl (aA rfl ?_))))))));refine aA rfl (aA rfl (ab rfl rfl (aa (ao (v:=.bool _) rfl rfl) (ak (ag (aJ rfl (an (ah (asb rfl (ak (ag (aC (ay ?_)))))))))))));refine bh (v:=.bool _) rfl rfl (⟨congrArg Value.bool ?_,((((aj.rfl_.next E1).next E67).next E110).next E116)⟩);rw [eq_comm,←Bool.not_eq_true,aO];rintro ⟨⟨n1,n2,n3,⟨n4,n5⟩,n6,n7,n8,n9⟩,⟨g1,g2,g3,g4,g5⟩,v1,l1,⟨p1,p2,p3⟩⟩
  first
   |omega
   |(simp_all;done)
   |(simp_all;omega)
 (try simp only [Bool.not_eq_true',Bool.not_eq_false',Bool.not_eq_true,Bool.not_eq_false,decide_eq_true_eq,decide_eq_false_iff_not,Bool.or_eq_true,Bool.and_eq_true] at Q180)
 refine af rfl (aa (ae cA rfl) (af rfl (aa (aq ar rfl (by exact (hk1.from_ (((aj.rfl_.next E67).next E110).next E116)).rd 10 rfl)) ?_)));refine af rfl (mvi rfl (af rfl (aa (bH rfl rfl) (aa (av (v:=.bool _) rfl rfl) (mvb rfl (wK (t:=135) rfl (fun Q181=>?_) (fun Q181=>?_)))))))
 ·(try simp only [Bool.not_eq_true',Bool.not_eq_false',Bool.not_eq_true,Bool.not_eq_false,decide_eq_true_eq,decide_eq_false_iff_not,Bool.or_eq_true,Bool.and_eq_true] at Q181)
  refine ab rfl rfl (ab rfl rfl (ab rfl rfl (ab rfl rfl (aa (ao (v:=.bool _) rfl rfl) (mvb rfl (ab rfl rfl (ab rfl rfl (ab rfl rfl ?_))))))));refine aa (ao (v:=.bool _) rfl rfl) (mvb rfl (ab rfl rfl (ab rfl rfl (ab rfl rfl (aa (ao (v:=.bool _) rfl rfl) (mvb rfl (ab rfl rfl (ab rfl rfl ?_))))))));refine ab rfl rfl (ab rfl rfl (aA rfl (aA rfl (aA rfl (ab rfl rfl (aa (ao (v:=.bool _) rfl rfl) (ak (ag (aJ rfl ?_)))))))));refine an (ah (asb rfl (ak (ag (aC (ay (bh (v:=.bool _) rfl rfl (⟨congrArg Value.bool ?_,((((aj.rfl_.next E1).next E67).next E110).next E116)⟩))))))));rw [eq_comm,←Bool.not_eq_true,aO];rintro ⟨⟨n1,n2,n3,⟨n4,n5⟩,n6,n7,n8,n9⟩,⟨g1,g2,g3,g4,g5⟩,v1,l1,⟨p1,p2,p3⟩⟩
  first
   |omega
   |(simp_all;done)
   |(simp_all;omega)
 (try simp only [Bool.not_eq_true',Bool.not_eq_false',Bool.not_eq_true,Bool.not_eq_false,decide_eq_true_eq,decide_eq_false_iff_not,Bool.or_eq_true,Bool.and_eq_true] at Q181)
 refine af rfl (aa (ae dv rfl) (af rfl (aa (aq bD rfl (by exact (hk1.from_ (((aj.rfl_.next E67).next E110).next E116)).rd 20 rfl)) ?_)));refine af rfl (aa (df (by kernel_rfl) rfl) (af rfl (aa (bH rfl rfl) (aa (av (v:=.bool _) rfl rfl) (mvb rfl (wK (t:=141) rfl (fun Q182=>?_) (fun Q182=>?_)))))))
 ·(try simp only [Bool.not_eq_true',Bool.not_eq_false',Bool.not_eq_true,Bool.not_eq_false,decide_eq_true_eq,decide_eq_false_iff_not,Bool.or_eq_true,Bool.and_eq_true] at Q182)
  refine ab rfl rfl (ab rfl rfl (ab rfl rfl (aa (ao (v:=.bool _) rfl rfl) (mvb rfl (ab rfl rfl (ab rfl rfl (ab rfl rfl (aa (ao (v:=.bool _) rfl rfl) ?_))))))));refine mvb rfl (ab rfl rfl (ab rfl rfl (ab rfl rfl (ab rfl rfl (aA rfl (aA rfl (aA rfl (ab rfl rfl ?_))))))));refine aa (ao (v:=.bool _) rfl rfl) (ak (ag (aJ rfl (an (ah (asb rfl (ak (ag (aC (ay (bh (v:=.bool _) rfl rfl (⟨congrArg Value.bool ?_,((((aj.rfl_.next E1).next E67).next E110).next E116)⟩))))))))))));rw [eq_comm,←Bool.not_eq_true,aO];rintro ⟨⟨n1,n2,n3,⟨n4,n5⟩,n6,n7,n8,n9⟩,⟨g1,g2,g3,g4,g5⟩,v1,l1,⟨p1,p2,p3⟩⟩
  first
   |omega
   |(simp_all;done)
   |(simp_all;omega)
 (try simp only [Bool.not_eq_true',Bool.not_eq_false',Bool.not_eq_true,Bool.not_eq_false,decide_eq_true_eq,decide_eq_false_iff_not,Bool.or_eq_true,Bool.and_eq_true] at Q182)
 refine af rfl (aa (ae di rfl) (af rfl (aa (aq ar rfl (by exact (hk1.from_ (((aj.rfl_.next E67).next E110).next E116)).rd 21 rfl)) ?_)));refine af rfl (aa (bG rfl rfl) (aa (av (v:=.bool _) rfl rfl) (mvb rfl (wK (t:=146) rfl (fun Q183=>?_) (fun Q183=>?_)))))
 ·(try simp only [Bool.not_eq_true',Bool.not_eq_false',Bool.not_eq_true,Bool.not_eq_false,decide_eq_true_eq,decide_eq_false_iff_not,Bool.or_eq_true,Bool.and_eq_true] at Q183)
  refine ab rfl rfl (ab rfl rfl (ab rfl rfl (aa (ao (v:=.bool _) rfl rfl) (mvb rfl (ab rfl rfl (ab rfl rfl (ab rfl rfl (ab rfl rfl ?_))))))));refine aA rfl (aA rfl (aA rfl (ab rfl rfl (aa (ao (v:=.bool _) rfl rfl) (ak (ag (aJ rfl (an (ah (asb rfl ?_))))))))));refine ak (ag (aC (ay (bh (v:=.bool _) rfl rfl (⟨congrArg Value.bool ?_,((((aj.rfl_.next E1).next E67).next E110).next E116)⟩)))));rw [eq_comm,←Bool.not_eq_true,aO];rintro ⟨⟨n1,n2,n3,⟨n4,n5⟩,n6,n7,n8,n9⟩,⟨g1,g2,g3,g4,g5⟩,v1,l1,⟨p1,p2,p3⟩⟩
  first
   |omega
   |(simp_all;done)
   |(simp_all;omega)
 (try simp only [Bool.not_eq_true',Bool.not_eq_false',Bool.not_eq_true,Bool.not_eq_false,decide_eq_true_eq,decide_eq_false_iff_not,Bool.or_eq_true,Bool.and_eq_true] at Q183)
 refine af rfl (aa (ae di rfl) (af rfl (aa (aq ar rfl (by exact (hk1.from_ (((aj.rfl_.next E67).next E110).next E116)).rd 21 rfl)) ?_)));refine af rfl (aa (bH rfl rfl) (aa (av (v:=.bool _) rfl rfl) (mvb rfl (wK (t:=151) rfl (fun Q184=>?_) (fun Q184=>?_)))))
 ·(try simp only [Bool.not_eq_true',Bool.not_eq_false',Bool.not_eq_true,Bool.not_eq_false,decide_eq_true_eq,decide_eq_false_iff_not,Bool.or_eq_true,Bool.and_eq_true] at Q184)
  refine ab rfl rfl (ab rfl rfl (ab rfl rfl (ab rfl rfl (aA rfl (aA rfl (aA rfl (ab rfl rfl (aa (ao (v:=.bool _) rfl rfl) ?_))))))));refine ak (ag (aJ rfl (an (ah (asb rfl (ak (ag (aC (ay (bh (v:=.bool _) rfl rfl (⟨congrArg Value.bool ?_,((((aj.rfl_.next E1).next E67).next E110).next E116)⟩)))))))))));rw [eq_comm,←Bool.not_eq_true,aO];rintro ⟨⟨n1,n2,n3,⟨n4,n5⟩,n6,n7,n8,n9⟩,⟨g1,g2,g3,g4,g5⟩,v1,l1,⟨p1,p2,p3⟩⟩
  first
   |omega
   |(simp_all;done)
   |(simp_all;omega)
 (try simp only [Bool.not_eq_true',Bool.not_eq_false',Bool.not_eq_true,Bool.not_eq_false,decide_eq_true_eq,decide_eq_false_iff_not,Bool.or_eq_true,Bool.and_eq_true] at Q184)
 refine af rfl (aa (ae di rfl) (af rfl (aa (aq ar rfl (by exact (hk1.from_ (((aj.rfl_.next E67).next E110).next E116)).rd 21 rfl)) ?_)));refine af rfl (aa (bC rfl rfl) (af rfl (mvb rfl (wK (t:=155) rfl (fun Q185=>?_) (fun Q185=>?_)))))
 ·(try simp only [Bool.not_eq_true',Bool.not_eq_false',Bool.not_eq_true,Bool.not_eq_false,decide_eq_true_eq,decide_eq_false_iff_not,Bool.or_eq_true,Bool.and_eq_true] at Q185)
  refine af rfl (aa (ae dv rfl) (af rfl (aa (aq bD rfl (by exact (hk1.from_ (((aj.rfl_.next E67).next E110).next E116)).rd 20 rfl)) ?_)));refine af rfl (aa (gk (oD rfl rfl) (congrArg Value.bool (wq s.part))) (af rfl (aa (ao (v:=.bool _) rfl rfl) (aa (av (v:=.bool _) rfl rfl) (ak (ag (xD rfl (fun Q186=>?_) (fun Q186=>?_))))))))
  ·(try simp only [Bool.not_eq_true',Bool.not_eq_false',Bool.not_eq_true,Bool.not_eq_false,decide_eq_true_eq,decide_eq_false_iff_not,Bool.or_eq_true,Bool.and_eq_true] at Q186)
   refine an (ah (asb rfl (ak (ag (aC (ay (bh (v:=.bool _) rfl rfl (⟨congrArg Value.bool ?_,((((aj.rfl_.next E1).next E67).next E110).next E116)⟩))))))));rw [eq_comm,←Bool.not_eq_true,aO];rintro ⟨⟨n1,n2,n3,⟨n4,n5⟩,n6,n7,n8,n9⟩,⟨g1,g2,g3,g4,g5⟩,v1,l1,⟨p1,p2,p3⟩⟩
   first
    |omega
    |(simp_all;done)
    |(simp_all;omega)
  (try simp only [Bool.not_eq_true',Bool.not_eq_false',Bool.not_eq_true,Bool.not_eq_false,decide_eq_true_eq,decide_eq_false_iff_not,Bool.or_eq_true,Bool.and_eq_true] at Q186)
  refine aR (ag (an (ah (asi rfl (ak (ag (an (an (ah (aa (ae cF rfl) (aa (aq ar rfl (by exact (hk1.from_ (((aj.rfl_.next E67).next E110).next E116)).rd 2 rfl)) ?_)))))))))));refine aa (bC rfl rfl) (ak (ag (xD rfl (fun Q187=>?_) (fun Q187=>?_))))
  ·refine ah (aa (ae bw rfl) (aa (aq ar rfl (by exact (hk1.from_ (((aj.rfl_.next E67).next E110).next E116)).rd 1 rfl)) ?_));refine asi rfl (ak (ag (an (an (ah (aa (ae bu rfl) (aa (aq aM rfl (by exact (show _=some (Value.slice X s.next.length Xc) from (hk1.from_ (((aj.rfl_.next E67).next E110).next E116)).rd 15 rfl))) ?_)))))));refine mvi rfl (mvi rfl (aa (bE rfl rfl (by omega)) (aG cS (eT X Xc s.next _ 1 (aQ s+1) _ (hrd.x.1.from_ ((((aj.rfl_.next E1).next E67).next E110).next E116)) hl2) ?_)));rintro v171 w188 ⟨rfl,E171⟩;refine aa (cd rfl) (mvb rfl (aE (t:=173) rfl (fun Q189=>?_) (fun Q189=>?_)))
   ·with_reducible (replace Q189:=dc Q189;replace Q189:=dF_ Q189)
    (try simp only [Bool.not_eq_true',Bool.not_eq_false',Bool.not_eq_true,Bool.not_eq_false,decide_eq_true_eq,decide_eq_false_iff_not,Bool.or_eq_true,Bool.and_eq_true] at Q189)
    refine ab rfl rfl (ab rfl rfl (ab rfl rfl (ab rfl rfl (ab rfl rfl (ab rfl rfl (aa (ao (v:=.bool _) rfl rfl) (mvb rfl (ab rfl rfl ?_))))))));refine ab rfl rfl (ab rfl rfl (ab rfl rfl (ab rfl rfl (ab rfl rfl (ab rfl rfl (ab rfl rfl (aa (ao (v:=.bool _) rfl rfl) (mvb rfl ?_))))))));refine ab rfl rfl (ab rfl rfl (ab rfl rfl (ab rfl rfl (aa (ao (v:=.bool _) rfl rfl) (mvb rfl (ab rfl rfl (ab rfl rfl (ab rfl rfl ?_))))))));refine aA rfl (aA rfl (aA rfl (aA rfl (ab rfl rfl (aa (ao (v:=.bool _) rfl rfl) (ak (ag (aJ rfl (an (ah ?_))))))))));refine asb rfl (ak (ag (aC (ay (bh (v:=.bool _) rfl rfl (⟨congrArg Value.bool ?_,(((((aj.rfl_.next E1).next E67).next E110).next E116).next E171)⟩))))));rw [eq_comm,←Bool.not_eq_true,aO];rintro ⟨⟨n1,n2,n3,⟨n4,n5⟩,n6,n7,n8,n9⟩,⟨g1,g2,g3,g4,g5⟩,v1,l1,⟨p1,p2,p3⟩⟩;by_cases hro:s.role=2
    ·rw [aN hro] at l1;obtain ⟨⟨l2,l3,l4,l5⟩,⟨l6,l7,l8⟩,l9⟩:=l1
     first
      |omega
      |(rename_i q9;exact q9 ⟨by omega,by assumption⟩)
      |(simp_all [bc];done)
      |(simp_all [bc];omega)
    ·rw [a_ hro] at l1;have e1:s.next=[]:=List.eq_nil_of_length_eq_zero (by omega);have e2:s.mtch=[]:=List.eq_nil_of_length_eq_zero (by omega);have e3:s.sent=[]:=List.eq_nil_of_length_eq_zero (by omega)
     first
      |omega
      |(simp_all [bc,bP];done)
      |(simp_all [bc,bP];omega)
   with_reducible (replace Q189:=dd Q189;replace Q189:=dT_ Q189)
   (try simp only [Bool.not_eq_true',Bool.not_eq_false',Bool.not_eq_true,Bool.not_eq_false,decide_eq_true_eq,decide_eq_false_iff_not,Bool.or_eq_true,Bool.and_eq_true] at Q189)
   refine af rfl (aa (ae bM rfl) (af rfl (aa (aq aM rfl (by exact (show _=some (Value.slice M s.mtch.length Mc) from (hk1.from_ ((((aj.rfl_.next E67).next E110).next E116).next E171)).rd 16 rfl))) ?_)));refine af rfl (mvi rfl (af rfl (mvi rfl (af rfl (aG cS (eT M Mc s.mtch _ 0 (aQ s) _ (hrd.m.1.from_ (((((aj.rfl_.next E1).next E67).next E110).next E116).next E171)) hl3) ?_)))));rintro v178 w190 ⟨rfl,E178⟩;refine af rfl (aa (cd rfl) (aa (av (v:=.bool _) rfl rfl) (mvb rfl (aE (t:=181) rfl (fun Q191=>?_) (fun Q191=>?_)))))
   ·with_reducible (replace Q191:=dc Q191;replace Q191:=dF_ Q191)
    (try simp only [Bool.not_eq_true',Bool.not_eq_false',Bool.not_eq_true,Bool.not_eq_false,decide_eq_true_eq,decide_eq_false_iff_not,Bool.or_eq_true,Bool.and_eq_true] at Q191)
    refine ab rfl rfl (ab rfl rfl (ab rfl rfl (ab rfl rfl (ab rfl rfl (ab rfl rfl (ab rfl rfl (ab rfl rfl (aa (ao (v:=.bool _) rfl rfl) ?_))))))));refine mvb rfl (ab rfl rfl (ab rfl rfl (ab rfl rfl (ab rfl rfl (aa (ao (v:=.bool _) rfl rfl) (mvb rfl (ab rfl rfl (ab rfl rfl ?_))))))));refine ab rfl rfl (aA rfl (aA rfl (aA rfl (aA rfl (ab rfl rfl (aa (ao (v:=.bool _) rfl rfl) (ak (ag (aJ rfl ?_)))))))));refine an (ah (asb rfl (ak (ag (aC (ay (bh (v:=.bool _) rfl rfl (⟨congrArg Value.bool ?_,((((((aj.rfl_.next E1).next E67).next E110).next E116).next E171).next E178)⟩))))))));rw [eq_comm,←Bool.not_eq_true,aO];rintro ⟨⟨n1,n2,n3,⟨n4,n5⟩,n6,n7,n8,n9⟩,⟨g1,g2,g3,g4,g5⟩,v1,l1,⟨p1,p2,p3⟩⟩;by_cases hro:s.role=2
    ·rw [aN hro] at l1;obtain ⟨⟨l2,l3,l4,l5⟩,⟨l6,l7,l8⟩,l9⟩:=l1
     first
      |omega
      |(rename_i q9;exact q9 ⟨by omega,by assumption⟩)
      |(simp_all [bc];done)
      |(simp_all [bc];omega)
    ·rw [a_ hro] at l1;have e1:s.next=[]:=List.eq_nil_of_length_eq_zero (by omega);have e2:s.mtch=[]:=List.eq_nil_of_length_eq_zero (by omega);have e3:s.sent=[]:=List.eq_nil_of_length_eq_zero (by omega)
     first
      |omega
      |(simp_all [bc,bP];done)
      |(simp_all [bc,bP];omega)
   with_reducible (replace Q191:=dd Q191;replace Q191:=dT_ Q191)
   (try simp only [Bool.not_eq_true',Bool.not_eq_false',Bool.not_eq_true,Bool.not_eq_false,decide_eq_true_eq,decide_eq_false_iff_not,Bool.or_eq_true,Bool.and_eq_true] at Q191)
   refine af rfl (aa (ae bW rfl) (af rfl (aa (aq aM rfl (by exact (show _=some (Value.slice Sn s.sent.length Sc) from (hk1.from_ (((((aj.rfl_.next E67).next E110).next E116).next E171).next E178)).rd 17 rfl))) ?_)));refine af rfl (mvi rfl (af rfl (aa (ae cf rfl) (af rfl (aa (aq bD rfl (by exact (hk1.from_ (((((aj.rfl_.next E67).next E110).next E116).next E171).next E178)).rd 9 rfl)) ?_)))));refine af rfl (aa (df (by kernel_rfl) rfl) (af rfl (aG cS (eT Sn Sc s.sent _ 0 (s.snap.size:Nat) _ (hrd.n.1.from_ ((((((aj.rfl_.next E1).next E67).next E110).next E116).next E171).next E178)) hl4) ?_)));rintro v188 w192 ⟨rfl,E188⟩;refine af rfl (aa (cd rfl) (aa (av (v:=.bool _) rfl rfl) (mvb rfl (aE (t:=191) rfl (fun Q193=>?_) (fun Q193=>?_)))))
   ·with_reducible (replace Q193:=dc Q193;replace Q193:=dF_ Q193)
    (try simp only [Bool.not_eq_true',Bool.not_eq_false',Bool.not_eq_true,Bool.not_eq_false,decide_eq_true_eq,decide_eq_false_iff_not,Bool.or_eq_true,Bool.and_eq_true] at Q193)
    refine ab rfl rfl (ab rfl rfl (ab rfl rfl (ab rfl rfl (aa (ao (v:=.bool _) rfl rfl) (mvb rfl (ab rfl rfl (ab rfl rfl (ab rfl rfl ?_))))))));refine aA rfl (aA rfl (aA rfl (aA rfl (ab rfl rfl (aa (ao (v:=.bool _) rfl rfl) (ak (ag (aJ rfl (an (ah ?_))))))))));refine asb rfl (ak (ag (aC (ay (bh (v:=.bool _) rfl rfl (⟨congrArg Value.bool ?_,(((((((aj.rfl_.next E1).next E67).next E110).next E116).next E171).next E178).next E188)⟩))))));rw [eq_comm,←Bool.not_eq_true,aO];rintro ⟨⟨n1,n2,n3,⟨n4,n5⟩,n6,n7,n8,n9⟩,⟨g1,g2,g3,g4,g5⟩,v1,l1,⟨p1,p2,p3⟩⟩;by_cases hro:s.role=2
    ·rw [aN hro] at l1;obtain ⟨⟨l2,l3,l4,l5⟩,⟨l6,l7,l8⟩,l9⟩:=l1
     first
      |omega
      |(rename_i q9;exact q9 ⟨by omega,by assumption⟩)
      |(simp_all [bc];done)
      |(simp_all [bc];omega)
    ·rw [a_ hro] at l1;have e1:s.next=[]:=List.eq_nil_of_length_eq_zero (by omega);have e2:s.mtch=[]:=List.eq_nil_of_length_eq_zero (by omega);have e3:s.sent=[]:=List.eq_nil_of_length_eq_zero (by omega)
     first
      |omega
      |(simp_all [bc,bP];done)
      |(simp_all [bc,bP];omega)
   with_reducible (replace Q193:=dd Q193;replace Q193:=dT_ Q193)
   (try simp only [Bool.not_eq_true',Bool.not_eq_false',Bool.not_eq_true,Bool.not_eq_false,decide_eq_true_eq,decide_eq_false_iff_not,Bool.or_eq_true,Bool.and_eq_true] at Q193)
   refine af rfl (aa (ae bd rfl) (af rfl (aa (aq bn rfl (by exact (show _=some (Value.slice Q LL.length Qc) from (hk1.from_ ((((((aj.rfl_.next E67).next E110).next E116).next E171).next E178).next E188)).rd 19 rfl))) ?_)));refine af rfl (aa (bm bI rfl) (af rfl (aa (bH rfl rfl) (aa (av (v:=.bool _) rfl rfl) (mvb rfl (wK (t:=197) rfl (fun Q194=>?_) (fun Q194=>?_)))))))
   ·(try simp only [Bool.not_eq_true',Bool.not_eq_false',Bool.not_eq_true,Bool.not_eq_false,decide_eq_true_eq,decide_eq_false_iff_not,Bool.or_eq_true,Bool.and_eq_true] at Q194)
    refine ab rfl rfl (ab rfl rfl (ab rfl rfl (aA rfl (aA rfl (aA rfl (aA rfl (ab rfl rfl (aa (ao (v:=.bool _) rfl rfl) ?_))))))));refine ak (ag (aJ rfl (an (ah (asb rfl (ak (ag (aC (ay (bh (v:=.bool _) rfl rfl (⟨congrArg Value.bool ?_,(((((((aj.rfl_.next E1).next E67).next E110).next E116).next E171).next E178).next E188)⟩)))))))))));rw [eq_comm,←Bool.not_eq_true,aO];rintro ⟨⟨n1,n2,n3,⟨n4,n5⟩,n6,n7,n8,n9⟩,⟨g1,g2,g3,g4,g5⟩,v1,l1,⟨p1,p2,p3⟩⟩;by_cases hro:s.role=2
    ·rw [aN hro] at l1;obtain ⟨⟨l2,l3,l4,l5⟩,⟨l6,l7,l8⟩,l9⟩:=l1
     first
      |omega
      |(rename_i q9;exact q9 ⟨by omega,by assumption⟩)
      |(simp_all [bc];done)
      |(simp_all [bc];omega)
    ·rw [a_ hro] at l1;have e1:s.next=[]:=List.eq_nil_of_length_eq_zero (by omega);have e2:s.mtch=[]:=List.eq_nil_of_length_eq_zero (by omega);have e3:s.sent=[]:=List.eq_nil_of_length_eq_zero (by omega)
     first
      |omega
      |(simp_all [bc,bP];done)
      |(simp_all [bc,bP];omega)
   (try simp only [Bool.not_eq_true',Bool.not_eq_false',Bool.not_eq_true,Bool.not_eq_false,decide_eq_true_eq,decide_eq_false_iff_not,Bool.or_eq_true,Bool.and_eq_true] at Q194)
   refine af rfl (mvi rfl (af rfl (aa (bC rfl rfl) (af rfl (mvb rfl (wK (t:=200) rfl (fun Q195=>?_) (fun Q195=>?_)))))))
   ·(try simp only [Bool.not_eq_true',Bool.not_eq_false',Bool.not_eq_true,Bool.not_eq_false,decide_eq_true_eq,decide_eq_false_iff_not,Bool.or_eq_true,Bool.and_eq_true] at Q195)
    exfalso;omega
   (try simp only [Bool.not_eq_true',Bool.not_eq_false',Bool.not_eq_true,Bool.not_eq_false,decide_eq_true_eq,decide_eq_false_iff_not,Bool.or_eq_true,Bool.and_eq_true] at Q195)
   refine ab rfl rfl (ab rfl rfl (ab rfl rfl (ab rfl rfl (af rfl (aa (av (v:=.bool _) rfl rfl) (aa (av (v:=.bool _) rfl rfl) (ak (ag (ck rfl ?_)))))))));refine aR (ag (an (an (ah (asi rfl (ak (ag (bf (cz (G:=Nat) [2,7,207,208,209,210,211,212,213,214,215,216,217,218,219,220,221,222,223,224,225,226,227,228,229,230,231,232,233,234,235,236,237,238,239,240,241,242,243,244,245,246,247,248,249,250,251,252,253,254,255,256,257,258] (fun k=>[(6,.int .i64 (k:Nat))]) (fun k w'=>k≤LL.length∧(∀ j (h:j<LL.length),j<k→ez s LL[j].1=true)∧Blk w' b1 29 (rfV s (⟨E,Ec,V,Vc,X,Xc,M,Mc,Sn,Sc,Q,Qc,LL⟩:Ra)).toArray∧aj w w') (fun k=>LL.length-k) (0) ⟨rfl,trivial⟩ ?_ ?_)))))))))
   ·exact ⟨Nat.zero_le _,fun j _ h=>absurd h (by omega),hk1.from_ ((((((aj.rfl_.next E67).next E110).next E116).next E171).next E178).next E188),(((((((aj.rfl_.next E1).next E67).next E110).next E116).next E171).next E178).next E188)⟩
   rintro k ρ209 w209 ⟨hk,h1,hk1,hB⟩;refine an (an (ah (mvi rfl (aa (ae bd rfl) (aa (aq bn rfl (by exact (show _=some (Value.slice Q LL.length Qc) from (hk1.from_ aj.rfl_).rd 19 rfl))) ?_)))));refine aa (bm bI rfl) (aa (bG rfl rfl) (ak (ag (xD rfl (fun Q210=>?_) (fun Q210=>?_)))))
   ·have hkL:k<LL.length:=by omega
    have hqm:LL[k].1∈s.reads:=by rw [←hrL];exact List.mem_map_of_mem (List.getElem_mem hkL)
    obtain ⟨ba,oa,rfl,hcs⟩:∃ b o,Q=some ⟨b,o,none⟩∧∀ i (hi:i<LL.length),w.rangeAt b (o+i*4) (rdV LL[i]):=hrd.q (by show 0<LL.length;omega);refine aR (ag (an (bf (an (ah (aa (ae bd rfl) (aa (aq bn rfl (by exact (show _=some (Value.slice (some ⟨ba,oa,none⟩) LL.length Qc) from (hk1.from_ aj.rfl_).rd 19 rfl))) ?_)))))));refine mvi rfl (aa (bL dC rfl rfl (by omega)) (aa (aT (cs:=rdV LL[k]) dX cN rfl (eN hB (hcs k hkL))) (cq e_ ?_)));intro b7 w211 E7 hb7 hk7;have hg7:w.heap.size≤b7:=by rw [hb7];exact (hB).size
    have hk1L:=hk1.from_ (aj.rfl_.next E7);have hn7:b1≠b7:=by have:=hk1.lt;have:=((aj.rfl_.next E7)).size;omega
    refine cu (vs:=[_,_,_,_]) cN rfl rfl (by simp [Value.oneCell']) (hk7) rfl ?_;intro w212 O16 P16;replace hk1:=hk1L.only O16 hn7;refine ak (ag (an (ah (aa (ae dz rfl) (aa (aq ar rfl (by exact (show _=some (Value.int .i64 LL[k].1.id) from (P16.from_ aj.rfl_).rd 0 rfl))) ?_)))));refine aa (bG rfl rfl) (mvb rfl (wK (t:=222) rfl (fun Q213=>?_) (fun Q213=>?_)))
    ·(try simp only [Bool.not_eq_true',Bool.not_eq_false',Bool.not_eq_true,Bool.not_eq_false,decide_eq_true_eq,decide_eq_false_iff_not,Bool.or_eq_true,Bool.and_eq_true] at Q213)
     refine ab rfl rfl (ab rfl rfl (ab rfl rfl (aa (ao (v:=.bool _) rfl rfl) (mvb rfl (ab rfl rfl (ab rfl rfl (ab rfl rfl (aa (ao (v:=.bool _) rfl rfl) ?_))))))));refine mvb rfl (ab rfl rfl (ab rfl rfl (ab rfl rfl (ab rfl rfl (ab rfl rfl (aa (ao (v:=.bool _) rfl rfl) (mvb rfl (ab rfl rfl ?_))))))));refine ab rfl rfl (ab rfl rfl (aa (ao (v:=.bool _) rfl rfl) (mvb rfl (ab rfl rfl (ab rfl rfl (ab rfl rfl (ab rfl rfl (ab rfl rfl ?_))))))));refine aa (ao (v:=.bool _) rfl rfl) (mvb rfl (ab rfl rfl (ab rfl rfl (ab rfl rfl (ab rfl rfl (ab rfl rfl (ab rfl rfl (aa (ao (v:=.bool _) rfl rfl) ?_))))))));refine ak (ag (aJ rfl (an (ah (asb rfl (ak (ag (aC (aZ (ay (ay (aZ (ay (bh (v:=.bool _) rfl rfl (⟨congrArg Value.bool ?_,((hB.next E7).only O16 (hg7))⟩)))))))))))))));rw [eq_comm,←Bool.not_eq_true,aO];rintro ⟨_,_,_,l1,_⟩;by_cases hro:s.role=2
     ·rw [aN hro] at l1;have g5:=bS.1 (l1.2.2 _ hqm)
      first
       |omega
       |(simp_all;done)
     ·rw [a_ hro] at l1;omega
    (try simp only [Bool.not_eq_true',Bool.not_eq_false',Bool.not_eq_true,Bool.not_eq_false,decide_eq_true_eq,decide_eq_false_iff_not,Bool.or_eq_true,Bool.and_eq_true] at Q213)
    refine af rfl (aa (ae dz rfl) (af rfl (aa (aq ar rfl (by exact (show _=some (Value.int .i64 LL[k].1.id) from (P16.from_ aj.rfl_).rd 0 rfl))) ?_)));refine af rfl (aa (bH rfl rfl) (aa (av (v:=.bool _) rfl rfl) (mvb rfl (wK (t:=227) rfl (fun Q214=>?_) (fun Q214=>?_)))))
    ·(try simp only [Bool.not_eq_true',Bool.not_eq_false',Bool.not_eq_true,Bool.not_eq_false,decide_eq_true_eq,decide_eq_false_iff_not,Bool.or_eq_true,Bool.and_eq_true] at Q214)
     refine ab rfl rfl (ab rfl rfl (ab rfl rfl (aa (ao (v:=.bool _) rfl rfl) (mvb rfl (ab rfl rfl (ab rfl rfl (ab rfl rfl (ab rfl rfl ?_))))))));refine ab rfl rfl (aa (ao (v:=.bool _) rfl rfl) (mvb rfl (ab rfl rfl (ab rfl rfl (ab rfl rfl (aa (ao (v:=.bool _) rfl rfl) (mvb rfl (ab rfl rfl ?_))))))));refine ab rfl rfl (ab rfl rfl (ab rfl rfl (ab rfl rfl (aa (ao (v:=.bool _) rfl rfl) (mvb rfl (ab rfl rfl (ab rfl rfl (ab rfl rfl ?_))))))));refine ab rfl rfl (ab rfl rfl (ab rfl rfl (aa (ao (v:=.bool _) rfl rfl) (ak (ag (aJ rfl (an (ah (asb rfl (ak (ag (aC (aZ (ay (ay (aZ (ay ?_)))))))))))))))));refine bh (v:=.bool _) rfl rfl (⟨congrArg Value.bool ?_,((hB.next E7).only O16 (hg7))⟩);rw [eq_comm,←Bool.not_eq_true,aO];rintro ⟨_,_,_,l1,_⟩;by_cases hro:s.role=2
     ·rw [aN hro] at l1;have g5:=bS.1 (l1.2.2 _ hqm)
      first
       |omega
       |(simp_all;done)
     ·rw [a_ hro] at l1;omega
    (try simp only [Bool.not_eq_true',Bool.not_eq_false',Bool.not_eq_true,Bool.not_eq_false,decide_eq_true_eq,decide_eq_false_iff_not,Bool.or_eq_true,Bool.and_eq_true] at Q214)
    refine af rfl (aa (ae dy rfl) (af rfl (aa (aq ar rfl (by exact (show _=some (Value.int .i64 LL[k].1.ix) from (P16.from_ aj.rfl_).rd 1 rfl))) ?_)));refine af rfl (aa (bG rfl rfl) (aa (av (v:=.bool _) rfl rfl) (mvb rfl (wK (t:=232) rfl (fun Q215=>?_) (fun Q215=>?_)))))
    ·(try simp only [Bool.not_eq_true',Bool.not_eq_false',Bool.not_eq_true,Bool.not_eq_false,decide_eq_true_eq,decide_eq_false_iff_not,Bool.or_eq_true,Bool.and_eq_true] at Q215)
     refine ab rfl rfl (ab rfl rfl (ab rfl rfl (ab rfl rfl (ab rfl rfl (aa (ao (v:=.bool _) rfl rfl) (mvb rfl (ab rfl rfl (ab rfl rfl ?_))))))));refine ab rfl rfl (aa (ao (v:=.bool _) rfl rfl) (mvb rfl (ab rfl rfl (ab rfl rfl (ab rfl rfl (ab rfl rfl (ab rfl rfl (aa (ao (v:=.bool _) rfl rfl) ?_))))))));refine mvb rfl (ab rfl rfl (ab rfl rfl (ab rfl rfl (ab rfl rfl (ab rfl rfl (ab rfl rfl (aa (ao (v:=.bool _) rfl rfl) (ak (ag ?_)))))))));refine aJ rfl (an (ah (asb rfl (ak (ag (aC (aZ (ay (ay (aZ (ay (bh (v:=.bool _) rfl rfl (⟨congrArg Value.bool ?_,((hB.next E7).only O16 (hg7))⟩)))))))))))));rw [eq_comm,←Bool.not_eq_true,aO];rintro ⟨_,_,_,l1,_⟩;by_cases hro:s.role=2
     ·rw [aN hro] at l1;have g5:=bS.1 (l1.2.2 _ hqm)
      first
       |omega
       |(simp_all;done)
     ·rw [a_ hro] at l1;omega
    (try simp only [Bool.not_eq_true',Bool.not_eq_false',Bool.not_eq_true,Bool.not_eq_false,decide_eq_true_eq,decide_eq_false_iff_not,Bool.or_eq_true,Bool.and_eq_true] at Q215)
    refine af rfl (aa (ae dy rfl) (af rfl (aa (aq ar rfl (by exact (show _=some (Value.int .i64 LL[k].1.ix) from (P16.from_ aj.rfl_).rd 1 rfl))) ?_)));refine af rfl (aa (ae cA rfl) (af rfl (aa (aq ar rfl (by exact (hk1.from_ aj.rfl_).rd 10 rfl)) ?_)));refine af rfl (aa (bH rfl rfl) (aa (av (v:=.bool _) rfl rfl) (mvb rfl (wK (t:=239) rfl (fun Q216=>?_) (fun Q216=>?_)))))
    ·(try simp only [Bool.not_eq_true',Bool.not_eq_false',Bool.not_eq_true,Bool.not_eq_false,decide_eq_true_eq,decide_eq_false_iff_not,Bool.or_eq_true,Bool.and_eq_true] at Q216)
     refine ab rfl rfl (ab rfl rfl (ab rfl rfl (aa (ao (v:=.bool _) rfl rfl) (mvb rfl (ab rfl rfl (ab rfl rfl (ab rfl rfl (ab rfl rfl ?_))))))));refine ab rfl rfl (aa (ao (v:=.bool _) rfl rfl) (mvb rfl (ab rfl rfl (ab rfl rfl (ab rfl rfl (ab rfl rfl (ab rfl rfl (ab rfl rfl ?_))))))));refine aa (ao (v:=.bool _) rfl rfl) (ak (ag (aJ rfl (an (ah (asb rfl (ak (ag (aC (aZ (ay (ay (aZ (ay (bh (v:=.bool _) rfl rfl (⟨congrArg Value.bool ?_,((hB.next E7).only O16 (hg7))⟩))))))))))))))));rw [eq_comm,←Bool.not_eq_true,aO];rintro ⟨_,_,_,l1,_⟩;by_cases hro:s.role=2
     ·rw [aN hro] at l1;have g5:=bS.1 (l1.2.2 _ hqm)
      first
       |omega
       |(simp_all;done)
     ·rw [a_ hro] at l1;omega
    (try simp only [Bool.not_eq_true',Bool.not_eq_false',Bool.not_eq_true,Bool.not_eq_false,decide_eq_true_eq,decide_eq_false_iff_not,Bool.or_eq_true,Bool.and_eq_true] at Q216)
    refine af rfl (aa (ae dw rfl) (af rfl (aa (aq ar rfl (by exact (show _=some (Value.int .i64 LL[k].1.rn) from (P16.from_ aj.rfl_).rd 2 rfl))) ?_)));refine af rfl (aa (bG rfl rfl) (aa (av (v:=.bool _) rfl rfl) (mvb rfl (wK (t:=244) rfl (fun Q217=>?_) (fun Q217=>?_)))))
    ·(try simp only [Bool.not_eq_true',Bool.not_eq_false',Bool.not_eq_true,Bool.not_eq_false,decide_eq_true_eq,decide_eq_false_iff_not,Bool.or_eq_true,Bool.and_eq_true] at Q217)
     refine ab rfl rfl (ab rfl rfl (ab rfl rfl (ab rfl rfl (ab rfl rfl (aa (ao (v:=.bool _) rfl rfl) (mvb rfl (ab rfl rfl (ab rfl rfl ?_))))))));refine ab rfl rfl (ab rfl rfl (ab rfl rfl (ab rfl rfl (aa (ao (v:=.bool _) rfl rfl) (ak (ag (aJ rfl (an (ah (asb rfl ?_))))))))));refine ak (ag (aC (aZ (ay (ay (aZ (ay (bh (v:=.bool _) rfl rfl (⟨congrArg Value.bool ?_,((hB.next E7).only O16 (hg7))⟩)))))))));rw [eq_comm,←Bool.not_eq_true,aO];rintro ⟨_,_,_,l1,_⟩;by_cases hro:s.role=2
     ·rw [aN hro] at l1;have g5:=bS.1 (l1.2.2 _ hqm)
      first
       |omega
       |(simp_all;done)
     ·rw [a_ hro] at l1;omega
    (try simp only [Bool.not_eq_true',Bool.not_eq_false',Bool.not_eq_true,Bool.not_eq_false,decide_eq_true_eq,decide_eq_false_iff_not,Bool.or_eq_true,Bool.and_eq_true] at Q217)
    refine af rfl (aa (ae dw rfl) (af rfl (aa (aq ar rfl (by exact (show _=some (Value.int .i64 LL[k].1.rn) from (P16.from_ aj.rfl_).rd 2 rfl))) ?_)));refine af rfl (aa (ae cL rfl) (af rfl (aa (aq ar rfl (by exact (hk1.from_ aj.rfl_).rd 18 rfl)) ?_)));refine af rfl (aa (bH rfl rfl) (aa (av (v:=.bool _) rfl rfl) (mvb rfl (wK (t:=251) rfl (fun Q218=>?_) (fun Q218=>?_)))))
    ·(try simp only [Bool.not_eq_true',Bool.not_eq_false',Bool.not_eq_true,Bool.not_eq_false,decide_eq_true_eq,decide_eq_false_iff_not,Bool.or_eq_true,Bool.and_eq_true] at Q218)
     refine ab rfl rfl (ab rfl rfl (ab rfl rfl (ab rfl rfl (ab rfl rfl (ab rfl rfl (aa (ao (v:=.bool _) rfl rfl) (ak (ag (aJ rfl ?_)))))))));refine an (ah (asb rfl (ak (ag (aC (aZ (ay (ay (aZ (ay (bh (v:=.bool _) rfl rfl (⟨congrArg Value.bool ?_,((hB.next E7).only O16 (hg7))⟩))))))))))));rw [eq_comm,←Bool.not_eq_true,aO];rintro ⟨_,_,_,l1,_⟩;by_cases hro:s.role=2
     ·rw [aN hro] at l1;have g5:=bS.1 (l1.2.2 _ hqm)
      first
       |omega
       |(simp_all;done)
     ·rw [a_ hro] at l1;omega
    (try simp only [Bool.not_eq_true',Bool.not_eq_false',Bool.not_eq_true,Bool.not_eq_false,decide_eq_true_eq,decide_eq_false_iff_not,Bool.or_eq_true,Bool.and_eq_true] at Q218)
    refine af rfl (aa (ae c_ rfl) (af rfl (aa (aq aM rfl (by exact (show _=some (Value.slice LL[k].2.1 LL[k].1.acks.length LL[k].2.2) from (P16.from_ aj.rfl_).rd 3 rfl))) ?_)));refine af rfl (aa (ae bw rfl) (af rfl (aa (aq ar rfl (by exact (hk1.from_ aj.rfl_).rd 1 rfl)) ?_)));refine af rfl (aG gC (k0 LL[k].2.1 LL[k].2.2 LL[k].1.acks s.nodes _ ((hrk _ (List.getElem_mem hkL)).1.from_ ((hB.next E7).only O16 (hg7))) (hl6 _ hqm)) ?_);rintro v256 w219 ⟨rfl,E256⟩;refine af rfl (aa (cd rfl) (aa (av (v:=.bool _) rfl rfl) (ak (ag (xB rfl (fun Q220=>?_) (fun Q220=>?_))))))
    ·(try simp only [Bool.not_eq_true',Bool.not_eq_false',Bool.not_eq_true,Bool.not_eq_false,decide_eq_true_eq,decide_eq_false_iff_not,Bool.or_eq_true,Bool.and_eq_true] at Q220)
     refine an (ah (asb rfl (ak (ag (aC (aZ (ay (ay (aZ (ay (bh (v:=.bool _) rfl rfl (⟨congrArg Value.bool ?_,(((hB.next E7).only O16 (hg7)).next E256)⟩))))))))))));rw [eq_comm,←Bool.not_eq_true,aO];rintro ⟨_,_,_,l1,_⟩;by_cases hro:s.role=2
     ·rw [aN hro] at l1;have g5:=bS.1 (l1.2.2 _ hqm)
      first
       |omega
       |(simp_all;done)
     ·rw [a_ hro] at l1;omega
    (try simp only [Bool.not_eq_true',Bool.not_eq_false',Bool.not_eq_true,Bool.not_eq_false,decide_eq_true_eq,decide_eq_false_iff_not,Bool.or_eq_true,Bool.and_eq_true] at Q220)
    refine aR (bN (ag (ah (mvi rfl (aa (bE rfl rfl (by omega)) (asi rfl (ak ?_)))))));refine cK (k+1) ⟨(by first | rfl | (refine br ?_;omega)),trivial⟩ (by (iterate 115 refine bQ rfl ?_);exact b_) ⟨?_,?_⟩
    ·refine ⟨by omega,fun j h hj=>?_,hk1.from_ (aj.rfl_.next E256),(((hB.next E7).only O16 (hg7)).next E256)⟩;rcases Nat.lt_or_ge j k with e | e
     ·exact h1 j h e
     ·obtain rfl:j=k:=by omega
      rw [bS];exact ⟨by omega,by omega,by omega,by first | assumption | simp_all⟩
    ·omega
   refine bZ (bg (bg (bF (ag (an (ah (asb rfl (ak (ag (aC (bh (v:=.bool _) rfl rfl (⟨congrArg Value.bool ?_,hB⟩))))))))))));rw [eq_comm,aO]
   have hrd9:∀ q∈s.reads,ez s q=true:=fun q hq=>by
    rw [←hrL] at hq;obtain ⟨y,hy,rfl⟩:=List.mem_map.1 hq;obtain ⟨i,hi,rfl⟩:=List.getElem_of_mem hy;exact h1 i hi (by omega)
   refine ⟨⟨by omega,by omega,by omega,⟨by omega,by omega⟩,by omega,by omega,by omega,by omega⟩,⟨by simp_all,by omega,by omega,by omega,by omega⟩,by simp_all,?_,⟨by omega,by omega,by omega⟩⟩;by_cases hro:s.role=2
   ·rw [aN hro];refine ⟨⟨?_,?_,?_,?_⟩,⟨?_,?_,?_⟩,hrd9⟩ <;> first | omega | (simp_all [bc];done) | (simp_all [bc];omega)
   ·rw [a_ hro]
    simp_all
  refine aR (ag (an (an (ah (aa (ae bu rfl) (aa (aq aM rfl (by exact (show _=some (Value.slice X s.next.length Xc) from (hk1.from_ (((aj.rfl_.next E67).next E110).next E116)).rd 15 rfl))) ?_))))));refine mvi rfl (mvi rfl (aa (bE rfl rfl (by omega)) (aG cS (eT X Xc s.next _ 1 (aQ s+1) _ (hrd.x.1.from_ ((((aj.rfl_.next E1).next E67).next E110).next E116)) hl2) ?_)));rintro v171 w221 ⟨rfl,E171⟩;refine aa (cd rfl) (mvb rfl (aE (t:=173) rfl (fun Q222=>?_) (fun Q222=>?_)))
  ·with_reducible (replace Q222:=dc Q222;replace Q222:=dF_ Q222)
   (try simp only [Bool.not_eq_true',Bool.not_eq_false',Bool.not_eq_true,Bool.not_eq_false,decide_eq_true_eq,decide_eq_false_iff_not,Bool.or_eq_true,Bool.and_eq_true] at Q222)
   refine ab rfl rfl (ab rfl rfl (ab rfl rfl (ab rfl rfl (ab rfl rfl (ab rfl rfl (aa (ao (v:=.bool _) rfl rfl) (mvb rfl (ab rfl rfl ?_))))))));refine ab rfl rfl (ab rfl rfl (ab rfl rfl (ab rfl rfl (ab rfl rfl (ab rfl rfl (ab rfl rfl (aa (ao (v:=.bool _) rfl rfl) (mvb rfl ?_))))))));refine ab rfl rfl (ab rfl rfl (ab rfl rfl (ab rfl rfl (aa (ao (v:=.bool _) rfl rfl) (mvb rfl (ab rfl rfl (ab rfl rfl (ab rfl rfl ?_))))))));refine aA rfl (aA rfl (aA rfl (aA rfl (ab rfl rfl (aa (ao (v:=.bool _) rfl rfl) (ak (ag (aJ rfl (an (ah ?_))))))))));refine asb rfl (ak (ag (aC (ay (bh (v:=.bool _) rfl rfl (⟨congrArg Value.bool ?_,(((((aj.rfl_.next E1).next E67).next E110).next E116).next E171)⟩))))));rw [eq_comm,←Bool.not_eq_true,aO];rintro ⟨⟨n1,n2,n3,⟨n4,n5⟩,n6,n7,n8,n9⟩,⟨g1,g2,g3,g4,g5⟩,v1,l1,⟨p1,p2,p3⟩⟩;by_cases hro:s.role=2
   ·rw [aN hro] at l1;obtain ⟨⟨l2,l3,l4,l5⟩,⟨l6,l7,l8⟩,l9⟩:=l1
    first
     |omega
     |(rename_i q9;exact q9 ⟨by omega,by assumption⟩)
     |(simp_all [bc];done)
     |(simp_all [bc];omega)
   ·rw [a_ hro] at l1;have e1:s.next=[]:=List.eq_nil_of_length_eq_zero (by omega);have e2:s.mtch=[]:=List.eq_nil_of_length_eq_zero (by omega);have e3:s.sent=[]:=List.eq_nil_of_length_eq_zero (by omega)
    first
     |omega
     |(simp_all [bc,bP];done)
     |(simp_all [bc,bP];omega)
  with_reducible (replace Q222:=dd Q222;replace Q222:=dT_ Q222)
  (try simp only [Bool.not_eq_true',Bool.not_eq_false',Bool.not_eq_true,Bool.not_eq_false,decide_eq_true_eq,decide_eq_false_iff_not,Bool.or_eq_true,Bool.and_eq_true] at Q222)
  refine af rfl (aa (ae bM rfl) (af rfl (aa (aq aM rfl (by exact (show _=some (Value.slice M s.mtch.length Mc) from (hk1.from_ ((((aj.rfl_.next E67).next E110).next E116).next E171)).rd 16 rfl))) ?_)));refine af rfl (mvi rfl (af rfl (mvi rfl (af rfl (aG cS (eT M Mc s.mtch _ 0 (aQ s) _ (hrd.m.1.from_ (((((aj.rfl_.next E1).next E67).next E110).next E116).next E171)) hl3) ?_)))));rintro v178 w223 ⟨rfl,E178⟩;refine af rfl (aa (cd rfl) (aa (av (v:=.bool _) rfl rfl) (mvb rfl (aE (t:=181) rfl (fun Q224=>?_) (fun Q224=>?_)))))
  ·with_reducible (replace Q224:=dc Q224;replace Q224:=dF_ Q224)
   (try simp only [Bool.not_eq_true',Bool.not_eq_false',Bool.not_eq_true,Bool.not_eq_false,decide_eq_true_eq,decide_eq_false_iff_not,Bool.or_eq_true,Bool.and_eq_true] at Q224)
   refine ab rfl rfl (ab rfl rfl (ab rfl rfl (ab rfl rfl (ab rfl rfl (ab rfl rfl (ab rfl rfl (ab rfl rfl (aa (ao (v:=.bool _) rfl rfl) ?_))))))));refine mvb rfl (ab rfl rfl (ab rfl rfl (ab rfl rfl (ab rfl rfl (aa (ao (v:=.bool _) rfl rfl) (mvb rfl (ab rfl rfl (ab rfl rfl ?_))))))));refine ab rfl rfl (aA rfl (aA rfl (aA rfl (aA rfl (ab rfl rfl (aa (ao (v:=.bool _) rfl rfl) (ak (ag (aJ rfl ?_)))))))));refine an (ah (asb rfl (ak (ag (aC (ay (bh (v:=.bool _) rfl rfl (⟨congrArg Value.bool ?_,((((((aj.rfl_.next E1).next E67).next E110).next E116).next E171).next E178)⟩))))))));rw [eq_comm,←Bool.not_eq_true,aO];rintro ⟨⟨n1,n2,n3,⟨n4,n5⟩,n6,n7,n8,n9⟩,⟨g1,g2,g3,g4,g5⟩,v1,l1,⟨p1,p2,p3⟩⟩;by_cases hro:s.role=2
   ·rw [aN hro] at l1;obtain ⟨⟨l2,l3,l4,l5⟩,⟨l6,l7,l8⟩,l9⟩:=l1
    first
     |omega
     |(rename_i q9;exact q9 ⟨by omega,by assumption⟩)
     |(simp_all [bc];done)
     |(simp_all [bc];omega)
   ·rw [a_ hro] at l1;have e1:s.next=[]:=List.eq_nil_of_length_eq_zero (by omega);have e2:s.mtch=[]:=List.eq_nil_of_length_eq_zero (by omega);have e3:s.sent=[]:=List.eq_nil_of_length_eq_zero (by omega)
    first
     |omega
     |(simp_all [bc,bP];done)
     |(simp_all [bc,bP];omega)
  with_reducible (replace Q224:=dd Q224;replace Q224:=dT_ Q224)
  (try simp only [Bool.not_eq_true',Bool.not_eq_false',Bool.not_eq_true,Bool.not_eq_false,decide_eq_true_eq,decide_eq_false_iff_not,Bool.or_eq_true,Bool.and_eq_true] at Q224)
  refine af rfl (aa (ae bW rfl) (af rfl (aa (aq aM rfl (by exact (show _=some (Value.slice Sn s.sent.length Sc) from (hk1.from_ (((((aj.rfl_.next E67).next E110).next E116).next E171).next E178)).rd 17 rfl))) ?_)));refine af rfl (mvi rfl (af rfl (aa (ae cf rfl) (af rfl (aa (aq bD rfl (by exact (hk1.from_ (((((aj.rfl_.next E67).next E110).next E116).next E171).next E178)).rd 9 rfl)) ?_)))));refine af rfl (aa (df (by kernel_rfl) rfl) (af rfl (aG cS (eT Sn Sc s.sent _ 0 (s.snap.size:Nat) _ (hrd.n.1.from_ ((((((aj.rfl_.next E1).next E67).next E110).next E116).next E171).next E178)) hl4) ?_)));rintro v188 w225 ⟨rfl,E188⟩;refine af rfl (aa (cd rfl) (aa (av (v:=.bool _) rfl rfl) (mvb rfl (aE (t:=191) rfl (fun Q226=>?_) (fun Q226=>?_)))))
  ·with_reducible (replace Q226:=dc Q226;replace Q226:=dF_ Q226)
   (try simp only [Bool.not_eq_true',Bool.not_eq_false',Bool.not_eq_true,Bool.not_eq_false,decide_eq_true_eq,decide_eq_false_iff_not,Bool.or_eq_true,Bool.and_eq_true] at Q226)
   refine ab rfl rfl (ab rfl rfl (ab rfl rfl (ab rfl rfl (aa (ao (v:=.bool _) rfl rfl) (mvb rfl (ab rfl rfl (ab rfl rfl (ab rfl rfl ?_))))))));refine aA rfl (aA rfl (aA rfl (aA rfl (ab rfl rfl (aa (ao (v:=.bool _) rfl rfl) (ak (ag (aJ rfl (an (ah ?_))))))))));refine asb rfl (ak (ag (aC (ay (bh (v:=.bool _) rfl rfl (⟨congrArg Value.bool ?_,(((((((aj.rfl_.next E1).next E67).next E110).next E116).next E171).next E178).next E188)⟩))))));rw [eq_comm,←Bool.not_eq_true,aO];rintro ⟨⟨n1,n2,n3,⟨n4,n5⟩,n6,n7,n8,n9⟩,⟨g1,g2,g3,g4,g5⟩,v1,l1,⟨p1,p2,p3⟩⟩;by_cases hro:s.role=2
   ·rw [aN hro] at l1;obtain ⟨⟨l2,l3,l4,l5⟩,⟨l6,l7,l8⟩,l9⟩:=l1
    first
     |omega
     |(rename_i q9;exact q9 ⟨by omega,by assumption⟩)
     |(simp_all [bc];done)
     |(simp_all [bc];omega)
   ·rw [a_ hro] at l1;have e1:s.next=[]:=List.eq_nil_of_length_eq_zero (by omega);have e2:s.mtch=[]:=List.eq_nil_of_length_eq_zero (by omega);have e3:s.sent=[]:=List.eq_nil_of_length_eq_zero (by omega)
    first
     |omega
     |(simp_all [bc,bP];done)
     |(simp_all [bc,bP];omega)
  with_reducible (replace Q226:=dd Q226;replace Q226:=dT_ Q226)
  (try simp only [Bool.not_eq_true',Bool.not_eq_false',Bool.not_eq_true,Bool.not_eq_false,decide_eq_true_eq,decide_eq_false_iff_not,Bool.or_eq_true,Bool.and_eq_true] at Q226)
  refine af rfl (aa (ae bd rfl) (af rfl (aa (aq bn rfl (by exact (show _=some (Value.slice Q LL.length Qc) from (hk1.from_ ((((((aj.rfl_.next E67).next E110).next E116).next E171).next E178).next E188)).rd 19 rfl))) ?_)));refine af rfl (aa (bm bI rfl) (af rfl (aa (bH rfl rfl) (aa (av (v:=.bool _) rfl rfl) (mvb rfl (wK (t:=197) rfl (fun Q227=>?_) (fun Q227=>?_)))))))
  ·(try simp only [Bool.not_eq_true',Bool.not_eq_false',Bool.not_eq_true,Bool.not_eq_false,decide_eq_true_eq,decide_eq_false_iff_not,Bool.or_eq_true,Bool.and_eq_true] at Q227)
   refine ab rfl rfl (ab rfl rfl (ab rfl rfl (aA rfl (aA rfl (aA rfl (aA rfl (ab rfl rfl (aa (ao (v:=.bool _) rfl rfl) ?_))))))));refine ak (ag (aJ rfl (an (ah (asb rfl (ak (ag (aC (ay (bh (v:=.bool _) rfl rfl (⟨congrArg Value.bool ?_,(((((((aj.rfl_.next E1).next E67).next E110).next E116).next E171).next E178).next E188)⟩)))))))))));rw [eq_comm,←Bool.not_eq_true,aO];rintro ⟨⟨n1,n2,n3,⟨n4,n5⟩,n6,n7,n8,n9⟩,⟨g1,g2,g3,g4,g5⟩,v1,l1,⟨p1,p2,p3⟩⟩;by_cases hro:s.role=2
   ·rw [aN hro] at l1;obtain ⟨⟨l2,l3,l4,l5⟩,⟨l6,l7,l8⟩,l9⟩:=l1
    first
     |omega
     |(rename_i q9;exact q9 ⟨by omega,by assumption⟩)
     |(simp_all [bc];done)
     |(simp_all [bc];omega)
   ·rw [a_ hro] at l1;have e1:s.next=[]:=List.eq_nil_of_length_eq_zero (by omega);have e2:s.mtch=[]:=List.eq_nil_of_length_eq_zero (by omega);have e3:s.sent=[]:=List.eq_nil_of_length_eq_zero (by omega)
    first
     |omega
     |(simp_all [bc,bP];done)
     |(simp_all [bc,bP];omega)
  (try simp only [Bool.not_eq_true',Bool.not_eq_false',Bool.not_eq_true,Bool.not_eq_false,decide_eq_true_eq,decide_eq_false_iff_not,Bool.or_eq_true,Bool.and_eq_true] at Q227)
  refine af rfl (mvi rfl (af rfl (aa (bC rfl rfl) (af rfl (mvb rfl (wK (t:=200) rfl (fun Q228=>?_) (fun Q228=>?_)))))));rotate_left
  ·(try simp only at Q228)
   exfalso;contradiction
  (try simp only at Q228)
  refine af rfl (aa (ae bd rfl) (af rfl (aa (aq bn rfl (by exact (show _=some (Value.slice Q LL.length Qc) from (hk1.from_ ((((((aj.rfl_.next E67).next E110).next E116).next E171).next E178).next E188)).rd 19 rfl))) ?_)));refine af rfl (aa (bm bI rfl) (af rfl (aa (bH rfl rfl) (af rfl (aa (ao (v:=.bool _) rfl rfl) (aa (av (v:=.bool _) rfl rfl) (ak (ag (xD rfl (fun Q241=>?_) (fun Q241=>?_))))))))))
  ·(try simp only [Bool.not_eq_true',Bool.not_eq_false',Bool.not_eq_true,Bool.not_eq_false,decide_eq_true_eq,decide_eq_false_iff_not,Bool.or_eq_true,Bool.and_eq_true] at Q241)
   refine an (ah (asb rfl (ak (ag (aC (ay (bh (v:=.bool _) rfl rfl (⟨congrArg Value.bool ?_,(((((((aj.rfl_.next E1).next E67).next E110).next E116).next E171).next E178).next E188)⟩))))))));rw [eq_comm,←Bool.not_eq_true,aO];rintro ⟨⟨n1,n2,n3,⟨n4,n5⟩,n6,n7,n8,n9⟩,⟨g1,g2,g3,g4,g5⟩,v1,l1,⟨p1,p2,p3⟩⟩;by_cases hro:s.role=2
   ·rw [aN hro] at l1;obtain ⟨⟨l2,l3,l4,l5⟩,⟨l6,l7,l8⟩,l9⟩:=l1
    first
     |omega
     |(rename_i q9;exact q9 ⟨by omega,by assumption⟩)
     |(simp_all [bc];done)
     |(simp_all [bc];omega)
   ·rw [a_ hro] at l1;have e1:s.next=[]:=List.eq_nil_of_length_eq_zero (by omega);have e2:s.mtch=[]:=List.eq_nil_of_length_eq_zero (by omega);have e3:s.sent=[]:=List.eq_nil_of_length_eq_zero (by omega)
    first
     |omega
     |(simp_all [bc,bP];done)
     |(simp_all [bc,bP];omega)
  (try simp only [Bool.not_eq_true',Bool.not_eq_false',Bool.not_eq_true,Bool.not_eq_false,decide_eq_true_eq,decide_eq_false_iff_not,Bool.or_eq_true,Bool.and_eq_true] at Q241)
  refine aR (ag (an (an (ah (asi rfl (ak (ag (bf (cz (G:=Nat) [2,7,207,208,209,210,211,212,213,214,215,216,217,218,219,220,221,222,223,224,225,226,227,228,229,230,231,232,233,234,235,236,237,238,239,240,241,242,243,244,245,246,247,248,249,250,251,252,253,254,255,256,257,258] (fun k=>[(6,.int .i64 (k:Nat))]) (fun k w'=>k≤LL.length∧(∀ j (h:j<LL.length),j<k→ez s LL[j].1=true)∧Blk w' b1 29 (rfV s (⟨E,Ec,V,Vc,X,Xc,M,Mc,Sn,Sc,Q,Qc,LL⟩:Ra)).toArray∧aj w w') (fun k=>LL.length-k) (0) ⟨rfl,trivial⟩ ?_ ?_)))))))))
  ·exact ⟨Nat.zero_le _,fun j _ h=>absurd h (by omega),hk1.from_ ((((((aj.rfl_.next E67).next E110).next E116).next E171).next E178).next E188),(((((((aj.rfl_.next E1).next E67).next E110).next E116).next E171).next E178).next E188)⟩
  rintro k ρ242 w242 ⟨hk,h1,hk1,hB⟩;refine an (an (ah (mvi rfl (aa (ae bd rfl) (aa (aq bn rfl (by exact (show _=some (Value.slice Q LL.length Qc) from (hk1.from_ aj.rfl_).rd 19 rfl))) ?_)))));refine aa (bm bI rfl) (aa (bG rfl rfl) (ak (ag (xD rfl (fun Q243=>?_) (fun Q243=>?_)))))
  ·have hkL:k<LL.length:=by omega
   have hqm:LL[k].1∈s.reads:=by rw [←hrL];exact List.mem_map_of_mem (List.getElem_mem hkL)
   obtain ⟨ba,oa,rfl,hcs⟩:∃ b o,Q=some ⟨b,o,none⟩∧∀ i (hi:i<LL.length),w.rangeAt b (o+i*4) (rdV LL[i]):=hrd.q (by show 0<LL.length;omega);exfalso;omega
  refine bZ (bg (bg (bF (ag (an (ah (asb rfl (ak (ag (aC (bh (v:=.bool _) rfl rfl (⟨congrArg Value.bool ?_,hB⟩))))))))))));rw [eq_comm,aO]
  have hrd9:∀ q∈s.reads,ez s q=true:=fun q hq=>by
   rw [←hrL] at hq;obtain ⟨y,hy,rfl⟩:=List.mem_map.1 hq;obtain ⟨i,hi,rfl⟩:=List.getElem_of_mem hy;exact h1 i hi (by omega)
  refine ⟨⟨by omega,by omega,by omega,⟨by omega,by omega⟩,by omega,by omega,by omega,by omega⟩,⟨by simp_all,by omega,by omega,by omega,by omega⟩,by simp_all,?_,⟨by omega,by omega,by omega⟩⟩;by_cases hro:s.role=2
  ·rw [aN hro];refine ⟨⟨?_,?_,?_,?_⟩,⟨?_,?_,?_⟩,hrd9⟩ <;> first | omega | (simp_all [bc];done) | (simp_all [bc];omega)
  ·rw [a_ hro]
   simp_all [bc]
 (try simp only [Bool.not_eq_true',Bool.not_eq_false',Bool.not_eq_true,Bool.not_eq_false,decide_eq_true_eq,decide_eq_false_iff_not,Bool.or_eq_true,Bool.and_eq_true] at Q185)
 refine ab rfl rfl (ab rfl rfl (ab rfl rfl (af rfl (aa (av (v:=.bool _) rfl rfl) (aa (av (v:=.bool _) rfl rfl) (ak (ag (ck rfl (aR (ag (an (ah ?_))))))))))));refine asi rfl (ak (ag (an (an (ah (aa (ae cF rfl) (aa (aq ar rfl (by exact (hk1.from_ (((aj.rfl_.next E67).next E110).next E116)).rd 2 rfl)) ?_)))))));refine aa (bC rfl rfl) (ak (ag (xD rfl (fun Q254=>?_) (fun Q254=>?_))))
 ·refine ah (aa (ae bw rfl) (aa (aq ar rfl (by exact (hk1.from_ (((aj.rfl_.next E67).next E110).next E116)).rd 1 rfl)) ?_));refine asi rfl (ak (ag (an (an (ah (aa (ae bu rfl) (aa (aq aM rfl (by exact (show _=some (Value.slice X s.next.length Xc) from (hk1.from_ (((aj.rfl_.next E67).next E110).next E116)).rd 15 rfl))) ?_)))))));refine mvi rfl (mvi rfl (aa (bE rfl rfl (by omega)) (aG cS (eT X Xc s.next _ 1 (aQ s+1) _ (hrd.x.1.from_ ((((aj.rfl_.next E1).next E67).next E110).next E116)) hl2) ?_)));rintro v171 w255 ⟨rfl,E171⟩;refine aa (cd rfl) (mvb rfl (aE (t:=173) rfl (fun Q256=>?_) (fun Q256=>?_)))
  ·with_reducible (replace Q256:=dc Q256;replace Q256:=dF_ Q256)
   (try simp only [Bool.not_eq_true',Bool.not_eq_false',Bool.not_eq_true,Bool.not_eq_false,decide_eq_true_eq,decide_eq_false_iff_not,Bool.or_eq_true,Bool.and_eq_true] at Q256)
   refine ab rfl rfl (ab rfl rfl (ab rfl rfl (ab rfl rfl (ab rfl rfl (ab rfl rfl (aa (ao (v:=.bool _) rfl rfl) (mvb rfl (ab rfl rfl ?_))))))));refine ab rfl rfl (ab rfl rfl (ab rfl rfl (ab rfl rfl (ab rfl rfl (ab rfl rfl (ab rfl rfl (aa (ao (v:=.bool _) rfl rfl) (mvb rfl ?_))))))));refine ab rfl rfl (ab rfl rfl (ab rfl rfl (ab rfl rfl (aa (ao (v:=.bool _) rfl rfl) (mvb rfl (ab rfl rfl (ab rfl rfl (ab rfl rfl ?_))))))));refine aA rfl (aA rfl (aA rfl (aA rfl (ab rfl rfl (aa (ao (v:=.bool _) rfl rfl) (ak (ag (aJ rfl (an (ah ?_))))))))));refine asb rfl (ak (ag (aC (ay (bh (v:=.bool _) rfl rfl (⟨congrArg Value.bool ?_,(((((aj.rfl_.next E1).next E67).next E110).next E116).next E171)⟩))))));rw [eq_comm,←Bool.not_eq_true,aO];rintro ⟨⟨n1,n2,n3,⟨n4,n5⟩,n6,n7,n8,n9⟩,⟨g1,g2,g3,g4,g5⟩,v1,l1,⟨p1,p2,p3⟩⟩;by_cases hro:s.role=2
   ·rw [aN hro] at l1;obtain ⟨⟨l2,l3,l4,l5⟩,⟨l6,l7,l8⟩,l9⟩:=l1
    first
     |omega
     |(rename_i q9;exact q9 ⟨by omega,by assumption⟩)
     |(simp_all [bc];done)
     |(simp_all [bc];omega)
   ·rw [a_ hro] at l1;have e1:s.next=[]:=List.eq_nil_of_length_eq_zero (by omega);have e2:s.mtch=[]:=List.eq_nil_of_length_eq_zero (by omega);have e3:s.sent=[]:=List.eq_nil_of_length_eq_zero (by omega)
    first
     |omega
     |(simp_all [bc,bP];done)
     |(simp_all [bc,bP];omega)
  with_reducible (replace Q256:=dd Q256;replace Q256:=dT_ Q256)
  (try simp only [Bool.not_eq_true',Bool.not_eq_false',Bool.not_eq_true,Bool.not_eq_false,decide_eq_true_eq,decide_eq_false_iff_not,Bool.or_eq_true,Bool.and_eq_true] at Q256)
  refine af rfl (aa (ae bM rfl) (af rfl (aa (aq aM rfl (by exact (show _=some (Value.slice M s.mtch.length Mc) from (hk1.from_ ((((aj.rfl_.next E67).next E110).next E116).next E171)).rd 16 rfl))) ?_)));refine af rfl (mvi rfl (af rfl (mvi rfl (af rfl (aG cS (eT M Mc s.mtch _ 0 (aQ s) _ (hrd.m.1.from_ (((((aj.rfl_.next E1).next E67).next E110).next E116).next E171)) hl3) ?_)))));rintro v178 w257 ⟨rfl,E178⟩;refine af rfl (aa (cd rfl) (aa (av (v:=.bool _) rfl rfl) (mvb rfl (aE (t:=181) rfl (fun Q258=>?_) (fun Q258=>?_)))))
  ·with_reducible (replace Q258:=dc Q258;replace Q258:=dF_ Q258)
   (try simp only [Bool.not_eq_true',Bool.not_eq_false',Bool.not_eq_true,Bool.not_eq_false,decide_eq_true_eq,decide_eq_false_iff_not,Bool.or_eq_true,Bool.and_eq_true] at Q258)
   refine ab rfl rfl (ab rfl rfl (ab rfl rfl (ab rfl rfl (ab rfl rfl (ab rfl rfl (ab rfl rfl (ab rfl rfl (aa (ao (v:=.bool _) rfl rfl) ?_))))))));refine mvb rfl (ab rfl rfl (ab rfl rfl (ab rfl rfl (ab rfl rfl (aa (ao (v:=.bool _) rfl rfl) (mvb rfl (ab rfl rfl (ab rfl rfl ?_))))))));refine ab rfl rfl (aA rfl (aA rfl (aA rfl (aA rfl (ab rfl rfl (aa (ao (v:=.bool _) rfl rfl) (ak (ag (aJ rfl ?_)))))))));refine an (ah (asb rfl (ak (ag (aC (ay (bh (v:=.bool _) rfl rfl (⟨congrArg Value.bool ?_,((((((aj.rfl_.next E1).next E67).next E110).next E116).next E171).next E178)⟩))))))));rw [eq_comm,←Bool.not_eq_true,aO];rintro ⟨⟨n1,n2,n3,⟨n4,n5⟩,n6,n7,n8,n9⟩,⟨g1,g2,g3,g4,g5⟩,v1,l1,⟨p1,p2,p3⟩⟩;by_cases hro:s.role=2
   ·rw [aN hro] at l1;obtain ⟨⟨l2,l3,l4,l5⟩,⟨l6,l7,l8⟩,l9⟩:=l1
    first
     |omega
     |(rename_i q9;exact q9 ⟨by omega,by assumption⟩)
     |(simp_all [bc];done)
     |(simp_all [bc];omega)
   ·rw [a_ hro] at l1;have e1:s.next=[]:=List.eq_nil_of_length_eq_zero (by omega);have e2:s.mtch=[]:=List.eq_nil_of_length_eq_zero (by omega);have e3:s.sent=[]:=List.eq_nil_of_length_eq_zero (by omega)
    first
     |omega
     |(simp_all [bc,bP];done)
     |(simp_all [bc,bP];omega)
  with_reducible (replace Q258:=dd Q258;replace Q258:=dT_ Q258)
  (try simp only [Bool.not_eq_true',Bool.not_eq_false',Bool.not_eq_true,Bool.not_eq_false,decide_eq_true_eq,decide_eq_false_iff_not,Bool.or_eq_true,Bool.and_eq_true] at Q258)
  refine af rfl (aa (ae bW rfl) (af rfl (aa (aq aM rfl (by exact (show _=some (Value.slice Sn s.sent.length Sc) from (hk1.from_ (((((aj.rfl_.next E67).next E110).next E116).next E171).next E178)).rd 17 rfl))) ?_)));refine af rfl (mvi rfl (af rfl (aa (ae cf rfl) (af rfl (aa (aq bD rfl (by exact (hk1.from_ (((((aj.rfl_.next E67).next E110).next E116).next E171).next E178)).rd 9 rfl)) ?_)))));refine af rfl (aa (df (by kernel_rfl) rfl) (af rfl (aG cS (eT Sn Sc s.sent _ 0 (s.snap.size:Nat) _ (hrd.n.1.from_ ((((((aj.rfl_.next E1).next E67).next E110).next E116).next E171).next E178)) hl4) ?_)));rintro v188 w259 ⟨rfl,E188⟩;refine af rfl (aa (cd rfl) (aa (av (v:=.bool _) rfl rfl) (mvb rfl (aE (t:=191) rfl (fun Q260=>?_) (fun Q260=>?_)))))
  ·with_reducible (replace Q260:=dc Q260;replace Q260:=dF_ Q260)
   (try simp only [Bool.not_eq_true',Bool.not_eq_false',Bool.not_eq_true,Bool.not_eq_false,decide_eq_true_eq,decide_eq_false_iff_not,Bool.or_eq_true,Bool.and_eq_true] at Q260)
   refine ab rfl rfl (ab rfl rfl (ab rfl rfl (ab rfl rfl (aa (ao (v:=.bool _) rfl rfl) (mvb rfl (ab rfl rfl (ab rfl rfl (ab rfl rfl ?_))))))));refine aA rfl (aA rfl (aA rfl (aA rfl (ab rfl rfl (aa (ao (v:=.bool _) rfl rfl) (ak (ag (aJ rfl (an (ah ?_))))))))));refine asb rfl (ak (ag (aC (ay (bh (v:=.bool _) rfl rfl (⟨congrArg Value.bool ?_,(((((((aj.rfl_.next E1).next E67).next E110).next E116).next E171).next E178).next E188)⟩))))));rw [eq_comm,←Bool.not_eq_true,aO];rintro ⟨⟨n1,n2,n3,⟨n4,n5⟩,n6,n7,n8,n9⟩,⟨g1,g2,g3,g4,g5⟩,v1,l1,⟨p1,p2,p3⟩⟩;by_cases hro:s.role=2
   ·rw [aN hro] at l1;obtain ⟨⟨l2,l3,l4,l5⟩,⟨l6,l7,l8⟩,l9⟩:=l1
    first
     |omega
     |(rename_i q9;exact q9 ⟨by omega,by assumption⟩)
     |(simp_all [bc];done)
     |(simp_all [bc];omega)
   ·rw [a_ hro] at l1;have e1:s.next=[]:=List.eq_nil_of_length_eq_zero (by omega);have e2:s.mtch=[]:=List.eq_nil_of_length_eq_zero (by omega);have e3:s.sent=[]:=List.eq_nil_of_length_eq_zero (by omega)
    first
     |omega
     |(simp_all [bc,bP];done)
     |(simp_all [bc,bP];omega)
  with_reducible (replace Q260:=dd Q260;replace Q260:=dT_ Q260)
  (try simp only [Bool.not_eq_true',Bool.not_eq_false',Bool.not_eq_true,Bool.not_eq_false,decide_eq_true_eq,decide_eq_false_iff_not,Bool.or_eq_true,Bool.and_eq_true] at Q260)
  refine af rfl (aa (ae bd rfl) (af rfl (aa (aq bn rfl (by exact (show _=some (Value.slice Q LL.length Qc) from (hk1.from_ ((((((aj.rfl_.next E67).next E110).next E116).next E171).next E178).next E188)).rd 19 rfl))) ?_)));refine af rfl (aa (bm bI rfl) (af rfl (aa (bH rfl rfl) (aa (av (v:=.bool _) rfl rfl) (mvb rfl (wK (t:=197) rfl (fun Q261=>?_) (fun Q261=>?_)))))))
  ·(try simp only [Bool.not_eq_true',Bool.not_eq_false',Bool.not_eq_true,Bool.not_eq_false,decide_eq_true_eq,decide_eq_false_iff_not,Bool.or_eq_true,Bool.and_eq_true] at Q261)
   refine ab rfl rfl (ab rfl rfl (ab rfl rfl (aA rfl (aA rfl (aA rfl (aA rfl (ab rfl rfl (aa (ao (v:=.bool _) rfl rfl) ?_))))))));refine ak (ag (aJ rfl (an (ah (asb rfl (ak (ag (aC (ay (bh (v:=.bool _) rfl rfl (⟨congrArg Value.bool ?_,(((((((aj.rfl_.next E1).next E67).next E110).next E116).next E171).next E178).next E188)⟩)))))))))));rw [eq_comm,←Bool.not_eq_true,aO];rintro ⟨⟨n1,n2,n3,⟨n4,n5⟩,n6,n7,n8,n9⟩,⟨g1,g2,g3,g4,g5⟩,v1,l1,⟨p1,p2,p3⟩⟩;by_cases hro:s.role=2
   ·rw [aN hro] at l1;obtain ⟨⟨l2,l3,l4,l5⟩,⟨l6,l7,l8⟩,l9⟩:=l1
    first
     |omega
     |(rename_i q9;exact q9 ⟨by omega,by assumption⟩)
     |(simp_all [bc];done)
     |(simp_all [bc];omega)
   ·rw [a_ hro] at l1;have e1:s.next=[]:=List.eq_nil_of_length_eq_zero (by omega);have e2:s.mtch=[]:=List.eq_nil_of_length_eq_zero (by omega);have e3:s.sent=[]:=List.eq_nil_of_length_eq_zero (by omega)
    first
     |omega
     |(simp_all [bc,bP];done)
     |(simp_all [bc,bP];omega)
  (try simp only [Bool.not_eq_true',Bool.not_eq_false',Bool.not_eq_true,Bool.not_eq_false,decide_eq_true_eq,decide_eq_false_iff_not,Bool.or_eq_true,Bool.and_eq_true] at Q261)
  refine af rfl (mvi rfl (af rfl (aa (bC rfl rfl) (af rfl (mvb rfl (wK (t:=200) rfl (fun Q262=>?_) (fun Q262=>?_)))))))
  ·(try simp only [Bool.not_eq_true',Bool.not_eq_false',Bool.not_eq_true,Bool.not_eq_false,decide_eq_true_eq,decide_eq_false_iff_not,Bool.or_eq_true,Bool.and_eq_true] at Q262)
   exfalso;omega
  (try simp only [Bool.not_eq_true',Bool.not_eq_false',Bool.not_eq_true,Bool.not_eq_false,decide_eq_true_eq,decide_eq_false_iff_not,Bool.or_eq_true,Bool.and_eq_true] at Q262)
  refine ab rfl rfl (ab rfl rfl (ab rfl rfl (ab rfl rfl (af rfl (aa (av (v:=.bool _) rfl rfl) (aa (av (v:=.bool _) rfl rfl) (ak (ag (ck rfl ?_)))))))));refine aR (ag (an (an (ah (asi rfl (ak (ag (bf (cz (G:=Nat) [2,7,207,208,209,210,211,212,213,214,215,216,217,218,219,220,221,222,223,224,225,226,227,228,229,230,231,232,233,234,235,236,237,238,239,240,241,242,243,244,245,246,247,248,249,250,251,252,253,254,255,256,257,258] (fun k=>[(6,.int .i64 (k:Nat))]) (fun k w'=>k≤LL.length∧(∀ j (h:j<LL.length),j<k→ez s LL[j].1=true)∧Blk w' b1 29 (rfV s (⟨E,Ec,V,Vc,X,Xc,M,Mc,Sn,Sc,Q,Qc,LL⟩:Ra)).toArray∧aj w w') (fun k=>LL.length-k) (0) ⟨rfl,trivial⟩ ?_ ?_)))))))))
  ·exact ⟨Nat.zero_le _,fun j _ h=>absurd h (by omega),hk1.from_ ((((((aj.rfl_.next E67).next E110).next E116).next E171).next E178).next E188),(((((((aj.rfl_.next E1).next E67).next E110).next E116).next E171).next E178).next E188)⟩
  rintro k ρ276 w276 ⟨hk,h1,hk1,hB⟩;refine an (an (ah (mvi rfl (aa (ae bd rfl) (aa (aq bn rfl (by exact (show _=some (Value.slice Q LL.length Qc) from (hk1.from_ aj.rfl_).rd 19 rfl))) ?_)))));refine aa (bm bI rfl) (aa (bG rfl rfl) (ak (ag (xD rfl (fun Q277=>?_) (fun Q277=>?_)))))
  ·have hkL:k<LL.length:=by omega
   have hqm:LL[k].1∈s.reads:=by rw [←hrL];exact List.mem_map_of_mem (List.getElem_mem hkL)
   obtain ⟨ba,oa,rfl,hcs⟩:∃ b o,Q=some ⟨b,o,none⟩∧∀ i (hi:i<LL.length),w.rangeAt b (o+i*4) (rdV LL[i]):=hrd.q (by show 0<LL.length;omega);refine aR (ag (an (bf (an (ah (aa (ae bd rfl) (aa (aq bn rfl (by exact (show _=some (Value.slice (some ⟨ba,oa,none⟩) LL.length Qc) from (hk1.from_ aj.rfl_).rd 19 rfl))) ?_)))))));refine mvi rfl (aa (bL dC rfl rfl (by omega)) (aa (aT (cs:=rdV LL[k]) dX cN rfl (eN hB (hcs k hkL))) (cq e_ ?_)));intro b7 w278 E7 hb7 hk7;have hg7:w.heap.size≤b7:=by rw [hb7];exact (hB).size
   have hk1L:=hk1.from_ (aj.rfl_.next E7);have hn7:b1≠b7:=by have:=hk1.lt;have:=((aj.rfl_.next E7)).size;omega
   refine cu (vs:=[_,_,_,_]) cN rfl rfl (by simp [Value.oneCell']) (hk7) rfl ?_;intro w279 O16 P16;replace hk1:=hk1L.only O16 hn7;refine ak (ag (an (ah (aa (ae dz rfl) (aa (aq ar rfl (by exact (show _=some (Value.int .i64 LL[k].1.id) from (P16.from_ aj.rfl_).rd 0 rfl))) ?_)))));refine aa (bG rfl rfl) (mvb rfl (wK (t:=222) rfl (fun Q280=>?_) (fun Q280=>?_)))
   ·(try simp only [Bool.not_eq_true',Bool.not_eq_false',Bool.not_eq_true,Bool.not_eq_false,decide_eq_true_eq,decide_eq_false_iff_not,Bool.or_eq_true,Bool.and_eq_true] at Q280)
    refine ab rfl rfl (ab rfl rfl (ab rfl rfl (aa (ao (v:=.bool _) rfl rfl) (mvb rfl (ab rfl rfl (ab rfl rfl (ab rfl rfl (aa (ao (v:=.bool _) rfl rfl) ?_))))))));refine mvb rfl (ab rfl rfl (ab rfl rfl (ab rfl rfl (ab rfl rfl (ab rfl rfl (aa (ao (v:=.bool _) rfl rfl) (mvb rfl (ab rfl rfl ?_))))))));refine ab rfl rfl (ab rfl rfl (aa (ao (v:=.bool _) rfl rfl) (mvb rfl (ab rfl rfl (ab rfl rfl (ab rfl rfl (ab rfl rfl (ab rfl rfl ?_))))))));refine aa (ao (v:=.bool _) rfl rfl) (mvb rfl (ab rfl rfl (ab rfl rfl (ab rfl rfl (ab rfl rfl (ab rfl rfl (ab rfl rfl (aa (ao (v:=.bool _) rfl rfl) ?_))))))));refine ak (ag (aJ rfl (an (ah (asb rfl (ak (ag (aC (aZ (ay (ay (aZ (ay (bh (v:=.bool _) rfl rfl (⟨congrArg Value.bool ?_,((hB.next E7).only O16 (hg7))⟩)))))))))))))));rw [eq_comm,←Bool.not_eq_true,aO];rintro ⟨_,_,_,l1,_⟩;by_cases hro:s.role=2
    ·rw [aN hro] at l1;have g5:=bS.1 (l1.2.2 _ hqm)
     first
      |omega
      |(simp_all;done)
    ·rw [a_ hro] at l1;omega
   (try simp only [Bool.not_eq_true',Bool.not_eq_false',Bool.not_eq_true,Bool.not_eq_false,decide_eq_true_eq,decide_eq_false_iff_not,Bool.or_eq_true,Bool.and_eq_true] at Q280)
   refine af rfl (aa (ae dz rfl) (af rfl (aa (aq ar rfl (by exact (show _=some (Value.int .i64 LL[k].1.id) from (P16.from_ aj.rfl_).rd 0 rfl))) ?_)));refine af rfl (aa (bH rfl rfl) (aa (av (v:=.bool _) rfl rfl) (mvb rfl (wK (t:=227) rfl (fun Q281=>?_) (fun Q281=>?_)))))
   ·(try simp only [Bool.not_eq_true',Bool.not_eq_false',Bool.not_eq_true,Bool.not_eq_false,decide_eq_true_eq,decide_eq_false_iff_not,Bool.or_eq_true,Bool.and_eq_true] at Q281)
    refine ab rfl rfl (ab rfl rfl (ab rfl rfl (aa (ao (v:=.bool _) rfl rfl) (mvb rfl (ab rfl rfl (ab rfl rfl (ab rfl rfl (ab rfl rfl ?_))))))));refine ab rfl rfl (aa (ao (v:=.bool _) rfl rfl) (mvb rfl (ab rfl rfl (ab rfl rfl (ab rfl rfl (aa (ao (v:=.bool _) rfl rfl) (mvb rfl (ab rfl rfl ?_))))))));refine ab rfl rfl (ab rfl rfl (ab rfl rfl (ab rfl rfl (aa (ao (v:=.bool _) rfl rfl) (mvb rfl (ab rfl rfl (ab rfl rfl (ab rfl rfl ?_))))))));refine ab rfl rfl (ab rfl rfl (ab rfl rfl (aa (ao (v:=.bool _) rfl rfl) (ak (ag (aJ rfl (an (ah (asb rfl (ak (ag (aC (aZ (ay (ay (aZ (ay ?_)))))))))))))))));refine bh (v:=.bool _) rfl rfl (⟨congrArg Value.bool ?_,((hB.next E7).only O16 (hg7))⟩);rw [eq_comm,←Bool.not_eq_true,aO];rintro ⟨_,_,_,l1,_⟩;by_cases hro:s.role=2
    ·rw [aN hro] at l1;have g5:=bS.1 (l1.2.2 _ hqm)
     first
      |omega
      |(simp_all;done)
    ·rw [a_ hro] at l1;omega
   (try simp only [Bool.not_eq_true',Bool.not_eq_false',Bool.not_eq_true,Bool.not_eq_false,decide_eq_true_eq,decide_eq_false_iff_not,Bool.or_eq_true,Bool.and_eq_true] at Q281)
   refine af rfl (aa (ae dy rfl) (af rfl (aa (aq ar rfl (by exact (show _=some (Value.int .i64 LL[k].1.ix) from (P16.from_ aj.rfl_).rd 1 rfl))) ?_)));refine af rfl (aa (bG rfl rfl) (aa (av (v:=.bool _) rfl rfl) (mvb rfl (wK (t:=232) rfl (fun Q282=>?_) (fun Q282=>?_)))))
   ·(try simp only [Bool.not_eq_true',Bool.not_eq_false',Bool.not_eq_true,Bool.not_eq_false,decide_eq_true_eq,decide_eq_false_iff_not,Bool.or_eq_true,Bool.and_eq_true] at Q282)
    refine ab rfl rfl (ab rfl rfl (ab rfl rfl (ab rfl rfl (ab rfl rfl (aa (ao (v:=.bool _) rfl rfl) (mvb rfl (ab rfl rfl (ab rfl rfl ?_))))))));refine ab rfl rfl (aa (ao (v:=.bool _) rfl rfl) (mvb rfl (ab rfl rfl (ab rfl rfl (ab rfl rfl (ab rfl rfl (ab rfl rfl (aa (ao (v:=.bool _) rfl rfl) ?_))))))));refine mvb rfl (ab rfl rfl (ab rfl rfl (ab rfl rfl (ab rfl rfl (ab rfl rfl (ab rfl rfl (aa (ao (v:=.bool _) rfl rfl) (ak (ag ?_)))))))));refine aJ rfl (an (ah (asb rfl (ak (ag (aC (aZ (ay (ay (aZ (ay (bh (v:=.bool _) rfl rfl (⟨congrArg Value.bool ?_,((hB.next E7).only O16 (hg7))⟩)))))))))))));rw [eq_comm,←Bool.not_eq_true,aO];rintro ⟨_,_,_,l1,_⟩;by_cases hro:s.role=2
    ·rw [aN hro] at l1;have g5:=bS.1 (l1.2.2 _ hqm)
     first
      |omega
      |(simp_all;done)
    ·rw [a_ hro] at l1;omega
   (try simp only [Bool.not_eq_true',Bool.not_eq_false',Bool.not_eq_true,Bool.not_eq_false,decide_eq_true_eq,decide_eq_false_iff_not,Bool.or_eq_true,Bool.and_eq_true] at Q282)
   refine af rfl (aa (ae dy rfl) (af rfl (aa (aq ar rfl (by exact (show _=some (Value.int .i64 LL[k].1.ix) from (P16.from_ aj.rfl_).rd 1 rfl))) ?_)));refine af rfl (aa (ae cA rfl) (af rfl (aa (aq ar rfl (by exact (hk1.from_ aj.rfl_).rd 10 rfl)) ?_)));refine af rfl (aa (bH rfl rfl) (aa (av (v:=.bool _) rfl rfl) (mvb rfl (wK (t:=239) rfl (fun Q283=>?_) (fun Q283=>?_)))))
   ·(try simp only [Bool.not_eq_true',Bool.not_eq_false',Bool.not_eq_true,Bool.not_eq_false,decide_eq_true_eq,decide_eq_false_iff_not,Bool.or_eq_true,Bool.and_eq_true] at Q283)
    refine ab rfl rfl (ab rfl rfl (ab rfl rfl (aa (ao (v:=.bool _) rfl rfl) (mvb rfl (ab rfl rfl (ab rfl rfl (ab rfl rfl (ab rfl rfl ?_))))))));refine ab rfl rfl (aa (ao (v:=.bool _) rfl rfl) (mvb rfl (ab rfl rfl (ab rfl rfl (ab rfl rfl (ab rfl rfl (ab rfl rfl (ab rfl rfl ?_))))))));refine aa (ao (v:=.bool _) rfl rfl) (ak (ag (aJ rfl (an (ah (asb rfl (ak (ag (aC (aZ (ay (ay (aZ (ay (bh (v:=.bool _) rfl rfl (⟨congrArg Value.bool ?_,((hB.next E7).only O16 (hg7))⟩))))))))))))))));rw [eq_comm,←Bool.not_eq_true,aO];rintro ⟨_,_,_,l1,_⟩;by_cases hro:s.role=2
    ·rw [aN hro] at l1;have g5:=bS.1 (l1.2.2 _ hqm)
     first
      |omega
      |(simp_all;done)
    ·rw [a_ hro] at l1;omega
   (try simp only [Bool.not_eq_true',Bool.not_eq_false',Bool.not_eq_true,Bool.not_eq_false,decide_eq_true_eq,decide_eq_false_iff_not,Bool.or_eq_true,Bool.and_eq_true] at Q283)
   refine af rfl (aa (ae dw rfl) (af rfl (aa (aq ar rfl (by exact (show _=some (Value.int .i64 LL[k].1.rn) from (P16.from_ aj.rfl_).rd 2 rfl))) ?_)));refine af rfl (aa (bG rfl rfl) (aa (av (v:=.bool _) rfl rfl) (mvb rfl (wK (t:=244) rfl (fun Q284=>?_) (fun Q284=>?_)))))
   ·(try simp only [Bool.not_eq_true',Bool.not_eq_false',Bool.not_eq_true,Bool.not_eq_false,decide_eq_true_eq,decide_eq_false_iff_not,Bool.or_eq_true,Bool.and_eq_true] at Q284)
    refine ab rfl rfl (ab rfl rfl (ab rfl rfl (ab rfl rfl (ab rfl rfl (aa (ao (v:=.bool _) rfl rfl) (mvb rfl (ab rfl rfl (ab rfl rfl ?_))))))));refine ab rfl rfl (ab rfl rfl (ab rfl rfl (ab rfl rfl (aa (ao (v:=.bool _) rfl rfl) (ak (ag (aJ rfl (an (ah (asb rfl ?_))))))))));refine ak (ag (aC (aZ (ay (ay (aZ (ay (bh (v:=.bool _) rfl rfl (⟨congrArg Value.bool ?_,((hB.next E7).only O16 (hg7))⟩)))))))));rw [eq_comm,←Bool.not_eq_true,aO];rintro ⟨_,_,_,l1,_⟩;by_cases hro:s.role=2
    ·rw [aN hro] at l1;have g5:=bS.1 (l1.2.2 _ hqm)
     first
      |omega
      |(simp_all;done)
    ·rw [a_ hro] at l1;omega
   (try simp only [Bool.not_eq_true',Bool.not_eq_false',Bool.not_eq_true,Bool.not_eq_false,decide_eq_true_eq,decide_eq_false_iff_not,Bool.or_eq_true,Bool.and_eq_true] at Q284)
   refine af rfl (aa (ae dw rfl) (af rfl (aa (aq ar rfl (by exact (show _=some (Value.int .i64 LL[k].1.rn) from (P16.from_ aj.rfl_).rd 2 rfl))) ?_)));refine af rfl (aa (ae cL rfl) (af rfl (aa (aq ar rfl (by exact (hk1.from_ aj.rfl_).rd 18 rfl)) ?_)));refine af rfl (aa (bH rfl rfl) (aa (av (v:=.bool _) rfl rfl) (mvb rfl (wK (t:=251) rfl (fun Q285=>?_) (fun Q285=>?_)))))
   ·(try simp only [Bool.not_eq_true',Bool.not_eq_false',Bool.not_eq_true,Bool.not_eq_false,decide_eq_true_eq,decide_eq_false_iff_not,Bool.or_eq_true,Bool.and_eq_true] at Q285)
    refine ab rfl rfl (ab rfl rfl (ab rfl rfl (ab rfl rfl (ab rfl rfl (ab rfl rfl (aa (ao (v:=.bool _) rfl rfl) (ak (ag (aJ rfl ?_)))))))));refine an (ah (asb rfl (ak (ag (aC (aZ (ay (ay (aZ (ay (bh (v:=.bool _) rfl rfl (⟨congrArg Value.bool ?_,((hB.next E7).only O16 (hg7))⟩))))))))))));rw [eq_comm,←Bool.not_eq_true,aO];rintro ⟨_,_,_,l1,_⟩;by_cases hro:s.role=2
    ·rw [aN hro] at l1;have g5:=bS.1 (l1.2.2 _ hqm)
     first
      |omega
      |(simp_all;done)
    ·rw [a_ hro] at l1;omega
   (try simp only [Bool.not_eq_true',Bool.not_eq_false',Bool.not_eq_true,Bool.not_eq_false,decide_eq_true_eq,decide_eq_false_iff_not,Bool.or_eq_true,Bool.and_eq_true] at Q285)
   refine af rfl (aa (ae c_ rfl) (af rfl (aa (aq aM rfl (by exact (show _=some (Value.slice LL[k].2.1 LL[k].1.acks.length LL[k].2.2) from (P16.from_ aj.rfl_).rd 3 rfl))) ?_)));refine af rfl (aa (ae bw rfl) (af rfl (aa (aq ar rfl (by exact (hk1.from_ aj.rfl_).rd 1 rfl)) ?_)));refine af rfl (aG gC (k0 LL[k].2.1 LL[k].2.2 LL[k].1.acks s.nodes _ ((hrk _ (List.getElem_mem hkL)).1.from_ ((hB.next E7).only O16 (hg7))) (hl6 _ hqm)) ?_);rintro v256 w286 ⟨rfl,E256⟩;refine af rfl (aa (cd rfl) (aa (av (v:=.bool _) rfl rfl) (ak (ag (xB rfl (fun Q287=>?_) (fun Q287=>?_))))))
   ·(try simp only [Bool.not_eq_true',Bool.not_eq_false',Bool.not_eq_true,Bool.not_eq_false,decide_eq_true_eq,decide_eq_false_iff_not,Bool.or_eq_true,Bool.and_eq_true] at Q287)
    refine an (ah (asb rfl (ak (ag (aC (aZ (ay (ay (aZ (ay (bh (v:=.bool _) rfl rfl (⟨congrArg Value.bool ?_,(((hB.next E7).only O16 (hg7)).next E256)⟩))))))))))));rw [eq_comm,←Bool.not_eq_true,aO];rintro ⟨_,_,_,l1,_⟩;by_cases hro:s.role=2
    ·rw [aN hro] at l1;have g5:=bS.1 (l1.2.2 _ hqm)
     first
      |omega
      |(simp_all;done)
    ·rw [a_ hro] at l1;omega
   (try simp only [Bool.not_eq_true',Bool.not_eq_false',Bool.not_eq_true,Bool.not_eq_false,decide_eq_true_eq,decide_eq_false_iff_not,Bool.or_eq_true,Bool.and_eq_true] at Q287)
   refine aR (bN (ag (ah (mvi rfl (aa (bE rfl rfl (by omega)) (asi rfl (ak ?_)))))));refine cK (k+1) ⟨(by first | rfl | (refine br ?_;omega)),trivial⟩ (by (iterate 115 refine bQ rfl ?_);exact b_) ⟨?_,?_⟩
   ·refine ⟨by omega,fun j h hj=>?_,hk1.from_ (aj.rfl_.next E256),(((hB.next E7).only O16 (hg7)).next E256)⟩;rcases Nat.lt_or_ge j k with e | e
    ·exact h1 j h e
    ·obtain rfl:j=k:=by omega
     rw [bS];exact ⟨by omega,by omega,by omega,by first | assumption | simp_all⟩
   ·omega
  refine bZ (bg (bg (bF (ag (an (ah (asb rfl (ak (ag (aC (bh (v:=.bool _) rfl rfl (⟨congrArg Value.bool ?_,hB⟩))))))))))));rw [eq_comm,aO]
  have hrd9:∀ q∈s.reads,ez s q=true:=fun q hq=>by
   rw [←hrL] at hq;obtain ⟨y,hy,rfl⟩:=List.mem_map.1 hq;obtain ⟨i,hi,rfl⟩:=List.getElem_of_mem hy;exact h1 i hi (by omega)
  refine ⟨⟨by omega,by omega,by omega,⟨by omega,by omega⟩,by omega,by omega,by omega,by omega⟩,⟨by simp_all,by omega,by omega,by omega,by omega⟩,by simp_all,?_,⟨by omega,by omega,by omega⟩⟩;by_cases hro:s.role=2
  ·rw [aN hro];refine ⟨⟨?_,?_,?_,?_⟩,⟨?_,?_,?_⟩,hrd9⟩ <;> first | omega | (simp_all [bc];done) | (simp_all [bc];omega)
  ·rw [a_ hro]
   simp_all
 refine aR (ag (an (an (ah (aa (ae bu rfl) (aa (aq aM rfl (by exact (show _=some (Value.slice X s.next.length Xc) from (hk1.from_ (((aj.rfl_.next E67).next E110).next E116)).rd 15 rfl))) ?_))))));refine mvi rfl (mvi rfl (aa (bE rfl rfl (by omega)) (aG cS (eT X Xc s.next _ 1 (aQ s+1) _ (hrd.x.1.from_ ((((aj.rfl_.next E1).next E67).next E110).next E116)) hl2) ?_)));rintro v171 w288 ⟨rfl,E171⟩;refine aa (cd rfl) (mvb rfl (aE (t:=173) rfl (fun Q289=>?_) (fun Q289=>?_)))
 ·with_reducible (replace Q289:=dc Q289;replace Q289:=dF_ Q289)
  (try simp only [Bool.not_eq_true',Bool.not_eq_false',Bool.not_eq_true,Bool.not_eq_false,decide_eq_true_eq,decide_eq_false_iff_not,Bool.or_eq_true,Bool.and_eq_true] at Q289)
  refine ab rfl rfl (ab rfl rfl (ab rfl rfl (ab rfl rfl (ab rfl rfl (ab rfl rfl (aa (ao (v:=.bool _) rfl rfl) (mvb rfl (ab rfl rfl ?_))))))));refine ab rfl rfl (ab rfl rfl (ab rfl rfl (ab rfl rfl (ab rfl rfl (ab rfl rfl (ab rfl rfl (aa (ao (v:=.bool _) rfl rfl) (mvb rfl ?_))))))));refine ab rfl rfl (ab rfl rfl (ab rfl rfl (ab rfl rfl (aa (ao (v:=.bool _) rfl rfl) (mvb rfl (ab rfl rfl (ab rfl rfl (ab rfl rfl ?_))))))));refine aA rfl (aA rfl (aA rfl (aA rfl (ab rfl rfl (aa (ao (v:=.bool _) rfl rfl) (ak (ag (aJ rfl (an (ah ?_))))))))));refine asb rfl (ak (ag (aC (ay (bh (v:=.bool _) rfl rfl (⟨congrArg Value.bool ?_,(((((aj.rfl_.next E1).next E67).next E110).next E116).next E171)⟩))))));rw [eq_comm,←Bool.not_eq_true,aO];rintro ⟨⟨n1,n2,n3,⟨n4,n5⟩,n6,n7,n8,n9⟩,⟨g1,g2,g3,g4,g5⟩,v1,l1,⟨p1,p2,p3⟩⟩;by_cases hro:s.role=2
  ·rw [aN hro] at l1;obtain ⟨⟨l2,l3,l4,l5⟩,⟨l6,l7,l8⟩,l9⟩:=l1
   first
    |omega
    |(rename_i q9;exact q9 ⟨by omega,by assumption⟩)
    |(simp_all [bc];done)
    |(simp_all [bc];omega)
  ·rw [a_ hro] at l1;have e1:s.next=[]:=List.eq_nil_of_length_eq_zero (by omega);have e2:s.mtch=[]:=List.eq_nil_of_length_eq_zero (by omega);have e3:s.sent=[]:=List.eq_nil_of_length_eq_zero (by omega)
   first
    |omega
    |(simp_all [bc,bP];done)
    |(simp_all [bc,bP];omega)
 with_reducible (replace Q289:=dd Q289;replace Q289:=dT_ Q289)
 (try simp only [Bool.not_eq_true',Bool.not_eq_false',Bool.not_eq_true,Bool.not_eq_false,decide_eq_true_eq,decide_eq_false_iff_not,Bool.or_eq_true,Bool.and_eq_true] at Q289)
 refine af rfl (aa (ae bM rfl) (af rfl (aa (aq aM rfl (by exact (show _=some (Value.slice M s.mtch.length Mc) from (hk1.from_ ((((aj.rfl_.next E67).next E110).next E116).next E171)).rd 16 rfl))) ?_)));refine af rfl (mvi rfl (af rfl (mvi rfl (af rfl (aG cS (eT M Mc s.mtch _ 0 (aQ s) _ (hrd.m.1.from_ (((((aj.rfl_.next E1).next E67).next E110).next E116).next E171)) hl3) ?_)))));rintro v178 w290 ⟨rfl,E178⟩;refine af rfl (aa (cd rfl) (aa (av (v:=.bool _) rfl rfl) (mvb rfl (aE (t:=181) rfl (fun Q291=>?_) (fun Q291=>?_)))))
 ·with_reducible (replace Q291:=dc Q291;replace Q291:=dF_ Q291)
  (try simp only [Bool.not_eq_true',Bool.not_eq_false',Bool.not_eq_true,Bool.not_eq_false,decide_eq_true_eq,decide_eq_false_iff_not,Bool.or_eq_true,Bool.and_eq_true] at Q291)
  refine ab rfl rfl (ab rfl rfl (ab rfl rfl (ab rfl rfl (ab rfl rfl (ab rfl rfl (ab rfl rfl (ab rfl rfl (aa (ao (v:=.bool _) rfl rfl) ?_))))))));refine mvb rfl (ab rfl rfl (ab rfl rfl (ab rfl rfl (ab rfl rfl (aa (ao (v:=.bool _) rfl rfl) (mvb rfl (ab rfl rfl (ab rfl rfl ?_))))))));refine ab rfl rfl (aA rfl (aA rfl (aA rfl (aA rfl (ab rfl rfl (aa (ao (v:=.bool _) rfl rfl) (ak (ag (aJ rfl ?_)))))))));refine an (ah (asb rfl (ak (ag (aC (ay (bh (v:=.bool _) rfl rfl (⟨congrArg Value.bool ?_,((((((aj.rfl_.next E1).next E67).next E110).next E116).next E171).next E178)⟩))))))));rw [eq_comm,←Bool.not_eq_true,aO];rintro ⟨⟨n1,n2,n3,⟨n4,n5⟩,n6,n7,n8,n9⟩,⟨g1,g2,g3,g4,g5⟩,v1,l1,⟨p1,p2,p3⟩⟩;by_cases hro:s.role=2
  ·rw [aN hro] at l1;obtain ⟨⟨l2,l3,l4,l5⟩,⟨l6,l7,l8⟩,l9⟩:=l1
   first
    |omega
    |(rename_i q9;exact q9 ⟨by omega,by assumption⟩)
    |(simp_all [bc];done)
    |(simp_all [bc];omega)
  ·rw [a_ hro] at l1;have e1:s.next=[]:=List.eq_nil_of_length_eq_zero (by omega);have e2:s.mtch=[]:=List.eq_nil_of_length_eq_zero (by omega);have e3:s.sent=[]:=List.eq_nil_of_length_eq_zero (by omega)
   first
    |omega
    |(simp_all [bc,bP];done)
    |(simp_all [bc,bP];omega)
 with_reducible (replace Q291:=dd Q291;replace Q291:=dT_ Q291)
 (try simp only [Bool.not_eq_true',Bool.not_eq_false',Bool.not_eq_true,Bool.not_eq_false,decide_eq_true_eq,decide_eq_false_iff_not,Bool.or_eq_true,Bool.and_eq_true] at Q291)
 refine af rfl (aa (ae bW rfl) (af rfl (aa (aq aM rfl (by exact (show _=some (Value.slice Sn s.sent.length Sc) from (hk1.from_ (((((aj.rfl_.next E67).next E110).next E116).next E171).next E178)).rd 17 rfl))) ?_)));refine af rfl (mvi rfl (af rfl (aa (ae cf rfl) (af rfl (aa (aq bD rfl (by exact (hk1.from_ (((((aj.rfl_.next E67).next E110).next E116).next E171).next E178)).rd 9 rfl)) ?_)))));refine af rfl (aa (df (by kernel_rfl) rfl) (af rfl (aG cS (eT Sn Sc s.sent _ 0 (s.snap.size:Nat) _ (hrd.n.1.from_ ((((((aj.rfl_.next E1).next E67).next E110).next E116).next E171).next E178)) hl4) ?_)));rintro v188 w292 ⟨rfl,E188⟩;refine af rfl (aa (cd rfl) (aa (av (v:=.bool _) rfl rfl) (mvb rfl (aE (t:=191) rfl (fun Q293=>?_) (fun Q293=>?_)))))
 ·with_reducible (replace Q293:=dc Q293;replace Q293:=dF_ Q293)
  (try simp only [Bool.not_eq_true',Bool.not_eq_false',Bool.not_eq_true,Bool.not_eq_false,decide_eq_true_eq,decide_eq_false_iff_not,Bool.or_eq_true,Bool.and_eq_true] at Q293)
  refine ab rfl rfl (ab rfl rfl (ab rfl rfl (ab rfl rfl (aa (ao (v:=.bool _) rfl rfl) (mvb rfl (ab rfl rfl (ab rfl rfl (ab rfl rfl ?_))))))));refine aA rfl (aA rfl (aA rfl (aA rfl (ab rfl rfl (aa (ao (v:=.bool _) rfl rfl) (ak (ag (aJ rfl (an (ah ?_))))))))));refine asb rfl (ak (ag (aC (ay (bh (v:=.bool _) rfl rfl (⟨congrArg Value.bool ?_,(((((((aj.rfl_.next E1).next E67).next E110).next E116).next E171).next E178).next E188)⟩))))));rw [eq_comm,←Bool.not_eq_true,aO];rintro ⟨⟨n1,n2,n3,⟨n4,n5⟩,n6,n7,n8,n9⟩,⟨g1,g2,g3,g4,g5⟩,v1,l1,⟨p1,p2,p3⟩⟩;by_cases hro:s.role=2
  ·rw [aN hro] at l1;obtain ⟨⟨l2,l3,l4,l5⟩,⟨l6,l7,l8⟩,l9⟩:=l1
   first
    |omega
    |(rename_i q9;exact q9 ⟨by omega,by assumption⟩)
    |(simp_all [bc];done)
    |(simp_all [bc];omega)
  ·rw [a_ hro] at l1;have e1:s.next=[]:=List.eq_nil_of_length_eq_zero (by omega);have e2:s.mtch=[]:=List.eq_nil_of_length_eq_zero (by omega);have e3:s.sent=[]:=List.eq_nil_of_length_eq_zero (by omega)
   first
    |omega
    |(simp_all [bc,bP];done)
    |(simp_all [bc,bP];omega)
 with_reducible (replace Q293:=dd Q293;replace Q293:=dT_ Q293)
 (try simp only [Bool.not_eq_true',Bool.not_eq_false',Bool.not_eq_true,Bool.not_eq_false,decide_eq_true_eq,decide_eq_false_iff_not,Bool.or_eq_true,Bool.and_eq_true] at Q293)
 refine af rfl (aa (ae bd rfl) (af rfl (aa (aq bn rfl (by exact (show _=some (Value.slice Q LL.length Qc) from (hk1.from_ ((((((aj.rfl_.next E67).next E110).next E116).next E171).next E178).next E188)).rd 19 rfl))) ?_)));refine af rfl (aa (bm bI rfl) (af rfl (aa (bH rfl rfl) (aa (av (v:=.bool _) rfl rfl) (mvb rfl (wK (t:=197) rfl (fun Q294=>?_) (fun Q294=>?_)))))))
 ·(try simp only [Bool.not_eq_true',Bool.not_eq_false',Bool.not_eq_true,Bool.not_eq_false,decide_eq_true_eq,decide_eq_false_iff_not,Bool.or_eq_true,Bool.and_eq_true] at Q294)
  refine ab rfl rfl (ab rfl rfl (ab rfl rfl (aA rfl (aA rfl (aA rfl (aA rfl (ab rfl rfl (aa (ao (v:=.bool _) rfl rfl) ?_))))))));refine ak (ag (aJ rfl (an (ah (asb rfl (ak (ag (aC (ay (bh (v:=.bool _) rfl rfl (⟨congrArg Value.bool ?_,(((((((aj.rfl_.next E1).next E67).next E110).next E116).next E171).next E178).next E188)⟩)))))))))));rw [eq_comm,←Bool.not_eq_true,aO];rintro ⟨⟨n1,n2,n3,⟨n4,n5⟩,n6,n7,n8,n9⟩,⟨g1,g2,g3,g4,g5⟩,v1,l1,⟨p1,p2,p3⟩⟩;by_cases hro:s.role=2
  ·rw [aN hro] at l1;obtain ⟨⟨l2,l3,l4,l5⟩,⟨l6,l7,l8⟩,l9⟩:=l1
   first
    |omega
    |(rename_i q9;exact q9 ⟨by omega,by assumption⟩)
    |(simp_all [bc];done)
    |(simp_all [bc];omega)
  ·rw [a_ hro] at l1;have e1:s.next=[]:=List.eq_nil_of_length_eq_zero (by omega);have e2:s.mtch=[]:=List.eq_nil_of_length_eq_zero (by omega);have e3:s.sent=[]:=List.eq_nil_of_length_eq_zero (by omega)
   first
    |omega
    |(simp_all [bc,bP];done)
    |(simp_all [bc,bP];omega)
 (try simp only [Bool.not_eq_true',Bool.not_eq_false',Bool.not_eq_true,Bool.not_eq_false,decide_eq_true_eq,decide_eq_false_iff_not,Bool.or_eq_true,Bool.and_eq_true] at Q294)
 refine af rfl (mvi rfl (af rfl (aa (bC rfl rfl) (af rfl (mvb rfl (wK (t:=200) rfl (fun Q295=>?_) (fun Q295=>?_)))))));rotate_left
 ·(try simp only at Q295)
  exfalso;contradiction
 (try simp only at Q295)
 refine af rfl (aa (ae bd rfl) (af rfl (aa (aq bn rfl (by exact (show _=some (Value.slice Q LL.length Qc) from (hk1.from_ ((((((aj.rfl_.next E67).next E110).next E116).next E171).next E178).next E188)).rd 19 rfl))) ?_)));refine af rfl (aa (bm bI rfl) (af rfl (aa (bH rfl rfl) (af rfl (aa (ao (v:=.bool _) rfl rfl) (aa (av (v:=.bool _) rfl rfl) (ak (ag (xD rfl (fun Q308=>?_) (fun Q308=>?_))))))))))
 ·(try simp only [Bool.not_eq_true',Bool.not_eq_false',Bool.not_eq_true,Bool.not_eq_false,decide_eq_true_eq,decide_eq_false_iff_not,Bool.or_eq_true,Bool.and_eq_true] at Q308)
  refine an (ah (asb rfl (ak (ag (aC (ay (bh (v:=.bool _) rfl rfl (⟨congrArg Value.bool ?_,(((((((aj.rfl_.next E1).next E67).next E110).next E116).next E171).next E178).next E188)⟩))))))));rw [eq_comm,←Bool.not_eq_true,aO];rintro ⟨⟨n1,n2,n3,⟨n4,n5⟩,n6,n7,n8,n9⟩,⟨g1,g2,g3,g4,g5⟩,v1,l1,⟨p1,p2,p3⟩⟩;by_cases hro:s.role=2
  ·rw [aN hro] at l1;obtain ⟨⟨l2,l3,l4,l5⟩,⟨l6,l7,l8⟩,l9⟩:=l1
   first
    |omega
    |(rename_i q9;exact q9 ⟨by omega,by assumption⟩)
    |(simp_all [bc];done)
    |(simp_all [bc];omega)
  ·rw [a_ hro] at l1;have e1:s.next=[]:=List.eq_nil_of_length_eq_zero (by omega);have e2:s.mtch=[]:=List.eq_nil_of_length_eq_zero (by omega);have e3:s.sent=[]:=List.eq_nil_of_length_eq_zero (by omega)
   first
    |omega
    |(simp_all [bc,bP];done)
    |(simp_all [bc,bP];omega)
 (try simp only [Bool.not_eq_true',Bool.not_eq_false',Bool.not_eq_true,Bool.not_eq_false,decide_eq_true_eq,decide_eq_false_iff_not,Bool.or_eq_true,Bool.and_eq_true] at Q308)
 refine aR (ag (an (an (ah (asi rfl (ak (ag (bf (cz (G:=Nat) [2,7,207,208,209,210,211,212,213,214,215,216,217,218,219,220,221,222,223,224,225,226,227,228,229,230,231,232,233,234,235,236,237,238,239,240,241,242,243,244,245,246,247,248,249,250,251,252,253,254,255,256,257,258] (fun k=>[(6,.int .i64 (k:Nat))]) (fun k w'=>k≤LL.length∧(∀ j (h:j<LL.length),j<k→ez s LL[j].1=true)∧Blk w' b1 29 (rfV s (⟨E,Ec,V,Vc,X,Xc,M,Mc,Sn,Sc,Q,Qc,LL⟩:Ra)).toArray∧aj w w') (fun k=>LL.length-k) (0) ⟨rfl,trivial⟩ ?_ ?_)))))))))
 ·exact ⟨Nat.zero_le _,fun j _ h=>absurd h (by omega),hk1.from_ ((((((aj.rfl_.next E67).next E110).next E116).next E171).next E178).next E188),(((((((aj.rfl_.next E1).next E67).next E110).next E116).next E171).next E178).next E188)⟩
 rintro k ρ309 w309 ⟨hk,h1,hk1,hB⟩;refine an (an (ah (mvi rfl (aa (ae bd rfl) (aa (aq bn rfl (by exact (show _=some (Value.slice Q LL.length Qc) from (hk1.from_ aj.rfl_).rd 19 rfl))) ?_)))));refine aa (bm bI rfl) (aa (bG rfl rfl) (ak (ag (xD rfl (fun Q310=>?_) (fun Q310=>?_)))))
 ·have hkL:k<LL.length:=by omega
  have hqm:LL[k].1∈s.reads:=by rw [←hrL];exact List.mem_map_of_mem (List.getElem_mem hkL)
  obtain ⟨ba,oa,rfl,hcs⟩:∃ b o,Q=some ⟨b,o,none⟩∧∀ i (hi:i<LL.length),w.rangeAt b (o+i*4) (rdV LL[i]):=hrd.q (by show 0<LL.length;omega);exfalso;omega
 refine bZ (bg (bg (bF (ag (an (ah (asb rfl (ak (ag (aC (bh (v:=.bool _) rfl rfl (⟨congrArg Value.bool ?_,hB⟩))))))))))));rw [eq_comm,aO]
 have hrd9:∀ q∈s.reads,ez s q=true:=fun q hq=>by
  rw [←hrL] at hq;obtain ⟨y,hy,rfl⟩:=List.mem_map.1 hq;obtain ⟨i,hi,rfl⟩:=List.getElem_of_mem hy;exact h1 i hi (by omega)
 refine ⟨⟨by omega,by omega,by omega,⟨by omega,by omega⟩,by omega,by omega,by omega,by omega⟩,⟨by simp_all,by omega,by omega,by omega,by omega⟩,by simp_all,?_,⟨by omega,by omega,by omega⟩⟩;by_cases hro:s.role=2
 ·rw [aN hro];refine ⟨⟨?_,?_,?_,?_⟩,⟨?_,?_,?_⟩,hrd9⟩ <;> first | omega | (simp_all [bc];done) | (simp_all [bc];omega)
 ·rw [a_ hro]
  simp_all [bc]
end Go.Proofs.YtkpooenofjdpmaaGreat
