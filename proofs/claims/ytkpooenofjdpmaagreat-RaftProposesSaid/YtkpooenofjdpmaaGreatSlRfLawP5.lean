/- texts that the claim stands on. -/
import Derived.Test.YtkpooenofjdpmaaGreatSlRfLawP4

set_option maxRecDepth 100000
set_option maxHeartbeats 4000000
namespace Go.Proofs.YtkpooenofjdpmaaGreat
open Go.Proofs.Tryz (prog)
open Go.RowKit
open Go.ChangeShapes Go.WideShapes Go.ChangeAt
theorem da:aY prog 53=true:=by kernel_rfl
theorem dX:gV prog 54=some true:=by kernel_rfl
theorem cN:dL prog 54=some 4:=by kernel_rfl
theorem bn:gV prog 27=some false:=by kernel_rfl
theorem bI:(fI prog 27).isSome=true:=by kernel_rfl
theorem dC:fI prog 27=some (54,4):=by kernel_rfl
theorem e_:jQ prog 54=some (.agg #[.int .i64 0,.int .i64 0,.int .i64 0,.slice none 0 0]):=by kernel_rfl
theorem dz:cr prog 54 0=some 0:=by kernel_rfl
theorem dy:cr prog 54 1=some 1:=by kernel_rfl
theorem dw:cr prog 54 2=some 2:=by kernel_rfl
theorem c_:cr prog 54 3=some 3:=by kernel_rfl
theorem kC:aY prog 133=true:=by kernel_rfl
theorem aL:gV prog 29=some true:=by kernel_rfl
theorem aD:dL prog 29=some 22:=by kernel_rfl
theorem o_:aY prog 131=true:=by kernel_rfl
theorem o8:aY prog 132=true:=by kernel_rfl
theorem o7:aY prog 134=true:=by kernel_rfl
theorem o6:aY prog 135=true:=by kernel_rfl
def gy (s:Rf):Prop:=(1≤s.nodes∧s.nodes≤7)∧(1≤s.id∧s.id≤s.nodes)∧(0≤s.role∧s.role≤2)∧((0≤s.vote∧s.vote≤s.nodes)∧(0≤s.leader∧s.leader≤s.nodes))∧(0≤s.term∧s.term≤1099511627775)∧(0≤s.elapsed∧s.elapsed≤1099511627775)∧(0≤s.timeout∧s.timeout≤1099511627775)∧(0≤s.round∧s.round≤1099511627775)
instance (s:Rf):Decidable (gy s):=by unfold gy;exact inferInstance
def ft (s:Rf):Prop:=cg s.b s.t s.es=true∧du s.t s.es≤s.term∧(s.b≤s.commit∧s.commit≤aQ s)∧s.snap.size≤524288∧(0<s.b∨s.snap.size=0)
instance (s:Rf):Decidable (ft s):=by unfold ft;exact inferInstance
def fJ (s:Rf):Prop:=s.part.size≤524288∧(0≤s.partOf∧s.partOf≤1099511625728)∧(0<s.partOf∨s.part.size=0)
instance (s:Rf):Decidable (fJ s):=by unfold fJ;exact inferInstance
def jW (s:Rf):Prop:=if s.role=2 then ((s.next.length:Int)=s.nodes∧(s.mtch.length:Int)=s.nodes∧(s.sent.length:Int)=s.nodes∧s.reads.length≤32)∧(bP 1 (aQ s+1) s.next∧bP 0 (aQ s) s.mtch∧bP 0 s.snap.size s.sent)∧(∀ q∈s.reads,ez s q=true) else s.next.length+s.mtch.length+s.sent.length+s.reads.length=0
instance (s:Rf):Decidable (jW s):=by unfold jW;exact inferInstance
theorem xh (s:Rf) (E:Option Addr) (n c:Nat) (w:World) (h:ct w (.slice E n c) s.es):Rt prog 152 [.agg #[.int .i64 s.b,.int .i64 s.t,.slice E n c]] w fun v w'=>(∃ X Y Z:Int,v=.tuple #[.int .i64 X,.int .i64 Y,.int .i64 Z]∧((cg s.b s.t s.es=true∧Z=0∧X=aQ s∧Y=du s.t s.es)∨(cg s.b s.t s.es=false∧Z=1)))∧aj w w':=
 (Rt.of (pR s.b s.t _ s.es w h)).mono fun v w' h=>by
  refine ⟨?_,h.2⟩;rw [h.1];unfold r4;cases hm:cg s.b s.t s.es with
  |true=>rw [if_pos rfl];exact ⟨_,_,_,rfl,.inl ⟨rfl,rfl,rfl,rfl⟩⟩
  |false=>rw [if_neg (by decide)];exact ⟨_,_,_,rfl,.inr ⟨rfl,rfl⟩⟩
theorem gI:∀ (l:List Int),fL l=true↔∀ j (h:j+1<l.length),l[j]<l[j+1]
 |[]=>⟨fun _ j h=>absurd h (by simp),fun _=>rfl⟩
 |[a]=>⟨fun _ j h=>absurd h (by simp),fun _=>rfl⟩
 |a::b::r=>by
  have ih:=gI (b::r);show (decide (a<b)&&fL (b::r))=true↔_;rw [Bool.and_eq_true,decide_eq_true_eq,ih];constructor
  ·rintro ⟨h1,h2⟩ j h;cases j with
   |zero=>exact h1
   |succ j=>exact h2 j (by simpa using h)
  ·intro h;exact ⟨h 0 (by simp),fun j hj=>h (j+1) (by simpa using hj)⟩
theorem fM {l:List Int} {n:Int}:fp l n=true↔bP 1 n l∧∀ j (h:j+1<l.length),l[j]<l[j+1]:=by
 unfold fp bP;rw [Bool.and_eq_true,gI,List.all_eq_true];simp only [Bool.and_eq_true,decide_eq_true_eq]
theorem d_ (lo hi:Int) (A:Option Addr) (c:Nat) (xs:List Int) (w:World) (hr:dI iV w A xs) (hl:xs.length≤1000000) :
 Rt prog 53 [.int .i64 lo,.int .i64 hi,.slice A xs.length c] w (fun v w'=>v=.bool (decide (bP lo hi xs))∧w=w'):=by
 refine enter (n:=24) Tryz.func53 rfl rfl rfl (an (ah (asb rfl (ak (ag (an (an (ah (mvs rfl (aa (bm bJ rfl) (mvi rfl (ak (ag (bf (cz (G:=Nat) [6,8,12,13,14,15,16,17,18,19,20,21,22,23] (fun k=>[(11,.int .i64 (k:Nat))]) (fun k w'=>k≤xs.length∧bP lo hi (xs.take k)∧w=w') (fun k=>xs.length-k) (0) ⟨rfl,trivial⟩ ?_ ?_)))))))))))))))
 ·exact ⟨Nat.zero_le _,bA.2 trivial,rfl⟩
 rintro k ρ1 w1 ⟨hk,ha,rfl⟩;refine an (ah (aa (bG rfl rfl) (ak (ag (an (xD rfl (fun Q2=>?_) (fun Q2=>?_)))))))
 ·have hkx:k<xs.length:=by omega
  obtain ⟨ba,oa,rfl,hca⟩:=hr (by omega);refine aR (ag (an (bf (an (ah (aa (cl bK rfl rfl (by omega)) (aa (aq ar rfl (by exact hca k hkx)) ?_)))))));refine asi rfl (ak (ag (an (ah (mvi rfl (mvi rfl (aa (bG rfl rfl) (mvb rfl (wK (t:=18) rfl (fun Q3=>?_) (fun Q3=>?_))))))))))
  ·refine ab rfl rfl (ab rfl rfl (ab rfl rfl (aa (ao (v:=.bool _) rfl rfl) (ak (ag (aJ rfl (an (ah (asb rfl (ak (ag (aC (aZ (ay (ay (aZ (ay ?_)))))))))))))))));refine bh (v:=.bool _) rfl rfl (⟨congrArg Value.bool ?_,rfl⟩);rw [eq_comm,decide_eq_false_iff_not];intro h;have:=h _ (List.getElem_mem hkx);omega
  refine af rfl (mvi rfl (af rfl (mvi rfl (af rfl (aa (bH rfl rfl) (aa (av (v:=.bool _) rfl rfl) (ak (ag (xD rfl (fun Q4=>?_) (fun Q4=>?_))))))))))
  ·refine an (ah (asb rfl (ak (ag (aC (aZ (ay (ay (aZ (ay (bh (v:=.bool _) rfl rfl (⟨congrArg Value.bool ?_,rfl⟩))))))))))));rw [eq_comm,decide_eq_false_iff_not];intro h;have:=h _ (List.getElem_mem hkx);omega
  refine aR (bN (ag (ah (aa (cR (b:=1) rfl rfl (by omega)) (mvi rfl (ak ?_))))));refine cK (k+1) ⟨(by first | rfl | (refine br ?_;omega)),trivial⟩ (by (iterate 30 refine bQ rfl ?_);exact b_) ⟨?_,?_⟩
  ·exact ⟨by omega,by rw [List.take_succ_eq_append_getElem hkx];exact ru.2 ⟨ha,by omega⟩,rfl⟩
  ·omega
 obtain rfl:k=xs.length:=by omega
 rw [List.take_length] at ha;refine bZ (bg (bg (bF (ag (an (ah (asb rfl (ak (ag (aC (bh (v:=.bool _) rfl rfl (⟨congrArg Value.bool (decide_eq_true ha).symm,rfl⟩))))))))))))
theorem fb {w:World} {b:Nat} {xs:List Int} (h:Blk w b 3 (xs.map iV).toArray):dI iV w (some ⟨b,0,none⟩) xs:=dI.blk h fun i hi=>by simp [hi]
theorem lN (s:Rf) (a:Ra) (w:World) :
 Rt prog 131 [.agg (rfV s a).toArray] w (fun v w'=>v=.bool (decide (gy s))∧aj w w'):=by
 refine enter (n:=43) Tryz.func131 rfl rfl rfl (an (ah (cU (v:=.agg _) rfl ?_)));intro b1 w1 E1 hb1 hk1;refine asb rfl (ak (ag (an (ah (aa (ae bw rfl) (aa (aq ar rfl (by exact (hk1.from_ aj.rfl_).rd 1 rfl)) ?_))))));refine eO (v:=.int _ _) cD rfl rfl rfl ?_;intro b5 w2 E5 hb5 hk5;refine aG da (d_ 1 7 (some ⟨b5,0,none⟩) 1 [s.nodes] _ (fb hk5) (by simp)) ?_;rintro v6 w3 ⟨rfl,rfl⟩;refine mvb rfl (wK (t:=7) rfl (fun Q4=>?_) (fun Q4=>?_))
 ·(try simp only [bo,bA,and_true] at Q4)
  refine af rfl (aa (ae bw rfl) (af rfl (aa (aq ar rfl (by exact (hk1.from_ (aj.rfl_.next E5)).rd 1 rfl)) ?_)));refine af rfl (aa (ae cW rfl) (af rfl (aa (aq ar rfl (by exact (hk1.from_ (aj.rfl_.next E5)).rd 0 rfl)) ?_)));refine af rfl (eO (v:=.int _ _) cD rfl rfl rfl ?_);intro b12 w5 E12 hb12 hk12;refine af rfl (aG da (d_ 1 s.nodes (some ⟨b12,0,none⟩) 1 [s.id] _ (fb hk12) (by simp)) ?_);rintro v13 w6 ⟨rfl,rfl⟩;refine aa (ao (v:=.bool _) rfl rfl) (mvb rfl (wK (t:=15) rfl (fun Q7=>?_) (fun Q7=>?_)))
  ·(try simp only [bo,bA,and_true] at Q7)
   refine af rfl (aa (ae cF rfl) (af rfl (aa (aq ar rfl (by exact (hk1.from_ ((aj.rfl_.next E5).next E12)).rd 2 rfl)) ?_)));refine af rfl (eO (v:=.int _ _) cD rfl rfl rfl ?_);intro b18 w8 E18 hb18 hk18;refine af rfl (aG da (d_ 0 2 (some ⟨b18,0,none⟩) 1 [s.role] _ (fb hk18) (by simp)) ?_);rintro v19 w9 ⟨rfl,rfl⟩;refine aa (ao (v:=.bool _) rfl rfl) (mvb rfl (wK (t:=21) rfl (fun Q10=>?_) (fun Q10=>?_)))
   ·(try simp only [bo,bA,and_true] at Q10)
    refine af rfl (aa (ae bw rfl) (af rfl (aa (aq ar rfl (by exact (hk1.from_ (((aj.rfl_.next E5).next E12).next E18)).rd 1 rfl)) ?_)));refine af rfl (aa (ae eG rfl) (af rfl (aa (aq ar rfl (by exact (hk1.from_ (((aj.rfl_.next E5).next E12).next E18)).rd 4 rfl)) ?_)));refine af rfl (aa (ae er rfl) (af rfl (aa (aq ar rfl (by exact (hk1.from_ (((aj.rfl_.next E5).next E12).next E18)).rd 5 rfl)) ?_)));refine af rfl (rQ [.tmp 25,.tmp 27] [.int _ _,.int _ _] cD rfl rfl rfl rfl (by simp [Value.cells]) ?_);intro b28 w11 E28 hb28 hk28;refine af rfl (aG da (d_ 0 s.nodes (some ⟨b28,0,none⟩) 2 [s.vote,s.leader] _ (fb hk28) (by simp)) ?_);rintro v29 w12 ⟨rfl,rfl⟩;refine aa (ao (v:=.bool _) rfl rfl) (mvb rfl (wK (t:=31) rfl (fun Q13=>?_) (fun Q13=>?_)))
    ·(try simp only [bo,bA,and_true] at Q13)
     refine af rfl (aa (ae cB rfl) (af rfl (aa (aq ar rfl (by exact (hk1.from_ ((((aj.rfl_.next E5).next E12).next E18).next E28)).rd 3 rfl)) ?_)));refine af rfl (aa (ae dk rfl) (af rfl (aa (aq ar rfl (by exact (hk1.from_ ((((aj.rfl_.next E5).next E12).next E18).next E28)).rd 11 rfl)) ?_)));refine af rfl (aa (ae eh rfl) (af rfl (aa (aq ar rfl (by exact (hk1.from_ ((((aj.rfl_.next E5).next E12).next E18).next E28)).rd 12 rfl)) ?_)));refine af rfl (aa (ae cL rfl) (af rfl (aa (aq ar rfl (by exact (hk1.from_ ((((aj.rfl_.next E5).next E12).next E18).next E28)).rd 18 rfl)) ?_)));refine af rfl (rQ [.tmp 33,.tmp 35,.tmp 37,.tmp 39] [.int _ _,.int _ _,.int _ _,.int _ _] cD rfl rfl rfl rfl (by simp [Value.cells]) ?_);intro b40 w14 E40 hb40 hk40;refine af rfl (aG da (d_ 0 1099511627775 (some ⟨b40,0,none⟩) 4 [s.term,s.elapsed,s.timeout,s.round] _ (fb hk40) (by simp)) ?_);rintro v41 w15 ⟨rfl,rfl⟩;refine aa (ao (v:=.bool _) rfl rfl) (asb rfl (ak (ag (aC (bh (v:=.bool _) rfl rfl (⟨congrArg Value.bool ?_,((((((aj.rfl_.next E1).next E5).next E12).next E18).next E28).next E40)⟩))))))
     (try simp only [bo,bA,and_true])
     first
      |(rw [eq_comm,decide_eq_false_iff_not];unfold gy;omega)
      |(rw [decide_eq_decide];unfold gy;omega)
      |(rw [eq_comm,decide_eq_true_eq];unfold gy;omega)
    (try simp only [bo,bA,and_true] at Q13)
    refine ab rfl rfl (ab rfl rfl (ab rfl rfl (ab rfl rfl (ab rfl rfl (ab rfl rfl (ab rfl rfl (ab rfl rfl (ab rfl rfl ?_))))))));refine ab rfl rfl (aa (av (v:=.bool _) rfl rfl) (asb rfl (ak (ag (aC (bh (v:=.bool _) rfl rfl (⟨congrArg Value.bool ?_,(((((aj.rfl_.next E1).next E5).next E12).next E18).next E28)⟩)))))))
    (try simp only [bo,bA,and_true])
    first
     |(rw [eq_comm,decide_eq_false_iff_not];unfold gy;omega)
     |(rw [decide_eq_decide];unfold gy;omega)
     |(rw [eq_comm,decide_eq_true_eq];unfold gy;omega)
   (try simp only [bo,bA,and_true] at Q10)
   refine ab rfl rfl (ab rfl rfl (ab rfl rfl (ab rfl rfl (ab rfl rfl (ab rfl rfl (ab rfl rfl (ab rfl rfl (aa (av (v:=.bool _) rfl rfl) ?_))))))));refine mvb rfl (ab rfl rfl (ab rfl rfl (ab rfl rfl (ab rfl rfl (ab rfl rfl (ab rfl rfl (ab rfl rfl (ab rfl rfl ?_))))))));refine ab rfl rfl (ab rfl rfl (aa (av (v:=.bool _) rfl rfl) (asb rfl (ak (ag (aC (bh (v:=.bool _) rfl rfl (⟨congrArg Value.bool ?_,((((aj.rfl_.next E1).next E5).next E12).next E18)⟩))))))))
   (try simp only [bo,bA,and_true])
   first
    |(rw [eq_comm,decide_eq_false_iff_not];unfold gy;omega)
    |(rw [decide_eq_decide];unfold gy;omega)
    |(rw [eq_comm,decide_eq_true_eq];unfold gy;omega)
  (try simp only [bo,bA,and_true] at Q7)
  refine ab rfl rfl (ab rfl rfl (ab rfl rfl (ab rfl rfl (aa (av (v:=.bool _) rfl rfl) (mvb rfl (ab rfl rfl (ab rfl rfl (ab rfl rfl ?_))))))));refine ab rfl rfl (ab rfl rfl (ab rfl rfl (ab rfl rfl (ab rfl rfl (aa (av (v:=.bool _) rfl rfl) (mvb rfl (ab rfl rfl (ab rfl rfl ?_))))))));refine ab rfl rfl (ab rfl rfl (ab rfl rfl (ab rfl rfl (ab rfl rfl (ab rfl rfl (ab rfl rfl (ab rfl rfl (aa (av (v:=.bool _) rfl rfl) ?_))))))));refine asb rfl (ak (ag (aC (bh (v:=.bool _) rfl rfl (⟨congrArg Value.bool ?_,(((aj.rfl_.next E1).next E5).next E12)⟩)))))
  (try simp only [bo,bA,and_true])
  first
   |(rw [eq_comm,decide_eq_false_iff_not];unfold gy;omega)
   |(rw [decide_eq_decide];unfold gy;omega)
   |(rw [eq_comm,decide_eq_true_eq];unfold gy;omega)
 (try simp only [bo,bA,and_true] at Q4)
 refine ab rfl rfl (ab rfl rfl (ab rfl rfl (ab rfl rfl (ab rfl rfl (ab rfl rfl (aa (av (v:=.bool _) rfl rfl) (mvb rfl (ab rfl rfl ?_))))))));refine ab rfl rfl (ab rfl rfl (ab rfl rfl (aa (av (v:=.bool _) rfl rfl) (mvb rfl (ab rfl rfl (ab rfl rfl (ab rfl rfl (ab rfl rfl ?_))))))));refine ab rfl rfl (ab rfl rfl (ab rfl rfl (ab rfl rfl (aa (av (v:=.bool _) rfl rfl) (mvb rfl (ab rfl rfl (ab rfl rfl (ab rfl rfl ?_))))))));refine ab rfl rfl (ab rfl rfl (ab rfl rfl (ab rfl rfl (ab rfl rfl (ab rfl rfl (ab rfl rfl (aa (av (v:=.bool _) rfl rfl) (asb rfl ?_))))))));refine ak (ag (aC (bh (v:=.bool _) rfl rfl (⟨congrArg Value.bool ?_,((aj.rfl_.next E1).next E5)⟩))))
 (try simp only [bo,bA,and_true])
 first
  |(rw [eq_comm,decide_eq_false_iff_not];unfold gy;omega)
  |(rw [decide_eq_decide];unfold gy;omega)
  |(rw [eq_comm,decide_eq_true_eq];unfold gy;omega)
theorem lT {s:Rf} {a:Ra} {w:World} {b T:Nat} (hb:Blk w b T (rfV s a).toArray):w.rangeAt b 6 [.int .i64 s.b,.int .i64 s.t,.slice a.E s.es.length a.Ec]:=hb.range 6 _ (fun j v hj=>by
 match j,hj with
 |0,hj=>exact hj
 |1,hj=>exact hj
 |2,hj=>exact hj
 |j+3,hj=>simp at hj)
theorem pj (s:Rf) (a:Ra) (w:World) (he:ct w (.slice a.E s.es.length a.Ec) s.es) :
 Rt prog 132 [.agg (rfV s a).toArray] w (fun v w'=>v=.bool (decide (ft s))∧aj w w'):=by
 refine enter (n:=48) Tryz.func132 rfl rfl rfl (an (ah (cU (v:=.agg _) rfl ?_)));intro b1 w1 E1 hb1 hk1;refine asb rfl (ak (ag (an (ah (aa (ae bk rfl) (aa (aT (cs:=[.int .i64 s.b,.int .i64 s.t,.slice a.E s.es.length a.Ec]) cZ cI rfl (lT (hk1.from_ aj.rfl_))) (aG kz (xh s a.E s.es.length a.Ec _ (he.from_ (aj.rfl_.next E1))) ?_)))))));rintro v9 w2 ⟨⟨X,Y,Z,rfl,hXYZ⟩,E9⟩;refine mvt rfl (aa (aS rfl rfl) (aa (aS rfl rfl) (aa (aS rfl rfl) (asi rfl (asi rfl (asi rfl (ak (ag (an (ah (mvi rfl ?_)))))))))));refine aa (bC rfl rfl) (mvb rfl (wJ (t:=15) rfl (fun Q3=>?_) (fun Q3=>?_)))
 ·refine af rfl (mvi rfl (af rfl (aa (ae cB rfl) (af rfl (aa (aq ar rfl (by exact (hk1.from_ (aj.rfl_.next E9)).rd 3 rfl)) ?_)))));refine af rfl (aa (iF rfl rfl) (aa (ao (v:=.bool _) rfl rfl) (mvb rfl (wK (t:=21) rfl (fun Q4=>?_) (fun Q4=>?_)))))
  ·(try simp only [bo,bA,and_true] at Q4)
   refine af rfl (aa (ae bk rfl) (af rfl (aa (ae dh rfl) (af rfl (aa (aq ar rfl (by exact (hk1.from_ (aj.rfl_.next E9)).rd 6 rfl)) ?_)))));refine af rfl (mvi rfl (af rfl (aa (ae cA rfl) (af rfl (aa (aq ar rfl (by exact (hk1.from_ (aj.rfl_.next E9)).rd 10 rfl)) ?_)))));refine af rfl (eO (v:=.int _ _) cD rfl rfl rfl ?_);intro b28 w5 E28 hb28 hk28;refine af rfl (aG da (d_ s.b X (some ⟨b28,0,none⟩) 1 [s.commit] _ (fb hk28) (by simp)) ?_);rintro v29 w6 ⟨rfl,rfl⟩;refine aa (ao (v:=.bool _) rfl rfl) (mvb rfl (wK (t:=31) rfl (fun Q7=>?_) (fun Q7=>?_)))
   ·(try simp only [bo,bA,and_true] at Q7)
    refine af rfl (aa (ae cf rfl) (af rfl (aa (aq bD rfl (by exact (hk1.from_ ((aj.rfl_.next E9).next E28)).rd 9 rfl)) ?_)));refine af rfl (aa (df (by kernel_rfl) rfl) (af rfl (aa (iF rfl rfl) (aa (ao (v:=.bool _) rfl rfl) (mvb rfl (wK (t:=37) rfl (fun Q8=>?_) (fun Q8=>?_)))))))
    ·refine af rfl (aa (ae bk rfl) (af rfl (aa (ae dh rfl) (af rfl (aa (aq ar rfl (by exact (hk1.from_ ((aj.rfl_.next E9).next E28)).rd 6 rfl)) ?_)))));refine af rfl (aa (bH rfl rfl) (af rfl (mvb rfl (wK (t:=42) rfl (fun Q9=>?_) (fun Q9=>?_)))))
     ·refine ab rfl rfl (ab rfl rfl (ab rfl rfl (af rfl (aa (ao (v:=.bool _) rfl rfl) (aa (ao (v:=.bool _) rfl rfl) (asb rfl (ak (ag (aC (bh (v:=.bool _) rfl rfl ?_))))))))));refine ⟨congrArg Value.bool ?_,(((aj.rfl_.next E1).next E9).next E28)⟩
      (try simp only [bo,bA,and_true])
      rcases hXYZ with ⟨hm,hz,hx,hy⟩ | ⟨hm,hz⟩
      ·first
        |(rw [eq_comm,decide_eq_false_iff_not];unfold ft;simp only [hm,true_and];omega)
        |(rw [decide_eq_decide];unfold ft;simp only [hm,true_and];omega)
        |(rw [eq_comm,decide_eq_true_eq];unfold ft;simp only [hm,true_and];omega)
      ·first
        |(exfalso;omega)
        |(rw [eq_comm,decide_eq_false_iff_not];unfold ft;rw [hm];exact fun h=>Bool.noConfusion h.1)
     refine af rfl (aa (ae cf rfl) (af rfl (aa (aq bD rfl (by exact (hk1.from_ ((aj.rfl_.next E9).next E28)).rd 9 rfl)) ?_)));refine af rfl (aa (gk (kn rfl rfl) (congrArg Value.bool (wt s.snap))) (af rfl (aa (av (v:=.bool _) rfl rfl) (aa (ao (v:=.bool _) rfl rfl) (asb rfl (ak (ag (aC (bh (v:=.bool _) rfl rfl (⟨congrArg Value.bool ?_,(((aj.rfl_.next E1).next E9).next E28)⟩))))))))))
     (try simp only [bo,bA,and_true])
     rcases hXYZ with ⟨hm,hz,hx,hy⟩ | ⟨hm,hz⟩
     ·first
       |(rw [eq_comm,decide_eq_false_iff_not];unfold ft;simp only [hm,true_and];omega)
       |(rw [decide_eq_decide];unfold ft;simp only [hm,true_and];omega)
       |(rw [eq_comm,decide_eq_true_eq];unfold ft;simp only [hm,true_and];omega)
     ·first
       |(exfalso;omega)
       |(rw [eq_comm,decide_eq_false_iff_not];unfold ft;rw [hm];exact fun h=>Bool.noConfusion h.1)
    refine ab rfl rfl (ab rfl rfl (ab rfl rfl (ab rfl rfl (ab rfl rfl (aA rfl (aA rfl (aA rfl (ab rfl rfl ?_))))))));refine aa (av (v:=.bool _) rfl rfl) (asb rfl (ak (ag (aC (bh (v:=.bool _) rfl rfl (⟨congrArg Value.bool ?_,(((aj.rfl_.next E1).next E9).next E28)⟩))))))
    (try simp only [bo,bA,and_true])
    rcases hXYZ with ⟨hm,hz,hx,hy⟩ | ⟨hm,hz⟩
    ·first
      |(rw [eq_comm,decide_eq_false_iff_not];unfold ft;simp only [hm,true_and];omega)
      |(rw [decide_eq_decide];unfold ft;simp only [hm,true_and];omega)
      |(rw [eq_comm,decide_eq_true_eq];unfold ft;simp only [hm,true_and];omega)
    ·first
      |(exfalso;omega)
      |(rw [eq_comm,decide_eq_false_iff_not];unfold ft;rw [hm];exact fun h=>Bool.noConfusion h.1)
   (try simp only [bo,bA,and_true] at Q7)
   refine ab rfl rfl (ab rfl rfl (ab rfl rfl (ab rfl rfl (aa (av (v:=.bool _) rfl rfl) (mvb rfl (ab rfl rfl (ab rfl rfl (ab rfl rfl ?_))))))));refine ab rfl rfl (ab rfl rfl (aA rfl (aA rfl (aA rfl (ab rfl rfl (aa (av (v:=.bool _) rfl rfl) (asb rfl (ak (ag (aC ?_))))))))));refine bh (v:=.bool _) rfl rfl (⟨congrArg Value.bool ?_,(((aj.rfl_.next E1).next E9).next E28)⟩)
   (try simp only [bo,bA,and_true])
   rcases hXYZ with ⟨hm,hz,hx,hy⟩ | ⟨hm,hz⟩
   ·first
     |(rw [eq_comm,decide_eq_false_iff_not];unfold ft;simp only [hm,true_and];omega)
     |(rw [decide_eq_decide];unfold ft;simp only [hm,true_and];omega)
     |(rw [eq_comm,decide_eq_true_eq];unfold ft;simp only [hm,true_and];omega)
   ·first
     |(exfalso;omega)
     |(rw [eq_comm,decide_eq_false_iff_not];unfold ft;rw [hm];exact fun h=>Bool.noConfusion h.1)
  (try simp only [bo,bA,and_true] at Q4)
  refine ab rfl rfl (ab rfl rfl (ab rfl rfl (ab rfl rfl (ab rfl rfl (ab rfl rfl (ab rfl rfl (ab rfl rfl (aa (av (v:=.bool _) rfl rfl) ?_))))))));refine mvb rfl (ab rfl rfl (ab rfl rfl (ab rfl rfl (ab rfl rfl (aa (av (v:=.bool _) rfl rfl) (mvb rfl (ab rfl rfl (ab rfl rfl ?_))))))));refine ab rfl rfl (ab rfl rfl (ab rfl rfl (aA rfl (aA rfl (aA rfl (ab rfl rfl (aa (av (v:=.bool _) rfl rfl) (asb rfl ?_))))))));refine ak (ag (aC (bh (v:=.bool _) rfl rfl (⟨congrArg Value.bool ?_,((aj.rfl_.next E1).next E9)⟩))))
  (try simp only [bo,bA,and_true])
  rcases hXYZ with ⟨hm,hz,hx,hy⟩ | ⟨hm,hz⟩
  ·first
    |(rw [eq_comm,decide_eq_false_iff_not];unfold ft;simp only [hm,true_and];omega)
    |(rw [decide_eq_decide];unfold ft;simp only [hm,true_and];omega)
    |(rw [eq_comm,decide_eq_true_eq];unfold ft;simp only [hm,true_and];omega)
  ·first
    |(exfalso;omega)
    |(rw [eq_comm,decide_eq_false_iff_not];unfold ft;rw [hm];exact fun h=>Bool.noConfusion h.1)
 refine ab rfl rfl (ab rfl rfl (ab rfl rfl (ab rfl rfl (aa (av (v:=.bool _) rfl rfl) (mvb rfl (ab rfl rfl (ab rfl rfl (ab rfl rfl ?_))))))));refine ab rfl rfl (ab rfl rfl (ab rfl rfl (ab rfl rfl (ab rfl rfl (aa (av (v:=.bool _) rfl rfl) (mvb rfl (ab rfl rfl (ab rfl rfl ?_))))))));refine ab rfl rfl (ab rfl rfl (aa (av (v:=.bool _) rfl rfl) (mvb rfl (ab rfl rfl (ab rfl rfl (ab rfl rfl (ab rfl rfl (ab rfl rfl ?_))))))));refine aA rfl (aA rfl (aA rfl (ab rfl rfl (aa (av (v:=.bool _) rfl rfl) (asb rfl (ak (ag (aC (bh (v:=.bool _) rfl rfl (⟨congrArg Value.bool ?_,((aj.rfl_.next E1).next E9)⟩))))))))))
 (try simp only [bo,bA,and_true])
 rcases hXYZ with ⟨hm,hz,hx,hy⟩ | ⟨hm,hz⟩
 ·first
   |(rw [eq_comm,decide_eq_false_iff_not];unfold ft;simp only [hm,true_and];omega)
   |(rw [decide_eq_decide];unfold ft;simp only [hm,true_and];omega)
   |(rw [eq_comm,decide_eq_true_eq];unfold ft;simp only [hm,true_and];omega)
 ·first
   |(exfalso;omega)
   |(rw [eq_comm,decide_eq_false_iff_not];unfold ft;rw [hm];exact fun h=>Bool.noConfusion h.1)
theorem ow (s:Rf) (a:Ra) (w:World) :
 Rt prog 135 [.agg (rfV s a).toArray] w (fun v w'=>v=.bool (decide (fJ s))∧aj w w'):=by
 refine enter (n:=23) Tryz.func135 rfl rfl rfl (an (ah (cU (v:=.agg _) rfl ?_)));intro b1 w1 E1 hb1 hk1;refine asb rfl (ak (ag (an (ah (aa (ae dv rfl) (aa (aq bD rfl (by exact (hk1.from_ aj.rfl_).rd 20 rfl)) ?_))))));refine aa (df (by kernel_rfl) rfl) (aa (iF rfl rfl) (mvb rfl (wK (t:=7) rfl (fun Q2=>?_) (fun Q2=>?_))))
 ·refine af rfl (aa (ae di rfl) (af rfl (aa (aq ar rfl (by exact (hk1.from_ aj.rfl_).rd 21 rfl)) ?_)));refine af rfl (eO (v:=.int _ _) cD rfl rfl rfl ?_);intro b10 w3 E10 hb10 hk10;refine af rfl (aG da (d_ 0 1099511625728 (some ⟨b10,0,none⟩) 1 [s.partOf] _ (fb hk10) (by simp)) ?_);rintro v11 w4 ⟨rfl,rfl⟩;refine aa (ao (v:=.bool _) rfl rfl) (mvb rfl (wK (t:=13) rfl (fun Q5=>?_) (fun Q5=>?_)))
  ·(try simp only [bo,bA,and_true] at Q5)
   refine af rfl (aa (ae di rfl) (af rfl (aa (aq ar rfl (by exact (hk1.from_ (aj.rfl_.next E10)).rd 21 rfl)) ?_)));refine af rfl (aa (bH rfl rfl) (af rfl (mvb rfl (wK (t:=17) rfl (fun Q6=>?_) (fun Q6=>?_)))))
   ·refine ab rfl rfl (ab rfl rfl (ab rfl rfl (af rfl (aa (ao (v:=.bool _) rfl rfl) (aa (ao (v:=.bool _) rfl rfl) (asb rfl (ak (ag (aC (bh (v:=.bool _) rfl rfl ?_))))))))));refine ⟨congrArg Value.bool ?_,((aj.rfl_.next E1).next E10)⟩
    (try simp only [bo,bA,and_true])
    first
     |(rw [eq_comm,decide_eq_false_iff_not];unfold fJ;omega)
     |(rw [decide_eq_decide];unfold fJ;omega)
     |(rw [eq_comm,decide_eq_true_eq];unfold fJ;omega)
   refine af rfl (aa (ae dv rfl) (af rfl (aa (aq bD rfl (by exact (hk1.from_ (aj.rfl_.next E10)).rd 20 rfl)) ?_)));refine af rfl (aa (gk (kn rfl rfl) (congrArg Value.bool (wt s.part))) (af rfl (aa (av (v:=.bool _) rfl rfl) (aa (ao (v:=.bool _) rfl rfl) (asb rfl (ak (ag (aC (bh (v:=.bool _) rfl rfl (⟨congrArg Value.bool ?_,((aj.rfl_.next E1).next E10)⟩))))))))))
   (try simp only [bo,bA,and_true])
   first
    |(rw [eq_comm,decide_eq_false_iff_not];unfold fJ;omega)
    |(rw [decide_eq_decide];unfold fJ;omega)
    |(rw [eq_comm,decide_eq_true_eq];unfold fJ;omega)
  (try simp only [bo,bA,and_true] at Q5)
  refine ab rfl rfl (ab rfl rfl (ab rfl rfl (ab rfl rfl (aA rfl (aA rfl (aA rfl (ab rfl rfl (aa (av (v:=.bool _) rfl rfl) ?_))))))));refine asb rfl (ak (ag (aC (bh (v:=.bool _) rfl rfl (⟨congrArg Value.bool ?_,((aj.rfl_.next E1).next E10)⟩)))))
  (try simp only [bo,bA,and_true])
  first
   |(rw [eq_comm,decide_eq_false_iff_not];unfold fJ;omega)
   |(rw [decide_eq_decide];unfold fJ;omega)
   |(rw [eq_comm,decide_eq_true_eq];unfold fJ;omega)
 refine ab rfl rfl (ab rfl rfl (ab rfl rfl (ab rfl rfl (aa (av (v:=.bool _) rfl rfl) (mvb rfl (ab rfl rfl (ab rfl rfl (ab rfl rfl ?_))))))));refine ab rfl rfl (aA rfl (aA rfl (aA rfl (ab rfl rfl (aa (av (v:=.bool _) rfl rfl) (asb rfl (ak (ag (aC (bh (v:=.bool _) rfl rfl ?_))))))))));refine ⟨congrArg Value.bool ?_,(aj.rfl_.next E1)⟩
 (try simp only [bo,bA,and_true])
 first
  |(rw [eq_comm,decide_eq_false_iff_not];unfold fJ;omega)
  |(rw [decide_eq_decide];unfold fJ;omega)
  |(rw [eq_comm,decide_eq_true_eq];unfold fJ;omega)
theorem nN (A:Option Addr) (c:Nat) (l:List Int) (n:Int) (w:World) (hr:dI iV w A l) (hl:l.length≤1000000) :
 Rt prog 133 [.slice A l.length c,.int .i64 n] w (fun v w'=>v=.bool (fp l n)∧aj w w'):=by
 refine enter (n:=33) Tryz.func133 rfl rfl rfl (an (ah (asb rfl (ak (ag (an (an (ah (mvs rfl (aa (bm bJ rfl) (mvi rfl (ak (ag (bf (cz (G:=Nat) [4,5,6,10,11,12,13,14,15,16,17,18,19,20,21,22,23,24,25,26,27,28,29,30,31,32] (fun k=>[(9,.int .i64 (k:Nat))]) (fun k w'=>k≤l.length∧(∀ j (h:j<l.length),j<k→1≤l[j]∧l[j]≤n)∧(∀ j (h:j+1<l.length),j+1<k→l[j]<l[j+1])∧aj w w') (fun k=>l.length-k) (0) ⟨rfl,trivial⟩ ?_ ?_)))))))))))))))
 ·exact ⟨Nat.zero_le _,fun j _ h=>absurd h (by omega),fun j _ h=>absurd h (by omega),aj.rfl_⟩
 rintro k ρ1 w1 ⟨hk,h1,h2,hB⟩;refine an (ah (aa (bG rfl rfl) (ak (ag (an (xD rfl (fun Q2=>?_) (fun Q2=>?_)))))))
 ·have hkx:k<l.length:=by omega
  obtain ⟨ba,oa,rfl,hca⟩:=hr (by omega);refine aR (ag (an (bf (an (ah (mvi rfl (aa (cl bK rfl rfl (by omega)) (aa (aq ar rfl (by exact dF hB (hca k hkx))) ?_))))))));refine asi rfl (asi rfl (ak (ag (an (ah (mvi rfl (mvi rfl (eO (v:=.int _ _) cD rfl rfl rfl ?_))))))));intro b16 w3 E16 hb16 hk16;refine aG da (d_ 1 n (some ⟨b16,0,none⟩) 1 [l[k]] _ (fb hk16) (by simp)) ?_;rintro v17 w4 ⟨rfl,rfl⟩;refine aa (cd rfl) (mvb rfl (aE (t:=19) rfl (fun Q5=>?_) (fun Q5=>?_)))
  ·replace Q5:=dc Q5;replace Q5:=dF_ Q5
   (try simp only [bo,bA,and_true] at Q5)
   refine ab rfl rfl (ab rfl rfl (ab rfl rfl (aA rfl (aA rfl (aA rfl (aA rfl (aA rfl (aA rfl ?_))))))));refine aA rfl (ab rfl rfl (aa (ao (v:=.bool _) rfl rfl) (ak (ag (aJ rfl (an (ah (asb rfl (ak (ag (aC (aZ (ay (ay (aZ (ay (bh (v:=.bool _) rfl rfl ?_)))))))))))))))));refine ⟨congrArg Value.bool ?_,(hB.next E16)⟩;rw [eq_comm,←Bool.not_eq_true,fM];rintro ⟨h3,h4⟩;have h5:=h3 _ (List.getElem_mem hkx)
   first
    |omega
    |(obtain ⟨j,rfl⟩:∃ j,k=j+1:=⟨k-1,by omega⟩
      have h6:=h4 j hkx
      (try simp only [Nat.add_sub_cancel] at*)
      omega)
  replace Q5:=dd Q5;replace Q5:=dT_ Q5
  (try simp only [bo,bA,and_true] at Q5)
  refine af rfl (mvi rfl (af rfl (aa (bH rfl rfl) (af rfl (mvb rfl (wK (t:=22) rfl (fun Q6=>?_) (fun Q6=>?_)))))))
  ·refine af rfl (mvs rfl (af rfl (mvi rfl (af rfl (aa (dM rfl rfl (by omega)) (ed (t:=25) (v:=.int _ _) (v':=.int .i64 ((k-1:Nat):Int)) rfl (by exact br (by omega)) ?_))))));refine af rfl (aa (cl bK rfl rfl (by omega)) (af rfl (aa (aq ar rfl (by exact dF (hB.next E16) (hca (k-1) (by omega)))) ?_)));refine af rfl (mvi rfl (af rfl (aa (kP rfl rfl) (af rfl (aa (ao (v:=.bool _) rfl rfl) (aa (av (v:=.bool _) rfl rfl) (ak (ag (xD rfl (fun Q7=>?_) (fun Q7=>?_))))))))))
   ·refine an (ah (asb rfl (ak (ag (aC (aZ (ay (ay (aZ (ay (bh (v:=.bool _) rfl rfl (⟨congrArg Value.bool ?_,(hB.next E16)⟩))))))))))));rw [eq_comm,←Bool.not_eq_true,fM];rintro ⟨h3,h4⟩;have h5:=h3 _ (List.getElem_mem hkx)
    first
     |omega
     |(obtain ⟨j,rfl⟩:∃ j,k=j+1:=⟨k-1,by omega⟩
       have h6:=h4 j hkx
       (try simp only [Nat.add_sub_cancel] at*)
       omega)
   refine aR (bN (ag (ah (aa (cR (b:=1) rfl rfl (by omega)) (mvi rfl (ak ?_))))));refine cK (k+1) ⟨(by first | rfl | (refine br ?_;omega)),trivial⟩ (by (iterate 56 refine bQ rfl ?_);exact b_) ⟨?_,?_⟩
   ·refine ⟨by omega,fun j h hj=>?_,fun j h hj=>?_,(hB.next E16)⟩
    ·rcases Nat.lt_or_ge j k with e | e
     ·exact h1 j h e
     ·obtain rfl:j=k:=by omega
      omega
    ·rcases Nat.lt_or_ge (j+1) k with e | e
     ·exact h2 j h e
     ·obtain rfl:k=j+1:=by omega
      (try simp only [Nat.add_sub_cancel] at*)
      omega
   ·omega
  refine ab rfl rfl (ab rfl rfl (ab rfl rfl (ab rfl rfl (ab rfl rfl (ab rfl rfl (ab rfl rfl (af rfl (aa (av (v:=.bool _) rfl rfl) ?_))))))));refine aa (av (v:=.bool _) rfl rfl) (ak (ag (ck rfl (aR (bN (ag (ah (aa (cR (b:=1) rfl rfl (by omega)) (mvi rfl (ak ?_))))))))));refine cK (k+1) ⟨(by first | rfl | (refine br ?_;omega)),trivial⟩ (by (iterate 55 refine bQ rfl ?_);exact b_) ⟨?_,?_⟩
  ·refine ⟨by omega,fun j h hj=>?_,fun j h hj=>?_,(hB.next E16)⟩
   ·rcases Nat.lt_or_ge j k with e | e
    ·exact h1 j h e
    ·obtain rfl:j=k:=by omega
     omega
   ·rcases Nat.lt_or_ge (j+1) k with e | e
    ·exact h2 j h e
    ·obtain rfl:k=j+1:=by omega
     (try simp only [Nat.add_sub_cancel] at*)
     omega
  ·omega
 refine bZ (bg (bg (bF (ag (an (ah (asb rfl (ak (ag (aC (bh (v:=.bool _) rfl rfl (⟨congrArg Value.bool ?_,hB⟩))))))))))));obtain rfl:k=l.length:=by omega
 rw [eq_comm,fM];exact ⟨fun x hx=>by obtain ⟨j,hj,rfl⟩:=List.getElem_of_mem hx;exact h1 j hj hj,fun j hj=>h2 j hj hj⟩
theorem aN {s:Rf} (h:s.role=2):jW s↔((s.next.length:Int)=s.nodes∧(s.mtch.length:Int)=s.nodes∧(s.sent.length:Int)=s.nodes∧s.reads.length≤32)∧(bP 1 (aQ s+1) s.next∧bP 0 (aQ s) s.mtch∧bP 0 s.snap.size s.sent)∧(∀ q∈s.reads,ez s q=true):=by unfold jW;rw [if_pos h]
theorem a_ {s:Rf} (h:s.role≠2):jW s↔s.next.length+s.mtch.length+s.sent.length+s.reads.length=0:=by unfold jW;rw [if_neg h]
theorem bS {s:Rf} {q:Rd}:ez s q=true↔(1≤q.id∧q.id≤1099511627776)∧(0≤q.ix∧q.ix≤s.commit)∧(0≤q.rn∧q.rn≤s.round)∧fp q.acks s.nodes=true:=by
 unfold ez inb;simp only [Bool.and_eq_true,decide_eq_true_eq];constructor
 ·rintro ⟨⟨⟨h1,h2⟩,h3⟩,h4⟩;exact ⟨h1,h2,h3,h4⟩
 ·rintro ⟨h1,h2,h3,h4⟩;exact ⟨⟨⟨h1,h2⟩,h3⟩,h4⟩
theorem nw (s:Rf) (a:Ra) (w:World) (hrd:fi w s a) (hN:gy s) (hL:ft s) (hl:s.next.length≤1000000∧s.mtch.length≤1000000∧s.sent.length≤1000000∧s.reads.length≤1000000∧∀ q∈s.reads,q.acks.length≤1000000) :
 Rt prog 134 [.agg (rfV s a).toArray] w (fun v w'=>v=.bool (decide (jW s))∧aj w w'):=by
 obtain ⟨E,Ec,V,Vc,X,Xc,M,Mc,Sn,Sc,Q,Qc,LL⟩:=a;have hrL:LL.map (fun q=>q.1)=s.reads:=hrd.r;have hrk:∀ q∈LL,IR w q.2.1 q.2.2 q.1.acks:=hrd.k;obtain ⟨hl1,hl2,hl3,hl4,hl5⟩:=hl;have hbl:=en hL.1;have hlr:aQ s=s.b+s.es.length:=hbl.1;have hrl:LL.length=s.reads.length:=by rw [←hrL,List.length_map]
 have hN0:=hN.1;refine enter (n:=122) Tryz.func134 rfl rfl rfl (an (ah (cU (v:=.agg _) rfl ?_)));intro b1 w1 E1 hb1 hk1;refine asb rfl (ak (ag (an (an (ah (aa (ae cF rfl) (aa (aq ar rfl (by exact (hk1.from_ aj.rfl_).rd 2 rfl)) ?_)))))));refine aa (dt rfl rfl) (ak (ag (xA rfl (fun Q2=>?_) (fun Q2=>?_))))
 ·refine an (ah (aa (ae bu rfl) (aa (aq aM rfl (by exact (show _=some (Value.slice X s.next.length Xc) from (hk1.from_ aj.rfl_).rd 15 rfl))) ?_)));refine aa (bm bJ rfl) (aa (ae bM rfl) (aa (aq aM rfl (by exact (show _=some (Value.slice M s.mtch.length Mc) from (hk1.from_ aj.rfl_).rd 16 rfl))) ?_));refine aa (bm bJ rfl) (aa (cR rfl rfl (by omega)) (aa (ae bW rfl) (aa (aq aM rfl (by exact (show _=some (Value.slice Sn s.sent.length Sc) from (hk1.from_ aj.rfl_).rd 17 rfl))) ?_)));refine aa (bm bJ rfl) (aa (cR rfl rfl (by omega)) (aa (ae bd rfl) (aa (aq bn rfl (by exact (show _=some (Value.slice Q LL.length Qc) from (hk1.from_ aj.rfl_).rd 19 rfl))) ?_)));refine aa (bm bI rfl) (aa (cR rfl rfl (by omega)) (aa (bC rfl rfl) (asb rfl (ak (ag (aC (ay (bh (v:=.bool _) rfl rfl (⟨congrArg Value.bool ?_,(aj.rfl_.next E1)⟩)))))))));rw [Bool.eq_iff_iff,decide_eq_true_eq,a_ (by omega),beq_iff_eq];omega
 refine aR (ag (an (ah (aa (ae bk rfl) (aa (ae dh rfl) (aa (aq ar rfl (by exact (hk1.from_ aj.rfl_).rd 6 rfl)) ?_))))));refine aa (ae bk rfl) (aa (ae cE rfl) (aa (aq cG rfl (by exact (hk1.from_ aj.rfl_).rd 8 rfl)) ?_));refine aa (bm cT rfl) (aa (bE rfl rfl (by omega)) (ed (t:=32) (v:=.int _ _) (v':=.int .i64 (aQ s)) rfl (by exact br hlr.symm) ?_));refine asi rfl (ak (ag (an (an (ah (aa (ae bu rfl) (aa (aq aM rfl (by exact (show _=some (Value.slice X s.next.length Xc) from (hk1.from_ aj.rfl_).rd 15 rfl))) ?_)))))));refine aa (bm bJ rfl) (aa (ae bw rfl) (aa (aq ar rfl (by exact (hk1.from_ aj.rfl_).rd 1 rfl)) ?_));refine aa (dt rfl rfl) (mvb rfl (wH (t:=39) rfl (fun Q3=>?_) (fun Q3=>?_)))
 ·refine ab rfl rfl (ab rfl rfl (ab rfl rfl (ab rfl rfl (ab rfl rfl (ab rfl rfl (aa (ao (v:=.bool _) rfl rfl) (mvb rfl (ab rfl rfl ?_))))))));refine ab rfl rfl (ab rfl rfl (ab rfl rfl (ab rfl rfl (ab rfl rfl (aa (ao (v:=.bool _) rfl rfl) (mvb rfl (ab rfl rfl (ab rfl rfl ?_))))))));refine ab rfl rfl (ab rfl rfl (aa (ao (v:=.bool _) rfl rfl) (ak (ag (aJ rfl (an (ah (asb rfl (ak (ag (aC (ay (bh (v:=.bool _) rfl rfl ?_)))))))))))));refine ⟨congrArg Value.bool ?_,(aj.rfl_.next E1)⟩;rw [eq_comm,decide_eq_false_iff_not];rw [aN (by omega)];rintro ⟨⟨g1,g2,g3,g4⟩,_⟩;omega
 refine af rfl (aa (ae bM rfl) (af rfl (aa (aq aM rfl (by exact (show _=some (Value.slice M s.mtch.length Mc) from (hk1.from_ aj.rfl_).rd 16 rfl))) ?_)));refine af rfl (aa (bm bJ rfl) (af rfl (aa (ae bw rfl) (af rfl (aa (aq ar rfl (by exact (hk1.from_ aj.rfl_).rd 1 rfl)) ?_)))));refine af rfl (aa (dt rfl rfl) (aa (av (v:=.bool _) rfl rfl) (mvb rfl (wH (t:=47) rfl (fun Q4=>?_) (fun Q4=>?_)))))
 ·refine ab rfl rfl (ab rfl rfl (ab rfl rfl (ab rfl rfl (ab rfl rfl (ab rfl rfl (aa (ao (v:=.bool _) rfl rfl) (mvb rfl (ab rfl rfl ?_))))))));refine ab rfl rfl (ab rfl rfl (ab rfl rfl (aa (ao (v:=.bool _) rfl rfl) (ak (ag (aJ rfl (an (ah (asb rfl (ak (ag (aC (ay ?_)))))))))))));refine bh (v:=.bool _) rfl rfl (⟨congrArg Value.bool ?_,(aj.rfl_.next E1)⟩);rw [eq_comm,decide_eq_false_iff_not];rw [aN (by omega)];rintro ⟨⟨g1,g2,g3,g4⟩,_⟩;omega
 refine af rfl (aa (ae bW rfl) (af rfl (aa (aq aM rfl (by exact (show _=some (Value.slice Sn s.sent.length Sc) from (hk1.from_ aj.rfl_).rd 17 rfl))) ?_)));refine af rfl (aa (bm bJ rfl) (af rfl (aa (ae bw rfl) (af rfl (aa (aq ar rfl (by exact (hk1.from_ aj.rfl_).rd 1 rfl)) ?_)))));refine af rfl (aa (dt rfl rfl) (aa (av (v:=.bool _) rfl rfl) (mvb rfl (wH (t:=55) rfl (fun Q5=>?_) (fun Q5=>?_)))))
 ·refine ab rfl rfl (ab rfl rfl (ab rfl rfl (ab rfl rfl (aa (ao (v:=.bool _) rfl rfl) (ak (ag (aJ rfl (an (ah (asb rfl ?_))))))))));refine ak (ag (aC (ay (bh (v:=.bool _) rfl rfl (⟨congrArg Value.bool ?_,(aj.rfl_.next E1)⟩)))));rw [eq_comm,decide_eq_false_iff_not];rw [aN (by omega)];rintro ⟨⟨g1,g2,g3,g4⟩,_⟩;omega
 refine af rfl (aa (ae bd rfl) (af rfl (aa (aq bn rfl (by exact (show _=some (Value.slice Q LL.length Qc) from (hk1.from_ aj.rfl_).rd 19 rfl))) ?_)));refine af rfl (aa (bm bI rfl) (af rfl (aa (bH rfl rfl) (aa (av (v:=.bool _) rfl rfl) (ak (ag (xD rfl (fun Q6=>?_) (fun Q6=>?_))))))))
 ·refine an (ah (asb rfl (ak (ag (aC (ay (bh (v:=.bool _) rfl rfl (⟨congrArg Value.bool ?_,(aj.rfl_.next E1)⟩))))))));rw [eq_comm,decide_eq_false_iff_not];rw [aN (by omega)];rintro ⟨⟨g1,g2,g3,g4⟩,_⟩;omega
 refine aR (ag (an (an (ah (mvi rfl (aa (bE rfl rfl (by omega)) (aa (ae bu rfl) (aa (aq aM rfl (by exact (show _=some (Value.slice X s.next.length Xc) from (hk1.from_ aj.rfl_).rd 15 rfl))) ?_))))))));refine aG da (d_ 1 (aQ s+1) X Xc s.next _ (hrd.x.1.from_ (aj.rfl_.next E1)) hl1) ?_;rintro v65 w7 ⟨rfl,rfl⟩;refine aa (cd rfl) (mvb rfl (aE (t:=67) rfl (fun Q8=>?_) (fun Q8=>?_)))
 ·with_reducible (replace Q8:=dc Q8;replace Q8:=dF_ Q8)
  (try simp only [bo,bA,and_true] at Q8)
  refine ab rfl rfl (ab rfl rfl (ab rfl rfl (ab rfl rfl (ab rfl rfl (aa (ao (v:=.bool _) rfl rfl) (mvb rfl (ab rfl rfl (ab rfl rfl ?_))))))));refine ab rfl rfl (ab rfl rfl (ab rfl rfl (ab rfl rfl (ab rfl rfl (aa (ao (v:=.bool _) rfl rfl) (ak (ag (aJ rfl (an (ah ?_))))))))));refine asb rfl (ak (ag (aC (ay (bh (v:=.bool _) rfl rfl (⟨congrArg Value.bool ?_,(aj.rfl_.next E1)⟩))))));rw [eq_comm,decide_eq_false_iff_not];rw [aN (by omega)];rintro ⟨_,⟨g1,g2,g3⟩,_⟩
  simp_all
 with_reducible (replace Q8:=dd Q8;replace Q8:=dT_ Q8)
 (try simp only [bo,bA,and_true] at Q8)
 refine af rfl (mvi rfl (af rfl (aa (ae bM rfl) (af rfl (aa (aq aM rfl (by exact (show _=some (Value.slice M s.mtch.length Mc) from (hk1.from_ aj.rfl_).rd 16 rfl))) ?_)))));refine af rfl (aG da (d_ 0 (aQ s) M Mc s.mtch _ (hrd.m.1.from_ (aj.rfl_.next E1)) hl2) ?_);rintro v71 w9 ⟨rfl,rfl⟩;refine af rfl (aa (cd rfl) (aa (av (v:=.bool _) rfl rfl) (mvb rfl (aE (t:=74) rfl (fun Q10=>?_) (fun Q10=>?_)))))
 ·with_reducible (replace Q10:=dc Q10;replace Q10:=dF_ Q10)
  (try simp only [bo,bA,and_true] at Q10)
  refine ab rfl rfl (ab rfl rfl (ab rfl rfl (ab rfl rfl (ab rfl rfl (ab rfl rfl (ab rfl rfl (aa (ao (v:=.bool _) rfl rfl) (ak (ag ?_)))))))));refine aJ rfl (an (ah (asb rfl (ak (ag (aC (ay (bh (v:=.bool _) rfl rfl (⟨congrArg Value.bool ?_,(aj.rfl_.next E1)⟩)))))))));rw [eq_comm,decide_eq_false_iff_not];rw [aN (by omega)];rintro ⟨_,⟨g1,g2,g3⟩,_⟩
  simp_all
 with_reducible (replace Q10:=dd Q10;replace Q10:=dT_ Q10)
 (try simp only [bo,bA,and_true] at Q10)
 refine af rfl (aa (ae cf rfl) (af rfl (aa (aq bD rfl (by exact (hk1.from_ aj.rfl_).rd 9 rfl)) ?_)));refine af rfl (aa (df (by kernel_rfl) rfl) (af rfl (aa (ae bW rfl) (af rfl (aa (aq aM rfl (by exact (show _=some (Value.slice Sn s.sent.length Sc) from (hk1.from_ aj.rfl_).rd 17 rfl))) ?_)))));refine af rfl (aG da (d_ 0 (s.snap.size:Nat) Sn Sc s.sent _ (hrd.n.1.from_ (aj.rfl_.next E1)) hl3) ?_);rintro v80 w11 ⟨rfl,rfl⟩;refine af rfl (aa (cd rfl) (aa (av (v:=.bool _) rfl rfl) (ak (ag (aV rfl (fun Q12=>?_) (fun Q12=>?_))))))
 ·with_reducible (replace Q12:=dc Q12;replace Q12:=dF_ Q12)
  refine an (ah (asb rfl (ak (ag (aC (ay (bh (v:=.bool _) rfl rfl (⟨congrArg Value.bool ?_,(aj.rfl_.next E1)⟩))))))));rw [eq_comm,decide_eq_false_iff_not];rw [aN (by omega)];rintro ⟨_,⟨g1,g2,g3⟩,_⟩
  simp_all
 with_reducible (replace Q12:=dd Q12;replace Q12:=dT_ Q12)
 refine aR (ag (an (an (ah (aa (ae bd rfl) (aa (aq bn rfl (by exact (show _=some (Value.slice Q LL.length Qc) from (hk1.from_ aj.rfl_).rd 19 rfl))) ?_))))));refine aa (bm bI rfl) (mvi rfl (ak (ag (bf (cz (G:=Nat) [2,5,87,88,89,90,91,92,93,94,95,96,97,98,99,100,101,102,103,104,105,106,107,108,109,110,111,112,113,114,115,116,117,118,119,120,121] (fun k=>[(86,.int .i64 (k:Nat))]) (fun k w'=>k≤LL.length∧(∀ j (h:j<LL.length),j<k→ez s LL[j].1=true)∧Blk w' b1 29 (rfV s (⟨E,Ec,V,Vc,X,Xc,M,Mc,Sn,Sc,Q,Qc,LL⟩:Ra)).toArray∧aj w w') (fun k=>LL.length-k) (0) ⟨rfl,trivial⟩ ?_ ?_)))))
 ·exact ⟨Nat.zero_le _,fun j _ h=>absurd h (by omega),hk1.from_ aj.rfl_,(aj.rfl_.next E1)⟩
 rintro k ρ13 w13 ⟨hk,h1,hk1,hB⟩;refine an (ah (aa (bG rfl rfl) (ak (ag (an (xD rfl (fun Q14=>?_) (fun Q14=>?_)))))))
 ·have hkL:k<LL.length:=by omega
  have hqm:LL[k].1∈s.reads:=by rw [←hrL];exact List.mem_map_of_mem (List.getElem_mem hkL)
  obtain ⟨ba,oa,rfl,hcs⟩:∃ b o,Q=some ⟨b,o,none⟩∧∀ i (hi:i<LL.length),w.rangeAt b (o+i*4) (rdV LL[i]):=hrd.q (by show 0<LL.length;omega);refine aR (ag (an (bf (an (ah (aa (bL dC rfl rfl (by omega)) (aa (aT (cs:=rdV LL[k]) dX cN rfl (eN hB (hcs k hkL))) (cq e_ ?_))))))));intro b5 w15 E5 hb5 hk5;have hg5:w.heap.size≤b5:=by rw [hb5];exact (hB).size
  have hk1L:=hk1.from_ (aj.rfl_.next E5);have hn5:b1≠b5:=by have:=hk1.lt;have:=((aj.rfl_.next E5)).size;omega
  refine cu (vs:=[_,_,_,_]) cN rfl rfl (by simp [Value.oneCell']) (hk5) rfl ?_;intro w16 O10 P10;replace hk1:=hk1L.only O10 hn5;refine ak (ag (an (ah (aa (ae dz rfl) (aa (aq ar rfl (by exact (show _=some (Value.int .i64 LL[k].1.id) from (P10.from_ aj.rfl_).rd 0 rfl))) ?_)))));refine eO (v:=.int _ _) cD rfl rfl rfl ?_;intro b92 w17 E92 hb92 hk92;refine aG da (d_ 1 1099511627776 (some ⟨b92,0,none⟩) 1 [LL[k].1.id] _ (fb hk92) (by simp)) ?_;rintro v93 w18 ⟨rfl,rfl⟩;refine aa (cd rfl) (mvb rfl (aE (t:=95) rfl (fun Q19=>?_) (fun Q19=>?_)))
  ·with_reducible (replace Q19:=dc Q19;replace Q19:=dF_ Q19)
   (try simp only [bo,bA,and_true] at Q19)
   refine ab rfl rfl (ab rfl rfl (ab rfl rfl (ab rfl rfl (ab rfl rfl (ab rfl rfl (ab rfl rfl (aa (ao (v:=.bool _) rfl rfl) (mvb rfl ?_))))))));refine ab rfl rfl (ab rfl rfl (ab rfl rfl (ab rfl rfl (ab rfl rfl (ab rfl rfl (ab rfl rfl (aa (ao (v:=.bool _) rfl rfl) (mvb rfl ?_))))))));refine ab rfl rfl (ab rfl rfl (ab rfl rfl (ab rfl rfl (ab rfl rfl (ab rfl rfl (aa (ao (v:=.bool _) rfl rfl) (ak (ag (aJ rfl ?_)))))))));refine an (ah (asb rfl (ak (ag (aC (aZ (ay (ay (aZ (ay (bh (v:=.bool _) rfl rfl (⟨congrArg Value.bool ?_,(((hB.next E5).only O10 (hg5)).next E92)⟩))))))))))));rw [eq_comm,decide_eq_false_iff_not];rw [aN (by omega)];rintro ⟨_,_,g⟩;have g5:=bS.1 (g _ hqm)
   first
    |omega
    |simp_all
  with_reducible (replace Q19:=dd Q19;replace Q19:=dT_ Q19)
  (try simp only [bo,bA,and_true] at Q19)
  refine af rfl (aa (ae cA rfl) (af rfl (aa (aq ar rfl (by exact (hk1.from_ (aj.rfl_.next E92)).rd 10 rfl)) ?_)));refine af rfl (aa (ae dy rfl) (af rfl (aa (aq ar rfl (by exact (show _=some (Value.int .i64 LL[k].1.ix) from (P10.from_ (aj.rfl_.next E92)).rd 1 rfl))) ?_)));refine af rfl (eO (v:=.int _ _) cD rfl rfl rfl ?_);intro b100 w20 E100 hb100 hk100;refine af rfl (aG da (d_ 0 s.commit (some ⟨b100,0,none⟩) 1 [LL[k].1.ix] _ (fb hk100) (by simp)) ?_);rintro v101 w21 ⟨rfl,rfl⟩;refine af rfl (aa (cd rfl) (aa (av (v:=.bool _) rfl rfl) (mvb rfl (aE (t:=104) rfl (fun Q22=>?_) (fun Q22=>?_)))))
  ·with_reducible (replace Q22:=dc Q22;replace Q22:=dF_ Q22)
   (try simp only [bo,bA,and_true] at Q22)
   refine ab rfl rfl (ab rfl rfl (ab rfl rfl (ab rfl rfl (ab rfl rfl (ab rfl rfl (ab rfl rfl (aa (ao (v:=.bool _) rfl rfl) (mvb rfl ?_))))))));refine ab rfl rfl (ab rfl rfl (ab rfl rfl (ab rfl rfl (ab rfl rfl (ab rfl rfl (aa (ao (v:=.bool _) rfl rfl) (ak (ag (aJ rfl ?_)))))))));refine an (ah (asb rfl (ak (ag (aC (aZ (ay (ay (aZ (ay (bh (v:=.bool _) rfl rfl (⟨congrArg Value.bool ?_,((((hB.next E5).only O10 (hg5)).next E92).next E100)⟩))))))))))));rw [eq_comm,decide_eq_false_iff_not];rw [aN (by omega)];rintro ⟨_,_,g⟩;have g5:=bS.1 (g _ hqm)
   first
    |omega
    |simp_all
  with_reducible (replace Q22:=dd Q22;replace Q22:=dT_ Q22)
  (try simp only [bo,bA,and_true] at Q22)
  refine af rfl (aa (ae cL rfl) (af rfl (aa (aq ar rfl (by exact (hk1.from_ ((aj.rfl_.next E92).next E100)).rd 18 rfl)) ?_)));refine af rfl (aa (ae dw rfl) (af rfl (aa (aq ar rfl (by exact (show _=some (Value.int .i64 LL[k].1.rn) from (P10.from_ ((aj.rfl_.next E92).next E100)).rd 2 rfl))) ?_)));refine af rfl (eO (v:=.int _ _) cD rfl rfl rfl ?_);intro b109 w23 E109 hb109 hk109;refine af rfl (aG da (d_ 0 s.round (some ⟨b109,0,none⟩) 1 [LL[k].1.rn] _ (fb hk109) (by simp)) ?_);rintro v110 w24 ⟨rfl,rfl⟩;refine af rfl (aa (cd rfl) (aa (av (v:=.bool _) rfl rfl) (mvb rfl (aE (t:=113) rfl (fun Q25=>?_) (fun Q25=>?_)))))
  ·with_reducible (replace Q25:=dc Q25;replace Q25:=dF_ Q25)
   (try simp only [bo,bA,and_true] at Q25)
   refine ab rfl rfl (ab rfl rfl (ab rfl rfl (ab rfl rfl (ab rfl rfl (ab rfl rfl (aa (ao (v:=.bool _) rfl rfl) (ak (ag (aJ rfl ?_)))))))));refine an (ah (asb rfl (ak (ag (aC (aZ (ay (ay (aZ (ay (bh (v:=.bool _) rfl rfl (⟨congrArg Value.bool ?_,(((((hB.next E5).only O10 (hg5)).next E92).next E100).next E109)⟩))))))))))));rw [eq_comm,decide_eq_false_iff_not];rw [aN (by omega)];rintro ⟨_,_,g⟩;have g5:=bS.1 (g _ hqm)
   first
    |omega
    |simp_all
  with_reducible (replace Q25:=dd Q25;replace Q25:=dT_ Q25)
  (try simp only [bo,bA,and_true] at Q25)
  refine af rfl (aa (ae c_ rfl) (af rfl (aa (aq aM rfl (by exact (show _=some (Value.slice LL[k].2.1 LL[k].1.acks.length LL[k].2.2) from (P10.from_ (((aj.rfl_.next E92).next E100).next E109)).rd 3 rfl))) ?_)));refine af rfl (aa (ae bw rfl) (af rfl (aa (aq ar rfl (by exact (hk1.from_ (((aj.rfl_.next E92).next E100).next E109)).rd 1 rfl)) ?_)));refine af rfl (aG kC (nN LL[k].2.1 LL[k].2.2 LL[k].1.acks s.nodes _ ((hrk _ (List.getElem_mem hkL)).1.from_ (((((hB.next E5).only O10 (hg5)).next E92).next E100).next E109)) (hl5 _ hqm)) ?_);rintro v118 w26 ⟨rfl,E118⟩;refine af rfl (aa (cd rfl) (aa (av (v:=.bool _) rfl rfl) (ak (ag (xB rfl (fun Q27=>?_) (fun Q27=>?_))))))
  ·refine an (ah (asb rfl (ak (ag (aC (aZ (ay (ay (aZ (ay (bh (v:=.bool _) rfl rfl (⟨congrArg Value.bool ?_,((((((hB.next E5).only O10 (hg5)).next E92).next E100).next E109).next E118)⟩))))))))))));rw [eq_comm,decide_eq_false_iff_not];rw [aN (by omega)];rintro ⟨_,_,g⟩;have g5:=bS.1 (g _ hqm)
   first
    |omega
    |simp_all
  refine aR (bN (ag (ah (aa (bE rfl rfl (by omega)) (mvi rfl (ak ?_))))));refine cK (k+1) ⟨(by first | rfl | (refine br ?_;omega)),trivial⟩ (by (iterate 78 refine bQ rfl ?_);exact b_) ⟨?_,?_⟩
  ·refine ⟨by omega,fun j h hj=>?_,hk1.from_ ((((aj.rfl_.next E92).next E100).next E109).next E118),((((((hB.next E5).only O10 (hg5)).next E92).next E100).next E109).next E118)⟩;rcases Nat.lt_or_ge j k with e | e
   ·exact h1 j h e
   ·obtain rfl:j=k:=by omega
    rw [bS];exact ⟨by omega,by omega,by omega,by first | assumption | simp_all⟩
  ·omega
 refine bZ (bg (bg (bF (ag (an (ah (asb rfl (ak (ag (aC (bh (v:=.bool _) rfl rfl (⟨congrArg Value.bool ?_,hB⟩))))))))))));rw [eq_comm,decide_eq_true_eq];rw [aN (by omega)];refine ⟨⟨by omega,by omega,by omega,by omega⟩,⟨?_,?_,?_⟩,fun q hq=>?_⟩
 ·simp_all
 ·simp_all
 ·simp_all
 ·rw [←hrL] at hq;obtain ⟨y,hy,rfl⟩:=List.mem_map.1 hq;obtain ⟨i,hi,rfl⟩:=List.getElem_of_mem hy;exact h1 i hi (by omega)
theorem aO {s:Rf}:iw s=true↔gy s∧ft s∧fp s.votes s.nodes=true∧jW s∧fJ s:=by
 constructor
 ·intro h;have F:=jZ h;have hl:=F.last;refine ⟨⟨F.n,F.i,F.ro,⟨F.vo,F.le⟩,F.te,F.el,F.ti,F.rn⟩,⟨F.lg,F.lt,F.co,F.sn,?_⟩,F.vs,?_,⟨F.pa,F.po,?_⟩⟩
  ·have:=F.sb;omega
  ·by_cases hr:s.role=2
   ·rw [aN hr];have hx:=F.nx;have hm:=F.ma;have hs:=F.se;rw [fc hr] at hx hm hs;have:=F.n;exact ⟨⟨by omega,by omega,by omega,F.rl⟩,⟨hx.2,hm.2,hs.2⟩,F.rd⟩
   ·rw [a_ hr];obtain ⟨e1,e2,e3,e4⟩:=F.free hr;rw [e1,e2,e3,e4];rfl
  ·have:=F.pp;have:=F.po;omega
 ·rintro ⟨⟨n,i,ro,⟨vo,le⟩,te,el,ti,rn⟩,⟨lg,lt,co,sn,sb⟩,vs,ls,⟨pa,po,pp⟩⟩;have hbl:=en lg
  have key:(s.next.length=fv s∧∀ x∈s.next,1≤x∧x≤aQ s+1)∧(s.mtch.length=fv s∧∀ x∈s.mtch,0≤x∧x≤aQ s)∧(s.sent.length=fv s∧∀ x∈s.sent,0≤x∧x≤(s.snap.size:Int))∧s.reads.length≤32∧(fv s≠0∨s.reads.length=0)∧∀ q∈s.reads,ez s q=true:=by
   by_cases hr:s.role=2
   ·rw [aN hr] at ls;obtain ⟨⟨l1,l2,l3,l4⟩,⟨g1,g2,g3⟩,g4⟩:=ls;rw [fc hr];exact ⟨⟨by omega,g1⟩,⟨by omega,g2⟩,⟨by omega,g3⟩,l4,.inl (by omega),g4⟩
   ·rw [a_ hr] at ls;rw [lX hr];have e1:s.next=[]:=List.eq_nil_of_length_eq_zero (by omega);have e2:s.mtch=[]:=List.eq_nil_of_length_eq_zero (by omega);have e3:s.sent=[]:=List.eq_nil_of_length_eq_zero (by omega);have e4:s.reads=[]:=List.eq_nil_of_length_eq_zero (by omega);rw [e1,e2,e3,e4];exact ⟨⟨rfl,fun x hx=>by cases hx⟩,⟨rfl,fun x hx=>by cases hx⟩,⟨rfl,fun x hx=>by cases hx⟩,by decide,.inr rfl,fun x hx=>by cases hx⟩
  obtain ⟨k1,k2,k3,k4,k5,k6⟩:=key;unfold iw ec n_;simp only [Bool.and_eq_true,Bool.or_eq_true,decide_eq_true_eq,List.all_eq_true];exact ⟨⟨⟨⟨⟨⟨⟨⟨⟨⟨⟨⟨⟨⟨⟨⟨⟨⟨⟨⟨⟨⟨⟨⟨n.1,n.2⟩,eD i⟩,eD ro⟩,eD te⟩,eD vo⟩,eD le⟩,lg⟩,sn⟩,by omega⟩,eD el⟩,eD ti⟩,eD rn⟩,vs⟩,lt⟩,eD co⟩,pa⟩,eD po⟩,by omega⟩,k1⟩,k2⟩,k3⟩,k4⟩,k5⟩,k6⟩
theorem p5 (s:Rf) (a:Ra) (w:World) (hrd:fi w s a) (hl:s.votes.length≤1000000∧s.next.length≤1000000∧s.mtch.length≤1000000∧s.sent.length≤1000000∧s.reads.length≤1000000∧∀ q∈s.reads,q.acks.length≤1000000) :
 Rt prog 95 [.agg (rfV s a).toArray] w (fun v w'=>v=.int .i64 (if iw s=true then 0 else 1)∧aj w w'):=by
 refine enter (n:=29) Tryz.func95 rfl rfl rfl (an (ah (cU (v:=.agg _) rfl ?_)));intro b1 w1 E1 hb1 hk1;refine asi rfl (ak (ag (an (an (ah (aa (aT (cs:=rfV s a) aL aD rfl ((hk1.from_ aj.rfl_).whole)) (aG o_ (lN s a _) ?_)))))));rintro v4 w2 ⟨rfl,E4⟩;refine aa (cd rfl) (mvb rfl (aE (t:=6) rfl (fun Q3=>?_) (fun Q3=>?_)))
 ·replace Q3:=dc Q3;replace Q3:=dF_ Q3;have hNn:¬ gy s:=by first | exact Q3 | simpa using Q3
  refine ab rfl rfl (ab rfl rfl (ab rfl rfl (aa (ao (v:=.bool _) rfl rfl) (mvb rfl (ab rfl rfl (ab rfl rfl (ab rfl rfl (ab rfl rfl ?_))))))));refine ab rfl rfl (ab rfl rfl (aa (ao (v:=.bool _) rfl rfl) (mvb rfl (ab rfl rfl (ab rfl rfl (ab rfl rfl (aa (ao (v:=.bool _) rfl rfl) (mvb rfl ?_))))))));refine ab rfl rfl (ab rfl rfl (ab rfl rfl (aa (ao (v:=.bool _) rfl rfl) (ak (ag (aJ rfl (an (ah (asi rfl (ak (ag (aC (ay ?_)))))))))))));refine bh (v:=.int _ _) rfl rfl (⟨br (by rw [if_neg (fun h=>by obtain ⟨g1,g2,g3,g4,g5⟩:=aO.1 h;first | exact hNn g1 | exact hLn g2 | exact hVn g3 | exact hSn g4 | exact hPn g5)]),((aj.rfl_.next E1).next E4)⟩)
 replace Q3:=dd Q3;replace Q3:=dT_ Q3;have hN:gy s:=by first | exact Q3 | simpa using Q3
 refine af rfl (aa (aT (cs:=rfV s a) aL aD rfl ((hk1.from_ (aj.rfl_.next E4)).whole)) (af rfl (aG o8 (pj s a _ (hrd.e.from_ ((aj.rfl_.next E1).next E4))) ?_)));rintro v8 w4 ⟨rfl,E8⟩;refine af rfl (aa (cd rfl) (aa (av (v:=.bool _) rfl rfl) (mvb rfl (aE (t:=11) rfl (fun Q5=>?_) (fun Q5=>?_)))))
 ·replace Q5:=dc Q5;replace Q5:=dF_ Q5;have hLn:¬ ft s:=by first | exact Q5 | simpa using Q5
  refine ab rfl rfl (ab rfl rfl (ab rfl rfl (ab rfl rfl (ab rfl rfl (ab rfl rfl (aa (ao (v:=.bool _) rfl rfl) (mvb rfl (ab rfl rfl ?_))))))));refine ab rfl rfl (ab rfl rfl (aa (ao (v:=.bool _) rfl rfl) (mvb rfl (ab rfl rfl (ab rfl rfl (ab rfl rfl (aa (ao (v:=.bool _) rfl rfl) (ak (ag ?_)))))))));refine aJ rfl (an (ah (asi rfl (ak (ag (aC (ay (bh (v:=.int _ _) rfl rfl (⟨br (by rw [if_neg (fun h=>by obtain ⟨g1,g2,g3,g4,g5⟩:=aO.1 h;first | exact hNn g1 | exact hLn g2 | exact hVn g3 | exact hSn g4 | exact hPn g5)]),(((aj.rfl_.next E1).next E4).next E8)⟩)))))))))
 replace Q5:=dd Q5;replace Q5:=dT_ Q5;have hL:ft s:=by first | exact Q5 | simpa using Q5
 refine af rfl (aa (ae cP rfl) (af rfl (aa (aq aM rfl (by exact (show _=some (Value.slice a.V s.votes.length a.Vc) from (hk1.from_ ((aj.rfl_.next E4).next E8)).rd 14 rfl))) ?_)));refine af rfl (aa (ae bw rfl) (af rfl (aa (aq ar rfl (by exact (hk1.from_ ((aj.rfl_.next E4).next E8)).rd 1 rfl)) ?_)));refine af rfl (aG kC (nN a.V a.Vc s.votes s.nodes _ (hrd.v.1.from_ (((aj.rfl_.next E1).next E4).next E8)) hl.1) ?_);rintro v16 w6 ⟨rfl,E16⟩;refine af rfl (aa (cd rfl) (aa (av (v:=.bool _) rfl rfl) (mvb rfl (wI (t:=19) rfl (fun Q7=>?_) (fun Q7=>?_)))))
 ·have hVn:¬ fp s.votes s.nodes=true:=by first | exact Q7 | simpa using Q7
  refine ab rfl rfl (ab rfl rfl (ab rfl rfl (aa (ao (v:=.bool _) rfl rfl) (mvb rfl (ab rfl rfl (ab rfl rfl (ab rfl rfl (aa (ao (v:=.bool _) rfl rfl) ?_))))))));refine ak (ag (aJ rfl (an (ah (asi rfl (ak (ag (aC (ay (bh (v:=.int _ _) rfl rfl (⟨br (by rw [if_neg (fun h=>by obtain ⟨g1,g2,g3,g4,g5⟩:=aO.1 h;first | exact hNn g1 | exact hLn g2 | exact hVn g3 | exact hSn g4 | exact hPn g5)]),((((aj.rfl_.next E1).next E4).next E8).next E16)⟩)))))))))))
 have hV:fp s.votes s.nodes=true:=by first | exact Q7 | simpa using Q7
 refine af rfl (aa (aT (cs:=rfV s a) aL aD rfl ((hk1.from_ (((aj.rfl_.next E4).next E8).next E16)).whole)) (af rfl (aG o7 (nw s a _ (hrd.from_ ((((aj.rfl_.next E1).next E4).next E8).next E16)) hN hL hl.2) ?_)));rintro v21 w8 ⟨rfl,E21⟩;refine af rfl (aa (cd rfl) (aa (av (v:=.bool _) rfl rfl) (mvb rfl (aE (t:=24) rfl (fun Q9=>?_) (fun Q9=>?_)))))
 ·replace Q9:=dc Q9;replace Q9:=dF_ Q9;have hSn:¬ jW s:=by first | exact Q9 | simpa using Q9
  refine ab rfl rfl (ab rfl rfl (ab rfl rfl (aa (ao (v:=.bool _) rfl rfl) (ak (ag (aJ rfl (an (ah (asi rfl (ak (ag (aC (ay ?_)))))))))))));refine bh (v:=.int _ _) rfl rfl (⟨br (by rw [if_neg (fun h=>by obtain ⟨g1,g2,g3,g4,g5⟩:=aO.1 h;first | exact hNn g1 | exact hLn g2 | exact hVn g3 | exact hSn g4 | exact hPn g5)]),(((((aj.rfl_.next E1).next E4).next E8).next E16).next E21)⟩)
 replace Q9:=dd Q9;replace Q9:=dT_ Q9;have hS:jW s:=by first | exact Q9 | simpa using Q9
 refine af rfl (aa (aT (cs:=rfV s a) aL aD rfl ((hk1.from_ ((((aj.rfl_.next E4).next E8).next E16).next E21)).whole)) (af rfl (aG o6 (ow s a _) ?_)));rintro v26 w10 ⟨rfl,E26⟩;refine af rfl (aa (cd rfl) (aa (av (v:=.bool _) rfl rfl) (ak (ag (aV rfl (fun Q11=>?_) (fun Q11=>?_))))))
 ·replace Q11:=dc Q11;replace Q11:=dF_ Q11;have hPn:¬ fJ s:=by first | exact Q11 | simpa using Q11
  refine an (ah (asi rfl (ak (ag (aC (ay (bh (v:=.int _ _) rfl rfl (⟨br (by rw [if_neg (fun h=>by obtain ⟨g1,g2,g3,g4,g5⟩:=aO.1 h;first | exact hNn g1 | exact hLn g2 | exact hVn g3 | exact hSn g4 | exact hPn g5)]),((((((aj.rfl_.next E1).next E4).next E8).next E16).next E21).next E26)⟩))))))))
 replace Q11:=dd Q11;replace Q11:=dT_ Q11;have hP:fJ s:=by first | exact Q11 | simpa using Q11
 refine aR (ag (an (ah (asi rfl (ak (ag (aC (bh (v:=.int _ _) rfl rfl (⟨br (by rw [if_pos (aO.2 ⟨hN,hL,hV,hS,hP⟩)]),((((((aj.rfl_.next E1).next E4).next E8).next E16).next E21).next E26)⟩)))))))))
theorem qm:prog.underlying 26=some (.slice 3):=by kernel_rfl
theorem ig:iX prog 27=some (54,4,48,(.agg #[.int .i64 0,.int .i64 0,.int .i64 0,.slice none 0 0])):=by kernel_rfl
theorem ql:prog.underlying 27=some (.slice 54):=by kernel_rfl
theorem qo:gV prog 91=some true:=by kernel_rfl
theorem jC:dL prog 91=some 22:=by kernel_rfl
theorem lK:jQ prog 91=some (.agg #[.int .i64 0,.int .i64 0,.int .i64 0,.int .i64 0,.int .i64 0,.int .i64 0,.int .i64 0,.int .i64 0,.slice none 0 0,.string ⟨#[]⟩,.int .i64 0,.int .i64 0,.int .i64 0,.int .u64 0,.slice none 0 0,.slice none 0 0,.slice none 0 0,.slice none 0 0,.int .i64 0,.slice none 0 0,.string ⟨#[]⟩,.int .i64 0]):=by kernel_rfl
theorem pc:aY prog 120=true:=by kernel_rfl
theorem lJ:dL prog 22=some 1:=by kernel_rfl
theorem fB:aY prog 136=true:=by kernel_rfl
theorem pb:aY prog 137=true:=by kernel_rfl
theorem nD:∀ (a0:Int) (a1:Int) (a2:Int) (a3:Int) (a4:Int) (a5:Int) (a6:Int) (a7:Int) (a8:Option Addr) (a9 a10:Nat) (a11:ByteArray) (a12:Int) (a13:Int) (a14:Int) (a15:Int) (a16:Option Addr) (a17 a18:Nat) (a19:Option Addr) (a20 a21:Nat) (a22:Option Addr) (a23 a24:Nat) (a25:Option Addr) (a26 a27:Nat) (a28:Int) (a29:Option Addr) (a30 a31:Nat) (a32:ByteArray) (a33:Int),prog.built 91 [(0,.agg #[.int .i64 a0,.int .i64 a1,.int .i64 a2,.int .i64 a3,.int .i64 a4,.int .i64 a5,.int .i64 a6,.int .i64 a7,.slice a8 a9 a10,.string a11,.int .i64 a12,.int .i64 a13,.int .i64 a14,.int .u64 a15,.slice a16 a17 a18,.slice a19 a20 a21,.slice a22 a23 a24,.slice a25 a26 a27,.int .i64 a28,.slice a29 a30 a31,.string a32,.int .i64 a33])]=some #[.int .i64 a0,.int .i64 a1,.int .i64 a2,.int .i64 a3,.int .i64 a4,.int .i64 a5,.int .i64 a6,.int .i64 a7,.slice a8 a9 a10,.string a11,.int .i64 a12,.int .i64 a13,.int .i64 a14,.int .u64 a15,.slice a16 a17 a18,.slice a19 a20 a21,.slice a22 a23 a24,.slice a25 a26 a27,.int .i64 a28,.slice a29 a30 a31,.string a32,.int .i64 a33]:=by intros;kernel_rfl
theorem lL:aY prog 95=true:=by kernel_rfl
theorem qn:aY prog 96=true:=by kernel_rfl
theorem nC:∀ (a0:Int) (a1:Int) (a2:Int) (a3:Int) (a4:Int) (a5:Int) (a6:Int) (a7:Int) (a8:Option Addr) (a9 a10:Nat) (a11:ByteArray) (a12:Int) (a13:Int) (a14:Int) (a15:Int) (a16:Option Addr) (a17 a18:Nat) (a19:Option Addr) (a20 a21:Nat) (a22:Option Addr) (a23 a24:Nat) (a25:Option Addr) (a26 a27:Nat) (a28:Int) (a29:Option Addr) (a30 a31:Nat) (a32:ByteArray) (a33:Int),prog.built 96 [(0,.agg #[.int .i64 a0,.int .i64 a1,.int .i64 a2,.int .i64 a3,.int .i64 a4,.int .i64 a5,.int .i64 a6,.int .i64 a7,.slice a8 a9 a10,.string a11,.int .i64 a12,.int .i64 a13,.int .i64 a14,.int .u64 a15,.slice a16 a17 a18,.slice a19 a20 a21,.slice a22 a23 a24,.slice a25 a26 a27,.int .i64 a28,.slice a29 a30 a31,.string a32,.int .i64 a33])]=some #[.int .i64 a0,.int .i64 a1,.int .i64 a2,.int .i64 a3,.int .i64 a4,.int .i64 a5,.int .i64 a6,.int .i64 a7,.slice a8 a9 a10,.string a11,.int .i64 a12,.int .i64 a13,.int .i64 a14,.int .u64 a15,.slice a16 a17 a18,.slice a19 a20 a21,.slice a22 a23 a24,.slice a25 a26 a27,.int .i64 a28,.slice a29 a30 a31,.string a32,.int .i64 a33,.slice none 0 0]:=by intros;kernel_rfl
theorem dV (A:Option Addr) (c n:Nat) (xs:List Value) (w:World) (hx:xs.length=n*1) (hr:0<n→∃ b o,A=some ⟨b,o,none⟩∧w.rangeAt b o xs) (hn0:A=none→n=0∧c=0) (h1:∀ u∈xs,u.oneCell'=true) (hl:n≤100000000000) :
 Rt prog 136 [.slice A n c] w (fun v w'=>(∃ A' c',v=.slice A' n c'∧w'.ownsRow w.heap.size 3 1 (.slice A' n c') n xs)∧aj w w'):=by
 refine enter (n:=8) Tryz.func136 rfl rfl rfl (an (ah (ass rfl (ak (ag (an (an (ah (mvs rfl (aa (my qm rfl rfl) (ak (ag (aV rfl (fun Q1=>?_) (fun Q1=>?_))))))))))))))
 ·(try first | (replace Q1 := dc Q1; trace "@MK N dV:c4+ 1.1") | (replace Q1 := dd Q1; trace "@MK N dV:c4+ 1.2"))
  (try first | (replace Q1 := ij Q1; trace "@MK N dV:c4+ 2.1") | (replace Q1 := ik Q1; trace "@MK N dV:c4+ 2.2") | (replace Q1 := fD Q1; trace "@MK N dV:c4+ 2.3") | (replace Q1 := fE Q1; trace "@MK N dV:c4+ 2.4") | (replace Q1 := dT_ Q1; trace "@MK N dV:c4+ 2.5") | (replace Q1 := dF_ Q1; trace "@MK N dV:c4+ 2.6"))
  obtain rfl:A=none:=Option.isNone_iff_eq_none.1 Q1;obtain ⟨rfl,rfl⟩:=hn0 rfl;obtain rfl:xs=[]:=List.eq_nil_of_length_eq_zero (by omega);refine an (ah (ass rfl (ak (ag (aC (ay (bh (v:=.slice _ _ _) rfl rfl (⟨⟨none,0,rfl,World.ownsRow_nil _ _ _ _⟩,aj.rfl_⟩))))))))
 (try first | (replace Q1 := dc Q1; trace "@MK N dV:c4- 1.1") | (replace Q1 := dd Q1; trace "@MK N dV:c4- 1.2"))
 (try first | (replace Q1 := ij Q1; trace "@MK N dV:c4- 2.1") | (replace Q1 := ik Q1; trace "@MK N dV:c4- 2.2") | (replace Q1 := fD Q1; trace "@MK N dV:c4- 2.3") | (replace Q1 := fE Q1; trace "@MK N dV:c4- 2.4") | (replace Q1 := dT_ Q1; trace "@MK N dV:c4- 2.5") | (replace Q1 := dF_ Q1; trace "@MK N dV:c4- 2.6"))
 have hA4:A=none→c=0:=fun h=>by rw [h] at Q1;cases Q1
 refine aR (ag (an (ah (rR cD _ (aj.rfl_.size) ?_))));intro b5 w2 E5 hb5 ho5;refine mvs rfl ?_;refine kK (a0:=w) cD rfl (by decide) rfl ho5 (aj.rfl_.next E5) rfl hx (fun h=>(let ⟨b,o,hA,hc⟩:=hr h;⟨b,o,hA,eN (aj.rfl_.next E5) hc⟩)) hA4 h1 (by omega) (by omega) ?_;intro A7 c7 w3 ho7 B7 hg7;refine ass rfl (ak (ag (aC (bh (v:=.slice _ _ _) rfl rfl (⟨⟨A7,c7,by rw [Nat.zero_add],by simpa using ho7⟩,B7⟩)))))
theorem dU (A:Option Addr) (c n:Nat) (xs:List Value) (w:World) (hx:xs.length=n*4) (hr:0<n→∃ b o,A=some ⟨b,o,none⟩∧w.rangeAt b o xs) (hn0:A=none→n=0∧c=0) (h1:∀ u∈xs,u.oneCell'=true) (hl:n≤100000000000) :
 Rt prog 137 [.slice A n c] w (fun v w'=>(∃ A' c',v=.slice A' n c'∧w'.ownsRow w.heap.size 54 4 (.slice A' n c') n xs)∧aj w w'):=by
 refine enter (n:=8) Tryz.func137 rfl rfl rfl (an (ah (ass rfl (ak (ag (an (an (ah (mvs rfl (aa (my ql rfl rfl) (ak (ag (aV rfl (fun Q1=>?_) (fun Q1=>?_))))))))))))))
 ·(try first | (replace Q1 := dc Q1; trace "@MK N dU:c4+ 1.1") | (replace Q1 := dd Q1; trace "@MK N dU:c4+ 1.2"))
  (try first | (replace Q1 := ij Q1; trace "@MK N dU:c4+ 2.1") | (replace Q1 := ik Q1; trace "@MK N dU:c4+ 2.2") | (replace Q1 := fD Q1; trace "@MK N dU:c4+ 2.3") | (replace Q1 := fE Q1; trace "@MK N dU:c4+ 2.4") | (replace Q1 := dT_ Q1; trace "@MK N dU:c4+ 2.5") | (replace Q1 := dF_ Q1; trace "@MK N dU:c4+ 2.6"))
  obtain rfl:A=none:=Option.isNone_iff_eq_none.1 Q1;obtain ⟨rfl,rfl⟩:=hn0 rfl;obtain rfl:xs=[]:=List.eq_nil_of_length_eq_zero (by omega);refine an (ah (ass rfl (ak (ag (aC (ay (bh (v:=.slice _ _ _) rfl rfl (⟨⟨none,0,rfl,World.ownsRow_nil _ _ _ _⟩,aj.rfl_⟩))))))))
 (try first | (replace Q1 := dc Q1; trace "@MK N dU:c4- 1.1") | (replace Q1 := dd Q1; trace "@MK N dU:c4- 1.2"))
 (try first | (replace Q1 := ij Q1; trace "@MK N dU:c4- 2.1") | (replace Q1 := ik Q1; trace "@MK N dU:c4- 2.2") | (replace Q1 := fD Q1; trace "@MK N dU:c4- 2.3") | (replace Q1 := fE Q1; trace "@MK N dU:c4- 2.4") | (replace Q1 := dT_ Q1; trace "@MK N dU:c4- 2.5") | (replace Q1 := dF_ Q1; trace "@MK N dU:c4- 2.6"))
 have hA4:A=none→c=0:=fun h=>by rw [h] at Q1;cases Q1
 refine aR (ag (an (ah (rR ig _ (aj.rfl_.size) ?_))));intro b5 w2 E5 hb5 ho5;refine mvs rfl ?_;refine kK (a0:=w) ig rfl (by decide) rfl ho5 (aj.rfl_.next E5) rfl hx (fun h=>(let ⟨b,o,hA,hc⟩:=hr h;⟨b,o,hA,eN (aj.rfl_.next E5) hc⟩)) hA4 h1 (by omega) (by omega) ?_;intro A7 c7 w3 ho7 B7 hg7;refine ass rfl (ak (ag (aC (bh (v:=.slice _ _ _) rfl rfl (⟨⟨A7,c7,by rw [Nat.zero_add],by simpa using ho7⟩,B7⟩)))))
theorem iB (A:Option Addr) (c:Nat) (l:List Int) (w:World) (h:IR w A c l) (hl:l.length≤1000000):Rt prog 136 [.slice A l.length c] w fun v w'=>(∃ A' c',v=.slice A' l.length c'∧w'.ownsRow w.heap.size 3 1 (.slice A' l.length c') l.length (l.map iV))∧aj w w':=
 dV A c l.length (l.map iV) w (by simp) (fun h0=>by
  obtain ⟨b,o,hA,hc⟩:=h.1 h0;refine ⟨b,o,hA,fun j v hv=>?_⟩;rw [List.getElem?_map] at hv;cases hj:l[j]? with
  |none=>rw [hj] at hv;cases hv
  |some x=>
   obtain ⟨hjl,rfl⟩:=List.getElem?_eq_some_iff.1 hj;rw [hj] at hv;cases hv;exact hc j hjl) h.2.2.2 (fun u hu=>by obtain ⟨x,_,rfl⟩:=List.mem_map.1 hu;rfl) (by omega)
theorem sT (A:Option Addr) (c:Nat) (L:List (Rd×Option Addr×Nat)) (w:World) (h:f_ 4 rdV w A L) (hn:A=none→L.length=0∧c=0) (hl:L.length≤1000000):Rt prog 137 [.slice A L.length c] w fun v w'=>(∃ A' c',v=.slice A' L.length c'∧w'.ownsRow w.heap.size 54 4 (.slice A' L.length c') L.length (L.flatMap rdV))∧aj w w':=
 dU A c L.length (L.flatMap rdV) w (kv h_ L) (fun h0=>f_.flat h_ h h0) hn (uR L) (by omega)
def k7 (N O:List (Rd×Option Addr×Nat)):List (Rd×Option Addr×Nat):=N++O.drop N.length
def zS (s:Rf):Rf:={ s with es:=[],votes:=[],next:=[],mtch:=[],sent:=[],reads:=[] }
theorem gK {w w':World} {tag:Nat→Nat} {g d base e s n cc:Nat} {A:Option Addr} {xs:List Value} (hC:Chg (fun k=>k=g) w w') (hg:tag g=8) (hd:d≠8) (h:w.ownsRow base e s (.slice A n cc) n xs∧Col tag d A):w'.ownsRow base e s (.slice A n cc) n xs∧Col tag d A:=
 ⟨dY h.1 hC (fun k hk e=>hd ((h.2 k hk).symm.trans (by rw [show k=g from e];exact hg))),h.2⟩
theorem cn.chg8 {w w':World} {y g:Nat} {tag:Nat→Nat} {s:Rf} {a:Ra} (h:cn y w tag s a) (hC:Chg (fun k=>k=g) w w') (hg:tag g=8):cn y w' tag s a:=
 ⟨fun hx=>gK hC hg (by decide) (h.e hx),fun hx=>gK hC hg (by decide) (h.v hx),fun hx=>gK hC hg (by decide) (h.x hx),fun hx=>gK hC hg (by decide) (h.m hx),fun hx=>gK hC hg (by decide) (h.n hx),h.r,fun hx=>gK hC hg (by decide) (h.q hx),fun i hi hx=>gK hC hg (by omega) (h.k i hi hx)⟩
theorem nY:∀ (N O:List (Rd×Option Addr×Nat)) (x:Rd×Option Addr×Nat) (A:Option Addr) (c:Nat),((N++x::O).flatMap rdV).set (N.length*4+3) (.slice A x.1.acks.length c)=((N++(x.1,A,c)::O).flatMap rdV)
 |[],O,x,A,c=>rfl
 |y::N,O,x,A,c=>by
  have ih:=nY N O x A c;show (rdV y++(N++x::O).flatMap rdV).set ((N.length+1)*4+3) _=rdV y++(N++(x.1,A,c)::O).flatMap rdV;rw [List.set_append_right _ _ (by rw [h_];omega),h_,show (N.length+1)*4+3-4=N.length*4+3 by omega,ih]
theorem uY {N O:List (Rd×Option Addr×Nat)} (h:N.length<O.length):k7 N O=N++O[N.length]::O.drop (N.length+1):=by
 unfold k7;rw [List.drop_eq_getElem_cons h]
theorem tL {N O:List (Rd×Option Addr×Nat)} (h:N.length<O.length) (A:Option Addr) (c:Nat):((k7 N O).flatMap rdV).set (N.length*4+3) (.slice A O[N.length].1.acks.length c)=(k7 (N++[(O[N.length].1,A,c)]) O).flatMap rdV:=by
 rw [uY h,nY];unfold k7;rw [List.length_append,List.length_singleton,List.append_assoc];rfl
theorem tM {N O:List (Rd×Option Addr×Nat)} (h:N.length=O.length):k7 N O=N:=by unfold k7;rw [h,List.drop_length,List.append_nil]
theorem mK {N O:List (Rd×Option Addr×Nat)} (h:N.length≤O.length):(k7 N O).length=O.length:=by unfold k7;rw [List.length_append,List.length_drop];omega
theorem sS (s:Rf) (a:Ra) (w:World) (hrd:fi w s a) (hl:s.votes.length≤1000000∧s.next.length≤1000000∧s.mtch.length≤1000000∧s.sent.length≤1000000∧s.reads.length≤1000000∧∀ q∈s.reads,q.acks.length≤1000000) (hel:s.es.length≤1000000) :
 Rt prog 96 [.agg (rfV s a).toArray] w (fun v w'=>(∃ tag a',v=.agg (rfV s a').toArray∧bj w' tag s a'∧∀ k,k<w.heap.size→tag k=8)∧aj w w'):=by
 obtain ⟨E,Ec,V,Vc,X,Xc,M,Mc,Sn,Sc,Q,Qc,LL⟩:=a;obtain ⟨hl1,hl2,hl3,hl4,hl5,hl6⟩:=hl;have hrL:LL.map (fun q=>q.1)=s.reads:=hrd.r;have hrk:∀ q∈LL,IR w q.2.1 q.2.2 q.1.acks:=hrd.k;have hrq:f_ 4 rdV w Q LL:=hrd.q;have hqn:Q=none→LL.length=0∧Qc=0:=hrd.qc.2.2;have hLl:LL.length=s.reads.length:=by rw [←hrL,List.length_map]
 have hqm:LL.length≤1000000:=by omega
 refine enter (n:=51) Tryz.func96 rfl rfl rfl (an (ah (cU (v:=.agg _) rfl ?_)));intro b1 w1 E1 hb1 hk1;refine cq lK ?_;intro b2 w2 E2 hb2 hk2;have hg1:w.heap.size≤b1:=Nat.le_of_eq hb1.symm;have h12:b1<b2:=by have:=hk1.lt;omega
 have hg2:w.heap.size≤b2:=by omega
 have hk2z:Blk w2 b2 91 ((.agg #[.int .i64 0,.int .i64 0,.int .i64 0,.int .i64 0,.int .i64 0,.int .i64 0,.int .i64 0,.int .i64 0,.slice none 0 0,.string ⟨#[]⟩,.int .i64 0,.int .i64 0,.int .i64 0,.int .u64 0,.slice none 0 0,.slice none 0 0,.slice none 0 0,.slice none 0 0,.int .i64 0,.slice none 0 0,.string ⟨#[]⟩,.int .i64 0]):Value).cells:=hk2;have ht0:∀ k,k≤b2→(fun _:Nat=>8) k=8:=fun _ _=>rfl
 refine ak (ag (an (ah (aa (ae bk rfl) (aa (ae cE rfl) (aa (aq cG rfl (by exact (show _=some (Value.slice E s.es.length Ec) from (hk1.from_ (aj.rfl_.next E2)).rd 8 rfl))) ?_))))));have hN7:aj _ w2:=(aj.rfl_.next E2);have hk2c:=hk2z.from_ (aj.rfl_ (a:=w2));have hlt7:=hk2c.lt;have hf0:bj w2 (fun _=>8) ({ s with es:=[],votes:=[],next:=[],mtch:=[],sent:=[],reads:=[] }:Rf) a0:=bj.same bj.zero rfl rfl rfl rfl rfl rfl;refine aG pc (um E s.es.length Ec s.es _ (hrd.e.from_ ((aj.rfl_.next E1).next E2)) (by omega)) ?_;rintro v7 w3 ⟨A7,c7,rfl,ho7,E7⟩;obtain ⟨tag1,hf1,ht1⟩:∃ t,bj w3 t ({ s with es:=s.es,votes:=[],next:=[],mtch:=[],sent:=[],reads:=[] }:Rf) (⟨A7,c7,none,0,none,0,none,0,none,0,none,0,[]⟩:Ra)∧(∀ k,k≤b2→t k=8):=⟨_,cn.log (bj.but (c:=0) hf0 (aj.toChg E7)) s.b s.t rfl (ey ho7 (Nat.zero_le _)) (fun k hk=>dp (ee ho7 k hk).1),fun k hk=>(cw (by omega)).trans (ht0 k hk)⟩;refine aa (ae bk rfl) (aa (ae cE rfl) ?_);have hS1:aj _ w3:=aj.rfl_;refine cO (s':=s) (a':=(⟨A7,c7,V,Vc,X,Xc,M,Mc,Sn,Sc,Q,Qc,LL⟩:Ra)) (v:=.slice _ _ _) lJ rfl rfl rfl ((hk1.from_ ((hN7.next E7).next aj.rfl_))) (by exact ⟨by decide,rfl⟩) ?_;intro w4 O1_0 P1_0;replace hf1:=(hf1.from_ hS1).chg8 (O1_0.toChg rfl) (ht1 b1 (by omega));replace hk2z:=(hk2c.from_ (E7.next hS1)).only O1_0 (by omega);refine ak (ag (an (ah (aa (ae cP rfl) (aa (aq aM rfl (by exact (show _=some (Value.slice V s.votes.length Vc) from (P1_0.from_ aj.rfl_).rd 14 rfl))) ?_)))));have hN12:aj _ w4:=aj.rfl_;have hk2c:=hk2z.from_ aj.rfl_;have hlt12:=hk2c.lt;have hf1n:=hf1.from_ aj.rfl_;refine aG fB (iB V Vc s.votes _ (IR.from_ hrd.v ((((aj.rfl_.next E1).next E2).next E7).only O1_0 (hg1))) hl1) ?_;rintro v12 w5 ⟨⟨A12,c12,rfl,ho12⟩,E12⟩;obtain ⟨tag2,hf2,ht2⟩:∃ t,bj w5 t ({ s with es:=s.es,votes:=s.votes,next:=[],mtch:=[],sent:=[],reads:=[] }:Rf) (⟨A7,c7,A12,c12,none,0,none,0,none,0,none,0,[]⟩:Ra)∧(∀ k,k≤b2→t k=8):=⟨_,cn.votes (bj.but (c:=1) hf1n (aj.toChg E12)) rfl (ey ho12 (Nat.zero_le _)) (fun k hk=>dp (ee ho12 k hk).1),fun k hk=>(cw (by omega)).trans (ht1 k hk)⟩;refine aa (ae cP rfl) ?_;have hS2:aj _ w5:=aj.rfl_;refine cO (s':=s) (a':=(⟨A7,c7,A12,c12,X,Xc,M,Mc,Sn,Sc,Q,Qc,LL⟩:Ra)) (v:=.slice _ _ _) c6 rfl rfl rfl ((P1_0.from_ ((hN12.next E12).next aj.rfl_))) (by exact ⟨by decide,rfl⟩) ?_;intro w6 O2_0 P2_0;replace hf2:=(hf2.from_ hS2).chg8 (O2_0.toChg rfl) (ht2 b1 (by omega));replace hk2z:=(hk2c.from_ (E12.next hS2)).only O2_0 (by omega);refine ak (ag (an (ah (aa (ae bu rfl) (aa (aq aM rfl (by exact (show _=some (Value.slice X s.next.length Xc) from (P2_0.from_ aj.rfl_).rd 15 rfl))) ?_)))));have hN16:aj _ w6:=aj.rfl_;have hk2c:=hk2z.from_ aj.rfl_;have hlt16:=hk2c.lt;have hf2n:=hf2.from_ aj.rfl_;refine aG fB (iB X Xc s.next _ (IR.from_ hrd.x ((((((aj.rfl_.next E1).next E2).next E7).only O1_0 (hg1)).next E12).only O2_0 (hg1))) hl2) ?_;rintro v16 w7 ⟨⟨A16,c16,rfl,ho16⟩,E16⟩;obtain ⟨tag3,hf3,ht3⟩:∃ t,bj w7 t ({ s with es:=s.es,votes:=s.votes,next:=s.next,mtch:=[],sent:=[],reads:=[] }:Rf) (⟨A7,c7,A12,c12,A16,c16,none,0,none,0,none,0,[]⟩:Ra)∧(∀ k,k≤b2→t k=8):=⟨_,cn.next (bj.but (c:=2) hf2n (aj.toChg E16)) rfl (ey ho16 (Nat.zero_le _)) (fun k hk=>dp (ee ho16 k hk).1),fun k hk=>(cw (by omega)).trans (ht2 k hk)⟩;refine aa (ae bu rfl) ?_;have hS3:aj _ w7:=aj.rfl_;refine cO (s':=s) (a':=(⟨A7,c7,A12,c12,A16,c16,M,Mc,Sn,Sc,Q,Qc,LL⟩:Ra)) (v:=.slice _ _ _) c6 rfl rfl rfl ((P2_0.from_ ((hN16.next E16).next aj.rfl_))) (by exact ⟨by decide,rfl⟩) ?_;intro w8 O3_0 P3_0;replace hf3:=(hf3.from_ hS3).chg8 (O3_0.toChg rfl) (ht3 b1 (by omega));replace hk2z:=(hk2c.from_ (E16.next hS3)).only O3_0 (by omega);refine ak (ag (an (ah (aa (ae bM rfl) (aa (aq aM rfl (by exact (show _=some (Value.slice M s.mtch.length Mc) from (P3_0.from_ aj.rfl_).rd 16 rfl))) ?_)))));have hN20:aj _ w8:=aj.rfl_;have hk2c:=hk2z.from_ aj.rfl_;have hlt20:=hk2c.lt;have hf3n:=hf3.from_ aj.rfl_;refine aG fB (iB M Mc s.mtch _ (IR.from_ hrd.m ((((((((aj.rfl_.next E1).next E2).next E7).only O1_0 (hg1)).next E12).only O2_0 (hg1)).next E16).only O3_0 (hg1))) hl3) ?_;rintro v20 w9 ⟨⟨A20,c20,rfl,ho20⟩,E20⟩;obtain ⟨tag4,hf4,ht4⟩:∃ t,bj w9 t ({ s with es:=s.es,votes:=s.votes,next:=s.next,mtch:=s.mtch,sent:=[],reads:=[] }:Rf) (⟨A7,c7,A12,c12,A16,c16,A20,c20,none,0,none,0,[]⟩:Ra)∧(∀ k,k≤b2→t k=8):=⟨_,cn.mtch (bj.but (c:=3) hf3n (aj.toChg E20)) rfl (ey ho20 (Nat.zero_le _)) (fun k hk=>dp (ee ho20 k hk).1),fun k hk=>(cw (by omega)).trans (ht3 k hk)⟩;refine aa (ae bM rfl) ?_;have hS4:aj _ w9:=aj.rfl_;refine cO (s':=s) (a':=(⟨A7,c7,A12,c12,A16,c16,A20,c20,Sn,Sc,Q,Qc,LL⟩:Ra)) (v:=.slice _ _ _) c6 rfl rfl rfl ((P3_0.from_ ((hN20.next E20).next aj.rfl_))) (by exact ⟨by decide,rfl⟩) ?_;intro w10 O4_0 P4_0;replace hf4:=(hf4.from_ hS4).chg8 (O4_0.toChg rfl) (ht4 b1 (by omega));replace hk2z:=(hk2c.from_ (E20.next hS4)).only O4_0 (by omega);refine ak (ag (an (ah (aa (ae bW rfl) (aa (aq aM rfl (by exact (show _=some (Value.slice Sn s.sent.length Sc) from (P4_0.from_ aj.rfl_).rd 17 rfl))) ?_)))));have hN24:aj _ w10:=aj.rfl_;have hk2c:=hk2z.from_ aj.rfl_;have hlt24:=hk2c.lt;have hf4n:=hf4.from_ aj.rfl_;refine aG fB (iB Sn Sc s.sent _ (IR.from_ hrd.n ((((((((((aj.rfl_.next E1).next E2).next E7).only O1_0 (hg1)).next E12).only O2_0 (hg1)).next E16).only O3_0 (hg1)).next E20).only O4_0 (hg1))) hl4) ?_;rintro v24 w11 ⟨⟨A24,c24,rfl,ho24⟩,E24⟩;obtain ⟨tag5,hf5,ht5⟩:∃ t,bj w11 t ({ s with es:=s.es,votes:=s.votes,next:=s.next,mtch:=s.mtch,sent:=s.sent,reads:=[] }:Rf) (⟨A7,c7,A12,c12,A16,c16,A20,c20,A24,c24,none,0,[]⟩:Ra)∧(∀ k,k≤b2→t k=8):=⟨_,cn.sent (bj.but (c:=4) hf4n (aj.toChg E24)) rfl (ey ho24 (Nat.zero_le _)) (fun k hk=>dp (ee ho24 k hk).1),fun k hk=>(cw (by omega)).trans (ht4 k hk)⟩;refine aa (ae bW rfl) ?_;have hS5:aj _ w11:=aj.rfl_;refine cO (s':=s) (a':=(⟨A7,c7,A12,c12,A16,c16,A20,c20,A24,c24,Q,Qc,LL⟩:Ra)) (v:=.slice _ _ _) c6 rfl rfl rfl ((P4_0.from_ ((hN24.next E24).next aj.rfl_))) (by exact ⟨by decide,rfl⟩) ?_;intro w12 O5_0 P5_0;replace hf5:=(hf5.from_ hS5).chg8 (O5_0.toChg rfl) (ht5 b1 (by omega));replace hk2z:=(hk2c.from_ (E24.next hS5)).only O5_0 (by omega);refine ak (ag (an (ah (aa (ae bd rfl) (aa (aq bn rfl (by exact (show _=some (Value.slice Q LL.length Qc) from (P5_0.from_ aj.rfl_).rd 19 rfl))) ?_)))));have hN28:aj _ w12:=aj.rfl_;have hk2c:=hk2z.from_ aj.rfl_;have hlt28:=hk2c.lt;have hf5n:=hf5.from_ aj.rfl_;refine aG pb (sT Q Qc LL _ (hrq.from_ ((((((((((((aj.rfl_.next E1).next E2).next E7).only O1_0 (hg1)).next E12).only O2_0 (hg1)).next E16).only O3_0 (hg1)).next E20).only O4_0 (hg1)).next E24).only O5_0 (hg1))) hqn hqm) ?_;rintro v28 w13 ⟨⟨A28,c28,rfl,ho28⟩,E28⟩;obtain ⟨tag6,hg6,ht6,hc6⟩:∃ t,cn 5 w13 t ({ s with es:=s.es,votes:=s.votes,next:=s.next,mtch:=s.mtch,sent:=s.sent,reads:=[] }:Rf) (⟨A7,c7,A12,c12,A16,c16,A20,c20,A24,c24,none,0,[]⟩:Ra)∧(∀ k,k≤b2→t k=8)∧Col t 5 A28:=⟨_,bj.but (c:=5) hf5n (aj.toChg E28),fun k hk=>(cw (by omega)).trans (ht5 k hk),fun k hk=>dp (ee ho28 k hk).1⟩;refine aa (ae bd rfl) ?_;have hS6:aj _ w13:=aj.rfl_;refine cO (s':=s) (a':=(⟨A7,c7,A12,c12,A16,c16,A20,c20,A24,c24,A28,c28,LL⟩:Ra)) (v:=.slice _ _ _) iR rfl rfl rfl ((P5_0.from_ ((hN28.next E28).next aj.rfl_))) (by exact ⟨by decide,rfl⟩) ?_;intro w14 O6_0 P6_0;replace hg6:=(hg6.from_ hS6).chg8 (O6_0.toChg rfl) (ht6 b1 (by omega));have hr6:=iu (ey (base':=0) (ho28.kept_from hS6) (Nat.zero_le _)) O6_0 (fun k hk e=>by have:=hc6 k hk;rw [e,ht6 b1 (by omega)] at this;cases this);replace hk2z:=(hk2c.from_ (E28.next hS6)).only O6_0 (by omega);refine ak (ag (an (an (ah (aa (ae bd rfl) (aa (aq bn rfl (by exact (show _=some (Value.slice A28 LL.length c28) from (P6_0.from_ aj.rfl_).rd 19 rfl))) ?_))))));refine aa (bm bI rfl) (mvi rfl (ak (ag (bf (cz (G:=List (Rd×Option Addr×Nat)×(Nat→Nat)) [3,34,35,36,37,38,39,40,41,42,43,44,45,46,47,48] (fun (N,tg)=>[(33,.int .i64 (N.length:Nat))]) (fun (N,tg) w'=>N.length≤LL.length∧(∀ i (h:i<N.length) (h2:i<LL.length),N[i].1=LL[i].1)∧cn 5 w' tg ({ s with es:=s.es,votes:=s.votes,next:=s.next,mtch:=s.mtch,sent:=s.sent,reads:=[] }:Rf) (⟨A7,c7,A12,c12,A16,c16,A20,c20,A24,c24,none,0,N⟩:Ra)∧(∀ k,k≤b2→tg k=8)∧Col tg 5 A28∧w'.ownsRow 0 54 4 (.slice A28 LL.length c28) LL.length ((k7 N LL).flatMap rdV)∧Blk w' b1 29 (rfV s (⟨A7,c7,A12,c12,A16,c16,A20,c20,A24,c24,A28,c28,LL⟩:Ra)).toArray∧Blk w' b2 91 ((.agg #[.int .i64 0,.int .i64 0,.int .i64 0,.int .i64 0,.int .i64 0,.int .i64 0,.int .i64 0,.int .i64 0,.slice none 0 0,.string ⟨#[]⟩,.int .i64 0,.int .i64 0,.int .i64 0,.int .u64 0,.slice none 0 0,.slice none 0 0,.slice none 0 0,.slice none 0 0,.int .i64 0,.slice none 0 0,.string ⟨#[]⟩,.int .i64 0]):Value).cells∧aj w w') (fun (N,_)=>LL.length-N.length) (([],tag6)) ⟨rfl,trivial⟩ ?_ ?_)))))
 ·exact ⟨Nat.zero_le _,fun i h=>absurd h (Nat.not_lt_zero _),hg6.from_ aj.rfl_,ht6,hc6,hr6.kept_from aj.rfl_,P6_0.from_ aj.rfl_,hk2z.from_ aj.rfl_,((((((((((((((aj.rfl_.next E1).next E2).next E7).only O1_0 (hg1)).next E12).only O2_0 (hg1)).next E16).only O3_0 (hg1)).next E20).only O4_0 (hg1)).next E24).only O5_0 (hg1)).next E28).only O6_0 (hg1))⟩
 rintro ⟨N,tg⟩ ρ15 w15 ⟨hNl,hNe,hgN,htN,hcN,hrN,hbN,hk2N,hBN⟩;refine an (ah (aa (bG rfl rfl) (ak (ag (an (xD rfl (fun Q16=>?_) (fun Q16=>?_)))))))
 ·have hNL:N.length<LL.length:=by omega
  have hqk:LL[N.length].1∈s.reads:=by rw [←hrL];exact List.mem_map_of_mem (List.getElem_mem hNL)
  obtain ⟨g28,rfl⟩:=dP hrN (by omega);obtain ⟨z9,hz9⟩:∃ z,z=(w15).heap.size:=⟨_,rfl⟩
  have hc44:(w15).cell? ⟨g28,0+N.length*4+3,none⟩=some (.slice LL[N.length].2.1 LL[N.length].1.acks.length LL[N.length].2.2):=by
   obtain ⟨b9,o9,he9,hcs⟩:=(f_.own h_ (by decide) hrN).2 (by rw [mK hNl];omega);cases he9;have h9:=hcs N.length (by rw [mK hNl];omega)
   have hm9:(k7 N LL)[N.length]'(by rw [mK hNl];omega)=LL[N.length]:=by
    unfold k7;rw [List.getElem_append_right (Nat.le_refl _)];simp
   rw [hm9] at h9;exact h9 3 _ rfl
  have htg28:tg g28=5:=hcN g28 rfl
  have hg28:b2<g28:=by
   rcases Nat.lt_or_ge b2 g28 with e | e
   ·exact e
   ·have:=htN g28 e;omega
  refine aR (ag (an (bf (an (ah (mvi rfl (asi rfl (ak (ag ?_)))))))));apply dR 12 [(36,eqp _),(37,eqp (.slice (some ⟨g28,0,none⟩) LL.length c28)),(38,eqp _),(39,eqp _),(40,eqp (.slice (some ⟨g28,0,none⟩) LL.length c28)),(41,eqp _),(42,eqp _),(43,eqp _),(44,eqp (.slice LL[N.length].2.1 LL[N.length].1.acks.length LL[N.length].2.2)),(45,fun v w'=>∃ A' c',v=.slice A' LL[N.length].1.acks.length c'∧w'.ownsRow z9 3 1 (.slice A' LL[N.length].1.acks.length c') LL[N.length].1.acks.length (LL[N.length].1.acks.map iV)),(46,eqp _),(47,eqp _)] (by repeat first | exact ej | refine ei ?_ | refine dO ?_) (by kernel_rfl) (by kernel_rfl) ⟨au _,au _,au _,au _,au _,au _,au _,au _,au _,(fun _ _ _ hF ⟨a,b,h1,h2⟩=>⟨a,b,h1,h2.kept_from hF⟩),au _,au _,trivial⟩
  case hop=>
   constructor
   ·rintro-w18 D18;exact az (ae bd rfl) rfl
   constructor
   ·rintro-w19 D19;rintro _ rfl;exact az (aq bn rfl (by exact (show _=some (Value.slice (some ⟨g28,0,none⟩) LL.length c28) from (hbN.from_ (aj.rfl_.next D19)).rd 19 rfl))) rfl
   constructor
   ·rintro-w20 D20;exact az (aP (v:=.int _ _) rfl) rfl
   constructor
   ·rintro-w21 D21;exact az (ae bd rfl) rfl
   constructor
   ·rintro-w22 D22;rintro _ rfl;exact az (aq bn rfl (by exact (show _=some (Value.slice (some ⟨g28,0,none⟩) LL.length c28) from (hbN.from_ (aj.rfl_.next D22)).rd 19 rfl))) rfl
   constructor
   ·rintro-w23 D23;exact az (aP (v:=.int _ _) rfl) rfl
   constructor
   ·rintro-w24 D24;rintro v24_40 rfl _ rfl;exact az (bL dC rfl rfl (by omega)) rfl
   constructor
   ·rintro-w25 D25;rintro _ rfl;exact az (ae c_ rfl) rfl
   constructor
   ·rintro-w26 D26;rintro _ rfl;exact az (aq aM rfl (by exact dF (aj.rfl_.next D26) hc44)) rfl
   constructor
   ·rintro-w27 D27;rintro v27_44 rfl;refine ia fB ((iB LL[N.length].2.1 LL[N.length].2.2 LL[N.length].1.acks _ ((hrk _ (List.getElem_mem hNL)).from_ (hBN.next D27)) (hl6 _ hqk)).mono ?_);rintro v w9 ⟨⟨a,b,rfl,ho⟩,hF9⟩;exact ⟨hF9,a,b,rfl,ey ho (by rw [hz9];exact ((aj.rfl_.next D27)).size)⟩
   constructor
   ·rintro-w28 D28;rintro v28_37 rfl _ rfl;exact az (bL dC rfl rfl (by omega)) rfl
   constructor
   ·rintro-w29 D29;rintro _ rfl;exact az (ae c_ rfl) rfl
   exact trivial
  case hend=>
   intro w30 D30;rintro _ rfl v37 rfl _ rfl _ rfl v40 rfl _ rfl _ rfl _ rfl v44 rfl v45 ⟨A45,c45,rfl,ho45⟩ _ rfl _ rfl;show St ..;have hM10:aj _ w30:=(aj.rfl_.next D30);refine qB (o:=N.length*4+3) c6 (by show Value.pointer (some ⟨g28,0+N.length*4+3,none⟩)=_;rw [Nat.zero_add]) rfl rfl (hrN.kept_from (aj.rfl_.next D30)) (by omega) ?_;intro w31 O10 P10;have hlt9:=hrN.lt g28 rfl;obtain ⟨tg2,hg2n,ht2n,hc2n⟩:∃ t,cn 5 w31 t ({ s with es:=s.es,votes:=s.votes,next:=s.next,mtch:=s.mtch,sent:=s.sent,reads:=[] }:Rf) (⟨A7,c7,A12,c12,A16,c16,A20,c20,A24,c24,none,0,(N++[(LL[N.length].1,A45,c45)])⟩:Ra)∧(∀ k,k≤b2→t k=8)∧Col t 5 (some ⟨g28,0,none⟩):=⟨_,cn.five (cn.ack (q:=LL[N.length].1) (A:=A45) (c:=c45) hgN hM10 (by rw [←hz9];exact ho45)) O10 ((cw hlt9.2).trans htg28),fun k hk=>(cw (by omega)).trans (htN k hk),fun k hk=>by cases hk;exact (cw hlt9.2).trans htg28⟩
   have hr2n:(w31).ownsRow 0 54 4 (.slice (some ⟨g28,0,none⟩) LL.length c28) LL.length ((k7 (N++[(LL[N.length].1,A45,c45)]) LL).flatMap rdV):=by
    rw [←tL hNL];exact P10
   have hb2n:=(hbN.from_ hM10).only O10 (by omega);have hk2n:=(hk2N.from_ hM10).only O10 (by omega);refine ak (bN (ag (ah (aa (bE rfl rfl (by omega)) (mvi rfl (ak ?_))))));refine cK (((N++[(LL[N.length].1,A45,c45)]),tg2)) ⟨br (by rw [List.length_append,List.length_singleton];omega),trivial⟩ (by (iterate 34 refine bQ rfl ?_);exact b_) ⟨?_,?_⟩
   ·refine ⟨by rw [List.length_append,List.length_singleton];omega,fun i h h2=>?_,hg2n.from_ aj.rfl_,ht2n,hc2n,hr2n.kept_from aj.rfl_,hb2n.from_ aj.rfl_,hk2n.from_ aj.rfl_,((hBN.next D30).only O10 (by omega))⟩;rcases Nat.lt_or_ge i N.length with e | e
    ·rw [List.getElem_append_left e];exact hNe i e h2
    ·obtain rfl:i=N.length:=by rw [List.length_append,List.length_singleton] at h;omega
     simp only [List.getElem_append_right (Nat.le_refl _),Nat.sub_self,List.getElem_singleton]
   ·show LL.length-(N++[_]).length<LL.length-N.length;rw [List.length_append,List.length_singleton];omega
 refine bZ (bg (bg (bF (ag (an (ah (aa (aT (cs:=rfV s (⟨A7,c7,A12,c12,A16,c16,A20,c20,A24,c24,A28,c28,LL⟩:Ra)) aL aD rfl ((hbN.from_ aj.rfl_).whole)) (aa (cM (l:=[(0,.tmp 49)]) (nD _ _ _ _ _ _ _ _ _ _ _ _ _ _ _ _ _ _ _ _ _ _ _ _ _ _ _ _ _ _ _ _ _ _)) ?_))))))));have hM12:aj _ w15:=aj.rfl_;refine cu (vs:=[_,_,_,_,_,_,_,_,_,_,_,_,_,_,_,_,_,_,_,_,_,_]) jC rfl rfl (by simp [Value.oneCell']) ((hk2N.from_ aj.rfl_)) rfl ?_;intro w32 O12 P12;refine ak (ag (aC (tr rfl (dB (cs:=[_,_,_,_,_,_,_,_,_,_,_,_,_,_,_,_,_,_,_,_,_,_]) qo jC rfl (by exact P12.whole)) ?_)));have hNf:N.length=LL.length:=by omega
 have e9:N.map (fun q=>q.1)=s.reads:=by
  rw [←hrL];refine List.ext_getElem (by simp [hNf]) fun i h1 h2=>?_
  simp only [List.getElem_map];exact hNe i (by simpa using h1) (by simpa using h2)
 have hfin:=cn.reads hgN (A:=A28) (c:=c28) (n:=LL.length) hNf.symm (by rw [tM hNf] at hrN;exact hrN) hcN;rw [show ((⟨A7,c7,A12,c12,A16,c16,A20,c20,A24,c24,none,0,N⟩:Ra)).L=N from rfl,e9] at hfin;exact ⟨⟨tg,(⟨A7,c7,A12,c12,A16,c16,A20,c20,A24,c24,A28,c28,N⟩:Ra),(by show Value.agg (rfV s (⟨A7,c7,A12,c12,A16,c16,A20,c20,A24,c24,A28,c28,LL⟩:Ra)).toArray=Value.agg (rfV s (⟨A7,c7,A12,c12,A16,c16,A20,c20,A24,c24,A28,c28,N⟩:Ra)).toArray;unfold rfV;simp only [hNf]),cn.chg8 (cn.from_ hfin hM12) (O12.toChg rfl) (htN b2 (Nat.le_refl _)),fun k hk=>htN k (by omega)⟩,(hBN.only O12 (hg2))⟩
theorem mg {w w1 w':World} {g T:Nat} {tag:Nat→Nat} {s:Rf} {a:Ra} (hF:aj w w1) (hf:bj w1 tag s a) (ht:∀ k,k<w.heap.size→tag k=8) (hE:aj w1 w') (hg:g=w1.heap.size) (hb:Blk w' g T (rfV s a++[Value.slice none 0 0]).toArray):bt w (fun k=>k<w.heap.size) w' T g ⟨s,[]⟩:=by
 subst hg;have hz:=hF.size;refine ⟨⟨eH w1.heap.size 7 tag,a,none,0,[],⟨hb,(hf.re 7).from_ hE,⟨World.ownsRow_nil _ _ _ _,rfl,fun j hj=>absurd hj (Nat.not_lt_zero _),Col.none⟩,dp (Nat.le_refl _),fun k hk=>(cw (Nat.lt_of_lt_of_le hk hz)).trans (ht k hk)⟩⟩,fun k hk=>hk,(hF.next hE).toChg⟩
theorem uq (s:Rf) (a:Ra) (w:World) (hrd:fi w s a) (hl:s.votes.length≤1000000∧s.next.length≤1000000∧s.mtch.length≤1000000∧s.sent.length≤1000000∧s.reads.length≤1000000∧∀ q∈s.reads,q.acks.length≤1000000) (_:s.es.length≤1000000) (hm:iw s=false) :
 Rt prog 55 [.agg (rfV s a).toArray] w (fun v w'=>v=.tuple #[.pointer none,.int .i64 1]∧aj w w'):=by
 refine enter (n:=11) Tryz.func55 rfl rfl rfl (an (ah (cU (v:=.agg _) rfl ?_)));intro b1 w1 E1 hb1 hk1;refine asp rfl (asi rfl (ak (ag (an (an (ah (aa (aT (cs:=rfV s a) aL aD rfl ((hk1.from_ aj.rfl_).whole)) (aG lL (p5 s a _ (hrd.from_ (aj.rfl_.next E1)) hl) ?_))))))));rintro v5 w2 ⟨rfl,E5⟩;refine aa (dN (dt rfl rfl) (by rw [hm];rfl)) ?_;refine ak (ag (aJ rfl (an (ah (asp rfl (asi rfl (ak (ag (aC (ay (mC (v:=.pointer _) (v':=.int _ _) rfl rfl rfl (⟨rfl,((aj.rfl_.next E1).next E5)⟩))))))))))))
theorem mW (s:Rf) (a:Ra) (w:World) (hrd:fi w s a) (hl:s.votes.length≤1000000∧s.next.length≤1000000∧s.mtch.length≤1000000∧s.sent.length≤1000000∧s.reads.length≤1000000∧∀ q∈s.reads,q.acks.length≤1000000) (hel:s.es.length≤1000000) (hm:iw s=true) :
 Rt prog 55 [.agg (rfV s a).toArray] w (fun v w'=>(∃ g,v=.tuple #[.pointer (some ⟨g,0,none⟩),.int .i64 0]∧bt w (fun k=>k<w.heap.size) w' 96 g ⟨s,[]⟩)):=by
 refine enter (n:=11) Tryz.func55 rfl rfl rfl (an (ah (cU (v:=.agg _) rfl ?_)));intro b1 w1 E1 hb1 hk1;refine asp rfl (asi rfl (ak (ag (an (an (ah (aa (aT (cs:=rfV s a) aL aD rfl ((hk1.from_ aj.rfl_).whole)) (aG lL (p5 s a _ (hrd.from_ (aj.rfl_.next E1)) hl) ?_))))))));rintro v5 w2 ⟨rfl,E5⟩;refine aa (fh (dt rfl rfl) (by rw [hm];rfl)) ?_;refine ak (ag (ck rfl (aR (ag (an (ah (aa (aT (cs:=rfV s a) aL aD rfl ((hk1.from_ (aj.rfl_.next E5)).whole)) ?_)))))));have hz8:=(((aj.rfl_.next E1).next E5)).size;refine aG qn (sS s a _ (hrd.from_ ((aj.rfl_.next E1).next E5)) hl hel) ?_;rintro v8 w3 ⟨⟨tag,a',rfl,hf8,ht8⟩,E8⟩;have hB8:aj w w3:=(((aj.rfl_.next E1).next E5).next E8);refine aa (cM (l:=[(0,.tmp 8)]) (nC _ _ _ _ _ _ _ _ _ _ _ _ _ _ _ _ _ _ _ _ _ _ _ _ _ _ _ _ _ _ _ _ _ _)) (cU (v:=.agg _) rfl ?_);intro b10 w4 E10 hb10 hk10;have hb10e:=hb10;have hb10:Blk w4 b10 96 (rfV s a'++[Value.slice none 0 0]).toArray:=hk10;refine asp rfl (asi rfl (ak (ag (aC (mC (v:=.pointer _) (v':=.int _ _) rfl rfl rfl (⟨b10,rfl,mg hB8 hf8 (fun k hk=>ht8 k (Nat.lt_of_lt_of_le hk hz8)) E10 hb10e hb10⟩))))))
theorem gU:aY prog 28=true:=by kernel_rfl
theorem rH:aY prog 60=true:=by kernel_rfl
theorem cJ:jQ prog 29=some (.agg #[.int .i64 0,.int .i64 0,.int .i64 0,.int .i64 0,.int .i64 0,.int .i64 0,.int .i64 0,.int .i64 0,.slice none 0 0,.string ⟨#[]⟩,.int .i64 0,.int .i64 0,.int .i64 0,.int .u64 0,.slice none 0 0,.slice none 0 0,.slice none 0 0,.slice none 0 0,.int .i64 0,.slice none 0 0,.string ⟨#[]⟩,.int .i64 0]):=by kernel_rfl
theorem rJ:aY prog 27=true:=by kernel_rfl
theorem rI:aY prog 29=true:=by kernel_rfl
theorem ve (A:Option Addr) (c:Nat) (l:List Int) (w:World) (hr:dI iV w A l) (hl:l.length*8≤140737488351232) :
 Rt prog 28 [.slice A l.length c] w (fun v w'=>∃ A' c',v=.slice A' l.length c'∧w'.ownsRow w.heap.size 3 1 v l.length (l.map iV)∧aj w w'):=by
 refine enter (n:=19) Tryz.func28 rfl rfl rfl (an (ah (ass rfl (ak (ag (an (ah (ass rfl (ak (ag (an (an (ah (asi rfl (ak (ag (bf (cz (G:=Nat×Option Addr×Nat) [5,6,7,8,9,10,11,12,13,14,15,16,17] (fun g=>[(3,.slice g.2.1 g.1 g.2.2),(4,.int .i64 (g.1:Nat))]) (fun g w'=>g.1≤l.length∧w'.ownsRow w.heap.size 3 1 (.slice g.2.1 g.1 g.2.2) g.1 ((l.take g.1).map iV)∧aj w w') (fun g=>l.length-g.1) ((0,none,0)) ⟨rfl,rfl,trivial⟩ ?_ ?_))))))))))))))))))
 ·exact ⟨Nat.zero_le _,World.ownsRow_nil _ _ _ _,aj.rfl_⟩
 rintro ⟨k,A3,c3⟩ ρ1 w1 ⟨hk,ho,hB⟩;simp only at hk ho;refine an (an (ah (mvi rfl (mvs rfl (aa (bm bJ rfl) (aa (bG rfl rfl) (ak (ag (xD rfl (fun Q2=>?_) (fun Q2=>?_))))))))))
 ·obtain ⟨ba,oa,rfl,ca⟩:=hr (by omega);refine aR (ag (an (bf (ah (mvs rfl (mvs rfl (mvi rfl (aa (cl bK rfl rfl (by omega)) (aa (aq ar rfl (by first | (exact dF hB (ca k (by omega))))) ?_)))))))));refine eO (v:=.int _ _) cD rfl rfl rfl ?_;intro b16 w3 E16 hb16 hk16;refine pt (a0:=w) cD rfl rfl (ho.kept_from E16) (hB.next E16) rfl hk16 rfl (by omega) (by omega) ?_;intro A17 c17 w4 ho17 B17 hg17;refine ass rfl (ak (bN (ag (ah (mvi rfl (aa (bE rfl rfl (by omega)) (asi rfl (ak ?_))))))));refine cK ((k+1,A17,c17)) ⟨(by first | rfl | (refine br ?_;omega)),(by first | rfl | (refine br ?_;omega)),trivial⟩ (by (iterate 30 refine bQ rfl ?_);exact b_) ⟨?_,?_⟩
  ·exact ⟨by simp only;omega,by rw [nA iV (by omega)];exact ho17,B17⟩
  ·simp only;omega
 refine bZ (bg (bg (bF (ag (an (ah (mvs rfl (ass rfl (ak (ag (aC (bh (v:=.slice _ _ _) rfl rfl ?_))))))))))));obtain rfl:k=l.length:=by omega
 exact ⟨A3,c3,rfl,by rwa [List.take_length] at ho,hB⟩
theorem jo (A:Option Addr) (c:Nat) (l:List Int) (w:World) (h:IR w A c l) (hl:l.length≤1000000):Rt prog 28 [.slice A l.length c] w fun v w'=>(∃ A' c',v=.slice A' l.length c'∧w'.ownsRow w.heap.size 3 1 (.slice A' l.length c') l.length (l.map iV))∧aj w w':=
 (ve A c l w h.1 (by omega)).mono fun v w' ⟨A',c',hv,ho,hF⟩=>⟨⟨A',c',hv,hv ▸ ho⟩,hF⟩
theorem cn.grow5 {w w':World} {tag:Nat→Nat} {s:Rf} {a:Ra} (h:cn 5 w tag s a) (hC:Chg (fun k=>tag k=5) w w'):cn 5 w' (eH w.heap.size 5 tag) s a:=
 ⟨fun _=>dQ hC (by decide) (h.e (by decide)),fun _=>dQ hC (by decide) (h.v (by decide)),fun _=>dQ hC (by decide) (h.x (by decide)),fun _=>dQ hC (by decide) (h.m (by decide)),fun _=>dQ hC (by decide) (h.n (by decide)),fun e=>absurd rfl e,fun e=>absurd rfl e,fun i hi _=>dQ hC (by omega) (h.k i hi (by omega))⟩
theorem pZ (q:Rd) (A:Option Addr) (c:Nat) (w:World) (h:IR w A c q.acks) (hl:q.acks.length≤1000000) :
 Rt prog 60 [.agg (rdV (q,A,c)).toArray] w (fun v w'=>(∃ A' c',v=.agg (rdV (q,A',c')).toArray∧w'.ownsRow w.heap.size 3 1 (.slice A' q.acks.length c') q.acks.length (q.acks.map iV))∧aj w w'):=by
 refine enter (n:=10) Tryz.func60 rfl rfl rfl (an (ah (cU (v:=.agg _) rfl ?_)));intro b1 w1 E1 hb1 hk1;refine cq e_ ?_;intro b2 w2 E2 hb2 hk2;have hg2:w.heap.size≤b2:=by rw [hb2];exact ((aj.rfl_.next E1)).size
 have h12:b1≠b2:=by have:=hk1.lt;omega
 replace hk1:=hk1.from_ E2;refine ak (ag (an (ah (aa (aT (cs:=rdV (q,A,c)) dX cN rfl ((hk1.from_ aj.rfl_).whole)) ?_))));have hM3a:aj _ w2:=aj.rfl_;have hk1p:=hk1.from_ hM3a;have hk2p:=hk2.from_ hM3a;refine cq e_ ?_;intro b3 w3 E3 hb3 hk3;have hg3:w.heap.size≤b3:=by rw [hb3];exact (((aj.rfl_.next E1).next E2)).size
 have hM3:=hM3a.next E3;replace hk1:=hk1.from_ hM3;replace hk2:=hk2.from_ hM3;have h13:b1≠b3:=fun e=>by have h9:=hk1p.lt;omega
 have h23:b2≠b3:=fun e=>by have h9:=hk2p.lt;omega
 refine cu (vs:=[_,_,_,_]) cN rfl rfl (by simp [Value.oneCell']) (hk3) rfl ?_;intro w4 O1 P1;replace hk1:=hk1.only O1 h13;replace hk2:=hk2.only O1 h23;refine ak (ag (an (ah (aa (ae c_ rfl) (aa (aq aM rfl (by exact (show _=some (Value.slice A q.acks.length c) from (hk1.from_ aj.rfl_).rd 3 rfl))) ?_)))));have hz7:=(((((aj.rfl_.next E1).next E2).next E3).only O1 (hg3))).size;refine aG gU (jo A c q.acks _ (h.from_ ((((aj.rfl_.next E1).next E2).next E3).only O1 (hg3))) hl) ?_;rintro v7 w5 ⟨⟨A7,c7,rfl,ho7⟩,E7⟩;refine aa (ae c_ rfl) ?_;have hM8:aj _ w5:=(aj.rfl_.next E7);refine je (v:=.slice _ _ _) c6 rfl rfl rfl ((P1.from_ (aj.rfl_.next E7))) (by show _<4;decide) ?_;intro w6 O2 P2;replace hk2:=(hk2.from_ hM8).only O2 h23;replace ho7:=iu ho7 O2 (oH ho7 (P1.from_ hM8) (by decide));refine ak (ag (an (ah (aa (aT (cs:=rdV (q,A7,c7)) dX cN rfl ((P2.from_ aj.rfl_).whole)) ?_))));have hM9:aj _ w6:=aj.rfl_;refine cu (vs:=[_,_,_,_]) cN rfl rfl (by simp [Value.oneCell']) ((hk2.from_ aj.rfl_)) rfl ?_;intro w7 O3 P3;replace ho7:=iu (ho7.kept_from hM9) O3 (oH (ho7.kept_from hM9) (hk2.from_ hM9) (by decide));refine ak (ag (aC (tr rfl (dB (cs:=[_,_,_,_]) dX cN rfl (by exact P3.whole)) ?_)));exact ⟨⟨A7,c7,rfl,ey ho7 hz7⟩,(((((((aj.rfl_.next E1).next E2).next E3).only O1 (hg3)).next E7).only O2 (hg3)).only O3 (hg2))⟩
theorem xR {A A':Option Addr} {n:Nat} (hL:A'.map (·.block)=A.map (·.block)∨A'.map (·.block)=some n):∀ k,A'.map (·.block)=some k→A.map (·.block)=some k∨n≤k:=fun k hk=>by
 rcases hL with e | e
 ·exact .inl (e ▸ hk)
 ·rw [e] at hk;cases hk;exact .inr (Nat.le_refl _)
theorem oS (x:Rd×Option Addr×Nat) (w:World) (h:IR w x.2.1 x.2.2 x.1.acks) (hl:x.1.acks.length≤1000000):Rt prog 60 [.agg (rdV x).toArray] w fun v w'=>(∃ A' c',v=.agg (rdV (x.1,A',c')).toArray∧w'.ownsRow w.heap.size 3 1 (.slice A' x.1.acks.length c') x.1.acks.length (x.1.acks.map iV))∧aj w w':=
 pZ x.1 x.2.1 x.2.2 w h hl
theorem oR (s:Rf) (a:Ra) (tag:Nat→Nat) (Q:Option Addr) (Qc:Nat) (LL:List (Rd×Option Addr×Nat)) (w:World) (hg:cn 5 w tag s a) (ha:a.L=[]) (hq:f_ 4 rdV w Q LL) (hk:∀ x∈LL,IR w x.2.1 x.2.2 x.1.acks) (hle:∀ x∈LL,x.1.acks.length≤1000000) (hn:LL.length≤1000000) :
 Rt prog 29 [.slice Q LL.length Qc] w (fun v w'=>(∃ tag' Q' c' N,v=.slice Q' LL.length c'∧N.map (fun q=>q.1)=LL.map (fun q=>q.1)∧cn 5 w' tag' s { a with L:=N }∧(∀ k,k<w.heap.size→tag' k=tag k)∧Col tag' 5 Q'∧w'.ownsRow 0 54 4 (.slice Q' LL.length c') LL.length (N.flatMap rdV))∧aj w w'):=by
 refine enter (n:=20) Tryz.func29 rfl rfl rfl (an (ah (ass rfl (ak (ag (an (ah (ass rfl (ak (ag (an (an (ah (asi rfl (ak (ag (bf (cz (G:=List (Rd×Option Addr×Nat)×(Nat→Nat)×Option Addr×Nat) [5,6,7,8,9,10,11,12,13,14,15,16,17,18] (fun (N,tg,A3,c3)=>[(3,.slice A3 N.length c3),(4,.int .i64 (N.length:Nat))]) (fun (N,tg,A3,c3) w'=>N.length≤LL.length∧(∀ i (h:i<N.length) (h2:i<LL.length),N[i].1=LL[i].1)∧cn 5 w' tg s { a with L:=N }∧(∀ k,k<w.heap.size→tg k=tag k)∧Col tg 5 A3∧w'.ownsRow w.heap.size 54 4 (.slice A3 N.length c3) N.length (N.flatMap rdV)∧aj w w') (fun (N,_)=>LL.length-N.length) (([],tag,none,0)) ⟨rfl,rfl,trivial⟩ ?_ ?_))))))))))))))))))
 ·exact ⟨Nat.zero_le _,fun i h=>absurd h (Nat.not_lt_zero _),(by rw [←ha];exact hg.from_ aj.rfl_),fun _ _=>rfl,Col.none,World.ownsRow_nil _ _ _ _,aj.rfl_⟩
 rintro ⟨N,tg,A3,c3⟩ ρ1 w1 ⟨hNl,hNe,hgN,htN,hcN,hrN,hBN⟩;refine an (an (ah (mvi rfl (mvs rfl (aa (bm bI rfl) (aa (bG rfl rfl) (ak (ag (xD rfl (fun Q2=>?_) (fun Q2=>?_))))))))))
 ·have hNL:N.length<LL.length:=by omega
  obtain ⟨ba,oa,rfl,hca⟩:=hq (by omega);have hkN:=hk _ (List.getElem_mem hNL);have hlN:=hle _ (List.getElem_mem hNL);refine aR (ag (an (bf (ah (mvs rfl (mvs rfl (mvi rfl (aa (iG dC rfl rfl (by omega)) (aa (aT (cs:=rdV LL[N.length]) dX cN rfl (eN hBN (hca N.length hNL))) ?_)))))))));have hgN9:=hgN.from_ aj.rfl_;have hz16:=(hBN).size;have hrN9:=hrN.kept_from aj.rfl_;refine aG rH (oS LL[N.length] _ (hkN.from_ hBN) hlN) ?_;rintro v16 w3 ⟨⟨A16,c16,rfl,ho16⟩,E16⟩;obtain ⟨t16,hg16,ht16,hc16⟩:∃ t,cn 5 w3 t s { a with L:=(N++[(LL[N.length].1,A16,c16)]) }∧(∀ k,k<w.heap.size→t k=tag k)∧Col t 5 A3:=⟨_,hgN9.ack E16 (q:=LL[N.length].1) ho16,fun k hk=>(cw (Nat.lt_of_lt_of_le hk hz16)).trans (htN k hk),hcN.re (fun k hk=>(ee hrN9 k hk).2)⟩;refine kJ (l:=[(0,.tmp 16)]) (cells:=(rdV (LL[N.length].1,A16,c16)).toArray) ig rfl rfl (by show Instr.fill _ _ [(0,Value.agg (rdV (LL[N.length].1,A16,c16)).toArray)]=_;kernel_rfl) ?_;intro b17 w4 E17 hb17 hk17;have hM18:aj _ w4:=((aj.rfl_.next E16).next E17);have hB18:aj w w4:=((hBN.next E16).next E17);have hM18:aj _ w4:=((aj.rfl_.next E16).next E17);have hB18:aj w w4:=((hBN.next E16).next E17);have hr18:=hrN.kept_from hM18;refine qC (news:=rdV (LL[N.length].1,A16,c16)) ig rfl (by decide) rfl hr18 hB18.size rfl rfl ⟨b17,0,rfl,hk17.whole⟩ (by simp [rdV,Value.oneCell']) (by omega) (by omega) ?_;intro A18 c18 w5 ho18 hgr18 hL18;obtain ⟨t18,hg18,ht18,hc18⟩:∃ t,cn 5 w5 t s { a with L:=(N++[(LL[N.length].1,A16,c16)]) }∧(∀ k,k<w.heap.size→t k=tag k)∧Col t 5 A18:=⟨_,(hg16.from_ (aj.rfl_.next E17)).grow5 (Chg.of_grown hgr18 (fun q hq=>hc16 q hq)),fun k hk=>(cw (Nat.lt_of_lt_of_le hk hB18.size)).trans (ht16 k hk),hc16.new (fun k hk=>(ee hr18 k hk).2) (xR hL18)⟩;have hF18:aj w w5:=hB18.grew hgr18 (fun k hk=>(ee hr18 k hk).1);refine ass rfl (ak (bN (ag (ah (mvi rfl (aa (bE rfl rfl (by omega)) (asi rfl (ak ?_))))))));refine cK (((N++[(LL[N.length].1,A16,c16)]),t18,A18,c18)) ⟨(show Value.slice A18 (N.length+1) c18=Value.slice A18 (N++[(LL[N.length].1,A16,c16)]).length c18 by rw [List.length_append];rfl),br (by rw [List.length_append,List.length_singleton];omega),trivial⟩ (by (iterate 32 refine bQ rfl ?_);exact b_) ⟨?_,?_⟩
  ·have e18:(N++[(LL[N.length].1,A16,c16)]).length=N.length+1:=by rw [List.length_append];rfl
   refine ⟨by omega,fun i h h2=>?_,hg18.from_ aj.rfl_,ht18,hc18,?_,hF18⟩
   ·rcases Nat.lt_or_ge i N.length with e | e
    ·rw [List.getElem_append_left e];exact hNe i e h2
    ·obtain rfl:i=N.length:=by omega
     simp only [List.getElem_append_right (Nat.le_refl _),Nat.sub_self,List.getElem_singleton]
   ·have h9:=ho18.kept_from aj.rfl_;show World.ownsRow _ _ _ _ (.slice A18 (N++[(LL[N.length].1,A16,c16)]).length c18) (N++[(LL[N.length].1,A16,c16)]).length ((N++[(LL[N.length].1,A16,c16)]).flatMap rdV);rw [e18,List.flatMap_append,show [(LL[N.length].1,A16,c16)].flatMap rdV=rdV (LL[N.length].1,A16,c16) from List.append_nil _];exact h9
  ·show LL.length-(N++[_]).length<LL.length-N.length;rw [List.length_append,List.length_singleton];omega
 refine bZ (bg (bg (bF (ag (an (ah (mvs rfl (ass rfl (ak (ag (aC (bh (v:=.slice _ _ _) rfl rfl ?_))))))))))));have hNf:N.length=LL.length:=by omega
 rw [hNf] at hrN;refine ⟨⟨tg,A3,c3,N,by rw [hNf],?_,hgN.from_ aj.rfl_,htN,hcN,ey (hrN.kept_from aj.rfl_) (Nat.zero_le _)⟩,hBN⟩;refine List.ext_getElem (by simp [hNf]) fun i h1 h2=>?_
 simp only [List.getElem_map];exact hNe i (by simpa using h1) (by simpa using h2)
theorem fY (s:Rf) (a:Ra) (w:World) (hrd:fi w s a) (hl:s.votes.length≤1000000∧s.next.length≤1000000∧s.mtch.length≤1000000∧s.sent.length≤1000000∧s.reads.length≤1000000∧∀ q∈s.reads,q.acks.length≤1000000) (hel:s.es.length≤1000000) :
 Rt prog 16 [.agg (rfV s a).toArray] w (fun v w'=>(∃ tag a',v=.agg (rfV s a').toArray∧bj w' tag s a'∧∀ k,k<w.heap.size→tag k=8)∧aj w w'):=by
 obtain ⟨E,Ec,V,Vc,X,Xc,M,Mc,Sn,Sc,Q,Qc,LL⟩:=a;obtain ⟨hl1,hl2,hl3,hl4,hl5,hl6⟩:=hl;have hrL:LL.map (fun q=>q.1)=s.reads:=hrd.r;have hrk:∀ q∈LL,IR w q.2.1 q.2.2 q.1.acks:=hrd.k;have hrq:f_ 4 rdV w Q LL:=hrd.q;have hLl:LL.length=s.reads.length:=by rw [←hrL,List.length_map]
 have hqm:LL.length≤1000000:=by omega
 refine enter (n:=30) Tryz.func16 rfl rfl rfl (an (ah (cU (v:=.agg _) rfl ?_)));intro b1 w1 E1 hb1 hk1;refine cq cJ ?_;intro b2 w2 E2 hb2 hk2;have hg2:w.heap.size≤b2:=by rw [hb2];exact ((aj.rfl_.next E1)).size
 have hlt1:=hk1.lt;replace hk1:=hk1.from_ E2;refine ak (ag (an (ah (aa (aT (cs:=rfV s (⟨E,Ec,V,Vc,X,Xc,M,Mc,Sn,Sc,Q,Qc,LL⟩:Ra)) aL aD rfl (hk1.whole)) (cq cJ ?_)))));intro b3 w3 E3 hb3 hk3;have hg3:w.heap.size≤b3:=by rw [hb3];exact (((aj.rfl_.next E1).next E2)).size
 have hlt2:=hk2.lt;have hlt1b:=hk1.lt;replace hk1:=hk1.from_ E3;replace hk2:=hk2.from_ E3;have h13:b1≠b3:=by omega
 have h23:b2≠b3:=by omega
 have ht0:∀ k,k≤b3→(fun _:Nat=>8) k=8:=fun _ _=>rfl
 refine cu (vs:=[_,_,_,_,_,_,_,_,_,_,_,_,_,_,_,_,_,_,_,_,_,_]) aD rfl rfl (by simp [Value.oneCell']) (hk3) rfl ?_;intro w4 O1 P1;replace hk1:=hk1.only O1 h13;replace hk2:=hk2.only O1 h23;have hx1:Blk w4 b3 29 (rfV s (⟨E,Ec,V,Vc,X,Xc,M,Mc,Sn,Sc,Q,Qc,LL⟩:Ra)++[]).toArray:=P1;refine ak (ag (an (ah (aa (ae bk rfl) (aa (aT (cs:=[.int .i64 s.b,.int .i64 s.t,.slice E s.es.length Ec]) cZ cI rfl (jh (show Blk _ b1 29 (rfV s (⟨E,Ec,V,Vc,X,Xc,M,Mc,Sn,Sc,Q,Qc,LL⟩:Ra)++[]).toArray from hk1.from_ aj.rfl_))) ?_)))));have hN7:aj _ w4:=aj.rfl_;have hx1n:=hx1.from_ hN7;have hlt7:=hx1n.lt;replace hk1:=hk1.from_ aj.rfl_;replace hk2:=hk2.from_ aj.rfl_;have hf0n:bj w4 (fun _=>8) ({ s with es:=[],votes:=[],next:=[],mtch:=[],sent:=[],reads:=[] }:Rf) a0:=bj.same bj.zero rfl rfl rfl rfl rfl rfl;refine aG rJ (rf s.b s.t E s.es.length Ec s.es _ (hrd.e.from_ ((((aj.rfl_.next E1).next E2).next E3).only O1 (hg3))) (by omega)) ?_;rintro v7 w5 ⟨A7,c7,rfl,ho7,_,E7⟩;obtain ⟨tag1,hf1,ht1⟩:∃ t,bj w5 t ({ s with es:=s.es,votes:=[],next:=[],mtch:=[],sent:=[],reads:=[] }:Rf) (⟨A7,c7,none,0,none,0,none,0,none,0,none,0,[]⟩:Ra)∧(∀ k,k≤b3→t k=8):=⟨_,cn.log (bj.but (c:=0) hf0n (aj.toChg E7)) s.b s.t rfl (ey ho7 (Nat.zero_le _)) (fun k hk=>dp (ee ho7 k hk).1),fun k hk=>(cw (by omega)).trans (ht0 k hk)⟩;replace hx1n:=hx1n.from_ E7;replace hk1:=hk1.from_ E7;replace hk2:=hk2.from_ E7;refine aa (ae bk rfl) ?_;have hS1:aj _ w5:=aj.rfl_;have hB1:aj w w5:=(((((aj.rfl_.next E1).next E2).next E3).only O1 (hg3)).next E7);refine nH (s:=s) (a:=(⟨E,Ec,V,Vc,X,Xc,M,Mc,Sn,Sc,Q,Qc,LL⟩:Ra)) (R:=[]) (b:=s.b) (t9:=s.t) (es:=s.es) rfl cI rfl rfl (hx1n.from_ hS1) ?_;intro w6 O1_0 P1_0;have hx2:Blk w6 b3 29 (rfV s (⟨A7,c7,V,Vc,X,Xc,M,Mc,Sn,Sc,Q,Qc,LL⟩:Ra)++[]).toArray:=P1_0;replace hf1:=(hf1.from_ hS1).chg8 (O1_0.toChg rfl) (ht1 b3 (Nat.le_refl _));replace hk1:=(hk1.from_ hS1).only O1_0 h13;replace hk2:=(hk2.from_ hS1).only O1_0 h23;refine ak (ag (an (ah (aa (ae cP rfl) (aa (aq aM rfl (by exact (show _=some (Value.slice V s.votes.length Vc) from (hk1.from_ aj.rfl_).rd 14 rfl))) ?_)))));have hN11:aj _ w6:=aj.rfl_;have hx2n:=hx2.from_ hN11;have hlt11:=hx2n.lt;replace hk1:=hk1.from_ aj.rfl_;replace hk2:=hk2.from_ aj.rfl_;have hf1n:=hf1.from_ hN11;refine aG gU (jo V Vc s.votes _ (IR.from_ hrd.v (hB1.only O1_0 hg3)) hl1) ?_;rintro v11 w7 ⟨⟨A11,c11,rfl,ho11⟩,E11⟩;obtain ⟨tag2,hf2,ht2⟩:∃ t,bj w7 t ({ s with es:=s.es,votes:=s.votes,next:=[],mtch:=[],sent:=[],reads:=[] }:Rf) (⟨A7,c7,A11,c11,none,0,none,0,none,0,none,0,[]⟩:Ra)∧(∀ k,k≤b3→t k=8):=⟨_,cn.votes (bj.but (c:=1) hf1n (aj.toChg E11)) rfl (ey ho11 (Nat.zero_le _)) (fun k hk=>dp (ee ho11 k hk).1),fun k hk=>(cw (by omega)).trans (ht1 k hk)⟩;replace hx2n:=hx2n.from_ E11;replace hk1:=hk1.from_ E11;replace hk2:=hk2.from_ E11;refine aa (ae cP rfl) ?_;have hS2:aj _ w7:=aj.rfl_;refine cO (s':=s) (a':=(⟨A7,c7,A11,c11,X,Xc,M,Mc,Sn,Sc,Q,Qc,LL⟩:Ra)) (v:=.slice _ _ _) c6 rfl rfl rfl ((hx2n.from_ hS2)) (by exact ⟨by decide,rfl⟩) ?_;intro w8 O2_0 P2_0;have hx3:Blk w8 b3 29 (rfV s (⟨A7,c7,A11,c11,X,Xc,M,Mc,Sn,Sc,Q,Qc,LL⟩:Ra)++[]).toArray:=P2_0;replace hf2:=(hf2.from_ hS2).chg8 (O2_0.toChg rfl) (ht2 b3 (Nat.le_refl _));replace hk1:=(hk1.from_ hS2).only O2_0 h13;replace hk2:=(hk2.from_ hS2).only O2_0 h23;refine ak (ag (an (ah (aa (ae bu rfl) (aa (aq aM rfl (by exact (show _=some (Value.slice X s.next.length Xc) from (hk1.from_ aj.rfl_).rd 15 rfl))) ?_)))));have hN15:aj _ w8:=aj.rfl_;have hx3n:=hx3.from_ hN15;have hlt15:=hx3n.lt;replace hk1:=hk1.from_ aj.rfl_;replace hk2:=hk2.from_ aj.rfl_;have hf2n:=hf2.from_ hN15;refine aG gU (jo X Xc s.next _ (IR.from_ hrd.x (((hB1.only O1_0 hg3).next E11).only O2_0 (hg3))) hl2) ?_;rintro v15 w9 ⟨⟨A15,c15,rfl,ho15⟩,E15⟩;obtain ⟨tag3,hf3,ht3⟩:∃ t,bj w9 t ({ s with es:=s.es,votes:=s.votes,next:=s.next,mtch:=[],sent:=[],reads:=[] }:Rf) (⟨A7,c7,A11,c11,A15,c15,none,0,none,0,none,0,[]⟩:Ra)∧(∀ k,k≤b3→t k=8):=⟨_,cn.next (bj.but (c:=2) hf2n (aj.toChg E15)) rfl (ey ho15 (Nat.zero_le _)) (fun k hk=>dp (ee ho15 k hk).1),fun k hk=>(cw (by omega)).trans (ht2 k hk)⟩;replace hx3n:=hx3n.from_ E15;replace hk1:=hk1.from_ E15;replace hk2:=hk2.from_ E15;refine aa (ae bu rfl) ?_;have hS3:aj _ w9:=aj.rfl_;refine cO (s':=s) (a':=(⟨A7,c7,A11,c11,A15,c15,M,Mc,Sn,Sc,Q,Qc,LL⟩:Ra)) (v:=.slice _ _ _) c6 rfl rfl rfl ((hx3n.from_ hS3)) (by exact ⟨by decide,rfl⟩) ?_;intro w10 O3_0 P3_0;have hx4:Blk w10 b3 29 (rfV s (⟨A7,c7,A11,c11,A15,c15,M,Mc,Sn,Sc,Q,Qc,LL⟩:Ra)++[]).toArray:=P3_0;replace hf3:=(hf3.from_ hS3).chg8 (O3_0.toChg rfl) (ht3 b3 (Nat.le_refl _));replace hk1:=(hk1.from_ hS3).only O3_0 h13;replace hk2:=(hk2.from_ hS3).only O3_0 h23;refine ak (ag (an (ah (aa (ae bM rfl) (aa (aq aM rfl (by exact (show _=some (Value.slice M s.mtch.length Mc) from (hk1.from_ aj.rfl_).rd 16 rfl))) ?_)))));have hN19:aj _ w10:=aj.rfl_;have hx4n:=hx4.from_ hN19;have hlt19:=hx4n.lt;replace hk1:=hk1.from_ aj.rfl_;replace hk2:=hk2.from_ aj.rfl_;have hf3n:=hf3.from_ hN19;refine aG gU (jo M Mc s.mtch _ (IR.from_ hrd.m (((((hB1.only O1_0 hg3).next E11).only O2_0 (hg3)).next E15).only O3_0 (hg3))) hl3) ?_;rintro v19 w11 ⟨⟨A19,c19,rfl,ho19⟩,E19⟩;obtain ⟨tag4,hf4,ht4⟩:∃ t,bj w11 t ({ s with es:=s.es,votes:=s.votes,next:=s.next,mtch:=s.mtch,sent:=[],reads:=[] }:Rf) (⟨A7,c7,A11,c11,A15,c15,A19,c19,none,0,none,0,[]⟩:Ra)∧(∀ k,k≤b3→t k=8):=⟨_,cn.mtch (bj.but (c:=3) hf3n (aj.toChg E19)) rfl (ey ho19 (Nat.zero_le _)) (fun k hk=>dp (ee ho19 k hk).1),fun k hk=>(cw (by omega)).trans (ht3 k hk)⟩;replace hx4n:=hx4n.from_ E19;replace hk1:=hk1.from_ E19;replace hk2:=hk2.from_ E19;refine aa (ae bM rfl) ?_;have hS4:aj _ w11:=aj.rfl_;refine cO (s':=s) (a':=(⟨A7,c7,A11,c11,A15,c15,A19,c19,Sn,Sc,Q,Qc,LL⟩:Ra)) (v:=.slice _ _ _) c6 rfl rfl rfl ((hx4n.from_ hS4)) (by exact ⟨by decide,rfl⟩) ?_;intro w12 O4_0 P4_0;have hx5:Blk w12 b3 29 (rfV s (⟨A7,c7,A11,c11,A15,c15,A19,c19,Sn,Sc,Q,Qc,LL⟩:Ra)++[]).toArray:=P4_0;replace hf4:=(hf4.from_ hS4).chg8 (O4_0.toChg rfl) (ht4 b3 (Nat.le_refl _));replace hk1:=(hk1.from_ hS4).only O4_0 h13;replace hk2:=(hk2.from_ hS4).only O4_0 h23;refine ak (ag (an (ah (aa (ae bW rfl) (aa (aq aM rfl (by exact (show _=some (Value.slice Sn s.sent.length Sc) from (hk1.from_ aj.rfl_).rd 17 rfl))) ?_)))));have hN23:aj _ w12:=aj.rfl_;have hx5n:=hx5.from_ hN23;have hlt23:=hx5n.lt;replace hk1:=hk1.from_ aj.rfl_;replace hk2:=hk2.from_ aj.rfl_;have hf4n:=hf4.from_ hN23;refine aG gU (jo Sn Sc s.sent _ (IR.from_ hrd.n (((((((hB1.only O1_0 hg3).next E11).only O2_0 (hg3)).next E15).only O3_0 (hg3)).next E19).only O4_0 (hg3))) hl4) ?_;rintro v23 w13 ⟨⟨A23,c23,rfl,ho23⟩,E23⟩;obtain ⟨tag5,hf5,ht5⟩:∃ t,bj w13 t ({ s with es:=s.es,votes:=s.votes,next:=s.next,mtch:=s.mtch,sent:=s.sent,reads:=[] }:Rf) (⟨A7,c7,A11,c11,A15,c15,A19,c19,A23,c23,none,0,[]⟩:Ra)∧(∀ k,k≤b3→t k=8):=⟨_,cn.sent (bj.but (c:=4) hf4n (aj.toChg E23)) rfl (ey ho23 (Nat.zero_le _)) (fun k hk=>dp (ee ho23 k hk).1),fun k hk=>(cw (by omega)).trans (ht4 k hk)⟩;replace hx5n:=hx5n.from_ E23;replace hk1:=hk1.from_ E23;replace hk2:=hk2.from_ E23;refine aa (ae bW rfl) ?_;have hS5:aj _ w13:=aj.rfl_;refine cO (s':=s) (a':=(⟨A7,c7,A11,c11,A15,c15,A19,c19,A23,c23,Q,Qc,LL⟩:Ra)) (v:=.slice _ _ _) c6 rfl rfl rfl ((hx5n.from_ hS5)) (by exact ⟨by decide,rfl⟩) ?_;intro w14 O5_0 P5_0;have hx6:Blk w14 b3 29 (rfV s (⟨A7,c7,A11,c11,A15,c15,A19,c19,A23,c23,Q,Qc,LL⟩:Ra)++[]).toArray:=P5_0;replace hf5:=(hf5.from_ hS5).chg8 (O5_0.toChg rfl) (ht5 b3 (Nat.le_refl _));replace hk1:=(hk1.from_ hS5).only O5_0 h13;replace hk2:=(hk2.from_ hS5).only O5_0 h23;refine ak (ag (an (ah (aa (ae bd rfl) (aa (aq bn rfl (by exact (show _=some (Value.slice Q LL.length Qc) from (hk1.from_ aj.rfl_).rd 19 rfl))) ?_)))));have hN27:aj _ w14:=aj.rfl_;have hx6n:=hx6.from_ hN27;have hlt27:=hx6n.lt;replace hk1:=hk1.from_ aj.rfl_;replace hk2:=hk2.from_ aj.rfl_;have hf5n:=bj.but (c:=5) (hf5.from_ hN27) aj.rfl_.toChg;refine aG rI (oR ({ s with es:=s.es,votes:=s.votes,next:=s.next,mtch:=s.mtch,sent:=s.sent,reads:=[] }:Rf) (⟨A7,c7,A11,c11,A15,c15,A19,c19,A23,c23,none,0,[]⟩:Ra) _ Q Qc LL _ hf5n rfl (hrq.from_ (((((((((hB1.only O1_0 hg3).next E11).only O2_0 (hg3)).next E15).only O3_0 (hg3)).next E19).only O4_0 (hg3)).next E23).only O5_0 (hg3))) (fun x hx=>(hrk x hx).from_ (((((((((hB1.only O1_0 hg3).next E11).only O2_0 (hg3)).next E15).only O3_0 (hg3)).next E19).only O4_0 (hg3)).next E23).only O5_0 (hg3))) (fun x hx=>hl6 _ (by rw [←hrL];exact List.mem_map_of_mem hx)) hqm) ?_;rintro v27 w15 ⟨⟨tag6,A27,c27,N,rfl,hNe,hg6,ht6a,hc6,hr6⟩,E27⟩;have ht6:∀ k,k≤b3→tag6 k=8:=fun k hk=>(ht6a k (by omega)).trans ((cw (by omega)).trans (ht5 k hk))
 replace hx6n:=hx6n.from_ E27;replace hk2:=hk2.from_ E27;have hfin:=cn.reads hg6 (A:=A27) (c:=c27) (n:=LL.length) (by have h9:=congrArg List.length hNe;rw [List.length_map,List.length_map] at h9;exact h9.symm) hr6 hc6;rw [show ({ (⟨A7,c7,A11,c11,A15,c15,A19,c19,A23,c23,none,0,[]⟩:Ra) with L:=N }:Ra).L=N from rfl,hNe,hrL] at hfin;refine aa (ae bd rfl) ?_;have hS6:aj _ w15:=aj.rfl_;refine cO (s':=s) (a':=(⟨A7,c7,A11,c11,A15,c15,A19,c19,A23,c23,A27,c27,LL⟩:Ra)) (v:=.slice _ _ _) iR rfl rfl rfl ((hx6n.from_ hS6)) (by exact ⟨by decide,rfl⟩) ?_;intro w16 O6_0 P6_0;have hx7:Blk w16 b3 29 (rfV s (⟨A7,c7,A11,c11,A15,c15,A19,c19,A23,c23,A27,c27,LL⟩:Ra)++[]).toArray:=P6_0;replace hfin:=(hfin.from_ hS6).chg8 (O6_0.toChg rfl) (ht6 b3 (Nat.le_refl _));replace hk2:=(hk2.from_ hS6).only O6_0 h23;refine ak (ag (an (ah (aa (aT (cs:=rfV s (⟨A7,c7,A11,c11,A15,c15,A19,c19,A23,c23,A27,c27,LL⟩:Ra)) aL aD rfl (kS (hx7.from_ aj.rfl_))) ?_))));have hM8:aj _ w16:=aj.rfl_;refine cu (vs:=[_,_,_,_,_,_,_,_,_,_,_,_,_,_,_,_,_,_,_,_,_,_]) aD rfl rfl (by simp [Value.oneCell']) ((hk2.from_ aj.rfl_)) rfl ?_;intro w17 O8 P8;refine ak (ag (aC (tr rfl (dB (cs:=[_,_,_,_,_,_,_,_,_,_,_,_,_,_,_,_,_,_,_,_,_,_]) aL aD rfl (by exact P8.whole)) ?_)));refine ⟨⟨tag6,(⟨A7,c7,A11,c11,A15,c15,A19,c19,A23,c23,A27,c27,N⟩:Ra),?_,(hfin.from_ hM8).chg8 (O8.toChg rfl) (ht6 b2 (by omega)),fun k hk=>ht6 k (by omega)⟩,((((((((((((hB1.only O1_0 hg3).next E11).only O2_0 (hg3)).next E15).only O3_0 (hg3)).next E19).only O4_0 (hg3)).next E23).only O5_0 (hg3)).next E27).only O6_0 (hg3)).only O8 (hg2))⟩;show Value.agg (rfV s (⟨A7,c7,A11,c11,A15,c15,A19,c19,A23,c23,A27,c27,LL⟩:Ra)).toArray=Value.agg (rfV s (⟨A7,c7,A11,c11,A15,c15,A19,c19,A23,c23,A27,c27,N⟩:Ra)).toArray;have h9:=congrArg List.length hNe;rw [List.length_map,List.length_map] at h9;unfold rfV;simp only [h9]
theorem eg:prog.built 29 []=some #[.int .i64 0,.int .i64 0,.int .i64 0,.int .i64 0,.int .i64 0,.int .i64 0,.int .i64 0,.int .i64 0,.slice none 0 0,.string ⟨#[]⟩,.int .i64 0,.int .i64 0,.int .i64 0,.int .u64 0,.slice none 0 0,.slice none 0 0,.slice none 0 0,.slice none 0 0,.int .i64 0,.slice none 0 0,.string ⟨#[]⟩,.int .i64 0]:=by kernel_rfl
theorem lf:∀ (a0:Int) (a1:Int) (a2:Int),prog.built 29 [(0,.int .i64 a0),(1,.int .i64 a1),(11,.int .u64 a2)]=some #[.int .i64 a0,.int .i64 a1,.int .i64 0,.int .i64 0,.int .i64 0,.int .i64 0,.int .i64 0,.int .i64 0,.slice none 0 0,.string ⟨#[]⟩,.int .i64 0,.int .i64 0,.int .i64 0,.int .u64 a2,.slice none 0 0,.slice none 0 0,.slice none 0 0,.slice none 0 0,.int .i64 0,.slice none 0 0,.string ⟨#[]⟩,.int .i64 0]:=by intros;kernel_rfl
theorem qa:∀ (a0:Int) (a1:Int) (a2:Int) (a3:Int) (a4:Int) (a5:Int) (a6:Int) (a7:Int) (a8:Option Addr) (a9 a10:Nat) (a11:ByteArray) (a12:Int) (a13:Int) (a14:Int) (a15:Int) (a16:Option Addr) (a17 a18:Nat) (a19:Option Addr) (a20 a21:Nat) (a22:Option Addr) (a23 a24:Nat) (a25:Option Addr) (a26 a27:Nat) (a28:Int) (a29:Option Addr) (a30 a31:Nat) (a32:ByteArray) (a33:Int),prog.built 91 [(0,.agg #[.int .i64 a0,.int .i64 a1,.int .i64 a2,.int .i64 a3,.int .i64 a4,.int .i64 a5,.int .i64 a6,.int .i64 a7,.slice a8 a9 a10,.string a11,.int .i64 a12,.int .i64 a13,.int .i64 a14,.int .u64 a15,.slice a16 a17 a18,.slice a19 a20 a21,.slice a22 a23 a24,.slice a25 a26 a27,.int .i64 a28,.slice a29 a30 a31,.string a32,.int .i64 a33])]=some #[.int .i64 a0,.int .i64 a1,.int .i64 a2,.int .i64 a3,.int .i64 a4,.int .i64 a5,.int .i64 a6,.int .i64 a7,.slice a8 a9 a10,.string a11,.int .i64 a12,.int .i64 a13,.int .i64 a14,.int .u64 a15,.slice a16 a17 a18,.slice a19 a20 a21,.slice a22 a23 a24,.slice a25 a26 a27,.int .i64 a28,.slice a29 a30 a31,.string a32,.int .i64 a33]:=by intros;kernel_rfl
theorem jM:aY prog 55=true:=by kernel_rfl
theorem sV:aY prog 56=true:=by kernel_rfl
theorem jI {P:Program} {n:Fr} {L:List (Nat×Value)} {w:World} {t:TypeId} {x y:Operand} {g:Nat} {u:TypeId} {cs:Array Value} {vs:List Value} (ht:dL P t=some vs.length) (hx:ev n L x=.pointer (some ⟨g,0,none⟩)) (hy:ev n L y=.agg vs.toArray) (h1:∀ v∈vs,v.oneCell'=true) (hb:Blk w g u cs) (hi:vs.length=cs.size) :
 ∃ w',RS P (ev n L) (.store t x y) w w'∧eu g w w'∧Blk w' g u vs.toArray:=by
 have hb':Blk w g u cs.toList.toArray:=by simpa using hb
 refine ⟨_,kM ht hx hy h1 (hb'.there 0 vs.length (by simp;omega)),eu.sets vs 0 w,?_⟩;have:=Blk.sets vs 0 hb' (by simp;omega)
 rwa [pJ cs.toList vs (by simp;omega)] at this
theorem gA {w w':World} {T g:Nat} {p:Sp} (h:bt w (fun k=>k<w.heap.size) w' T g p):aj w w':=
 ⟨h.fr.os,h.fr.tape,h.fr.output,h.fr.size,fun k hk=>h.fr.block k hk fun e=>e hk⟩
def vu (w w':World) (p:Sp) (v:Value):Prop:=∃ tag a O oc L,v=.tuple #[.agg (rfV p.s a).toArray,.slice O L.length oc,.int .i64 0]∧bj w' tag p.s a∧eb w' tag p.out O oc L∧∀ k,k<w.heap.size→tag k=8
theorem vu.mk_ {w w1 w':World} {T g oc:Nat} {tag:Nat→Nat} {p:Sp} {a:Ra} {O:Option Addr} {L:List Msg} {Z:Nat→Prop} (hs:fF w1 Z T g tag p a O oc L) (hz:∀ k,k<w.heap.size→Z k) (hC:Chg (fun k=>Z k) w1 w'):vu w w' p (.tuple #[.agg (rfV p.s a).toArray,.slice O L.length oc,.int .i64 0]):=by
 have ne:∀ {d:Nat} {A:Option Addr},d≠8→Col tag d A→∀ k,A.map (·.block)=some k→¬ Z k:=fun hd hc k hk e=>hd ((hc k hk).symm.trans (hs.z k e))
 have mv:∀ {d e s n cc:Nat} {A:Option Addr} {xs:List Value},d≠8→w1.ownsRow 0 e s (.slice A n cc) n xs∧Col tag d A→w'.ownsRow 0 e s (.slice A n cc) n xs∧Col tag d A:=fun hd h=>⟨dY h.1 hC (ne hd h.2),h.2⟩
 refine ⟨tag,a,O,oc,L,rfl,⟨fun hx=>mv (by decide) (hs.f.e hx),fun hx=>mv (by decide) (hs.f.v hx),fun hx=>mv (by decide) (hs.f.x hx),fun hx=>mv (by decide) (hs.f.m hx),fun hx=>mv (by decide) (hs.f.n hx),hs.f.r,fun hx=>mv (by decide) (hs.f.q hx),fun i hi hx=>mv (by omega) (hs.f.k i hi hx)⟩,⟨(mv (d:=6) (by decide) ⟨hs.m.o,hs.m.c⟩).1,hs.m.l,fun j hj=>mv (by omega) (hs.m.e j hj),hs.m.c⟩,fun k hk=>hs.z k (hz k hk)⟩
def lM (id n:Int):Prop:=(1≤n∧n≤7)∧(1≤id∧id≤n)
instance (id n:Int):Decidable (lM id n):=by unfold lM;exact inferInstance
theorem uW (id n seed:Int) (w:World) :
 Rt prog 21 [.int .i64 id,.int .i64 n,.int .u64 seed] w (fun v w'=>((lM id n∧v=.tuple #[.agg (rfV (pM id n seed) a0).toArray,.int .i64 0])∨(¬ lM id n∧v=.tuple #[.agg (rfV zR a0).toArray,.int .i64 1]))∧aj w w'):=by
 refine enter (n:=29) Tryz.func21 rfl rfl rfl (an (ah (cq cJ ?_)));intro b6 w1 E6 hb6 hk6;have hg6:w.heap.size≤b6:=Nat.le_of_eq hb6.symm;refine asi rfl (ak (ag (an (an (ah (mvi rfl (eO (v:=.int _ _) cD rfl rfl rfl ?_)))))));intro b10 w2 E10 hb10 hk10;refine aG da (d_ 1 7 (some ⟨b10,0,none⟩) 1 [n] _ (fb hk10) (by simp)) ?_;rintro v11 w3 ⟨rfl,rfl⟩;refine aa (cd rfl) (mvb rfl (aE (t:=13) rfl (fun Q4=>?_) (fun Q4=>?_)))
 ·with_reducible (replace Q4:=dc Q4;replace Q4:=dF_ Q4)
  (try simp only [bo,bA,and_true] at Q4)
  refine ab rfl rfl (ab rfl rfl (ab rfl rfl (ab rfl rfl (ab rfl rfl (aa (ao (v:=.bool _) rfl rfl) (ak (ag (aJ rfl (an (ah ?_))))))))));refine aa (cM (l:=[]) (eg)) (cu (vs:=[_,_,_,_,_,_,_,_,_,_,_,_,_,_,_,_,_,_,_,_,_,_]) aD rfl rfl (by simp [Value.oneCell']) ((hk6.from_ (aj.rfl_.next E10))) rfl ?_);intro w5 O2 P2;refine asi rfl (ak (ag (aC (ay (nO rfl (dB (cs:=[_,_,_,_,_,_,_,_,_,_,_,_,_,_,_,_,_,_,_,_,_,_]) aL aD rfl (by first | exact P5.whole | exact P2.whole)) (c8 (v:=.int _ _) rfl) ?_)))));exact ⟨.inr ⟨by unfold lM;omega,rfl⟩,(((aj.rfl_.next E6).next E10).only O2 (hg6))⟩
 with_reducible (replace Q4:=dd Q4;replace Q4:=dT_ Q4)
 (try simp only [bo,bA,and_true] at Q4)
 refine af rfl (mvi rfl (af rfl (mvi rfl (af rfl (eO (v:=.int _ _) cD rfl rfl rfl ?_)))));intro b16 w6 E16 hb16 hk16;refine af rfl (aG da (d_ 1 n (some ⟨b16,0,none⟩) 1 [id] _ (fb hk16) (by simp)) ?_);rintro v17 w7 ⟨rfl,rfl⟩;refine af rfl (aa (cd rfl) (aa (av (v:=.bool _) rfl rfl) (ak (ag (aV rfl (fun Q8=>?_) (fun Q8=>?_))))))
 ·with_reducible (replace Q8:=dc Q8;replace Q8:=dF_ Q8)
  (try simp only [bo,bA,and_true] at Q8)
  refine an (ah (aa (cM (l:=[]) (eg)) (cu (vs:=[_,_,_,_,_,_,_,_,_,_,_,_,_,_,_,_,_,_,_,_,_,_]) aD rfl rfl (by simp [Value.oneCell']) ((hk6.from_ ((aj.rfl_.next E10).next E16))) rfl ?_)));intro w9 O2 P2;refine asi rfl (ak (ag (aC (ay (nO rfl (dB (cs:=[_,_,_,_,_,_,_,_,_,_,_,_,_,_,_,_,_,_,_,_,_,_]) aL aD rfl (by first | exact P5.whole | exact P2.whole)) (c8 (v:=.int _ _) rfl) ?_)))));exact ⟨.inr ⟨by unfold lM;omega,rfl⟩,((((aj.rfl_.next E6).next E10).next E16).only O2 (hg6))⟩
 with_reducible (replace Q8:=dd Q8;replace Q8:=dT_ Q8)
 (try simp only [bo,bA,and_true] at Q8)
 refine aR (ag (an (ah (mvi rfl (mvi rfl (mvi rfl (aa (cM (l:=[(0,.tmp 21),(1,.tmp 22),(11,.tmp 23)]) (lf _ _ _)) (aa (cM (l:=[(0,.tmp 24)]) (qa _ _ _ _ _ _ _ _ _ _ _ _ _ _ _ _ _ _ _ _ _ _ _ _ _ _ _ _ _ _ _ _ _ _)) ?_))))))));have hM8:aj _ w6:=((aj.rfl_.next E10).next E16);have hz8:=((((aj.rfl_.next E6).next E10).next E16)).size;refine cq lK ?_;intro b8 w10 E8 hb8 hk8;have hg8:w.heap.size≤b8:=by omega
 have hk6b:=hk6.from_ (hM8.next E8);have h68:b6≠b8:=by have:=(hk6.from_ hM8).lt;omega
 refine cu (vs:=[_,_,_,_,_,_,_,_,_,_,_,_,_,_,_,_,_,_,_,_,_,_]) jC rfl rfl (by simp [Value.oneCell']) (hk8) rfl ?_;intro w11 O3 P3;have hb8:Blk w11 b8 91 (rfV ({ zR with id:=id,nodes:=n,seed:=seed }:Rf) a0++[]).toArray:=P3;have hk6c:=hk6b.only O3 h68;refine ak (ag (an (ah ?_)));have hB8:aj w w11:=(((((aj.rfl_.next E6).next E10).next E16).next E8).only O3 (hg8));refine aG jB (oQ 91 b8 { zR with id:=id,nodes:=n,seed:=seed } a0 [] _ hb8) ?_;rintro v26 w12 ⟨rfl,hb26,hC26⟩;have hk6d:=hk6c.chg hC26 h68;refine ak (ag (an (ah (aa (ae aF rfl) (aa (aT (cs:=rfV (pM id n seed) a0) aL aD rfl (kS (hb26.from_ aj.rfl_))) (cu (vs:=[_,_,_,_,_,_,_,_,_,_,_,_,_,_,_,_,_,_,_,_,_,_]) aD rfl rfl (by simp [Value.oneCell']) ((hk6d.from_ aj.rfl_)) rfl ?_))))));intro w13 O5 P5;refine asi rfl (ak (ag (aC (nO rfl (dB (cs:=[_,_,_,_,_,_,_,_,_,_,_,_,_,_,_,_,_,_,_,_,_,_]) aL aD rfl (by first | exact P5.whole | exact P2.whole)) (c8 (v:=.int _ _) rfl) ?_))));exact ⟨.inl ⟨by unfold lM;omega,rfl⟩,((hB8.chg hC26 (fun k hk=>by rw [show k=b8 from hk];exact hg8)).only O5 (hg6))⟩
theorem s_ (s:Rf) (a:Ra) (w:World) (hrd:fi w s a) (hl:s.votes.length≤1000000∧s.next.length≤1000000∧s.mtch.length≤1000000∧s.sent.length≤1000000∧s.reads.length≤1000000∧∀ q∈s.reads,q.acks.length≤1000000) (hel:s.es.length≤1000000) (hm:iw s=true) :
 Rt prog 23 [.agg (rfV s a).toArray] w (fun v w'=>vu w w' (gj s) v∧aj w w'):=by
 refine enter (n:=27) Tryz.func23 rfl rfl rfl (an (ah (cU (v:=.agg _) rfl ?_)));intro b1 w1 E1 hb1 hk1;refine cq cJ ?_;intro b2 w2 E2 hb2 hk2;have hg2:w.heap.size≤b2:=by rw [hb2];exact ((aj.rfl_.next E1)).size
 refine ass rfl (asi rfl (ak (ag (an (ah (aa (aT (cs:=rfV s a) aL aD rfl (((hk1.from_ E2).from_ aj.rfl_).whole)) ?_))))));have hB9:aj w w2:=((aj.rfl_.next E1).next E2);have hk2b:=hk2.from_ aj.rfl_;have hlt2:=hk2b.lt;refine aG jM (mW s a _ (hrd.from_ ((aj.rfl_.next E1).next E2)) hl hel hm) ?_;rintro v9 w3 ⟨g,rfl,h9⟩;refine mvt rfl (aa (aS rfl rfl) (aa (aS rfl rfl) (asp rfl (asi rfl (ak (ag (an (an (ah (mvi rfl (aa (fh (dt rfl rfl) rfl) (ak (ag ?_)))))))))))));refine ck rfl (aR (ag (an (ah (mvp rfl (aG sV (uK _ _ 96 g s _ (h9.from_ aj.rfl_) (jZ hm)) ?_))))));rintro v17 w4 ⟨rfl,h17⟩;obtain ⟨tag9,a9,O9,oc9,L9,hs9⟩:=h17.ex;have hF17:=gA h17;have hk2c:=hk2b.from_ hF17;have hz9:=hB9.size;have hBq:aj w w4:=(hB9.next (gA h17));have hn2:b2≠g:=fun e=>by have h1:=hs9.z b2 hlt2;rw [e,hs9.gc] at h1;cases h1
 replace hn2:=hn2.symm;refine ak (ag (an ?_));have hU5:j6 [(0,18,.pointer (some ⟨g,0,none⟩)),(1,19,.pointer (some ⟨g,0,none⟩)),(2,20,.pointer (some ⟨g,0+0,none⟩)),(3,21,.pointer (some ⟨g,0+0+0,none⟩)),(4,22,.agg (rfV (gj s).s a9).toArray),(5,23,.pointer (some ⟨g,0,none⟩)),(6,24,.pointer (some ⟨g,0,none⟩)),(7,25,.pointer (some ⟨g,0+22,none⟩)),(8,26,.slice O9 L9.length oc9),(10,3,.slice O9 L9.length oc9),(11,4,.int .i64 0)]:=by simp [j6]
 refine lZ [(0,18,.pointer (some ⟨g,0,none⟩)),(1,19,.pointer (some ⟨g,0,none⟩)),(2,20,.pointer (some ⟨g,0+0,none⟩)),(3,21,.pointer (some ⟨g,0+0+0,none⟩)),(4,22,.agg (rfV (gj s).s a9).toArray),(5,23,.pointer (some ⟨g,0,none⟩)),(6,24,.pointer (some ⟨g,0,none⟩)),(7,25,.pointer (some ⟨g,0+22,none⟩)),(8,26,.slice O9 L9.length oc9),(10,3,.slice O9 L9.length oc9),(11,4,.int .i64 0)] (fun S w'=>Blk w' g 96 ((rfV (gj s).s a9)++[Value.slice O9 L9.length oc9]).toArray∧(∃ cs:Array Value,cs.size=22∧Blk w' b2 29 cs∧(S 9=true→cs=(rfV (gj s).s a9).toArray))∧Chg (fun k=>k=b2) w4 w') (by kernel_rfl) (by kernel_rfl) hU5 (by simp) (⟨(hs9.b.from_ aj.rfl_).from_ aj.rfl_.d1,⟨_,rfl,(hk2c.from_ aj.rfl_).from_ aj.rfl_.d1,fun h=>(by cases h)⟩,aj.rfl_.d1.toChg⟩) ?_ ?_
 ·constructor
  ·rintro S L' wS hI hM hS0 ⟨-⟩;have e5:=hI.1 5 (by simp);have hM':=hM;obtain ⟨hgB,⟨cs9,hs9z,hq9,hqe⟩,hC9⟩:=hM';exact bT (aP e5) ⟨hI.put hU5 (.head _),hM⟩
  constructor
  ·rintro S L' wS hI hM hS0 ⟨d0,-⟩;have e18:bp L' 18=.pointer (some ⟨g,0,none⟩):=hI.get (i:=0) (.head _) d0;have hM':=hM;obtain ⟨hgB,⟨cs9,hs9z,hq9,hqe⟩,hC9⟩:=hM';exact bT (aw e18) ⟨hI.put hU5 (.tail _ (.head _)),hM⟩
  constructor
  ·rintro S L' wS hI hM hS0 ⟨d1,-⟩;have e19:bp L' 19=.pointer (some ⟨g,0,none⟩):=hI.get (i:=1) (.tail _ (.head _)) d1;have hM':=hM;obtain ⟨hgB,⟨cs9,hs9z,hq9,hqe⟩,hC9⟩:=hM';exact bT (ae aK e19) ⟨hI.put hU5 (.tail _ (.tail _ (.head _))),hM⟩
  constructor
  ·rintro S L' wS hI hM hS0 ⟨d2,-⟩;have e20:bp L' 20=.pointer (some ⟨g,0+0,none⟩):=hI.get (i:=2) (.tail _ (.tail _ (.head _))) d2;have hM':=hM;obtain ⟨hgB,⟨cs9,hs9z,hq9,hqe⟩,hC9⟩:=hM';exact bT (ae aF e20) ⟨hI.put hU5 (.tail _ (.tail _ (.tail _ (.head _)))),hM⟩
  constructor
  ·rintro S L' wS hI hM hS0 ⟨d3,-⟩;have e21:bp L' 21=.pointer (some ⟨g,0+0+0,none⟩):=hI.get (i:=3) (.tail _ (.tail _ (.tail _ (.head _)))) d3;have hM':=hM;obtain ⟨hgB,⟨cs9,hs9z,hq9,hqe⟩,hC9⟩:=hM';exact bT (aT (cs:=(rfV (gj s).s a9)) aL aD e21 (kS hgB)) ⟨hI.put hU5 (.tail _ (.tail _ (.tail _ (.tail _ (.head _))))),hM⟩
  constructor
  ·rintro S L' wS hI hM hS0 ⟨-,-⟩;have e5:=hI.1 5 (by simp);have hM':=hM;obtain ⟨hgB,⟨cs9,hs9z,hq9,hqe⟩,hC9⟩:=hM';exact bT (aP e5) ⟨hI.put hU5 (.tail _ (.tail _ (.tail _ (.tail _ (.tail _ (.head _)))))),hM⟩
  constructor
  ·rintro S L' wS hI hM hS0 ⟨d5,-,-⟩;have e23:bp L' 23=.pointer (some ⟨g,0,none⟩):=hI.get (i:=5) (.tail _ (.tail _ (.tail _ (.tail _ (.tail _ (.head _)))))) d5;have hM':=hM;obtain ⟨hgB,⟨cs9,hs9z,hq9,hqe⟩,hC9⟩:=hM';exact bT (aw e23) ⟨hI.put hU5 (.tail _ (.tail _ (.tail _ (.tail _ (.tail _ (.tail _ (.head _))))))),hM⟩
  constructor
  ·rintro S L' wS hI hM hS0 ⟨d6,-,-⟩;have e24:bp L' 24=.pointer (some ⟨g,0,none⟩):=hI.get (i:=6) (.tail _ (.tail _ (.tail _ (.tail _ (.tail _ (.tail _ (.head _))))))) d6;have hM':=hM;obtain ⟨hgB,⟨cs9,hs9z,hq9,hqe⟩,hC9⟩:=hM';exact bT (ae gu e24) ⟨hI.put hU5 (.tail _ (.tail _ (.tail _ (.tail _ (.tail _ (.tail _ (.tail _ (.head _)))))))),hM⟩
  constructor
  ·rintro S L' wS hI hM hS0 ⟨d7,-,-⟩;have e25:bp L' 25=.pointer (some ⟨g,0+22,none⟩):=hI.get (i:=7) (.tail _ (.tail _ (.tail _ (.tail _ (.tail _ (.tail _ (.tail _ (.head _)))))))) d7;have hM':=hM;obtain ⟨hgB,⟨cs9,hs9z,hq9,hqe⟩,hC9⟩:=hM';exact bT (aq gT e25 (by exact (show _=some (Value.slice O9 L9.length oc9) from hgB.rd 22 rfl))) ⟨hI.put hU5 (.tail _ (.tail _ (.tail _ (.tail _ (.tail _ (.tail _ (.tail _ (.tail _ (.head _))))))))),hM⟩
  constructor
  ·rintro S L' wS hI hM hS0 ⟨d4,d0,d1,d2,d3,d4,-,-,-,-,-⟩;have e2:=hI.1 2 (by simp);have e22:bp L' 22=.agg (rfV (gj s).s a9).toArray:=hI.get (i:=4) (.tail _ (.tail _ (.tail _ (.tail _ (.head _))))) d4;have hM':=hM;obtain ⟨hgB,⟨cs9,hs9z,hq9,hqe⟩,hC9⟩:=hM';obtain ⟨w2,hR,hO,hb⟩:=jI (n:=27) (L:=L') (x:=.tmp 2) (y:=.tmp 22) (vs:=(rfV (gj s).s a9)) aD e2 e22 (by simp [rfV,Value.oneCell']) hq9 (by rw [hs9z];rfl);exact jF hR ⟨hI.skip (by simp),hgB.only hO hn2,⟨_,rfl,hb,fun _=>rfl⟩,hC9.next (hO.toChg rfl)⟩
  constructor
  ·rintro S L' wS hI hM hS0 ⟨d8,d9,d0,d1,d2,d3,d4,d5,d6,d7,d8,d9,-⟩;have e26:bp L' 26=.slice O9 L9.length oc9:=hI.get (i:=8) (.tail _ (.tail _ (.tail _ (.tail _ (.tail _ (.tail _ (.tail _ (.tail _ (.head _))))))))) d8;have hM':=hM;obtain ⟨hgB,⟨cs9,hs9z,hq9,hqe⟩,hC9⟩:=hM';exact bT (de e26) ⟨hI.put hU5 (.tail _ (.tail _ (.tail _ (.tail _ (.tail _ (.tail _ (.tail _ (.tail _ (.tail _ (.head _)))))))))),hM⟩
  constructor
  ·rintro S L' wS hI hM hS0 ⟨d10,d0,d1,d2,d3,d4,d5,d6,d7,d8,d9,d10,-⟩;have hM':=hM;obtain ⟨hgB,⟨cs9,hs9z,hq9,hqe⟩,hC9⟩:=hM';exact bT (de rfl) ⟨hI.put hU5 (.tail _ (.tail _ (.tail _ (.tail _ (.tail _ (.tail _ (.tail _ (.tail _ (.tail _ (.tail _ (.head _))))))))))),hM⟩
  exact trivial
 ·intro w6 hM;obtain ⟨hgB,⟨cs9,hs9z,hq9,hqe⟩,hC9⟩:=hM;have hqe:=hqe rfl;subst hqe;refine ag (aC (wR rfl (dB (cs:=[_,_,_,_,_,_,_,_,_,_,_,_,_,_,_,_,_,_,_,_,_,_]) aL aD rfl (by exact hq9.whole)) (c8 (v:=.slice _ _ _) rfl) (c8 (v:=.int _ _) rfl) ?_));exact ⟨vu.mk_ hs9 (fun k hk=>Nat.lt_of_lt_of_le hk hz9) (hC9.wide (fun k hk=>.inl (by rw [show k=b2 from hk];exact hlt2))),(hBq.chg hC9 (fun k hk=>by rw [show k=b2 from hk];exact hg2))⟩
def so (w w':World) (p:Sp) (tag:Nat→Nat) (a:Ra) (O:Option Addr) (oc:Nat) (L:List Msg):Prop:=bj w' tag p.s a∧eb w' tag p.out O oc L∧∀ k,k<w.heap.size→tag k=8
theorem so.mk_ {w w1 w':World} {T g oc:Nat} {tag:Nat→Nat} {p:Sp} {a:Ra} {O:Option Addr} {L:List Msg} {Z:Nat→Prop} (hs:fF w1 Z T g tag p a O oc L) (hz:∀ k,k<w.heap.size→Z k) (hC:Chg (fun k=>Z k) w1 w'):so w w' p tag a O oc L:=by
 have ne:∀ {d:Nat} {A:Option Addr},d≠8→Col tag d A→∀ k,A.map (·.block)=some k→¬ Z k:=fun hd hc k hk e=>hd ((hc k hk).symm.trans (hs.z k e))
 have mv:∀ {d e s n cc:Nat} {A:Option Addr} {xs:List Value},d≠8→w1.ownsRow 0 e s (.slice A n cc) n xs∧Col tag d A→w'.ownsRow 0 e s (.slice A n cc) n xs∧Col tag d A:=fun hd h=>⟨dY h.1 hC (ne hd h.2),h.2⟩
 exact ⟨⟨fun hx=>mv (by decide) (hs.f.e hx),fun hx=>mv (by decide) (hs.f.v hx),fun hx=>mv (by decide) (hs.f.x hx),fun hx=>mv (by decide) (hs.f.m hx),fun hx=>mv (by decide) (hs.f.n hx),hs.f.r,fun hx=>mv (by decide) (hs.f.q hx),fun i hi hx=>mv (by omega) (hs.f.k i hi hx)⟩,⟨(mv (d:=6) (by decide) ⟨hs.m.o,hs.m.c⟩).1,hs.m.l,fun j hj=>mv (by omega) (hs.m.e j hj),hs.m.c⟩,fun k hk=>hs.z k (hz k hk)⟩
def x9 (p:Sp) (a:Ra) (O:Option Addr) (oc:Nat) (L:List Msg):List Value:=[.agg (rfV p.s a).toArray,.slice O L.length oc]
end Go.Proofs.YtkpooenofjdpmaaGreat
