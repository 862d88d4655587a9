/- texts that the claim stands on. -/
import Derived.Test.YtkpooenofjdpmaaSlRfLawN2

set_option maxRecDepth 100000
set_option maxHeartbeats 4000000
namespace Go.Proofs.Ytkpooenofjdpmaa
open Go.Proofs.Try (prog)
open Go.RowKit
open Go.ChangeShapes Go.WideShapes Go.ChangeAt
theorem bt:aD prog 10=true:=by kernel_rfl
theorem ck:bo prog 32 2=some 2:=by kernel_rfl
theorem dA:bo prog 32 4=some 4:=by kernel_rfl
theorem dc:bo prog 32 5=some 5:=by kernel_rfl
theorem bk:bo prog 32 3=some 3:=by kernel_rfl
theorem cq:bo prog 32 16=some 18:=by kernel_rfl
theorem dB:bo prog 28 0=some 0:=by kernel_rfl
theorem cj:bo prog 32 8=some 10:=by kernel_rfl
theorem cB:bo prog 32 7=some 9:=by kernel_rfl
theorem cu:fz prog 9=some false:=by kernel_rfl
theorem cV:bo prog 32 18=some 20:=by kernel_rfl
theorem cU:bo prog 32 19=some 21:=by kernel_rfl
theorem fP:fz prog 60=some true:=by kernel_rfl
theorem e_:cr prog 60=some 4:=by kernel_rfl
theorem br:bo prog 32 13=some 15:=by kernel_rfl
theorem aL:fz prog 29=some false:=by kernel_rfl
theorem bA:bo prog 32 14=some 16:=by kernel_rfl
theorem bN:bo prog 32 15=some 17:=by kernel_rfl
theorem bq:bo prog 32 17=some 19:=by kernel_rfl
theorem cI:fz prog 30=some false:=by kernel_rfl
theorem dm:(eY prog 30).isSome=true:=by kernel_rfl
theorem ed:eY prog 30=some (60,4):=by kernel_rfl
theorem lS:f_ prog 60=some (.agg #[.int .i64 0,.int .i64 0,.int .i64 0,.slice none 0 0]):=by kernel_rfl
theorem ff:bo prog 60 0=some 0:=by kernel_rfl
theorem fe:bo prog 60 1=some 1:=by kernel_rfl
theorem fc:bo prog 60 2=some 2:=by kernel_rfl
theorem dz:bo prog 60 3=some 3:=by kernel_rfl
theorem iB:aD prog 31=true:=by kernel_rfl
theorem a_:fz prog 32=some true:=by kernel_rfl
theorem aQ:cr prog 32=some 22:=by kernel_rfl
theorem lW:aD prog 29=true:=by kernel_rfl
theorem lV:aD prog 30=true:=by kernel_rfl
theorem bX:bo prog 32 12=some 14:=by kernel_rfl
theorem lU:aD prog 32=true:=by kernel_rfl
theorem lT:aD prog 33=true:=by kernel_rfl
def eA (s:Rf):Prop:=(1≤s.nodes∧s.nodes≤7)∧(1≤s.id∧s.id≤s.nodes)∧(0≤s.role∧s.role≤2)∧((0≤s.vote∧s.vote≤s.nodes)∧(0≤s.leader∧s.leader≤s.nodes))∧(0≤s.term∧s.term≤1099511627775)∧(0≤s.elapsed∧s.elapsed≤1099511627775)∧(0≤s.timeout∧s.timeout≤1099511627775)∧(0≤s.round∧s.round≤1099511627775)
instance (s:Rf):Decidable (eA s):=by unfold eA;exact inferInstance
def dC (s:Rf):Prop:=bn s.b s.t s.es=true∧bZ s.t s.es≤s.term∧(s.b≤s.commit∧s.commit≤aE s)∧s.snap.size≤524288∧(0<s.b∨s.snap.size=0)
instance (s:Rf):Decidable (dC s):=by unfold dC;exact inferInstance
def dS (s:Rf):Prop:=s.part.size≤524288∧(0≤s.partOf∧s.partOf≤1099511625728)∧(0<s.partOf∨s.part.size=0)
instance (s:Rf):Decidable (dS s):=by unfold dS;exact inferInstance
def gh (s:Rf):Prop:=if s.role=2 then ((s.next.length:Int)=s.nodes∧(s.mtch.length:Int)=s.nodes∧(s.sent.length:Int)=s.nodes∧s.reads.length≤32)∧(dG 1 (aE s+1) s.next∧dG 0 (aE s) s.mtch∧dG 0 s.snap.size s.sent)∧(∀ q∈s.reads,fF s q=true) else s.next.length+s.mtch.length+s.sent.length+s.reads.length=0
instance (s:Rf):Decidable (gh s):=by unfold gh;exact inferInstance
theorem rT (s:Rf) (E:Option Addr) (n c:Nat) (w:World) (h:bY w (.slice E n c) s.es):Rt prog 43 [.agg #[.int .i64 s.b,.int .i64 s.t,.slice E n c]] w fun v w'=>(∃ X Y Z:Int,v=.tuple #[.int .i64 X,.int .i64 Y,.int .i64 Z]∧((bn s.b s.t s.es=true∧Z=0∧X=aE s∧Y=bZ s.t s.es)∨(bn s.b s.t s.es=false∧Z=1)))∧ag w w':=
 (Rt.of (lx s.b s.t _ s.es w h)).mono fun v w' h=>by
  refine ⟨?_,h.2⟩;rw [h.1];unfold nK;cases hm:bn s.b s.t s.es with
  |true=>rw [if_pos rfl];exact ⟨_,_,_,rfl,.inl ⟨rfl,rfl,rfl,rfl⟩⟩
  |false=>rw [if_neg (by decide)];exact ⟨_,_,_,rfl,.inr ⟨rfl,rfl⟩⟩
theorem jc:∀ (l:List Int),eg l=true↔∀ j (h:j+1<l.length),l[j]<l[j+1]
 |[]=>⟨fun _ j h=>absurd h (by simp),fun _=>rfl⟩
 |[a]=>⟨fun _ j h=>absurd h (by simp),fun _=>rfl⟩
 |a::b::r=>by
  have ih:=jc (b::r);show (decide (a<b)&&eg (b::r))=true↔_;rw [Bool.and_eq_true,decide_eq_true_eq,ih];constructor
  ·rintro ⟨h1,h2⟩ j h;cases j with
   |zero=>exact h1
   |succ j=>exact h2 j (by simpa using h)
  ·intro h;exact ⟨h 0 (by simp),fun j hj=>h (j+1) (by simpa using hj)⟩
theorem gl {l:List Int} {n:Int}:dO l n=true↔dG 1 n l∧∀ j (h:j+1<l.length),l[j]<l[j+1]:=by
 unfold dO dG;rw [Bool.and_eq_true,jc,List.all_eq_true];simp only [Bool.and_eq_true,decide_eq_true_eq]
theorem cw (lo hi:Int) (A:Option Addr) (c:Nat) (xs:List Int) (w:World) (hr:cD iV w A xs) (hl:xs.length≤1000000) :
 Rt prog 10 [.int .i64 lo,.int .i64 hi,.slice A xs.length c] w (fun v w'=>v=.bool (decide (dG lo hi xs))∧w=w'):=by
 refine enter (n:=24) Try.func10 rfl rfl rfl (an (ah (asb rfl (ak (ai (an (an (ah (mvs rfl (ab (bU bj rfl) (mvi rfl (ak (ai (bd (df (G:=Nat) [6,8,12,13,14,15,16,17,18,19,20,21,22,23] (fun k=>[(11,.int .i64 (k:Nat))]) (fun k w'=>k≤xs.length∧dG lo hi (xs.take k)∧w=w') (fun k=>xs.length-k) (0) ⟨rfl,trivial⟩ ?_ ?_)))))))))))))))
 ·exact ⟨Nat.zero_le _,aH.2 trivial,rfl⟩
 rintro k ρ1 w1 ⟨hk,ha,rfl⟩;refine an (ah (ab (cO rfl rfl) (ak (ai (an (r7 rfl (fun Q2=>?_) (fun Q2=>?_)))))))
 ·have hkx:k<xs.length:=by omega
  obtain ⟨ba,oa,rfl,hca⟩:=hr (by omega);refine aO (ai (an (bd (an (ah (ab (cg bR rfl rfl (by omega)) (ab (ar au rfl (by exact hca k hkx)) ?_)))))));refine asi rfl (ak (ai (an (ah (mvi rfl (mvi rfl (ab (cO rfl rfl) (mvb rfl (rz (t:=18) rfl (fun Q3=>?_) (fun Q3=>?_))))))))))
  ·refine aj rfl rfl (aj rfl rfl (aj rfl rfl (ab (ay (v:=.bool _) rfl rfl) (ak (ai (bL rfl (an (ah (asb rfl (ak (ai (aG (b_ (aN (aN (b_ (aN ?_)))))))))))))))));refine bK (v:=.bool _) rfl rfl (⟨congrArg Value.bool ?_,rfl⟩);rw [eq_comm,decide_eq_false_iff_not];intro h;have:=h _ (List.getElem_mem hkx);omega
  refine af rfl (mvi rfl (af rfl (mvi rfl (af rfl (ab (ef rfl rfl) (ab (aF (v:=.bool _) rfl rfl) (ak (ai (r7 rfl (fun Q4=>?_) (fun Q4=>?_))))))))))
  ·refine an (ah (asb rfl (ak (ai (aG (b_ (aN (aN (b_ (aN (bK (v:=.bool _) rfl rfl (⟨congrArg Value.bool ?_,rfl⟩))))))))))));rw [eq_comm,decide_eq_false_iff_not];intro h;have:=h _ (List.getElem_mem hkx);omega
  refine aO (cx (ai (ah (ab (cL (b:=1) rfl rfl (by omega)) (mvi rfl (ak ?_))))));refine cy (k+1) ⟨(by first | rfl | (refine aZ ?_;omega)),trivial⟩ (by (iterate 30 refine bu rfl ?_);exact bT) ⟨?_,?_⟩
  ·exact ⟨by omega,by rw [List.take_succ_eq_append_getElem hkx];exact mT.2 ⟨ha,by omega⟩,rfl⟩
  ·omega
 obtain rfl:k=xs.length:=by omega
 rw [List.take_length] at ha;refine cF (bg (bg (cf (ai (an (ah (asb rfl (ak (ai (aG (bK (v:=.bool _) rfl rfl (⟨congrArg Value.bool (decide_eq_true ha).symm,rfl⟩))))))))))))
theorem dr {w:World} {b:Nat} {xs:List Int} (h:Blk w b 3 (xs.map iV).toArray):cD iV w (some ⟨b,0,none⟩) xs:=cD.blk h fun i hi=>by simp [hi]
theorem iF (s:Rf) (a:Ra) (w:World) :
 Rt prog 29 [.agg (rfV s a).toArray] w (fun v w'=>v=.bool (decide (eA s))∧ag w w'):=by
 refine enter (n:=43) Try.func29 rfl rfl rfl (an (ah (dw (v:=.agg _) rfl ?_)));intro b1 w1 E1 hb1 hk1;refine asb rfl (ak (ai (an (ah (ab (aa bc rfl) (ab (ar au rfl (by exact (hk1.from_ ag.rfl_).rd 1 rfl)) ?_))))));refine dq (v:=.int _ _) bf rfl rfl rfl ?_;intro b5 w2 E5 hb5 hk5;refine aA bt (cw 1 7 (some ⟨b5,0,none⟩) 1 [s.nodes] _ (dr hk5) (by simp)) ?_;rintro v6 w3 ⟨rfl,rfl⟩;refine mvb rfl (rz (t:=7) rfl (fun Q4=>?_) (fun Q4=>?_))
 ·(try simp only [aC,aH,and_true] at Q4)
  refine af rfl (ab (aa bc rfl) (af rfl (ab (ar au rfl (by exact (hk1.from_ (ag.rfl_.next E5)).rd 1 rfl)) ?_)));refine af rfl (ab (aa ch rfl) (af rfl (ab (ar au rfl (by exact (hk1.from_ (ag.rfl_.next E5)).rd 0 rfl)) ?_)));refine af rfl (dq (v:=.int _ _) bf rfl rfl rfl ?_);intro b12 w5 E12 hb12 hk12;refine af rfl (aA bt (cw 1 s.nodes (some ⟨b12,0,none⟩) 1 [s.id] _ (dr hk12) (by simp)) ?_);rintro v13 w6 ⟨rfl,rfl⟩;refine ab (ay (v:=.bool _) rfl rfl) (mvb rfl (rz (t:=15) rfl (fun Q7=>?_) (fun Q7=>?_)))
  ·(try simp only [aC,aH,and_true] at Q7)
   refine af rfl (ab (aa ck rfl) (af rfl (ab (ar au rfl (by exact (hk1.from_ ((ag.rfl_.next E5).next E12)).rd 2 rfl)) ?_)));refine af rfl (dq (v:=.int _ _) bf rfl rfl rfl ?_);intro b18 w8 E18 hb18 hk18;refine af rfl (aA bt (cw 0 2 (some ⟨b18,0,none⟩) 1 [s.role] _ (dr hk18) (by simp)) ?_);rintro v19 w9 ⟨rfl,rfl⟩;refine ab (ay (v:=.bool _) rfl rfl) (mvb rfl (rz (t:=21) rfl (fun Q10=>?_) (fun Q10=>?_)))
   ·(try simp only [aC,aH,and_true] at Q10)
    refine af rfl (ab (aa bc rfl) (af rfl (ab (ar au rfl (by exact (hk1.from_ (((ag.rfl_.next E5).next E12).next E18)).rd 1 rfl)) ?_)));refine af rfl (ab (aa dA rfl) (af rfl (ab (ar au rfl (by exact (hk1.from_ (((ag.rfl_.next E5).next E12).next E18)).rd 4 rfl)) ?_)));refine af rfl (ab (aa dc rfl) (af rfl (ab (ar au rfl (by exact (hk1.from_ (((ag.rfl_.next E5).next E12).next E18)).rd 5 rfl)) ?_)));refine af rfl (nD [.tmp 25,.tmp 27] [.int _ _,.int _ _] bf rfl rfl rfl rfl (by simp [Value.cells]) ?_);intro b28 w11 E28 hb28 hk28;refine af rfl (aA bt (cw 0 s.nodes (some ⟨b28,0,none⟩) 2 [s.vote,s.leader] _ (dr hk28) (by simp)) ?_);rintro v29 w12 ⟨rfl,rfl⟩;refine ab (ay (v:=.bool _) rfl rfl) (mvb rfl (rz (t:=31) rfl (fun Q13=>?_) (fun Q13=>?_)))
    ·(try simp only [aC,aH,and_true] at Q13)
     refine af rfl (ab (aa bk rfl) (af rfl (ab (ar au rfl (by exact (hk1.from_ ((((ag.rfl_.next E5).next E12).next E18).next E28)).rd 3 rfl)) ?_)));refine af rfl (ab (aa bM rfl) (af rfl (ab (ar au rfl (by exact (hk1.from_ ((((ag.rfl_.next E5).next E12).next E18).next E28)).rd 11 rfl)) ?_)));refine af rfl (ab (aa cT rfl) (af rfl (ab (ar au rfl (by exact (hk1.from_ ((((ag.rfl_.next E5).next E12).next E18).next E28)).rd 12 rfl)) ?_)));refine af rfl (ab (aa cq rfl) (af rfl (ab (ar au rfl (by exact (hk1.from_ ((((ag.rfl_.next E5).next E12).next E18).next E28)).rd 18 rfl)) ?_)));refine af rfl (nD [.tmp 33,.tmp 35,.tmp 37,.tmp 39] [.int _ _,.int _ _,.int _ _,.int _ _] bf rfl rfl rfl rfl (by simp [Value.cells]) ?_);intro b40 w14 E40 hb40 hk40;refine af rfl (aA bt (cw 0 1099511627775 (some ⟨b40,0,none⟩) 4 [s.term,s.elapsed,s.timeout,s.round] _ (dr hk40) (by simp)) ?_);rintro v41 w15 ⟨rfl,rfl⟩;refine ab (ay (v:=.bool _) rfl rfl) (asb rfl (ak (ai (aG (bK (v:=.bool _) rfl rfl (⟨congrArg Value.bool ?_,((((((ag.rfl_.next E1).next E5).next E12).next E18).next E28).next E40)⟩))))))
     (try simp only [aC,aH,and_true])
     first
      |(rw [eq_comm,decide_eq_false_iff_not];unfold eA;omega)
      |(rw [decide_eq_decide];unfold eA;omega)
      |(rw [eq_comm,decide_eq_true_eq];unfold eA;omega)
    (try simp only [aC,aH,and_true] at Q13)
    refine aj rfl rfl (aj rfl rfl (aj rfl rfl (aj rfl rfl (aj rfl rfl (aj rfl rfl (aj rfl rfl (aj rfl rfl (aj rfl rfl ?_))))))));refine aj rfl rfl (ab (aF (v:=.bool _) rfl rfl) (asb rfl (ak (ai (aG (bK (v:=.bool _) rfl rfl (⟨congrArg Value.bool ?_,(((((ag.rfl_.next E1).next E5).next E12).next E18).next E28)⟩)))))))
    (try simp only [aC,aH,and_true])
    first
     |(rw [eq_comm,decide_eq_false_iff_not];unfold eA;omega)
     |(rw [decide_eq_decide];unfold eA;omega)
     |(rw [eq_comm,decide_eq_true_eq];unfold eA;omega)
   (try simp only [aC,aH,and_true] at Q10)
   refine aj rfl rfl (aj rfl rfl (aj rfl rfl (aj rfl rfl (aj rfl rfl (aj rfl rfl (aj rfl rfl (aj rfl rfl (ab (aF (v:=.bool _) rfl rfl) ?_))))))));refine mvb rfl (aj rfl rfl (aj rfl rfl (aj rfl rfl (aj rfl rfl (aj rfl rfl (aj rfl rfl (aj rfl rfl (aj rfl rfl ?_))))))));refine aj rfl rfl (aj rfl rfl (ab (aF (v:=.bool _) rfl rfl) (asb rfl (ak (ai (aG (bK (v:=.bool _) rfl rfl (⟨congrArg Value.bool ?_,((((ag.rfl_.next E1).next E5).next E12).next E18)⟩))))))))
   (try simp only [aC,aH,and_true])
   first
    |(rw [eq_comm,decide_eq_false_iff_not];unfold eA;omega)
    |(rw [decide_eq_decide];unfold eA;omega)
    |(rw [eq_comm,decide_eq_true_eq];unfold eA;omega)
  (try simp only [aC,aH,and_true] at Q7)
  refine aj rfl rfl (aj rfl rfl (aj rfl rfl (aj rfl rfl (ab (aF (v:=.bool _) rfl rfl) (mvb rfl (aj rfl rfl (aj rfl rfl (aj rfl rfl ?_))))))));refine aj rfl rfl (aj rfl rfl (aj rfl rfl (aj rfl rfl (aj rfl rfl (ab (aF (v:=.bool _) rfl rfl) (mvb rfl (aj rfl rfl (aj rfl rfl ?_))))))));refine aj rfl rfl (aj rfl rfl (aj rfl rfl (aj rfl rfl (aj rfl rfl (aj rfl rfl (aj rfl rfl (aj rfl rfl (ab (aF (v:=.bool _) rfl rfl) ?_))))))));refine asb rfl (ak (ai (aG (bK (v:=.bool _) rfl rfl (⟨congrArg Value.bool ?_,(((ag.rfl_.next E1).next E5).next E12)⟩)))))
  (try simp only [aC,aH,and_true])
  first
   |(rw [eq_comm,decide_eq_false_iff_not];unfold eA;omega)
   |(rw [decide_eq_decide];unfold eA;omega)
   |(rw [eq_comm,decide_eq_true_eq];unfold eA;omega)
 (try simp only [aC,aH,and_true] at Q4)
 refine aj rfl rfl (aj rfl rfl (aj rfl rfl (aj rfl rfl (aj rfl rfl (aj rfl rfl (ab (aF (v:=.bool _) rfl rfl) (mvb rfl (aj rfl rfl ?_))))))));refine aj rfl rfl (aj rfl rfl (aj rfl rfl (ab (aF (v:=.bool _) rfl rfl) (mvb rfl (aj rfl rfl (aj rfl rfl (aj rfl rfl (aj rfl rfl ?_))))))));refine aj rfl rfl (aj rfl rfl (aj rfl rfl (aj rfl rfl (ab (aF (v:=.bool _) rfl rfl) (mvb rfl (aj rfl rfl (aj rfl rfl (aj rfl rfl ?_))))))));refine aj rfl rfl (aj rfl rfl (aj rfl rfl (aj rfl rfl (aj rfl rfl (aj rfl rfl (aj rfl rfl (ab (aF (v:=.bool _) rfl rfl) (asb rfl ?_))))))));refine ak (ai (aG (bK (v:=.bool _) rfl rfl (⟨congrArg Value.bool ?_,((ag.rfl_.next E1).next E5)⟩))))
 (try simp only [aC,aH,and_true])
 first
  |(rw [eq_comm,decide_eq_false_iff_not];unfold eA;omega)
  |(rw [decide_eq_decide];unfold eA;omega)
  |(rw [eq_comm,decide_eq_true_eq];unfold eA;omega)
theorem qa {s:Rf} {a:Ra} {w:World} {b T:Nat} (hb:Blk w b T (rfV s a).toArray):w.rangeAt b 6 [.int .i64 s.b,.int .i64 s.t,.slice a.E s.es.length a.Ec]:=hb.range 6 _ (fun j v hj=>by
 match j,hj with
 |0,hj=>exact hj
 |1,hj=>exact hj
 |2,hj=>exact hj
 |j+3,hj=>simp at hj)
theorem kX (s:Rf) (a:Ra) (w:World) (he:bY w (.slice a.E s.es.length a.Ec) s.es) :
 Rt prog 30 [.agg (rfV s a).toArray] w (fun v w'=>v=.bool (decide (dC s))∧ag w w'):=by
 refine enter (n:=48) Try.func30 rfl rfl rfl (an (ah (dw (v:=.agg _) rfl ?_)));intro b1 w1 E1 hb1 hk1;refine asb rfl (ak (ai (an (ah (ab (aa aY rfl) (ab (bh (cs:=[.int .i64 s.b,.int .i64 s.t,.slice a.E s.es.length a.Ec]) cX cA rfl (qa (hk1.from_ ag.rfl_))) (aA iA (rT s a.E s.es.length a.Ec _ (he.from_ (ag.rfl_.next E1))) ?_)))))));rintro v9 w2 ⟨⟨X,Y,Z,rfl,hXYZ⟩,E9⟩;refine mvt rfl (ab (aM rfl rfl) (ab (aM rfl rfl) (ab (aM rfl rfl) (asi rfl (asi rfl (asi rfl (ak (ai (an (ah (mvi rfl ?_)))))))))));refine ab (bW rfl rfl) (mvb rfl (ry (t:=15) rfl (fun Q3=>?_) (fun Q3=>?_)))
 ·refine af rfl (mvi rfl (af rfl (ab (aa bk rfl) (af rfl (ab (ar au rfl (by exact (hk1.from_ (ag.rfl_.next E9)).rd 3 rfl)) ?_)))));refine af rfl (ab (gj rfl rfl) (ab (ay (v:=.bool _) rfl rfl) (mvb rfl (rz (t:=21) rfl (fun Q4=>?_) (fun Q4=>?_)))))
  ·(try simp only [aC,aH,and_true] at Q4)
   refine af rfl (ab (aa aY rfl) (af rfl (ab (aa dB rfl) (af rfl (ab (ar au rfl (by exact (hk1.from_ (ag.rfl_.next E9)).rd 6 rfl)) ?_)))));refine af rfl (mvi rfl (af rfl (ab (aa cj rfl) (af rfl (ab (ar au rfl (by exact (hk1.from_ (ag.rfl_.next E9)).rd 10 rfl)) ?_)))));refine af rfl (dq (v:=.int _ _) bf rfl rfl rfl ?_);intro b28 w5 E28 hb28 hk28;refine af rfl (aA bt (cw s.b X (some ⟨b28,0,none⟩) 1 [s.commit] _ (dr hk28) (by simp)) ?_);rintro v29 w6 ⟨rfl,rfl⟩;refine ab (ay (v:=.bool _) rfl rfl) (mvb rfl (rz (t:=31) rfl (fun Q7=>?_) (fun Q7=>?_)))
   ·(try simp only [aC,aH,and_true] at Q7)
    refine af rfl (ab (aa cB rfl) (af rfl (ab (ar cu rfl (by exact (hk1.from_ ((ag.rfl_.next E9).next E28)).rd 9 rfl)) ?_)));refine af rfl (ab (gD (by kernel_rfl) rfl) (af rfl (ab (gj rfl rfl) (ab (ay (v:=.bool _) rfl rfl) (mvb rfl (rz (t:=37) rfl (fun Q8=>?_) (fun Q8=>?_)))))))
    ·refine af rfl (ab (aa aY rfl) (af rfl (ab (aa dB rfl) (af rfl (ab (ar au rfl (by exact (hk1.from_ ((ag.rfl_.next E9).next E28)).rd 6 rfl)) ?_)))));refine af rfl (ab (ef rfl rfl) (af rfl (mvb rfl (rz (t:=42) rfl (fun Q9=>?_) (fun Q9=>?_)))))
     ·refine aj rfl rfl (aj rfl rfl (aj rfl rfl (af rfl (ab (ay (v:=.bool _) rfl rfl) (ab (ay (v:=.bool _) rfl rfl) (asb rfl (ak (ai (aG (bK (v:=.bool _) rfl rfl ?_))))))))));refine ⟨congrArg Value.bool ?_,(((ag.rfl_.next E1).next E9).next E28)⟩
      (try simp only [aC,aH,and_true])
      rcases hXYZ with ⟨hm,hz,hx,hy⟩ | ⟨hm,hz⟩
      ·first
        |(rw [eq_comm,decide_eq_false_iff_not];unfold dC;simp only [hm,true_and];omega)
        |(rw [decide_eq_decide];unfold dC;simp only [hm,true_and];omega)
        |(rw [eq_comm,decide_eq_true_eq];unfold dC;simp only [hm,true_and];omega)
      ·first
        |(exfalso;omega)
        |(rw [eq_comm,decide_eq_false_iff_not];unfold dC;rw [hm];exact fun h=>Bool.noConfusion h.1)
     refine af rfl (ab (aa cB rfl) (af rfl (ab (ar cu rfl (by exact (hk1.from_ ((ag.rfl_.next E9).next E28)).rd 9 rfl)) ?_)));refine af rfl (ab (jb (iM rfl rfl) (congrArg Value.bool (r9 s.snap))) (af rfl (ab (aF (v:=.bool _) rfl rfl) (ab (ay (v:=.bool _) rfl rfl) (asb rfl (ak (ai (aG (bK (v:=.bool _) rfl rfl (⟨congrArg Value.bool ?_,(((ag.rfl_.next E1).next E9).next E28)⟩))))))))))
     (try simp only [aC,aH,and_true])
     rcases hXYZ with ⟨hm,hz,hx,hy⟩ | ⟨hm,hz⟩
     ·first
       |(rw [eq_comm,decide_eq_false_iff_not];unfold dC;simp only [hm,true_and];omega)
       |(rw [decide_eq_decide];unfold dC;simp only [hm,true_and];omega)
       |(rw [eq_comm,decide_eq_true_eq];unfold dC;simp only [hm,true_and];omega)
     ·first
       |(exfalso;omega)
       |(rw [eq_comm,decide_eq_false_iff_not];unfold dC;rw [hm];exact fun h=>Bool.noConfusion h.1)
    refine aj rfl rfl (aj rfl rfl (aj rfl rfl (aj rfl rfl (aj rfl rfl (bP rfl (bP rfl (bP rfl (aj rfl rfl ?_))))))));refine ab (aF (v:=.bool _) rfl rfl) (asb rfl (ak (ai (aG (bK (v:=.bool _) rfl rfl (⟨congrArg Value.bool ?_,(((ag.rfl_.next E1).next E9).next E28)⟩))))))
    (try simp only [aC,aH,and_true])
    rcases hXYZ with ⟨hm,hz,hx,hy⟩ | ⟨hm,hz⟩
    ·first
      |(rw [eq_comm,decide_eq_false_iff_not];unfold dC;simp only [hm,true_and];omega)
      |(rw [decide_eq_decide];unfold dC;simp only [hm,true_and];omega)
      |(rw [eq_comm,decide_eq_true_eq];unfold dC;simp only [hm,true_and];omega)
    ·first
      |(exfalso;omega)
      |(rw [eq_comm,decide_eq_false_iff_not];unfold dC;rw [hm];exact fun h=>Bool.noConfusion h.1)
   (try simp only [aC,aH,and_true] at Q7)
   refine aj rfl rfl (aj rfl rfl (aj rfl rfl (aj rfl rfl (ab (aF (v:=.bool _) rfl rfl) (mvb rfl (aj rfl rfl (aj rfl rfl (aj rfl rfl ?_))))))));refine aj rfl rfl (aj rfl rfl (bP rfl (bP rfl (bP rfl (aj rfl rfl (ab (aF (v:=.bool _) rfl rfl) (asb rfl (ak (ai (aG ?_))))))))));refine bK (v:=.bool _) rfl rfl (⟨congrArg Value.bool ?_,(((ag.rfl_.next E1).next E9).next E28)⟩)
   (try simp only [aC,aH,and_true])
   rcases hXYZ with ⟨hm,hz,hx,hy⟩ | ⟨hm,hz⟩
   ·first
     |(rw [eq_comm,decide_eq_false_iff_not];unfold dC;simp only [hm,true_and];omega)
     |(rw [decide_eq_decide];unfold dC;simp only [hm,true_and];omega)
     |(rw [eq_comm,decide_eq_true_eq];unfold dC;simp only [hm,true_and];omega)
   ·first
     |(exfalso;omega)
     |(rw [eq_comm,decide_eq_false_iff_not];unfold dC;rw [hm];exact fun h=>Bool.noConfusion h.1)
  (try simp only [aC,aH,and_true] at Q4)
  refine aj rfl rfl (aj rfl rfl (aj rfl rfl (aj rfl rfl (aj rfl rfl (aj rfl rfl (aj rfl rfl (aj rfl rfl (ab (aF (v:=.bool _) rfl rfl) ?_))))))));refine mvb rfl (aj rfl rfl (aj rfl rfl (aj rfl rfl (aj rfl rfl (ab (aF (v:=.bool _) rfl rfl) (mvb rfl (aj rfl rfl (aj rfl rfl ?_))))))));refine aj rfl rfl (aj rfl rfl (aj rfl rfl (bP rfl (bP rfl (bP rfl (aj rfl rfl (ab (aF (v:=.bool _) rfl rfl) (asb rfl ?_))))))));refine ak (ai (aG (bK (v:=.bool _) rfl rfl (⟨congrArg Value.bool ?_,((ag.rfl_.next E1).next E9)⟩))))
  (try simp only [aC,aH,and_true])
  rcases hXYZ with ⟨hm,hz,hx,hy⟩ | ⟨hm,hz⟩
  ·first
    |(rw [eq_comm,decide_eq_false_iff_not];unfold dC;simp only [hm,true_and];omega)
    |(rw [decide_eq_decide];unfold dC;simp only [hm,true_and];omega)
    |(rw [eq_comm,decide_eq_true_eq];unfold dC;simp only [hm,true_and];omega)
  ·first
    |(exfalso;omega)
    |(rw [eq_comm,decide_eq_false_iff_not];unfold dC;rw [hm];exact fun h=>Bool.noConfusion h.1)
 refine aj rfl rfl (aj rfl rfl (aj rfl rfl (aj rfl rfl (ab (aF (v:=.bool _) rfl rfl) (mvb rfl (aj rfl rfl (aj rfl rfl (aj rfl rfl ?_))))))));refine aj rfl rfl (aj rfl rfl (aj rfl rfl (aj rfl rfl (aj rfl rfl (ab (aF (v:=.bool _) rfl rfl) (mvb rfl (aj rfl rfl (aj rfl rfl ?_))))))));refine aj rfl rfl (aj rfl rfl (ab (aF (v:=.bool _) rfl rfl) (mvb rfl (aj rfl rfl (aj rfl rfl (aj rfl rfl (aj rfl rfl (aj rfl rfl ?_))))))));refine bP rfl (bP rfl (bP rfl (aj rfl rfl (ab (aF (v:=.bool _) rfl rfl) (asb rfl (ak (ai (aG (bK (v:=.bool _) rfl rfl (⟨congrArg Value.bool ?_,((ag.rfl_.next E1).next E9)⟩))))))))))
 (try simp only [aC,aH,and_true])
 rcases hXYZ with ⟨hm,hz,hx,hy⟩ | ⟨hm,hz⟩
 ·first
   |(rw [eq_comm,decide_eq_false_iff_not];unfold dC;simp only [hm,true_and];omega)
   |(rw [decide_eq_decide];unfold dC;simp only [hm,true_and];omega)
   |(rw [eq_comm,decide_eq_true_eq];unfold dC;simp only [hm,true_and];omega)
 ·first
   |(exfalso;omega)
   |(rw [eq_comm,decide_eq_false_iff_not];unfold dC;rw [hm];exact fun h=>Bool.noConfusion h.1)
theorem ks (s:Rf) (a:Ra) (w:World) :
 Rt prog 33 [.agg (rfV s a).toArray] w (fun v w'=>v=.bool (decide (dS s))∧ag w w'):=by
 refine enter (n:=23) Try.func33 rfl rfl rfl (an (ah (dw (v:=.agg _) rfl ?_)));intro b1 w1 E1 hb1 hk1;refine asb rfl (ak (ai (an (ah (ab (aa cV rfl) (ab (ar cu rfl (by exact (hk1.from_ ag.rfl_).rd 20 rfl)) ?_))))));refine ab (gD (by kernel_rfl) rfl) (ab (gj rfl rfl) (mvb rfl (rz (t:=7) rfl (fun Q2=>?_) (fun Q2=>?_))))
 ·refine af rfl (ab (aa cU rfl) (af rfl (ab (ar au rfl (by exact (hk1.from_ ag.rfl_).rd 21 rfl)) ?_)));refine af rfl (dq (v:=.int _ _) bf rfl rfl rfl ?_);intro b10 w3 E10 hb10 hk10;refine af rfl (aA bt (cw 0 1099511625728 (some ⟨b10,0,none⟩) 1 [s.partOf] _ (dr hk10) (by simp)) ?_);rintro v11 w4 ⟨rfl,rfl⟩;refine ab (ay (v:=.bool _) rfl rfl) (mvb rfl (rz (t:=13) rfl (fun Q5=>?_) (fun Q5=>?_)))
  ·(try simp only [aC,aH,and_true] at Q5)
   refine af rfl (ab (aa cU rfl) (af rfl (ab (ar au rfl (by exact (hk1.from_ (ag.rfl_.next E10)).rd 21 rfl)) ?_)));refine af rfl (ab (ef rfl rfl) (af rfl (mvb rfl (rz (t:=17) rfl (fun Q6=>?_) (fun Q6=>?_)))))
   ·refine aj rfl rfl (aj rfl rfl (aj rfl rfl (af rfl (ab (ay (v:=.bool _) rfl rfl) (ab (ay (v:=.bool _) rfl rfl) (asb rfl (ak (ai (aG (bK (v:=.bool _) rfl rfl ?_))))))))));refine ⟨congrArg Value.bool ?_,((ag.rfl_.next E1).next E10)⟩
    (try simp only [aC,aH,and_true])
    first
     |(rw [eq_comm,decide_eq_false_iff_not];unfold dS;omega)
     |(rw [decide_eq_decide];unfold dS;omega)
     |(rw [eq_comm,decide_eq_true_eq];unfold dS;omega)
   refine af rfl (ab (aa cV rfl) (af rfl (ab (ar cu rfl (by exact (hk1.from_ (ag.rfl_.next E10)).rd 20 rfl)) ?_)));refine af rfl (ab (jb (iM rfl rfl) (congrArg Value.bool (r9 s.part))) (af rfl (ab (aF (v:=.bool _) rfl rfl) (ab (ay (v:=.bool _) rfl rfl) (asb rfl (ak (ai (aG (bK (v:=.bool _) rfl rfl (⟨congrArg Value.bool ?_,((ag.rfl_.next E1).next E10)⟩))))))))))
   (try simp only [aC,aH,and_true])
   first
    |(rw [eq_comm,decide_eq_false_iff_not];unfold dS;omega)
    |(rw [decide_eq_decide];unfold dS;omega)
    |(rw [eq_comm,decide_eq_true_eq];unfold dS;omega)
  (try simp only [aC,aH,and_true] at Q5)
  refine aj rfl rfl (aj rfl rfl (aj rfl rfl (aj rfl rfl (bP rfl (bP rfl (bP rfl (aj rfl rfl (ab (aF (v:=.bool _) rfl rfl) ?_))))))));refine asb rfl (ak (ai (aG (bK (v:=.bool _) rfl rfl (⟨congrArg Value.bool ?_,((ag.rfl_.next E1).next E10)⟩)))))
  (try simp only [aC,aH,and_true])
  first
   |(rw [eq_comm,decide_eq_false_iff_not];unfold dS;omega)
   |(rw [decide_eq_decide];unfold dS;omega)
   |(rw [eq_comm,decide_eq_true_eq];unfold dS;omega)
 refine aj rfl rfl (aj rfl rfl (aj rfl rfl (aj rfl rfl (ab (aF (v:=.bool _) rfl rfl) (mvb rfl (aj rfl rfl (aj rfl rfl (aj rfl rfl ?_))))))));refine aj rfl rfl (bP rfl (bP rfl (bP rfl (aj rfl rfl (ab (aF (v:=.bool _) rfl rfl) (asb rfl (ak (ai (aG (bK (v:=.bool _) rfl rfl ?_))))))))));refine ⟨congrArg Value.bool ?_,(ag.rfl_.next E1)⟩
 (try simp only [aC,aH,and_true])
 first
  |(rw [eq_comm,decide_eq_false_iff_not];unfold dS;omega)
  |(rw [decide_eq_decide];unfold dS;omega)
  |(rw [eq_comm,decide_eq_true_eq];unfold dS;omega)
theorem j8 (A:Option Addr) (c:Nat) (l:List Int) (n:Int) (w:World) (hr:cD iV w A l) (hl:l.length≤1000000) :
 Rt prog 31 [.slice A l.length c,.int .i64 n] w (fun v w'=>v=.bool (dO l n)∧ag w w'):=by
 refine enter (n:=33) Try.func31 rfl rfl rfl (an (ah (asb rfl (ak (ai (an (an (ah (mvs rfl (ab (bU bj rfl) (mvi rfl (ak (ai (bd (df (G:=Nat) [4,5,6,10,11,12,13,14,15,16,17,18,19,20,21,22,23,24,25,26,27,28,29,30,31,32] (fun k=>[(9,.int .i64 (k:Nat))]) (fun k w'=>k≤l.length∧(∀ j (h:j<l.length),j<k→1≤l[j]∧l[j]≤n)∧(∀ j (h:j+1<l.length),j+1<k→l[j]<l[j+1])∧ag w w') (fun k=>l.length-k) (0) ⟨rfl,trivial⟩ ?_ ?_)))))))))))))))
 ·exact ⟨Nat.zero_le _,fun j _ h=>absurd h (by omega),fun j _ h=>absurd h (by omega),ag.rfl_⟩
 rintro k ρ1 w1 ⟨hk,h1,h2,hB⟩;refine an (ah (ab (cO rfl rfl) (ak (ai (an (r7 rfl (fun Q2=>?_) (fun Q2=>?_)))))))
 ·have hkx:k<l.length:=by omega
  obtain ⟨ba,oa,rfl,hca⟩:=hr (by omega);refine aO (ai (an (bd (an (ah (mvi rfl (ab (cg bR rfl rfl (by omega)) (ab (ar au rfl (by exact eQ hB (hca k hkx))) ?_))))))));refine asi rfl (asi rfl (ak (ai (an (ah (mvi rfl (mvi rfl (dq (v:=.int _ _) bf rfl rfl rfl ?_))))))));intro b16 w3 E16 hb16 hk16;refine aA bt (cw 1 n (some ⟨b16,0,none⟩) 1 [l[k]] _ (dr hk16) (by simp)) ?_;rintro v17 w4 ⟨rfl,rfl⟩;refine ab (di rfl) (mvb rfl (aP (t:=19) rfl (fun Q5=>?_) (fun Q5=>?_)))
  ·replace Q5:=eh Q5;replace Q5:=dF_ Q5
   (try simp only [aC,aH,and_true] at Q5)
   refine aj rfl rfl (aj rfl rfl (aj rfl rfl (bP rfl (bP rfl (bP rfl (bP rfl (bP rfl (bP rfl ?_))))))));refine bP rfl (aj rfl rfl (ab (ay (v:=.bool _) rfl rfl) (ak (ai (bL rfl (an (ah (asb rfl (ak (ai (aG (b_ (aN (aN (b_ (aN (bK (v:=.bool _) rfl rfl ?_)))))))))))))))));refine ⟨congrArg Value.bool ?_,(hB.next E16)⟩;rw [eq_comm,←Bool.not_eq_true,gl];rintro ⟨h3,h4⟩;have h5:=h3 _ (List.getElem_mem hkx)
   first
    |omega
    |(obtain ⟨j,rfl⟩:∃ j,k=j+1:=⟨k-1,by omega⟩
      have h6:=h4 j hkx
      (try simp only [Nat.add_sub_cancel] at*)
      omega)
  replace Q5:=ei Q5;replace Q5:=dT_ Q5
  (try simp only [aC,aH,and_true] at Q5)
  refine af rfl (mvi rfl (af rfl (ab (ef rfl rfl) (af rfl (mvb rfl (rz (t:=22) rfl (fun Q6=>?_) (fun Q6=>?_)))))))
  ·refine af rfl (mvs rfl (af rfl (mvi rfl (af rfl (ab (eH rfl rfl (by omega)) (dJ (t:=25) (v:=.int _ _) (v':=.int .i64 ((k-1:Nat):Int)) rfl (by exact aZ (by omega)) ?_))))));refine af rfl (ab (cg bR rfl rfl (by omega)) (af rfl (ab (ar au rfl (by exact eQ (hB.next E16) (hca (k-1) (by omega)))) ?_)));refine af rfl (mvi rfl (af rfl (ab (i_ rfl rfl) (af rfl (ab (ay (v:=.bool _) rfl rfl) (ab (aF (v:=.bool _) rfl rfl) (ak (ai (r7 rfl (fun Q7=>?_) (fun Q7=>?_))))))))))
   ·refine an (ah (asb rfl (ak (ai (aG (b_ (aN (aN (b_ (aN (bK (v:=.bool _) rfl rfl (⟨congrArg Value.bool ?_,(hB.next E16)⟩))))))))))));rw [eq_comm,←Bool.not_eq_true,gl];rintro ⟨h3,h4⟩;have h5:=h3 _ (List.getElem_mem hkx)
    first
     |omega
     |(obtain ⟨j,rfl⟩:∃ j,k=j+1:=⟨k-1,by omega⟩
       have h6:=h4 j hkx
       (try simp only [Nat.add_sub_cancel] at*)
       omega)
   refine aO (cx (ai (ah (ab (cL (b:=1) rfl rfl (by omega)) (mvi rfl (ak ?_))))));refine cy (k+1) ⟨(by first | rfl | (refine aZ ?_;omega)),trivial⟩ (by (iterate 56 refine bu rfl ?_);exact bT) ⟨?_,?_⟩
   ·refine ⟨by omega,fun j h hj=>?_,fun j h hj=>?_,(hB.next E16)⟩
    ·rcases Nat.lt_or_ge j k with e | e
     ·exact h1 j h e
     ·obtain rfl:j=k:=by omega
      omega
    ·rcases Nat.lt_or_ge (j+1) k with e | e
     ·exact h2 j h e
     ·obtain rfl:k=j+1:=by omega
      (try simp only [Nat.add_sub_cancel] at*)
      omega
   ·omega
  refine aj rfl rfl (aj rfl rfl (aj rfl rfl (aj rfl rfl (aj rfl rfl (aj rfl rfl (aj rfl rfl (af rfl (ab (aF (v:=.bool _) rfl rfl) ?_))))))));refine ab (aF (v:=.bool _) rfl rfl) (ak (ai (cS rfl (aO (cx (ai (ah (ab (cL (b:=1) rfl rfl (by omega)) (mvi rfl (ak ?_))))))))));refine cy (k+1) ⟨(by first | rfl | (refine aZ ?_;omega)),trivial⟩ (by (iterate 55 refine bu rfl ?_);exact bT) ⟨?_,?_⟩
  ·refine ⟨by omega,fun j h hj=>?_,fun j h hj=>?_,(hB.next E16)⟩
   ·rcases Nat.lt_or_ge j k with e | e
    ·exact h1 j h e
    ·obtain rfl:j=k:=by omega
     omega
   ·rcases Nat.lt_or_ge (j+1) k with e | e
    ·exact h2 j h e
    ·obtain rfl:k=j+1:=by omega
     (try simp only [Nat.add_sub_cancel] at*)
     omega
  ·omega
 refine cF (bg (bg (cf (ai (an (ah (asb rfl (ak (ai (aG (bK (v:=.bool _) rfl rfl (⟨congrArg Value.bool ?_,hB⟩))))))))))));obtain rfl:k=l.length:=by omega
 rw [eq_comm,gl];exact ⟨fun x hx=>by obtain ⟨j,hj,rfl⟩:=List.getElem_of_mem hx;exact h1 j hj hj,fun j hj=>h2 j hj hj⟩
theorem bS {s:Rf} (h:s.role=2):gh s↔((s.next.length:Int)=s.nodes∧(s.mtch.length:Int)=s.nodes∧(s.sent.length:Int)=s.nodes∧s.reads.length≤32)∧(dG 1 (aE s+1) s.next∧dG 0 (aE s) s.mtch∧dG 0 s.snap.size s.sent)∧(∀ q∈s.reads,fF s q=true):=by unfold gh;rw [if_pos h]
theorem fZ {s:Rf} (h:s.role≠2):gh s↔s.next.length+s.mtch.length+s.sent.length+s.reads.length=0:=by unfold gh;rw [if_neg h]
theorem eD {s:Rf} {q:Rd}:fF s q=true↔(1≤q.id∧q.id≤1099511627776)∧(0≤q.ix∧q.ix≤s.commit)∧(0≤q.rn∧q.rn≤s.round)∧dO q.acks s.nodes=true:=by
 unfold fF inb;simp only [Bool.and_eq_true,decide_eq_true_eq];constructor
 ·rintro ⟨⟨⟨h1,h2⟩,h3⟩,h4⟩;exact ⟨h1,h2,h3,h4⟩
 ·rintro ⟨h1,h2,h3,h4⟩;exact ⟨⟨⟨h1,h2⟩,h3⟩,h4⟩
theorem jN (s:Rf) (a:Ra) (w:World) (hrd:gu w s a) (hN:eA s) (hL:dC s) (hl:s.next.length≤1000000∧s.mtch.length≤1000000∧s.sent.length≤1000000∧s.reads.length≤1000000∧∀ q∈s.reads,q.acks.length≤1000000) :
 Rt prog 32 [.agg (rfV s a).toArray] w (fun v w'=>v=.bool (decide (gh s))∧ag w w'):=by
 obtain ⟨E,Ec,V,Vc,X,Xc,M,Mc,Sn,Sc,Q,Qc,LL⟩:=a;have hrL:LL.map (fun q=>q.1)=s.reads:=hrd.r;have hrk:∀ q∈LL,IR w q.2.1 q.2.2 q.1.acks:=hrd.k;obtain ⟨hl1,hl2,hl3,hl4,hl5⟩:=hl;have hbl:=eM hL.1;have hlr:aE s=s.b+s.es.length:=hbl.1;have hrl:LL.length=s.reads.length:=by rw [←hrL,List.length_map]
 have hN0:=hN.1;refine enter (n:=122) Try.func32 rfl rfl rfl (an (ah (dw (v:=.agg _) rfl ?_)));intro b1 w1 E1 hb1 hk1;refine asb rfl (ak (ai (an (an (ah (ab (aa ck rfl) (ab (ar au rfl (by exact (hk1.from_ ag.rfl_).rd 2 rfl)) ?_)))))));refine ab (dK rfl rfl) (ak (ai (r4 rfl (fun Q2=>?_) (fun Q2=>?_))))
 ·refine an (ah (ab (aa br rfl) (ab (ar aL rfl (by exact (show _=some (Value.slice X s.next.length Xc) from (hk1.from_ ag.rfl_).rd 15 rfl))) ?_)));refine ab (bU bj rfl) (ab (aa bA rfl) (ab (ar aL rfl (by exact (show _=some (Value.slice M s.mtch.length Mc) from (hk1.from_ ag.rfl_).rd 16 rfl))) ?_));refine ab (bU bj rfl) (ab (cL rfl rfl (by omega)) (ab (aa bN rfl) (ab (ar aL rfl (by exact (show _=some (Value.slice Sn s.sent.length Sc) from (hk1.from_ ag.rfl_).rd 17 rfl))) ?_)));refine ab (bU bj rfl) (ab (cL rfl rfl (by omega)) (ab (aa bq rfl) (ab (ar cI rfl (by exact (show _=some (Value.slice Q LL.length Qc) from (hk1.from_ ag.rfl_).rd 19 rfl))) ?_)));refine ab (bU dm rfl) (ab (cL rfl rfl (by omega)) (ab (bW rfl rfl) (asb rfl (ak (ai (aG (aN (bK (v:=.bool _) rfl rfl (⟨congrArg Value.bool ?_,(ag.rfl_.next E1)⟩)))))))));rw [Bool.eq_iff_iff,decide_eq_true_eq,fZ (by omega),beq_iff_eq];omega
 refine aO (ai (an (ah (ab (aa aY rfl) (ab (aa dB rfl) (ab (ar au rfl (by exact (hk1.from_ ag.rfl_).rd 6 rfl)) ?_))))));refine ab (aa aY rfl) (ab (aa dY rfl) (ab (ar fM rfl (by exact (hk1.from_ ag.rfl_).rd 8 rfl)) ?_));refine ab (bU iz rfl) (ab (cd rfl rfl (by omega)) (dJ (t:=32) (v:=.int _ _) (v':=.int .i64 (aE s)) rfl (by exact aZ hlr.symm) ?_));refine asi rfl (ak (ai (an (an (ah (ab (aa br rfl) (ab (ar aL rfl (by exact (show _=some (Value.slice X s.next.length Xc) from (hk1.from_ ag.rfl_).rd 15 rfl))) ?_)))))));refine ab (bU bj rfl) (ab (aa bc rfl) (ab (ar au rfl (by exact (hk1.from_ ag.rfl_).rd 1 rfl)) ?_));refine ab (dK rfl rfl) (mvb rfl (ru (t:=39) rfl (fun Q3=>?_) (fun Q3=>?_)))
 ·refine aj rfl rfl (aj rfl rfl (aj rfl rfl (aj rfl rfl (aj rfl rfl (aj rfl rfl (ab (ay (v:=.bool _) rfl rfl) (mvb rfl (aj rfl rfl ?_))))))));refine aj rfl rfl (aj rfl rfl (aj rfl rfl (aj rfl rfl (aj rfl rfl (ab (ay (v:=.bool _) rfl rfl) (mvb rfl (aj rfl rfl (aj rfl rfl ?_))))))));refine aj rfl rfl (aj rfl rfl (ab (ay (v:=.bool _) rfl rfl) (ak (ai (bL rfl (an (ah (asb rfl (ak (ai (aG (aN (bK (v:=.bool _) rfl rfl ?_)))))))))))));refine ⟨congrArg Value.bool ?_,(ag.rfl_.next E1)⟩;rw [eq_comm,decide_eq_false_iff_not];rw [bS (by omega)];rintro ⟨⟨g1,g2,g3,g4⟩,_⟩;omega
 refine af rfl (ab (aa bA rfl) (af rfl (ab (ar aL rfl (by exact (show _=some (Value.slice M s.mtch.length Mc) from (hk1.from_ ag.rfl_).rd 16 rfl))) ?_)));refine af rfl (ab (bU bj rfl) (af rfl (ab (aa bc rfl) (af rfl (ab (ar au rfl (by exact (hk1.from_ ag.rfl_).rd 1 rfl)) ?_)))));refine af rfl (ab (dK rfl rfl) (ab (aF (v:=.bool _) rfl rfl) (mvb rfl (ru (t:=47) rfl (fun Q4=>?_) (fun Q4=>?_)))))
 ·refine aj rfl rfl (aj rfl rfl (aj rfl rfl (aj rfl rfl (aj rfl rfl (aj rfl rfl (ab (ay (v:=.bool _) rfl rfl) (mvb rfl (aj rfl rfl ?_))))))));refine aj rfl rfl (aj rfl rfl (aj rfl rfl (ab (ay (v:=.bool _) rfl rfl) (ak (ai (bL rfl (an (ah (asb rfl (ak (ai (aG (aN ?_)))))))))))));refine bK (v:=.bool _) rfl rfl (⟨congrArg Value.bool ?_,(ag.rfl_.next E1)⟩);rw [eq_comm,decide_eq_false_iff_not];rw [bS (by omega)];rintro ⟨⟨g1,g2,g3,g4⟩,_⟩;omega
 refine af rfl (ab (aa bN rfl) (af rfl (ab (ar aL rfl (by exact (show _=some (Value.slice Sn s.sent.length Sc) from (hk1.from_ ag.rfl_).rd 17 rfl))) ?_)));refine af rfl (ab (bU bj rfl) (af rfl (ab (aa bc rfl) (af rfl (ab (ar au rfl (by exact (hk1.from_ ag.rfl_).rd 1 rfl)) ?_)))));refine af rfl (ab (dK rfl rfl) (ab (aF (v:=.bool _) rfl rfl) (mvb rfl (ru (t:=55) rfl (fun Q5=>?_) (fun Q5=>?_)))))
 ·refine aj rfl rfl (aj rfl rfl (aj rfl rfl (aj rfl rfl (ab (ay (v:=.bool _) rfl rfl) (ak (ai (bL rfl (an (ah (asb rfl ?_))))))))));refine ak (ai (aG (aN (bK (v:=.bool _) rfl rfl (⟨congrArg Value.bool ?_,(ag.rfl_.next E1)⟩)))));rw [eq_comm,decide_eq_false_iff_not];rw [bS (by omega)];rintro ⟨⟨g1,g2,g3,g4⟩,_⟩;omega
 refine af rfl (ab (aa bq rfl) (af rfl (ab (ar cI rfl (by exact (show _=some (Value.slice Q LL.length Qc) from (hk1.from_ ag.rfl_).rd 19 rfl))) ?_)));refine af rfl (ab (bU dm rfl) (af rfl (ab (ef rfl rfl) (ab (aF (v:=.bool _) rfl rfl) (ak (ai (r7 rfl (fun Q6=>?_) (fun Q6=>?_))))))))
 ·refine an (ah (asb rfl (ak (ai (aG (aN (bK (v:=.bool _) rfl rfl (⟨congrArg Value.bool ?_,(ag.rfl_.next E1)⟩))))))));rw [eq_comm,decide_eq_false_iff_not];rw [bS (by omega)];rintro ⟨⟨g1,g2,g3,g4⟩,_⟩;omega
 refine aO (ai (an (an (ah (mvi rfl (ab (cd rfl rfl (by omega)) (ab (aa br rfl) (ab (ar aL rfl (by exact (show _=some (Value.slice X s.next.length Xc) from (hk1.from_ ag.rfl_).rd 15 rfl))) ?_))))))));refine aA bt (cw 1 (aE s+1) X Xc s.next _ (hrd.x.1.from_ (ag.rfl_.next E1)) hl1) ?_;rintro v65 w7 ⟨rfl,rfl⟩;refine ab (di rfl) (mvb rfl (aP (t:=67) rfl (fun Q8=>?_) (fun Q8=>?_)))
 ·with_reducible (replace Q8:=eh Q8;replace Q8:=dF_ Q8)
  (try simp only [aC,aH,and_true] at Q8)
  refine aj rfl rfl (aj rfl rfl (aj rfl rfl (aj rfl rfl (aj rfl rfl (ab (ay (v:=.bool _) rfl rfl) (mvb rfl (aj rfl rfl (aj rfl rfl ?_))))))));refine aj rfl rfl (aj rfl rfl (aj rfl rfl (aj rfl rfl (aj rfl rfl (ab (ay (v:=.bool _) rfl rfl) (ak (ai (bL rfl (an (ah ?_))))))))));refine asb rfl (ak (ai (aG (aN (bK (v:=.bool _) rfl rfl (⟨congrArg Value.bool ?_,(ag.rfl_.next E1)⟩))))));rw [eq_comm,decide_eq_false_iff_not];rw [bS (by omega)];rintro ⟨_,⟨g1,g2,g3⟩,_⟩
  simp_all
 with_reducible (replace Q8:=ei Q8;replace Q8:=dT_ Q8)
 (try simp only [aC,aH,and_true] at Q8)
 refine af rfl (mvi rfl (af rfl (ab (aa bA rfl) (af rfl (ab (ar aL rfl (by exact (show _=some (Value.slice M s.mtch.length Mc) from (hk1.from_ ag.rfl_).rd 16 rfl))) ?_)))));refine af rfl (aA bt (cw 0 (aE s) M Mc s.mtch _ (hrd.m.1.from_ (ag.rfl_.next E1)) hl2) ?_);rintro v71 w9 ⟨rfl,rfl⟩;refine af rfl (ab (di rfl) (ab (aF (v:=.bool _) rfl rfl) (mvb rfl (aP (t:=74) rfl (fun Q10=>?_) (fun Q10=>?_)))))
 ·with_reducible (replace Q10:=eh Q10;replace Q10:=dF_ Q10)
  (try simp only [aC,aH,and_true] at Q10)
  refine aj rfl rfl (aj rfl rfl (aj rfl rfl (aj rfl rfl (aj rfl rfl (aj rfl rfl (aj rfl rfl (ab (ay (v:=.bool _) rfl rfl) (ak (ai ?_)))))))));refine bL rfl (an (ah (asb rfl (ak (ai (aG (aN (bK (v:=.bool _) rfl rfl (⟨congrArg Value.bool ?_,(ag.rfl_.next E1)⟩)))))))));rw [eq_comm,decide_eq_false_iff_not];rw [bS (by omega)];rintro ⟨_,⟨g1,g2,g3⟩,_⟩
  simp_all
 with_reducible (replace Q10:=ei Q10;replace Q10:=dT_ Q10)
 (try simp only [aC,aH,and_true] at Q10)
 refine af rfl (ab (aa cB rfl) (af rfl (ab (ar cu rfl (by exact (hk1.from_ ag.rfl_).rd 9 rfl)) ?_)));refine af rfl (ab (gD (by kernel_rfl) rfl) (af rfl (ab (aa bN rfl) (af rfl (ab (ar aL rfl (by exact (show _=some (Value.slice Sn s.sent.length Sc) from (hk1.from_ ag.rfl_).rd 17 rfl))) ?_)))));refine af rfl (aA bt (cw 0 (s.snap.size:Nat) Sn Sc s.sent _ (hrd.n.1.from_ (ag.rfl_.next E1)) hl3) ?_);rintro v80 w11 ⟨rfl,rfl⟩;refine af rfl (ab (di rfl) (ab (aF (v:=.bool _) rfl rfl) (ak (ai (aT rfl (fun Q12=>?_) (fun Q12=>?_))))))
 ·with_reducible (replace Q12:=eh Q12;replace Q12:=dF_ Q12)
  refine an (ah (asb rfl (ak (ai (aG (aN (bK (v:=.bool _) rfl rfl (⟨congrArg Value.bool ?_,(ag.rfl_.next E1)⟩))))))));rw [eq_comm,decide_eq_false_iff_not];rw [bS (by omega)];rintro ⟨_,⟨g1,g2,g3⟩,_⟩
  simp_all
 with_reducible (replace Q12:=ei Q12;replace Q12:=dT_ Q12)
 refine aO (ai (an (an (ah (ab (aa bq rfl) (ab (ar cI rfl (by exact (show _=some (Value.slice Q LL.length Qc) from (hk1.from_ ag.rfl_).rd 19 rfl))) ?_))))));refine ab (bU dm rfl) (mvi rfl (ak (ai (bd (df (G:=Nat) [2,5,87,88,89,90,91,92,93,94,95,96,97,98,99,100,101,102,103,104,105,106,107,108,109,110,111,112,113,114,115,116,117,118,119,120,121] (fun k=>[(86,.int .i64 (k:Nat))]) (fun k w'=>k≤LL.length∧(∀ j (h:j<LL.length),j<k→fF s LL[j].1=true)∧Blk w' b1 32 (rfV s (⟨E,Ec,V,Vc,X,Xc,M,Mc,Sn,Sc,Q,Qc,LL⟩:Ra)).toArray∧ag w w') (fun k=>LL.length-k) (0) ⟨rfl,trivial⟩ ?_ ?_)))))
 ·exact ⟨Nat.zero_le _,fun j _ h=>absurd h (by omega),hk1.from_ ag.rfl_,(ag.rfl_.next E1)⟩
 rintro k ρ13 w13 ⟨hk,h1,hk1,hB⟩;refine an (ah (ab (cO rfl rfl) (ak (ai (an (r7 rfl (fun Q14=>?_) (fun Q14=>?_)))))))
 ·have hkL:k<LL.length:=by omega
  have hqm:LL[k].1∈s.reads:=by rw [←hrL];exact List.mem_map_of_mem (List.getElem_mem hkL)
  obtain ⟨ba,oa,rfl,hcs⟩:∃ b o,Q=some ⟨b,o,none⟩∧∀ i (hi:i<LL.length),w.rangeAt b (o+i*4) (rdV LL[i]):=hrd.q (by show 0<LL.length;omega);refine aO (ai (an (bd (an (ah (ab (cJ ed rfl rfl (by omega)) (ab (bh (cs:=rdV LL[k]) fP e_ rfl (gk hB (hcs k hkL))) (dg lS ?_))))))));intro b5 w15 E5 hb5 hk5;have hg5:w.heap.size≤b5:=by rw [hb5];exact (hB).size
  have hk1L:=hk1.from_ (ag.rfl_.next E5);have hn5:b1≠b5:=by have:=hk1.lt;have:=((ag.rfl_.next E5)).size;omega
  refine dp (vs:=[_,_,_,_]) e_ rfl rfl (by simp [Value.oneCell']) (hk5) rfl ?_;intro w16 O10 P10;replace hk1:=hk1L.only O10 hn5;refine ak (ai (an (ah (ab (aa ff rfl) (ab (ar au rfl (by exact (show _=some (Value.int .i64 LL[k].1.id) from (P10.from_ ag.rfl_).rd 0 rfl))) ?_)))));refine dq (v:=.int _ _) bf rfl rfl rfl ?_;intro b92 w17 E92 hb92 hk92;refine aA bt (cw 1 1099511627776 (some ⟨b92,0,none⟩) 1 [LL[k].1.id] _ (dr hk92) (by simp)) ?_;rintro v93 w18 ⟨rfl,rfl⟩;refine ab (di rfl) (mvb rfl (aP (t:=95) rfl (fun Q19=>?_) (fun Q19=>?_)))
  ·with_reducible (replace Q19:=eh Q19;replace Q19:=dF_ Q19)
   (try simp only [aC,aH,and_true] at Q19)
   refine aj rfl rfl (aj rfl rfl (aj rfl rfl (aj rfl rfl (aj rfl rfl (aj rfl rfl (aj rfl rfl (ab (ay (v:=.bool _) rfl rfl) (mvb rfl ?_))))))));refine aj rfl rfl (aj rfl rfl (aj rfl rfl (aj rfl rfl (aj rfl rfl (aj rfl rfl (aj rfl rfl (ab (ay (v:=.bool _) rfl rfl) (mvb rfl ?_))))))));refine aj rfl rfl (aj rfl rfl (aj rfl rfl (aj rfl rfl (aj rfl rfl (aj rfl rfl (ab (ay (v:=.bool _) rfl rfl) (ak (ai (bL rfl ?_)))))))));refine an (ah (asb rfl (ak (ai (aG (b_ (aN (aN (b_ (aN (bK (v:=.bool _) rfl rfl (⟨congrArg Value.bool ?_,(((hB.next E5).only O10 (hg5)).next E92)⟩))))))))))));rw [eq_comm,decide_eq_false_iff_not];rw [bS (by omega)];rintro ⟨_,_,g⟩;have g5:=eD.1 (g _ hqm)
   first
    |omega
    |simp_all
  with_reducible (replace Q19:=ei Q19;replace Q19:=dT_ Q19)
  (try simp only [aC,aH,and_true] at Q19)
  refine af rfl (ab (aa cj rfl) (af rfl (ab (ar au rfl (by exact (hk1.from_ (ag.rfl_.next E92)).rd 10 rfl)) ?_)));refine af rfl (ab (aa fe rfl) (af rfl (ab (ar au rfl (by exact (show _=some (Value.int .i64 LL[k].1.ix) from (P10.from_ (ag.rfl_.next E92)).rd 1 rfl))) ?_)));refine af rfl (dq (v:=.int _ _) bf rfl rfl rfl ?_);intro b100 w20 E100 hb100 hk100;refine af rfl (aA bt (cw 0 s.commit (some ⟨b100,0,none⟩) 1 [LL[k].1.ix] _ (dr hk100) (by simp)) ?_);rintro v101 w21 ⟨rfl,rfl⟩;refine af rfl (ab (di rfl) (ab (aF (v:=.bool _) rfl rfl) (mvb rfl (aP (t:=104) rfl (fun Q22=>?_) (fun Q22=>?_)))))
  ·with_reducible (replace Q22:=eh Q22;replace Q22:=dF_ Q22)
   (try simp only [aC,aH,and_true] at Q22)
   refine aj rfl rfl (aj rfl rfl (aj rfl rfl (aj rfl rfl (aj rfl rfl (aj rfl rfl (aj rfl rfl (ab (ay (v:=.bool _) rfl rfl) (mvb rfl ?_))))))));refine aj rfl rfl (aj rfl rfl (aj rfl rfl (aj rfl rfl (aj rfl rfl (aj rfl rfl (ab (ay (v:=.bool _) rfl rfl) (ak (ai (bL rfl ?_)))))))));refine an (ah (asb rfl (ak (ai (aG (b_ (aN (aN (b_ (aN (bK (v:=.bool _) rfl rfl (⟨congrArg Value.bool ?_,((((hB.next E5).only O10 (hg5)).next E92).next E100)⟩))))))))))));rw [eq_comm,decide_eq_false_iff_not];rw [bS (by omega)];rintro ⟨_,_,g⟩;have g5:=eD.1 (g _ hqm)
   first
    |omega
    |simp_all
  with_reducible (replace Q22:=ei Q22;replace Q22:=dT_ Q22)
  (try simp only [aC,aH,and_true] at Q22)
  refine af rfl (ab (aa cq rfl) (af rfl (ab (ar au rfl (by exact (hk1.from_ ((ag.rfl_.next E92).next E100)).rd 18 rfl)) ?_)));refine af rfl (ab (aa fc rfl) (af rfl (ab (ar au rfl (by exact (show _=some (Value.int .i64 LL[k].1.rn) from (P10.from_ ((ag.rfl_.next E92).next E100)).rd 2 rfl))) ?_)));refine af rfl (dq (v:=.int _ _) bf rfl rfl rfl ?_);intro b109 w23 E109 hb109 hk109;refine af rfl (aA bt (cw 0 s.round (some ⟨b109,0,none⟩) 1 [LL[k].1.rn] _ (dr hk109) (by simp)) ?_);rintro v110 w24 ⟨rfl,rfl⟩;refine af rfl (ab (di rfl) (ab (aF (v:=.bool _) rfl rfl) (mvb rfl (aP (t:=113) rfl (fun Q25=>?_) (fun Q25=>?_)))))
  ·with_reducible (replace Q25:=eh Q25;replace Q25:=dF_ Q25)
   (try simp only [aC,aH,and_true] at Q25)
   refine aj rfl rfl (aj rfl rfl (aj rfl rfl (aj rfl rfl (aj rfl rfl (aj rfl rfl (ab (ay (v:=.bool _) rfl rfl) (ak (ai (bL rfl ?_)))))))));refine an (ah (asb rfl (ak (ai (aG (b_ (aN (aN (b_ (aN (bK (v:=.bool _) rfl rfl (⟨congrArg Value.bool ?_,(((((hB.next E5).only O10 (hg5)).next E92).next E100).next E109)⟩))))))))))));rw [eq_comm,decide_eq_false_iff_not];rw [bS (by omega)];rintro ⟨_,_,g⟩;have g5:=eD.1 (g _ hqm)
   first
    |omega
    |simp_all
  with_reducible (replace Q25:=ei Q25;replace Q25:=dT_ Q25)
  (try simp only [aC,aH,and_true] at Q25)
  refine af rfl (ab (aa dz rfl) (af rfl (ab (ar aL rfl (by exact (show _=some (Value.slice LL[k].2.1 LL[k].1.acks.length LL[k].2.2) from (P10.from_ (((ag.rfl_.next E92).next E100).next E109)).rd 3 rfl))) ?_)));refine af rfl (ab (aa bc rfl) (af rfl (ab (ar au rfl (by exact (hk1.from_ (((ag.rfl_.next E92).next E100).next E109)).rd 1 rfl)) ?_)));refine af rfl (aA iB (j8 LL[k].2.1 LL[k].2.2 LL[k].1.acks s.nodes _ ((hrk _ (List.getElem_mem hkL)).1.from_ (((((hB.next E5).only O10 (hg5)).next E92).next E100).next E109)) (hl5 _ hqm)) ?_);rintro v118 w26 ⟨rfl,E118⟩;refine af rfl (ab (di rfl) (ab (aF (v:=.bool _) rfl rfl) (ak (ai (r5 rfl (fun Q27=>?_) (fun Q27=>?_))))))
  ·refine an (ah (asb rfl (ak (ai (aG (b_ (aN (aN (b_ (aN (bK (v:=.bool _) rfl rfl (⟨congrArg Value.bool ?_,((((((hB.next E5).only O10 (hg5)).next E92).next E100).next E109).next E118)⟩))))))))))));rw [eq_comm,decide_eq_false_iff_not];rw [bS (by omega)];rintro ⟨_,_,g⟩;have g5:=eD.1 (g _ hqm)
   first
    |omega
    |simp_all
  refine aO (cx (ai (ah (ab (cd rfl rfl (by omega)) (mvi rfl (ak ?_))))));refine cy (k+1) ⟨(by first | rfl | (refine aZ ?_;omega)),trivial⟩ (by (iterate 78 refine bu rfl ?_);exact bT) ⟨?_,?_⟩
  ·refine ⟨by omega,fun j h hj=>?_,hk1.from_ ((((ag.rfl_.next E92).next E100).next E109).next E118),((((((hB.next E5).only O10 (hg5)).next E92).next E100).next E109).next E118)⟩;rcases Nat.lt_or_ge j k with e | e
   ·exact h1 j h e
   ·obtain rfl:j=k:=by omega
    rw [eD];exact ⟨by omega,by omega,by omega,by first | assumption | simp_all⟩
  ·omega
 refine cF (bg (bg (cf (ai (an (ah (asb rfl (ak (ai (aG (bK (v:=.bool _) rfl rfl (⟨congrArg Value.bool ?_,hB⟩))))))))))));rw [eq_comm,decide_eq_true_eq];rw [bS (by omega)];refine ⟨⟨by omega,by omega,by omega,by omega⟩,⟨?_,?_,?_⟩,fun q hq=>?_⟩
 ·simp_all
 ·simp_all
 ·simp_all
 ·rw [←hrL] at hq;obtain ⟨y,hy,rfl⟩:=List.mem_map.1 hq;obtain ⟨i,hi,rfl⟩:=List.getElem_of_mem hy;exact h1 i hi (by omega)
theorem eb {s:Rf}:jQ s=true↔eA s∧dC s∧dO s.votes s.nodes=true∧gh s∧dS s:=by
 constructor
 ·intro h;have F:=mC h;have hl:=F.last;refine ⟨⟨F.n,F.i,F.ro,⟨F.vo,F.le⟩,F.te,F.el,F.ti,F.rn⟩,⟨F.lg,F.lt,F.co,F.sn,?_⟩,F.vs,?_,⟨F.pa,F.po,?_⟩⟩
  ·have:=F.sb;omega
  ·by_cases hr:s.role=2
   ·rw [bS hr];have hx:=F.nx;have hm:=F.ma;have hs:=F.se;rw [eX hr] at hx hm hs;have:=F.n;exact ⟨⟨by omega,by omega,by omega,F.rl⟩,⟨hx.2,hm.2,hs.2⟩,F.rd⟩
   ·rw [fZ hr];obtain ⟨e1,e2,e3,e4⟩:=F.free hr;rw [e1,e2,e3,e4];rfl
  ·have:=F.pp;have:=F.po;omega
 ·rintro ⟨⟨n,i,ro,⟨vo,le⟩,te,el,ti,rn⟩,⟨lg,lt,co,sn,sb⟩,vs,ls,⟨pa,po,pp⟩⟩;have hbl:=eM lg
  have key:(s.next.length=dE s∧∀ x∈s.next,1≤x∧x≤aE s+1)∧(s.mtch.length=dE s∧∀ x∈s.mtch,0≤x∧x≤aE s)∧(s.sent.length=dE s∧∀ x∈s.sent,0≤x∧x≤(s.snap.size:Int))∧s.reads.length≤32∧(dE s≠0∨s.reads.length=0)∧∀ q∈s.reads,fF s q=true:=by
   by_cases hr:s.role=2
   ·rw [bS hr] at ls;obtain ⟨⟨l1,l2,l3,l4⟩,⟨g1,g2,g3⟩,g4⟩:=ls;rw [eX hr];exact ⟨⟨by omega,g1⟩,⟨by omega,g2⟩,⟨by omega,g3⟩,l4,.inl (by omega),g4⟩
   ·rw [fZ hr] at ls;rw [iO hr];have e1:s.next=[]:=List.eq_nil_of_length_eq_zero (by omega);have e2:s.mtch=[]:=List.eq_nil_of_length_eq_zero (by omega);have e3:s.sent=[]:=List.eq_nil_of_length_eq_zero (by omega);have e4:s.reads=[]:=List.eq_nil_of_length_eq_zero (by omega);rw [e1,e2,e3,e4];exact ⟨⟨rfl,fun x hx=>by cases hx⟩,⟨rfl,fun x hx=>by cases hx⟩,⟨rfl,fun x hx=>by cases hx⟩,by decide,.inr rfl,fun x hx=>by cases hx⟩
  obtain ⟨k1,k2,k3,k4,k5,k6⟩:=key;unfold jQ cz ki;simp only [Bool.and_eq_true,Bool.or_eq_true,decide_eq_true_eq,List.all_eq_true];exact ⟨⟨⟨⟨⟨⟨⟨⟨⟨⟨⟨⟨⟨⟨⟨⟨⟨⟨⟨⟨⟨⟨⟨⟨n.1,n.2⟩,cZ i⟩,cZ ro⟩,cZ te⟩,cZ vo⟩,cZ le⟩,lg⟩,sn⟩,by omega⟩,cZ el⟩,cZ ti⟩,cZ rn⟩,vs⟩,lt⟩,cZ co⟩,pa⟩,cZ po⟩,by omega⟩,k1⟩,k2⟩,k3⟩,k4⟩,k5⟩,k6⟩
theorem pG (s:Rf) (a:Ra) (w:World) (hrd:gu w s a) (hl:s.votes.length≤1000000∧s.next.length≤1000000∧s.mtch.length≤1000000∧s.sent.length≤1000000∧s.reads.length≤1000000∧∀ q∈s.reads,q.acks.length≤1000000) :
 Rt prog 23 [.agg (rfV s a).toArray] w (fun v w'=>v=.int .i64 (if jQ s=true then 0 else 1)∧ag w w'):=by
 refine enter (n:=29) Try.func23 rfl rfl rfl (an (ah (dw (v:=.agg _) rfl ?_)));intro b1 w1 E1 hb1 hk1;refine asi rfl (ak (ai (an (an (ah (ab (bh (cs:=rfV s a) a_ aQ rfl ((hk1.from_ ag.rfl_).whole)) (aA lW (iF s a _) ?_)))))));rintro v4 w2 ⟨rfl,E4⟩;refine ab (di rfl) (mvb rfl (aP (t:=6) rfl (fun Q3=>?_) (fun Q3=>?_)))
 ·replace Q3:=eh Q3;replace Q3:=dF_ Q3;have hNn:¬ eA s:=by first | exact Q3 | simpa using Q3
  refine aj rfl rfl (aj rfl rfl (aj rfl rfl (ab (ay (v:=.bool _) rfl rfl) (mvb rfl (aj rfl rfl (aj rfl rfl (aj rfl rfl (aj rfl rfl ?_))))))));refine aj rfl rfl (aj rfl rfl (ab (ay (v:=.bool _) rfl rfl) (mvb rfl (aj rfl rfl (aj rfl rfl (aj rfl rfl (ab (ay (v:=.bool _) rfl rfl) (mvb rfl ?_))))))));refine aj rfl rfl (aj rfl rfl (aj rfl rfl (ab (ay (v:=.bool _) rfl rfl) (ak (ai (bL rfl (an (ah (asi rfl (ak (ai (aG (aN ?_)))))))))))));refine bK (v:=.int _ _) rfl rfl (⟨aZ (by rw [if_neg (fun h=>by obtain ⟨g1,g2,g3,g4,g5⟩:=eb.1 h;first | exact hNn g1 | exact hLn g2 | exact hVn g3 | exact hSn g4 | exact hPn g5)]),((ag.rfl_.next E1).next E4)⟩)
 replace Q3:=ei Q3;replace Q3:=dT_ Q3;have hN:eA s:=by first | exact Q3 | simpa using Q3
 refine af rfl (ab (bh (cs:=rfV s a) a_ aQ rfl ((hk1.from_ (ag.rfl_.next E4)).whole)) (af rfl (aA lV (kX s a _ (hrd.e.from_ ((ag.rfl_.next E1).next E4))) ?_)));rintro v8 w4 ⟨rfl,E8⟩;refine af rfl (ab (di rfl) (ab (aF (v:=.bool _) rfl rfl) (mvb rfl (aP (t:=11) rfl (fun Q5=>?_) (fun Q5=>?_)))))
 ·replace Q5:=eh Q5;replace Q5:=dF_ Q5;have hLn:¬ dC s:=by first | exact Q5 | simpa using Q5
  refine aj rfl rfl (aj rfl rfl (aj rfl rfl (aj rfl rfl (aj rfl rfl (aj rfl rfl (ab (ay (v:=.bool _) rfl rfl) (mvb rfl (aj rfl rfl ?_))))))));refine aj rfl rfl (aj rfl rfl (ab (ay (v:=.bool _) rfl rfl) (mvb rfl (aj rfl rfl (aj rfl rfl (aj rfl rfl (ab (ay (v:=.bool _) rfl rfl) (ak (ai ?_)))))))));refine bL rfl (an (ah (asi rfl (ak (ai (aG (aN (bK (v:=.int _ _) rfl rfl (⟨aZ (by rw [if_neg (fun h=>by obtain ⟨g1,g2,g3,g4,g5⟩:=eb.1 h;first | exact hNn g1 | exact hLn g2 | exact hVn g3 | exact hSn g4 | exact hPn g5)]),(((ag.rfl_.next E1).next E4).next E8)⟩)))))))))
 replace Q5:=ei Q5;replace Q5:=dT_ Q5;have hL:dC s:=by first | exact Q5 | simpa using Q5
 refine af rfl (ab (aa bX rfl) (af rfl (ab (ar aL rfl (by exact (show _=some (Value.slice a.V s.votes.length a.Vc) from (hk1.from_ ((ag.rfl_.next E4).next E8)).rd 14 rfl))) ?_)));refine af rfl (ab (aa bc rfl) (af rfl (ab (ar au rfl (by exact (hk1.from_ ((ag.rfl_.next E4).next E8)).rd 1 rfl)) ?_)));refine af rfl (aA iB (j8 a.V a.Vc s.votes s.nodes _ (hrd.v.1.from_ (((ag.rfl_.next E1).next E4).next E8)) hl.1) ?_);rintro v16 w6 ⟨rfl,E16⟩;refine af rfl (ab (di rfl) (ab (aF (v:=.bool _) rfl rfl) (mvb rfl (rv (t:=19) rfl (fun Q7=>?_) (fun Q7=>?_)))))
 ·have hVn:¬ dO s.votes s.nodes=true:=by first | exact Q7 | simpa using Q7
  refine aj rfl rfl (aj rfl rfl (aj rfl rfl (ab (ay (v:=.bool _) rfl rfl) (mvb rfl (aj rfl rfl (aj rfl rfl (aj rfl rfl (ab (ay (v:=.bool _) rfl rfl) ?_))))))));refine ak (ai (bL rfl (an (ah (asi rfl (ak (ai (aG (aN (bK (v:=.int _ _) rfl rfl (⟨aZ (by rw [if_neg (fun h=>by obtain ⟨g1,g2,g3,g4,g5⟩:=eb.1 h;first | exact hNn g1 | exact hLn g2 | exact hVn g3 | exact hSn g4 | exact hPn g5)]),((((ag.rfl_.next E1).next E4).next E8).next E16)⟩)))))))))))
 have hV:dO s.votes s.nodes=true:=by first | exact Q7 | simpa using Q7
 refine af rfl (ab (bh (cs:=rfV s a) a_ aQ rfl ((hk1.from_ (((ag.rfl_.next E4).next E8).next E16)).whole)) (af rfl (aA lU (jN s a _ (hrd.from_ ((((ag.rfl_.next E1).next E4).next E8).next E16)) hN hL hl.2) ?_)));rintro v21 w8 ⟨rfl,E21⟩;refine af rfl (ab (di rfl) (ab (aF (v:=.bool _) rfl rfl) (mvb rfl (aP (t:=24) rfl (fun Q9=>?_) (fun Q9=>?_)))))
 ·replace Q9:=eh Q9;replace Q9:=dF_ Q9;have hSn:¬ gh s:=by first | exact Q9 | simpa using Q9
  refine aj rfl rfl (aj rfl rfl (aj rfl rfl (ab (ay (v:=.bool _) rfl rfl) (ak (ai (bL rfl (an (ah (asi rfl (ak (ai (aG (aN ?_)))))))))))));refine bK (v:=.int _ _) rfl rfl (⟨aZ (by rw [if_neg (fun h=>by obtain ⟨g1,g2,g3,g4,g5⟩:=eb.1 h;first | exact hNn g1 | exact hLn g2 | exact hVn g3 | exact hSn g4 | exact hPn g5)]),(((((ag.rfl_.next E1).next E4).next E8).next E16).next E21)⟩)
 replace Q9:=ei Q9;replace Q9:=dT_ Q9;have hS:gh s:=by first | exact Q9 | simpa using Q9
 refine af rfl (ab (bh (cs:=rfV s a) a_ aQ rfl ((hk1.from_ ((((ag.rfl_.next E4).next E8).next E16).next E21)).whole)) (af rfl (aA lT (ks s a _) ?_)));rintro v26 w10 ⟨rfl,E26⟩;refine af rfl (ab (di rfl) (ab (aF (v:=.bool _) rfl rfl) (ak (ai (aT rfl (fun Q11=>?_) (fun Q11=>?_))))))
 ·replace Q11:=eh Q11;replace Q11:=dF_ Q11;have hPn:¬ dS s:=by first | exact Q11 | simpa using Q11
  refine an (ah (asi rfl (ak (ai (aG (aN (bK (v:=.int _ _) rfl rfl (⟨aZ (by rw [if_neg (fun h=>by obtain ⟨g1,g2,g3,g4,g5⟩:=eb.1 h;first | exact hNn g1 | exact hLn g2 | exact hVn g3 | exact hSn g4 | exact hPn g5)]),((((((ag.rfl_.next E1).next E4).next E8).next E16).next E21).next E26)⟩))))))))
 replace Q11:=ei Q11;replace Q11:=dT_ Q11;have hP:dS s:=by first | exact Q11 | simpa using Q11
 refine aO (ai (an (ah (asi rfl (ak (ai (aG (bK (v:=.int _ _) rfl rfl (⟨aZ (by rw [if_pos (eb.2 ⟨hN,hL,hV,hS,hP⟩)]),((((((ag.rfl_.next E1).next E4).next E8).next E16).next E21).next E26)⟩)))))))))
theorem lZ:prog.underlying 29=some (.slice 3):=by kernel_rfl
theorem iC:fH prog 30=some (60,4,48,(.agg #[.int .i64 0,.int .i64 0,.int .i64 0,.slice none 0 0])):=by kernel_rfl
theorem lY:prog.underlying 30=some (.slice 60):=by kernel_rfl
theorem bI:cr prog 29=some 1:=by kernel_rfl
theorem l9:fz prog 47=some true:=by kernel_rfl
theorem fQ:cr prog 47=some 22:=by kernel_rfl
theorem iD:f_ prog 47=some (.agg #[.int .i64 0,.int .i64 0,.int .i64 0,.int .i64 0,.int .i64 0,.int .i64 0,.int .i64 0,.int .i64 0,.slice none 0 0,.string ⟨#[]⟩,.int .i64 0,.int .i64 0,.int .i64 0,.int .u64 0,.slice none 0 0,.slice none 0 0,.slice none 0 0,.slice none 0 0,.int .i64 0,.slice none 0 0,.string ⟨#[]⟩,.int .i64 0]):=by kernel_rfl
theorem l6:aD prog 34=true:=by kernel_rfl
theorem lX:cr prog 26=some 1:=by kernel_rfl
theorem ee:aD prog 35=true:=by kernel_rfl
theorem l5:aD prog 36=true:=by kernel_rfl
theorem fR:cr prog 30=some 1:=by kernel_rfl
theorem jT:∀ (a0:Int) (a1:Int) (a2:Int) (a3:Int) (a4:Int) (a5:Int) (a6:Int) (a7:Int) (a8:Option Addr) (a9 a10:Nat) (a11:ByteArray) (a12:Int) (a13:Int) (a14:Int) (a15:Int) (a16:Option Addr) (a17 a18:Nat) (a19:Option Addr) (a20 a21:Nat) (a22:Option Addr) (a23 a24:Nat) (a25:Option Addr) (a26 a27:Nat) (a28:Int) (a29:Option Addr) (a30 a31:Nat) (a32:ByteArray) (a33:Int),prog.built 47 [(0,.agg #[.int .i64 a0,.int .i64 a1,.int .i64 a2,.int .i64 a3,.int .i64 a4,.int .i64 a5,.int .i64 a6,.int .i64 a7,.slice a8 a9 a10,.string a11,.int .i64 a12,.int .i64 a13,.int .i64 a14,.int .u64 a15,.slice a16 a17 a18,.slice a19 a20 a21,.slice a22 a23 a24,.slice a25 a26 a27,.int .i64 a28,.slice a29 a30 a31,.string a32,.int .i64 a33])]=some #[.int .i64 a0,.int .i64 a1,.int .i64 a2,.int .i64 a3,.int .i64 a4,.int .i64 a5,.int .i64 a6,.int .i64 a7,.slice a8 a9 a10,.string a11,.int .i64 a12,.int .i64 a13,.int .i64 a14,.int .u64 a15,.slice a16 a17 a18,.slice a19 a20 a21,.slice a22 a23 a24,.slice a25 a26 a27,.int .i64 a28,.slice a29 a30 a31,.string a32,.int .i64 a33]:=by intros;kernel_rfl
theorem l8:aD prog 23=true:=by kernel_rfl
theorem l7:aD prog 24=true:=by kernel_rfl
theorem jS:∀ (a0:Int) (a1:Int) (a2:Int) (a3:Int) (a4:Int) (a5:Int) (a6:Int) (a7:Int) (a8:Option Addr) (a9 a10:Nat) (a11:ByteArray) (a12:Int) (a13:Int) (a14:Int) (a15:Int) (a16:Option Addr) (a17 a18:Nat) (a19:Option Addr) (a20 a21:Nat) (a22:Option Addr) (a23 a24:Nat) (a25:Option Addr) (a26 a27:Nat) (a28:Int) (a29:Option Addr) (a30 a31:Nat) (a32:ByteArray) (a33:Int),prog.built 65 [(0,.agg #[.int .i64 a0,.int .i64 a1,.int .i64 a2,.int .i64 a3,.int .i64 a4,.int .i64 a5,.int .i64 a6,.int .i64 a7,.slice a8 a9 a10,.string a11,.int .i64 a12,.int .i64 a13,.int .i64 a14,.int .u64 a15,.slice a16 a17 a18,.slice a19 a20 a21,.slice a22 a23 a24,.slice a25 a26 a27,.int .i64 a28,.slice a29 a30 a31,.string a32,.int .i64 a33])]=some #[.int .i64 a0,.int .i64 a1,.int .i64 a2,.int .i64 a3,.int .i64 a4,.int .i64 a5,.int .i64 a6,.int .i64 a7,.slice a8 a9 a10,.string a11,.int .i64 a12,.int .i64 a13,.int .i64 a14,.int .u64 a15,.slice a16 a17 a18,.slice a19 a20 a21,.slice a22 a23 a24,.slice a25 a26 a27,.int .i64 a28,.slice a29 a30 a31,.string a32,.int .i64 a33,.slice none 0 0]:=by intros;kernel_rfl
theorem cn (A:Option Addr) (c n:Nat) (xs:List Value) (w:World) (hx:xs.length=n*1) (hr:0<n→∃ b o,A=some ⟨b,o,none⟩∧w.rangeAt b o xs) (hn0:A=none→n=0∧c=0) (h1:∀ u∈xs,u.oneCell'=true) (hl:n≤100000000000) :
 Rt prog 35 [.slice A n c] w (fun v w'=>(∃ A' c',v=.slice A' n c'∧w'.ownsRow w.heap.size 3 1 (.slice A' n c') n xs)∧ag w w'):=by
 refine enter (n:=8) Try.func35 rfl rfl rfl (an (ah (ass rfl (ak (ai (an (an (ah (mvs rfl (ab (ja lZ rfl rfl) (ak (ai (aT rfl (fun Q1=>?_) (fun Q1=>?_))))))))))))))
 ·(try first | (replace Q1 := eh Q1; trace "@MK N cn:c4+ 1.1") | (replace Q1 := ei Q1; trace "@MK N cn:c4+ 1.2"))
  (try first | (replace Q1 := jt Q1; trace "@MK N cn:c4+ 2.1") | (replace Q1 := ju Q1; trace "@MK N cn:c4+ 2.2") | (replace Q1 := jv Q1; trace "@MK N cn:c4+ 2.3") | (replace Q1 := jw Q1; trace "@MK N cn:c4+ 2.4") | (replace Q1 := dT_ Q1; trace "@MK N cn:c4+ 2.5") | (replace Q1 := dF_ Q1; trace "@MK N cn:c4+ 2.6"))
  obtain rfl:A=none:=Option.isNone_iff_eq_none.1 Q1;obtain ⟨rfl,rfl⟩:=hn0 rfl;obtain rfl:xs=[]:=List.eq_nil_of_length_eq_zero (by omega);refine an (ah (ass rfl (ak (ai (aG (aN (bK (v:=.slice _ _ _) rfl rfl (⟨⟨none,0,rfl,World.ownsRow_nil _ _ _ _⟩,ag.rfl_⟩))))))))
 (try first | (replace Q1 := eh Q1; trace "@MK N cn:c4- 1.1") | (replace Q1 := ei Q1; trace "@MK N cn:c4- 1.2"))
 (try first | (replace Q1 := jt Q1; trace "@MK N cn:c4- 2.1") | (replace Q1 := ju Q1; trace "@MK N cn:c4- 2.2") | (replace Q1 := jv Q1; trace "@MK N cn:c4- 2.3") | (replace Q1 := jw Q1; trace "@MK N cn:c4- 2.4") | (replace Q1 := dT_ Q1; trace "@MK N cn:c4- 2.5") | (replace Q1 := dF_ Q1; trace "@MK N cn:c4- 2.6"))
 have hA4:A=none→c=0:=fun h=>by rw [h] at Q1;cases Q1
 refine aO (ai (an (ah (nE bf _ (ag.rfl_.size) ?_))));intro b5 w2 E5 hb5 ho5;refine mvs rfl ?_;refine gU (a0:=w) bf rfl (by decide) rfl ho5 (ag.rfl_.next E5) rfl hx (fun h=>(let ⟨b,o,hA,hc⟩:=hr h;⟨b,o,hA,gk (ag.rfl_.next E5) hc⟩)) hA4 h1 (by omega) (by omega) ?_;intro A7 c7 w3 ho7 B7 hg7;refine ass rfl (ak (ai (aG (bK (v:=.slice _ _ _) rfl rfl (⟨⟨A7,c7,by rw [Nat.zero_add],by simpa using ho7⟩,B7⟩)))))
theorem cl (A:Option Addr) (c n:Nat) (xs:List Value) (w:World) (hx:xs.length=n*4) (hr:0<n→∃ b o,A=some ⟨b,o,none⟩∧w.rangeAt b o xs) (hn0:A=none→n=0∧c=0) (h1:∀ u∈xs,u.oneCell'=true) (hl:n≤100000000000) :
 Rt prog 36 [.slice A n c] w (fun v w'=>(∃ A' c',v=.slice A' n c'∧w'.ownsRow w.heap.size 60 4 (.slice A' n c') n xs)∧ag w w'):=by
 refine enter (n:=8) Try.func36 rfl rfl rfl (an (ah (ass rfl (ak (ai (an (an (ah (mvs rfl (ab (ja lY rfl rfl) (ak (ai (aT rfl (fun Q1=>?_) (fun Q1=>?_))))))))))))))
 ·(try first | (replace Q1 := eh Q1; trace "@MK N cl:c4+ 1.1") | (replace Q1 := ei Q1; trace "@MK N cl:c4+ 1.2"))
  (try first | (replace Q1 := jt Q1; trace "@MK N cl:c4+ 2.1") | (replace Q1 := ju Q1; trace "@MK N cl:c4+ 2.2") | (replace Q1 := jv Q1; trace "@MK N cl:c4+ 2.3") | (replace Q1 := jw Q1; trace "@MK N cl:c4+ 2.4") | (replace Q1 := dT_ Q1; trace "@MK N cl:c4+ 2.5") | (replace Q1 := dF_ Q1; trace "@MK N cl:c4+ 2.6"))
  obtain rfl:A=none:=Option.isNone_iff_eq_none.1 Q1;obtain ⟨rfl,rfl⟩:=hn0 rfl;obtain rfl:xs=[]:=List.eq_nil_of_length_eq_zero (by omega);refine an (ah (ass rfl (ak (ai (aG (aN (bK (v:=.slice _ _ _) rfl rfl (⟨⟨none,0,rfl,World.ownsRow_nil _ _ _ _⟩,ag.rfl_⟩))))))))
 (try first | (replace Q1 := eh Q1; trace "@MK N cl:c4- 1.1") | (replace Q1 := ei Q1; trace "@MK N cl:c4- 1.2"))
 (try first | (replace Q1 := jt Q1; trace "@MK N cl:c4- 2.1") | (replace Q1 := ju Q1; trace "@MK N cl:c4- 2.2") | (replace Q1 := jv Q1; trace "@MK N cl:c4- 2.3") | (replace Q1 := jw Q1; trace "@MK N cl:c4- 2.4") | (replace Q1 := dT_ Q1; trace "@MK N cl:c4- 2.5") | (replace Q1 := dF_ Q1; trace "@MK N cl:c4- 2.6"))
 have hA4:A=none→c=0:=fun h=>by rw [h] at Q1;cases Q1
 refine aO (ai (an (ah (nE iC _ (ag.rfl_.size) ?_))));intro b5 w2 E5 hb5 ho5;refine mvs rfl ?_;refine gU (a0:=w) iC rfl (by decide) rfl ho5 (ag.rfl_.next E5) rfl hx (fun h=>(let ⟨b,o,hA,hc⟩:=hr h;⟨b,o,hA,gk (ag.rfl_.next E5) hc⟩)) hA4 h1 (by omega) (by omega) ?_;intro A7 c7 w3 ho7 B7 hg7;refine ass rfl (ak (ai (aG (bK (v:=.slice _ _ _) rfl rfl (⟨⟨A7,c7,by rw [Nat.zero_add],by simpa using ho7⟩,B7⟩)))))
theorem fo (A:Option Addr) (c:Nat) (l:List Int) (w:World) (h:IR w A c l) (hl:l.length≤1000000):Rt prog 35 [.slice A l.length c] w fun v w'=>(∃ A' c',v=.slice A' l.length c'∧w'.ownsRow w.heap.size 3 1 (.slice A' l.length c') l.length (l.map iV))∧ag w w':=
 cn A c l.length (l.map iV) w (by simp) (fun h0=>by
  obtain ⟨b,o,hA,hc⟩:=h.1 h0;refine ⟨b,o,hA,fun j v hv=>?_⟩;rw [List.getElem?_map] at hv;cases hj:l[j]? with
  |none=>rw [hj] at hv;cases hv
  |some x=>
   obtain ⟨hjl,rfl⟩:=List.getElem?_eq_some_iff.1 hj;rw [hj] at hv;cases hv;exact hc j hjl) h.2.2.2 (fun u hu=>by obtain ⟨x,_,rfl⟩:=List.mem_map.1 hu;rfl) (by omega)
theorem ot (A:Option Addr) (c:Nat) (L:List (Rd×Option Addr×Nat)) (w:World) (h:gp 4 rdV w A L) (hn:A=none→L.length=0∧c=0) (hl:L.length≤1000000):Rt prog 36 [.slice A L.length c] w fun v w'=>(∃ A' c',v=.slice A' L.length c'∧w'.ownsRow w.heap.size 60 4 (.slice A' L.length c') L.length (L.flatMap rdV))∧ag w w':=
 cl A c L.length (L.flatMap rdV) w (gL fT L) (fun h0=>gp.flat fT h h0) hn (qe L) (by omega)
def ia (N O:List (Rd×Option Addr×Nat)):List (Rd×Option Addr×Nat):=N++O.drop N.length
def zS (s:Rf):Rf:={ s with es:=[],votes:=[],next:=[],mtch:=[],sent:=[],reads:=[] }
theorem eL {w w':World} {tag:Nat→Nat} {g d base e s n cc:Nat} {A:Option Addr} {xs:List Value} (hC:Chg (fun k=>k=g) w w') (hg:tag g=8) (hd:d≠8) (h:w.ownsRow base e s (.slice A n cc) n xs∧Col tag d A):w'.ownsRow base e s (.slice A n cc) n xs∧Col tag d A:=
 ⟨fV h.1 hC (fun k hk e=>hd ((h.2 k hk).symm.trans (by rw [show k=g from e];exact hg))),h.2⟩
theorem bQ.chg8 {w w':World} {y g:Nat} {tag:Nat→Nat} {s:Rf} {a:Ra} (h:bQ y w tag s a) (hC:Chg (fun k=>k=g) w w') (hg:tag g=8):bQ y w' tag s a:=
 ⟨fun hx=>eL hC hg (by decide) (h.e hx),fun hx=>eL hC hg (by decide) (h.v hx),fun hx=>eL hC hg (by decide) (h.x hx),fun hx=>eL hC hg (by decide) (h.m hx),fun hx=>eL hC hg (by decide) (h.n hx),h.r,fun hx=>eL hC hg (by decide) (h.q hx),fun i hi hx=>eL hC hg (by omega) (h.k i hi hx)⟩
theorem kg:∀ (N O:List (Rd×Option Addr×Nat)) (x:Rd×Option Addr×Nat) (A:Option Addr) (c:Nat),((N++x::O).flatMap rdV).set (N.length*4+3) (.slice A x.1.acks.length c)=((N++(x.1,A,c)::O).flatMap rdV)
 |[],O,x,A,c=>rfl
 |y::N,O,x,A,c=>by
  have ih:=kg N O x A c;show (rdV y++(N++x::O).flatMap rdV).set ((N.length+1)*4+3) _=rdV y++(N++(x.1,A,c)::O).flatMap rdV;rw [List.set_append_right _ _ (by rw [fT];omega),fT,show (N.length+1)*4+3-4=N.length*4+3 by omega,ih]
theorem ql {N O:List (Rd×Option Addr×Nat)} (h:N.length<O.length):ia N O=N++O[N.length]::O.drop (N.length+1):=by
 unfold ia;rw [List.drop_eq_getElem_cons h]
theorem pc {N O:List (Rd×Option Addr×Nat)} (h:N.length<O.length) (A:Option Addr) (c:Nat):((ia N O).flatMap rdV).set (N.length*4+3) (.slice A O[N.length].1.acks.length c)=(ia (N++[(O[N.length].1,A,c)]) O).flatMap rdV:=by
 rw [ql h,kg];unfold ia;rw [List.length_append,List.length_singleton,List.append_assoc];rfl
theorem pd {N O:List (Rd×Option Addr×Nat)} (h:N.length=O.length):ia N O=N:=by unfold ia;rw [h,List.drop_length,List.append_nil]
theorem jj {N O:List (Rd×Option Addr×Nat)} (h:N.length≤O.length):(ia N O).length=O.length:=by unfold ia;rw [List.length_append,List.length_drop];omega
theorem oq (s:Rf) (a:Ra) (w:World) (hrd:gu w s a) (hl:s.votes.length≤1000000∧s.next.length≤1000000∧s.mtch.length≤1000000∧s.sent.length≤1000000∧s.reads.length≤1000000∧∀ q∈s.reads,q.acks.length≤1000000) (hel:s.es.length≤1000000) :
 Rt prog 24 [.agg (rfV s a).toArray] w (fun v w'=>(∃ tag a',v=.agg (rfV s a').toArray∧aS w' tag s a'∧∀ k,k<w.heap.size→tag k=8)∧ag w w'):=by
 obtain ⟨E,Ec,V,Vc,X,Xc,M,Mc,Sn,Sc,Q,Qc,LL⟩:=a;obtain ⟨hl1,hl2,hl3,hl4,hl5,hl6⟩:=hl;have hrL:LL.map (fun q=>q.1)=s.reads:=hrd.r;have hrk:∀ q∈LL,IR w q.2.1 q.2.2 q.1.acks:=hrd.k;have hrq:gp 4 rdV w Q LL:=hrd.q;have hqn:Q=none→LL.length=0∧Qc=0:=hrd.qc.2.2;have hLl:LL.length=s.reads.length:=by rw [←hrL,List.length_map]
 have hqm:LL.length≤1000000:=by omega
 refine enter (n:=51) Try.func24 rfl rfl rfl (an (ah (dw (v:=.agg _) rfl ?_)));intro b1 w1 E1 hb1 hk1;refine dg iD ?_;intro b2 w2 E2 hb2 hk2;have hg1:w.heap.size≤b1:=Nat.le_of_eq hb1.symm;have h12:b1<b2:=by have:=hk1.lt;omega
 have hg2:w.heap.size≤b2:=by omega
 have hk2z:Blk w2 b2 47 ((.agg #[.int .i64 0,.int .i64 0,.int .i64 0,.int .i64 0,.int .i64 0,.int .i64 0,.int .i64 0,.int .i64 0,.slice none 0 0,.string ⟨#[]⟩,.int .i64 0,.int .i64 0,.int .i64 0,.int .u64 0,.slice none 0 0,.slice none 0 0,.slice none 0 0,.slice none 0 0,.int .i64 0,.slice none 0 0,.string ⟨#[]⟩,.int .i64 0]):Value).cells:=hk2;have ht0:∀ k,k≤b2→(fun _:Nat=>8) k=8:=fun _ _=>rfl
 refine ak (ai (an (ah (ab (aa aY rfl) (ab (aa dY rfl) (ab (ar fM rfl (by exact (show _=some (Value.slice E s.es.length Ec) from (hk1.from_ (ag.rfl_.next E2)).rd 8 rfl))) ?_))))));have hN7:ag _ w2:=(ag.rfl_.next E2);have hk2c:=hk2z.from_ (ag.rfl_ (a:=w2));have hlt7:=hk2c.lt;have hf0:aS w2 (fun _=>8) ({ s with es:=[],votes:=[],next:=[],mtch:=[],sent:=[],reads:=[] }:Rf) a0:=aS.same aS.zero rfl rfl rfl rfl rfl rfl;refine aA l6 (pF E s.es.length Ec s.es _ (hrd.e.from_ ((ag.rfl_.next E1).next E2)) (by omega)) ?_;rintro v7 w3 ⟨A7,c7,rfl,ho7,E7⟩;obtain ⟨tag1,hf1,ht1⟩:∃ t,aS w3 t ({ s with es:=s.es,votes:=[],next:=[],mtch:=[],sent:=[],reads:=[] }:Rf) (⟨A7,c7,none,0,none,0,none,0,none,0,none,0,[]⟩:Ra)∧(∀ k,k≤b2→t k=8):=⟨_,bQ.log (aS.but (c:=0) hf0 (ag.toChg E7)) s.b s.t rfl (eK ho7 (Nat.zero_le _)) (fun k hk=>cP (dT ho7 k hk).1),fun k hk=>(bD (by omega)).trans (ht0 k hk)⟩;refine ab (aa aY rfl) (ab (aa dY rfl) ?_);have hS1:ag _ w3:=ag.rfl_;refine bm (s':=s) (a':=(⟨A7,c7,V,Vc,X,Xc,M,Mc,Sn,Sc,Q,Qc,LL⟩:Ra)) (v:=.slice _ _ _) lX rfl rfl rfl ((hk1.from_ ((hN7.next E7).next ag.rfl_))) (by exact ⟨by decide,rfl⟩) ?_;intro w4 O1_0 P1_0;replace hf1:=(hf1.from_ hS1).chg8 (O1_0.toChg rfl) (ht1 b1 (by omega));replace hk2z:=(hk2c.from_ (E7.next hS1)).only O1_0 (by omega);refine ak (ai (an (ah (ab (aa bX rfl) (ab (ar aL rfl (by exact (show _=some (Value.slice V s.votes.length Vc) from (P1_0.from_ ag.rfl_).rd 14 rfl))) ?_)))));have hN12:ag _ w4:=ag.rfl_;have hk2c:=hk2z.from_ ag.rfl_;have hlt12:=hk2c.lt;have hf1n:=hf1.from_ ag.rfl_;refine aA ee (fo V Vc s.votes _ (IR.from_ hrd.v ((((ag.rfl_.next E1).next E2).next E7).only O1_0 (hg1))) hl1) ?_;rintro v12 w5 ⟨⟨A12,c12,rfl,ho12⟩,E12⟩;obtain ⟨tag2,hf2,ht2⟩:∃ t,aS w5 t ({ s with es:=s.es,votes:=s.votes,next:=[],mtch:=[],sent:=[],reads:=[] }:Rf) (⟨A7,c7,A12,c12,none,0,none,0,none,0,none,0,[]⟩:Ra)∧(∀ k,k≤b2→t k=8):=⟨_,bQ.votes (aS.but (c:=1) hf1n (ag.toChg E12)) rfl (eK ho12 (Nat.zero_le _)) (fun k hk=>cP (dT ho12 k hk).1),fun k hk=>(bD (by omega)).trans (ht1 k hk)⟩;refine ab (aa bX rfl) ?_;have hS2:ag _ w5:=ag.rfl_;refine bm (s':=s) (a':=(⟨A7,c7,A12,c12,X,Xc,M,Mc,Sn,Sc,Q,Qc,LL⟩:Ra)) (v:=.slice _ _ _) bI rfl rfl rfl ((P1_0.from_ ((hN12.next E12).next ag.rfl_))) (by exact ⟨by decide,rfl⟩) ?_;intro w6 O2_0 P2_0;replace hf2:=(hf2.from_ hS2).chg8 (O2_0.toChg rfl) (ht2 b1 (by omega));replace hk2z:=(hk2c.from_ (E12.next hS2)).only O2_0 (by omega);refine ak (ai (an (ah (ab (aa br rfl) (ab (ar aL rfl (by exact (show _=some (Value.slice X s.next.length Xc) from (P2_0.from_ ag.rfl_).rd 15 rfl))) ?_)))));have hN16:ag _ w6:=ag.rfl_;have hk2c:=hk2z.from_ ag.rfl_;have hlt16:=hk2c.lt;have hf2n:=hf2.from_ ag.rfl_;refine aA ee (fo X Xc s.next _ (IR.from_ hrd.x ((((((ag.rfl_.next E1).next E2).next E7).only O1_0 (hg1)).next E12).only O2_0 (hg1))) hl2) ?_;rintro v16 w7 ⟨⟨A16,c16,rfl,ho16⟩,E16⟩;obtain ⟨tag3,hf3,ht3⟩:∃ t,aS w7 t ({ s with es:=s.es,votes:=s.votes,next:=s.next,mtch:=[],sent:=[],reads:=[] }:Rf) (⟨A7,c7,A12,c12,A16,c16,none,0,none,0,none,0,[]⟩:Ra)∧(∀ k,k≤b2→t k=8):=⟨_,bQ.next (aS.but (c:=2) hf2n (ag.toChg E16)) rfl (eK ho16 (Nat.zero_le _)) (fun k hk=>cP (dT ho16 k hk).1),fun k hk=>(bD (by omega)).trans (ht2 k hk)⟩;refine ab (aa br rfl) ?_;have hS3:ag _ w7:=ag.rfl_;refine bm (s':=s) (a':=(⟨A7,c7,A12,c12,A16,c16,M,Mc,Sn,Sc,Q,Qc,LL⟩:Ra)) (v:=.slice _ _ _) bI rfl rfl rfl ((P2_0.from_ ((hN16.next E16).next ag.rfl_))) (by exact ⟨by decide,rfl⟩) ?_;intro w8 O3_0 P3_0;replace hf3:=(hf3.from_ hS3).chg8 (O3_0.toChg rfl) (ht3 b1 (by omega));replace hk2z:=(hk2c.from_ (E16.next hS3)).only O3_0 (by omega);refine ak (ai (an (ah (ab (aa bA rfl) (ab (ar aL rfl (by exact (show _=some (Value.slice M s.mtch.length Mc) from (P3_0.from_ ag.rfl_).rd 16 rfl))) ?_)))));have hN20:ag _ w8:=ag.rfl_;have hk2c:=hk2z.from_ ag.rfl_;have hlt20:=hk2c.lt;have hf3n:=hf3.from_ ag.rfl_;refine aA ee (fo M Mc s.mtch _ (IR.from_ hrd.m ((((((((ag.rfl_.next E1).next E2).next E7).only O1_0 (hg1)).next E12).only O2_0 (hg1)).next E16).only O3_0 (hg1))) hl3) ?_;rintro v20 w9 ⟨⟨A20,c20,rfl,ho20⟩,E20⟩;obtain ⟨tag4,hf4,ht4⟩:∃ t,aS w9 t ({ s with es:=s.es,votes:=s.votes,next:=s.next,mtch:=s.mtch,sent:=[],reads:=[] }:Rf) (⟨A7,c7,A12,c12,A16,c16,A20,c20,none,0,none,0,[]⟩:Ra)∧(∀ k,k≤b2→t k=8):=⟨_,bQ.mtch (aS.but (c:=3) hf3n (ag.toChg E20)) rfl (eK ho20 (Nat.zero_le _)) (fun k hk=>cP (dT ho20 k hk).1),fun k hk=>(bD (by omega)).trans (ht3 k hk)⟩;refine ab (aa bA rfl) ?_;have hS4:ag _ w9:=ag.rfl_;refine bm (s':=s) (a':=(⟨A7,c7,A12,c12,A16,c16,A20,c20,Sn,Sc,Q,Qc,LL⟩:Ra)) (v:=.slice _ _ _) bI rfl rfl rfl ((P3_0.from_ ((hN20.next E20).next ag.rfl_))) (by exact ⟨by decide,rfl⟩) ?_;intro w10 O4_0 P4_0;replace hf4:=(hf4.from_ hS4).chg8 (O4_0.toChg rfl) (ht4 b1 (by omega));replace hk2z:=(hk2c.from_ (E20.next hS4)).only O4_0 (by omega);refine ak (ai (an (ah (ab (aa bN rfl) (ab (ar aL rfl (by exact (show _=some (Value.slice Sn s.sent.length Sc) from (P4_0.from_ ag.rfl_).rd 17 rfl))) ?_)))));have hN24:ag _ w10:=ag.rfl_;have hk2c:=hk2z.from_ ag.rfl_;have hlt24:=hk2c.lt;have hf4n:=hf4.from_ ag.rfl_;refine aA ee (fo Sn Sc s.sent _ (IR.from_ hrd.n ((((((((((ag.rfl_.next E1).next E2).next E7).only O1_0 (hg1)).next E12).only O2_0 (hg1)).next E16).only O3_0 (hg1)).next E20).only O4_0 (hg1))) hl4) ?_;rintro v24 w11 ⟨⟨A24,c24,rfl,ho24⟩,E24⟩;obtain ⟨tag5,hf5,ht5⟩:∃ t,aS w11 t ({ s with es:=s.es,votes:=s.votes,next:=s.next,mtch:=s.mtch,sent:=s.sent,reads:=[] }:Rf) (⟨A7,c7,A12,c12,A16,c16,A20,c20,A24,c24,none,0,[]⟩:Ra)∧(∀ k,k≤b2→t k=8):=⟨_,bQ.sent (aS.but (c:=4) hf4n (ag.toChg E24)) rfl (eK ho24 (Nat.zero_le _)) (fun k hk=>cP (dT ho24 k hk).1),fun k hk=>(bD (by omega)).trans (ht4 k hk)⟩;refine ab (aa bN rfl) ?_;have hS5:ag _ w11:=ag.rfl_;refine bm (s':=s) (a':=(⟨A7,c7,A12,c12,A16,c16,A20,c20,A24,c24,Q,Qc,LL⟩:Ra)) (v:=.slice _ _ _) bI rfl rfl rfl ((P4_0.from_ ((hN24.next E24).next ag.rfl_))) (by exact ⟨by decide,rfl⟩) ?_;intro w12 O5_0 P5_0;replace hf5:=(hf5.from_ hS5).chg8 (O5_0.toChg rfl) (ht5 b1 (by omega));replace hk2z:=(hk2c.from_ (E24.next hS5)).only O5_0 (by omega);refine ak (ai (an (ah (ab (aa bq rfl) (ab (ar cI rfl (by exact (show _=some (Value.slice Q LL.length Qc) from (P5_0.from_ ag.rfl_).rd 19 rfl))) ?_)))));have hN28:ag _ w12:=ag.rfl_;have hk2c:=hk2z.from_ ag.rfl_;have hlt28:=hk2c.lt;have hf5n:=hf5.from_ ag.rfl_;refine aA l5 (ot Q Qc LL _ (hrq.from_ ((((((((((((ag.rfl_.next E1).next E2).next E7).only O1_0 (hg1)).next E12).only O2_0 (hg1)).next E16).only O3_0 (hg1)).next E20).only O4_0 (hg1)).next E24).only O5_0 (hg1))) hqn hqm) ?_;rintro v28 w13 ⟨⟨A28,c28,rfl,ho28⟩,E28⟩;obtain ⟨tag6,hg6,ht6,hc6⟩:∃ t,bQ 5 w13 t ({ s with es:=s.es,votes:=s.votes,next:=s.next,mtch:=s.mtch,sent:=s.sent,reads:=[] }:Rf) (⟨A7,c7,A12,c12,A16,c16,A20,c20,A24,c24,none,0,[]⟩:Ra)∧(∀ k,k≤b2→t k=8)∧Col t 5 A28:=⟨_,aS.but (c:=5) hf5n (ag.toChg E28),fun k hk=>(bD (by omega)).trans (ht5 k hk),fun k hk=>cP (dT ho28 k hk).1⟩;refine ab (aa bq rfl) ?_;have hS6:ag _ w13:=ag.rfl_;refine bm (s':=s) (a':=(⟨A7,c7,A12,c12,A16,c16,A20,c20,A24,c24,A28,c28,LL⟩:Ra)) (v:=.slice _ _ _) fR rfl rfl rfl ((P5_0.from_ ((hN28.next E28).next ag.rfl_))) (by exact ⟨by decide,rfl⟩) ?_;intro w14 O6_0 P6_0;replace hg6:=(hg6.from_ hS6).chg8 (O6_0.toChg rfl) (ht6 b1 (by omega));have hr6:=gY (eK (base':=0) (ho28.kept_from hS6) (Nat.zero_le _)) O6_0 (fun k hk e=>by have:=hc6 k hk;rw [e,ht6 b1 (by omega)] at this;cases this);replace hk2z:=(hk2c.from_ (E28.next hS6)).only O6_0 (by omega);refine ak (ai (an (an (ah (ab (aa bq rfl) (ab (ar cI rfl (by exact (show _=some (Value.slice A28 LL.length c28) from (P6_0.from_ ag.rfl_).rd 19 rfl))) ?_))))));refine ab (bU dm rfl) (mvi rfl (ak (ai (bd (df (G:=List (Rd×Option Addr×Nat)×(Nat→Nat)) [3,34,35,36,37,38,39,40,41,42,43,44,45,46,47,48] (fun (N,tg)=>[(33,.int .i64 (N.length:Nat))]) (fun (N,tg) w'=>N.length≤LL.length∧(∀ i (h:i<N.length) (h2:i<LL.length),N[i].1=LL[i].1)∧bQ 5 w' tg ({ s with es:=s.es,votes:=s.votes,next:=s.next,mtch:=s.mtch,sent:=s.sent,reads:=[] }:Rf) (⟨A7,c7,A12,c12,A16,c16,A20,c20,A24,c24,none,0,N⟩:Ra)∧(∀ k,k≤b2→tg k=8)∧Col tg 5 A28∧w'.ownsRow 0 60 4 (.slice A28 LL.length c28) LL.length ((ia N LL).flatMap rdV)∧Blk w' b1 32 (rfV s (⟨A7,c7,A12,c12,A16,c16,A20,c20,A24,c24,A28,c28,LL⟩:Ra)).toArray∧Blk w' b2 47 ((.agg #[.int .i64 0,.int .i64 0,.int .i64 0,.int .i64 0,.int .i64 0,.int .i64 0,.int .i64 0,.int .i64 0,.slice none 0 0,.string ⟨#[]⟩,.int .i64 0,.int .i64 0,.int .i64 0,.int .u64 0,.slice none 0 0,.slice none 0 0,.slice none 0 0,.slice none 0 0,.int .i64 0,.slice none 0 0,.string ⟨#[]⟩,.int .i64 0]):Value).cells∧ag w w') (fun (N,_)=>LL.length-N.length) (([],tag6)) ⟨rfl,trivial⟩ ?_ ?_)))))
 ·exact ⟨Nat.zero_le _,fun i h=>absurd h (Nat.not_lt_zero _),hg6.from_ ag.rfl_,ht6,hc6,hr6.kept_from ag.rfl_,P6_0.from_ ag.rfl_,hk2z.from_ ag.rfl_,((((((((((((((ag.rfl_.next E1).next E2).next E7).only O1_0 (hg1)).next E12).only O2_0 (hg1)).next E16).only O3_0 (hg1)).next E20).only O4_0 (hg1)).next E24).only O5_0 (hg1)).next E28).only O6_0 (hg1))⟩
 rintro ⟨N,tg⟩ ρ15 w15 ⟨hNl,hNe,hgN,htN,hcN,hrN,hbN,hk2N,hBN⟩;refine an (ah (ab (cO rfl rfl) (ak (ai (an (r7 rfl (fun Q16=>?_) (fun Q16=>?_)))))))
 ·have hNL:N.length<LL.length:=by omega
  have hqk:LL[N.length].1∈s.reads:=by rw [←hrL];exact List.mem_map_of_mem (List.getElem_mem hNL)
  obtain ⟨g28,rfl⟩:=ea hrN (by omega);obtain ⟨z9,hz9⟩:∃ z,z=(w15).heap.size:=⟨_,rfl⟩
  have hc44:(w15).cell? ⟨g28,0+N.length*4+3,none⟩=some (.slice LL[N.length].2.1 LL[N.length].1.acks.length LL[N.length].2.2):=by
   obtain ⟨b9,o9,he9,hcs⟩:=(gp.own fT (by decide) hrN).2 (by rw [jj hNl];omega);cases he9;have h9:=hcs N.length (by rw [jj hNl];omega)
   have hm9:(ia N LL)[N.length]'(by rw [jj hNl];omega)=LL[N.length]:=by
    unfold ia;rw [List.getElem_append_right (Nat.le_refl _)];simp
   rw [hm9] at h9;exact h9 3 _ rfl
  have htg28:tg g28=5:=hcN g28 rfl
  have hg28:b2<g28:=by
   rcases Nat.lt_or_ge b2 g28 with e | e
   ·exact e
   ·have:=htN g28 e;omega
  refine aO (ai (an (bd (an (ah (mvi rfl (asi rfl (ak (ai ?_)))))))));apply dF 12 [(36,eqp _),(37,eqp (.slice (some ⟨g28,0,none⟩) LL.length c28)),(38,eqp _),(39,eqp _),(40,eqp (.slice (some ⟨g28,0,none⟩) LL.length c28)),(41,eqp _),(42,eqp _),(43,eqp _),(44,eqp (.slice LL[N.length].2.1 LL[N.length].1.acks.length LL[N.length].2.2)),(45,fun v w'=>∃ A' c',v=.slice A' LL[N.length].1.acks.length c'∧w'.ownsRow z9 3 1 (.slice A' LL[N.length].1.acks.length c') LL[N.length].1.acks.length (LL[N.length].1.acks.map iV)),(46,eqp _),(47,eqp _)] (by repeat first | exact et | refine er ?_ | refine dL ?_) (by kernel_rfl) (by kernel_rfl) ⟨av _,av _,av _,av _,av _,av _,av _,av _,av _,(fun _ _ _ hF ⟨a,b,h1,h2⟩=>⟨a,b,h1,h2.kept_from hF⟩),av _,av _,trivial⟩
  case hop=>
   constructor
   ·rintro-w18 D18;exact ax (aa bq rfl) rfl
   constructor
   ·rintro-w19 D19;rintro _ rfl;exact ax (ar cI rfl (by exact (show _=some (Value.slice (some ⟨g28,0,none⟩) LL.length c28) from (hbN.from_ (ag.rfl_.next D19)).rd 19 rfl))) rfl
   constructor
   ·rintro-w20 D20;exact ax (aB (v:=.int _ _) rfl) rfl
   constructor
   ·rintro-w21 D21;exact ax (aa bq rfl) rfl
   constructor
   ·rintro-w22 D22;rintro _ rfl;exact ax (ar cI rfl (by exact (show _=some (Value.slice (some ⟨g28,0,none⟩) LL.length c28) from (hbN.from_ (ag.rfl_.next D22)).rd 19 rfl))) rfl
   constructor
   ·rintro-w23 D23;exact ax (aB (v:=.int _ _) rfl) rfl
   constructor
   ·rintro-w24 D24;rintro v24_40 rfl _ rfl;exact ax (cJ ed rfl rfl (by omega)) rfl
   constructor
   ·rintro-w25 D25;rintro _ rfl;exact ax (aa dz rfl) rfl
   constructor
   ·rintro-w26 D26;rintro _ rfl;exact ax (ar aL rfl (by exact eQ (ag.rfl_.next D26) hc44)) rfl
   constructor
   ·rintro-w27 D27;rintro v27_44 rfl;refine gG ee ((fo LL[N.length].2.1 LL[N.length].2.2 LL[N.length].1.acks _ ((hrk _ (List.getElem_mem hNL)).from_ (hBN.next D27)) (hl6 _ hqk)).mono ?_);rintro v w9 ⟨⟨a,b,rfl,ho⟩,hF9⟩;exact ⟨hF9,a,b,rfl,eK ho (by rw [hz9];exact ((ag.rfl_.next D27)).size)⟩
   constructor
   ·rintro-w28 D28;rintro v28_37 rfl _ rfl;exact ax (cJ ed rfl rfl (by omega)) rfl
   constructor
   ·rintro-w29 D29;rintro _ rfl;exact ax (aa dz rfl) rfl
   exact trivial
  case hend=>
   intro w30 D30;rintro _ rfl v37 rfl _ rfl _ rfl v40 rfl _ rfl _ rfl _ rfl v44 rfl v45 ⟨A45,c45,rfl,ho45⟩ _ rfl _ rfl;show St ..;have hM10:ag _ w30:=(ag.rfl_.next D30);refine mf (o:=N.length*4+3) bI (by show Value.pointer (some ⟨g28,0+N.length*4+3,none⟩)=_;rw [Nat.zero_add]) rfl rfl (hrN.kept_from (ag.rfl_.next D30)) (by omega) ?_;intro w31 O10 P10;have hlt9:=hrN.lt g28 rfl;obtain ⟨tg2,hg2n,ht2n,hc2n⟩:∃ t,bQ 5 w31 t ({ s with es:=s.es,votes:=s.votes,next:=s.next,mtch:=s.mtch,sent:=s.sent,reads:=[] }:Rf) (⟨A7,c7,A12,c12,A16,c16,A20,c20,A24,c24,none,0,(N++[(LL[N.length].1,A45,c45)])⟩:Ra)∧(∀ k,k≤b2→t k=8)∧Col t 5 (some ⟨g28,0,none⟩):=⟨_,bQ.five (bQ.ack (q:=LL[N.length].1) (A:=A45) (c:=c45) hgN hM10 (by rw [←hz9];exact ho45)) O10 ((bD hlt9.2).trans htg28),fun k hk=>(bD (by omega)).trans (htN k hk),fun k hk=>by cases hk;exact (bD hlt9.2).trans htg28⟩
   have hr2n:(w31).ownsRow 0 60 4 (.slice (some ⟨g28,0,none⟩) LL.length c28) LL.length ((ia (N++[(LL[N.length].1,A45,c45)]) LL).flatMap rdV):=by
    rw [←pc hNL];exact P10
   have hb2n:=(hbN.from_ hM10).only O10 (by omega);have hk2n:=(hk2N.from_ hM10).only O10 (by omega);refine ak (cx (ai (ah (ab (cd rfl rfl (by omega)) (mvi rfl (ak ?_))))));refine cy (((N++[(LL[N.length].1,A45,c45)]),tg2)) ⟨aZ (by rw [List.length_append,List.length_singleton];omega),trivial⟩ (by (iterate 34 refine bu rfl ?_);exact bT) ⟨?_,?_⟩
   ·refine ⟨by rw [List.length_append,List.length_singleton];omega,fun i h h2=>?_,hg2n.from_ ag.rfl_,ht2n,hc2n,hr2n.kept_from ag.rfl_,hb2n.from_ ag.rfl_,hk2n.from_ ag.rfl_,((hBN.next D30).only O10 (by omega))⟩;rcases Nat.lt_or_ge i N.length with e | e
    ·rw [List.getElem_append_left e];exact hNe i e h2
    ·obtain rfl:i=N.length:=by rw [List.length_append,List.length_singleton] at h;omega
     simp only [List.getElem_append_right (Nat.le_refl _),Nat.sub_self,List.getElem_singleton]
   ·show LL.length-(N++[_]).length<LL.length-N.length;rw [List.length_append,List.length_singleton];omega
 refine cF (bg (bg (cf (ai (an (ah (ab (bh (cs:=rfV s (⟨A7,c7,A12,c12,A16,c16,A20,c20,A24,c24,A28,c28,LL⟩:Ra)) a_ aQ rfl ((hbN.from_ ag.rfl_).whole)) (ab (c8 (l:=[(0,.tmp 49)]) (jT _ _ _ _ _ _ _ _ _ _ _ _ _ _ _ _ _ _ _ _ _ _ _ _ _ _ _ _ _ _ _ _ _ _)) ?_))))))));have hM12:ag _ w15:=ag.rfl_;refine dp (vs:=[_,_,_,_,_,_,_,_,_,_,_,_,_,_,_,_,_,_,_,_,_,_]) fQ rfl rfl (by simp [Value.oneCell']) ((hk2N.from_ ag.rfl_)) rfl ?_;intro w32 O12 P12;refine ak (ai (aG (qH rfl (fh (cs:=[_,_,_,_,_,_,_,_,_,_,_,_,_,_,_,_,_,_,_,_,_,_]) l9 fQ rfl (by exact P12.whole)) ?_)));have hNf:N.length=LL.length:=by omega
 have e9:N.map (fun q=>q.1)=s.reads:=by
  rw [←hrL];refine List.ext_getElem (by simp [hNf]) fun i h1 h2=>?_
  simp only [List.getElem_map];exact hNe i (by simpa using h1) (by simpa using h2)
 have hfin:=bQ.reads hgN (A:=A28) (c:=c28) (n:=LL.length) hNf.symm (by rw [pd hNf] at hrN;exact hrN) hcN;rw [show ((⟨A7,c7,A12,c12,A16,c16,A20,c20,A24,c24,none,0,N⟩:Ra)).L=N from rfl,e9] at hfin;exact ⟨⟨tg,(⟨A7,c7,A12,c12,A16,c16,A20,c20,A24,c24,A28,c28,N⟩:Ra),(by show Value.agg (rfV s (⟨A7,c7,A12,c12,A16,c16,A20,c20,A24,c24,A28,c28,LL⟩:Ra)).toArray=Value.agg (rfV s (⟨A7,c7,A12,c12,A16,c16,A20,c20,A24,c24,A28,c28,N⟩:Ra)).toArray;unfold rfV;simp only [hNf]),bQ.chg8 (bQ.from_ hfin hM12) (O12.toChg rfl) (htN b2 (Nat.le_refl _)),fun k hk=>htN k (by omega)⟩,(hBN.only O12 (hg2))⟩
theorem oL {w w1 w':World} {g T:Nat} {tag:Nat→Nat} {s:Rf} {a:Ra} (hF:ag w w1) (hf:aS w1 tag s a) (ht:∀ k,k<w.heap.size→tag k=8) (hE:ag w1 w') (hg:g=w1.heap.size) (hb:Blk w' g T (rfV s a++[Value.slice none 0 0]).toArray):aR w (fun k=>k<w.heap.size) w' T g ⟨s,[]⟩:=by
 subst hg;have hz:=hF.size;refine ⟨⟨dd w1.heap.size 7 tag,a,none,0,[],⟨hb,(hf.re 7).from_ hE,⟨World.ownsRow_nil _ _ _ _,rfl,fun j hj=>absurd hj (Nat.not_lt_zero _),Col.none⟩,cP (Nat.le_refl _),fun k hk=>(bD (Nat.lt_of_lt_of_le hk hz)).trans (ht k hk)⟩⟩,fun k hk=>hk,(hF.next hE).toChg⟩
theorem pL (s:Rf) (a:Ra) (w:World) (hrd:gu w s a) (hl:s.votes.length≤1000000∧s.next.length≤1000000∧s.mtch.length≤1000000∧s.sent.length≤1000000∧s.reads.length≤1000000∧∀ q∈s.reads,q.acks.length≤1000000) (hel:s.es.length≤1000000) (hm:jQ s=true) :
 Rt prog 20 [.agg (rfV s a).toArray] w (fun v w'=>(∃ g,v=.tuple #[.pointer (some ⟨g,0,none⟩),.int .i64 0]∧aR w (fun k=>k<w.heap.size) w' 65 g ⟨s,[]⟩)):=by
 refine enter (n:=11) Try.func20 rfl rfl rfl (an (ah (dw (v:=.agg _) rfl ?_)));intro b1 w1 E1 hb1 hk1;refine asp rfl (asi rfl (ak (ai (an (an (ah (ab (bh (cs:=rfV s a) a_ aQ rfl ((hk1.from_ ag.rfl_).whole)) (aA l8 (pG s a _ (hrd.from_ (ag.rfl_.next E1)) hl) ?_))))))));rintro v5 w2 ⟨rfl,E5⟩;refine ab (gE (dK rfl rfl) (by rw [hm];rfl)) ?_;refine ak (ai (cS rfl (aO (ai (an (ah (ab (bh (cs:=rfV s a) a_ aQ rfl ((hk1.from_ (ag.rfl_.next E5)).whole)) ?_)))))));have hz8:=(((ag.rfl_.next E1).next E5)).size;refine aA l7 (oq s a _ (hrd.from_ ((ag.rfl_.next E1).next E5)) hl hel) ?_;rintro v8 w3 ⟨⟨tag,a',rfl,hf8,ht8⟩,E8⟩;have hB8:ag w w3:=(((ag.rfl_.next E1).next E5).next E8);refine ab (c8 (l:=[(0,.tmp 8)]) (jS _ _ _ _ _ _ _ _ _ _ _ _ _ _ _ _ _ _ _ _ _ _ _ _ _ _ _ _ _ _ _ _ _ _)) (dw (v:=.agg _) rfl ?_);intro b10 w4 E10 hb10 hk10;have hb10e:=hb10;have hb10:Blk w4 b10 65 (rfV s a'++[Value.slice none 0 0]).toArray:=hk10;refine asp rfl (asi rfl (ak (ai (aG (kC (v:=.pointer _) (v':=.int _ _) rfl rfl rfl (⟨b10,rfl,oL hB8 hf8 (fun k hk=>ht8 k (Nat.lt_of_lt_of_le hk hz8)) E10 hb10e hb10⟩))))))
end Go.Proofs.Ytkpooenofjdpmaa
namespace Go.Proofs.Ytkpooenofjdpmaa
open Go.Proofs.Try (prog)
open Go.RowKit
def iW (B T:Int) (xs:List Ent) (i n:Int):Int:=if bn B T xs=true then (if B+1≤i∧i≤bH B xs+1 then (if n<0 then 1 else 0) else 3) else 1
def sc (w w':World) (ys:List Ent) (c:Int) (v:Value):Prop:=(c≠0→v=.slice none 0 0)∧(c=0→w'.ownsRow w.heap.size 68 3 v ys.length (cG ys))
def rF (A:Option Addr) (cap k:Nat):Option Addr:=if cap=k then A else Option.map (fun x=>x.add (k*3)) A
theorem nX (B T i n:Int) (v:Value) (xs:List Ent) (w:World) (h:bY w v xs) (hn9:n≤9223372036854775807) :
 Calls prog 46 #[.agg #[.int .i64 B,.int .i64 T,v],.int .i64 i,.int .i64 n] w fun e w'=>∃ L,e=.returned (.tuple #[L,.int .i64 (iW B T xs i n)])∧sc w w' ((xs.drop (i-B-1).toNat).take n.toNat) (iW B T xs i n) L∧ag w w':=by
 obtain ⟨f0,f1,f2,hbb,hwb⟩:=dX (w:=w) (B:=B) (T:=T) (v:=v) (t:=28);have hch:=fun w' (hw:ag w w')=>fY B T v xs w' (h.from_ hw)
 have hlo:=fun w' (hw:ag w w')=>fw B T v xs w' (h.from_ hw)
 have hwi:=eG;have HW:=Lib.hid hwi;unfold chk at hch;have HE:=Lib.hid h;have hdef:iW B T xs i n=iW B T xs i n:=rfl
 conv at hdef=>rhs;unfold iW
 obtain ⟨A,cap,rfl,hc1,hc2,hc3,hrow⟩:=h;clear hc3 hrow hwi;by_cases hm:bn B T xs=true
 ·rw [if_pos hm] at hch hdef;obtain ⟨hl,hB0,hB1,hx⟩:=kd hm;rw [hl] at hlo hdef;have HC:=Lib.hid hch;have HL:=Lib.hid hlo;clear hch hlo hm hl;by_cases hin:B+1≤i∧i≤B+xs.length+1
  ·rw [if_pos hin] at hdef;have hib:=cZ hin;by_cases hneg:n<0
   ·rw [if_pos hneg] at hdef;rw [hdef];have e1:decide (n<0)=true:=decide_eq_true hneg;clear hdef hin hneg
    go_enter Try.func46,Try.ntmps46
    go_wp2_with (first
     |(go_at_call 48;(with_reducible refine (HC.out _ hwb).mono ?_);rintro e w1 ⟨rfl,hb1⟩;have hw1:=ag.next (a:=w) hwb hb1;have hbw1:=ag.next (a:=_) hbb hb1)
     |(go_at_call 49;(with_reducible refine (HL.out _ hw1).mono ?_);rintro e w2 ⟨rfl,hb3⟩;have hw2:=ag.next (a:=w) hw1 hb3;have hbw2:=ag.next (a:=_) hbw1 hb3)
     |(go_at_call 55;(with_reducible refine (HW.out _ _ _ _).mono ?_);rintro e w3 ⟨rfl,hb4⟩;have hw3:=ag.next (a:=w) hw2 hb4))
    go_ret2
    exact ⟨_,rfl,⟨fun _=>rfl,fun h=>absurd h (by decide)⟩,hw3⟩
   ·rw [if_neg hneg] at hdef;rw [hdef];obtain ⟨k,hk⟩:∃ k:Nat,i=B+k+1:=⟨(i-B-1).toNat,by omega⟩;obtain ⟨m,hmn⟩:∃ m:Nat,n=m:=⟨n.toNat,by omega⟩;subst hmn;have e1:decide ((m:Int)<0)=false:=decide_eq_false hneg;have hkn:(i-B-1).toNat=k:=by omega
    have hmt:(m:Int).toNat=m:=by omega
    rw [hkn,hmt];have hkl:k≤xs.length:=by omega
    have hrest:=HE.out.rest hkl;have hdl:(xs.drop k).length=xs.length-k:=List.length_drop;obtain ⟨q,hq⟩:∃ q:Nat,q=min m (xs.length-k):=⟨_,rfl⟩;have hql:q≤xs.length-k:=by omega
    have hcut:=hrest.cut (k:=q) (by omega)
    have htk:(xs.drop k).take m=(xs.drop k).take q:=by
     rw [hq];by_cases hle:m≤xs.length-k
     ·rw [Nat.min_eq_left hle]
     ·rw [Nat.min_eq_right (by omega),List.take_of_length_le (by omega),List.take_of_length_le (by omega)]
    rw [htk];have hcl:=fun w' (hw:ag w w')=>kj _ _ w' (hcut.from_ hw) (by rw [List.length_take];omega)
    have HCL:=Lib.hid hcl;have hra:(if cap=k then A else Option.map (fun x=>x.add (k*3)) A)=rF A cap k:=rfl;rw [hra] at HCL;have j0:i-B-1=(k:Int):=by omega
    have j1:(0:Int)≤(k:Int):=by omega
    have j2:(k:Int)≤(xs.length:Int):=by omega
    have j3:(k:Int)≤(cap:Int):=by omega
    have q1:(0:Int)≤(q:Int):=by omega
    have q2:(q:Int)≤((xs.length-k:Nat):Int):=by omega
    have q3:(q:Int)≤((cap-k:Nat):Int):=by omega
    have hHQ:=Lib.hid hq;have HI:=Lib.hid hin;have hii:B+1≤i∧i≤B+600:=by omega
    clear hdef hkn hmt hrest hcut htk hcl hin hneg hq;by_cases hle:m≤xs.length-k
    ·have hqm:q=m:=by have:=hHQ.out;omega
     subst hqm;have e5:min (q:Int) ((xs.length-k:Nat):Int)=(q:Int):=by omega
     have e6:(q:Int)≤((xs.length-k:Nat):Int):=by omega
     clear hk
     go_enter Try.func46,Try.ntmps46
     go_wp2_with (first
      |(go_at_call 48;(with_reducible refine (HC.out _ hwb).mono ?_);rintro e w1 ⟨rfl,hb1⟩;have hw1:=ag.next (a:=w) hwb hb1;have hbw1:=ag.next (a:=_) hbb hb1)
      |(go_at_call 49;(with_reducible refine (HL.out _ hw1).mono ?_);rintro e w2 ⟨rfl,hb3⟩;have hw2:=ag.next (a:=w) hw1 hb3;have hbw2:=ag.next (a:=_) hbw1 hb3)
      |(go_at_call 55;(with_reducible refine (HW.out _ _ _ _).mono ?_);rintro e w3 ⟨rfl,hb4⟩;have hw3:=ag.next (a:=w) hw2 hb4;have hbw3:=ag.next (a:=_) hbw2 hb4)
      |(go_at_call 34;(with_reducible refine (HCL.out _ hw3).mono ?_);rintro e w4 ⟨v4,rfl,hown4,hb5⟩;have hw4:=ag.next (a:=w) hw3 hb5;have HO:=Lib.hid (And.intro hown4 hw3.size);clear hown4))
     go_ret2
     exact ⟨_,rfl,⟨fun h=>absurd rfl h,fun _=>eJ HO.out.1 HO.out.2⟩,hw4⟩
    ·have hqm:q=xs.length-k:=by have:=hHQ.out;omega
     subst hqm;have e5:min (m:Int) ((xs.length-k:Nat):Int)=((xs.length-k:Nat):Int):=by omega
     have e6:¬ (m:Int)≤((xs.length-k:Nat):Int):=by omega
     clear hk
     go_enter Try.func46,Try.ntmps46
     go_wp2_with (first
      |(go_at_call 48;(with_reducible refine (HC.out _ hwb).mono ?_);rintro e w1 ⟨rfl,hb1⟩;have hw1:=ag.next (a:=w) hwb hb1;have hbw1:=ag.next (a:=_) hbb hb1)
      |(go_at_call 49;(with_reducible refine (HL.out _ hw1).mono ?_);rintro e w2 ⟨rfl,hb3⟩;have hw2:=ag.next (a:=w) hw1 hb3;have hbw2:=ag.next (a:=_) hbw1 hb3)
      |(go_at_call 55;(with_reducible refine (HW.out _ _ _ _).mono ?_);rintro e w3 ⟨rfl,hb4⟩;have hw3:=ag.next (a:=w) hw2 hb4;have hbw3:=ag.next (a:=_) hbw2 hb4)
      |(go_at_call 34;(with_reducible refine (HCL.out _ hw3).mono ?_);rintro e w4 ⟨v4,rfl,hown4,hb5⟩;have hw4:=ag.next (a:=w) hw3 hb5;have HO:=Lib.hid (And.intro hown4 hw3.size);clear hown4))
     go_ret2
     exact ⟨_,rfl,⟨fun h=>absurd rfl h,fun _=>eJ HO.out.1 HO.out.2⟩,hw4⟩
  ·rw [if_neg hin] at hdef;rw [hdef];have hib:=kI hin;clear hdef hin
   go_enter Try.func46,Try.ntmps46
   go_wp2_with (first
    |(go_at_call 48;(with_reducible refine (HC.out _ hwb).mono ?_);rintro e w1 ⟨rfl,hb1⟩;have hw1:=ag.next (a:=w) hwb hb1;have hbw1:=ag.next (a:=_) hbb hb1)
    |(go_at_call 49;(with_reducible refine (HL.out _ hw1).mono ?_);rintro e w2 ⟨rfl,hb3⟩;have hw2:=ag.next (a:=w) hw1 hb3;have hbw2:=ag.next (a:=_) hbw1 hb3)
    |(go_at_call 55;(with_reducible refine (HW.out _ _ _ _).mono ?_);rintro e w3 ⟨rfl,hb4⟩;have hw3:=ag.next (a:=w) hw2 hb4))
   go_ret2
   exact ⟨_,rfl,⟨fun _=>rfl,fun h=>absurd h (by decide)⟩,hw3⟩
 ·rw [if_neg hm] at hch hdef;rw [hdef];have HC:=Lib.hid hch;clear hch hlo hm hdef
  go_enter Try.func46,Try.ntmps46
  go_wp2_with (first
   |(go_at_call 48;(with_reducible refine (HC.out _ hwb).mono ?_);rintro e w1 ⟨rfl,hb1⟩;have hw1:=ag.next (a:=w) hwb hb1))
  go_ret2
  exact ⟨_,rfl,⟨fun _=>rfl,fun h=>absurd h (by decide)⟩,hw1⟩
def sm (l:List Oper):Bool:=(List.range l.length).all fun i=>match l[i]? with
 |none=>false
 |some o=>o.after.toList.all fun e=> !Region.binds .any e||decide (e.on<i)
section
variable {P:Program} {Q:Exit→Act→World→Prop} {n:Fr} {L:List (Nat×Value)} {w:World} {l:List Oper}
def sD (o:Oper):Oper:={ o with guard:=none }
def gdB (n:Fr) (T:List (Nat×Nat×Value)) (l:List Oper) (o:Oper):Bool:=match o.guard with
 |none=>true
 |some (j,b)=>o.after.toList.any (fun e=>e.on==j&&Region.binds .any e)&&match T.find? fun p=>p.1==j with
  |some (_,t,.bool x)=>(x==b)&&(match fE l j with | some t'=>t'==t&&Nat.blt t n.n | none=>false)
  |_=>false
end
end Go.Proofs.Ytkpooenofjdpmaa
namespace Go.Proofs.Ytkpooenofjdpmaa
open Go.Proofs.Try (prog)
open Go.RowKit
abbrev PT:=List (Nat×Nat×((Nat→Bool)→Value→World→Prop))
def iH (L:List (Nat×Value)) (T:PT) (S:Nat→Bool) (L':List (Nat×Value)) (w:World):Prop:=
 (∀ t,(∀ p∈T,p.2.1≠t)→aK L' t=aK L t)∧(∀ p∈T,S p.1=true→p.2.2 S (aK L' p.2.1) w)∧∀ p∈T,S p.1=false→aK L' p.2.1=aK L p.2.1
def ib:List (Nat×Nat)→Prop
 |[]=>True
 |p::r=>(∀ q∈r,q.1≠p.1∧q.2≠p.2)∧ib r
def oH:List (Nat×Nat)→Bool
 |[]=>true
 |p::r=>(r.all fun q=> !(Nat.beq q.1 p.1)&&!(Nat.beq q.2 p.2))&&oH r
theorem o7 {a b:Nat}:Nat.beq a b=false↔a≠b:=by
 refine ⟨fun h e=>?_,fun h=>?_⟩
 ·subst e;rw [Nat.beq_refl] at h;cases h
 ·rcases hb:Nat.beq a b with _ | _
  ·rfl
  ·exact absurd (Nat.eq_of_beq_eq_true hb) h
theorem iI:∀ {l:List (Nat×Nat)},oH l=true→ib l
 |[],_=>trivial
 |p::r,h=>by
  simp only [oH,Bool.and_eq_true,List.all_eq_true,Bool.not_eq_true',o7] at h;exact ⟨fun q hq=>h.1 q hq,iI h.2⟩
theorem iJ:∀ {T:PT},ib (T.map fun p=>(p.1,p.2.1))→∀ {p q:Nat×Nat×((Nat→Bool)→Value→World→Prop)},p∈T→q∈T→p.1=q.1∨p.2.1=q.2.1→p=q
 |_::_,⟨h1,h2⟩,p,q,hp,hq,he=>by
  rcases List.mem_cons.1 hp with rfl | hp' <;> rcases List.mem_cons.1 hq with rfl | hq'
  ·rfl
  ·rcases he with e | e
   ·exact absurd e.symm (h1 _ (List.mem_map_of_mem (f:=fun p=>(p.1,p.2.1)) hq')).1
   ·exact absurd e.symm (h1 _ (List.mem_map_of_mem (f:=fun p=>(p.1,p.2.1)) hq')).2
  ·rcases he with e | e
   ·exact absurd e (h1 _ (List.mem_map_of_mem (f:=fun p=>(p.1,p.2.1)) hp')).1
   ·exact absurd e (h1 _ (List.mem_map_of_mem (f:=fun p=>(p.1,p.2.1)) hp')).2
  ·exact iJ h2 hp' hq' he
theorem iH.get {L:List (Nat×Value)} {T:PT} {S:Nat→Bool} {L':List (Nat×Value)} {w:World} {i d:Nat} {R:(Nat→Bool)→Value→World→Prop} (h:iH L T S L' w) (hp:(i,d,R)∈T) (hs:S i=true):∃ v,aK L' d=v∧R S v w:=⟨_,rfl,h.2.1 _ hp hs⟩
theorem p3 {S:Nat→Bool} {i k:Nat} (h:bJ S i k=false):S k=false:=by
 unfold bJ at h;split at h
 ·cases h
 ·exact h
theorem oR {S:Nat→Bool} {i k:Nat} (hk:k≠i) (h:bJ S i k=true):S k=true:=by
 unfold bJ at h
 rwa [if_neg hk] at h
theorem mi (S:Nat→Bool) (i:Nat):bJ S i i=true:=by unfold bJ;rw [if_pos rfl]
theorem cY {S:Nat→Bool} {i k:Nat} (hk:k≠i):bJ S i k=S k:=by unfold bJ;rw [if_neg hk]
def iE (Mu:List Nat):PT→Prop
 |[]=>True
 |p::r=>(∀ S i v w1 w2,Mu.elem i=false→ag w1 w2→p.2.2 S v w1→p.2.2 (bJ S i) v w2)∧iE Mu r
def ChP (i:Nat) (S:Nat→Bool) (w1 w2:World):PT→Prop
 |[]=>True
 |p::r=>(Nat.beq p.1 i=false→S p.1=true→∀ v,p.2.2 S v w1→p.2.2 (bJ S i) v w2)∧ChP i S w1 w2 r
theorem lp {Mu:List Nat}:∀ {T:PT},iE Mu T→∀ p∈T,∀ S i v w1 w2,Mu.elem i=false→ag w1 w2→p.2.2 S v w1→p.2.2 (bJ S i) v w2
 |_::_,⟨h1,h2⟩,p,hp=>by
  rcases List.mem_cons.1 hp with rfl | hp
  ·exact h1
  ·exact lp h2 p hp
theorem pH {i:Nat} {S:Nat→Bool} {w1 w2:World}:∀ {T:PT},ChP i S w1 w2 T→∀ p∈T,p.1≠i→S p.1=true→∀ v,p.2.2 S v w1→p.2.2 (bJ S i) v w2
 |_::_,⟨h1,h2⟩,p,hp=>by
  rcases List.mem_cons.1 hp with rfl | hp
  ·exact fun hne=>h1 (by rw [o7];exact hne)
  ·exact pH h2 p hp
theorem iH.next {L:List (Nat×Value)} {T:PT} {S:Nat→Bool} {L':List (Nat×Value)} {w w':World} {i d:Nat} {v:Value} {R:(Nat→Bool)→Value→World→Prop} (h:iH L T S L' w) (hU:ib (T.map fun p=>(p.1,p.2.1))) (hp:(i,d,R)∈T) (hR:R (bJ S i) v w')
 (hst:∀ p∈T,p.1≠i→S p.1=true→∀ v,p.2.2 S v w→p.2.2 (bJ S i) v w'):iH L T (bJ S i) ((d,v)::L') w':=by
 refine ⟨fun t ht=>?_,fun p hq hs=>?_,fun p hq hs=>?_⟩
 ·rw [aV,if_neg (fun e=>ht _ hp e.symm)];exact h.1 t ht
 ·rw [aV];by_cases e:p.2.1=d
  ·rw [if_pos e,iJ hU hq hp (.inr e)];exact hR
  ·rw [if_neg e];have e2:p.1≠i:=fun e2=>e (congrArg (·.2.1) (iJ hU hq hp (.inl e2)))
   have hs':=oR e2 hs;exact hst p hq e2 hs' _ (h.2.1 p hq hs')
 ·have hs':=p3 hs;have e2:p.1≠i:=fun e2=>by rw [e2,mi] at hs;cases hs
  rw [aV,if_neg (fun e=>e2 (congrArg (·.1) (iJ hU hq hp (.inr e))))];exact h.2.2 p hq hs'
def l_ (L':List (Nat×Value)):List (Nat×Value)→Prop
 |[]=>True
 |(t,v)::r=>aK L' t=v∧l_ L' r
theorem ko {L':List (Nat×Value)}:∀ {M:List (Nat×Value)},l_ L' M→∀ t,(M.map Prod.fst).elem t=true→aK M t=aK L' t
 |(k,v)::r,⟨h1,h2⟩,t,ht=>by
  rw [aV];by_cases e:t=k
  ·rw [if_pos e,e,h1]
  ·rw [if_neg e];refine ko h2 t ?_;simpa [e] using ht
section
variable {P:Program} {Q:Exit→Act→World→Prop} {n:Fr} {L L' M:List (Nat×Value)} {w w' w'':World} {l:List Oper} {T:PT} {Mem:(Nat→Bool)→World→Prop} {Mu:List Nat} {S:Nat→Bool} {op:Op} {ty:TypeId} {pos:String} {after:Array Edge} {i d:Nat} {v:Value} {R:(Nat→Bool)→Value→World→Prop}
theorem fK {dst:Option Nat} (hs:bF op=false) (hk:(((⟨dst,op,ty,pos,after,none⟩:Oper).looksAt #[]).all fun t=>(M.map Prod.fst).elem t)=true) (hag:l_ L' M):execOp (ev n L') ⟨dst,op,ty,pos,after,none⟩=execOp (ev n M) ⟨dst,op,ty,pos,after,none⟩:=by
 have h:∀ t,((⟨dst,op,ty,pos,after,none⟩:Oper).looksAt #[]).elem t=true→aK M t=aK L' t:=fun t ht=>
  ko hag t (List.all_eq_true.1 hk t (List.elem_iff.1 ht))
 exact (db (n:=n) (ops:=#[]) (o:=⟨dst,op,ty,pos,after,none⟩) hs h).1.symm
abbrev lI (P:Program) (n:Fr) (L:List (Nat×Value)) (T:PT) (Mem:(Nat→Bool)→World→Prop) (S:Nat→Bool) (i:Nat) (o:Oper) (L':List (Nat×Value)) (w':World):Prop:=eZ P n o (fun L2 w2=>iH L T (bJ S i) L2 w2∧Mem (bJ S i) w2) L' w'
theorem oZ (hmo:iE Mu T) (hq:Mu.elem i=false) (hF:ag w' w''):∀ p∈T,p.1≠i→S p.1=true→∀ v,p.2.2 S v w'→p.2.2 (bJ S i) v w'':=fun p hp _ _ v h=>lp hmo p hp S i v w' w'' hq hF h
theorem az (M:List (Nat×Value)) (hU:ib (T.map fun p=>(p.1,p.2.1))) (hmo:iE Mu T) (hme:∀ S i w1 w2,Mu.elem i=false→ag w1 w2→Mem S w1→Mem (bJ S i) w2) (hI:iH L T S L' w') (hM:Mem S w') (hp:(i,d,R)∈T) (hq:Mu.elem i=false)
 (hs:bF op=false) (hk:(((⟨some d,op,ty,pos,after,none⟩:Oper).looksAt #[]).all fun t=>(M.map Prod.fst).elem t)=true) (hag:l_ L' M) (hr:RO P (ev n M) op w' v w'') (hF:ag w' w'') (hR:R (bJ S i) v w''):lI P n L T Mem S i ⟨some d,op,ty,pos,after,none⟩ L' w':=
 .inl ⟨d,v,w'',rfl,by rw [fK hs hk hag];exact hr _ _ _ _ _,hI.next hU hp hR (oZ hmo hq hF),hme S i _ _ hq hF hM⟩
theorem me (M:List (Nat×Value)) {f:FuncId} {al:List Operand} {ats:Array TypeId} (hU:ib (T.map fun p=>(p.1,p.2.1))) (hmo:iE Mu T) (hme:∀ S i w1 w2,Mu.elem i=false→ag w1 w2→Mem S w1→Mem (bJ S i) w2) (hI:iH L T S L' w') (hM:Mem S w') (hp:(i,d,R)∈T) (hq:Mu.elem i=false)
 (hk:(((⟨some d,.call { callee:=.value (.func f),args:=al.toArray,argTypes:=ats },ty,pos,after,none⟩:Oper).looksAt #[]).all fun t=>(M.map Prod.fst).elem t)=true) (hag:l_ L' M) (hf:aD P f=true) (hc:Rt P f (al.map (ev n M)) w' fun v w''=>ag w' w''∧R (bJ S i) v w'') :
 lI P n L T Mem S i ⟨some d,.call { callee:=.value (.func f),args:=al.toArray,argTypes:=ats },ty,pos,after,none⟩ L' w':=
 .inr (.inr ⟨d,f,al.map (ev n M),rfl,by rw [fK rfl hk hag,fm (fun _=>rfl),fC hf],Calls.mono hc fun e w2 ⟨v,he,hF,hR⟩=>⟨v,he,hI.next hU hp hR (oZ hmo hq hF),hme S i _ _ hq hF hM⟩⟩)
theorem gi (M:List (Nat×Value)) {f:FuncId} {al:List Operand} {ats:Array TypeId} (hU:ib (T.map fun p=>(p.1,p.2.1))) (hI:iH L T S L' w') (hp:(i,d,R)∈T)
 (hk:(((⟨some d,.call { callee:=.value (.func f),args:=al.toArray,argTypes:=ats },ty,pos,after,none⟩:Oper).looksAt #[]).all fun t=>(M.map Prod.fst).elem t)=true) (hag:l_ L' M) (hf:aD P f=true) (hc:Rt P f (al.map (ev n M)) w' fun v w''=>Mem (bJ S i) w''∧R (bJ S i) v w''∧ChP i S w' w'' T) :
 lI P n L T Mem S i ⟨some d,.call { callee:=.value (.func f),args:=al.toArray,argTypes:=ats },ty,pos,after,none⟩ L' w':=
 .inr (.inr ⟨d,f,al.map (ev n M),rfl,by rw [fK rfl hk hag,fm (fun _=>rfl),fC hf],Calls.mono hc fun e w2 ⟨v,he,hM,hR,hC⟩=>⟨v,he,hI.next hU hp hR (pH hC),hM⟩⟩)
def qF (S:Nat→Bool) (w:World):PT→(List (Nat×Value)→Prop)→Prop
 |[],K=>K []
 |p::r,K=>∀ v,p.2.2 S v w→qF S w r fun M=>K ((p.2.1,v)::M)
theorem jA {S:Nat→Bool} {w:World} {K:List (Nat×Value)→Prop} (h:K []):qF S w [] K:=h
theorem nR {S:Nat→Bool} {w:World} (ρ:Nat→Value):∀ (l:PT) {K:List (Nat×Value)→Prop},(∀ p∈l,p.2.2 S (ρ p.2.1) w)→qF S w l K→K (l.map fun p=>(p.2.1,ρ p.2.1))
 |[],_,_,h=>h
 |p::r,_,hr,h=>nR ρ r (fun e he=>hr e (List.mem_cons_of_mem _ he)) (h (ρ p.2.1) (hr p (List.mem_cons_self ..)))
theorem n_ (ρ:Nat→Value) (T:PT) (L:List (Nat×Value)) (t:Nat):((∃ p∈T,p.2.1=t)∧aK (T.map (fun p=>(p.2.1,ρ p.2.1))++L) t=ρ t)∨((∀ p∈T,p.2.1≠t)∧aK (T.map (fun p=>(p.2.1,ρ p.2.1))++L) t=aK L t):=by
 induction T with
 |nil=>exact .inr ⟨fun p hp=>by simp at hp,rfl⟩
 |cons q r ih=>
  rw [List.map_cons,List.cons_append,aV];by_cases e:t=q.2.1
  ·rw [if_pos e,←e];exact .inl ⟨⟨q,.head _,e.symm⟩,rfl⟩
  ·rw [if_neg e];rcases ih with ⟨⟨p,hp,h1⟩,h2⟩ | ⟨h1,h2⟩
   ·exact .inl ⟨⟨p,.tail _ hp,h1⟩,h2⟩
   ·refine .inr ⟨fun p hp=>?_,h2⟩;rcases List.mem_cons.1 hp with rfl | hp2
    ·exact fun e2=>e e2.symm
    ·exact h1 p hp2
theorem fb {T:PT} {t:Nat} (h:(T.map fun p=>p.2.1).elem t=false):∀ p∈T,p.2.1≠t:=fun p hp e=>by
 have:t∈T.map fun p=>p.2.1:=List.mem_map.2 ⟨p,hp,e⟩
 rw [List.elem_eq_mem,decide_eq_false_iff_not] at h;exact h this
theorem eZ.mono {o:Oper} {I1 I2:List (Nat×Value)→World→Prop} (hi:∀ L2 w2,I1 L2 w2→I2 L2 w2) (h:eZ P n o I1 L' w'):eZ P n o I2 L' w':=by
 rcases h with ⟨d,v,w2,h1,h2,h3⟩ | ⟨w2,h1,h2,h3⟩ | ⟨d,f,args,h1,h2,h3⟩
 ·exact .inl ⟨d,v,w2,h1,h2,hi _ _ h3⟩
 ·exact .inr (.inl ⟨w2,h1,h2,hi _ _ h3⟩)
 ·exact .inr (.inr ⟨d,f,args,h1,h2,Calls.mono h3 fun e w2 ⟨v,he,h⟩=>⟨v,he,hi _ _ h⟩⟩)
def eC (l:List Oper) (S:Nat→Bool):Prop:=∀ j o,l[j]? =some o→S j=true→∀ e∈o.after,Region.binds .any e=true→S e.on=true
theorem ae {j i:Nat} {o:Oper} (hC:eC l S) (ho:l[j]? =some o) (he:(o.after.toList.any fun e=>Region.binds .any e&&Nat.beq e.on i)=true) (hS:S i=false):S j=false:=by
 rcases hj:S j with _ | _
 ·rfl
 ·obtain ⟨e,h1,h2⟩:=List.any_eq_true.1 he;rw [Bool.and_eq_true] at h2;have:=hC j o ho hj e (by simpa using h1) h2.1;rw [Nat.eq_of_beq_eq_true h2.2,hS] at this;cases this
theorem iw {i:Nat} {o:Oper} (hC:eC l S) (ho:l[i]? =some o) (hE:∀ e∈o.after,Region.binds .any e=true→S e.on=true):eC l (bJ S i):=fun j o' hj hs e he hb=>by
 have up:∀ k,S k=true→bJ S i k=true:=fun k hk=>by
  unfold bJ;split
  ·rfl
  ·exact hk
 by_cases hji:j=i
 ·subst hji;rw [ho] at hj;cases hj;exact up _ (hE e he hb)
 ·exact up _ (hC j o' hj (oR hji hs) e he hb)
def mW (P:Program) (n:Fr) (L:List (Nat×Value)) (T:PT) (Mu:List Nat) (Mem:(Nat→Bool)→World→Prop) (l:List Oper):Nat→List Oper→Prop
 |_,[]=>True
 |i,o::r=>(∀ S L' w',ib (T.map fun p=>(p.1,p.2.1))→iE Mu T→(∀ S i w1 w2,Mu.elem i=false→ag w1 w2→Mem S w1→Mem (bJ S i) w2)→iH L T S L' w'→Mem S w'→eC l S→S i=false→eB S o.after.toList→lI P n L T Mem S i o L' w')∧mW P n L T Mu Mem l (i+1) r
theorem jX {L0:List (Nat×Value)} {l0:List Oper}:∀ {r:List Oper} {k:Nat},mW P n L0 T Mu Mem l0 k r→ib (T.map fun p=>(p.1,p.2.1))→iE Mu T→(∀ S i w1 w2,Mu.elem i=false→ag w1 w2→Mem S w1→Mem (bJ S i) w2)→∀ (i:Nat) (o:Oper),r[i]? =some o→∀ S L' w',iH L0 T S L' w'→Mem S w'→eC l0 S→S (k+i)=false→eB S o.after.toList→lI P n L0 T Mem S (k+i) o L' w'
 |[],_,_,_,_,_,i,o,h=>by simp at h
 |x::r,k,⟨h1,h2⟩,a,b,c,0,o,h=>by
  simp only [List.getElem?_cons_zero,Option.some.injEq] at h;subst h;exact fun S L' w'=>h1 S L' w' a b c
 |x::r,k,⟨h1,h2⟩,a,b,c,i+1,o,h=>by
  have:=jX h2 a b c i o (by simpa using h)
  rwa [show k+1+i=k+(i+1) by omega] at this
theorem kM {id:Nat} (T:PT) (Mu:List Nat) (Mem:(Nat→Bool)→World→Prop) (hm:P.follows .mixedOrders=true) (hwf:jr l=true) (hlt:(T.all fun p=>Nat.blt p.1 l.length)=true) (hU:oH (T.map fun p=>(p.1,p.2.1))=true) (hmo:iE Mu T) (hme:∀ S i w1 w2,Mu.elem i=false→ag w1 w2→Mem S w1→Mem (bJ S i) w2) (h0:Mem (fun _=>false) { w with drawn:=w.drawn+1 })
 (hstep:mW P n L T Mu Mem l 0 l) (hend:∀ w',Mem (fun i=>decide (i<l.length)) w'→qF (fun i=>decide (i<l.length)) w' T fun M=>Q .normal (mkA n (M++L)) w'):Cd P (.region id l.toArray true) Q n L w:=
 mP (fun S L' w'=>iH L T S L' w'∧Mem S w'∧eC l S) hm hwf ⟨⟨fun _ _=>rfl,fun _ _ h=>(by cases h),fun _ _ _=>rfl⟩,h0,fun _ _ _ h=>by cases h⟩ (fun i o S L' w' ho ⟨hI,hM,hC⟩ hS hE=>by
  have:=jX hstep (iI hU) hmo hme i o ho S L' w' hI hM hC (by rw [Nat.zero_add];exact hS) (gN fun e he=>hE e (by simpa using he));rw [Nat.zero_add] at this;exact eZ.mono (fun L2 w2 h=>⟨h.1,h.2,iw hC ho hE⟩) this) fun L' w' ⟨hI,hM,_⟩=>by
  have hlt':∀ p∈T,p.1<l.length:=fun p hp=>by
   have:=List.all_eq_true.1 hlt p hp;exact Nat.le_of_ble_eq_true this
  have h:=nR (aK L') T (fun p hp=>hI.2.1 p hp (decide_eq_true (hlt' p hp))) (hend w' hM)
  have e:mkA n L'=mkA n (T.map (fun p=>(p.2.1,aK L' p.2.1))++L):=by
   unfold mkA;rw [fW fun t _=>?_];rcases n_ (aK L') T L t with ⟨_,h2⟩ | ⟨h1,h2⟩
   ·exact h2.symm
   ·rw [h2];exact hI.1 t h1
  rw [e];exact h
end
end Go.Proofs.Ytkpooenofjdpmaa
namespace Go.Proofs.Ytkpooenofjdpmaa
open Go.Proofs.Try (prog)
open Go.RowKit
def GdP (n:Fr) (T:PT) (l0:List Oper):List Oper→Prop
 |[]=>True
 |o::r=>(match o.guard with
  |none=>True
  |some (j,b)=>o.after.toList.any (fun e=>e.on==j&&Region.binds .any e)=true∧∃ t R,(j,t,R)∈T∧fE l0 j=some t∧Nat.blt t n.n=true∧∀ S v w,R S v w→v=.bool b)∧GdP n T l0 r
end Go.Proofs.Ytkpooenofjdpmaa
namespace Go.Proofs.Ytkpooenofjdpmaa
open Go.Proofs.Try (prog)
open Go.RowKit
open Go.ChangeShapes Go.WideShapes Go.ChangeAt
theorem ng:fz prog 86=some true:=by kernel_rfl
theorem nc:cr prog 86=some 13:=by kernel_rfl
theorem jF:fH prog 42=some (86,13,128,(.agg #[.int .i64 0,.int .i64 0,.int .i64 0,.int .i64 0,.int .i64 0,.int .i64 0,.int .i64 0,.int .i64 0,.bool false,.slice none 0 0,.int .i64 0,.string ⟨#[]⟩,.bool false]:Value)):=by kernel_rfl
theorem jH:fz prog 42=some false:=by kernel_rfl
theorem aw:bo prog 65 0=some 0:=by kernel_rfl
theorem kS:bo prog 86 1=some 1:=by kernel_rfl
theorem kR:bo prog 86 2=some 2:=by kernel_rfl
theorem kQ:bo prog 86 3=some 3:=by kernel_rfl
theorem fA:bo prog 65 1=some 22:=by kernel_rfl
theorem nd:cr prog 42=some 1:=by kernel_rfl
theorem ow:prog.underlying 9=some .string:=by kernel_rfl
theorem gr:aD prog 39=true:=by kernel_rfl
theorem kT:bo prog 28 1=some 1:=by kernel_rfl
theorem dy:∀ (a0:Int) (a1:Int) (a2:Int) (a3:Int) (a4:ByteArray) (a5:Bool),prog.built 86 [(0,.int .i64 5),(4,.int .i64 a0),(5,.int .i64 a1),(10,.int .i64 a3),(11,.string a4),(12,.bool a5),(7,.int .i64 a2)]=some #[.int .i64 5,.int .i64 0,.int .i64 0,.int .i64 0,.int .i64 a0,.int .i64 a1,.int .i64 0,.int .i64 a2,.bool false,.slice none 0 0,.int .i64 a3,.string a4,.bool a5]:=by intros;kernel_rfl
theorem nf:aD prog 46=true:=by kernel_rfl
theorem jG:aD prog 47=true:=by kernel_rfl
theorem dW:∀ (a0:Int) (a1:Int) (a2:Int) (a3:Int) (a4:Option Addr) (a5 a6:Nat),prog.built 86 [(0,.int .i64 3),(4,.int .i64 a0),(5,.int .i64 a1),(6,.int .i64 a2),(9,.slice a4 a5 a6),(7,.int .i64 a3)]=some #[.int .i64 3,.int .i64 0,.int .i64 0,.int .i64 0,.int .i64 a0,.int .i64 a1,.int .i64 a2,.int .i64 a3,.bool false,.slice a4 a5 a6,.int .i64 0,.string ⟨#[]⟩,.bool false]:=by intros;kernel_rfl
theorem mw (w0:World) (Z:Nat→Prop) (T g:Nat) (p:Sp) (w:World) (h:aR w0 Z w T g p) (tag:Nat→Nat) (a:Ra) (O:Option Addr) (oc:Nat) (L:List Msg) (hs:ey w Z T g tag p a O oc L) (hl:L.length≤1000) (m:Msg) (to:Int) (hE:w.ownsRow 0 68 3 (.slice m.E m.es.length m.c) m.es.length (cG m.es)∧Col tag (1000+2*L.length) m.E) :
 Rt prog 39 [.pointer (some ⟨g,0,none⟩),.int .i64 to,.agg (gJ m).toArray] w (fun v w'=>v=.tuple #[]∧aR w0 Z w' T g (p.tell (pl { m with t:=to }))):=by
 refine enter (n:=32) Try.func39 rfl rfl rfl (an (ah (dw (v:=.agg _) rfl ?_)));intro b5 w1 E5 hb5 hk5;have hgb:=hs.b.lt;have h5:g≠b5:=by omega
 have hg5:w.heap.size≤b5:=Nat.le_of_eq hb5.symm;have hb0:=hs.b.from_ (ag.rfl_.next E5);refine ak (ai (an ?_));have hU2:jB [(0,6,.pointer (some ⟨g,0,none⟩)),(1,7,.pointer (some ⟨g,0,none⟩)),(2,8,.pointer (some ⟨g,0+0,none⟩)),(3,9,.pointer (some ⟨g,0+0+0,none⟩)),(4,10,.pointer (some ⟨g,0+0+0+0,none⟩)),(5,11,.int .i64 p.s.id),(6,12,.int .i64 to),(7,13,.pointer (some ⟨g,0,none⟩)),(8,14,.pointer (some ⟨g,0,none⟩)),(9,15,.pointer (some ⟨g,0+0,none⟩)),(10,16,.pointer (some ⟨g,0+0+0,none⟩)),(11,17,.pointer (some ⟨g,0+0+0+3,none⟩)),(12,18,.int .i64 p.s.term),(13,19,.pointer (some ⟨b5,0+1,none⟩)),(15,20,.pointer (some ⟨b5,0+2,none⟩)),(17,21,.pointer (some ⟨b5,0+3,none⟩))]:=by simp [jB]
 refine nQ [(0,6,.pointer (some ⟨g,0,none⟩)),(1,7,.pointer (some ⟨g,0,none⟩)),(2,8,.pointer (some ⟨g,0+0,none⟩)),(3,9,.pointer (some ⟨g,0+0+0,none⟩)),(4,10,.pointer (some ⟨g,0+0+0+0,none⟩)),(5,11,.int .i64 p.s.id),(6,12,.int .i64 to),(7,13,.pointer (some ⟨g,0,none⟩)),(8,14,.pointer (some ⟨g,0,none⟩)),(9,15,.pointer (some ⟨g,0+0,none⟩)),(10,16,.pointer (some ⟨g,0+0+0,none⟩)),(11,17,.pointer (some ⟨g,0+0+0+3,none⟩)),(12,18,.int .i64 p.s.term),(13,19,.pointer (some ⟨b5,0+1,none⟩)),(15,20,.pointer (some ⟨b5,0+2,none⟩)),(17,21,.pointer (some ⟨b5,0+3,none⟩))] (fun S w'=>Blk w' g T (rfV p.s a++[Value.slice O L.length oc]).toArray∧Blk w' b5 86 #[.int .i64 m.k,.int .i64 (bif S 14 then p.s.id else m.f),.int .i64 (bif S 16 then to else m.t),.int .i64 (bif S 18 then p.s.term else m.tm),.int .i64 m.ix,.int .i64 m.lt,.int .i64 m.cm,.int .i64 m.rd,.bool m.ok,.slice m.E m.es.length m.c,.int .i64 m.a,.string m.d,.bool m.dn]∧ag w w') (by kernel_rfl) (by kernel_rfl) hU2 (by simp) (⟨hb0.from_ ((ag.rfl_).d1),hk5.from_ ((ag.rfl_).d1),((ag.rfl_.next E5)).d1⟩) ?_ ?_
 ·constructor
  ·rintro S L' wS hI hM hS0 ⟨-⟩;have e0:=hI.1 0 (by simp);have hM':=hM;obtain ⟨hgB,hX,hB⟩:=hM';exact bC (aB e0) ⟨hI.put hU2 (.head _),hM⟩
  constructor
  ·rintro S L' wS hI hM hS0 ⟨d0,-⟩;have e6:aK L' 6=.pointer (some ⟨g,0,none⟩):=hI.get (i:=0) (.head _) d0;have hM':=hM;obtain ⟨hgB,hX,hB⟩:=hM';exact bC (ao e6) ⟨hI.put hU2 (.tail _ (.head _)),hM⟩
  constructor
  ·rintro S L' wS hI hM hS0 ⟨d1,-⟩;have e7:aK L' 7=.pointer (some ⟨g,0,none⟩):=hI.get (i:=1) (.tail _ (.head _)) d1;have hM':=hM;obtain ⟨hgB,hX,hB⟩:=hM';exact bC (aa aw e7) ⟨hI.put hU2 (.tail _ (.tail _ (.head _))),hM⟩
  constructor
  ·rintro S L' wS hI hM hS0 ⟨d2,-⟩;have e8:aK L' 8=.pointer (some ⟨g,0+0,none⟩):=hI.get (i:=2) (.tail _ (.tail _ (.head _))) d2;have hM':=hM;obtain ⟨hgB,hX,hB⟩:=hM';exact bC (aa aq e8) ⟨hI.put hU2 (.tail _ (.tail _ (.tail _ (.head _)))),hM⟩
  constructor
  ·rintro S L' wS hI hM hS0 ⟨d3,-⟩;have e9:aK L' 9=.pointer (some ⟨g,0+0+0,none⟩):=hI.get (i:=3) (.tail _ (.tail _ (.tail _ (.head _)))) d3;have hM':=hM;obtain ⟨hgB,hX,hB⟩:=hM';exact bC (aa ch e9) ⟨hI.put hU2 (.tail _ (.tail _ (.tail _ (.tail _ (.head _))))),hM⟩
  constructor
  ·rintro S L' wS hI hM hS0 ⟨d4,-⟩;have e10:aK L' 10=.pointer (some ⟨g,0+0+0+0,none⟩):=hI.get (i:=4) (.tail _ (.tail _ (.tail _ (.tail _ (.head _))))) d4;have hM':=hM;obtain ⟨hgB,hX,hB⟩:=hM';exact bC (ar au e10 (by exact bB hgB 0 rfl)) ⟨hI.put hU2 (.tail _ (.tail _ (.tail _ (.tail _ (.tail _ (.head _)))))),hM⟩
  constructor
  ·rintro S L' wS hI hM hS0 ⟨-,-⟩;have e1:=hI.1 1 (by simp);have hM':=hM;obtain ⟨hgB,hX,hB⟩:=hM';exact bC (aB e1) ⟨hI.put hU2 (.tail _ (.tail _ (.tail _ (.tail _ (.tail _ (.tail _ (.head _))))))),hM⟩
  constructor
  ·rintro S L' wS hI hM hS0 ⟨-,-⟩;have e0:=hI.1 0 (by simp);have hM':=hM;obtain ⟨hgB,hX,hB⟩:=hM';exact bC (aB e0) ⟨hI.put hU2 (.tail _ (.tail _ (.tail _ (.tail _ (.tail _ (.tail _ (.tail _ (.head _)))))))),hM⟩
  constructor
  ·rintro S L' wS hI hM hS0 ⟨d7,-,-⟩;have e13:aK L' 13=.pointer (some ⟨g,0,none⟩):=hI.get (i:=7) (.tail _ (.tail _ (.tail _ (.tail _ (.tail _ (.tail _ (.tail _ (.head _)))))))) d7;have hM':=hM;obtain ⟨hgB,hX,hB⟩:=hM';exact bC (ao e13) ⟨hI.put hU2 (.tail _ (.tail _ (.tail _ (.tail _ (.tail _ (.tail _ (.tail _ (.tail _ (.head _))))))))),hM⟩
  constructor
  ·rintro S L' wS hI hM hS0 ⟨d8,-,-⟩;have e14:aK L' 14=.pointer (some ⟨g,0,none⟩):=hI.get (i:=8) (.tail _ (.tail _ (.tail _ (.tail _ (.tail _ (.tail _ (.tail _ (.tail _ (.head _))))))))) d8;have hM':=hM;obtain ⟨hgB,hX,hB⟩:=hM';exact bC (aa aw e14) ⟨hI.put hU2 (.tail _ (.tail _ (.tail _ (.tail _ (.tail _ (.tail _ (.tail _ (.tail _ (.tail _ (.head _)))))))))),hM⟩
  constructor
  ·rintro S L' wS hI hM hS0 ⟨d9,-,-⟩;have e15:aK L' 15=.pointer (some ⟨g,0+0,none⟩):=hI.get (i:=9) (.tail _ (.tail _ (.tail _ (.tail _ (.tail _ (.tail _ (.tail _ (.tail _ (.tail _ (.head _)))))))))) d9;have hM':=hM;obtain ⟨hgB,hX,hB⟩:=hM';exact bC (aa aq e15) ⟨hI.put hU2 (.tail _ (.tail _ (.tail _ (.tail _ (.tail _ (.tail _ (.tail _ (.tail _ (.tail _ (.tail _ (.head _))))))))))),hM⟩
  constructor
  ·rintro S L' wS hI hM hS0 ⟨d10,-,-⟩;have e16:aK L' 16=.pointer (some ⟨g,0+0+0,none⟩):=hI.get (i:=10) (.tail _ (.tail _ (.tail _ (.tail _ (.tail _ (.tail _ (.tail _ (.tail _ (.tail _ (.tail _ (.head _))))))))))) d10;have hM':=hM;obtain ⟨hgB,hX,hB⟩:=hM';exact bC (aa bk e16) ⟨hI.put hU2 (.tail _ (.tail _ (.tail _ (.tail _ (.tail _ (.tail _ (.tail _ (.tail _ (.tail _ (.tail _ (.tail _ (.head _)))))))))))),hM⟩
  constructor
  ·rintro S L' wS hI hM hS0 ⟨d11,-,-⟩;have e17:aK L' 17=.pointer (some ⟨g,0+0+0+3,none⟩):=hI.get (i:=11) (.tail _ (.tail _ (.tail _ (.tail _ (.tail _ (.tail _ (.tail _ (.tail _ (.tail _ (.tail _ (.tail _ (.head _)))))))))))) d11;have hM':=hM;obtain ⟨hgB,hX,hB⟩:=hM';exact bC (ar au e17 (by exact bB hgB 3 rfl)) ⟨hI.put hU2 (.tail _ (.tail _ (.tail _ (.tail _ (.tail _ (.tail _ (.tail _ (.tail _ (.tail _ (.tail _ (.tail _ (.tail _ (.head _))))))))))))),hM⟩
  constructor
  ·rintro S L' wS hI hM hS0 ⟨d0,d1,d2,d3,d4,d5,-,-,-,-,-,-,-,-⟩;have e5:=hI.1 5 (by simp);have hM':=hM;obtain ⟨hgB,hX,hB⟩:=hM';exact bC (aa kS e5) ⟨hI.put hU2 (.tail _ (.tail _ (.tail _ (.tail _ (.tail _ (.tail _ (.tail _ (.tail _ (.tail _ (.tail _ (.tail _ (.tail _ (.tail _ (.head _)))))))))))))),hM⟩
  constructor
  ·rintro S L' wS hI hM hS0 ⟨d13,d5,d0,d1,d2,d3,d4,d5,-,-,-,-,-,-,-,-⟩;have e11:aK L' 11=.int .i64 p.s.id:=hI.get (i:=5) (.tail _ (.tail _ (.tail _ (.tail _ (.tail _ (.head _)))))) d5;have e19:aK L' 19=.pointer (some ⟨b5,0+1,none⟩):=hI.get (i:=13) (.tail _ (.tail _ (.tail _ (.tail _ (.tail _ (.tail _ (.tail _ (.tail _ (.tail _ (.tail _ (.tail _ (.tail _ (.tail _ (.head _)))))))))))))) d13;have hM':=hM;obtain ⟨hgB,hX,hB⟩:=hM';obtain ⟨w2,hR,hO,hb⟩:=gV (n:=32) (L:=L') (x:=.tmp 19) (y:=.tmp 11) aW e19 e11 rfl hX (by simp);exact iK hR ⟨hI.skip (by simp),hgB.only hO h5,hb,hB.only hO hg5⟩
  constructor
  ·rintro S L' wS hI hM hS0 ⟨d0,d1,d2,d3,d4,d5,d6,-,-,-,-,-,-,d13,d14,-⟩;have e5:=hI.1 5 (by simp);have hM':=hM;obtain ⟨hgB,hX,hB⟩:=hM';exact bC (aa kR e5) ⟨hI.put hU2 (.tail _ (.tail _ (.tail _ (.tail _ (.tail _ (.tail _ (.tail _ (.tail _ (.tail _ (.tail _ (.tail _ (.tail _ (.tail _ (.tail _ (.head _))))))))))))))),hM⟩
  constructor
  ·rintro S L' wS hI hM hS0 ⟨d15,d6,d14,d0,d1,d2,d3,d4,d5,d6,-,-,-,-,-,-,d13,d14,-⟩;have e12:aK L' 12=.int .i64 to:=hI.get (i:=6) (.tail _ (.tail _ (.tail _ (.tail _ (.tail _ (.tail _ (.head _))))))) d6;have e20:aK L' 20=.pointer (some ⟨b5,0+2,none⟩):=hI.get (i:=15) (.tail _ (.tail _ (.tail _ (.tail _ (.tail _ (.tail _ (.tail _ (.tail _ (.tail _ (.tail _ (.tail _ (.tail _ (.tail _ (.tail _ (.head _))))))))))))))) d15;have hM':=hM;obtain ⟨hgB,hX,hB⟩:=hM';obtain ⟨w2,hR,hO,hb⟩:=gV (n:=32) (L:=L') (x:=.tmp 20) (y:=.tmp 12) aW e20 e12 rfl hX (by simp);exact iK hR ⟨hI.skip (by simp),hgB.only hO h5,hb,hB.only hO hg5⟩
  constructor
  ·rintro S L' wS hI hM hS0 ⟨d0,d1,d2,d3,d4,d5,d6,d7,d8,d9,d10,d11,d12,d13,d14,d15,d16,-⟩;have e5:=hI.1 5 (by simp);have hM':=hM;obtain ⟨hgB,hX,hB⟩:=hM';exact bC (aa kQ e5) ⟨hI.put hU2 (.tail _ (.tail _ (.tail _ (.tail _ (.tail _ (.tail _ (.tail _ (.tail _ (.tail _ (.tail _ (.tail _ (.tail _ (.tail _ (.tail _ (.tail _ (.head _)))))))))))))))),hM⟩
  constructor
  ·rintro S L' wS hI hM hS0 ⟨d17,d12,d16,d0,d1,d2,d3,d4,d5,d6,d7,d8,d9,d10,d11,d12,d13,d14,d15,d16,-⟩;have e18:aK L' 18=.int .i64 p.s.term:=hI.get (i:=12) (.tail _ (.tail _ (.tail _ (.tail _ (.tail _ (.tail _ (.tail _ (.tail _ (.tail _ (.tail _ (.tail _ (.tail _ (.head _))))))))))))) d12;have e21:aK L' 21=.pointer (some ⟨b5,0+3,none⟩):=hI.get (i:=17) (.tail _ (.tail _ (.tail _ (.tail _ (.tail _ (.tail _ (.tail _ (.tail _ (.tail _ (.tail _ (.tail _ (.tail _ (.tail _ (.tail _ (.tail _ (.head _)))))))))))))))) d17;have hM':=hM;obtain ⟨hgB,hX,hB⟩:=hM';obtain ⟨w2,hR,hO,hb⟩:=gV (n:=32) (L:=L') (x:=.tmp 21) (y:=.tmp 18) aW e21 e18 rfl hX (by simp);exact iK hR ⟨hI.skip (by simp),hgB.only hO h5,hb,hB.only hO hg5⟩
  exact trivial
 ·intro w3 hM;obtain ⟨hgB,hX,hB⟩:=hM;have hB1:=hB;replace hX:Blk w3 b5 86 (gJ { m with f:=p.s.id,t:=to,tm:=p.s.term }).toArray:=hX;refine ai ?_;apply rb 8 7 [28] [(22,eqp _),(23,eqp _),(24,eqp _),(25,eqp _),(26,eqp (.slice O L.length oc)),(27,eqp (.agg (gJ { m with f:=p.s.id,t:=to,tm:=p.s.term }).toArray)),(28,fun v w'=>∃ q,v=.slice (some ⟨q,0,none⟩) 1 1∧Blk w' q 86 (gJ { m with f:=p.s.id,t:=to,tm:=p.s.term }).toArray),(29,fun v w'=>∃ A2 c2,v=.slice A2 (L.length+1) c2∧w'.ownsRow 0 86 13 (.slice A2 (L.length+1) c2) (L.length+1) (L.flatMap gJ++gJ { m with f:=p.s.id,t:=to,tm:=p.s.term })∧(∀ k,A2.map (·.block)=some k→O.map (·.block)=some k∨(w3).heap.size≤k))] (fun w'=>ag w3 w') (fun w'=>(w3).grownBy w' (O.map (·.block))) (by repeat first | exact et | refine er ?_ | refine dL ?_) (by kernel_rfl) (by kernel_rfl) (by kernel_rfl) ⟨av _,av _,av _,av _,av _,av _,(fun _ _ _ hF ⟨q,h1,h2⟩=>⟨q,h1,h2.from_ hF⟩),(fun _ _ _ hF ⟨A2,c2,h1,h2,h3⟩=>⟨A2,c2,h1,h2.kept_from hF,h3⟩),trivial⟩ (ag.rfl_.d1) (ag.rfl_.d1.grown _) (fun _ _ hF h=>h.next hF) (fun _ _ hF h=>iq h (hF.grown _))
  case hop=>
   constructor
   ·rintro-w5 hG5;exact ax (aB (v:=.pointer _) rfl) rfl
   constructor
   ·rintro-w6 hG6;exact ax (aB (v:=.pointer _) rfl) rfl
   constructor
   ·rintro-w7 hG7;rintro _ rfl;exact ax (ao rfl) rfl
   constructor
   ·rintro-w8 D8;rintro _ rfl;exact ax (aa fA rfl) rfl
   constructor
   ·rintro-w9 D9;rintro _ rfl;exact ax (ar jH rfl (show _=some (Value.slice O L.length oc) from (hgB.from_ D9).rd 22 rfl)) rfl
   constructor
   ·rintro-w10 D10;exact ax (bh (cs:=gJ { m with f:=p.s.id,t:=to,tm:=p.s.term }) ng nc rfl ((hX.from_ D10).whole)) rfl
   constructor
   ·rintro-w11 D11;rintro v11_27 rfl;exact kE (mn (l:=[(0,.tmp 27)]) (cells:=(gJ { m with f:=p.s.id,t:=to,tm:=p.s.term }).toArray) jF rfl rfl (by show Instr.fill _ _ [(0,Value.agg (gJ { m with f:=p.s.id,t:=to,tm:=p.s.term }).toArray)]=_;kernel_rfl)) (ag.rfl_.new _) ⟨_,rfl,Blk.new _ _ _⟩
   constructor
   ·intro h;cases h
   exact trivial
  case hmu=>
   rintro w13 D13;rintro v13_26 rfl v13_28 ⟨q13,rfl,hq13⟩;show pV ..;refine mA (news:=gJ { m with f:=p.s.id,t:=to,tm:=p.s.term }) jF rfl (by decide) rfl ((hs.m.o.kept_from hB).kept_from D13) (Nat.zero_le _) rfl rfl ⟨_,_,rfl,hq13.whole⟩ (by simp [gJ,Value.oneCell']) (by omega) (by omega) ?_;intro A3 c3 w3 ho3 hg3 hl3;exact ⟨iq (D13.grown _) hg3,⟨A3,c3,rfl,ho3,fun k hk=>(hl3 k hk).imp id fun e=>Nat.le_trans D13.size e⟩,fun t u ht h=>ln (by repeat first | exact trivial | refine ⟨.inl rfl,?_⟩ | refine ⟨.inr (fun _ h=>h),?_⟩) t u ht h⟩
  case hend=>
   rintro w14 hG14;rintro _ rfl _ rfl _ rfl _ rfl v26 rfl v27 rfl v28 _ v29 ⟨A29,c29,rfl,ho29,hL29⟩;show St ..;have hgD:=hG14;have hgC:=hgB.chg (Chg.of_grown (U:=fun k=>tag k=6) hgD (fun k hk=>hs.m.c k hk)) (fun e=>by rw [hs.gc] at e;cases e);refine ab (ao rfl) (ab (aa fA rfl) (mg (v:=.slice _ _ _) nd rfl rfl rfl (hgC) (by show _<23;decide) ?_));intro w15 O2 P2;refine ak (cN (fa rfl (⟨rfl,h.push hs (x:={ m with f:=p.s.id,t:=to,tm:=p.s.term }) hE hB hgD ho29 rfl (fun k hk=>(hL29 k hk).imp id fun e=>Nat.le_trans hB.size e) O2 P2⟩)))
theorem qR (B T i:Int) (A:Option Addr) (n c:Nat) (xs:List Ent) (w:World) (h:bY w (.slice A n c) xs) (hm:bn B T xs=true) (hi:B+1≤i∧i≤bH B xs+1) :
 Rt prog 46 [.agg #[.int .i64 B,.int .i64 T,.slice A n c],.int .i64 i,.int .i64 16] w fun v w'=>(∃ A' c',v=.tuple #[.slice A' ((xs.drop (i-B-1).toNat).take 16).length c',.int .i64 0]∧w'.ownsRow w.heap.size 68 3 (.slice A' ((xs.drop (i-B-1).toNat).take 16).length c') ((xs.drop (i-B-1).toNat).take 16).length (cG ((xs.drop (i-B-1).toNat).take 16)))∧ag w w':=
 (nX B T i 16 (.slice A n c) xs w h (by decide)).mono fun e w' ⟨L,he,hg,hF⟩=>by
  have h0:iW B T xs i 16=0:=by
   unfold iW;rw [if_pos hm,if_pos hi,if_neg (by decide)]
  rw [h0] at he hg;have ho:=hg.2 rfl;obtain ⟨A',c',rfl⟩:=dM ho;exact ⟨_,he,⟨A',c',rfl,ho⟩,hF⟩
theorem ml {P:Program} {ρ:Operand→Value} {w:World} {t:TypeId} {x y z:Operand} {k k':IntKind} {s r:ByteArray} {l h:Nat} (ht:P.underlying t=some .string) (hx:ρ x=.string s) (hy:ρ y=.int k (l:Int)) (hz:ρ z=.int k' (h:Int)) (h1:l≤h) (h2:h≤s.size) (hr:s.extract l h=r):RO P ρ (.slice t x (some y) (some z) none) w (.string r) w:=fun _ _ _ _ _=>by
 subst hr;simp only [execOp,hx,hy,hz,Option.map_none,Option.map_some,Sem.run_bind];rw [run_sliceAt_string w t _ _ _ _ ht,run_slice_string_if w t s k k' (l:Int) (h:Int) ht,if_pos (by omega),if_pos (by omega),Result.andThen_ok,Int.toNat_natCast,Int.toNat_natCast];rfl
theorem mj {s:Rf} {to:Int} (h:at1 s.next to≤s.b) {na:Nat} (ha:at1 s.sent to=(na:Int)):gB s to={ zM with k:=5,t:=to,ix:=s.b,lt:=s.t,rd:=s.round,a:=(na:Int),d:=s.snap.extract na (min (na+1024) s.snap.size),dn:=decide (min (na+1024) s.snap.size=s.snap.size) }:=by
 unfold gB;simp only;rw [if_pos h,ha,Int.toNat_natCast]
theorem n2 {s:Rf} {to:Int} (h:¬ at1 s.next to≤s.b):gB s to={ zM with k:=3,t:=to,ix:=at1 s.next to-1,lt:=dI s.b s.t s.es (at1 s.next to-1),cm:=s.commit,rd:=s.round,es:=(s.es.drop (at1 s.next to-s.b-1).toNat).take 16 }:=by
 unfold gB;simp only;rw [if_neg h,show at1 s.next to-1-s.b=at1 s.next to-s.b-1 by omega]
theorem pM {l:List Int} {k:Nat} (h:k<l.length):at1 l ((k:Int)+1)=l[k]:=by
 unfold at1;rw [show ((k:Int)+1-1).toNat=k by omega,List.getD_eq_getElem?_getD,List.getElem?_eq_getElem h];rfl
theorem p4 (w0:World) (Z:Nat→Prop) (T g:Nat) (p:Sp) (w:World) (h:aR w0 Z w T g p) (hF:RfF p.s) (hr:p.s.role=2) (hl:p.out.length≤900) (to:Int) (hto:1≤to∧to≤p.s.nodes) :
 Rt prog 41 [.pointer (some ⟨g,0,none⟩),.int .i64 to] w (fun v w'=>v=.tuple #[]∧aR w0 Z w' T g (p.send to)):=by
 obtain ⟨tag,a,O,oc,L,hs⟩:=h.ex;obtain ⟨E,Ec,V,Vc,X,Xc,M,Mc,S,Sc,Q,Qc,LL⟩:=a;have hb:=hs.b;have hll:L.length=p.out.length:=by rw [←hs.m.l,List.length_map]
 obtain ⟨k,rfl⟩:∃ k:Nat,to=(k:Int)+1:=⟨(to-1).toNat,by omega⟩;have hXl:p.s.next.length=p.s.nodes.toNat:=by rw [hF.nx.1,eX hr]
 have hSl:p.s.sent.length=p.s.nodes.toNat:=by rw [hF.se.1,eX hr]
 have hkX:k<p.s.next.length:=by omega
 have hkS:k<p.s.sent.length:=by omega
 have hnx:=hF.nx.2 _ (List.getElem_mem hkX);have hse:=hF.se.2 _ (List.getElem_mem hkS);obtain ⟨gX,rfl⟩:∃ q,X=some ⟨q,0,none⟩:=ea (hs.f.x (by decide)).1 (by omega);have hXo:w.ownsRow 0 3 1 (.slice (some ⟨gX,0,none⟩) p.s.next.length Xc) p.s.next.length (p.s.next.map iV):=(hs.f.x (by decide)).1;have hXc:=fi (l:=p.s.next) hXo k hkX;obtain ⟨gS,rfl⟩:∃ q,S=some ⟨q,0,none⟩:=ea (hs.f.n (by decide)).1 (by omega);have hSo:w.ownsRow 0 3 1 (.slice (some ⟨gS,0,none⟩) p.s.sent.length Sc) p.s.sent.length (p.s.sent.map iV):=(hs.f.n (by decide)).1;have hSc:=fi (l:=p.s.sent) hSo k hkS;obtain ⟨na,hna⟩:∃ na:Nat,p.s.sent[k]=(na:Int):=⟨p.s.sent[k].toNat,by omega⟩;have he:bY w (.slice E p.s.es.length Ec) p.s.es:=hs.f.rd.e;have hzw:=h.zw;have hnn:=hF.n;have hsn:=hF.sn;have hbl:=hF.last;have hlb:bH p.s.b p.s.es=aE p.s:=rfl;have hpn:=pM hkX;have hpx:=pM hkS;refine enter (n:=127) Try.func41 rfl rfl rfl (an (ah (mvp rfl (ab (ao rfl) (ab (aa aw rfl) (ab (aa aq rfl) (ab (aa br rfl) (ab (ar aL rfl (by exact bB (hb.from_ ag.rfl_) 15 rfl)) ?_))))))));refine mvi rfl (ab (eH rfl rfl (by omega)) (dJ (t:=16) (v:=.int _ _) (v':=.int .i64 (k:Nat)) rfl (by exact aZ (by omega)) ?_));refine ab (cK bR rfl rfl (by omega)) (ab (ar au rfl (by exact eQ ag.rfl_ hXc)) ?_);refine asi rfl (ak (ai (an (an (ah (mvi rfl (mvp rfl (ab (ao rfl) (ab (aa aw rfl) (ab (aa aq rfl) (ab (aa aY rfl) (ab (aa dB rfl) ?_))))))))))));refine ab (ar au rfl (by exact bB (hb.from_ ag.rfl_) 6 rfl)) ?_;refine ab (gj rfl rfl) (ak (ai (r7 rfl (fun Q1=>?_) (fun Q1=>?_))))
 ·refine an (ah (mvp rfl (ab (ao rfl) (ab (aa aw rfl) (ab (aa aq rfl) (ab (aa bN rfl) (ab (ar aL rfl (by exact bB (hb.from_ ag.rfl_) 17 rfl)) ?_)))))));refine mvi rfl (ab (eH rfl rfl (by omega)) (dJ (t:=35) (v:=.int _ _) (v':=.int .i64 (k:Nat)) rfl (by exact aZ (by omega)) ?_));refine ab (cK bR rfl rfl (by omega)) (ab (ar au rfl (by exact eQ ag.rfl_ hSc)) ?_);refine dJ (t:=37) (v:=.int _ _) (v':=.int .i64 (na:Nat)) rfl (by exact congrArg (Value.int .i64) hna) ?_;refine asi rfl (ak (ai (an (ah (mvi rfl (ab (cL (b:=1024) rfl rfl (by omega)) (mvp rfl (ab (ao rfl) (ab (aa aw rfl) (ab (aa aq rfl) (ab (aa cB rfl) ?_)))))))))));refine ab (ar cu rfl (by exact bB (hb.from_ ag.rfl_) 9 rfl)) ?_;refine ab (gD (by kernel_rfl) rfl) (ab (ky rfl rfl) (dJ (t:=47) (v:=.int _ _) (v':=.int .i64 ((min (na+1024) p.s.snap.size:Nat):Int)) rfl (by exact aZ (by omega)) ?_));refine asi rfl (ak (ai (an ?_)));apply kM [(0,48,fun _ v _=>v=_),(1,49,fun _ v _=>v=_),(2,50,fun _ v _=>v=_),(3,51,fun _ v _=>v=_),(4,52,fun _ v _=>v=_),(5,53,fun _ v _=>v=_),(6,54,fun _ v _=>v=_),(7,55,fun _ v _=>v=_),(8,56,fun _ v _=>v=_),(9,57,fun _ v _=>v=_),(10,58,fun _ v _=>v=_),(11,59,fun _ v _=>v=_),(12,60,fun _ v _=>v=_),(13,61,fun _ v _=>v=_),(14,62,fun _ v _=>v=_),(15,63,fun _ v _=>v=_),(16,64,fun _ v _=>v=_),(17,65,fun _ v _=>v=_),(18,66,fun _ v _=>v=_),(19,67,fun _ v _=>v=_),(20,68,fun _ v _=>v=_),(21,69,fun _ v _=>v=_),(22,70,fun _ v _=>v=_),(23,71,fun _ v _=>v=_),(24,72,fun _ v _=>v=_),(25,73,fun _ v _=>v=_),(26,74,fun _ v _=>v=_),(27,75,fun _ v _=>v=_),(28,76,fun _ v _=>v=_),(29,77,fun _ v _=>v=_),(30,78,fun _ v _=>v=_),(31,79,fun _ v _=>v=_),(32,80,fun _ v _=>v=_),(33,81,fun _ v _=>v=_),(34,82,fun _ v _=>v=_),(35,83,fun _ v _=>v=_),(36,84,fun _ v _=>v=_),(37,85,fun _ v _=>v=_),(38,86,fun _ v _=>v=_),(39,87,fun _ v _=>v=_),(40,88,fun _ v _=>v=_),(41,89,fun _ v _=>v=_),(42,90,fun _ v _=>v=_)] [42] (fun S w'=>(S 42=false→ag w w')∧(S 42=true→aR w0 Z w' T g (p.tell (pl { ({ zM with k:=5,ix:=p.s.b,lt:=p.s.t,rd:=p.s.round,a:=(na:Int),d:=p.s.snap.extract na (min (na+1024) p.s.snap.size),dn:=decide (min (na+1024) p.s.snap.size=p.s.snap.size) }:Msg) with t:=(k:Int)+1 })))) (by kernel_rfl) (by kernel_rfl) rfl rfl ⟨fun _ _ _ _ _ _ _ h=>h,fun _ _ _ _ _ _ _ h=>h,fun _ _ _ _ _ _ _ h=>h,fun _ _ _ _ _ _ _ h=>h,fun _ _ _ _ _ _ _ h=>h,fun _ _ _ _ _ _ _ h=>h,fun _ _ _ _ _ _ _ h=>h,fun _ _ _ _ _ _ _ h=>h,fun _ _ _ _ _ _ _ h=>h,fun _ _ _ _ _ _ _ h=>h,fun _ _ _ _ _ _ _ h=>h,fun _ _ _ _ _ _ _ h=>h,fun _ _ _ _ _ _ _ h=>h,fun _ _ _ _ _ _ _ h=>h,fun _ _ _ _ _ _ _ h=>h,fun _ _ _ _ _ _ _ h=>h,fun _ _ _ _ _ _ _ h=>h,fun _ _ _ _ _ _ _ h=>h,fun _ _ _ _ _ _ _ h=>h,fun _ _ _ _ _ _ _ h=>h,fun _ _ _ _ _ _ _ h=>h,fun _ _ _ _ _ _ _ h=>h,fun _ _ _ _ _ _ _ h=>h,fun _ _ _ _ _ _ _ h=>h,fun _ _ _ _ _ _ _ h=>h,fun _ _ _ _ _ _ _ h=>h,fun _ _ _ _ _ _ _ h=>h,fun _ _ _ _ _ _ _ h=>h,fun _ _ _ _ _ _ _ h=>h,fun _ _ _ _ _ _ _ h=>h,fun _ _ _ _ _ _ _ h=>h,fun _ _ _ _ _ _ _ h=>h,fun _ _ _ _ _ _ _ h=>h,fun _ _ _ _ _ _ _ h=>h,fun _ _ _ _ _ _ _ h=>h,fun _ _ _ _ _ _ _ h=>h,fun _ _ _ _ _ _ _ h=>h,fun _ _ _ _ _ _ _ h=>h,fun _ _ _ _ _ _ _ h=>h,fun _ _ _ _ _ _ _ h=>h,fun _ _ _ _ _ _ _ h=>h,fun _ _ _ _ _ _ _ h=>h,fun _ _ _ _ _ _ _ h=>h,trivial⟩ (fun S i w1 w2 hq hF h=>⟨fun h0=>(h.1 (p3 h0)).next hF,fun h1=>(fun h=>h.from_ hF) (h.2 (oR (show 42≠i by rintro rfl;exact absurd hq (by decide)) h1))⟩) ⟨fun _=>ag.rfl_.d1,fun h=>by cases h⟩
  case hstep=>
   constructor
   ·rintro S L' w2 hU hmo hme hI hM hC hS ⟨-⟩;have hS0:S 42=false:=(ae hC (j:=42) rfl (by kernel_rfl) hS);have hM2:=hM.1 hS0;have e0:=hI.1 0 (fb rfl);exact az [(0,_)] hU hmo hme hI hM (.head _) rfl rfl (by kernel_rfl) ⟨e0,trivial⟩ (aB (v:=.pointer _) rfl) ag.rfl_ (rfl)
   constructor
   ·rintro S L' w3 hU hmo hme hI hM hC hS ⟨-⟩;have hS0:S 42=false:=(ae hC (j:=42) rfl (by kernel_rfl) hS);have hM3:=hM.1 hS0;have e1:=hI.1 1 (fb rfl);exact az [(1,_)] hU hmo hme hI hM (.tail _ (.head _)) rfl rfl (by kernel_rfl) ⟨e1,trivial⟩ (aB (v:=.int _ _) rfl) ag.rfl_ (rfl)
   constructor
   ·rintro S L' w4 hU hmo hme hI hM hC hS ⟨-⟩;have hS0:S 42=false:=(ae hC (j:=42) rfl (by kernel_rfl) (ae hC (j:=41) rfl (by kernel_rfl) (ae hC (j:=8) rfl (by kernel_rfl) (ae hC (j:=7) rfl (by kernel_rfl) (ae hC (j:=6) rfl (by kernel_rfl) (ae hC (j:=5) rfl (by kernel_rfl) (ae hC (j:=4) rfl (by kernel_rfl) (ae hC (j:=3) rfl (by kernel_rfl) hS))))))));have hM4:=hM.1 hS0;have e0:=hI.1 0 (fb rfl);exact az [(0,_)] hU hmo hme hI hM (.tail _ (.tail _ (.head _))) rfl rfl (by kernel_rfl) ⟨e0,trivial⟩ (aB (v:=.pointer _) rfl) ag.rfl_ (rfl)
   constructor
   ·rintro S L' w5 hU hmo hme hI hM hC hS ⟨d2,-⟩;have hS0:S 42=false:=(ae hC (j:=42) rfl (by kernel_rfl) (ae hC (j:=41) rfl (by kernel_rfl) (ae hC (j:=8) rfl (by kernel_rfl) (ae hC (j:=7) rfl (by kernel_rfl) (ae hC (j:=6) rfl (by kernel_rfl) (ae hC (j:=5) rfl (by kernel_rfl) (ae hC (j:=4) rfl (by kernel_rfl) hS)))))));have hM5:=hM.1 hS0;obtain ⟨v5_50,e50,h50⟩:=hI.get (i:=2) (.tail _ (.tail _ (.head _))) d2;obtain rfl:=h50;exact az [(50,_)] hU hmo hme hI hM (.tail _ (.tail _ (.tail _ (.head _)))) rfl rfl (by kernel_rfl) ⟨e50,trivial⟩ (ao rfl) ag.rfl_ (rfl)
   constructor
   ·rintro S L' w6 hU hmo hme hI hM hC hS ⟨d3,-⟩;have hS0:S 42=false:=(ae hC (j:=42) rfl (by kernel_rfl) (ae hC (j:=41) rfl (by kernel_rfl) (ae hC (j:=8) rfl (by kernel_rfl) (ae hC (j:=7) rfl (by kernel_rfl) (ae hC (j:=6) rfl (by kernel_rfl) (ae hC (j:=5) rfl (by kernel_rfl) hS))))));have hM6:=hM.1 hS0;obtain ⟨v6_51,e51,h51⟩:=hI.get (i:=3) (.tail _ (.tail _ (.tail _ (.head _)))) d3;obtain rfl:=h51;exact az [(51,_)] hU hmo hme hI hM (.tail _ (.tail _ (.tail _ (.tail _ (.head _))))) rfl rfl (by kernel_rfl) ⟨e51,trivial⟩ (aa aw rfl) ag.rfl_ (rfl)
   constructor
   ·rintro S L' w7 hU hmo hme hI hM hC hS ⟨d4,-⟩;have hS0:S 42=false:=(ae hC (j:=42) rfl (by kernel_rfl) (ae hC (j:=41) rfl (by kernel_rfl) (ae hC (j:=8) rfl (by kernel_rfl) (ae hC (j:=7) rfl (by kernel_rfl) (ae hC (j:=6) rfl (by kernel_rfl) hS)))));have hM7:=hM.1 hS0;obtain ⟨v7_52,e52,h52⟩:=hI.get (i:=4) (.tail _ (.tail _ (.tail _ (.tail _ (.head _))))) d4;obtain rfl:=h52;exact az [(52,_)] hU hmo hme hI hM (.tail _ (.tail _ (.tail _ (.tail _ (.tail _ (.head _)))))) rfl rfl (by kernel_rfl) ⟨e52,trivial⟩ (aa aq rfl) ag.rfl_ (rfl)
   constructor
   ·rintro S L' w8 hU hmo hme hI hM hC hS ⟨d5,-⟩;have hS0:S 42=false:=(ae hC (j:=42) rfl (by kernel_rfl) (ae hC (j:=41) rfl (by kernel_rfl) (ae hC (j:=8) rfl (by kernel_rfl) (ae hC (j:=7) rfl (by kernel_rfl) hS))));have hM8:=hM.1 hS0;obtain ⟨v8_53,e53,h53⟩:=hI.get (i:=5) (.tail _ (.tail _ (.tail _ (.tail _ (.tail _ (.head _)))))) d5;obtain rfl:=h53;exact az [(53,_)] hU hmo hme hI hM (.tail _ (.tail _ (.tail _ (.tail _ (.tail _ (.tail _ (.head _))))))) rfl rfl (by kernel_rfl) ⟨e53,trivial⟩ (aa aY rfl) ag.rfl_ (rfl)
   constructor
   ·rintro S L' w9 hU hmo hme hI hM hC hS ⟨d6,-⟩;have hS0:S 42=false:=(ae hC (j:=42) rfl (by kernel_rfl) (ae hC (j:=41) rfl (by kernel_rfl) (ae hC (j:=8) rfl (by kernel_rfl) hS)));have hM9:=hM.1 hS0;obtain ⟨v9_54,e54,h54⟩:=hI.get (i:=6) (.tail _ (.tail _ (.tail _ (.tail _ (.tail _ (.tail _ (.head _))))))) d6;obtain rfl:=h54;exact az [(54,_)] hU hmo hme hI hM (.tail _ (.tail _ (.tail _ (.tail _ (.tail _ (.tail _ (.tail _ (.head _)))))))) rfl rfl (by kernel_rfl) ⟨e54,trivial⟩ (aa dB rfl) ag.rfl_ (rfl)
   constructor
   ·rintro S L' w10 hU hmo hme hI hM hC hS ⟨d7,-⟩;have hS0:S 42=false:=(ae hC (j:=42) rfl (by kernel_rfl) (ae hC (j:=41) rfl (by kernel_rfl) hS));have hM10:=hM.1 hS0;obtain ⟨v10_55,e55,h55⟩:=hI.get (i:=7) (.tail _ (.tail _ (.tail _ (.tail _ (.tail _ (.tail _ (.tail _ (.head _)))))))) d7;obtain rfl:=h55;exact az [(55,_)] hU hmo hme hI hM (.tail _ (.tail _ (.tail _ (.tail _ (.tail _ (.tail _ (.tail _ (.tail _ (.head _))))))))) rfl rfl (by kernel_rfl) ⟨e55,trivial⟩ (ar au rfl (by exact bB (hb.from_ (ag.rfl_.next hM10)) 6 rfl)) ag.rfl_ (rfl)
   constructor
   ·rintro S L' w11 hU hmo hme hI hM hC hS ⟨-⟩;have hS0:S 42=false:=(ae hC (j:=42) rfl (by kernel_rfl) (ae hC (j:=41) rfl (by kernel_rfl) (ae hC (j:=15) rfl (by kernel_rfl) (ae hC (j:=14) rfl (by kernel_rfl) (ae hC (j:=13) rfl (by kernel_rfl) (ae hC (j:=12) rfl (by kernel_rfl) (ae hC (j:=11) rfl (by kernel_rfl) (ae hC (j:=10) rfl (by kernel_rfl) hS))))))));have hM11:=hM.1 hS0;have e0:=hI.1 0 (fb rfl);exact az [(0,_)] hU hmo hme hI hM (.tail _ (.tail _ (.tail _ (.tail _ (.tail _ (.tail _ (.tail _ (.tail _ (.tail _ (.head _)))))))))) rfl rfl (by kernel_rfl) ⟨e0,trivial⟩ (aB (v:=.pointer _) rfl) ag.rfl_ (rfl)
   constructor
   ·rintro S L' w12 hU hmo hme hI hM hC hS ⟨d9,-⟩;have hS0:S 42=false:=(ae hC (j:=42) rfl (by kernel_rfl) (ae hC (j:=41) rfl (by kernel_rfl) (ae hC (j:=15) rfl (by kernel_rfl) (ae hC (j:=14) rfl (by kernel_rfl) (ae hC (j:=13) rfl (by kernel_rfl) (ae hC (j:=12) rfl (by kernel_rfl) (ae hC (j:=11) rfl (by kernel_rfl) hS)))))));have hM12:=hM.1 hS0;obtain ⟨v12_57,e57,h57⟩:=hI.get (i:=9) (.tail _ (.tail _ (.tail _ (.tail _ (.tail _ (.tail _ (.tail _ (.tail _ (.tail _ (.head _)))))))))) d9;obtain rfl:=h57;exact az [(57,_)] hU hmo hme hI hM (.tail _ (.tail _ (.tail _ (.tail _ (.tail _ (.tail _ (.tail _ (.tail _ (.tail _ (.tail _ (.head _))))))))))) rfl rfl (by kernel_rfl) ⟨e57,trivial⟩ (ao rfl) ag.rfl_ (rfl)
   constructor
   ·rintro S L' w13 hU hmo hme hI hM hC hS ⟨d10,-⟩;have hS0:S 42=false:=(ae hC (j:=42) rfl (by kernel_rfl) (ae hC (j:=41) rfl (by kernel_rfl) (ae hC (j:=15) rfl (by kernel_rfl) (ae hC (j:=14) rfl (by kernel_rfl) (ae hC (j:=13) rfl (by kernel_rfl) (ae hC (j:=12) rfl (by kernel_rfl) hS))))));have hM13:=hM.1 hS0;obtain ⟨v13_58,e58,h58⟩:=hI.get (i:=10) (.tail _ (.tail _ (.tail _ (.tail _ (.tail _ (.tail _ (.tail _ (.tail _ (.tail _ (.tail _ (.head _))))))))))) d10;obtain rfl:=h58;exact az [(58,_)] hU hmo hme hI hM (.tail _ (.tail _ (.tail _ (.tail _ (.tail _ (.tail _ (.tail _ (.tail _ (.tail _ (.tail _ (.tail _ (.head _)))))))))))) rfl rfl (by kernel_rfl) ⟨e58,trivial⟩ (aa aw rfl) ag.rfl_ (rfl)
   constructor
   ·rintro S L' w14 hU hmo hme hI hM hC hS ⟨d11,-⟩;have hS0:S 42=false:=(ae hC (j:=42) rfl (by kernel_rfl) (ae hC (j:=41) rfl (by kernel_rfl) (ae hC (j:=15) rfl (by kernel_rfl) (ae hC (j:=14) rfl (by kernel_rfl) (ae hC (j:=13) rfl (by kernel_rfl) hS)))));have hM14:=hM.1 hS0;obtain ⟨v14_59,e59,h59⟩:=hI.get (i:=11) (.tail _ (.tail _ (.tail _ (.tail _ (.tail _ (.tail _ (.tail _ (.tail _ (.tail _ (.tail _ (.tail _ (.head _)))))))))))) d11;obtain rfl:=h59;exact az [(59,_)] hU hmo hme hI hM (.tail _ (.tail _ (.tail _ (.tail _ (.tail _ (.tail _ (.tail _ (.tail _ (.tail _ (.tail _ (.tail _ (.tail _ (.head _))))))))))))) rfl rfl (by kernel_rfl) ⟨e59,trivial⟩ (aa aq rfl) ag.rfl_ (rfl)
   constructor
   ·rintro S L' w15 hU hmo hme hI hM hC hS ⟨d12,-⟩;have hS0:S 42=false:=(ae hC (j:=42) rfl (by kernel_rfl) (ae hC (j:=41) rfl (by kernel_rfl) (ae hC (j:=15) rfl (by kernel_rfl) (ae hC (j:=14) rfl (by kernel_rfl) hS))));have hM15:=hM.1 hS0;obtain ⟨v15_60,e60,h60⟩:=hI.get (i:=12) (.tail _ (.tail _ (.tail _ (.tail _ (.tail _ (.tail _ (.tail _ (.tail _ (.tail _ (.tail _ (.tail _ (.tail _ (.head _))))))))))))) d12;obtain rfl:=h60;exact az [(60,_)] hU hmo hme hI hM (.tail _ (.tail _ (.tail _ (.tail _ (.tail _ (.tail _ (.tail _ (.tail _ (.tail _ (.tail _ (.tail _ (.tail _ (.tail _ (.head _)))))))))))))) rfl rfl (by kernel_rfl) ⟨e60,trivial⟩ (aa aY rfl) ag.rfl_ (rfl)
   constructor
   ·rintro S L' w16 hU hmo hme hI hM hC hS ⟨d13,-⟩;have hS0:S 42=false:=(ae hC (j:=42) rfl (by kernel_rfl) (ae hC (j:=41) rfl (by kernel_rfl) (ae hC (j:=15) rfl (by kernel_rfl) hS)));have hM16:=hM.1 hS0;obtain ⟨v16_61,e61,h61⟩:=hI.get (i:=13) (.tail _ (.tail _ (.tail _ (.tail _ (.tail _ (.tail _ (.tail _ (.tail _ (.tail _ (.tail _ (.tail _ (.tail _ (.tail _ (.head _)))))))))))))) d13;obtain rfl:=h61;exact az [(61,_)] hU hmo hme hI hM (.tail _ (.tail _ (.tail _ (.tail _ (.tail _ (.tail _ (.tail _ (.tail _ (.tail _ (.tail _ (.tail _ (.tail _ (.tail _ (.tail _ (.head _))))))))))))))) rfl rfl (by kernel_rfl) ⟨e61,trivial⟩ (aa kT rfl) ag.rfl_ (rfl)
   constructor
   ·rintro S L' w17 hU hmo hme hI hM hC hS ⟨d14,-⟩;have hS0:S 42=false:=(ae hC (j:=42) rfl (by kernel_rfl) (ae hC (j:=41) rfl (by kernel_rfl) hS));have hM17:=hM.1 hS0;obtain ⟨v17_62,e62,h62⟩:=hI.get (i:=14) (.tail _ (.tail _ (.tail _ (.tail _ (.tail _ (.tail _ (.tail _ (.tail _ (.tail _ (.tail _ (.tail _ (.tail _ (.tail _ (.tail _ (.head _))))))))))))))) d14;obtain rfl:=h62;exact az [(62,_)] hU hmo hme hI hM (.tail _ (.tail _ (.tail _ (.tail _ (.tail _ (.tail _ (.tail _ (.tail _ (.tail _ (.tail _ (.tail _ (.tail _ (.tail _ (.tail _ (.tail _ (.head _)))))))))))))))) rfl rfl (by kernel_rfl) ⟨e62,trivial⟩ (ar au rfl (by exact bB (hb.from_ (ag.rfl_.next hM17)) 7 rfl)) ag.rfl_ (rfl)
   constructor
   ·rintro S L' w18 hU hmo hme hI hM hC hS ⟨-⟩;have hS0:S 42=false:=(ae hC (j:=42) rfl (by kernel_rfl) (ae hC (j:=41) rfl (by kernel_rfl) hS));have hM18:=hM.1 hS0;have e5:=hI.1 5 (fb rfl);exact az [(5,_)] hU hmo hme hI hM (.tail _ (.tail _ (.tail _ (.tail _ (.tail _ (.tail _ (.tail _ (.tail _ (.tail _ (.tail _ (.tail _ (.tail _ (.tail _ (.tail _ (.tail _ (.tail _ (.head _))))))))))))))))) rfl rfl (by kernel_rfl) ⟨e5,trivial⟩ (aB (v:=.int _ _) rfl) ag.rfl_ (rfl)
   constructor
   ·rintro S L' w19 hU hmo hme hI hM hC hS ⟨-⟩;have hS0:S 42=false:=(ae hC (j:=42) rfl (by kernel_rfl) (ae hC (j:=41) rfl (by kernel_rfl) (ae hC (j:=25) rfl (by kernel_rfl) (ae hC (j:=22) rfl (by kernel_rfl) (ae hC (j:=21) rfl (by kernel_rfl) (ae hC (j:=20) rfl (by kernel_rfl) (ae hC (j:=19) rfl (by kernel_rfl) (ae hC (j:=18) rfl (by kernel_rfl) hS))))))));have hM19:=hM.1 hS0;have e0:=hI.1 0 (fb rfl);exact az [(0,_)] hU hmo hme hI hM (.tail _ (.tail _ (.tail _ (.tail _ (.tail _ (.tail _ (.tail _ (.tail _ (.tail _ (.tail _ (.tail _ (.tail _ (.tail _ (.tail _ (.tail _ (.tail _ (.tail _ (.head _)))))))))))))))))) rfl rfl (by kernel_rfl) ⟨e0,trivial⟩ (aB (v:=.pointer _) rfl) ag.rfl_ (rfl)
   constructor
   ·rintro S L' w20 hU hmo hme hI hM hC hS ⟨d17,-⟩;have hS0:S 42=false:=(ae hC (j:=42) rfl (by kernel_rfl) (ae hC (j:=41) rfl (by kernel_rfl) (ae hC (j:=25) rfl (by kernel_rfl) (ae hC (j:=22) rfl (by kernel_rfl) (ae hC (j:=21) rfl (by kernel_rfl) (ae hC (j:=20) rfl (by kernel_rfl) (ae hC (j:=19) rfl (by kernel_rfl) hS)))))));have hM20:=hM.1 hS0;obtain ⟨v20_65,e65,h65⟩:=hI.get (i:=17) (.tail _ (.tail _ (.tail _ (.tail _ (.tail _ (.tail _ (.tail _ (.tail _ (.tail _ (.tail _ (.tail _ (.tail _ (.tail _ (.tail _ (.tail _ (.tail _ (.tail _ (.head _)))))))))))))))))) d17;obtain rfl:=h65;exact az [(65,_)] hU hmo hme hI hM (.tail _ (.tail _ (.tail _ (.tail _ (.tail _ (.tail _ (.tail _ (.tail _ (.tail _ (.tail _ (.tail _ (.tail _ (.tail _ (.tail _ (.tail _ (.tail _ (.tail _ (.tail _ (.head _))))))))))))))))))) rfl rfl (by kernel_rfl) ⟨e65,trivial⟩ (ao rfl) ag.rfl_ (rfl)
   constructor
   ·rintro S L' w21 hU hmo hme hI hM hC hS ⟨d18,-⟩;have hS0:S 42=false:=(ae hC (j:=42) rfl (by kernel_rfl) (ae hC (j:=41) rfl (by kernel_rfl) (ae hC (j:=25) rfl (by kernel_rfl) (ae hC (j:=22) rfl (by kernel_rfl) (ae hC (j:=21) rfl (by kernel_rfl) (ae hC (j:=20) rfl (by kernel_rfl) hS))))));have hM21:=hM.1 hS0;obtain ⟨v21_66,e66,h66⟩:=hI.get (i:=18) (.tail _ (.tail _ (.tail _ (.tail _ (.tail _ (.tail _ (.tail _ (.tail _ (.tail _ (.tail _ (.tail _ (.tail _ (.tail _ (.tail _ (.tail _ (.tail _ (.tail _ (.tail _ (.head _))))))))))))))))))) d18;obtain rfl:=h66;exact az [(66,_)] hU hmo hme hI hM (.tail _ (.tail _ (.tail _ (.tail _ (.tail _ (.tail _ (.tail _ (.tail _ (.tail _ (.tail _ (.tail _ (.tail _ (.tail _ (.tail _ (.tail _ (.tail _ (.tail _ (.tail _ (.tail _ (.head _)))))))))))))))))))) rfl rfl (by kernel_rfl) ⟨e66,trivial⟩ (aa aw rfl) ag.rfl_ (rfl)
   constructor
   ·rintro S L' w22 hU hmo hme hI hM hC hS ⟨d19,-⟩;have hS0:S 42=false:=(ae hC (j:=42) rfl (by kernel_rfl) (ae hC (j:=41) rfl (by kernel_rfl) (ae hC (j:=25) rfl (by kernel_rfl) (ae hC (j:=22) rfl (by kernel_rfl) (ae hC (j:=21) rfl (by kernel_rfl) hS)))));have hM22:=hM.1 hS0;obtain ⟨v22_67,e67,h67⟩:=hI.get (i:=19) (.tail _ (.tail _ (.tail _ (.tail _ (.tail _ (.tail _ (.tail _ (.tail _ (.tail _ (.tail _ (.tail _ (.tail _ (.tail _ (.tail _ (.tail _ (.tail _ (.tail _ (.tail _ (.tail _ (.head _)))))))))))))))))))) d19;obtain rfl:=h67;exact az [(67,_)] hU hmo hme hI hM (.tail _ (.tail _ (.tail _ (.tail _ (.tail _ (.tail _ (.tail _ (.tail _ (.tail _ (.tail _ (.tail _ (.tail _ (.tail _ (.tail _ (.tail _ (.tail _ (.tail _ (.tail _ (.tail _ (.tail _ (.head _))))))))))))))))))))) rfl rfl (by kernel_rfl) ⟨e67,trivial⟩ (aa aq rfl) ag.rfl_ (rfl)
   constructor
   ·rintro S L' w23 hU hmo hme hI hM hC hS ⟨d20,-⟩;have hS0:S 42=false:=(ae hC (j:=42) rfl (by kernel_rfl) (ae hC (j:=41) rfl (by kernel_rfl) (ae hC (j:=25) rfl (by kernel_rfl) (ae hC (j:=22) rfl (by kernel_rfl) hS))));have hM23:=hM.1 hS0;obtain ⟨v23_68,e68,h68⟩:=hI.get (i:=20) (.tail _ (.tail _ (.tail _ (.tail _ (.tail _ (.tail _ (.tail _ (.tail _ (.tail _ (.tail _ (.tail _ (.tail _ (.tail _ (.tail _ (.tail _ (.tail _ (.tail _ (.tail _ (.tail _ (.tail _ (.head _))))))))))))))))))))) d20;obtain rfl:=h68;exact az [(68,_)] hU hmo hme hI hM (.tail _ (.tail _ (.tail _ (.tail _ (.tail _ (.tail _ (.tail _ (.tail _ (.tail _ (.tail _ (.tail _ (.tail _ (.tail _ (.tail _ (.tail _ (.tail _ (.tail _ (.tail _ (.tail _ (.tail _ (.tail _ (.head _)))))))))))))))))))))) rfl rfl (by kernel_rfl) ⟨e68,trivial⟩ (aa cB rfl) ag.rfl_ (rfl)
   constructor
   ·rintro S L' w24 hU hmo hme hI hM hC hS ⟨d21,-⟩;have hS0:S 42=false:=(ae hC (j:=42) rfl (by kernel_rfl) (ae hC (j:=41) rfl (by kernel_rfl) (ae hC (j:=25) rfl (by kernel_rfl) hS)));have hM24:=hM.1 hS0;obtain ⟨v24_69,e69,h69⟩:=hI.get (i:=21) (.tail _ (.tail _ (.tail _ (.tail _ (.tail _ (.tail _ (.tail _ (.tail _ (.tail _ (.tail _ (.tail _ (.tail _ (.tail _ (.tail _ (.tail _ (.tail _ (.tail _ (.tail _ (.tail _ (.tail _ (.tail _ (.head _)))))))))))))))))))))) d21;obtain rfl:=h69;exact az [(69,_)] hU hmo hme hI hM (.tail _ (.tail _ (.tail _ (.tail _ (.tail _ (.tail _ (.tail _ (.tail _ (.tail _ (.tail _ (.tail _ (.tail _ (.tail _ (.tail _ (.tail _ (.tail _ (.tail _ (.tail _ (.tail _ (.tail _ (.tail _ (.tail _ (.head _))))))))))))))))))))))) rfl rfl (by kernel_rfl) ⟨e69,trivial⟩ (ar cu rfl (by exact bB (hb.from_ (ag.rfl_.next hM24)) 9 rfl)) ag.rfl_ (rfl)
   constructor
   ·rintro S L' w25 hU hmo hme hI hM hC hS ⟨-⟩;have hS0:S 42=false:=(ae hC (j:=42) rfl (by kernel_rfl) (ae hC (j:=41) rfl (by kernel_rfl) (ae hC (j:=25) rfl (by kernel_rfl) hS)));have hM25:=hM.1 hS0;have e5:=hI.1 5 (fb rfl);exact az [(5,_)] hU hmo hme hI hM (.tail _ (.tail _ (.tail _ (.tail _ (.tail _ (.tail _ (.tail _ (.tail _ (.tail _ (.tail _ (.tail _ (.tail _ (.tail _ (.tail _ (.tail _ (.tail _ (.tail _ (.tail _ (.tail _ (.tail _ (.tail _ (.tail _ (.tail _ (.head _)))))))))))))))))))))))) rfl rfl (by kernel_rfl) ⟨e5,trivial⟩ (aB (v:=.int _ _) rfl) ag.rfl_ (rfl)
   constructor
   ·rintro S L' w26 hU hmo hme hI hM hC hS ⟨-⟩;have hS0:S 42=false:=(ae hC (j:=42) rfl (by kernel_rfl) (ae hC (j:=41) rfl (by kernel_rfl) (ae hC (j:=25) rfl (by kernel_rfl) hS)));have hM26:=hM.1 hS0;have e6:=hI.1 6 (fb rfl);exact az [(6,_)] hU hmo hme hI hM (.tail _ (.tail _ (.tail _ (.tail _ (.tail _ (.tail _ (.tail _ (.tail _ (.tail _ (.tail _ (.tail _ (.tail _ (.tail _ (.tail _ (.tail _ (.tail _ (.tail _ (.tail _ (.tail _ (.tail _ (.tail _ (.tail _ (.tail _ (.tail _ (.head _))))))))))))))))))))))))) rfl rfl (by kernel_rfl) ⟨e6,trivial⟩ (aB (v:=.int _ _) rfl) ag.rfl_ (rfl)
   constructor
   ·rintro S L' w27 hU hmo hme hI hM hC hS ⟨d22,d23,d24,-⟩;have hS0:S 42=false:=(ae hC (j:=42) rfl (by kernel_rfl) (ae hC (j:=41) rfl (by kernel_rfl) hS));have hM27:=hM.1 hS0;obtain ⟨v27_70,e70,h70⟩:=hI.get (i:=22) (.tail _ (.tail _ (.tail _ (.tail _ (.tail _ (.tail _ (.tail _ (.tail _ (.tail _ (.tail _ (.tail _ (.tail _ (.tail _ (.tail _ (.tail _ (.tail _ (.tail _ (.tail _ (.tail _ (.tail _ (.tail _ (.tail _ (.head _))))))))))))))))))))))) d22;obtain rfl:=h70;obtain ⟨v27_71,e71,h71⟩:=hI.get (i:=23) (.tail _ (.tail _ (.tail _ (.tail _ (.tail _ (.tail _ (.tail _ (.tail _ (.tail _ (.tail _ (.tail _ (.tail _ (.tail _ (.tail _ (.tail _ (.tail _ (.tail _ (.tail _ (.tail _ (.tail _ (.tail _ (.tail _ (.tail _ (.head _)))))))))))))))))))))))) d23;obtain rfl:=h71;obtain ⟨v27_72,e72,h72⟩:=hI.get (i:=24) (.tail _ (.tail _ (.tail _ (.tail _ (.tail _ (.tail _ (.tail _ (.tail _ (.tail _ (.tail _ (.tail _ (.tail _ (.tail _ (.tail _ (.tail _ (.tail _ (.tail _ (.tail _ (.tail _ (.tail _ (.tail _ (.tail _ (.tail _ (.tail _ (.head _))))))))))))))))))))))))) d24;obtain rfl:=h72;exact az [(70,_),(71,_),(72,_)] hU hmo hme hI hM (.tail _ (.tail _ (.tail _ (.tail _ (.tail _ (.tail _ (.tail _ (.tail _ (.tail _ (.tail _ (.tail _ (.tail _ (.tail _ (.tail _ (.tail _ (.tail _ (.tail _ (.tail _ (.tail _ (.tail _ (.tail _ (.tail _ (.tail _ (.tail _ (.tail _ (.head _)))))))))))))))))))))))))) rfl rfl (by kernel_rfl) ⟨e70,e71,e72,trivial⟩ ((ml (l:=na) (h:=min (na+1024) p.s.snap.size) ow rfl rfl rfl (by omega) (by omega) rfl)) (ag.rfl_) (rfl)
   constructor
   ·rintro S L' w28 hU hmo hme hI hM hC hS ⟨-⟩;have hS0:S 42=false:=(ae hC (j:=42) rfl (by kernel_rfl) (ae hC (j:=41) rfl (by kernel_rfl) (ae hC (j:=34) rfl (by kernel_rfl) hS)));have hM28:=hM.1 hS0;have e6:=hI.1 6 (fb rfl);exact az [(6,_)] hU hmo hme hI hM (.tail _ (.tail _ (.tail _ (.tail _ (.tail _ (.tail _ (.tail _ (.tail _ (.tail _ (.tail _ (.tail _ (.tail _ (.tail _ (.tail _ (.tail _ (.tail _ (.tail _ (.tail _ (.tail _ (.tail _ (.tail _ (.tail _ (.tail _ (.tail _ (.tail _ (.tail _ (.head _))))))))))))))))))))))))))) rfl rfl (by kernel_rfl) ⟨e6,trivial⟩ (aB (v:=.int _ _) rfl) ag.rfl_ (rfl)
   constructor
   ·rintro S L' w29 hU hmo hme hI hM hC hS ⟨-⟩;have hS0:S 42=false:=(ae hC (j:=42) rfl (by kernel_rfl) (ae hC (j:=41) rfl (by kernel_rfl) (ae hC (j:=34) rfl (by kernel_rfl) (ae hC (j:=33) rfl (by kernel_rfl) (ae hC (j:=32) rfl (by kernel_rfl) (ae hC (j:=31) rfl (by kernel_rfl) (ae hC (j:=30) rfl (by kernel_rfl) (ae hC (j:=29) rfl (by kernel_rfl) (ae hC (j:=28) rfl (by kernel_rfl) hS)))))))));have hM29:=hM.1 hS0;have e0:=hI.1 0 (fb rfl);exact az [(0,_)] hU hmo hme hI hM (.tail _ (.tail _ (.tail _ (.tail _ (.tail _ (.tail _ (.tail _ (.tail _ (.tail _ (.tail _ (.tail _ (.tail _ (.tail _ (.tail _ (.tail _ (.tail _ (.tail _ (.tail _ (.tail _ (.tail _ (.tail _ (.tail _ (.tail _ (.tail _ (.tail _ (.tail _ (.tail _ (.head _)))))))))))))))))))))))))))) rfl rfl (by kernel_rfl) ⟨e0,trivial⟩ (aB (v:=.pointer _) rfl) ag.rfl_ (rfl)
   constructor
   ·rintro S L' w30 hU hmo hme hI hM hC hS ⟨d27,-⟩;have hS0:S 42=false:=(ae hC (j:=42) rfl (by kernel_rfl) (ae hC (j:=41) rfl (by kernel_rfl) (ae hC (j:=34) rfl (by kernel_rfl) (ae hC (j:=33) rfl (by kernel_rfl) (ae hC (j:=32) rfl (by kernel_rfl) (ae hC (j:=31) rfl (by kernel_rfl) (ae hC (j:=30) rfl (by kernel_rfl) (ae hC (j:=29) rfl (by kernel_rfl) hS))))))));have hM30:=hM.1 hS0;obtain ⟨v30_75,e75,h75⟩:=hI.get (i:=27) (.tail _ (.tail _ (.tail _ (.tail _ (.tail _ (.tail _ (.tail _ (.tail _ (.tail _ (.tail _ (.tail _ (.tail _ (.tail _ (.tail _ (.tail _ (.tail _ (.tail _ (.tail _ (.tail _ (.tail _ (.tail _ (.tail _ (.tail _ (.tail _ (.tail _ (.tail _ (.tail _ (.head _)))))))))))))))))))))))))))) d27;obtain rfl:=h75;exact az [(75,_)] hU hmo hme hI hM (.tail _ (.tail _ (.tail _ (.tail _ (.tail _ (.tail _ (.tail _ (.tail _ (.tail _ (.tail _ (.tail _ (.tail _ (.tail _ (.tail _ (.tail _ (.tail _ (.tail _ (.tail _ (.tail _ (.tail _ (.tail _ (.tail _ (.tail _ (.tail _ (.tail _ (.tail _ (.tail _ (.tail _ (.head _))))))))))))))))))))))))))))) rfl rfl (by kernel_rfl) ⟨e75,trivial⟩ (ao rfl) ag.rfl_ (rfl)
   constructor
   ·rintro S L' w31 hU hmo hme hI hM hC hS ⟨d28,-⟩;have hS0:S 42=false:=(ae hC (j:=42) rfl (by kernel_rfl) (ae hC (j:=41) rfl (by kernel_rfl) (ae hC (j:=34) rfl (by kernel_rfl) (ae hC (j:=33) rfl (by kernel_rfl) (ae hC (j:=32) rfl (by kernel_rfl) (ae hC (j:=31) rfl (by kernel_rfl) (ae hC (j:=30) rfl (by kernel_rfl) hS)))))));have hM31:=hM.1 hS0;obtain ⟨v31_76,e76,h76⟩:=hI.get (i:=28) (.tail _ (.tail _ (.tail _ (.tail _ (.tail _ (.tail _ (.tail _ (.tail _ (.tail _ (.tail _ (.tail _ (.tail _ (.tail _ (.tail _ (.tail _ (.tail _ (.tail _ (.tail _ (.tail _ (.tail _ (.tail _ (.tail _ (.tail _ (.tail _ (.tail _ (.tail _ (.tail _ (.tail _ (.head _))))))))))))))))))))))))))))) d28;obtain rfl:=h76;exact az [(76,_)] hU hmo hme hI hM (.tail _ (.tail _ (.tail _ (.tail _ (.tail _ (.tail _ (.tail _ (.tail _ (.tail _ (.tail _ (.tail _ (.tail _ (.tail _ (.tail _ (.tail _ (.tail _ (.tail _ (.tail _ (.tail _ (.tail _ (.tail _ (.tail _ (.tail _ (.tail _ (.tail _ (.tail _ (.tail _ (.tail _ (.tail _ (.head _)))))))))))))))))))))))))))))) rfl rfl (by kernel_rfl) ⟨e76,trivial⟩ (aa aw rfl) ag.rfl_ (rfl)
   constructor
   ·rintro S L' w32 hU hmo hme hI hM hC hS ⟨d29,-⟩;have hS0:S 42=false:=(ae hC (j:=42) rfl (by kernel_rfl) (ae hC (j:=41) rfl (by kernel_rfl) (ae hC (j:=34) rfl (by kernel_rfl) (ae hC (j:=33) rfl (by kernel_rfl) (ae hC (j:=32) rfl (by kernel_rfl) (ae hC (j:=31) rfl (by kernel_rfl) hS))))));have hM32:=hM.1 hS0;obtain ⟨v32_77,e77,h77⟩:=hI.get (i:=29) (.tail _ (.tail _ (.tail _ (.tail _ (.tail _ (.tail _ (.tail _ (.tail _ (.tail _ (.tail _ (.tail _ (.tail _ (.tail _ (.tail _ (.tail _ (.tail _ (.tail _ (.tail _ (.tail _ (.tail _ (.tail _ (.tail _ (.tail _ (.tail _ (.tail _ (.tail _ (.tail _ (.tail _ (.tail _ (.head _)))))))))))))))))))))))))))))) d29;obtain rfl:=h77;exact az [(77,_)] hU hmo hme hI hM (.tail _ (.tail _ (.tail _ (.tail _ (.tail _ (.tail _ (.tail _ (.tail _ (.tail _ (.tail _ (.tail _ (.tail _ (.tail _ (.tail _ (.tail _ (.tail _ (.tail _ (.tail _ (.tail _ (.tail _ (.tail _ (.tail _ (.tail _ (.tail _ (.tail _ (.tail _ (.tail _ (.tail _ (.tail _ (.tail _ (.head _))))))))))))))))))))))))))))))) rfl rfl (by kernel_rfl) ⟨e77,trivial⟩ (aa aq rfl) ag.rfl_ (rfl)
   constructor
   ·rintro S L' w33 hU hmo hme hI hM hC hS ⟨d30,-⟩;have hS0:S 42=false:=(ae hC (j:=42) rfl (by kernel_rfl) (ae hC (j:=41) rfl (by kernel_rfl) (ae hC (j:=34) rfl (by kernel_rfl) (ae hC (j:=33) rfl (by kernel_rfl) (ae hC (j:=32) rfl (by kernel_rfl) hS)))));have hM33:=hM.1 hS0;obtain ⟨v33_78,e78,h78⟩:=hI.get (i:=30) (.tail _ (.tail _ (.tail _ (.tail _ (.tail _ (.tail _ (.tail _ (.tail _ (.tail _ (.tail _ (.tail _ (.tail _ (.tail _ (.tail _ (.tail _ (.tail _ (.tail _ (.tail _ (.tail _ (.tail _ (.tail _ (.tail _ (.tail _ (.tail _ (.tail _ (.tail _ (.tail _ (.tail _ (.tail _ (.tail _ (.head _))))))))))))))))))))))))))))))) d30;obtain rfl:=h78;exact az [(78,_)] hU hmo hme hI hM (.tail _ (.tail _ (.tail _ (.tail _ (.tail _ (.tail _ (.tail _ (.tail _ (.tail _ (.tail _ (.tail _ (.tail _ (.tail _ (.tail _ (.tail _ (.tail _ (.tail _ (.tail _ (.tail _ (.tail _ (.tail _ (.tail _ (.tail _ (.tail _ (.tail _ (.tail _ (.tail _ (.tail _ (.tail _ (.tail _ (.tail _ (.head _)))))))))))))))))))))))))))))))) rfl rfl (by kernel_rfl) ⟨e78,trivial⟩ (aa cB rfl) ag.rfl_ (rfl)
   constructor
   ·rintro S L' w34 hU hmo hme hI hM hC hS ⟨d31,-⟩;have hS0:S 42=false:=(ae hC (j:=42) rfl (by kernel_rfl) (ae hC (j:=41) rfl (by kernel_rfl) (ae hC (j:=34) rfl (by kernel_rfl) (ae hC (j:=33) rfl (by kernel_rfl) hS))));have hM34:=hM.1 hS0;obtain ⟨v34_79,e79,h79⟩:=hI.get (i:=31) (.tail _ (.tail _ (.tail _ (.tail _ (.tail _ (.tail _ (.tail _ (.tail _ (.tail _ (.tail _ (.tail _ (.tail _ (.tail _ (.tail _ (.tail _ (.tail _ (.tail _ (.tail _ (.tail _ (.tail _ (.tail _ (.tail _ (.tail _ (.tail _ (.tail _ (.tail _ (.tail _ (.tail _ (.tail _ (.tail _ (.tail _ (.head _)))))))))))))))))))))))))))))))) d31;obtain rfl:=h79;exact az [(79,_)] hU hmo hme hI hM (.tail _ (.tail _ (.tail _ (.tail _ (.tail _ (.tail _ (.tail _ (.tail _ (.tail _ (.tail _ (.tail _ (.tail _ (.tail _ (.tail _ (.tail _ (.tail _ (.tail _ (.tail _ (.tail _ (.tail _ (.tail _ (.tail _ (.tail _ (.tail _ (.tail _ (.tail _ (.tail _ (.tail _ (.tail _ (.tail _ (.tail _ (.tail _ (.head _))))))))))))))))))))))))))))))))) rfl rfl (by kernel_rfl) ⟨e79,trivial⟩ (ar cu rfl (by exact bB (hb.from_ (ag.rfl_.next hM34)) 9 rfl)) ag.rfl_ (rfl)
   constructor
   ·rintro S L' w35 hU hmo hme hI hM hC hS ⟨d32,-⟩;have hS0:S 42=false:=(ae hC (j:=42) rfl (by kernel_rfl) (ae hC (j:=41) rfl (by kernel_rfl) (ae hC (j:=34) rfl (by kernel_rfl) hS)));have hM35:=hM.1 hS0;obtain ⟨v35_80,e80,h80⟩:=hI.get (i:=32) (.tail _ (.tail _ (.tail _ (.tail _ (.tail _ (.tail _ (.tail _ (.tail _ (.tail _ (.tail _ (.tail _ (.tail _ (.tail _ (.tail _ (.tail _ (.tail _ (.tail _ (.tail _ (.tail _ (.tail _ (.tail _ (.tail _ (.tail _ (.tail _ (.tail _ (.tail _ (.tail _ (.tail _ (.tail _ (.tail _ (.tail _ (.tail _ (.head _))))))))))))))))))))))))))))))))) d32;obtain rfl:=h80;exact az [(80,_)] hU hmo hme hI hM (.tail _ (.tail _ (.tail _ (.tail _ (.tail _ (.tail _ (.tail _ (.tail _ (.tail _ (.tail _ (.tail _ (.tail _ (.tail _ (.tail _ (.tail _ (.tail _ (.tail _ (.tail _ (.tail _ (.tail _ (.tail _ (.tail _ (.tail _ (.tail _ (.tail _ (.tail _ (.tail _ (.tail _ (.tail _ (.tail _ (.tail _ (.tail _ (.tail _ (.head _)))))))))))))))))))))))))))))))))) rfl rfl (by kernel_rfl) ⟨e80,trivial⟩ (gD (by kernel_rfl) rfl) ag.rfl_ (rfl)
   constructor
   ·rintro S L' w36 hU hmo hme hI hM hC hS ⟨d26,d33,-⟩;have hS0:S 42=false:=(ae hC (j:=42) rfl (by kernel_rfl) (ae hC (j:=41) rfl (by kernel_rfl) hS));have hM36:=hM.1 hS0;obtain ⟨v36_74,e74,h74⟩:=hI.get (i:=26) (.tail _ (.tail _ (.tail _ (.tail _ (.tail _ (.tail _ (.tail _ (.tail _ (.tail _ (.tail _ (.tail _ (.tail _ (.tail _ (.tail _ (.tail _ (.tail _ (.tail _ (.tail _ (.tail _ (.tail _ (.tail _ (.tail _ (.tail _ (.tail _ (.tail _ (.tail _ (.head _))))))))))))))))))))))))))) d26;obtain rfl:=h74;obtain ⟨v36_81,e81,h81⟩:=hI.get (i:=33) (.tail _ (.tail _ (.tail _ (.tail _ (.tail _ (.tail _ (.tail _ (.tail _ (.tail _ (.tail _ (.tail _ (.tail _ (.tail _ (.tail _ (.tail _ (.tail _ (.tail _ (.tail _ (.tail _ (.tail _ (.tail _ (.tail _ (.tail _ (.tail _ (.tail _ (.tail _ (.tail _ (.tail _ (.tail _ (.tail _ (.tail _ (.tail _ (.tail _ (.head _)))))))))))))))))))))))))))))))))) d33;obtain rfl:=h81;exact az [(74,_),(81,_)] hU hmo hme hI hM (.tail _ (.tail _ (.tail _ (.tail _ (.tail _ (.tail _ (.tail _ (.tail _ (.tail _ (.tail _ (.tail _ (.tail _ (.tail _ (.tail _ (.tail _ (.tail _ (.tail _ (.tail _ (.tail _ (.tail _ (.tail _ (.tail _ (.tail _ (.tail _ (.tail _ (.tail _ (.tail _ (.tail _ (.tail _ (.tail _ (.tail _ (.tail _ (.tail _ (.tail _ (.head _))))))))))))))))))))))))))))))))))) rfl rfl (by kernel_rfl) ⟨e74,e81,trivial⟩ ((jb (bW rfl rfl) (congrArg Value.bool (show (((min (na+1024) p.s.snap.size:Nat):Int)==((p.s.snap.size:Nat):Int))=decide (min (na+1024) p.s.snap.size=p.s.snap.size) by rw [Bool.eq_iff_iff,beq_iff_eq,decide_eq_true_eq];omega)))) (ag.rfl_) (rfl)
   constructor
   ·rintro S L' w37 hU hmo hme hI hM hC hS ⟨-⟩;have hS0:S 42=false:=(ae hC (j:=42) rfl (by kernel_rfl) (ae hC (j:=41) rfl (by kernel_rfl) (ae hC (j:=40) rfl (by kernel_rfl) (ae hC (j:=39) rfl (by kernel_rfl) (ae hC (j:=38) rfl (by kernel_rfl) (ae hC (j:=37) rfl (by kernel_rfl) (ae hC (j:=36) rfl (by kernel_rfl) hS)))))));have hM37:=hM.1 hS0;have e0:=hI.1 0 (fb rfl);exact az [(0,_)] hU hmo hme hI hM (.tail _ (.tail _ (.tail _ (.tail _ (.tail _ (.tail _ (.tail _ (.tail _ (.tail _ (.tail _ (.tail _ (.tail _ (.tail _ (.tail _ (.tail _ (.tail _ (.tail _ (.tail _ (.tail _ (.tail _ (.tail _ (.tail _ (.tail _ (.tail _ (.tail _ (.tail _ (.tail _ (.tail _ (.tail _ (.tail _ (.tail _ (.tail _ (.tail _ (.tail _ (.tail _ (.head _)))))))))))))))))))))))))))))))))))) rfl rfl (by kernel_rfl) ⟨e0,trivial⟩ (aB (v:=.pointer _) rfl) ag.rfl_ (rfl)
   constructor
   ·rintro S L' w38 hU hmo hme hI hM hC hS ⟨d35,-⟩;have hS0:S 42=false:=(ae hC (j:=42) rfl (by kernel_rfl) (ae hC (j:=41) rfl (by kernel_rfl) (ae hC (j:=40) rfl (by kernel_rfl) (ae hC (j:=39) rfl (by kernel_rfl) (ae hC (j:=38) rfl (by kernel_rfl) (ae hC (j:=37) rfl (by kernel_rfl) hS))))));have hM38:=hM.1 hS0;obtain ⟨v38_83,e83,h83⟩:=hI.get (i:=35) (.tail _ (.tail _ (.tail _ (.tail _ (.tail _ (.tail _ (.tail _ (.tail _ (.tail _ (.tail _ (.tail _ (.tail _ (.tail _ (.tail _ (.tail _ (.tail _ (.tail _ (.tail _ (.tail _ (.tail _ (.tail _ (.tail _ (.tail _ (.tail _ (.tail _ (.tail _ (.tail _ (.tail _ (.tail _ (.tail _ (.tail _ (.tail _ (.tail _ (.tail _ (.tail _ (.head _)))))))))))))))))))))))))))))))))))) d35;obtain rfl:=h83;exact az [(83,_)] hU hmo hme hI hM (.tail _ (.tail _ (.tail _ (.tail _ (.tail _ (.tail _ (.tail _ (.tail _ (.tail _ (.tail _ (.tail _ (.tail _ (.tail _ (.tail _ (.tail _ (.tail _ (.tail _ (.tail _ (.tail _ (.tail _ (.tail _ (.tail _ (.tail _ (.tail _ (.tail _ (.tail _ (.tail _ (.tail _ (.tail _ (.tail _ (.tail _ (.tail _ (.tail _ (.tail _ (.tail _ (.tail _ (.head _))))))))))))))))))))))))))))))))))))) rfl rfl (by kernel_rfl) ⟨e83,trivial⟩ (ao rfl) ag.rfl_ (rfl)
   constructor
   ·rintro S L' w39 hU hmo hme hI hM hC hS ⟨d36,-⟩;have hS0:S 42=false:=(ae hC (j:=42) rfl (by kernel_rfl) (ae hC (j:=41) rfl (by kernel_rfl) (ae hC (j:=40) rfl (by kernel_rfl) (ae hC (j:=39) rfl (by kernel_rfl) (ae hC (j:=38) rfl (by kernel_rfl) hS)))));have hM39:=hM.1 hS0;obtain ⟨v39_84,e84,h84⟩:=hI.get (i:=36) (.tail _ (.tail _ (.tail _ (.tail _ (.tail _ (.tail _ (.tail _ (.tail _ (.tail _ (.tail _ (.tail _ (.tail _ (.tail _ (.tail _ (.tail _ (.tail _ (.tail _ (.tail _ (.tail _ (.tail _ (.tail _ (.tail _ (.tail _ (.tail _ (.tail _ (.tail _ (.tail _ (.tail _ (.tail _ (.tail _ (.tail _ (.tail _ (.tail _ (.tail _ (.tail _ (.tail _ (.head _))))))))))))))))))))))))))))))))))))) d36;obtain rfl:=h84;exact az [(84,_)] hU hmo hme hI hM (.tail _ (.tail _ (.tail _ (.tail _ (.tail _ (.tail _ (.tail _ (.tail _ (.tail _ (.tail _ (.tail _ (.tail _ (.tail _ (.tail _ (.tail _ (.tail _ (.tail _ (.tail _ (.tail _ (.tail _ (.tail _ (.tail _ (.tail _ (.tail _ (.tail _ (.tail _ (.tail _ (.tail _ (.tail _ (.tail _ (.tail _ (.tail _ (.tail _ (.tail _ (.tail _ (.tail _ (.tail _ (.head _)))))))))))))))))))))))))))))))))))))) rfl rfl (by kernel_rfl) ⟨e84,trivial⟩ (aa aw rfl) ag.rfl_ (rfl)
   constructor
   ·rintro S L' w40 hU hmo hme hI hM hC hS ⟨d37,-⟩;have hS0:S 42=false:=(ae hC (j:=42) rfl (by kernel_rfl) (ae hC (j:=41) rfl (by kernel_rfl) (ae hC (j:=40) rfl (by kernel_rfl) (ae hC (j:=39) rfl (by kernel_rfl) hS))));have hM40:=hM.1 hS0;obtain ⟨v40_85,e85,h85⟩:=hI.get (i:=37) (.tail _ (.tail _ (.tail _ (.tail _ (.tail _ (.tail _ (.tail _ (.tail _ (.tail _ (.tail _ (.tail _ (.tail _ (.tail _ (.tail _ (.tail _ (.tail _ (.tail _ (.tail _ (.tail _ (.tail _ (.tail _ (.tail _ (.tail _ (.tail _ (.tail _ (.tail _ (.tail _ (.tail _ (.tail _ (.tail _ (.tail _ (.tail _ (.tail _ (.tail _ (.tail _ (.tail _ (.tail _ (.head _)))))))))))))))))))))))))))))))))))))) d37;obtain rfl:=h85;exact az [(85,_)] hU hmo hme hI hM (.tail _ (.tail _ (.tail _ (.tail _ (.tail _ (.tail _ (.tail _ (.tail _ (.tail _ (.tail _ (.tail _ (.tail _ (.tail _ (.tail _ (.tail _ (.tail _ (.tail _ (.tail _ (.tail _ (.tail _ (.tail _ (.tail _ (.tail _ (.tail _ (.tail _ (.tail _ (.tail _ (.tail _ (.tail _ (.tail _ (.tail _ (.tail _ (.tail _ (.tail _ (.tail _ (.tail _ (.tail _ (.tail _ (.head _))))))))))))))))))))))))))))))))))))))) rfl rfl (by kernel_rfl) ⟨e85,trivial⟩ (aa aq rfl) ag.rfl_ (rfl)
   constructor
   ·rintro S L' w41 hU hmo hme hI hM hC hS ⟨d38,-⟩;have hS0:S 42=false:=(ae hC (j:=42) rfl (by kernel_rfl) (ae hC (j:=41) rfl (by kernel_rfl) (ae hC (j:=40) rfl (by kernel_rfl) hS)));have hM41:=hM.1 hS0;obtain ⟨v41_86,e86,h86⟩:=hI.get (i:=38) (.tail _ (.tail _ (.tail _ (.tail _ (.tail _ (.tail _ (.tail _ (.tail _ (.tail _ (.tail _ (.tail _ (.tail _ (.tail _ (.tail _ (.tail _ (.tail _ (.tail _ (.tail _ (.tail _ (.tail _ (.tail _ (.tail _ (.tail _ (.tail _ (.tail _ (.tail _ (.tail _ (.tail _ (.tail _ (.tail _ (.tail _ (.tail _ (.tail _ (.tail _ (.tail _ (.tail _ (.tail _ (.tail _ (.head _))))))))))))))))))))))))))))))))))))))) d38;obtain rfl:=h86;exact az [(86,_)] hU hmo hme hI hM (.tail _ (.tail _ (.tail _ (.tail _ (.tail _ (.tail _ (.tail _ (.tail _ (.tail _ (.tail _ (.tail _ (.tail _ (.tail _ (.tail _ (.tail _ (.tail _ (.tail _ (.tail _ (.tail _ (.tail _ (.tail _ (.tail _ (.tail _ (.tail _ (.tail _ (.tail _ (.tail _ (.tail _ (.tail _ (.tail _ (.tail _ (.tail _ (.tail _ (.tail _ (.tail _ (.tail _ (.tail _ (.tail _ (.tail _ (.head _)))))))))))))))))))))))))))))))))))))))) rfl rfl (by kernel_rfl) ⟨e86,trivial⟩ (aa cq rfl) ag.rfl_ (rfl)
   constructor
   ·rintro S L' w42 hU hmo hme hI hM hC hS ⟨d39,-⟩;have hS0:S 42=false:=(ae hC (j:=42) rfl (by kernel_rfl) (ae hC (j:=41) rfl (by kernel_rfl) hS));have hM42:=hM.1 hS0;obtain ⟨v42_87,e87,h87⟩:=hI.get (i:=39) (.tail _ (.tail _ (.tail _ (.tail _ (.tail _ (.tail _ (.tail _ (.tail _ (.tail _ (.tail _ (.tail _ (.tail _ (.tail _ (.tail _ (.tail _ (.tail _ (.tail _ (.tail _ (.tail _ (.tail _ (.tail _ (.tail _ (.tail _ (.tail _ (.tail _ (.tail _ (.tail _ (.tail _ (.tail _ (.tail _ (.tail _ (.tail _ (.tail _ (.tail _ (.tail _ (.tail _ (.tail _ (.tail _ (.tail _ (.head _)))))))))))))))))))))))))))))))))))))))) d39;obtain rfl:=h87;exact az [(87,_)] hU hmo hme hI hM (.tail _ (.tail _ (.tail _ (.tail _ (.tail _ (.tail _ (.tail _ (.tail _ (.tail _ (.tail _ (.tail _ (.tail _ (.tail _ (.tail _ (.tail _ (.tail _ (.tail _ (.tail _ (.tail _ (.tail _ (.tail _ (.tail _ (.tail _ (.tail _ (.tail _ (.tail _ (.tail _ (.tail _ (.tail _ (.tail _ (.tail _ (.tail _ (.tail _ (.tail _ (.tail _ (.tail _ (.tail _ (.tail _ (.tail _ (.tail _ (.head _))))))))))))))))))))))))))))))))))))))))) rfl rfl (by kernel_rfl) ⟨e87,trivial⟩ (ar au rfl (by exact bB (hb.from_ (ag.rfl_.next hM42)) 18 rfl)) ag.rfl_ (rfl)
   constructor
   ·rintro S L' w43 hU hmo hme hI hM hC hS ⟨d8,d15,d16,d25,d34,d40,-⟩;have hS0:S 42=false:=(ae hC (j:=42) rfl (by kernel_rfl) hS);have hM43:=hM.1 hS0;obtain ⟨v43_56,e56,h56⟩:=hI.get (i:=8) (.tail _ (.tail _ (.tail _ (.tail _ (.tail _ (.tail _ (.tail _ (.tail _ (.head _))))))))) d8;obtain rfl:=h56;obtain ⟨v43_63,e63,h63⟩:=hI.get (i:=15) (.tail _ (.tail _ (.tail _ (.tail _ (.tail _ (.tail _ (.tail _ (.tail _ (.tail _ (.tail _ (.tail _ (.tail _ (.tail _ (.tail _ (.tail _ (.head _)))))))))))))))) d15;obtain rfl:=h63;obtain ⟨v43_64,e64,h64⟩:=hI.get (i:=16) (.tail _ (.tail _ (.tail _ (.tail _ (.tail _ (.tail _ (.tail _ (.tail _ (.tail _ (.tail _ (.tail _ (.tail _ (.tail _ (.tail _ (.tail _ (.tail _ (.head _))))))))))))))))) d16;obtain rfl:=h64;obtain ⟨v43_73,e73,h73⟩:=hI.get (i:=25) (.tail _ (.tail _ (.tail _ (.tail _ (.tail _ (.tail _ (.tail _ (.tail _ (.tail _ (.tail _ (.tail _ (.tail _ (.tail _ (.tail _ (.tail _ (.tail _ (.tail _ (.tail _ (.tail _ (.tail _ (.tail _ (.tail _ (.tail _ (.tail _ (.tail _ (.head _)))))))))))))))))))))))))) d25;obtain rfl:=h73;obtain ⟨v43_82,e82,h82⟩:=hI.get (i:=34) (.tail _ (.tail _ (.tail _ (.tail _ (.tail _ (.tail _ (.tail _ (.tail _ (.tail _ (.tail _ (.tail _ (.tail _ (.tail _ (.tail _ (.tail _ (.tail _ (.tail _ (.tail _ (.tail _ (.tail _ (.tail _ (.tail _ (.tail _ (.tail _ (.tail _ (.tail _ (.tail _ (.tail _ (.tail _ (.tail _ (.tail _ (.tail _ (.tail _ (.tail _ (.head _))))))))))))))))))))))))))))))))))) d34;obtain rfl:=h82;obtain ⟨v43_88,e88,h88⟩:=hI.get (i:=40) (.tail _ (.tail _ (.tail _ (.tail _ (.tail _ (.tail _ (.tail _ (.tail _ (.tail _ (.tail _ (.tail _ (.tail _ (.tail _ (.tail _ (.tail _ (.tail _ (.tail _ (.tail _ (.tail _ (.tail _ (.tail _ (.tail _ (.tail _ (.tail _ (.tail _ (.tail _ (.tail _ (.tail _ (.tail _ (.tail _ (.tail _ (.tail _ (.tail _ (.tail _ (.tail _ (.tail _ (.tail _ (.tail _ (.tail _ (.tail _ (.head _))))))))))))))))))))))))))))))))))))))))) d40;obtain rfl:=h88;exact az [(56,_),(63,_),(64,_),(73,_),(82,_),(88,_)] hU hmo hme hI hM (.tail _ (.tail _ (.tail _ (.tail _ (.tail _ (.tail _ (.tail _ (.tail _ (.tail _ (.tail _ (.tail _ (.tail _ (.tail _ (.tail _ (.tail _ (.tail _ (.tail _ (.tail _ (.tail _ (.tail _ (.tail _ (.tail _ (.tail _ (.tail _ (.tail _ (.tail _ (.tail _ (.tail _ (.tail _ (.tail _ (.tail _ (.tail _ (.tail _ (.tail _ (.tail _ (.tail _ (.tail _ (.tail _ (.tail _ (.tail _ (.tail _ (.head _)))))))))))))))))))))))))))))))))))))))))) rfl rfl (by kernel_rfl) ⟨e56,e63,e64,e73,e82,e88,trivial⟩ (c8 (l:=[(0,.const (.int .i64 5)),(4,.tmp 56),(5,.tmp 63),(10,.tmp 64),(11,.tmp 73),(12,.tmp 82),(7,.tmp 88)]) (dy _ _ _ _ _ _)) ag.rfl_ (rfl)
   constructor
   ·rintro S L' w44 hU hmo hme hI hM hC hS ⟨d0,d1,d41,-⟩;have hS0:S 42=false:=hS;have hM44:=hM.1 hS0;obtain ⟨v44_48,e48,h48⟩:=hI.get (i:=0) (.head _) d0;obtain rfl:=h48;obtain ⟨v44_49,e49,h49⟩:=hI.get (i:=1) (.tail _ (.head _)) d1;obtain rfl:=h49;obtain ⟨v44_89,e89,h89⟩:=hI.get (i:=41) (.tail _ (.tail _ (.tail _ (.tail _ (.tail _ (.tail _ (.tail _ (.tail _ (.tail _ (.tail _ (.tail _ (.tail _ (.tail _ (.tail _ (.tail _ (.tail _ (.tail _ (.tail _ (.tail _ (.tail _ (.tail _ (.tail _ (.tail _ (.tail _ (.tail _ (.tail _ (.tail _ (.tail _ (.tail _ (.tail _ (.tail _ (.tail _ (.tail _ (.tail _ (.tail _ (.tail _ (.tail _ (.tail _ (.tail _ (.tail _ (.tail _ (.head _)))))))))))))))))))))))))))))))))))))))))) d41;obtain rfl:=h89;refine gi (al:=[.tmp 48,.tmp 49,.tmp 89]) [(48,_),(49,_),(89,_)] hU hI (.tail _ (.tail _ (.tail _ (.tail _ (.tail _ (.tail _ (.tail _ (.tail _ (.tail _ (.tail _ (.tail _ (.tail _ (.tail _ (.tail _ (.tail _ (.tail _ (.tail _ (.tail _ (.tail _ (.tail _ (.tail _ (.tail _ (.tail _ (.tail _ (.tail _ (.tail _ (.tail _ (.tail _ (.tail _ (.tail _ (.tail _ (.tail _ (.tail _ (.tail _ (.tail _ (.tail _ (.tail _ (.tail _ (.tail _ (.tail _ (.tail _ (.tail _ (.head _))))))))))))))))))))))))))))))))))))))))))) (by kernel_rfl) ⟨e48,e49,e89,trivial⟩ gr ((mw w0 Z T g p _ (h.from_ (ag.rfl_.next hM44)) tag _ O oc L (hs.from_ (ag.rfl_.next hM44)) (by omega) { zM with k:=5,ix:=p.s.b,lt:=p.s.t,rd:=p.s.round,a:=(na:Int),d:=p.s.snap.extract na (min (na+1024) p.s.snap.size),dn:=decide (min (na+1024) p.s.snap.size=p.s.snap.size) } ((k:Int)+1) ⟨cC,Col.none⟩).mono ?_);rintro v9 w2 ⟨rfl,hS2⟩;exact ⟨⟨fun h0=>(by rw [mi] at h0;cases h0),fun _=>hS2⟩,rfl,⟨fun _ _ _ h=>h,fun _ _ _ h=>h,fun _ _ _ h=>h,fun _ _ _ h=>h,fun _ _ _ h=>h,fun _ _ _ h=>h,fun _ _ _ h=>h,fun _ _ _ h=>h,fun _ _ _ h=>h,fun _ _ _ h=>h,fun _ _ _ h=>h,fun _ _ _ h=>h,fun _ _ _ h=>h,fun _ _ _ h=>h,fun _ _ _ h=>h,fun _ _ _ h=>h,fun _ _ _ h=>h,fun _ _ _ h=>h,fun _ _ _ h=>h,fun _ _ _ h=>h,fun _ _ _ h=>h,fun _ _ _ h=>h,fun _ _ _ h=>h,fun _ _ _ h=>h,fun _ _ _ h=>h,fun _ _ _ h=>h,fun _ _ _ h=>h,fun _ _ _ h=>h,fun _ _ _ h=>h,fun _ _ _ h=>h,fun _ _ _ h=>h,fun _ _ _ h=>h,fun _ _ _ h=>h,fun _ _ _ h=>h,fun _ _ _ h=>h,fun _ _ _ h=>h,fun _ _ _ h=>h,fun _ _ _ h=>h,fun _ _ _ h=>h,fun _ _ _ h=>h,fun _ _ _ h=>h,fun _ _ _ h=>h,fun _ _ _ h=>h,trivial⟩⟩
   exact trivial
  case hend=>
   intro w45 hM;obtain hS9:=hM.2 rfl;rintro v45_48 rfl v45_49 rfl v45_50 rfl v45_51 rfl v45_52 rfl v45_53 rfl v45_54 rfl v45_55 rfl v45_56 rfl v45_57 rfl v45_58 rfl v45_59 rfl v45_60 rfl v45_61 rfl v45_62 rfl v45_63 rfl v45_64 rfl v45_65 rfl v45_66 rfl v45_67 rfl v45_68 rfl v45_69 rfl v45_70 rfl v45_71 rfl v45_72 rfl v45_73 rfl v45_74 rfl v45_75 rfl v45_76 rfl v45_77 rfl v45_78 rfl v45_79 rfl v45_80 rfl v45_81 rfl v45_82 rfl v45_83 rfl v45_84 rfl v45_85 rfl v45_86 rfl v45_87 rfl v45_88 rfl v45_89 rfl v45_90 rfl;refine jA (ai (aG (aN (fa rfl ?_))))
   have e9:p.send ((k:Int)+1)=p.tell (pl { ({ zM with k:=5,ix:=p.s.b,lt:=p.s.t,rd:=p.s.round,a:=(na:Int),d:=p.s.snap.extract na (min (na+1024) p.s.snap.size),dn:=decide (min (na+1024) p.s.snap.size=p.s.snap.size) }:Msg) with t:=(k:Int)+1 }):=by
    unfold Sp.send;rw [mj (by rw [hpn];omega) (by rw [hpx,hna])];rfl
   rw [e9];exact ⟨rfl,hS9⟩
 refine aO (ai (an (ah (mvp rfl (ab (ao rfl) (ab (aa aw rfl) (ab (aa aq rfl) (ab (aa aY rfl) (ab (bh (cs:=[.int .i64 p.s.b,.int .i64 p.s.t,.slice E p.s.es.length Ec]) cX cA rfl (kA (hb.from_ ag.rfl_))) (mvi rfl ?_))))))))));have hB98:ag w w:=ag.rfl_;have hz98:=hB98.size;refine aA nf (qR p.s.b p.s.t p.s.next[k] E p.s.es.length Ec p.s.es _ (he.from_ ag.rfl_) hF.lg (by omega)) ?_;rintro v99 w46 ⟨⟨A99,c99,rfl,ho99⟩,E99⟩;have hs9:=hs.new hzw (ag.rfl_.next E99) (1000+2*L.length);have hc9:Col (dd w.heap.size (1000+2*L.length) tag) (1000+2*L.length) A99:=fun q hq=>cP (by have:=(dT ho99 q hq).1;omega)
 have h9:=h.from_ (ag.rfl_.next E99);refine mvt rfl (ab (aM rfl rfl) (ab (aM rfl rfl) (ass rfl (asi rfl (ak (ai ?_))))));apply kM [(0,102,fun _ v _=>v=_),(1,103,fun _ v _=>v=_),(2,104,fun _ v _=>v=_),(3,105,fun _ v _=>v=_),(4,106,fun _ v _=>v=_),(5,107,fun _ v _=>v=_),(6,108,fun _ v _=>v=_),(7,109,fun _ v _=>v=_),(8,110,fun _ v _=>v=_),(9,111,fun _ v _=>v=_),(10,112,fun _ v _=>v=_),(11,113,fun _ v _=>v=_),(12,114,fun _ v _=>v=_),(13,115,fun _ v _=>v=_),(14,116,fun _ v _=>v=_),(15,117,fun _ v _=>v=_),(16,118,fun _ v _=>v=_),(17,119,fun _ v _=>v=_),(18,120,fun _ v _=>v=_),(19,121,fun _ v _=>v=_),(20,122,fun _ v _=>v=_),(21,123,fun _ v _=>v=_),(22,124,fun _ v _=>v=_),(23,125,fun _ v _=>v=_),(24,126,fun _ v _=>v=_)] [24] (fun S w'=>(S 24=false→ag w46 w')∧(S 24=true→aR w0 Z w' T g (p.tell (pl { ({ zM with k:=3,ix:=p.s.next[k]-1,lt:=dI p.s.b p.s.t p.s.es (p.s.next[k]-1),cm:=p.s.commit,rd:=p.s.round,E:=A99,c:=c99,es:=(p.s.es.drop (p.s.next[k]-p.s.b-1).toNat).take 16 }:Msg) with t:=(k:Int)+1 })))) (by kernel_rfl) (by kernel_rfl) rfl rfl ⟨fun _ _ _ _ _ _ _ h=>h,fun _ _ _ _ _ _ _ h=>h,fun _ _ _ _ _ _ _ h=>h,fun _ _ _ _ _ _ _ h=>h,fun _ _ _ _ _ _ _ h=>h,fun _ _ _ _ _ _ _ h=>h,fun _ _ _ _ _ _ _ h=>h,fun _ _ _ _ _ _ _ h=>h,fun _ _ _ _ _ _ _ h=>h,fun _ _ _ _ _ _ _ h=>h,fun _ _ _ _ _ _ _ h=>h,fun _ _ _ _ _ _ _ h=>h,fun _ _ _ _ _ _ _ h=>h,fun _ _ _ _ _ _ _ h=>h,fun _ _ _ _ _ _ _ h=>h,fun _ _ _ _ _ _ _ h=>h,fun _ _ _ _ _ _ _ h=>h,fun _ _ _ _ _ _ _ h=>h,fun _ _ _ _ _ _ _ h=>h,fun _ _ _ _ _ _ _ h=>h,fun _ _ _ _ _ _ _ h=>h,fun _ _ _ _ _ _ _ h=>h,fun _ _ _ _ _ _ _ h=>h,fun _ _ _ _ _ _ _ h=>h,fun _ _ _ _ _ _ _ h=>h,trivial⟩ (fun S i w1 w2 hq hF h=>⟨fun h0=>(h.1 (p3 h0)).next hF,fun h1=>(fun h=>h.from_ hF) (h.2 (oR (show 24≠i by rintro rfl;exact absurd hq (by decide)) h1))⟩) ⟨fun _=>ag.rfl_.d1,fun h=>by cases h⟩
 case hstep=>
  constructor
  ·rintro S L' w47 hU hmo hme hI hM hC hS ⟨-⟩;have hS0:S 24=false:=(ae hC (j:=24) rfl (by kernel_rfl) hS);have hM47:=hM.1 hS0;have e0:=hI.1 0 (fb rfl);exact az [(0,_)] hU hmo hme hI hM (.head _) rfl rfl (by kernel_rfl) ⟨e0,trivial⟩ (aB (v:=.pointer _) rfl) ag.rfl_ (rfl)
  constructor
  ·rintro S L' w48 hU hmo hme hI hM hC hS ⟨-⟩;have hS0:S 24=false:=(ae hC (j:=24) rfl (by kernel_rfl) hS);have hM48:=hM.1 hS0;have e1:=hI.1 1 (fb rfl);exact az [(1,_)] hU hmo hme hI hM (.tail _ (.head _)) rfl rfl (by kernel_rfl) ⟨e1,trivial⟩ (aB (v:=.int _ _) rfl) ag.rfl_ (rfl)
  constructor
  ·rintro S L' w49 hU hmo hme hI hM hC hS ⟨-⟩;have hS0:S 24=false:=(ae hC (j:=24) rfl (by kernel_rfl) (ae hC (j:=23) rfl (by kernel_rfl) (ae hC (j:=3) rfl (by kernel_rfl) hS)));have hM49:=hM.1 hS0;have e4:=hI.1 4 (fb rfl);exact az [(4,_)] hU hmo hme hI hM (.tail _ (.tail _ (.head _))) rfl rfl (by kernel_rfl) ⟨e4,trivial⟩ (aB (v:=.int _ _) rfl) ag.rfl_ (rfl)
  constructor
  ·rintro S L' w50 hU hmo hme hI hM hC hS ⟨d2,-⟩;have hS0:S 24=false:=(ae hC (j:=24) rfl (by kernel_rfl) (ae hC (j:=23) rfl (by kernel_rfl) hS));have hM50:=hM.1 hS0;obtain ⟨v50_104,e104,h104⟩:=hI.get (i:=2) (.tail _ (.tail _ (.head _))) d2;obtain rfl:=h104;exact az [(104,_)] hU hmo hme hI hM (.tail _ (.tail _ (.tail _ (.head _)))) rfl rfl (by kernel_rfl) ⟨e104,trivial⟩ (eH rfl rfl (by omega)) ag.rfl_ (rfl)
  constructor
  ·rintro S L' w51 hU hmo hme hI hM hC hS ⟨-⟩;have hS0:S 24=false:=(ae hC (j:=24) rfl (by kernel_rfl) (ae hC (j:=23) rfl (by kernel_rfl) (ae hC (j:=9) rfl (by kernel_rfl) (ae hC (j:=6) rfl (by kernel_rfl) (ae hC (j:=5) rfl (by kernel_rfl) hS)))));have hM51:=hM.1 hS0;have e0:=hI.1 0 (fb rfl);exact az [(0,_)] hU hmo hme hI hM (.tail _ (.tail _ (.tail _ (.tail _ (.head _))))) rfl rfl (by kernel_rfl) ⟨e0,trivial⟩ (aB (v:=.pointer _) rfl) ag.rfl_ (rfl)
  constructor
  ·rintro S L' w52 hU hmo hme hI hM hC hS ⟨d4,-⟩;have hS0:S 24=false:=(ae hC (j:=24) rfl (by kernel_rfl) (ae hC (j:=23) rfl (by kernel_rfl) (ae hC (j:=9) rfl (by kernel_rfl) (ae hC (j:=6) rfl (by kernel_rfl) hS))));have hM52:=hM.1 hS0;obtain ⟨v52_106,e106,h106⟩:=hI.get (i:=4) (.tail _ (.tail _ (.tail _ (.tail _ (.head _))))) d4;obtain rfl:=h106;exact az [(106,_)] hU hmo hme hI hM (.tail _ (.tail _ (.tail _ (.tail _ (.tail _ (.head _)))))) rfl rfl (by kernel_rfl) ⟨e106,trivial⟩ (ao rfl) ag.rfl_ (rfl)
  constructor
  ·rintro S L' w53 hU hmo hme hI hM hC hS ⟨d5,-⟩;have hS0:S 24=false:=(ae hC (j:=24) rfl (by kernel_rfl) (ae hC (j:=23) rfl (by kernel_rfl) (ae hC (j:=9) rfl (by kernel_rfl) hS)));have hM53:=hM.1 hS0;obtain ⟨v53_107,e107,h107⟩:=hI.get (i:=5) (.tail _ (.tail _ (.tail _ (.tail _ (.tail _ (.head _)))))) d5;obtain rfl:=h107;exact az [(107,_)] hU hmo hme hI hM (.tail _ (.tail _ (.tail _ (.tail _ (.tail _ (.tail _ (.head _))))))) rfl rfl (by kernel_rfl) ⟨e107,trivial⟩ (aa aw rfl) ag.rfl_ (rfl)
  constructor
  ·rintro S L' w54 hU hmo hme hI hM hC hS ⟨-⟩;have hS0:S 24=false:=(ae hC (j:=24) rfl (by kernel_rfl) (ae hC (j:=23) rfl (by kernel_rfl) (ae hC (j:=9) rfl (by kernel_rfl) (ae hC (j:=8) rfl (by kernel_rfl) hS))));have hM54:=hM.1 hS0;have e4:=hI.1 4 (fb rfl);exact az [(4,_)] hU hmo hme hI hM (.tail _ (.tail _ (.tail _ (.tail _ (.tail _ (.tail _ (.tail _ (.head _)))))))) rfl rfl (by kernel_rfl) ⟨e4,trivial⟩ (aB (v:=.int _ _) rfl) ag.rfl_ (rfl)
  constructor
  ·rintro S L' w55 hU hmo hme hI hM hC hS ⟨d7,-⟩;have hS0:S 24=false:=(ae hC (j:=24) rfl (by kernel_rfl) (ae hC (j:=23) rfl (by kernel_rfl) (ae hC (j:=9) rfl (by kernel_rfl) hS)));have hM55:=hM.1 hS0;obtain ⟨v55_109,e109,h109⟩:=hI.get (i:=7) (.tail _ (.tail _ (.tail _ (.tail _ (.tail _ (.tail _ (.tail _ (.head _)))))))) d7;obtain rfl:=h109;exact az [(109,_)] hU hmo hme hI hM (.tail _ (.tail _ (.tail _ (.tail _ (.tail _ (.tail _ (.tail _ (.tail _ (.head _))))))))) rfl rfl (by kernel_rfl) ⟨e109,trivial⟩ (eH rfl rfl (by omega)) ag.rfl_ (rfl)
  constructor
  ·rintro S L' w56 hU hmo hme hI hM hC hS ⟨d6,d8,-⟩;have hS0:S 24=false:=(ae hC (j:=24) rfl (by kernel_rfl) hS);have hM56:=hM.1 hS0;obtain ⟨v56_108,e108,h108⟩:=hI.get (i:=6) (.tail _ (.tail _ (.tail _ (.tail _ (.tail _ (.tail _ (.head _))))))) d6;obtain rfl:=h108;obtain ⟨v56_110,e110,h110⟩:=hI.get (i:=8) (.tail _ (.tail _ (.tail _ (.tail _ (.tail _ (.tail _ (.tail _ (.tail _ (.head _))))))))) d8;obtain rfl:=h110;refine me (al:=[.tmp 108,.tmp 110]) [(108,_),(110,_)] hU hmo hme hI hM (.tail _ (.tail _ (.tail _ (.tail _ (.tail _ (.tail _ (.tail _ (.tail _ (.tail _ (.head _)))))))))) rfl (by kernel_rfl) ⟨e108,e110,trivial⟩ jG ((kY T g p.s _ _ _ (hb.from_ ((ag.rfl_.next E99).next hM56)) (he.from_ ((ag.rfl_.next E99).next hM56)) hF.lg (p.s.next[k]-1) (by omega)).mono ?_);rintro v w2 ⟨rfl,E56'⟩;exact ⟨E56',rfl⟩
  constructor
  ·rintro S L' w57 hU hmo hme hI hM hC hS ⟨-⟩;have hS0:S 24=false:=(ae hC (j:=24) rfl (by kernel_rfl) (ae hC (j:=23) rfl (by kernel_rfl) (ae hC (j:=15) rfl (by kernel_rfl) (ae hC (j:=14) rfl (by kernel_rfl) (ae hC (j:=13) rfl (by kernel_rfl) (ae hC (j:=12) rfl (by kernel_rfl) (ae hC (j:=11) rfl (by kernel_rfl) hS)))))));have hM57:=hM.1 hS0;have e0:=hI.1 0 (fb rfl);exact az [(0,_)] hU hmo hme hI hM (.tail _ (.tail _ (.tail _ (.tail _ (.tail _ (.tail _ (.tail _ (.tail _ (.tail _ (.tail _ (.head _))))))))))) rfl rfl (by kernel_rfl) ⟨e0,trivial⟩ (aB (v:=.pointer _) rfl) ag.rfl_ (rfl)
  constructor
  ·rintro S L' w58 hU hmo hme hI hM hC hS ⟨d10,-⟩;have hS0:S 24=false:=(ae hC (j:=24) rfl (by kernel_rfl) (ae hC (j:=23) rfl (by kernel_rfl) (ae hC (j:=15) rfl (by kernel_rfl) (ae hC (j:=14) rfl (by kernel_rfl) (ae hC (j:=13) rfl (by kernel_rfl) (ae hC (j:=12) rfl (by kernel_rfl) hS))))));have hM58:=hM.1 hS0;obtain ⟨v58_112,e112,h112⟩:=hI.get (i:=10) (.tail _ (.tail _ (.tail _ (.tail _ (.tail _ (.tail _ (.tail _ (.tail _ (.tail _ (.tail _ (.head _))))))))))) d10;obtain rfl:=h112;exact az [(112,_)] hU hmo hme hI hM (.tail _ (.tail _ (.tail _ (.tail _ (.tail _ (.tail _ (.tail _ (.tail _ (.tail _ (.tail _ (.tail _ (.head _)))))))))))) rfl rfl (by kernel_rfl) ⟨e112,trivial⟩ (ao rfl) ag.rfl_ (rfl)
  constructor
  ·rintro S L' w59 hU hmo hme hI hM hC hS ⟨d11,-⟩;have hS0:S 24=false:=(ae hC (j:=24) rfl (by kernel_rfl) (ae hC (j:=23) rfl (by kernel_rfl) (ae hC (j:=15) rfl (by kernel_rfl) (ae hC (j:=14) rfl (by kernel_rfl) (ae hC (j:=13) rfl (by kernel_rfl) hS)))));have hM59:=hM.1 hS0;obtain ⟨v59_113,e113,h113⟩:=hI.get (i:=11) (.tail _ (.tail _ (.tail _ (.tail _ (.tail _ (.tail _ (.tail _ (.tail _ (.tail _ (.tail _ (.tail _ (.head _)))))))))))) d11;obtain rfl:=h113;exact az [(113,_)] hU hmo hme hI hM (.tail _ (.tail _ (.tail _ (.tail _ (.tail _ (.tail _ (.tail _ (.tail _ (.tail _ (.tail _ (.tail _ (.tail _ (.head _))))))))))))) rfl rfl (by kernel_rfl) ⟨e113,trivial⟩ (aa aw rfl) ag.rfl_ (rfl)
  constructor
  ·rintro S L' w60 hU hmo hme hI hM hC hS ⟨d12,-⟩;have hS0:S 24=false:=(ae hC (j:=24) rfl (by kernel_rfl) (ae hC (j:=23) rfl (by kernel_rfl) (ae hC (j:=15) rfl (by kernel_rfl) (ae hC (j:=14) rfl (by kernel_rfl) hS))));have hM60:=hM.1 hS0;obtain ⟨v60_114,e114,h114⟩:=hI.get (i:=12) (.tail _ (.tail _ (.tail _ (.tail _ (.tail _ (.tail _ (.tail _ (.tail _ (.tail _ (.tail _ (.tail _ (.tail _ (.head _))))))))))))) d12;obtain rfl:=h114;exact az [(114,_)] hU hmo hme hI hM (.tail _ (.tail _ (.tail _ (.tail _ (.tail _ (.tail _ (.tail _ (.tail _ (.tail _ (.tail _ (.tail _ (.tail _ (.tail _ (.head _)))))))))))))) rfl rfl (by kernel_rfl) ⟨e114,trivial⟩ (aa aq rfl) ag.rfl_ (rfl)
  constructor
  ·rintro S L' w61 hU hmo hme hI hM hC hS ⟨d13,-⟩;have hS0:S 24=false:=(ae hC (j:=24) rfl (by kernel_rfl) (ae hC (j:=23) rfl (by kernel_rfl) (ae hC (j:=15) rfl (by kernel_rfl) hS)));have hM61:=hM.1 hS0;obtain ⟨v61_115,e115,h115⟩:=hI.get (i:=13) (.tail _ (.tail _ (.tail _ (.tail _ (.tail _ (.tail _ (.tail _ (.tail _ (.tail _ (.tail _ (.tail _ (.tail _ (.tail _ (.head _)))))))))))))) d13;obtain rfl:=h115;exact az [(115,_)] hU hmo hme hI hM (.tail _ (.tail _ (.tail _ (.tail _ (.tail _ (.tail _ (.tail _ (.tail _ (.tail _ (.tail _ (.tail _ (.tail _ (.tail _ (.tail _ (.head _))))))))))))))) rfl rfl (by kernel_rfl) ⟨e115,trivial⟩ (aa cj rfl) ag.rfl_ (rfl)
  constructor
  ·rintro S L' w62 hU hmo hme hI hM hC hS ⟨d14,-⟩;have hS0:S 24=false:=(ae hC (j:=24) rfl (by kernel_rfl) (ae hC (j:=23) rfl (by kernel_rfl) hS));have hM62:=hM.1 hS0;obtain ⟨v62_116,e116,h116⟩:=hI.get (i:=14) (.tail _ (.tail _ (.tail _ (.tail _ (.tail _ (.tail _ (.tail _ (.tail _ (.tail _ (.tail _ (.tail _ (.tail _ (.tail _ (.tail _ (.head _))))))))))))))) d14;obtain rfl:=h116;exact az [(116,_)] hU hmo hme hI hM (.tail _ (.tail _ (.tail _ (.tail _ (.tail _ (.tail _ (.tail _ (.tail _ (.tail _ (.tail _ (.tail _ (.tail _ (.tail _ (.tail _ (.tail _ (.head _)))))))))))))))) rfl rfl (by kernel_rfl) ⟨e116,trivial⟩ (ar au rfl (by exact bB (hb.from_ ((ag.rfl_.next E99).next hM62)) 10 rfl)) ag.rfl_ (rfl)
  constructor
  ·rintro S L' w63 hU hmo hme hI hM hC hS ⟨-⟩;have hS0:S 24=false:=(ae hC (j:=24) rfl (by kernel_rfl) (ae hC (j:=23) rfl (by kernel_rfl) hS));have hM63:=hM.1 hS0;have e7:=hI.1 7 (fb rfl);exact az [(7,_)] hU hmo hme hI hM (.tail _ (.tail _ (.tail _ (.tail _ (.tail _ (.tail _ (.tail _ (.tail _ (.tail _ (.tail _ (.tail _ (.tail _ (.tail _ (.tail _ (.tail _ (.tail _ (.head _))))))))))))))))) rfl rfl (by kernel_rfl) ⟨e7,trivial⟩ (aB (v:=.slice _ _ _) rfl) ag.rfl_ (rfl)
  constructor
  ·rintro S L' w64 hU hmo hme hI hM hC hS ⟨-⟩;have hS0:S 24=false:=(ae hC (j:=24) rfl (by kernel_rfl) (ae hC (j:=23) rfl (by kernel_rfl) (ae hC (j:=22) rfl (by kernel_rfl) (ae hC (j:=21) rfl (by kernel_rfl) (ae hC (j:=20) rfl (by kernel_rfl) (ae hC (j:=19) rfl (by kernel_rfl) (ae hC (j:=18) rfl (by kernel_rfl) hS)))))));have hM64:=hM.1 hS0;have e0:=hI.1 0 (fb rfl);exact az [(0,_)] hU hmo hme hI hM (.tail _ (.tail _ (.tail _ (.tail _ (.tail _ (.tail _ (.tail _ (.tail _ (.tail _ (.tail _ (.tail _ (.tail _ (.tail _ (.tail _ (.tail _ (.tail _ (.tail _ (.head _)))))))))))))))))) rfl rfl (by kernel_rfl) ⟨e0,trivial⟩ (aB (v:=.pointer _) rfl) ag.rfl_ (rfl)
  constructor
  ·rintro S L' w65 hU hmo hme hI hM hC hS ⟨d17,-⟩;have hS0:S 24=false:=(ae hC (j:=24) rfl (by kernel_rfl) (ae hC (j:=23) rfl (by kernel_rfl) (ae hC (j:=22) rfl (by kernel_rfl) (ae hC (j:=21) rfl (by kernel_rfl) (ae hC (j:=20) rfl (by kernel_rfl) (ae hC (j:=19) rfl (by kernel_rfl) hS))))));have hM65:=hM.1 hS0;obtain ⟨v65_119,e119,h119⟩:=hI.get (i:=17) (.tail _ (.tail _ (.tail _ (.tail _ (.tail _ (.tail _ (.tail _ (.tail _ (.tail _ (.tail _ (.tail _ (.tail _ (.tail _ (.tail _ (.tail _ (.tail _ (.tail _ (.head _)))))))))))))))))) d17;obtain rfl:=h119;exact az [(119,_)] hU hmo hme hI hM (.tail _ (.tail _ (.tail _ (.tail _ (.tail _ (.tail _ (.tail _ (.tail _ (.tail _ (.tail _ (.tail _ (.tail _ (.tail _ (.tail _ (.tail _ (.tail _ (.tail _ (.tail _ (.head _))))))))))))))))))) rfl rfl (by kernel_rfl) ⟨e119,trivial⟩ (ao rfl) ag.rfl_ (rfl)
  constructor
  ·rintro S L' w66 hU hmo hme hI hM hC hS ⟨d18,-⟩;have hS0:S 24=false:=(ae hC (j:=24) rfl (by kernel_rfl) (ae hC (j:=23) rfl (by kernel_rfl) (ae hC (j:=22) rfl (by kernel_rfl) (ae hC (j:=21) rfl (by kernel_rfl) (ae hC (j:=20) rfl (by kernel_rfl) hS)))));have hM66:=hM.1 hS0;obtain ⟨v66_120,e120,h120⟩:=hI.get (i:=18) (.tail _ (.tail _ (.tail _ (.tail _ (.tail _ (.tail _ (.tail _ (.tail _ (.tail _ (.tail _ (.tail _ (.tail _ (.tail _ (.tail _ (.tail _ (.tail _ (.tail _ (.tail _ (.head _))))))))))))))))))) d18;obtain rfl:=h120;exact az [(120,_)] hU hmo hme hI hM (.tail _ (.tail _ (.tail _ (.tail _ (.tail _ (.tail _ (.tail _ (.tail _ (.tail _ (.tail _ (.tail _ (.tail _ (.tail _ (.tail _ (.tail _ (.tail _ (.tail _ (.tail _ (.tail _ (.head _)))))))))))))))))))) rfl rfl (by kernel_rfl) ⟨e120,trivial⟩ (aa aw rfl) ag.rfl_ (rfl)
  constructor
  ·rintro S L' w67 hU hmo hme hI hM hC hS ⟨d19,-⟩;have hS0:S 24=false:=(ae hC (j:=24) rfl (by kernel_rfl) (ae hC (j:=23) rfl (by kernel_rfl) (ae hC (j:=22) rfl (by kernel_rfl) (ae hC (j:=21) rfl (by kernel_rfl) hS))));have hM67:=hM.1 hS0;obtain ⟨v67_121,e121,h121⟩:=hI.get (i:=19) (.tail _ (.tail _ (.tail _ (.tail _ (.tail _ (.tail _ (.tail _ (.tail _ (.tail _ (.tail _ (.tail _ (.tail _ (.tail _ (.tail _ (.tail _ (.tail _ (.tail _ (.tail _ (.tail _ (.head _)))))))))))))))))))) d19;obtain rfl:=h121;exact az [(121,_)] hU hmo hme hI hM (.tail _ (.tail _ (.tail _ (.tail _ (.tail _ (.tail _ (.tail _ (.tail _ (.tail _ (.tail _ (.tail _ (.tail _ (.tail _ (.tail _ (.tail _ (.tail _ (.tail _ (.tail _ (.tail _ (.tail _ (.head _))))))))))))))))))))) rfl rfl (by kernel_rfl) ⟨e121,trivial⟩ (aa aq rfl) ag.rfl_ (rfl)
  constructor
  ·rintro S L' w68 hU hmo hme hI hM hC hS ⟨d20,-⟩;have hS0:S 24=false:=(ae hC (j:=24) rfl (by kernel_rfl) (ae hC (j:=23) rfl (by kernel_rfl) (ae hC (j:=22) rfl (by kernel_rfl) hS)));have hM68:=hM.1 hS0;obtain ⟨v68_122,e122,h122⟩:=hI.get (i:=20) (.tail _ (.tail _ (.tail _ (.tail _ (.tail _ (.tail _ (.tail _ (.tail _ (.tail _ (.tail _ (.tail _ (.tail _ (.tail _ (.tail _ (.tail _ (.tail _ (.tail _ (.tail _ (.tail _ (.tail _ (.head _))))))))))))))))))))) d20;obtain rfl:=h122;exact az [(122,_)] hU hmo hme hI hM (.tail _ (.tail _ (.tail _ (.tail _ (.tail _ (.tail _ (.tail _ (.tail _ (.tail _ (.tail _ (.tail _ (.tail _ (.tail _ (.tail _ (.tail _ (.tail _ (.tail _ (.tail _ (.tail _ (.tail _ (.tail _ (.head _)))))))))))))))))))))) rfl rfl (by kernel_rfl) ⟨e122,trivial⟩ (aa cq rfl) ag.rfl_ (rfl)
  constructor
  ·rintro S L' w69 hU hmo hme hI hM hC hS ⟨d21,-⟩;have hS0:S 24=false:=(ae hC (j:=24) rfl (by kernel_rfl) (ae hC (j:=23) rfl (by kernel_rfl) hS));have hM69:=hM.1 hS0;obtain ⟨v69_123,e123,h123⟩:=hI.get (i:=21) (.tail _ (.tail _ (.tail _ (.tail _ (.tail _ (.tail _ (.tail _ (.tail _ (.tail _ (.tail _ (.tail _ (.tail _ (.tail _ (.tail _ (.tail _ (.tail _ (.tail _ (.tail _ (.tail _ (.tail _ (.tail _ (.head _)))))))))))))))))))))) d21;obtain rfl:=h123;exact az [(123,_)] hU hmo hme hI hM (.tail _ (.tail _ (.tail _ (.tail _ (.tail _ (.tail _ (.tail _ (.tail _ (.tail _ (.tail _ (.tail _ (.tail _ (.tail _ (.tail _ (.tail _ (.tail _ (.tail _ (.tail _ (.tail _ (.tail _ (.tail _ (.tail _ (.head _))))))))))))))))))))))) rfl rfl (by kernel_rfl) ⟨e123,trivial⟩ (ar au rfl (by exact bB (hb.from_ ((ag.rfl_.next E99).next hM69)) 18 rfl)) ag.rfl_ (rfl)
  constructor
  ·rintro S L' w70 hU hmo hme hI hM hC hS ⟨d3,d9,d15,d16,d22,-⟩;have hS0:S 24=false:=(ae hC (j:=24) rfl (by kernel_rfl) hS);have hM70:=hM.1 hS0;obtain ⟨v70_105,e105,h105⟩:=hI.get (i:=3) (.tail _ (.tail _ (.tail _ (.head _)))) d3;obtain rfl:=h105;obtain ⟨v70_111,e111,h111⟩:=hI.get (i:=9) (.tail _ (.tail _ (.tail _ (.tail _ (.tail _ (.tail _ (.tail _ (.tail _ (.tail _ (.head _)))))))))) d9;obtain rfl:=h111;obtain ⟨v70_117,e117,h117⟩:=hI.get (i:=15) (.tail _ (.tail _ (.tail _ (.tail _ (.tail _ (.tail _ (.tail _ (.tail _ (.tail _ (.tail _ (.tail _ (.tail _ (.tail _ (.tail _ (.tail _ (.head _)))))))))))))))) d15;obtain rfl:=h117;obtain ⟨v70_118,e118,h118⟩:=hI.get (i:=16) (.tail _ (.tail _ (.tail _ (.tail _ (.tail _ (.tail _ (.tail _ (.tail _ (.tail _ (.tail _ (.tail _ (.tail _ (.tail _ (.tail _ (.tail _ (.tail _ (.head _))))))))))))))))) d16;obtain rfl:=h118;obtain ⟨v70_124,e124,h124⟩:=hI.get (i:=22) (.tail _ (.tail _ (.tail _ (.tail _ (.tail _ (.tail _ (.tail _ (.tail _ (.tail _ (.tail _ (.tail _ (.tail _ (.tail _ (.tail _ (.tail _ (.tail _ (.tail _ (.tail _ (.tail _ (.tail _ (.tail _ (.tail _ (.head _))))))))))))))))))))))) d22;obtain rfl:=h124;exact az [(105,_),(111,_),(117,_),(118,_),(124,_)] hU hmo hme hI hM (.tail _ (.tail _ (.tail _ (.tail _ (.tail _ (.tail _ (.tail _ (.tail _ (.tail _ (.tail _ (.tail _ (.tail _ (.tail _ (.tail _ (.tail _ (.tail _ (.tail _ (.tail _ (.tail _ (.tail _ (.tail _ (.tail _ (.tail _ (.head _)))))))))))))))))))))))) rfl rfl (by kernel_rfl) ⟨e105,e111,e117,e118,e124,trivial⟩ (c8 (l:=[(0,.const (.int .i64 3)),(4,.tmp 105),(5,.tmp 111),(6,.tmp 117),(9,.tmp 118),(7,.tmp 124)]) (dW _ _ _ _ _ _ _)) ag.rfl_ (rfl)
  constructor
  ·rintro S L' w71 hU hmo hme hI hM hC hS ⟨d0,d1,d23,d9,-⟩;have hS0:S 24=false:=hS;have hM71:=hM.1 hS0;obtain ⟨v71_102,e102,h102⟩:=hI.get (i:=0) (.head _) d0;obtain rfl:=h102;obtain ⟨v71_103,e103,h103⟩:=hI.get (i:=1) (.tail _ (.head _)) d1;obtain rfl:=h103;obtain ⟨v71_125,e125,h125⟩:=hI.get (i:=23) (.tail _ (.tail _ (.tail _ (.tail _ (.tail _ (.tail _ (.tail _ (.tail _ (.tail _ (.tail _ (.tail _ (.tail _ (.tail _ (.tail _ (.tail _ (.tail _ (.tail _ (.tail _ (.tail _ (.tail _ (.tail _ (.tail _ (.tail _ (.head _)))))))))))))))))))))))) d23;obtain rfl:=h125;refine gi (al:=[.tmp 102,.tmp 103,.tmp 125]) [(102,_),(103,_),(125,_)] hU hI (.tail _ (.tail _ (.tail _ (.tail _ (.tail _ (.tail _ (.tail _ (.tail _ (.tail _ (.tail _ (.tail _ (.tail _ (.tail _ (.tail _ (.tail _ (.tail _ (.tail _ (.tail _ (.tail _ (.tail _ (.tail _ (.tail _ (.tail _ (.tail _ (.head _))))))))))))))))))))))))) (by kernel_rfl) ⟨e102,e103,e125,trivial⟩ gr ((mw w0 Z T g p _ (h9.from_ (ag.rfl_.next hM71)) _ _ O oc L (hs9.from_ (ag.rfl_.next hM71)) (by omega) { zM with k:=3,ix:=p.s.next[k]-1,lt:=dI p.s.b p.s.t p.s.es (p.s.next[k]-1),cm:=p.s.commit,rd:=p.s.round,E:=A99,c:=c99,es:=(p.s.es.drop (p.s.next[k]-p.s.b-1).toNat).take 16 } ((k:Int)+1) ⟨eK (ho99.kept_from (ag.rfl_.next hM71)) (Nat.zero_le _),hc9⟩).mono ?_);rintro v9 w2 ⟨rfl,hS2⟩;exact ⟨⟨fun h0=>(by rw [mi] at h0;cases h0),fun _=>hS2⟩,rfl,⟨fun _ _ _ h=>h,fun _ _ _ h=>h,fun _ _ _ h=>h,fun _ _ _ h=>h,fun _ _ _ h=>h,fun _ _ _ h=>h,fun _ _ _ h=>h,fun _ _ _ h=>h,fun _ _ _ h=>h,fun _ _ _ h=>h,fun _ _ _ h=>h,fun _ _ _ h=>h,fun _ _ _ h=>h,fun _ _ _ h=>h,fun _ _ _ h=>h,fun _ _ _ h=>h,fun _ _ _ h=>h,fun _ _ _ h=>h,fun _ _ _ h=>h,fun _ _ _ h=>h,fun _ _ _ h=>h,fun _ _ _ h=>h,fun _ _ _ h=>h,fun _ _ _ h=>h,fun _ _ _ h=>h,trivial⟩⟩
  exact trivial
 case hend=>
  intro w72 hM;obtain hS9:=hM.2 rfl;rintro v72_102 rfl v72_103 rfl v72_104 rfl v72_105 rfl v72_106 rfl v72_107 rfl v72_108 rfl v72_109 rfl v72_110 rfl v72_111 rfl v72_112 rfl v72_113 rfl v72_114 rfl v72_115 rfl v72_116 rfl v72_117 rfl v72_118 rfl v72_119 rfl v72_120 rfl v72_121 rfl v72_122 rfl v72_123 rfl v72_124 rfl v72_125 rfl v72_126 rfl;refine jA (cN (fa rfl ?_))
  have e9:p.send ((k:Int)+1)=p.tell (pl { ({ zM with k:=3,ix:=p.s.next[k]-1,lt:=dI p.s.b p.s.t p.s.es (p.s.next[k]-1),cm:=p.s.commit,rd:=p.s.round,E:=A99,c:=c99,es:=(p.s.es.drop (p.s.next[k]-p.s.b-1).toNat).take 16 }:Msg) with t:=(k:Int)+1 }):=by
   unfold Sp.send;rw [n2 (by rw [hpn];omega),hpn];rfl
  rw [e9];exact ⟨rfl,hS9⟩
end Go.Proofs.Ytkpooenofjdpmaa
