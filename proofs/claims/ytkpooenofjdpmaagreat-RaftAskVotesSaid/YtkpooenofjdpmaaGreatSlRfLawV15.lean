/- texts that the claim stands on. -/
import Derived.Test.YtkpooenofjdpmaaGreatSlRfLawV14

set_option maxRecDepth 100000
set_option maxHeartbeats 4000000
namespace Go.Proofs.YtkpooenofjdpmaaGreat
open Go.Proofs.Tryz (prog)
open Go.RowKit
open Go.ChangeShapes Go.WideShapes Go.ChangeAt
theorem dK:aR prog 53=true:=by kernel_rfl
theorem fW:ki prog 54=some (.agg #[.int .i64 0,.int .i64 0,.int .i64 0,.slice none 0 0]):=by kernel_rfl
theorem me:aR prog 133=true:=by kernel_rfl
theorem aQ:jn prog 29=some true:=by kernel_rfl
theorem aK:eg prog 29=some 22:=by kernel_rfl
theorem qI:aR prog 131=true:=by kernel_rfl
theorem qH:aR prog 132=true:=by kernel_rfl
theorem qG:aR prog 134=true:=by kernel_rfl
theorem qF:aR prog 135=true:=by kernel_rfl
def iL (s:Rf):Prop:=(1≤s.nodes∧s.nodes≤7)∧(1≤s.id∧s.id≤s.nodes)∧(0≤s.role∧s.role≤2)∧((0≤s.vote∧s.vote≤s.nodes)∧(0≤s.leader∧s.leader≤s.nodes))∧(0≤s.term∧s.term≤1099511627775)∧(0≤s.elapsed∧s.elapsed≤1099511627775)∧(0≤s.timeout∧s.timeout≤1099511627775)∧(0≤s.round∧s.round≤1099511627775)
instance (s:Rf):Decidable (iL s):=by unfold iL;exact inferInstance
def gz (s:Rf):Prop:=cD s.b s.t s.es=true∧dp s.t s.es≤s.term∧(s.b≤s.commit∧s.commit≤bH s)∧s.snap.size≤524288∧(0<s.b∨s.snap.size=0)
instance (s:Rf):Decidable (gz s):=by unfold gz;exact inferInstance
def gU (s:Rf):Prop:=s.part.size≤524288∧(0≤s.partOf∧s.partOf≤1099511625728)∧(0<s.partOf∨s.part.size=0)
instance (s:Rf):Decidable (gU s):=by unfold gU;exact inferInstance
def lA (s:Rf):Prop:=if s.role=2 then ((s.next.length:Int)=s.nodes∧(s.mtch.length:Int)=s.nodes∧(s.sent.length:Int)=s.nodes∧s.reads.length≤32)∧(de 1 (bH s+1) s.next∧de 0 (bH s) s.mtch∧de 0 s.snap.size s.sent)∧(∀ q∈s.reads,fQ s q=true) else s.next.length+s.mtch.length+s.sent.length+s.reads.length=0
instance (s:Rf):Decidable (lA s):=by unfold lA;exact inferInstance
theorem zP (s:Rf) (E:Option Addr) (n c:Nat) (w:World) (h:cF w (.slice E n c) s.es):Rt prog 152 [.agg #[.int .i64 s.b,.int .i64 s.t,.slice E n c]] w fun v w'=>(∃ X Y Z:Int,v=.tuple #[.int .i64 X,.int .i64 Y,.int .i64 Z]∧((cD s.b s.t s.es=true∧Z=0∧X=bH s∧Y=dp s.t s.es)∨(cD s.b s.t s.es=false∧Z=1)))∧ai w w':=
 (Rt.of (rD s.b s.t _ s.es w h)).mono fun v w' h=>by
  refine ⟨?_,h.2⟩;rw [h.1];unfold tR;cases hm:cD s.b s.t s.es with
  |true=>rw [if_pos rfl];exact ⟨_,_,_,rfl,.inl ⟨rfl,rfl,rfl,rfl⟩⟩
  |false=>rw [if_neg (by decide)];exact ⟨_,_,_,rfl,.inr ⟨rfl,rfl⟩⟩
theorem iT:∀ (l:List Int),gv l=true↔∀ j (h:j+1<l.length),l[j]<l[j+1]
 |[]=>⟨fun _ j h=>absurd h (by simp),fun _=>rfl⟩
 |[a]=>⟨fun _ j h=>absurd h (by simp),fun _=>rfl⟩
 |a::b::r=>by
  have ih:=iT (b::r);show (decide (a<b)&&gv (b::r))=true↔_;rw [Bool.and_eq_true,decide_eq_true_eq,ih];constructor
  ·rintro ⟨h1,h2⟩ j h;cases j with
   |zero=>exact h1
   |succ j=>exact h2 j (by simpa using h)
  ·intro h;exact ⟨h 0 (by simp),fun j hj=>h (j+1) (by simpa using hj)⟩
theorem gV {l:List Int} {n:Int}:fE l n=true↔de 1 n l∧∀ j (h:j+1<l.length),l[j]<l[j+1]:=by
 unfold fE de;rw [Bool.and_eq_true,iT,List.all_eq_true];simp only [Bool.and_eq_true,decide_eq_true_eq]
theorem eL (lo hi:Int) (A:Option Addr) (c:Nat) (xs:List Int) (w:World) (hr:eu iV w A xs) (hl:xs.length≤1000000) :
 Rt prog 53 [.int .i64 lo,.int .i64 hi,.slice A xs.length c] w (fun v w'=>v=.bool (decide (de lo hi xs))∧w=w'):=by
 refine enter (n:=24) Tryz.func53 rfl rfl rfl (ak (ag (asb rfl (aj (af (ak (ak (ag (mvs rfl (ab (bW cB rfl) (mvi rfl (aj (af (bg (dd (G:=Nat) [6,8,12,13,14,15,16,17,18,19,20,21,22,23] (fun k=>[(11,.int .i64 (k:Nat))]) (fun k w'=>k≤xs.length∧de lo hi (xs.take k)∧w=w') (fun k=>xs.length-k) (0) ⟨rfl,trivial⟩ ?_ ?_)))))))))))))))
 ·exact ⟨Nat.zero_le _,bN.2 trivial,rfl⟩
 rintro k ρ1 w1 ⟨hk,ha,rfl⟩;refine ak (ag (ab (b_ rfl rfl) (aj (af (ak (Ab rfl (fun Q2=>?_) (fun Q2=>?_)))))))
 ·have hkx:k<xs.length:=by omega
  obtain ⟨ba,oa,rfl,hca⟩:=hr (by omega);refine aM (af (ak (bg (ak (ag (ab (dh db rfl rfl (by omega)) (ab (aq an rfl (by exact hca k hkx)) ?_)))))));refine asi rfl (aj (af (ak (ag (mvi rfl (mvi rfl (ab (b_ rfl rfl) (mvb rfl (zt (t:=18) rfl (fun Q3=>?_) (fun Q3=>?_))))))))))
  ·refine bc rfl (aj (af (aL rfl (ak (ag (asb rfl (aj (af (aC (aZ (az (az (aZ (az (bo (v:=.bool _) rfl rfl (⟨congrArg Value.bool ?_,rfl⟩))))))))))))))));rw [eq_comm,decide_eq_false_iff_not];intro h;have:=h _ (List.getElem_mem hkx);omega
  refine ae rfl (mvi rfl (ae rfl (mvi rfl (ae rfl (ab (bS rfl rfl) (ab (aw (v:=.bool _) rfl rfl) (aj (af (Ab rfl (fun Q4=>?_) (fun Q4=>?_))))))))))
  ·refine ak (ag (asb rfl (aj (af (aC (aZ (az (az (aZ (az (bo (v:=.bool _) rfl rfl (⟨congrArg Value.bool ?_,rfl⟩))))))))))));rw [eq_comm,decide_eq_false_iff_not];intro h;have:=h _ (List.getElem_mem hkx);omega
  refine aM (bE (af (ag (ab (dI (b:=1) rfl rfl (by omega)) (mvi rfl (aj ?_))))));refine cu (k+1) ⟨(by first | rfl | (refine bT ?_;omega)),trivial⟩ (by (iterate 30 refine bI rfl ?_);exact bU) ⟨?_,?_⟩
  ·exact ⟨by omega,by rw [List.take_succ_eq_append_getElem hkx];exact oO.2 ⟨ha,by omega⟩,rfl⟩
  ·omega
 obtain rfl:k=xs.length:=by omega
 rw [List.take_length] at ha;refine cI (bD (bD (cr (af (ak (ag (asb rfl (aj (af (aC (bo (v:=.bool _) rfl rfl (⟨congrArg Value.bool (decide_eq_true ha).symm,rfl⟩))))))))))))
theorem f_ {w:World} {b:Nat} {xs:List Int} (h:Blk w b 3 (xs.map iV).toArray):eu iV w (some ⟨b,0,none⟩) xs:=eu.blk h fun i hi=>by simp [hi]
theorem nw (s:Rf) (a:Ra) (w:World) :
 Rt prog 131 [.agg (rfV s a).toArray] w (fun v w'=>v=.bool (decide (iL s))∧ai w w'):=by
 refine enter (n:=43) Tryz.func131 rfl rfl rfl (ak (ag (bZ (v:=.agg _) rfl ?_)));intro b1 w1 E1 hb1 hk1;refine asb rfl (aj (af (ak (ag (ab (aa bX rfl) (ab (aq an rfl (by exact (hk1.from_ ai.rfl_).rd 1 rfl)) ?_))))));refine fb (v:=.int _ _) ct rfl rfl rfl ?_;intro b5 w2 E5 hb5 hk5;refine aB dK (eL 1 7 (some ⟨b5,0,none⟩) 1 [s.nodes] _ (f_ hk5) (by simp)) ?_;rintro v6 w3 ⟨rfl,rfl⟩;refine mvb rfl (zt (t:=7) rfl (fun Q4=>?_) (fun Q4=>?_))
 ·(try simp only [bG,bN,and_true] at Q4)
  refine ae rfl (ab (aa bX rfl) (ae rfl (ab (aq an rfl (by exact (hk1.from_ (ai.rfl_.next E5)).rd 1 rfl)) ?_)));refine ae rfl (ab (aa cM rfl) (ae rfl (ab (aq an rfl (by exact (hk1.from_ (ai.rfl_.next E5)).rd 0 rfl)) ?_)));refine ae rfl (fb (v:=.int _ _) ct rfl rfl rfl ?_);intro b12 w5 E12 hb12 hk12;refine ae rfl (aB dK (eL 1 s.nodes (some ⟨b12,0,none⟩) 1 [s.id] _ (f_ hk12) (by simp)) ?_);rintro v13 w6 ⟨rfl,rfl⟩;refine ab (aJ (v:=.bool _) rfl rfl) (mvb rfl (zt (t:=15) rfl (fun Q7=>?_) (fun Q7=>?_)))
  ·(try simp only [bG,bN,and_true] at Q7)
   refine ae rfl (ab (aa du rfl) (ae rfl (ab (aq an rfl (by exact (hk1.from_ ((ai.rfl_.next E5).next E12)).rd 2 rfl)) ?_)));refine ae rfl (fb (v:=.int _ _) ct rfl rfl rfl ?_);intro b18 w8 E18 hb18 hk18;refine ae rfl (aB dK (eL 0 2 (some ⟨b18,0,none⟩) 1 [s.role] _ (f_ hk18) (by simp)) ?_);rintro v19 w9 ⟨rfl,rfl⟩;refine ab (aJ (v:=.bool _) rfl rfl) (mvb rfl (zt (t:=21) rfl (fun Q10=>?_) (fun Q10=>?_)))
   ·(try simp only [bG,bN,and_true] at Q10)
    refine ae rfl (ab (aa bX rfl) (ae rfl (ab (aq an rfl (by exact (hk1.from_ (((ai.rfl_.next E5).next E12).next E18)).rd 1 rfl)) ?_)));refine ae rfl (ab (aa bY rfl) (ae rfl (ab (aq an rfl (by exact (hk1.from_ (((ai.rfl_.next E5).next E12).next E18)).rd 4 rfl)) ?_)));refine ae rfl (ab (aa eQ rfl) (ae rfl (ab (aq an rfl (by exact (hk1.from_ (((ai.rfl_.next E5).next E12).next E18)).rd 5 rfl)) ?_)));refine ae rfl (lP [.tmp 25,.tmp 27] [.int _ _,.int _ _] ct rfl rfl rfl rfl (by simp [Value.cells]) ?_);intro b28 w11 E28 hb28 hk28;refine ae rfl (aB dK (eL 0 s.nodes (some ⟨b28,0,none⟩) 2 [s.vote,s.leader] _ (f_ hk28) (by simp)) ?_);rintro v29 w12 ⟨rfl,rfl⟩;refine ab (aJ (v:=.bool _) rfl rfl) (mvb rfl (zt (t:=31) rfl (fun Q13=>?_) (fun Q13=>?_)))
    ·(try simp only [bG,bN,and_true] at Q13)
     refine ae rfl (ab (aa bt rfl) (ae rfl (ab (aq an rfl (by exact (hk1.from_ ((((ai.rfl_.next E5).next E12).next E18).next E28)).rd 3 rfl)) ?_)));refine ae rfl (ab (aa c_ rfl) (ae rfl (ab (aq an rfl (by exact (hk1.from_ ((((ai.rfl_.next E5).next E12).next E18).next E28)).rd 11 rfl)) ?_)));refine ae rfl (ab (aa eY rfl) (ae rfl (ab (aq an rfl (by exact (hk1.from_ ((((ai.rfl_.next E5).next E12).next E18).next E28)).rd 12 rfl)) ?_)));refine ae rfl (ab (aa dA rfl) (ae rfl (ab (aq an rfl (by exact (hk1.from_ ((((ai.rfl_.next E5).next E12).next E18).next E28)).rd 18 rfl)) ?_)));refine ae rfl (lP [.tmp 33,.tmp 35,.tmp 37,.tmp 39] [.int _ _,.int _ _,.int _ _,.int _ _] ct rfl rfl rfl rfl (by simp [Value.cells]) ?_);intro b40 w14 E40 hb40 hk40;refine ae rfl (aB dK (eL 0 1099511627775 (some ⟨b40,0,none⟩) 4 [s.term,s.elapsed,s.timeout,s.round] _ (f_ hk40) (by simp)) ?_);rintro v41 w15 ⟨rfl,rfl⟩;refine ab (aJ (v:=.bool _) rfl rfl) (asb rfl (aj (af (aC (bo (v:=.bool _) rfl rfl (⟨congrArg Value.bool ?_,((((((ai.rfl_.next E1).next E5).next E12).next E18).next E28).next E40)⟩))))))
     (try simp only [bG,bN,and_true])
     first
      |(rw [eq_comm,decide_eq_false_iff_not];unfold iL;omega)
      |(rw [decide_eq_decide];unfold iL;omega)
      |(rw [eq_comm,decide_eq_true_eq];unfold iL;omega)
    (try simp only [bG,bN,and_true] at Q13)
    refine ao rfl rfl (ao rfl rfl (ao rfl rfl (ao rfl rfl (ao rfl rfl (ao rfl rfl (ao rfl rfl (ao rfl rfl (ao rfl rfl ?_))))))));refine ao rfl rfl (ab (aw (v:=.bool _) rfl rfl) (asb rfl (aj (af (aC (bo (v:=.bool _) rfl rfl (⟨congrArg Value.bool ?_,(((((ai.rfl_.next E1).next E5).next E12).next E18).next E28)⟩)))))))
    (try simp only [bG,bN,and_true])
    first
     |(rw [eq_comm,decide_eq_false_iff_not];unfold iL;omega)
     |(rw [decide_eq_decide];unfold iL;omega)
     |(rw [eq_comm,decide_eq_true_eq];unfold iL;omega)
   (try simp only [bG,bN,and_true] at Q10)
   refine ao rfl rfl (ao rfl rfl (ao rfl rfl (ao rfl rfl (ao rfl rfl (ao rfl rfl (ao rfl rfl (ao rfl rfl (ab (aw (v:=.bool _) rfl rfl) ?_))))))));refine mvb rfl (ao rfl rfl (ao rfl rfl (ao rfl rfl (ao rfl rfl (ao rfl rfl (ao rfl rfl (ao rfl rfl (ao rfl rfl ?_))))))));refine ao rfl rfl (ao rfl rfl (ab (aw (v:=.bool _) rfl rfl) (asb rfl (aj (af (aC (bo (v:=.bool _) rfl rfl (⟨congrArg Value.bool ?_,((((ai.rfl_.next E1).next E5).next E12).next E18)⟩))))))))
   (try simp only [bG,bN,and_true])
   first
    |(rw [eq_comm,decide_eq_false_iff_not];unfold iL;omega)
    |(rw [decide_eq_decide];unfold iL;omega)
    |(rw [eq_comm,decide_eq_true_eq];unfold iL;omega)
  (try simp only [bG,bN,and_true] at Q7)
  refine ao rfl rfl (ao rfl rfl (ao rfl rfl (ao rfl rfl (ab (aw (v:=.bool _) rfl rfl) (mvb rfl (ao rfl rfl (ao rfl rfl (ao rfl rfl ?_))))))));refine ao rfl rfl (ao rfl rfl (ao rfl rfl (ao rfl rfl (ao rfl rfl (ab (aw (v:=.bool _) rfl rfl) (mvb rfl (ao rfl rfl (ao rfl rfl ?_))))))));refine ao rfl rfl (ao rfl rfl (ao rfl rfl (ao rfl rfl (ao rfl rfl (ao rfl rfl (ao rfl rfl (ao rfl rfl (ab (aw (v:=.bool _) rfl rfl) ?_))))))));refine asb rfl (aj (af (aC (bo (v:=.bool _) rfl rfl (⟨congrArg Value.bool ?_,(((ai.rfl_.next E1).next E5).next E12)⟩)))))
  (try simp only [bG,bN,and_true])
  first
   |(rw [eq_comm,decide_eq_false_iff_not];unfold iL;omega)
   |(rw [decide_eq_decide];unfold iL;omega)
   |(rw [eq_comm,decide_eq_true_eq];unfold iL;omega)
 (try simp only [bG,bN,and_true] at Q4)
 refine ao rfl rfl (ao rfl rfl (ao rfl rfl (ao rfl rfl (ao rfl rfl (ao rfl rfl (ab (aw (v:=.bool _) rfl rfl) (mvb rfl (ao rfl rfl ?_))))))));refine ao rfl rfl (ao rfl rfl (ao rfl rfl (ab (aw (v:=.bool _) rfl rfl) (mvb rfl (ao rfl rfl (ao rfl rfl (ao rfl rfl (ao rfl rfl ?_))))))));refine ao rfl rfl (ao rfl rfl (ao rfl rfl (ao rfl rfl (ab (aw (v:=.bool _) rfl rfl) (mvb rfl (ao rfl rfl (ao rfl rfl (ao rfl rfl ?_))))))));refine ao rfl rfl (ao rfl rfl (ao rfl rfl (ao rfl rfl (ao rfl rfl (ao rfl rfl (ao rfl rfl (ab (aw (v:=.bool _) rfl rfl) (asb rfl ?_))))))));refine aj (af (aC (bo (v:=.bool _) rfl rfl (⟨congrArg Value.bool ?_,((ai.rfl_.next E1).next E5)⟩))))
 (try simp only [bG,bN,and_true])
 first
  |(rw [eq_comm,decide_eq_false_iff_not];unfold iL;omega)
  |(rw [decide_eq_decide];unfold iL;omega)
  |(rw [eq_comm,decide_eq_true_eq];unfold iL;omega)
theorem nD {s:Rf} {a:Ra} {w:World} {b T:Nat} (hb:Blk w b T (rfV s a).toArray):w.rangeAt b 6 [.int .i64 s.b,.int .i64 s.t,.slice a.E s.es.length a.Ec]:=hb.range 6 _ (fun j v hj=>by
 match j,hj with
 |0,hj=>exact hj
 |1,hj=>exact hj
 |2,hj=>exact hj
 |j+3,hj=>simp at hj)
theorem qR (s:Rf) (a:Ra) (w:World) (he:cF w (.slice a.E s.es.length a.Ec) s.es) :
 Rt prog 132 [.agg (rfV s a).toArray] w (fun v w'=>v=.bool (decide (gz s))∧ai w w'):=by
 refine enter (n:=48) Tryz.func132 rfl rfl rfl (ak (ag (bZ (v:=.agg _) rfl ?_)));intro b1 w1 E1 hb1 hk1;refine asb rfl (aj (af (ak (ag (ab (aa bq rfl) (ab (aG (cs:=[.int .i64 s.b,.int .i64 s.t,.slice a.E s.es.length a.Ec]) bB bd rfl (nD (hk1.from_ ai.rfl_))) (aB mb (zP s a.E s.es.length a.Ec _ (he.from_ (ai.rfl_.next E1))) ?_)))))));rintro v9 w2 ⟨⟨X,Y,Z,rfl,hXYZ⟩,E9⟩;refine mvt rfl (ab (aY rfl rfl) (ab (aY rfl rfl) (ab (aY rfl rfl) (asi rfl (asi rfl (asi rfl (aj (af (ak (ag (mvi rfl ?_)))))))))));refine ab (bj rfl rfl) (mvb rfl (zr (t:=15) rfl (fun Q3=>?_) (fun Q3=>?_)))
 ·refine ae rfl (mvi rfl (ae rfl (ab (aa bt rfl) (ae rfl (ab (aq an rfl (by exact (hk1.from_ (ai.rfl_.next E9)).rd 3 rfl)) ?_)))));refine ae rfl (ab (gu rfl rfl) (ab (aJ (v:=.bool _) rfl rfl) (mvb rfl (zt (t:=21) rfl (fun Q4=>?_) (fun Q4=>?_)))))
  ·(try simp only [bG,bN,and_true] at Q4)
   refine ae rfl (ab (aa bq rfl) (ae rfl (ab (aa dH rfl) (ae rfl (ab (aq an rfl (by exact (hk1.from_ (ai.rfl_.next E9)).rd 6 rfl)) ?_)))));refine ae rfl (mvi rfl (ae rfl (ab (aa dr rfl) (ae rfl (ab (aq an rfl (by exact (hk1.from_ (ai.rfl_.next E9)).rd 10 rfl)) ?_)))));refine ae rfl (fb (v:=.int _ _) ct rfl rfl rfl ?_);intro b28 w5 E28 hb28 hk28;refine ae rfl (aB dK (eL s.b X (some ⟨b28,0,none⟩) 1 [s.commit] _ (f_ hk28) (by simp)) ?_);rintro v29 w6 ⟨rfl,rfl⟩;refine ab (aJ (v:=.bool _) rfl rfl) (mvb rfl (zt (t:=31) rfl (fun Q7=>?_) (fun Q7=>?_)))
   ·(try simp only [bG,bN,and_true] at Q7)
    refine ae rfl (ab (aa dF rfl) (ae rfl (ab (aq cK rfl (by exact (hk1.from_ ((ai.rfl_.next E9).next E28)).rd 9 rfl)) ?_)));refine ae rfl (ab (eG (by kernel_rfl) rfl) (ae rfl (ab (gu rfl rfl) (ab (aJ (v:=.bool _) rfl rfl) (mvb rfl (zt (t:=37) rfl (fun Q8=>?_) (fun Q8=>?_)))))))
    ·refine ae rfl (ab (aa bq rfl) (ae rfl (ab (aa dH rfl) (ae rfl (ab (aq an rfl (by exact (hk1.from_ ((ai.rfl_.next E9).next E28)).rd 6 rfl)) ?_)))));refine ae rfl (ab (bS rfl rfl) (ae rfl (mvb rfl (zt (t:=42) rfl (fun Q9=>?_) (fun Q9=>?_)))))
     ·refine ao rfl rfl (ao rfl rfl (ao rfl rfl (ae rfl (ab (aJ (v:=.bool _) rfl rfl) (ab (aJ (v:=.bool _) rfl rfl) (asb rfl (aj (af (aC (bo (v:=.bool _) rfl rfl ?_))))))))));refine ⟨congrArg Value.bool ?_,(((ai.rfl_.next E1).next E9).next E28)⟩
      (try simp only [bG,bN,and_true])
      rcases hXYZ with ⟨hm,hz,hx,hy⟩ | ⟨hm,hz⟩
      ·first
        |(rw [eq_comm,decide_eq_false_iff_not];unfold gz;simp only [hm,true_and];omega)
        |(rw [decide_eq_decide];unfold gz;simp only [hm,true_and];omega)
        |(rw [eq_comm,decide_eq_true_eq];unfold gz;simp only [hm,true_and];omega)
      ·first
        |(exfalso;omega)
        |(rw [eq_comm,decide_eq_false_iff_not];unfold gz;rw [hm];exact fun h=>Bool.noConfusion h.1)
     refine ae rfl (ab (aa dF rfl) (ae rfl (ab (aq cK rfl (by exact (hk1.from_ ((ai.rfl_.next E9).next E28)).rd 9 rfl)) ?_)));refine ae rfl (ab (iD (k7 rfl rfl) (congrArg Value.bool (yo s.snap))) (ae rfl (ab (aw (v:=.bool _) rfl rfl) (ab (aJ (v:=.bool _) rfl rfl) (asb rfl (aj (af (aC (bo (v:=.bool _) rfl rfl (⟨congrArg Value.bool ?_,(((ai.rfl_.next E1).next E9).next E28)⟩))))))))))
     (try simp only [bG,bN,and_true])
     rcases hXYZ with ⟨hm,hz,hx,hy⟩ | ⟨hm,hz⟩
     ·first
       |(rw [eq_comm,decide_eq_false_iff_not];unfold gz;simp only [hm,true_and];omega)
       |(rw [decide_eq_decide];unfold gz;simp only [hm,true_and];omega)
       |(rw [eq_comm,decide_eq_true_eq];unfold gz;simp only [hm,true_and];omega)
     ·first
       |(exfalso;omega)
       |(rw [eq_comm,decide_eq_false_iff_not];unfold gz;rw [hm];exact fun h=>Bool.noConfusion h.1)
    refine ao rfl rfl (ao rfl rfl (ao rfl rfl (ao rfl rfl (ao rfl rfl (dz rfl (dz rfl (dz rfl (ao rfl rfl ?_))))))));refine ab (aw (v:=.bool _) rfl rfl) (asb rfl (aj (af (aC (bo (v:=.bool _) rfl rfl (⟨congrArg Value.bool ?_,(((ai.rfl_.next E1).next E9).next E28)⟩))))))
    (try simp only [bG,bN,and_true])
    rcases hXYZ with ⟨hm,hz,hx,hy⟩ | ⟨hm,hz⟩
    ·first
      |(rw [eq_comm,decide_eq_false_iff_not];unfold gz;simp only [hm,true_and];omega)
      |(rw [decide_eq_decide];unfold gz;simp only [hm,true_and];omega)
      |(rw [eq_comm,decide_eq_true_eq];unfold gz;simp only [hm,true_and];omega)
    ·first
      |(exfalso;omega)
      |(rw [eq_comm,decide_eq_false_iff_not];unfold gz;rw [hm];exact fun h=>Bool.noConfusion h.1)
   (try simp only [bG,bN,and_true] at Q7)
   refine ao rfl rfl (ao rfl rfl (ao rfl rfl (ao rfl rfl (ab (aw (v:=.bool _) rfl rfl) (mvb rfl (ao rfl rfl (ao rfl rfl (ao rfl rfl ?_))))))));refine ao rfl rfl (ao rfl rfl (dz rfl (dz rfl (dz rfl (ao rfl rfl (ab (aw (v:=.bool _) rfl rfl) (asb rfl (aj (af (aC ?_))))))))));refine bo (v:=.bool _) rfl rfl (⟨congrArg Value.bool ?_,(((ai.rfl_.next E1).next E9).next E28)⟩)
   (try simp only [bG,bN,and_true])
   rcases hXYZ with ⟨hm,hz,hx,hy⟩ | ⟨hm,hz⟩
   ·first
     |(rw [eq_comm,decide_eq_false_iff_not];unfold gz;simp only [hm,true_and];omega)
     |(rw [decide_eq_decide];unfold gz;simp only [hm,true_and];omega)
     |(rw [eq_comm,decide_eq_true_eq];unfold gz;simp only [hm,true_and];omega)
   ·first
     |(exfalso;omega)
     |(rw [eq_comm,decide_eq_false_iff_not];unfold gz;rw [hm];exact fun h=>Bool.noConfusion h.1)
  (try simp only [bG,bN,and_true] at Q4)
  refine ao rfl rfl (ao rfl rfl (ao rfl rfl (ao rfl rfl (ao rfl rfl (ao rfl rfl (ao rfl rfl (ao rfl rfl (ab (aw (v:=.bool _) rfl rfl) ?_))))))));refine mvb rfl (ao rfl rfl (ao rfl rfl (ao rfl rfl (ao rfl rfl (ab (aw (v:=.bool _) rfl rfl) (mvb rfl (ao rfl rfl (ao rfl rfl ?_))))))));refine ao rfl rfl (ao rfl rfl (ao rfl rfl (dz rfl (dz rfl (dz rfl (ao rfl rfl (ab (aw (v:=.bool _) rfl rfl) (asb rfl ?_))))))));refine aj (af (aC (bo (v:=.bool _) rfl rfl (⟨congrArg Value.bool ?_,((ai.rfl_.next E1).next E9)⟩))))
  (try simp only [bG,bN,and_true])
  rcases hXYZ with ⟨hm,hz,hx,hy⟩ | ⟨hm,hz⟩
  ·first
    |(rw [eq_comm,decide_eq_false_iff_not];unfold gz;simp only [hm,true_and];omega)
    |(rw [decide_eq_decide];unfold gz;simp only [hm,true_and];omega)
    |(rw [eq_comm,decide_eq_true_eq];unfold gz;simp only [hm,true_and];omega)
  ·first
    |(exfalso;omega)
    |(rw [eq_comm,decide_eq_false_iff_not];unfold gz;rw [hm];exact fun h=>Bool.noConfusion h.1)
 refine ao rfl rfl (ao rfl rfl (ao rfl rfl (ao rfl rfl (ab (aw (v:=.bool _) rfl rfl) (mvb rfl (ao rfl rfl (ao rfl rfl (ao rfl rfl ?_))))))));refine ao rfl rfl (ao rfl rfl (ao rfl rfl (ao rfl rfl (ao rfl rfl (ab (aw (v:=.bool _) rfl rfl) (mvb rfl (ao rfl rfl (ao rfl rfl ?_))))))));refine ao rfl rfl (ao rfl rfl (ab (aw (v:=.bool _) rfl rfl) (mvb rfl (ao rfl rfl (ao rfl rfl (ao rfl rfl (ao rfl rfl (ao rfl rfl ?_))))))));refine dz rfl (dz rfl (dz rfl (ao rfl rfl (ab (aw (v:=.bool _) rfl rfl) (asb rfl (aj (af (aC (bo (v:=.bool _) rfl rfl (⟨congrArg Value.bool ?_,((ai.rfl_.next E1).next E9)⟩))))))))))
 (try simp only [bG,bN,and_true])
 rcases hXYZ with ⟨hm,hz,hx,hy⟩ | ⟨hm,hz⟩
 ·first
   |(rw [eq_comm,decide_eq_false_iff_not];unfold gz;simp only [hm,true_and];omega)
   |(rw [decide_eq_decide];unfold gz;simp only [hm,true_and];omega)
   |(rw [eq_comm,decide_eq_true_eq];unfold gz;simp only [hm,true_and];omega)
 ·first
   |(exfalso;omega)
   |(rw [eq_comm,decide_eq_false_iff_not];unfold gz;rw [hm];exact fun h=>Bool.noConfusion h.1)
theorem p7 (s:Rf) (a:Ra) (w:World) :
 Rt prog 135 [.agg (rfV s a).toArray] w (fun v w'=>v=.bool (decide (gU s))∧ai w w'):=by
 refine enter (n:=23) Tryz.func135 rfl rfl rfl (ak (ag (bZ (v:=.agg _) rfl ?_)));intro b1 w1 E1 hb1 hk1;refine asb rfl (aj (af (ak (ag (ab (aa dS rfl) (ab (aq cK rfl (by exact (hk1.from_ ai.rfl_).rd 20 rfl)) ?_))))));refine ab (eG (by kernel_rfl) rfl) (ab (gu rfl rfl) (mvb rfl (zt (t:=7) rfl (fun Q2=>?_) (fun Q2=>?_))))
 ·refine ae rfl (ab (aa dJ rfl) (ae rfl (ab (aq an rfl (by exact (hk1.from_ ai.rfl_).rd 21 rfl)) ?_)));refine ae rfl (fb (v:=.int _ _) ct rfl rfl rfl ?_);intro b10 w3 E10 hb10 hk10;refine ae rfl (aB dK (eL 0 1099511625728 (some ⟨b10,0,none⟩) 1 [s.partOf] _ (f_ hk10) (by simp)) ?_);rintro v11 w4 ⟨rfl,rfl⟩;refine ab (aJ (v:=.bool _) rfl rfl) (mvb rfl (zt (t:=13) rfl (fun Q5=>?_) (fun Q5=>?_)))
  ·(try simp only [bG,bN,and_true] at Q5)
   refine ae rfl (ab (aa dJ rfl) (ae rfl (ab (aq an rfl (by exact (hk1.from_ (ai.rfl_.next E10)).rd 21 rfl)) ?_)));refine ae rfl (ab (bS rfl rfl) (ae rfl (mvb rfl (zt (t:=17) rfl (fun Q6=>?_) (fun Q6=>?_)))))
   ·refine ao rfl rfl (ao rfl rfl (ao rfl rfl (ae rfl (ab (aJ (v:=.bool _) rfl rfl) (ab (aJ (v:=.bool _) rfl rfl) (asb rfl (aj (af (aC (bo (v:=.bool _) rfl rfl ?_))))))))));refine ⟨congrArg Value.bool ?_,((ai.rfl_.next E1).next E10)⟩
    (try simp only [bG,bN,and_true])
    first
     |(rw [eq_comm,decide_eq_false_iff_not];unfold gU;omega)
     |(rw [decide_eq_decide];unfold gU;omega)
     |(rw [eq_comm,decide_eq_true_eq];unfold gU;omega)
   refine ae rfl (ab (aa dS rfl) (ae rfl (ab (aq cK rfl (by exact (hk1.from_ (ai.rfl_.next E10)).rd 20 rfl)) ?_)));refine ae rfl (ab (iD (k7 rfl rfl) (congrArg Value.bool (yo s.part))) (ae rfl (ab (aw (v:=.bool _) rfl rfl) (ab (aJ (v:=.bool _) rfl rfl) (asb rfl (aj (af (aC (bo (v:=.bool _) rfl rfl (⟨congrArg Value.bool ?_,((ai.rfl_.next E1).next E10)⟩))))))))))
   (try simp only [bG,bN,and_true])
   first
    |(rw [eq_comm,decide_eq_false_iff_not];unfold gU;omega)
    |(rw [decide_eq_decide];unfold gU;omega)
    |(rw [eq_comm,decide_eq_true_eq];unfold gU;omega)
  (try simp only [bG,bN,and_true] at Q5)
  refine ao rfl rfl (ao rfl rfl (ao rfl rfl (ao rfl rfl (dz rfl (dz rfl (dz rfl (ao rfl rfl (ab (aw (v:=.bool _) rfl rfl) ?_))))))));refine asb rfl (aj (af (aC (bo (v:=.bool _) rfl rfl (⟨congrArg Value.bool ?_,((ai.rfl_.next E1).next E10)⟩)))))
  (try simp only [bG,bN,and_true])
  first
   |(rw [eq_comm,decide_eq_false_iff_not];unfold gU;omega)
   |(rw [decide_eq_decide];unfold gU;omega)
   |(rw [eq_comm,decide_eq_true_eq];unfold gU;omega)
 refine ao rfl rfl (ao rfl rfl (ao rfl rfl (ao rfl rfl (ab (aw (v:=.bool _) rfl rfl) (mvb rfl (ao rfl rfl (ao rfl rfl (ao rfl rfl ?_))))))));refine ao rfl rfl (dz rfl (dz rfl (dz rfl (ao rfl rfl (ab (aw (v:=.bool _) rfl rfl) (asb rfl (aj (af (aC (bo (v:=.bool _) rfl rfl ?_))))))))));refine ⟨congrArg Value.bool ?_,(ai.rfl_.next E1)⟩
 (try simp only [bG,bN,and_true])
 first
  |(rw [eq_comm,decide_eq_false_iff_not];unfold gU;omega)
  |(rw [decide_eq_decide];unfold gU;omega)
  |(rw [eq_comm,decide_eq_true_eq];unfold gU;omega)
theorem pB (A:Option Addr) (c:Nat) (l:List Int) (n:Int) (w:World) (hr:eu iV w A l) (hl:l.length≤1000000) :
 Rt prog 133 [.slice A l.length c,.int .i64 n] w (fun v w'=>v=.bool (fE l n)∧ai w w'):=by
 refine enter (n:=33) Tryz.func133 rfl rfl rfl (ak (ag (asb rfl (aj (af (ak (ak (ag (mvs rfl (ab (bW cB rfl) (mvi rfl (aj (af (bg (dd (G:=Nat) [4,5,6,10,11,12,13,14,15,16,17,18,19,20,21,22,23,24,25,26,27,28,29,30,31,32] (fun k=>[(9,.int .i64 (k:Nat))]) (fun k w'=>k≤l.length∧(∀ j (h:j<l.length),j<k→1≤l[j]∧l[j]≤n)∧(∀ j (h:j+1<l.length),j+1<k→l[j]<l[j+1])∧ai w w') (fun k=>l.length-k) (0) ⟨rfl,trivial⟩ ?_ ?_)))))))))))))))
 ·exact ⟨Nat.zero_le _,fun j _ h=>absurd h (by omega),fun j _ h=>absurd h (by omega),ai.rfl_⟩
 rintro k ρ1 w1 ⟨hk,h1,h2,hB⟩;refine ak (ag (ab (b_ rfl rfl) (aj (af (ak (Ab rfl (fun Q2=>?_) (fun Q2=>?_)))))))
 ·have hkx:k<l.length:=by omega
  obtain ⟨ba,oa,rfl,hca⟩:=hr (by omega);refine aM (af (ak (bg (ak (ag (mvi rfl (ab (dh db rfl rfl (by omega)) (ab (aq an rfl (by exact fq hB (hca k hkx))) ?_))))))));refine asi rfl (asi rfl (aj (af (ak (ag (mvi rfl (mvi rfl (fb (v:=.int _ _) ct rfl rfl rfl ?_))))))));intro b16 w3 E16 hb16 hk16;refine aB dK (eL 1 n (some ⟨b16,0,none⟩) 1 [l[k]] _ (f_ hk16) (by simp)) ?_;rintro v17 w4 ⟨rfl,rfl⟩;refine ab (cl rfl) (mvb rfl (aF (t:=19) rfl (fun Q5=>?_) (fun Q5=>?_)))
  ·replace Q5:=dw Q5;replace Q5:=dF_ Q5
   (try simp only [bG,bN,and_true] at Q5)
   refine bc rfl (aj (af (aL rfl (ak (ag (asb rfl (aj (af (aC (aZ (az (az (aZ (az (bo (v:=.bool _) rfl rfl (⟨congrArg Value.bool ?_,(hB.next E16)⟩))))))))))))))));rw [eq_comm,←Bool.not_eq_true,gV];rintro ⟨h3,h4⟩;have h5:=h3 _ (List.getElem_mem hkx)
   first
    |omega
    |(obtain ⟨j,rfl⟩:∃ j,k=j+1:=⟨k-1,by omega⟩
      have h6:=h4 j hkx
      (try simp only [Nat.add_sub_cancel] at*)
      omega)
  replace Q5:=dy Q5;replace Q5:=dT_ Q5
  (try simp only [bG,bN,and_true] at Q5)
  refine ae rfl (mvi rfl (ae rfl (ab (bS rfl rfl) (ae rfl (mvb rfl (zt (t:=22) rfl (fun Q6=>?_) (fun Q6=>?_)))))))
  ·refine ae rfl (mvs rfl (ae rfl (mvi rfl (ae rfl (ab (eA rfl rfl (by omega)) (dm (t:=25) (v:=.int _ _) (v':=.int .i64 ((k-1:Nat):Int)) rfl (by exact bT (by omega)) ?_))))));refine ae rfl (ab (dh db rfl rfl (by omega)) (ae rfl (ab (aq an rfl (by exact fq (hB.next E16) (hca (k-1) (by omega)))) ?_)));refine ae rfl (mvi rfl (ae rfl (ab (j7 rfl rfl) (ae rfl (ab (aJ (v:=.bool _) rfl rfl) (ab (aw (v:=.bool _) rfl rfl) (aj (af (Ab rfl (fun Q7=>?_) (fun Q7=>?_))))))))))
   ·refine ak (ag (asb rfl (aj (af (aC (aZ (az (az (aZ (az (bo (v:=.bool _) rfl rfl (⟨congrArg Value.bool ?_,(hB.next E16)⟩))))))))))));rw [eq_comm,←Bool.not_eq_true,gV];rintro ⟨h3,h4⟩;have h5:=h3 _ (List.getElem_mem hkx)
    first
     |omega
     |(obtain ⟨j,rfl⟩:∃ j,k=j+1:=⟨k-1,by omega⟩
       have h6:=h4 j hkx
       (try simp only [Nat.add_sub_cancel] at*)
       omega)
   refine aM (bE (af (ag (ab (dI (b:=1) rfl rfl (by omega)) (mvi rfl (aj ?_))))));refine cu (k+1) ⟨(by first | rfl | (refine bT ?_;omega)),trivial⟩ (by (iterate 56 refine bI rfl ?_);exact bU) ⟨?_,?_⟩
   ·refine ⟨by omega,fun j h hj=>?_,fun j h hj=>?_,(hB.next E16)⟩
    ·rcases Nat.lt_or_ge j k with e | e
     ·exact h1 j h e
     ·obtain rfl:j=k:=by omega
      omega
    ·rcases Nat.lt_or_ge (j+1) k with e | e
     ·exact h2 j h e
     ·obtain rfl:k=j+1:=by omega
      (try simp only [Nat.add_sub_cancel] at*)
      omega
   ·omega
  refine ao rfl rfl (ao rfl rfl (ao rfl rfl (ao rfl rfl (ao rfl rfl (ao rfl rfl (ao rfl rfl (ae rfl (ab (aw (v:=.bool _) rfl rfl) ?_))))))));refine ab (aw (v:=.bool _) rfl rfl) (aj (af (br rfl (aM (bE (af (ag (ab (dI (b:=1) rfl rfl (by omega)) (mvi rfl (aj ?_))))))))));refine cu (k+1) ⟨(by first | rfl | (refine bT ?_;omega)),trivial⟩ (by (iterate 55 refine bI rfl ?_);exact bU) ⟨?_,?_⟩
  ·refine ⟨by omega,fun j h hj=>?_,fun j h hj=>?_,(hB.next E16)⟩
   ·rcases Nat.lt_or_ge j k with e | e
    ·exact h1 j h e
    ·obtain rfl:j=k:=by omega
     omega
   ·rcases Nat.lt_or_ge (j+1) k with e | e
    ·exact h2 j h e
    ·obtain rfl:k=j+1:=by omega
     (try simp only [Nat.add_sub_cancel] at*)
     omega
  ·omega
 refine cI (bD (bD (cr (af (ak (ag (asb rfl (aj (af (aC (bo (v:=.bool _) rfl rfl (⟨congrArg Value.bool ?_,hB⟩))))))))))));obtain rfl:k=l.length:=by omega
 rw [eq_comm,gV];exact ⟨fun x hx=>by obtain ⟨j,hj,rfl⟩:=List.getElem_of_mem hx;exact h1 j hj hj,fun j hj=>h2 j hj hj⟩
theorem bm {s:Rf} (h:s.role=2):lA s↔((s.next.length:Int)=s.nodes∧(s.mtch.length:Int)=s.nodes∧(s.sent.length:Int)=s.nodes∧s.reads.length≤32)∧(de 1 (bH s+1) s.next∧de 0 (bH s) s.mtch∧de 0 s.snap.size s.sent)∧(∀ q∈s.reads,fQ s q=true):=by unfold lA;rw [if_pos h]
theorem bP {s:Rf} (h:s.role≠2):lA s↔s.next.length+s.mtch.length+s.sent.length+s.reads.length=0:=by unfold lA;rw [if_neg h]
theorem cz {s:Rf} {q:Rd}:fQ s q=true↔(1≤q.id∧q.id≤1099511627776)∧(0≤q.ix∧q.ix≤s.commit)∧(0≤q.rn∧q.rn≤s.round)∧fE q.acks s.nodes=true:=by
 unfold fQ inb;simp only [Bool.and_eq_true,decide_eq_true_eq];constructor
 ·rintro ⟨⟨⟨h1,h2⟩,h3⟩,h4⟩;exact ⟨h1,h2,h3,h4⟩
 ·rintro ⟨h1,h2,h3,h4⟩;exact ⟨⟨⟨h1,h2⟩,h3⟩,h4⟩
theorem oY (s:Rf) (a:Ra) (w:World) (hrd:eX w s a) (hN:iL s) (hL:gz s) (hl:s.next.length≤1000000∧s.mtch.length≤1000000∧s.sent.length≤1000000∧s.reads.length≤1000000∧∀ q∈s.reads,q.acks.length≤1000000) :
 Rt prog 134 [.agg (rfV s a).toArray] w (fun v w'=>v=.bool (decide (lA s))∧ai w w'):=by
 obtain ⟨E,Ec,V,Vc,X,Xc,M,Mc,Sn,Sc,Q,Qc,LL⟩:=a;have hrL:LL.map (fun q=>q.1)=s.reads:=hrd.r;have hrk:∀ q∈LL,IR w q.2.1 q.2.2 q.1.acks:=hrd.k;obtain ⟨hl1,hl2,hl3,hl4,hl5⟩:=hl;have hbl:=fT hL.1;have hlr:bH s=s.b+s.es.length:=hbl.1;have hrl:LL.length=s.reads.length:=by rw [←hrL,List.length_map]
 have hN0:=hN.1;refine enter (n:=122) Tryz.func134 rfl rfl rfl (ak (ag (bZ (v:=.agg _) rfl ?_)));intro b1 w1 E1 hb1 hk1;refine asb rfl (aj (af (ak (ak (ag (ab (aa du rfl) (ab (aq an rfl (by exact (hk1.from_ ai.rfl_).rd 2 rfl)) ?_)))))));refine ab (dG rfl rfl) (aj (af (zZ rfl (fun Q2=>?_) (fun Q2=>?_))))
 ·refine ak (ag (ab (aa cL rfl) (ab (aq bn rfl (by exact (show _=some (Value.slice X s.next.length Xc) from (hk1.from_ ai.rfl_).rd 15 rfl))) ?_)));refine ab (bW cB rfl) (ab (aa cO rfl) (ab (aq bn rfl (by exact (show _=some (Value.slice M s.mtch.length Mc) from (hk1.from_ ai.rfl_).rd 16 rfl))) ?_));refine ab (bW cB rfl) (ab (dI rfl rfl (by omega)) (ab (aa cT rfl) (ab (aq bn rfl (by exact (show _=some (Value.slice Sn s.sent.length Sc) from (hk1.from_ ai.rfl_).rd 17 rfl))) ?_)));refine ab (bW cB rfl) (ab (dI rfl rfl (by omega)) (ab (aa bL rfl) (ab (aq dc rfl (by exact (show _=some (Value.slice Q LL.length Qc) from (hk1.from_ ai.rfl_).rd 19 rfl))) ?_)));refine ab (bW dR rfl) (ab (dI rfl rfl (by omega)) (ab (bj rfl rfl) (asb rfl (aj (af (aC (az (bo (v:=.bool _) rfl rfl (⟨congrArg Value.bool ?_,(ai.rfl_.next E1)⟩)))))))));rw [Bool.eq_iff_iff,decide_eq_true_eq,bP (by omega),beq_iff_eq];omega
 refine aM (af (ak (ag (ab (aa bq rfl) (ab (aa dH rfl) (ab (aq an rfl (by exact (hk1.from_ ai.rfl_).rd 6 rfl)) ?_))))));refine ab (aa bq rfl) (ab (aa ec rfl) (ab (aq cY rfl (by exact (hk1.from_ ai.rfl_).rd 8 rfl)) ?_));refine ab (bW cC rfl) (ab (cq rfl rfl (by omega)) (dm (t:=32) (v:=.int _ _) (v':=.int .i64 (bH s)) rfl (by exact bT hlr.symm) ?_));refine asi rfl (aj (af (ak (ak (ag (ab (aa cL rfl) (ab (aq bn rfl (by exact (show _=some (Value.slice X s.next.length Xc) from (hk1.from_ ai.rfl_).rd 15 rfl))) ?_)))))));refine ab (bW cB rfl) (ab (aa bX rfl) (ab (aq an rfl (by exact (hk1.from_ ai.rfl_).rd 1 rfl)) ?_));refine ab (dG rfl rfl) (mvb rfl (zp (t:=39) rfl (fun Q3=>?_) (fun Q3=>?_)))
 ·refine bc rfl (aj (af (aL rfl (ak (ag (asb rfl (aj (af (aC (az (bo (v:=.bool _) rfl rfl (⟨congrArg Value.bool ?_,(ai.rfl_.next E1)⟩))))))))))));rw [eq_comm,decide_eq_false_iff_not];rw [bm (by omega)];rintro ⟨⟨g1,g2,g3,g4⟩,_⟩;omega
 refine ae rfl (ab (aa cO rfl) (ae rfl (ab (aq bn rfl (by exact (show _=some (Value.slice M s.mtch.length Mc) from (hk1.from_ ai.rfl_).rd 16 rfl))) ?_)));refine ae rfl (ab (bW cB rfl) (ae rfl (ab (aa bX rfl) (ae rfl (ab (aq an rfl (by exact (hk1.from_ ai.rfl_).rd 1 rfl)) ?_)))));refine ae rfl (ab (dG rfl rfl) (ab (aw (v:=.bool _) rfl rfl) (mvb rfl (zp (t:=47) rfl (fun Q4=>?_) (fun Q4=>?_)))))
 ·refine bc rfl (aj (af (aL rfl (ak (ag (asb rfl (aj (af (aC (az (bo (v:=.bool _) rfl rfl (⟨congrArg Value.bool ?_,(ai.rfl_.next E1)⟩))))))))))));rw [eq_comm,decide_eq_false_iff_not];rw [bm (by omega)];rintro ⟨⟨g1,g2,g3,g4⟩,_⟩;omega
 refine ae rfl (ab (aa cT rfl) (ae rfl (ab (aq bn rfl (by exact (show _=some (Value.slice Sn s.sent.length Sc) from (hk1.from_ ai.rfl_).rd 17 rfl))) ?_)));refine ae rfl (ab (bW cB rfl) (ae rfl (ab (aa bX rfl) (ae rfl (ab (aq an rfl (by exact (hk1.from_ ai.rfl_).rd 1 rfl)) ?_)))));refine ae rfl (ab (dG rfl rfl) (ab (aw (v:=.bool _) rfl rfl) (mvb rfl (zp (t:=55) rfl (fun Q5=>?_) (fun Q5=>?_)))))
 ·refine bc rfl (aj (af (aL rfl (ak (ag (asb rfl (aj (af (aC (az (bo (v:=.bool _) rfl rfl (⟨congrArg Value.bool ?_,(ai.rfl_.next E1)⟩))))))))))));rw [eq_comm,decide_eq_false_iff_not];rw [bm (by omega)];rintro ⟨⟨g1,g2,g3,g4⟩,_⟩;omega
 refine ae rfl (ab (aa bL rfl) (ae rfl (ab (aq dc rfl (by exact (show _=some (Value.slice Q LL.length Qc) from (hk1.from_ ai.rfl_).rd 19 rfl))) ?_)));refine ae rfl (ab (bW dR rfl) (ae rfl (ab (bS rfl rfl) (ab (aw (v:=.bool _) rfl rfl) (aj (af (Ab rfl (fun Q6=>?_) (fun Q6=>?_))))))))
 ·refine ak (ag (asb rfl (aj (af (aC (az (bo (v:=.bool _) rfl rfl (⟨congrArg Value.bool ?_,(ai.rfl_.next E1)⟩))))))));rw [eq_comm,decide_eq_false_iff_not];rw [bm (by omega)];rintro ⟨⟨g1,g2,g3,g4⟩,_⟩;omega
 refine aM (af (ak (ak (ag (mvi rfl (ab (cq rfl rfl (by omega)) (ab (aa cL rfl) (ab (aq bn rfl (by exact (show _=some (Value.slice X s.next.length Xc) from (hk1.from_ ai.rfl_).rd 15 rfl))) ?_))))))));refine aB dK (eL 1 (bH s+1) X Xc s.next _ (hrd.x.1.from_ (ai.rfl_.next E1)) hl1) ?_;rintro v65 w7 ⟨rfl,rfl⟩;refine ab (cl rfl) (mvb rfl (aF (t:=67) rfl (fun Q8=>?_) (fun Q8=>?_)))
 ·with_reducible (replace Q8:=dw Q8;replace Q8:=dF_ Q8)
  (try simp only [bG,bN,and_true] at Q8)
  refine bc rfl (aj (af (aL rfl (ak (ag (asb rfl (aj (af (aC (az (bo (v:=.bool _) rfl rfl (⟨congrArg Value.bool ?_,(ai.rfl_.next E1)⟩))))))))))));rw [eq_comm,decide_eq_false_iff_not];rw [bm (by omega)];rintro ⟨_,⟨g1,g2,g3⟩,_⟩
  simp_all
 with_reducible (replace Q8:=dy Q8;replace Q8:=dT_ Q8)
 (try simp only [bG,bN,and_true] at Q8)
 refine ae rfl (mvi rfl (ae rfl (ab (aa cO rfl) (ae rfl (ab (aq bn rfl (by exact (show _=some (Value.slice M s.mtch.length Mc) from (hk1.from_ ai.rfl_).rd 16 rfl))) ?_)))));refine ae rfl (aB dK (eL 0 (bH s) M Mc s.mtch _ (hrd.m.1.from_ (ai.rfl_.next E1)) hl2) ?_);rintro v71 w9 ⟨rfl,rfl⟩;refine ae rfl (ab (cl rfl) (ab (aw (v:=.bool _) rfl rfl) (mvb rfl (aF (t:=74) rfl (fun Q10=>?_) (fun Q10=>?_)))))
 ·with_reducible (replace Q10:=dw Q10;replace Q10:=dF_ Q10)
  (try simp only [bG,bN,and_true] at Q10)
  refine bc rfl (aj (af (aL rfl (ak (ag (asb rfl (aj (af (aC (az (bo (v:=.bool _) rfl rfl (⟨congrArg Value.bool ?_,(ai.rfl_.next E1)⟩))))))))))));rw [eq_comm,decide_eq_false_iff_not];rw [bm (by omega)];rintro ⟨_,⟨g1,g2,g3⟩,_⟩
  simp_all
 with_reducible (replace Q10:=dy Q10;replace Q10:=dT_ Q10)
 (try simp only [bG,bN,and_true] at Q10)
 refine ae rfl (ab (aa dF rfl) (ae rfl (ab (aq cK rfl (by exact (hk1.from_ ai.rfl_).rd 9 rfl)) ?_)));refine ae rfl (ab (eG (by kernel_rfl) rfl) (ae rfl (ab (aa cT rfl) (ae rfl (ab (aq bn rfl (by exact (show _=some (Value.slice Sn s.sent.length Sc) from (hk1.from_ ai.rfl_).rd 17 rfl))) ?_)))));refine ae rfl (aB dK (eL 0 (s.snap.size:Nat) Sn Sc s.sent _ (hrd.n.1.from_ (ai.rfl_.next E1)) hl3) ?_);rintro v80 w11 ⟨rfl,rfl⟩;refine ae rfl (ab (cl rfl) (ab (aw (v:=.bool _) rfl rfl) (aj (af (aU rfl (fun Q12=>?_) (fun Q12=>?_))))))
 ·with_reducible (replace Q12:=dw Q12;replace Q12:=dF_ Q12)
  refine ak (ag (asb rfl (aj (af (aC (az (bo (v:=.bool _) rfl rfl (⟨congrArg Value.bool ?_,(ai.rfl_.next E1)⟩))))))));rw [eq_comm,decide_eq_false_iff_not];rw [bm (by omega)];rintro ⟨_,⟨g1,g2,g3⟩,_⟩
  simp_all
 with_reducible (replace Q12:=dy Q12;replace Q12:=dT_ Q12)
 refine aM (af (ak (ak (ag (ab (aa bL rfl) (ab (aq dc rfl (by exact (show _=some (Value.slice Q LL.length Qc) from (hk1.from_ ai.rfl_).rd 19 rfl))) ?_))))));refine ab (bW dR rfl) (mvi rfl (aj (af (bg (dd (G:=Nat) [2,5,87,88,89,90,91,92,93,94,95,96,97,98,99,100,101,102,103,104,105,106,107,108,109,110,111,112,113,114,115,116,117,118,119,120,121] (fun k=>[(86,.int .i64 (k:Nat))]) (fun k w'=>k≤LL.length∧(∀ j (h:j<LL.length),j<k→fQ s LL[j].1=true)∧Blk w' b1 29 (rfV s (⟨E,Ec,V,Vc,X,Xc,M,Mc,Sn,Sc,Q,Qc,LL⟩:Ra)).toArray∧ai w w') (fun k=>LL.length-k) (0) ⟨rfl,trivial⟩ ?_ ?_)))))
 ·exact ⟨Nat.zero_le _,fun j _ h=>absurd h (by omega),hk1.from_ ai.rfl_,(ai.rfl_.next E1)⟩
 rintro k ρ13 w13 ⟨hk,h1,hk1,hB⟩;refine ak (ag (ab (b_ rfl rfl) (aj (af (ak (Ab rfl (fun Q14=>?_) (fun Q14=>?_)))))))
 ·have hkL:k<LL.length:=by omega
  have hqm:LL[k].1∈s.reads:=by rw [←hrL];exact List.mem_map_of_mem (List.getElem_mem hkL)
  obtain ⟨ba,oa,rfl,hcs⟩:∃ b o,Q=some ⟨b,o,none⟩∧∀ i (hi:i<LL.length),w.rangeAt b (o+i*4) (rdV LL[i]):=hrd.q (by show 0<LL.length;omega);refine aM (af (ak (bg (ak (ag (ab (cn fx rfl rfl (by omega)) (ab (aG (cs:=rdV LL[k]) fV ef rfl (eB hB (hcs k hkL))) (cf fW ?_))))))));intro b5 w15 E5 hb5 hk5;have hg5:w.heap.size≤b5:=by rw [hb5];exact (hB).size
  have hk1L:=hk1.from_ (ai.rfl_.next E5);have hn5:b1≠b5:=by have:=hk1.lt;have:=((ai.rfl_.next E5)).size;omega
  refine b0 (vs:=[_,_,_,_]) ef rfl rfl (by simp [Value.oneCell']) (hk5) rfl ?_;intro w16 O10 P10;replace hk1:=hk1L.only O10 hn5;refine aj (af (ak (ag (ab (aa fa rfl) (ab (aq an rfl (by exact (show _=some (Value.int .i64 LL[k].1.id) from (P10.from_ ai.rfl_).rd 0 rfl))) ?_)))));refine fb (v:=.int _ _) ct rfl rfl rfl ?_;intro b92 w17 E92 hb92 hk92;refine aB dK (eL 1 1099511627776 (some ⟨b92,0,none⟩) 1 [LL[k].1.id] _ (f_ hk92) (by simp)) ?_;rintro v93 w18 ⟨rfl,rfl⟩;refine ab (cl rfl) (mvb rfl (aF (t:=95) rfl (fun Q19=>?_) (fun Q19=>?_)))
  ·with_reducible (replace Q19:=dw Q19;replace Q19:=dF_ Q19)
   (try simp only [bG,bN,and_true] at Q19)
   refine bc rfl (aj (af (aL rfl (ak (ag (asb rfl (aj (af (aC (aZ (az (az (aZ (az (bo (v:=.bool _) rfl rfl (⟨congrArg Value.bool ?_,(((hB.next E5).only O10 (hg5)).next E92)⟩))))))))))))))));rw [eq_comm,decide_eq_false_iff_not];rw [bm (by omega)];rintro ⟨_,_,g⟩;have g5:=cz.1 (g _ hqm)
   first
    |omega
    |simp_all
  with_reducible (replace Q19:=dy Q19;replace Q19:=dT_ Q19)
  (try simp only [bG,bN,and_true] at Q19)
  refine ae rfl (ab (aa dr rfl) (ae rfl (ab (aq an rfl (by exact (hk1.from_ (ai.rfl_.next E92)).rd 10 rfl)) ?_)));refine ae rfl (ab (aa e_ rfl) (ae rfl (ab (aq an rfl (by exact (show _=some (Value.int .i64 LL[k].1.ix) from (P10.from_ (ai.rfl_.next E92)).rd 1 rfl))) ?_)));refine ae rfl (fb (v:=.int _ _) ct rfl rfl rfl ?_);intro b100 w20 E100 hb100 hk100;refine ae rfl (aB dK (eL 0 s.commit (some ⟨b100,0,none⟩) 1 [LL[k].1.ix] _ (f_ hk100) (by simp)) ?_);rintro v101 w21 ⟨rfl,rfl⟩;refine ae rfl (ab (cl rfl) (ab (aw (v:=.bool _) rfl rfl) (mvb rfl (aF (t:=104) rfl (fun Q22=>?_) (fun Q22=>?_)))))
  ·with_reducible (replace Q22:=dw Q22;replace Q22:=dF_ Q22)
   (try simp only [bG,bN,and_true] at Q22)
   refine bc rfl (aj (af (aL rfl (ak (ag (asb rfl (aj (af (aC (aZ (az (az (aZ (az (bo (v:=.bool _) rfl rfl (⟨congrArg Value.bool ?_,((((hB.next E5).only O10 (hg5)).next E92).next E100)⟩))))))))))))))));rw [eq_comm,decide_eq_false_iff_not];rw [bm (by omega)];rintro ⟨_,_,g⟩;have g5:=cz.1 (g _ hqm)
   first
    |omega
    |simp_all
  with_reducible (replace Q22:=dy Q22;replace Q22:=dT_ Q22)
  (try simp only [bG,bN,and_true] at Q22)
  refine ae rfl (ab (aa dA rfl) (ae rfl (ab (aq an rfl (by exact (hk1.from_ ((ai.rfl_.next E92).next E100)).rd 18 rfl)) ?_)));refine ae rfl (ab (aa eZ rfl) (ae rfl (ab (aq an rfl (by exact (show _=some (Value.int .i64 LL[k].1.rn) from (P10.from_ ((ai.rfl_.next E92).next E100)).rd 2 rfl))) ?_)));refine ae rfl (fb (v:=.int _ _) ct rfl rfl rfl ?_);intro b109 w23 E109 hb109 hk109;refine ae rfl (aB dK (eL 0 s.round (some ⟨b109,0,none⟩) 1 [LL[k].1.rn] _ (f_ hk109) (by simp)) ?_);rintro v110 w24 ⟨rfl,rfl⟩;refine ae rfl (ab (cl rfl) (ab (aw (v:=.bool _) rfl rfl) (mvb rfl (aF (t:=113) rfl (fun Q25=>?_) (fun Q25=>?_)))))
  ·with_reducible (replace Q25:=dw Q25;replace Q25:=dF_ Q25)
   (try simp only [bG,bN,and_true] at Q25)
   refine bc rfl (aj (af (aL rfl (ak (ag (asb rfl (aj (af (aC (aZ (az (az (aZ (az (bo (v:=.bool _) rfl rfl (⟨congrArg Value.bool ?_,(((((hB.next E5).only O10 (hg5)).next E92).next E100).next E109)⟩))))))))))))))));rw [eq_comm,decide_eq_false_iff_not];rw [bm (by omega)];rintro ⟨_,_,g⟩;have g5:=cz.1 (g _ hqm)
   first
    |omega
    |simp_all
  with_reducible (replace Q25:=dy Q25;replace Q25:=dT_ Q25)
  (try simp only [bG,bN,and_true] at Q25)
  refine ae rfl (ab (aa ep rfl) (ae rfl (ab (aq bn rfl (by exact (show _=some (Value.slice LL[k].2.1 LL[k].1.acks.length LL[k].2.2) from (P10.from_ (((ai.rfl_.next E92).next E100).next E109)).rd 3 rfl))) ?_)));refine ae rfl (ab (aa bX rfl) (ae rfl (ab (aq an rfl (by exact (hk1.from_ (((ai.rfl_.next E92).next E100).next E109)).rd 1 rfl)) ?_)));refine ae rfl (aB me (pB LL[k].2.1 LL[k].2.2 LL[k].1.acks s.nodes _ ((hrk _ (List.getElem_mem hkL)).1.from_ (((((hB.next E5).only O10 (hg5)).next E92).next E100).next E109)) (hl5 _ hqm)) ?_);rintro v118 w26 ⟨rfl,E118⟩;refine ae rfl (ab (cl rfl) (ab (aw (v:=.bool _) rfl rfl) (aj (af (z_ rfl (fun Q27=>?_) (fun Q27=>?_))))))
  ·refine ak (ag (asb rfl (aj (af (aC (aZ (az (az (aZ (az (bo (v:=.bool _) rfl rfl (⟨congrArg Value.bool ?_,((((((hB.next E5).only O10 (hg5)).next E92).next E100).next E109).next E118)⟩))))))))))));rw [eq_comm,decide_eq_false_iff_not];rw [bm (by omega)];rintro ⟨_,_,g⟩;have g5:=cz.1 (g _ hqm)
   first
    |omega
    |simp_all
  refine aM (bE (af (ag (ab (cq rfl rfl (by omega)) (mvi rfl (aj ?_))))));refine cu (k+1) ⟨(by first | rfl | (refine bT ?_;omega)),trivial⟩ (by (iterate 78 refine bI rfl ?_);exact bU) ⟨?_,?_⟩
  ·refine ⟨by omega,fun j h hj=>?_,hk1.from_ ((((ai.rfl_.next E92).next E100).next E109).next E118),((((((hB.next E5).only O10 (hg5)).next E92).next E100).next E109).next E118)⟩;rcases Nat.lt_or_ge j k with e | e
   ·exact h1 j h e
   ·obtain rfl:j=k:=by omega
    rw [cz];exact ⟨by omega,by omega,by omega,by first | assumption | simp_all⟩
  ·omega
 refine cI (bD (bD (cr (af (ak (ag (asb rfl (aj (af (aC (bo (v:=.bool _) rfl rfl (⟨congrArg Value.bool ?_,hB⟩))))))))))));rw [eq_comm,decide_eq_true_eq];rw [bm (by omega)];refine ⟨⟨by omega,by omega,by omega,by omega⟩,⟨?_,?_,?_⟩,fun q hq=>?_⟩
 ·simp_all
 ·simp_all
 ·simp_all
 ·rw [←hrL] at hq;obtain ⟨y,hy,rfl⟩:=List.mem_map.1 hq;obtain ⟨i,hi,rfl⟩:=List.getElem_of_mem hy;exact h1 i hi (by omega)
theorem bh {s:Rf}:ik s=true↔iL s∧gz s∧fE s.votes s.nodes=true∧lA s∧gU s:=by
 constructor
 ·intro h;have F:=mJ h;have hl:=F.last;refine ⟨⟨F.n,F.i,F.ro,⟨F.vo,F.le⟩,F.te,F.el,F.ti,F.rn⟩,⟨F.lg,F.lt,F.co,F.sn,?_⟩,F.vs,?_,⟨F.pa,F.po,?_⟩⟩
  ·have:=F.sb;omega
  ·by_cases hr:s.role=2
   ·rw [bm hr];have hx:=F.nx;have hm:=F.ma;have hs:=F.se;rw [jw hr] at hx hm hs;have:=F.n;exact ⟨⟨by omega,by omega,by omega,F.rl⟩,⟨hx.2,hm.2,hs.2⟩,F.rd⟩
   ·rw [bP hr];obtain ⟨e1,e2,e3,e4⟩:=F.free hr;rw [e1,e2,e3,e4];rfl
  ·have:=F.pp;have:=F.po;omega
 ·rintro ⟨⟨n,i,ro,⟨vo,le⟩,te,el,ti,rn⟩,⟨lg,lt,co,sn,sb⟩,vs,ls,⟨pa,po,pp⟩⟩;have hbl:=fT lg
  have key:(s.next.length=gn s∧∀ x∈s.next,1≤x∧x≤bH s+1)∧(s.mtch.length=gn s∧∀ x∈s.mtch,0≤x∧x≤bH s)∧(s.sent.length=gn s∧∀ x∈s.sent,0≤x∧x≤(s.snap.size:Int))∧s.reads.length≤32∧(gn s≠0∨s.reads.length=0)∧∀ q∈s.reads,fQ s q=true:=by
   by_cases hr:s.role=2
   ·rw [bm hr] at ls;obtain ⟨⟨l1,l2,l3,l4⟩,⟨g1,g2,g3⟩,g4⟩:=ls;rw [jw hr];exact ⟨⟨by omega,g1⟩,⟨by omega,g2⟩,⟨by omega,g3⟩,l4,.inl (by omega),g4⟩
   ·rw [bP hr] at ls;rw [nH hr];have e1:s.next=[]:=List.eq_nil_of_length_eq_zero (by omega);have e2:s.mtch=[]:=List.eq_nil_of_length_eq_zero (by omega);have e3:s.sent=[]:=List.eq_nil_of_length_eq_zero (by omega);have e4:s.reads=[]:=List.eq_nil_of_length_eq_zero (by omega);rw [e1,e2,e3,e4];exact ⟨⟨rfl,fun x hx=>by cases hx⟩,⟨rfl,fun x hx=>by cases hx⟩,⟨rfl,fun x hx=>by cases hx⟩,by decide,.inr rfl,fun x hx=>by cases hx⟩
  obtain ⟨k1,k2,k3,k4,k5,k6⟩:=key;unfold ik eO pT;simp only [Bool.and_eq_true,Bool.or_eq_true,decide_eq_true_eq,List.all_eq_true];exact ⟨⟨⟨⟨⟨⟨⟨⟨⟨⟨⟨⟨⟨⟨⟨⟨⟨⟨⟨⟨⟨⟨⟨⟨n.1,n.2⟩,ff i⟩,ff ro⟩,ff te⟩,ff vo⟩,ff le⟩,lg⟩,sn⟩,by omega⟩,ff el⟩,ff ti⟩,ff rn⟩,vs⟩,lt⟩,ff co⟩,pa⟩,ff po⟩,by omega⟩,k1⟩,k2⟩,k3⟩,k4⟩,k5⟩,k6⟩
theorem rO (s:Rf) (a:Ra) (w:World) (hrd:eX w s a) (hl:s.votes.length≤1000000∧s.next.length≤1000000∧s.mtch.length≤1000000∧s.sent.length≤1000000∧s.reads.length≤1000000∧∀ q∈s.reads,q.acks.length≤1000000) :
 Rt prog 95 [.agg (rfV s a).toArray] w (fun v w'=>v=.int .i64 (if ik s=true then 0 else 1)∧ai w w'):=by
 refine enter (n:=29) Tryz.func95 rfl rfl rfl (ak (ag (bZ (v:=.agg _) rfl ?_)));intro b1 w1 E1 hb1 hk1;refine asi rfl (aj (af (ak (ak (ag (ab (aG (cs:=rfV s a) aQ aK rfl ((hk1.from_ ai.rfl_).whole)) (aB qI (nw s a _) ?_)))))));rintro v4 w2 ⟨rfl,E4⟩;refine ab (cl rfl) (mvb rfl (aF (t:=6) rfl (fun Q3=>?_) (fun Q3=>?_)))
 ·replace Q3:=dw Q3;replace Q3:=dF_ Q3;have hNn:¬ iL s:=by first | exact Q3 | simpa using Q3
  refine bc rfl (aj (af (aL rfl (ak (ag (asi rfl (aj (af (aC (az (bo (v:=.int _ _) rfl rfl (⟨bT (by rw [if_neg (fun h=>by obtain ⟨g1,g2,g3,g4,g5⟩:=bh.1 h;first | exact hNn g1 | exact hLn g2 | exact hVn g3 | exact hSn g4 | exact hPn g5)]),((ai.rfl_.next E1).next E4)⟩))))))))))))
 replace Q3:=dy Q3;replace Q3:=dT_ Q3;have hN:iL s:=by first | exact Q3 | simpa using Q3
 refine ae rfl (ab (aG (cs:=rfV s a) aQ aK rfl ((hk1.from_ (ai.rfl_.next E4)).whole)) (ae rfl (aB qH (qR s a _ (hrd.e.from_ ((ai.rfl_.next E1).next E4))) ?_)));rintro v8 w4 ⟨rfl,E8⟩;refine ae rfl (ab (cl rfl) (ab (aw (v:=.bool _) rfl rfl) (mvb rfl (aF (t:=11) rfl (fun Q5=>?_) (fun Q5=>?_)))))
 ·replace Q5:=dw Q5;replace Q5:=dF_ Q5;have hLn:¬ gz s:=by first | exact Q5 | simpa using Q5
  refine bc rfl (aj (af (aL rfl (ak (ag (asi rfl (aj (af (aC (az (bo (v:=.int _ _) rfl rfl (⟨bT (by rw [if_neg (fun h=>by obtain ⟨g1,g2,g3,g4,g5⟩:=bh.1 h;first | exact hNn g1 | exact hLn g2 | exact hVn g3 | exact hSn g4 | exact hPn g5)]),(((ai.rfl_.next E1).next E4).next E8)⟩))))))))))))
 replace Q5:=dy Q5;replace Q5:=dT_ Q5;have hL:gz s:=by first | exact Q5 | simpa using Q5
 refine ae rfl (ab (aa di rfl) (ae rfl (ab (aq bn rfl (by exact (show _=some (Value.slice a.V s.votes.length a.Vc) from (hk1.from_ ((ai.rfl_.next E4).next E8)).rd 14 rfl))) ?_)));refine ae rfl (ab (aa bX rfl) (ae rfl (ab (aq an rfl (by exact (hk1.from_ ((ai.rfl_.next E4).next E8)).rd 1 rfl)) ?_)));refine ae rfl (aB me (pB a.V a.Vc s.votes s.nodes _ (hrd.v.1.from_ (((ai.rfl_.next E1).next E4).next E8)) hl.1) ?_);rintro v16 w6 ⟨rfl,E16⟩;refine ae rfl (ab (cl rfl) (ab (aw (v:=.bool _) rfl rfl) (mvb rfl (zq (t:=19) rfl (fun Q7=>?_) (fun Q7=>?_)))))
 ·have hVn:¬ fE s.votes s.nodes=true:=by first | exact Q7 | simpa using Q7
  refine bc rfl (aj (af (aL rfl (ak (ag (asi rfl (aj (af (aC (az (bo (v:=.int _ _) rfl rfl (⟨bT (by rw [if_neg (fun h=>by obtain ⟨g1,g2,g3,g4,g5⟩:=bh.1 h;first | exact hNn g1 | exact hLn g2 | exact hVn g3 | exact hSn g4 | exact hPn g5)]),((((ai.rfl_.next E1).next E4).next E8).next E16)⟩))))))))))))
 have hV:fE s.votes s.nodes=true:=by first | exact Q7 | simpa using Q7
 refine ae rfl (ab (aG (cs:=rfV s a) aQ aK rfl ((hk1.from_ (((ai.rfl_.next E4).next E8).next E16)).whole)) (ae rfl (aB qG (oY s a _ (hrd.from_ ((((ai.rfl_.next E1).next E4).next E8).next E16)) hN hL hl.2) ?_)));rintro v21 w8 ⟨rfl,E21⟩;refine ae rfl (ab (cl rfl) (ab (aw (v:=.bool _) rfl rfl) (mvb rfl (aF (t:=24) rfl (fun Q9=>?_) (fun Q9=>?_)))))
 ·replace Q9:=dw Q9;replace Q9:=dF_ Q9;have hSn:¬ lA s:=by first | exact Q9 | simpa using Q9
  refine bc rfl (aj (af (aL rfl (ak (ag (asi rfl (aj (af (aC (az (bo (v:=.int _ _) rfl rfl (⟨bT (by rw [if_neg (fun h=>by obtain ⟨g1,g2,g3,g4,g5⟩:=bh.1 h;first | exact hNn g1 | exact hLn g2 | exact hVn g3 | exact hSn g4 | exact hPn g5)]),(((((ai.rfl_.next E1).next E4).next E8).next E16).next E21)⟩))))))))))))
 replace Q9:=dy Q9;replace Q9:=dT_ Q9;have hS:lA s:=by first | exact Q9 | simpa using Q9
 refine ae rfl (ab (aG (cs:=rfV s a) aQ aK rfl ((hk1.from_ ((((ai.rfl_.next E4).next E8).next E16).next E21)).whole)) (ae rfl (aB qF (p7 s a _) ?_)));rintro v26 w10 ⟨rfl,E26⟩;refine ae rfl (ab (cl rfl) (ab (aw (v:=.bool _) rfl rfl) (aj (af (aU rfl (fun Q11=>?_) (fun Q11=>?_))))))
 ·replace Q11:=dw Q11;replace Q11:=dF_ Q11;have hPn:¬ gU s:=by first | exact Q11 | simpa using Q11
  refine ak (ag (asi rfl (aj (af (aC (az (bo (v:=.int _ _) rfl rfl (⟨bT (by rw [if_neg (fun h=>by obtain ⟨g1,g2,g3,g4,g5⟩:=bh.1 h;first | exact hNn g1 | exact hLn g2 | exact hVn g3 | exact hSn g4 | exact hPn g5)]),((((((ai.rfl_.next E1).next E4).next E8).next E16).next E21).next E26)⟩))))))))
 replace Q11:=dy Q11;replace Q11:=dT_ Q11;have hP:gU s:=by first | exact Q11 | simpa using Q11
 refine aM (af (ak (ag (asi rfl (aj (af (aC (bo (v:=.int _ _) rfl rfl (⟨bT (by rw [if_pos (bh.2 ⟨hN,hL,hV,hS,hP⟩)]),((((((ai.rfl_.next E1).next E4).next E8).next E16).next E21).next E26)⟩)))))))))
theorem aO:cP prog 111 0=some 0:=by kernel_rfl
theorem tp:aR prog 69=true:=by kernel_rfl
theorem jD:cP prog 111 1=some 22:=by kernel_rfl
theorem lT (s:Rf) (E:Option Addr) (n c:Nat) (w:World) (h:cF w (.slice E n c) s.es) (_:cD s.b s.t s.es=true):Rt prog 65 [.agg #[.int .i64 s.b,.int .i64 s.t,.slice E n c]] w fun v w'=>v=.tuple #[.int .i64 (bH s),.int .i64 (dp s.t s.es)]∧ai w w':=
 (Rt.of (mY s.b s.t _ s.es w h)).mono fun _ _ h=>h
theorem wZ (w0:World) (Z:Nat→Prop) (T g:Nat) (p:Sp) (w:World) (h:a_ w0 Z w T g p) :
 Rt prog 69 [.pointer (some ⟨g,0,none⟩)] w (fun v w'=>v=.tuple #[]∧a_ w0 Z w' T g ⟨fw p.s,p.out⟩):=by
 obtain ⟨s,out⟩:=p;obtain ⟨tag,a,O,oc,L,hs⟩:=h.ex;obtain ⟨E,Ec,V,Vc,X,Xc,M,Mc,Sn,Sc,Q,Qc,LL⟩:=a;have hb:Blk w g T (rfV s (⟨E,Ec,V,Vc,X,Xc,M,Mc,Sn,Sc,Q,Qc,LL⟩:Ra)++[Value.slice O L.length oc]).toArray:=hs.b
 have hll:L.length=out.length:=by
  have h9:=congrArg List.length hs.m.l;rw [List.length_map] at h9;exact h9
 have hB0:ai w w:=ai.rfl_;refine enter (n:=22) Tryz.func69 rfl rfl rfl (ak (ag (mvp rfl (ab (ay rfl) (ab (aa aO rfl) (ab (aa di rfl) ?_))))));have hB0:ai _ w:=ai.rfl_;refine cW (s':=({ s with votes:=[] }:Rf)) (a':=(⟨E,Ec,none,0,X,Xc,M,Mc,Sn,Sc,Q,Qc,LL⟩:Ra)) (v:=.slice _ _ _) df rfl rfl rfl ((hb.from_ ai.rfl_)) (by exact ⟨by decide,rfl⟩) ?_;intro w1 O0_0 P0_0;have hC1:Chg (fun k=>k=g) w w1:=(ai.toChg hB0).only O0_0 rfl;refine aj (af (ak (ag (mvp rfl (ab (ay rfl) (ab (aa aO rfl) (ab (aa cL rfl) ?_)))))));have hB1:ai _ w1:=(ai.rfl_ (a:=w1));refine cW (s':=({ s with votes:=[],next:=[] }:Rf)) (a':=(⟨E,Ec,none,0,none,0,M,Mc,Sn,Sc,Q,Qc,LL⟩:Ra)) (v:=.slice _ _ _) df rfl rfl rfl ((P0_0.from_ (ai.rfl_ (a:=w1)))) (by exact ⟨by decide,rfl⟩) ?_;intro w2 O1_0 P1_0;replace hC1:=(hC1.next (ai.toChg hB1)).only O1_0 rfl;refine aj (af (ak (ag (mvp rfl (ab (ay rfl) (ab (aa aO rfl) (ab (aa cO rfl) ?_)))))));have hB2:ai _ w2:=(ai.rfl_ (a:=w2));refine cW (s':=({ s with votes:=[],next:=[],mtch:=[] }:Rf)) (a':=(⟨E,Ec,none,0,none,0,none,0,Sn,Sc,Q,Qc,LL⟩:Ra)) (v:=.slice _ _ _) df rfl rfl rfl ((P1_0.from_ (ai.rfl_ (a:=w2)))) (by exact ⟨by decide,rfl⟩) ?_;intro w3 O2_0 P2_0;replace hC1:=(hC1.next (ai.toChg hB2)).only O2_0 rfl;refine aj (af (ak (ag (mvp rfl (ab (ay rfl) (ab (aa aO rfl) (ab (aa cT rfl) ?_)))))));have hB3:ai _ w3:=(ai.rfl_ (a:=w3));refine cW (s':=({ s with votes:=[],next:=[],mtch:=[],sent:=[] }:Rf)) (a':=(⟨E,Ec,none,0,none,0,none,0,none,0,Q,Qc,LL⟩:Ra)) (v:=.slice _ _ _) df rfl rfl rfl ((P2_0.from_ (ai.rfl_ (a:=w3)))) (by exact ⟨by decide,rfl⟩) ?_;intro w4 O3_0 P3_0;replace hC1:=(hC1.next (ai.toChg hB3)).only O3_0 rfl;refine aj (af (ag (mvp rfl (ab (ay rfl) (ab (aa aO rfl) (ab (aa bL rfl) ?_))))));have hB4:ai _ w4:=(ai.rfl_ (a:=w4));refine cW (s':=({ s with votes:=[],next:=[],mtch:=[],sent:=[],reads:=[] }:Rf)) (a':=(⟨E,Ec,none,0,none,0,none,0,none,0,none,0,[]⟩:Ra)) (v:=.slice _ _ _) jg rfl rfl rfl ((P3_0.from_ (ai.rfl_ (a:=w4)))) (by exact ⟨by decide,rfl⟩) ?_;intro w5 O4_0 P4_0;replace hC1:=(hC1.next (ai.toChg hB4)).only O4_0 rfl;refine aj (cR (ey rfl (⟨rfl,(h.set (s':=fw s) (a':=(⟨E,Ec,none,0,none,0,none,0,none,0,none,0,[]⟩:Ra)) hs hC1 (bw.same hs.f.alone rfl rfl rfl rfl rfl rfl) P4_0).2⟩)))
theorem kH (w0:World) (Z:Nat→Prop) (T g:Nat) (p:Sp) (w:World) (h:a_ w0 Z w T g p) (tm:Int) :
 Rt prog 124 [.pointer (some ⟨g,0,none⟩),.int .i64 tm] w (fun v w'=>v=.tuple #[]∧a_ w0 Z w' T g ⟨bC p.s tm,p.out⟩):=by
 obtain ⟨s,out⟩:=p;obtain ⟨tag,a,O,oc,L,hs⟩:=h.ex;obtain ⟨E,Ec,V,Vc,X,Xc,M,Mc,Sn,Sc,Q,Qc,LL⟩:=a;have hb:Blk w g T (rfV s (⟨E,Ec,V,Vc,X,Xc,M,Mc,Sn,Sc,Q,Qc,LL⟩:Ra)++[Value.slice O L.length oc]).toArray:=hs.b
 have hll:L.length=out.length:=by
  have h9:=congrArg List.length hs.m.l;rw [List.length_map] at h9;exact h9
 have hB0:ai w w:=ai.rfl_;refine enter (n:=38) Tryz.func124 rfl rfl rfl (ak (ag (mvp rfl (ab (ay rfl) (ab (aa aO rfl) (ab (aa du rfl) ?_))))));have hB0:ai w w:=ai.rfl_;refine cW (s':=({ s with role:=0 }:Rf)) (a':=(⟨E,Ec,V,Vc,X,Xc,M,Mc,Sn,Sc,Q,Qc,LL⟩:Ra)) (v:=.int _ _) aS rfl rfl rfl (hb) (by exact ⟨by decide,rfl⟩) ?_;intro w1 O0_0 P0_0;have hC1:Chg (fun k=>k=g) w w1:=(ai.toChg hB0).only O0_0 rfl;refine aj (af (ak (ag (mvp rfl (ab (ay rfl) (ab (aa aO rfl) (ab (aa eQ rfl) ?_)))))));have hB1:ai _ w1:=(ai.rfl_ (a:=w1));refine cW (s':=({ s with role:=0,leader:=0 }:Rf)) (a':=(⟨E,Ec,V,Vc,X,Xc,M,Mc,Sn,Sc,Q,Qc,LL⟩:Ra)) (v:=.int _ _) aS rfl rfl rfl ((P0_0.from_ (ai.rfl_ (a:=w1)))) (by exact ⟨by decide,rfl⟩) ?_;intro w2 O1_0 P1_0;have hC2:=(hC1.next (ai.toChg hB1)).only O1_0 rfl;obtain ⟨hs3,h3⟩:=h.set (s':=({ s with role:=0,leader:=0 }:Rf)) (a':=(⟨E,Ec,V,Vc,X,Xc,M,Mc,Sn,Sc,Q,Qc,LL⟩:Ra)) hs hC2 (bw.same hs.f rfl rfl rfl rfl rfl rfl) P1_0;refine aj (af (ak (ag (mvp rfl (aB tp (wZ w0 Z T g ⟨({ s with role:=0,leader:=0 }:Rf),out⟩ _ (h3.from_ (ai.rfl_ (a:=w2)))) ?_)))));rintro v13 w3 ⟨rfl,h13⟩;have h13:a_ w0 Z w3 T g ⟨({ fw s with role:=0,leader:=0 }:Rf),out⟩:=h13;obtain ⟨tag9,a9,O9,oc9,L9,hs9⟩:=h13.ex;have hb9:=hs9.b;refine aj (af (ak (ag (mvi rfl (mvp rfl (ab (ay rfl) (ab (aa aO rfl) (ab (aa bt rfl) (ab (aq an rfl (by exact (show _=some (Value.int .i64 s.term) from dO (hb9.from_ (ai.rfl_ (a:=w3))) 3 rfl))) ?_)))))))));refine ab (bS rfl rfl) (aj (af (Ab rfl (fun Q4=>?_) (fun Q4=>?_))))
 ·refine ak (ag (mvp rfl (mvi rfl (ab (ay rfl) (ab (aa aO rfl) (ab (aa bt rfl) ?_))))));have hB4:ai _ w3:=(ai.rfl_ (a:=w3));refine cW (s':=({ fw s with role:=0,leader:=0,term:=tm }:Rf)) (a':=a9) (v:=.int _ _) aS rfl rfl rfl ((hb9.from_ (ai.rfl_ (a:=w3)))) (by exact ⟨by decide,rfl⟩) ?_;intro w5 O4_0 P4_0;have hC4:Chg (fun k=>k=g) _ w5:=(ai.toChg hB4).only O4_0 rfl;refine aj (af (ak (ag (mvp rfl (ab (ay rfl) (ab (aa aO rfl) (ab (aa bY rfl) ?_)))))));have hB5:ai _ w5:=(ai.rfl_ (a:=w5));refine cW (s':=({ fw s with role:=0,leader:=0,term:=tm,vote:=0 }:Rf)) (a':=a9) (v:=.int _ _) aS rfl rfl rfl ((P4_0.from_ (ai.rfl_ (a:=w5)))) (by exact ⟨by decide,rfl⟩) ?_;intro w6 O5_0 P5_0;have hC5:=(hC4.next (ai.toChg hB5)).only O5_0 rfl;refine aj (af (ak (ag (mvp rfl (ab (ay rfl) (ab (aa aO rfl) (ab (aa dS rfl) ?_)))))));have hB6:ai _ w6:=(ai.rfl_ (a:=w6));refine cW (s':=({ fw s with role:=0,leader:=0,term:=tm,vote:=0,part:=⟨#[]⟩ }:Rf)) (a':=a9) (v:=.string _) jV rfl rfl rfl ((P5_0.from_ (ai.rfl_ (a:=w6)))) (by exact ⟨by decide,rfl⟩) ?_;intro w7 O6_0 P6_0;have hC6:=(hC5.next (ai.toChg hB6)).only O6_0 rfl;refine aj (af (ag (mvp rfl (ab (ay rfl) (ab (aa aO rfl) (ab (aa dJ rfl) ?_))))));have hB7:ai _ w7:=(ai.rfl_ (a:=w7));refine cW (s':=({ fw s with role:=0,leader:=0,term:=tm,vote:=0,part:=⟨#[]⟩,partOf:=0 }:Rf)) (a':=a9) (v:=.int _ _) aS rfl rfl rfl ((P6_0.from_ (ai.rfl_ (a:=w7)))) (by exact ⟨by decide,rfl⟩) ?_;intro w8 O7_0 P7_0;have hC7:=(hC6.next (ai.toChg hB7)).only O7_0 rfl;refine aj (cR (ey rfl (⟨rfl,?_⟩)));show a_ w0 Z _ T g ⟨bC s tm,out⟩;unfold bC;simp only
  first
   |(rw [if_pos (show s.term<tm by omega)];exact (h13.set (s':=({ fw s with role:=0,leader:=0,term:=tm,vote:=0,part:=⟨#[]⟩,partOf:=0 }:Rf)) (a':=a9) hs9 hC7 (bw.same hs9.f rfl rfl rfl rfl rfl rfl) P7_0).2)
   |(rw [if_neg (show ¬ s.term<tm by omega)];exact h13.from_ (ai.rfl_ (a:=w8)))
 refine aM (cR (ey rfl (⟨rfl,?_⟩)));show a_ w0 Z _ T g ⟨bC s tm,out⟩;unfold bC;simp only
 first
  |(rw [if_pos (show s.term<tm by omega)];exact (h13.set (s':=({ fw s with role:=0,leader:=0,term:=tm,vote:=0,part:=⟨#[]⟩,partOf:=0 }:Rf)) (a':=a9) hs9 hC7 (bw.same hs9.f rfl rfl rfl rfl rfl rfl) P7_0).2)
  |(rw [if_neg (show ¬ s.term<tm by omega)];exact h13.from_ (ai.rfl_ (a:=w3)))
theorem fu (w0:World) (Z:Nat→Prop) (T g:Nat) (p:Sp) (w:World) (h:a_ w0 Z w T g p) (tag:Nat→Nat) (a:Ra) (O:Option Addr) (oc:Nat) (L:List Msg) (hs:gQ w Z T g tag p a O oc L) (hl:L.length≤1000) (m:Msg) (hE:w.ownsRow 0 99 3 (.slice m.E m.es.length m.c) m.es.length (eb m.es)∧Col tag (1000+2*L.length) m.E) :
 Rt prog 71 [.pointer (some ⟨g,0,none⟩),.agg (bM m).toArray] w (fun v w'=>v=.tuple #[]∧a_ w0 Z w' T g (p.tell (pl m))):=by
 refine enter (n:=26) Tryz.func71 rfl rfl rfl (ak (ag (bZ (v:=.agg _) rfl ?_)));intro b3 w1 E3 hb3 hk3;have hgb:=hs.b.lt;have h5:g≠b3:=by omega
 have hg3:w.heap.size≤b3:=Nat.le_of_eq hb3.symm;have hgA:=hs.b.from_ (ai.rfl_.next E3);refine aj (af (ak (ag (mvp rfl (ab (ay rfl) (ab (aa aO rfl) (ab (aa cM rfl) (ab (aq an rfl (by exact dO (hgA.from_ ai.rfl_) 0 rfl)) ?_))))))));refine ab (aa bA rfl) ?_;have hM1:ai _ w1:=ai.rfl_;refine dD (v:=.int _ _) aS rfl rfl rfl ((hk3.from_ ai.rfl_)) (by show _<13;decide) ?_;intro w2 O1 P1;have hgB0:=(hgA.from_ hM1).only O1 h5;refine aj (af (ak (ag (mvp rfl (ab (ay rfl) (ab (aa aO rfl) (ab (aa bt rfl) (ab (aq an rfl (by exact dO (hgB0.from_ ai.rfl_) 3 rfl)) ?_))))))));refine ab (aa bu rfl) ?_;have hM2:ai _ w2:=ai.rfl_;refine dD (v:=.int _ _) aS rfl rfl rfl ((P1.from_ ai.rfl_)) (by show _<13;decide) ?_;intro w3 O2 P2;have hgB:=(hgB0.from_ hM2).only O2 h5;have hB:ai w w3:=(((ai.rfl_.next E3).only O1 (hg3)).only O2 (hg3));have hX:Blk w3 b3 39 (bM { m with f:=p.s.id,tm:=p.s.term }).toArray:=P2;refine aj (af ?_);apply wR 8 7 [22] [(16,eqp _),(17,eqp _),(18,eqp _),(19,eqp _),(20,eqp (.slice O L.length oc)),(21,eqp (.agg (bM { m with f:=p.s.id,tm:=p.s.term }).toArray)),(22,fun v w'=>∃ q,v=.slice (some ⟨q,0,none⟩) 1 1∧Blk w' q 39 (bM { m with f:=p.s.id,tm:=p.s.term }).toArray),(23,fun v w'=>∃ A2 c2,v=.slice A2 (L.length+1) c2∧w'.ownsRow 0 39 13 (.slice A2 (L.length+1) c2) (L.length+1) (L.flatMap bM++bM { m with f:=p.s.id,tm:=p.s.term })∧(∀ k,A2.map (·.block)=some k→O.map (·.block)=some k∨(w3).heap.size≤k))] (fun w'=>ai w3 w') (fun w'=>(w3).grownBy w' (O.map (·.block))) (by repeat first | exact cj | refine ch ?_ | refine bQ ?_) (by kernel_rfl) (by kernel_rfl) (by kernel_rfl) ⟨ah _,ah _,ah _,ah _,ah _,ah _,(fun _ _ _ hF ⟨q,h1,h2⟩=>⟨q,h1,h2.from_ hF⟩),(fun _ _ _ hF ⟨A2,c2,h1,h2,h3⟩=>⟨A2,c2,h1,h2.kept_from hF,h3⟩),trivial⟩ (ai.rfl_.d1) (ai.rfl_.d1.grown _) (fun _ _ hF h=>h.next hF) (fun _ _ hF h=>eS h (hF.grown _))
 case hop=>
  constructor
  ·rintro-w5 hG5;exact ar (aH (v:=.pointer _) rfl) rfl
  constructor
  ·rintro-w6 D6;exact ar (aH (v:=.pointer _) rfl) rfl
  constructor
  ·rintro-w7 D7;rintro _ rfl;exact ar (ay rfl) rfl
  constructor
  ·rintro-w8 D8;rintro _ rfl;exact ar (aa jD rfl) rfl
  constructor
  ·rintro-w9 D9;rintro _ rfl;exact ar (aq ji rfl (show _=some (Value.slice O L.length oc) from (hgB.from_ D9).rd 22 rfl)) rfl
  constructor
  ·rintro-w10 D10;exact ar (aG (cs:=bM { m with f:=p.s.id,tm:=p.s.term }) bk aP rfl ((hX.from_ D10).whole)) rfl
  constructor
  ·rintro-w11 D11;rintro v11_21 rfl;exact oq (qe (l:=[(0,.tmp 21)]) (cells:=(bM { m with f:=p.s.id,tm:=p.s.term }).toArray) h_ rfl rfl (by show Instr.fill _ _ [(0,Value.agg (bM { m with f:=p.s.id,tm:=p.s.term }).toArray)]=_;kernel_rfl)) (ai.rfl_.new _) ⟨_,rfl,Blk.new _ _ _⟩
  constructor
  ·intro h;cases h
  exact trivial
 case hmu=>
  rintro w13 D13;rintro v13_20 rfl v13_22 ⟨q13,rfl,hq13⟩;show u_ ..;refine ot (news:=bM { m with f:=p.s.id,tm:=p.s.term }) h_ rfl (by decide) rfl ((hs.m.o.kept_from hB).kept_from D13) (Nat.zero_le _) rfl rfl ⟨_,_,rfl,hq13.whole⟩ (by simp [bM,Value.oneCell']) (by omega) (by omega) ?_;intro A3 c3 w3 ho3 hg3 hl3;exact ⟨eS (D13.grown _) hg3,⟨A3,c3,rfl,ho3,fun k hk=>(hl3 k hk).imp id fun e=>Nat.le_trans D13.size e⟩,fun t u ht h=>ou (by repeat first | exact trivial | refine ⟨.inl rfl,?_⟩ | refine ⟨.inr (fun _ h=>h),?_⟩) t u ht h⟩
 case hend=>
  rintro w14 hG14;rintro _ rfl _ rfl _ rfl _ rfl v20 rfl v21 rfl v22 _ v23 ⟨A23,c23,rfl,ho23,hL23⟩;show St ..;have hgD:=hG14;have hgC:=hgB.chg (Chg.of_grown (U:=fun k=>tag k=6) hgD (fun k hk=>hs.m.c k hk)) (fun e=>by rw [hs.gc] at e;cases e);refine ab (ay rfl) (ab (aa jD rfl) (dD (v:=.slice _ _ _) oS rfl rfl rfl (hgC) (by show _<23;decide) ?_));intro w15 O3 P3;refine aj (cR (ey rfl (⟨rfl,h.push hs (x:={ m with f:=p.s.id,tm:=p.s.term }) hE hB hgD ho23 rfl (fun k hk=>(hL23 k hk).imp id fun e=>Nat.le_trans hB.size e) O3 P3⟩)))
theorem tq:aR prog 106=true:=by kernel_rfl
theorem mT:aR prog 61=true:=by kernel_rfl
theorem eT:aR prog 62=true:=by kernel_rfl
theorem u6:aR prog 63=true:=by kernel_rfl
theorem iO:aR prog 64=true:=by kernel_rfl
theorem fg:aR prog 66=true:=by kernel_rfl
theorem zF (n:Int) (w:World) :
 Rt prog 61 [.int .i64 n] w (fun v w'=>v=.bool (decide (1≤n∧n≤7))∧w=w'):=by
 refine enter (n:=9) Tryz.func61 rfl rfl rfl (ak (ag (asb rfl (aj (af (ak (ag (mvi rfl (ab (j7 rfl rfl) (mvb rfl (zt (t:=5) rfl (fun Q1=>?_) (fun Q1=>?_))))))))))))
 ·refine ae rfl (mvi rfl (ae rfl (ab (gu rfl rfl) (ab (aJ (v:=.bool _) rfl rfl) (asb rfl (aj (af (aC (bo (v:=.bool _) rfl rfl (⟨congrArg Value.bool ?_,rfl⟩))))))))))
  first
   |exact (decide_eq_true (by omega)).symm
   |exact (decide_eq_false (by omega)).symm
   |(rw [decide_eq_decide];omega)
 refine ao rfl rfl (ao rfl rfl (ab (aw (v:=.bool _) rfl rfl) (asb rfl (aj (af (aC (bo (v:=.bool _) rfl rfl (⟨congrArg Value.bool ?_,rfl⟩))))))))
 first
  |exact (decide_eq_true (by omega)).symm
  |exact (decide_eq_false (by omega)).symm
  |(rw [decide_eq_decide];omega)
theorem sF (n:Int) (w:World) :
 Rt prog 62 [.int .i64 n] w (fun v w'=>v=.bool (decide (0≤n∧n≤1099511627775))∧w=w'):=by
 refine enter (n:=9) Tryz.func62 rfl rfl rfl (ak (ag (asb rfl (aj (af (ak (ag (mvi rfl (ab (j7 rfl rfl) (mvb rfl (zt (t:=5) rfl (fun Q1=>?_) (fun Q1=>?_))))))))))))
 ·refine ae rfl (mvi rfl (ae rfl (ab (b_ rfl rfl) (ab (aJ (v:=.bool _) rfl rfl) (asb rfl (aj (af (aC (bo (v:=.bool _) rfl rfl (⟨congrArg Value.bool ?_,rfl⟩))))))))))
  first
   |exact (decide_eq_true (by omega)).symm
   |exact (decide_eq_false (by omega)).symm
   |(rw [decide_eq_decide];omega)
 refine ao rfl rfl (ao rfl rfl (ab (aw (v:=.bool _) rfl rfl) (asb rfl (aj (af (aC (bo (v:=.bool _) rfl rfl (⟨congrArg Value.bool ?_,rfl⟩))))))))
 first
  |exact (decide_eq_true (by omega)).symm
  |exact (decide_eq_false (by omega)).symm
  |(rw [decide_eq_decide];omega)
theorem Al (s:Rf) (E:Option Addr) (n c:Nat) (w:World) (h:cF w (.slice E n c) s.es):Rt prog 63 [.agg #[.int .i64 s.b,.int .i64 s.t,.slice E n c]] w fun v w'=>v=.bool (cD s.b s.t s.es)∧ai w w':=
 (Rt.of (xY s.b s.t _ s.es w h)).mono fun _ _ h=>h
def cg (l:List Int) (n lo hi:Int):Prop:=(l.length:Int)=n∧de lo hi l
instance (l:List Int) (n lo hi:Int):Decidable (cg l n lo hi):=by unfold cg;exact inferInstance
theorem yX (A:Option Addr) (c:Nat) (l:List Int) (w:World) (hr:eu iV w A l) (hl:l.length≤1000000) :
 Rt prog 106 [.slice A l.length c] w (fun v w'=>v=.bool (gv l)∧ai w w'):=by
 refine enter (n:=20) Tryz.func106 rfl rfl rfl (ak (ag (asb rfl (aj (af (ak (ak (ag (asi rfl (aj (af (bg (dd (G:=Nat) [2,4,5,6,7,8,9,10,11,12,13,14,15,16,17,18,19] (fun k=>[(3,.int .i64 (k:Nat))]) (fun k w'=>1≤k∧(k≤l.length∨k=1)∧(∀ j (h:j+1<l.length),j+1<k→l[j]<l[j+1])∧ai w w') (fun k=>l.length-k) (1) ⟨rfl,trivial⟩ ?_ ?_)))))))))))))
 ·exact ⟨Nat.le_refl _,.inr rfl,fun j _ h=>absurd h (by omega),ai.rfl_⟩
 rintro k ρ1 w1 ⟨hk0,hk,h2,hB⟩;refine ak (ak (ag (mvi rfl (mvs rfl (ab (bW cB rfl) (ab (b_ rfl rfl) (aj (af (Ab rfl (fun Q2=>?_) (fun Q2=>?_))))))))))
 ·have hkx:k<l.length:=by omega
  obtain ⟨ba,oa,rfl,hca⟩:=hr (by omega);refine aM (af (ak (bg (ak ?_))));apply bK 10 [(10,eqp _),(11,eqp _),(12,eqp _),(13,eqp (.int .i64 l[k])),(14,eqp _),(15,eqp _),(16,eqp (.int .i64 ((k-1:Nat):Int))),(17,eqp _),(18,eqp (.int .i64 l[k-1])),(19,eqp _)] (by repeat first | exact cj | refine ch ?_ | refine bQ ?_) (by kernel_rfl) (by kernel_rfl) ⟨ah _,ah _,ah _,ah _,ah _,ah _,ah _,ah _,ah _,ah _,trivial⟩
  case hop=>
   constructor
   ·rintro-w4 D4;exact ar (aH (v:=.slice _ _ _) rfl) rfl
   constructor
   ·rintro-w5 D5;exact ar (aH (v:=.int _ _) rfl) rfl
   constructor
   ·rintro-w6 D6;rintro _ rfl _ rfl;exact ar (dh db rfl rfl (by omega)) rfl
   constructor
   ·rintro-w7 D7;rintro _ rfl;exact ar (aq an rfl (by exact fq (hB.next D7) (hca k hkx))) rfl
   constructor
   ·rintro-w8 D8;exact ar (aH (v:=.slice _ _ _) rfl) rfl
   constructor
   ·rintro-w9 D9;exact ar (aH (v:=.int _ _) rfl) rfl
   constructor
   ·rintro-w10 D10;rintro _ rfl;exact ar (iD (eA rfl rfl (by omega)) (bT (by omega))) rfl
   constructor
   ·rintro-w11 D11;rintro _ rfl v11_16 rfl;exact ar (dh db rfl rfl (by omega)) rfl
   constructor
   ·rintro-w12 D12;rintro _ rfl;exact ar (aq an rfl (by exact fq (hB.next D12) (hca (k-1) (by omega)))) rfl
   constructor
   ·rintro-w13 D13;rintro v13_13 rfl v13_18 rfl;exact ar (gu rfl rfl) rfl
   exact trivial
  case hend=>
   intro w14 D14;rintro _ rfl _ rfl _ rfl v13 rfl _ rfl _ rfl v16 rfl _ rfl v18 rfl _ rfl;show St ..;refine aj (af (Ab rfl (fun Q15=>?_) (fun Q15=>?_)))
   ·refine ak (ag (asb rfl (aj (af (aC (aZ (az (az (aZ (az (bo (v:=.bool _) rfl rfl (⟨congrArg Value.bool ?_,(hB.next D14)⟩))))))))))));rw [eq_comm,←Bool.not_eq_true,iT];intro h4;obtain ⟨j,rfl⟩:∃ j,k=j+1:=⟨k-1,by omega⟩;have h6:=h4 j hkx
    (try simp only [Nat.add_sub_cancel] at*)
    omega
   refine aM (bE (af (ag (mvi rfl (ab (cq rfl rfl (by omega)) (asi rfl (aj ?_)))))));refine cu (k+1) ⟨(by first | rfl | (refine bT ?_;omega)),trivial⟩ (by (iterate 35 refine bI rfl ?_);exact bU) ⟨?_,?_⟩
   ·refine ⟨by omega,.inl (by omega),fun j h hj=>?_,(hB.next D14)⟩;rcases Nat.lt_or_ge (j+1) k with e | e
    ·exact h2 j h e
    ·obtain rfl:k=j+1:=by omega
     (try simp only [Nat.add_sub_cancel] at*)
     omega
   ·omega
 refine cI (bD (bD (cr (af (ak (ag (asb rfl (aj (af (aC (bo (v:=.bool _) rfl rfl (⟨congrArg Value.bool ?_,hB⟩))))))))))));rw [eq_comm,iT];exact fun j hj=>h2 j hj (by omega)
theorem mG (A:Option Addr) (c:Nat) (l:List Int) (n:Int) (w:World) (hr:eu iV w A l) (hl:l.length≤1000000) :
 Rt prog 64 [.slice A l.length c,.int .i64 n] w (fun v w'=>v=.bool (fE l n)∧ai w w'):=by
 refine enter (n:=27) Tryz.func64 rfl rfl rfl (ak (ag (asb rfl (aj (af (ak (ak (ag (asi rfl (aj (af (bg (dd (G:=Nat) [4,6,7,8,9,10,11,12,13,14,15,16,17,18,19,20,21,22,23,24] (fun k=>[(5,.int .i64 (k:Nat))]) (fun k w'=>k≤l.length∧(∀ j (h:j<l.length),j<k→1≤l[j]∧l[j]≤n)∧ai w w') (fun k=>l.length-k) (0) ⟨rfl,trivial⟩ ?_ ?_)))))))))))))
 ·exact ⟨Nat.zero_le _,fun j _ h=>absurd h (by omega),ai.rfl_⟩
 rintro k ρ1 w1 ⟨hk,h1,hB⟩;refine ak (ak (ag (mvi rfl (mvs rfl (ab (bW cB rfl) (ab (b_ rfl rfl) (aj (af (Ab rfl (fun Q2=>?_) (fun Q2=>?_))))))))))
 ·have hkx:k<l.length:=by omega
  obtain ⟨ba,oa,rfl,hca⟩:=hr (by omega);refine aM (af (ak (bg (ak (ag (mvs rfl (mvi rfl (ab (dh db rfl rfl (by omega)) (ab (aq an rfl (by exact fq hB (hca k hkx))) ?_)))))))));refine ab (b_ rfl rfl) (mvb rfl (zt (t:=17) rfl (fun Q3=>?_) (fun Q3=>?_)))
  ·refine bc rfl (aj (af (aL rfl (ak (ag (asb rfl (aj (af (aC (aZ (az (az (aZ (az (bo (v:=.bool _) rfl rfl (⟨congrArg Value.bool ?_,hB⟩))))))))))))))));rw [eq_comm,←Bool.not_eq_true,gV];rintro ⟨h3,h4⟩;have h5:=h3 _ (List.getElem_mem hkx);omega
  refine ae rfl (mvs rfl (ae rfl (mvi rfl (ae rfl (ab (dh db rfl rfl (by omega)) (ae rfl (ab (aq an rfl (by exact fq hB (hca k hkx))) ?_)))))));refine ae rfl (mvi rfl (ae rfl (ab (bS rfl rfl) (ab (aw (v:=.bool _) rfl rfl) (aj (af (Ab rfl (fun Q4=>?_) (fun Q4=>?_))))))))
  ·refine ak (ag (asb rfl (aj (af (aC (aZ (az (az (aZ (az (bo (v:=.bool _) rfl rfl (⟨congrArg Value.bool ?_,hB⟩))))))))))));rw [eq_comm,←Bool.not_eq_true,gV];rintro ⟨h3,h4⟩;have h5:=h3 _ (List.getElem_mem hkx);omega
  refine aM (bE (af (ag (mvi rfl (ab (cq rfl rfl (by omega)) (asi rfl (aj ?_)))))));refine cu (k+1) ⟨(by first | rfl | (refine bT ?_;omega)),trivial⟩ (by (iterate 42 refine bI rfl ?_);exact bU) ⟨?_,?_⟩
  ·refine ⟨by omega,fun j h hj=>?_,hB⟩;rcases Nat.lt_or_ge j k with e | e
   ·exact h1 j h e
   ·obtain rfl:j=k:=by omega
    omega
  ·omega
 refine cI (bD (bD (cr (af (ak (ag (mvs rfl (aB tq (yX A c l _ (hr.from_ hB) hl) ?_))))))));rintro v26 w5 ⟨rfl,E26⟩;refine asb rfl (aj (af (aC (bo (v:=.bool _) rfl rfl (⟨congrArg Value.bool ?_,(hB.next E26)⟩)))));obtain rfl:k=l.length:=by omega
 rw [Bool.eq_iff_iff,gV,iT];exact ⟨fun h=>⟨fun x hx=>by obtain ⟨j,hj,rfl⟩:=List.getElem_of_mem hx;exact h1 j hj hj,h⟩,fun h=>h.2⟩
theorem km (A:Option Addr) (c:Nat) (l:List Int) (n lo hi:Int) (w:World) (hr:eu iV w A l) (hl:l.length≤1000000) :
 Rt prog 66 [.slice A l.length c,.int .i64 n,.int .i64 lo,.int .i64 hi] w (fun v w'=>v=.bool (decide (cg l n lo hi))∧ai w w'):=by
 refine enter (n:=34) Tryz.func66 rfl rfl rfl (ak (ag (asb rfl (aj (af (ak (ak (ag (asi rfl (aj (af (bg (dd (G:=Nat) [8,10,11,12,13,14,15,16,17,18,19,20,21,22,23,24,25,26,27,28,29] (fun k=>[(9,.int .i64 (k:Nat))]) (fun k w'=>k≤l.length∧(∀ j (h:j<l.length),j<k→lo≤l[j]∧l[j]≤hi)∧ai w w') (fun k=>l.length-k) (0) ⟨rfl,trivial⟩ ?_ ?_)))))))))))))
 ·exact ⟨Nat.zero_le _,fun j _ h=>absurd h (by omega),ai.rfl_⟩
 rintro k ρ1 w1 ⟨hk,h1,hB⟩;refine ak (ak (ag (mvi rfl (mvs rfl (ab (bW cB rfl) (ab (b_ rfl rfl) (aj (af (Ab rfl (fun Q2=>?_) (fun Q2=>?_))))))))))
 ·have hkx:k<l.length:=by omega
  obtain ⟨ba,oa,rfl,hca⟩:=hr (by omega);refine aM (af (ak (bg (ak (ag (mvs rfl (mvi rfl (ab (dh db rfl rfl (by omega)) (ab (aq an rfl (by exact fq hB (hca k hkx))) ?_)))))))));refine mvi rfl (ab (b_ rfl rfl) (mvb rfl (zt (t:=22) rfl (fun Q3=>?_) (fun Q3=>?_))))
  ·refine bc rfl (aj (af (aL rfl (ak (ag (asb rfl (aj (af (aC (aZ (az (az (aZ (az (bo (v:=.bool _) rfl rfl (⟨congrArg Value.bool ?_,hB⟩))))))))))))))));rw [eq_comm,decide_eq_false_iff_not];rintro ⟨h3,h4⟩;have h5:=h4 _ (List.getElem_mem hkx);omega
  refine ae rfl (mvs rfl (ae rfl (mvi rfl (ae rfl (ab (dh db rfl rfl (by omega)) (ae rfl (ab (aq an rfl (by exact fq hB (hca k hkx))) ?_)))))));refine ae rfl (mvi rfl (ae rfl (ab (bS rfl rfl) (ab (aw (v:=.bool _) rfl rfl) (aj (af (Ab rfl (fun Q4=>?_) (fun Q4=>?_))))))))
  ·refine ak (ag (asb rfl (aj (af (aC (aZ (az (az (aZ (az (bo (v:=.bool _) rfl rfl (⟨congrArg Value.bool ?_,hB⟩))))))))))));rw [eq_comm,decide_eq_false_iff_not];rintro ⟨h3,h4⟩;have h5:=h4 _ (List.getElem_mem hkx);omega
  refine aM (bE (af (ag (mvi rfl (ab (cq rfl rfl (by omega)) (asi rfl (aj ?_)))))));refine cu (k+1) ⟨(by first | rfl | (refine bT ?_;omega)),trivial⟩ (by (iterate 44 refine bI rfl ?_);exact bU) ⟨?_,?_⟩
  ·refine ⟨by omega,fun j h hj=>?_,hB⟩;rcases Nat.lt_or_ge j k with e | e
   ·exact h1 j h e
   ·obtain rfl:j=k:=by omega
    omega
  ·omega
 refine cI (bD (bD (cr (af (ak (ag (mvs rfl (ab (bW cB rfl) (mvi rfl (ab (bj rfl rfl) (asb rfl (aj (af (aC (bo (v:=.bool _) rfl rfl ?_)))))))))))))));refine ⟨congrArg Value.bool ?_,hB⟩;obtain rfl:k=l.length:=by omega
 rw [Bool.eq_iff_iff,beq_iff_eq,decide_eq_true_eq];exact ⟨fun h=>⟨h,fun x hx=>by obtain ⟨j,hj,rfl⟩:=List.getElem_of_mem hx;exact h1 j hj hj⟩,fun h=>h.1⟩
theorem zf (s:ByteArray):(!(s.toList==(⟨#[]⟩:ByteArray).toList))=decide (s.size≠0):=by
 rw [yo,Bool.eq_iff_iff];simp
theorem xO (s:Rf) (a:Ra) (w:World) (hrd:eX w s a) (hl:s.votes.length≤1000000∧s.next.length≤1000000∧s.mtch.length≤1000000∧s.sent.length≤1000000∧s.reads.length≤1000000∧∀ q∈s.reads,q.acks.length≤1000000) :
 Rt prog 30 [.agg (rfV s a).toArray] w (fun v w'=>v=.bool (ik s)∧ai w w'):=by
 obtain ⟨E,Ec,V,Vc,X,Xc,M,Mc,Sn,Sc,Q,Qc,LL⟩:=a;have hrL:LL.map (fun q=>q.1)=s.reads:=hrd.r;have hrk:∀ q∈LL,IR w q.2.1 q.2.2 q.1.acks:=hrd.k;obtain ⟨hl1,hl2,hl3,hl4,hl5,hl6⟩:=hl;have hrl:LL.length=s.reads.length:=by rw [←hrL,List.length_map]
 obtain ⟨nn,hnn⟩:∃ nn:Int,(s.role=2→nn=s.nodes)∧(s.role≠2→nn=0):=by
  by_cases h:s.role=2
  ·exact ⟨s.nodes,fun _=>rfl,fun e=>absurd h e⟩
  ·exact ⟨0,fun e=>absurd e h,fun _=>rfl⟩
 refine enter (n:=259) Tryz.func30 rfl rfl rfl (ak (ag (bZ (v:=.agg _) rfl ?_)));intro b1 w1 E1 hb1 hk1;refine asb rfl (aj (af (ak (ak (ag (ab (aa bX rfl) (ab (aq an rfl (by exact (hk1.from_ ai.rfl_).rd 1 rfl)) ?_)))))));refine aB mT (zF s.nodes _) ?_;rintro v10 w2 ⟨rfl,rfl⟩;refine ab (cl rfl) (mvb rfl (aF (t:=12) rfl (fun Q3=>?_) (fun Q3=>?_)))
 ·with_reducible (replace Q3:=dw Q3;replace Q3:=dF_ Q3)
  (try simp only [bs9] at Q3)
  refine bc rfl (aj (af (aL rfl (ak (ag (asb rfl (aj (af (aC (az (bo (v:=.bool _) rfl rfl (⟨congrArg Value.bool ?_,(ai.rfl_.next E1)⟩))))))))))));rw [eq_comm,←Bool.not_eq_true,bh];rintro ⟨⟨n1,n2,n3,⟨n4,n5⟩,n6,n7,n8,n9⟩,⟨g1,g2,g3,g4,g5⟩,v1,l1,⟨p1,p2,p3⟩⟩
  first
   |omega
   |(simp_all;done)
   |(simp_all;omega)
 with_reducible (replace Q3:=dy Q3;replace Q3:=dT_ Q3)
 (try simp only [bs9] at Q3)
 refine ae rfl (ab (aa cM rfl) (ae rfl (ab (aq an rfl (by exact (hk1.from_ ai.rfl_).rd 0 rfl)) ?_)));refine ae rfl (ab (b_ rfl rfl) (ab (aw (v:=.bool _) rfl rfl) (mvb rfl (zt (t:=17) rfl (fun Q4=>?_) (fun Q4=>?_)))))
 ·(try simp only [bs9] at Q4)
  refine bc rfl (aj (af (aL rfl (ak (ag (asb rfl (aj (af (aC (az (bo (v:=.bool _) rfl rfl (⟨congrArg Value.bool ?_,(ai.rfl_.next E1)⟩))))))))))));rw [eq_comm,←Bool.not_eq_true,bh];rintro ⟨⟨n1,n2,n3,⟨n4,n5⟩,n6,n7,n8,n9⟩,⟨g1,g2,g3,g4,g5⟩,v1,l1,⟨p1,p2,p3⟩⟩
  first
   |omega
   |(simp_all;done)
   |(simp_all;omega)
 (try simp only [bs9] at Q4)
 refine ae rfl (ab (aa cM rfl) (ae rfl (ab (aq an rfl (by exact (hk1.from_ ai.rfl_).rd 0 rfl)) ?_)));refine ae rfl (ab (aa bX rfl) (ae rfl (ab (aq an rfl (by exact (hk1.from_ ai.rfl_).rd 1 rfl)) ?_)));refine ae rfl (ab (bS rfl rfl) (ab (aw (v:=.bool _) rfl rfl) (mvb rfl (zt (t:=24) rfl (fun Q5=>?_) (fun Q5=>?_)))))
 ·(try simp only [bs9] at Q5)
  refine bc rfl (aj (af (aL rfl (ak (ag (asb rfl (aj (af (aC (az (bo (v:=.bool _) rfl rfl (⟨congrArg Value.bool ?_,(ai.rfl_.next E1)⟩))))))))))));rw [eq_comm,←Bool.not_eq_true,bh];rintro ⟨⟨n1,n2,n3,⟨n4,n5⟩,n6,n7,n8,n9⟩,⟨g1,g2,g3,g4,g5⟩,v1,l1,⟨p1,p2,p3⟩⟩
  first
   |omega
   |(simp_all;done)
   |(simp_all;omega)
 (try simp only [bs9] at Q5)
 refine ae rfl (ab (aa du rfl) (ae rfl (ab (aq an rfl (by exact (hk1.from_ ai.rfl_).rd 2 rfl)) ?_)));refine ae rfl (ab (b_ rfl rfl) (ab (aw (v:=.bool _) rfl rfl) (mvb rfl (zt (t:=29) rfl (fun Q6=>?_) (fun Q6=>?_)))))
 ·(try simp only [bs9] at Q6)
  refine bc rfl (aj (af (aL rfl (ak (ag (asb rfl (aj (af (aC (az (bo (v:=.bool _) rfl rfl (⟨congrArg Value.bool ?_,(ai.rfl_.next E1)⟩))))))))))));rw [eq_comm,←Bool.not_eq_true,bh];rintro ⟨⟨n1,n2,n3,⟨n4,n5⟩,n6,n7,n8,n9⟩,⟨g1,g2,g3,g4,g5⟩,v1,l1,⟨p1,p2,p3⟩⟩
  first
   |omega
   |(simp_all;done)
   |(simp_all;omega)
 (try simp only [bs9] at Q6)
 refine ae rfl (ab (aa du rfl) (ae rfl (ab (aq an rfl (by exact (hk1.from_ ai.rfl_).rd 2 rfl)) ?_)));refine ae rfl (ab (bS rfl rfl) (ab (aw (v:=.bool _) rfl rfl) (mvb rfl (zt (t:=34) rfl (fun Q7=>?_) (fun Q7=>?_)))))
 ·(try simp only [bs9] at Q7)
  refine bc rfl (aj (af (aL rfl (ak (ag (asb rfl (aj (af (aC (az (bo (v:=.bool _) rfl rfl (⟨congrArg Value.bool ?_,(ai.rfl_.next E1)⟩))))))))))));rw [eq_comm,←Bool.not_eq_true,bh];rintro ⟨⟨n1,n2,n3,⟨n4,n5⟩,n6,n7,n8,n9⟩,⟨g1,g2,g3,g4,g5⟩,v1,l1,⟨p1,p2,p3⟩⟩
  first
   |omega
   |(simp_all;done)
   |(simp_all;omega)
 (try simp only [bs9] at Q7)
 refine ae rfl (ab (aa bt rfl) (ae rfl (ab (aq an rfl (by exact (hk1.from_ ai.rfl_).rd 3 rfl)) ?_)));refine ae rfl (aB eT (sF s.term _) ?_);rintro v37 w8 ⟨rfl,rfl⟩;refine ae rfl (ab (cl rfl) (ab (aw (v:=.bool _) rfl rfl) (mvb rfl (aF (t:=40) rfl (fun Q9=>?_) (fun Q9=>?_)))))
 ·with_reducible (replace Q9:=dw Q9;replace Q9:=dF_ Q9)
  (try simp only [bs9] at Q9)
  refine bc rfl (aj (af (aL rfl (ak (ag (asb rfl (aj (af (aC (az (bo (v:=.bool _) rfl rfl (⟨congrArg Value.bool ?_,(ai.rfl_.next E1)⟩))))))))))));rw [eq_comm,←Bool.not_eq_true,bh];rintro ⟨⟨n1,n2,n3,⟨n4,n5⟩,n6,n7,n8,n9⟩,⟨g1,g2,g3,g4,g5⟩,v1,l1,⟨p1,p2,p3⟩⟩
  first
   |omega
   |(simp_all;done)
   |(simp_all;omega)
 with_reducible (replace Q9:=dy Q9;replace Q9:=dT_ Q9)
 (try simp only [bs9] at Q9)
 refine ae rfl (ab (aa bY rfl) (ae rfl (ab (aq an rfl (by exact (hk1.from_ ai.rfl_).rd 4 rfl)) ?_)));refine ae rfl (ab (b_ rfl rfl) (ab (aw (v:=.bool _) rfl rfl) (mvb rfl (zt (t:=45) rfl (fun Q10=>?_) (fun Q10=>?_)))))
 ·(try simp only [bs9] at Q10)
  refine bc rfl (aj (af (aL rfl (ak (ag (asb rfl (aj (af (aC (az (bo (v:=.bool _) rfl rfl (⟨congrArg Value.bool ?_,(ai.rfl_.next E1)⟩))))))))))));rw [eq_comm,←Bool.not_eq_true,bh];rintro ⟨⟨n1,n2,n3,⟨n4,n5⟩,n6,n7,n8,n9⟩,⟨g1,g2,g3,g4,g5⟩,v1,l1,⟨p1,p2,p3⟩⟩
  first
   |omega
   |(simp_all;done)
   |(simp_all;omega)
 (try simp only [bs9] at Q10)
 refine ae rfl (ab (aa bY rfl) (ae rfl (ab (aq an rfl (by exact (hk1.from_ ai.rfl_).rd 4 rfl)) ?_)));refine ae rfl (ab (aa bX rfl) (ae rfl (ab (aq an rfl (by exact (hk1.from_ ai.rfl_).rd 1 rfl)) ?_)));refine ae rfl (ab (bS rfl rfl) (ab (aw (v:=.bool _) rfl rfl) (mvb rfl (zt (t:=52) rfl (fun Q11=>?_) (fun Q11=>?_)))))
 ·(try simp only [bs9] at Q11)
  refine bc rfl (aj (af (aL rfl (ak (ag (asb rfl (aj (af (aC (az (bo (v:=.bool _) rfl rfl (⟨congrArg Value.bool ?_,(ai.rfl_.next E1)⟩))))))))))));rw [eq_comm,←Bool.not_eq_true,bh];rintro ⟨⟨n1,n2,n3,⟨n4,n5⟩,n6,n7,n8,n9⟩,⟨g1,g2,g3,g4,g5⟩,v1,l1,⟨p1,p2,p3⟩⟩
  first
   |omega
   |(simp_all;done)
   |(simp_all;omega)
 (try simp only [bs9] at Q11)
 refine ae rfl (ab (aa eQ rfl) (ae rfl (ab (aq an rfl (by exact (hk1.from_ ai.rfl_).rd 5 rfl)) ?_)));refine ae rfl (ab (b_ rfl rfl) (ab (aw (v:=.bool _) rfl rfl) (mvb rfl (zt (t:=57) rfl (fun Q12=>?_) (fun Q12=>?_)))))
 ·(try simp only [bs9] at Q12)
  refine bc rfl (aj (af (aL rfl (ak (ag (asb rfl (aj (af (aC (az (bo (v:=.bool _) rfl rfl (⟨congrArg Value.bool ?_,(ai.rfl_.next E1)⟩))))))))))));rw [eq_comm,←Bool.not_eq_true,bh];rintro ⟨⟨n1,n2,n3,⟨n4,n5⟩,n6,n7,n8,n9⟩,⟨g1,g2,g3,g4,g5⟩,v1,l1,⟨p1,p2,p3⟩⟩
  first
   |omega
   |(simp_all;done)
   |(simp_all;omega)
 (try simp only [bs9] at Q12)
 refine ae rfl (ab (aa eQ rfl) (ae rfl (ab (aq an rfl (by exact (hk1.from_ ai.rfl_).rd 5 rfl)) ?_)));refine ae rfl (ab (aa bX rfl) (ae rfl (ab (aq an rfl (by exact (hk1.from_ ai.rfl_).rd 1 rfl)) ?_)));refine ae rfl (ab (bS rfl rfl) (ab (aw (v:=.bool _) rfl rfl) (mvb rfl (zt (t:=64) rfl (fun Q13=>?_) (fun Q13=>?_)))))
 ·(try simp only [bs9] at Q13)
  refine bc rfl (aj (af (aL rfl (ak (ag (asb rfl (aj (af (aC (az (bo (v:=.bool _) rfl rfl (⟨congrArg Value.bool ?_,(ai.rfl_.next E1)⟩))))))))))));rw [eq_comm,←Bool.not_eq_true,bh];rintro ⟨⟨n1,n2,n3,⟨n4,n5⟩,n6,n7,n8,n9⟩,⟨g1,g2,g3,g4,g5⟩,v1,l1,⟨p1,p2,p3⟩⟩
  first
   |omega
   |(simp_all;done)
   |(simp_all;omega)
 (try simp only [bs9] at Q13)
 refine ae rfl (ab (aa bq rfl) (ae rfl (ab (aG (cs:=[.int .i64 s.b,.int .i64 s.t,.slice E s.es.length Ec]) bB bd rfl (nD (hk1.from_ ai.rfl_))) (ae rfl (aB u6 (Al s E s.es.length Ec _ (hrd.e.from_ (ai.rfl_.next E1))) ?_)))));rintro v67 w14 ⟨rfl,E67⟩;refine ae rfl (ab (cl rfl) (ab (aw (v:=.bool _) rfl rfl) (mvb rfl (zq (t:=70) rfl (fun Q15=>?_) (fun Q15=>?_)))))
 ·(try simp only [bs9] at Q15)
  refine bc rfl (aj (af (aL rfl (ak (ag (asb rfl (aj (af (aC (az (bo (v:=.bool _) rfl rfl (⟨congrArg Value.bool ?_,((ai.rfl_.next E1).next E67)⟩))))))))))));rw [eq_comm,←Bool.not_eq_true,bh];rintro ⟨⟨n1,n2,n3,⟨n4,n5⟩,n6,n7,n8,n9⟩,⟨g1,g2,g3,g4,g5⟩,v1,l1,⟨p1,p2,p3⟩⟩
  first
   |omega
   |(simp_all;done)
   |(simp_all;omega)
 (try simp only [bs9] at Q15)
 refine ae rfl (ab (aa dF rfl) (ae rfl (ab (aq cK rfl (by exact (hk1.from_ (ai.rfl_.next E67)).rd 9 rfl)) ?_)));refine ae rfl (ab (eG (by kernel_rfl) rfl) (ae rfl (ab (bS rfl rfl) (ab (aw (v:=.bool _) rfl rfl) (mvb rfl (zt (t:=76) rfl (fun Q16=>?_) (fun Q16=>?_)))))))
 ·(try simp only [bs9] at Q16)
  refine bc rfl (aj (af (aL rfl (ak (ag (asb rfl (aj (af (aC (az (bo (v:=.bool _) rfl rfl (⟨congrArg Value.bool ?_,((ai.rfl_.next E1).next E67)⟩))))))))))));rw [eq_comm,←Bool.not_eq_true,bh];rintro ⟨⟨n1,n2,n3,⟨n4,n5⟩,n6,n7,n8,n9⟩,⟨g1,g2,g3,g4,g5⟩,v1,l1,⟨p1,p2,p3⟩⟩
  first
   |omega
   |(simp_all;done)
   |(simp_all;omega)
 (try simp only [bs9] at Q16)
 refine ae rfl (ab (aa bq rfl) (ae rfl (ab (aa dH rfl) (ae rfl (ab (aq an rfl (by exact (hk1.from_ (ai.rfl_.next E67)).rd 6 rfl)) ?_)))));refine ae rfl (ab (bj rfl rfl) (ae rfl (mvb rfl (zt (t:=81) rfl (fun Q17=>?_) (fun Q17=>?_)))))
 ·(try simp only [bs9] at Q17)
  refine ae rfl (ab (aa dF rfl) (ae rfl (ab (aq cK rfl (by exact (hk1.from_ (ai.rfl_.next E67)).rd 9 rfl)) ?_)));refine ae rfl (ab (iD (qd rfl rfl) (congrArg Value.bool (zf s.snap))) (ae rfl (ab (aJ (v:=.bool _) rfl rfl) (ab (aw (v:=.bool _) rfl rfl) (mvb rfl (zt (t:=87) rfl (fun Q18=>?_) (fun Q18=>?_)))))))
  ·(try simp only [bs9] at Q18)
   refine bc rfl (aj (af (aL rfl (ak (ag (asb rfl (aj (af (aC (az (bo (v:=.bool _) rfl rfl (⟨congrArg Value.bool ?_,((ai.rfl_.next E1).next E67)⟩))))))))))));rw [eq_comm,←Bool.not_eq_true,bh];rintro ⟨⟨n1,n2,n3,⟨n4,n5⟩,n6,n7,n8,n9⟩,⟨g1,g2,g3,g4,g5⟩,v1,l1,⟨p1,p2,p3⟩⟩
   first
    |omega
    |(simp_all;done)
    |(simp_all;omega)
  (try simp only [bs9] at Q18)
  refine ae rfl (ab (aa c_ rfl) (ae rfl (ab (aq an rfl (by exact (hk1.from_ (ai.rfl_.next E67)).rd 11 rfl)) ?_)));refine ae rfl (aB eT (sF s.elapsed _) ?_);rintro v90 w19 ⟨rfl,rfl⟩;refine ae rfl (ab (cl rfl) (ab (aw (v:=.bool _) rfl rfl) (mvb rfl (aF (t:=93) rfl (fun Q20=>?_) (fun Q20=>?_)))))
  ·with_reducible (replace Q20:=dw Q20;replace Q20:=dF_ Q20)
   (try simp only [bs9] at Q20)
   refine bc rfl (aj (af (aL rfl (ak (ag (asb rfl (aj (af (aC (az (bo (v:=.bool _) rfl rfl (⟨congrArg Value.bool ?_,((ai.rfl_.next E1).next E67)⟩))))))))))));rw [eq_comm,←Bool.not_eq_true,bh];rintro ⟨⟨n1,n2,n3,⟨n4,n5⟩,n6,n7,n8,n9⟩,⟨g1,g2,g3,g4,g5⟩,v1,l1,⟨p1,p2,p3⟩⟩
   first
    |omega
    |(simp_all;done)
    |(simp_all;omega)
  with_reducible (replace Q20:=dy Q20;replace Q20:=dT_ Q20)
  (try simp only [bs9] at Q20)
  refine ae rfl (ab (aa eY rfl) (ae rfl (ab (aq an rfl (by exact (hk1.from_ (ai.rfl_.next E67)).rd 12 rfl)) ?_)));refine ae rfl (aB eT (sF s.timeout _) ?_);rintro v96 w21 ⟨rfl,rfl⟩;refine ae rfl (ab (cl rfl) (ab (aw (v:=.bool _) rfl rfl) (mvb rfl (aF (t:=99) rfl (fun Q22=>?_) (fun Q22=>?_)))))
  ·with_reducible (replace Q22:=dw Q22;replace Q22:=dF_ Q22)
   (try simp only [bs9] at Q22)
   refine bc rfl (aj (af (aL rfl (ak (ag (asb rfl (aj (af (aC (az (bo (v:=.bool _) rfl rfl (⟨congrArg Value.bool ?_,((ai.rfl_.next E1).next E67)⟩))))))))))));rw [eq_comm,←Bool.not_eq_true,bh];rintro ⟨⟨n1,n2,n3,⟨n4,n5⟩,n6,n7,n8,n9⟩,⟨g1,g2,g3,g4,g5⟩,v1,l1,⟨p1,p2,p3⟩⟩
   first
    |omega
    |(simp_all;done)
    |(simp_all;omega)
  with_reducible (replace Q22:=dy Q22;replace Q22:=dT_ Q22)
  (try simp only [bs9] at Q22)
  refine ae rfl (ab (aa dA rfl) (ae rfl (ab (aq an rfl (by exact (hk1.from_ (ai.rfl_.next E67)).rd 18 rfl)) ?_)));refine ae rfl (aB eT (sF s.round _) ?_);rintro v102 w23 ⟨rfl,rfl⟩;refine ae rfl (ab (cl rfl) (ab (aw (v:=.bool _) rfl rfl) (mvb rfl (aF (t:=105) rfl (fun Q24=>?_) (fun Q24=>?_)))))
  ·with_reducible (replace Q24:=dw Q24;replace Q24:=dF_ Q24)
   (try simp only [bs9] at Q24)
   refine bc rfl (aj (af (aL rfl (ak (ag (asb rfl (aj (af (aC (az (bo (v:=.bool _) rfl rfl (⟨congrArg Value.bool ?_,((ai.rfl_.next E1).next E67)⟩))))))))))));rw [eq_comm,←Bool.not_eq_true,bh];rintro ⟨⟨n1,n2,n3,⟨n4,n5⟩,n6,n7,n8,n9⟩,⟨g1,g2,g3,g4,g5⟩,v1,l1,⟨p1,p2,p3⟩⟩
   first
    |omega
    |(simp_all;done)
    |(simp_all;omega)
  with_reducible (replace Q24:=dy Q24;replace Q24:=dT_ Q24)
  (try simp only [bs9] at Q24)
  refine ae rfl (ab (aa di rfl) (ae rfl (ab (aq bn rfl (by exact (show _=some (Value.slice V s.votes.length Vc) from (hk1.from_ (ai.rfl_.next E67)).rd 14 rfl))) ?_)));refine ae rfl (ab (aa bX rfl) (ae rfl (ab (aq an rfl (by exact (hk1.from_ (ai.rfl_.next E67)).rd 1 rfl)) ?_)));refine ae rfl (aB iO (mG V Vc s.votes s.nodes _ (hrd.v.1.from_ ((ai.rfl_.next E1).next E67)) hl1) ?_);rintro v110 w25 ⟨rfl,E110⟩;refine ae rfl (ab (cl rfl) (ab (aw (v:=.bool _) rfl rfl) (aj (af (z_ rfl (fun Q26=>?_) (fun Q26=>?_))))))
  ·(try simp only [bs9] at Q26)
   refine ak (ag (asb rfl (aj (af (aC (az (bo (v:=.bool _) rfl rfl (⟨congrArg Value.bool ?_,(((ai.rfl_.next E1).next E67).next E110)⟩))))))));rw [eq_comm,←Bool.not_eq_true,bh];rintro ⟨⟨n1,n2,n3,⟨n4,n5⟩,n6,n7,n8,n9⟩,⟨g1,g2,g3,g4,g5⟩,v1,l1,⟨p1,p2,p3⟩⟩
   first
    |omega
    |(simp_all;done)
    |(simp_all;omega)
  (try simp only [bs9] at Q26)
  refine aM (af (ak (ag (ab (aa bq rfl) (ab (aG (cs:=[.int .i64 s.b,.int .i64 s.t,.slice E s.es.length Ec]) bB bd rfl (nD (hk1.from_ ((ai.rfl_.next E67).next E110)))) ?_)))));have hm1:cD s.b s.t s.es=true:=by first | assumption | simp_all
  have hbl:=fT hm1;have hlr:bH s=s.b+s.es.length:=hbl.1;refine aB gO (lT s E s.es.length Ec _ (hrd.e.from_ (((ai.rfl_.next E1).next E67).next E110)) hm1) ?_;rintro v116 w27 ⟨rfl,E116⟩;refine mvt rfl (ab (aY rfl rfl) (ab (aY rfl rfl) (asi rfl (asi rfl (aj (af (ak (ak (ag (mvi rfl (ab (aa bt rfl) (ab (aq an rfl (by exact (hk1.from_ (((ai.rfl_.next E67).next E110).next E116)).rd 3 rfl)) ?_))))))))))));refine ab (bS rfl rfl) (aj (af (Ab rfl (fun Q28=>?_) (fun Q28=>?_))))
  ·refine ak (ag (asb rfl (aj (af (aC (az (bo (v:=.bool _) rfl rfl (⟨congrArg Value.bool ?_,((((ai.rfl_.next E1).next E67).next E110).next E116)⟩))))))));rw [eq_comm,←Bool.not_eq_true,bh];rintro ⟨⟨n1,n2,n3,⟨n4,n5⟩,n6,n7,n8,n9⟩,⟨g1,g2,g3,g4,g5⟩,v1,l1,⟨p1,p2,p3⟩⟩
   first
    |omega
    |(simp_all;done)
    |(simp_all;omega)
  refine aM (af (ak (ak (ag (ab (aa dr rfl) (ab (aq an rfl (by exact (hk1.from_ (((ai.rfl_.next E67).next E110).next E116)).rd 10 rfl)) ?_))))));refine ab (aa bq rfl) (ab (aa dH rfl) (ab (aq an rfl (by exact (hk1.from_ (((ai.rfl_.next E67).next E110).next E116)).rd 6 rfl)) ?_));refine ab (b_ rfl rfl) (mvb rfl (zt (t:=129) rfl (fun Q29=>?_) (fun Q29=>?_)))
  ·(try simp only [bs9] at Q29)
   refine bc rfl (aj (af (aL rfl (ak (ag (asb rfl (aj (af (aC (az (bo (v:=.bool _) rfl rfl (⟨congrArg Value.bool ?_,((((ai.rfl_.next E1).next E67).next E110).next E116)⟩))))))))))));rw [eq_comm,←Bool.not_eq_true,bh];rintro ⟨⟨n1,n2,n3,⟨n4,n5⟩,n6,n7,n8,n9⟩,⟨g1,g2,g3,g4,g5⟩,v1,l1,⟨p1,p2,p3⟩⟩
   first
    |omega
    |(simp_all;done)
    |(simp_all;omega)
  (try simp only [bs9] at Q29)
  refine ae rfl (ab (aa dr rfl) (ae rfl (ab (aq an rfl (by exact (hk1.from_ (((ai.rfl_.next E67).next E110).next E116)).rd 10 rfl)) ?_)));refine ae rfl (mvi rfl (ae rfl (ab (bS rfl rfl) (ab (aw (v:=.bool _) rfl rfl) (mvb rfl (zt (t:=135) rfl (fun Q30=>?_) (fun Q30=>?_)))))))
  ·(try simp only [bs9] at Q30)
   refine bc rfl (aj (af (aL rfl (ak (ag (asb rfl (aj (af (aC (az (bo (v:=.bool _) rfl rfl (⟨congrArg Value.bool ?_,((((ai.rfl_.next E1).next E67).next E110).next E116)⟩))))))))))));rw [eq_comm,←Bool.not_eq_true,bh];rintro ⟨⟨n1,n2,n3,⟨n4,n5⟩,n6,n7,n8,n9⟩,⟨g1,g2,g3,g4,g5⟩,v1,l1,⟨p1,p2,p3⟩⟩
   first
    |omega
    |(simp_all;done)
    |(simp_all;omega)
  (try simp only [bs9] at Q30)
  refine ae rfl (ab (aa dS rfl) (ae rfl (ab (aq cK rfl (by exact (hk1.from_ (((ai.rfl_.next E67).next E110).next E116)).rd 20 rfl)) ?_)));refine ae rfl (ab (eG (by kernel_rfl) rfl) (ae rfl (ab (bS rfl rfl) (ab (aw (v:=.bool _) rfl rfl) (mvb rfl (zt (t:=141) rfl (fun Q31=>?_) (fun Q31=>?_)))))))
  ·(try simp only [bs9] at Q31)
   refine bc rfl (aj (af (aL rfl (ak (ag (asb rfl (aj (af (aC (az (bo (v:=.bool _) rfl rfl (⟨congrArg Value.bool ?_,((((ai.rfl_.next E1).next E67).next E110).next E116)⟩))))))))))));rw [eq_comm,←Bool.not_eq_true,bh];rintro ⟨⟨n1,n2,n3,⟨n4,n5⟩,n6,n7,n8,n9⟩,⟨g1,g2,g3,g4,g5⟩,v1,l1,⟨p1,p2,p3⟩⟩
   first
    |omega
    |(simp_all;done)
    |(simp_all;omega)
  (try simp only [bs9] at Q31)
  refine ae rfl (ab (aa dJ rfl) (ae rfl (ab (aq an rfl (by exact (hk1.from_ (((ai.rfl_.next E67).next E110).next E116)).rd 21 rfl)) ?_)));refine ae rfl (ab (b_ rfl rfl) (ab (aw (v:=.bool _) rfl rfl) (mvb rfl (zt (t:=146) rfl (fun Q32=>?_) (fun Q32=>?_)))))
  ·(try simp only [bs9] at Q32)
   refine bc rfl (aj (af (aL rfl (ak (ag (asb rfl (aj (af (aC (az (bo (v:=.bool _) rfl rfl (⟨congrArg Value.bool ?_,((((ai.rfl_.next E1).next E67).next E110).next E116)⟩))))))))))));rw [eq_comm,←Bool.not_eq_true,bh];rintro ⟨⟨n1,n2,n3,⟨n4,n5⟩,n6,n7,n8,n9⟩,⟨g1,g2,g3,g4,g5⟩,v1,l1,⟨p1,p2,p3⟩⟩
   first
    |omega
    |(simp_all;done)
    |(simp_all;omega)
  (try simp only [bs9] at Q32)
  refine ae rfl (ab (aa dJ rfl) (ae rfl (ab (aq an rfl (by exact (hk1.from_ (((ai.rfl_.next E67).next E110).next E116)).rd 21 rfl)) ?_)));refine ae rfl (ab (bS rfl rfl) (ab (aw (v:=.bool _) rfl rfl) (mvb rfl (zt (t:=151) rfl (fun Q33=>?_) (fun Q33=>?_)))))
  ·(try simp only [bs9] at Q33)
   refine bc rfl (aj (af (aL rfl (ak (ag (asb rfl (aj (af (aC (az (bo (v:=.bool _) rfl rfl (⟨congrArg Value.bool ?_,((((ai.rfl_.next E1).next E67).next E110).next E116)⟩))))))))))));rw [eq_comm,←Bool.not_eq_true,bh];rintro ⟨⟨n1,n2,n3,⟨n4,n5⟩,n6,n7,n8,n9⟩,⟨g1,g2,g3,g4,g5⟩,v1,l1,⟨p1,p2,p3⟩⟩
   first
    |omega
    |(simp_all;done)
    |(simp_all;omega)
  (try simp only [bs9] at Q33)
  refine ae rfl (ab (aa dJ rfl) (ae rfl (ab (aq an rfl (by exact (hk1.from_ (((ai.rfl_.next E67).next E110).next E116)).rd 21 rfl)) ?_)));refine ae rfl (ab (bj rfl rfl) (ae rfl (mvb rfl (zt (t:=155) rfl (fun Q34=>?_) (fun Q34=>?_)))))
  ·(try simp only [bs9] at Q34)
   refine ae rfl (ab (aa dS rfl) (ae rfl (ab (aq cK rfl (by exact (hk1.from_ (((ai.rfl_.next E67).next E110).next E116)).rd 20 rfl)) ?_)));refine ae rfl (ab (iD (qd rfl rfl) (congrArg Value.bool (zf s.part))) (ae rfl (ab (aJ (v:=.bool _) rfl rfl) (ab (aw (v:=.bool _) rfl rfl) (aj (af (Ab rfl (fun Q35=>?_) (fun Q35=>?_))))))))
   ·(try simp only [bs9] at Q35)
    refine ak (ag (asb rfl (aj (af (aC (az (bo (v:=.bool _) rfl rfl (⟨congrArg Value.bool ?_,((((ai.rfl_.next E1).next E67).next E110).next E116)⟩))))))));rw [eq_comm,←Bool.not_eq_true,bh];rintro ⟨⟨n1,n2,n3,⟨n4,n5⟩,n6,n7,n8,n9⟩,⟨g1,g2,g3,g4,g5⟩,v1,l1,⟨p1,p2,p3⟩⟩
    first
     |omega
     |(simp_all;done)
     |(simp_all;omega)
   (try simp only [bs9] at Q35)
   refine aM (af (ak (ag (asi rfl (aj (af (iz (G:=Unit) [161,162,163,164,165] (fun _=>[(5,.int .i64 nn)]) (fun _ w'=>Blk w' b1 29 (rfV s (⟨E,Ec,V,Vc,X,Xc,M,Mc,Sn,Sc,Q,Qc,LL⟩:Ra)).toArray∧ai w w') ?_ ?_)))))))
   ·refine ak (ag (ab (aa du rfl) (ab (aq an rfl (by exact (hk1.from_ (((ai.rfl_.next E67).next E110).next E116)).rd 2 rfl)) ?_)));refine ab (bj rfl rfl) (aj (af (Ab rfl (fun Q36=>?_) (fun Q36=>?_))))
    ·refine ag (ab (aa bX rfl) (ab (aq an rfl (by exact (hk1.from_ (((ai.rfl_.next E67).next E110).next E116)).rd 1 rfl)) ?_));refine asi rfl (aj ?_);refine cu (()) ⟨(bT (by first | exact (hnn.1 (by omega)).symm | exact (hnn.2 (by omega)).symm)),trivial⟩ (by (iterate 6 refine bI rfl ?_);exact bU) ?_;exact ⟨hk1.from_ (((ai.rfl_.next E67).next E110).next E116),((((ai.rfl_.next E1).next E67).next E110).next E116)⟩
    refine aM ?_;refine cu (()) ⟨(bT (by first | exact (hnn.1 (by omega)).symm | exact (hnn.2 (by omega)).symm)),trivial⟩ (by (iterate 3 refine bI rfl ?_);exact bU) ?_;exact ⟨hk1.from_ (((ai.rfl_.next E67).next E110).next E116),((((ai.rfl_.next E1).next E67).next E110).next E116)⟩
   rintro ⟨⟩ ρ37 w37 ⟨hk1,hB⟩;refine iz (G:=Unit) [2,166,167,168,169,170,171,172,173,174,175,176,177,178,179,180,181,182,183,184,185,186,187,188,189,190,191,192,193,194,195,196,197,198,199,200,201,202,203,204,205,206] (fun _=>[]) (fun _ w'=>cg s.next nn 1 (bH s+1)∧cg s.mtch nn 0 (bH s)∧cg s.sent nn 0 (s.snap.size:Nat)∧LL.length≤32∧(nn≠0∨LL.length=0)∧Blk w' b1 29 (rfV s (⟨E,Ec,V,Vc,X,Xc,M,Mc,Sn,Sc,Q,Qc,LL⟩:Ra)).toArray∧ai w w') ?_ ?_
   ·refine ak (ag (ab (aa cL rfl) (ab (aq bn rfl (by exact (show _=some (Value.slice X s.next.length Xc) from (hk1.from_ ai.rfl_).rd 15 rfl))) ?_)));refine mvi rfl (mvi rfl (ab (cq rfl rfl (by omega)) (aB fg (km X Xc s.next _ 1 (bH s+1) _ (hrd.x.1.from_ hB) hl2) ?_)));rintro v171 w38 ⟨rfl,E171⟩;refine ab (cl rfl) (mvb rfl (aF (t:=173) rfl (fun Q39=>?_) (fun Q39=>?_)))
    ·with_reducible (replace Q39:=dw Q39;replace Q39:=dF_ Q39)
     (try simp only [bs9] at Q39)
     refine bc rfl (aj (af (aL rfl (ak (ag (asb rfl (aj (af (aC (az (bo (v:=.bool _) rfl rfl (⟨congrArg Value.bool ?_,(hB.next E171)⟩))))))))))));rw [eq_comm,←Bool.not_eq_true,bh];rintro ⟨⟨n1,n2,n3,⟨n4,n5⟩,n6,n7,n8,n9⟩,⟨g1,g2,g3,g4,g5⟩,v1,l1,⟨p1,p2,p3⟩⟩;by_cases hro:s.role=2
     ·rw [bm hro] at l1;obtain rfl:nn=s.nodes:=hnn.1 hro;obtain ⟨⟨l2,l3,l4,l5⟩,⟨l6,l7,l8⟩,l9⟩:=l1
      first
       |omega
       |(rename_i q9;exact q9 ⟨by omega,by assumption⟩)
       |(simp_all [cg];done)
       |(simp_all [cg];omega)
     ·rw [bP hro] at l1;obtain rfl:nn=0:=hnn.2 hro;have e1:s.next=[]:=List.eq_nil_of_length_eq_zero (by omega);have e2:s.mtch=[]:=List.eq_nil_of_length_eq_zero (by omega);have e3:s.sent=[]:=List.eq_nil_of_length_eq_zero (by omega)
      first
       |omega
       |(simp_all [cg,de];done)
       |(simp_all [cg,de];omega)
    with_reducible (replace Q39:=dy Q39;replace Q39:=dT_ Q39)
    (try simp only [bs9] at Q39)
    refine ae rfl (ab (aa cO rfl) (ae rfl (ab (aq bn rfl (by exact (show _=some (Value.slice M s.mtch.length Mc) from (hk1.from_ (ai.rfl_.next E171)).rd 16 rfl))) ?_)));refine ae rfl (mvi rfl (ae rfl (mvi rfl (ae rfl (aB fg (km M Mc s.mtch _ 0 (bH s) _ (hrd.m.1.from_ (hB.next E171)) hl3) ?_)))));rintro v178 w40 ⟨rfl,E178⟩;refine ae rfl (ab (cl rfl) (ab (aw (v:=.bool _) rfl rfl) (mvb rfl (aF (t:=181) rfl (fun Q41=>?_) (fun Q41=>?_)))))
    ·with_reducible (replace Q41:=dw Q41;replace Q41:=dF_ Q41)
     (try simp only [bs9] at Q41)
     refine bc rfl (aj (af (aL rfl (ak (ag (asb rfl (aj (af (aC (az (bo (v:=.bool _) rfl rfl (⟨congrArg Value.bool ?_,((hB.next E171).next E178)⟩))))))))))));rw [eq_comm,←Bool.not_eq_true,bh];rintro ⟨⟨n1,n2,n3,⟨n4,n5⟩,n6,n7,n8,n9⟩,⟨g1,g2,g3,g4,g5⟩,v1,l1,⟨p1,p2,p3⟩⟩;by_cases hro:s.role=2
     ·rw [bm hro] at l1;obtain rfl:nn=s.nodes:=hnn.1 hro;obtain ⟨⟨l2,l3,l4,l5⟩,⟨l6,l7,l8⟩,l9⟩:=l1
      first
       |omega
       |(rename_i q9;exact q9 ⟨by omega,by assumption⟩)
       |(simp_all [cg];done)
       |(simp_all [cg];omega)
     ·rw [bP hro] at l1;obtain rfl:nn=0:=hnn.2 hro;have e1:s.next=[]:=List.eq_nil_of_length_eq_zero (by omega);have e2:s.mtch=[]:=List.eq_nil_of_length_eq_zero (by omega);have e3:s.sent=[]:=List.eq_nil_of_length_eq_zero (by omega)
      first
       |omega
       |(simp_all [cg,de];done)
       |(simp_all [cg,de];omega)
    with_reducible (replace Q41:=dy Q41;replace Q41:=dT_ Q41)
    (try simp only [bs9] at Q41)
    refine ae rfl (ab (aa cT rfl) (ae rfl (ab (aq bn rfl (by exact (show _=some (Value.slice Sn s.sent.length Sc) from (hk1.from_ ((ai.rfl_.next E171).next E178)).rd 17 rfl))) ?_)));refine ae rfl (mvi rfl (ae rfl (ab (aa dF rfl) (ae rfl (ab (aq cK rfl (by exact (hk1.from_ ((ai.rfl_.next E171).next E178)).rd 9 rfl)) ?_)))));refine ae rfl (ab (eG (by kernel_rfl) rfl) (ae rfl (aB fg (km Sn Sc s.sent _ 0 (s.snap.size:Nat) _ (hrd.n.1.from_ ((hB.next E171).next E178)) hl4) ?_)));rintro v188 w42 ⟨rfl,E188⟩;refine ae rfl (ab (cl rfl) (ab (aw (v:=.bool _) rfl rfl) (mvb rfl (aF (t:=191) rfl (fun Q43=>?_) (fun Q43=>?_)))))
    ·with_reducible (replace Q43:=dw Q43;replace Q43:=dF_ Q43)
     (try simp only [bs9] at Q43)
     refine bc rfl (aj (af (aL rfl (ak (ag (asb rfl (aj (af (aC (az (bo (v:=.bool _) rfl rfl (⟨congrArg Value.bool ?_,(((hB.next E171).next E178).next E188)⟩))))))))))));rw [eq_comm,←Bool.not_eq_true,bh];rintro ⟨⟨n1,n2,n3,⟨n4,n5⟩,n6,n7,n8,n9⟩,⟨g1,g2,g3,g4,g5⟩,v1,l1,⟨p1,p2,p3⟩⟩;by_cases hro:s.role=2
     ·rw [bm hro] at l1;obtain rfl:nn=s.nodes:=hnn.1 hro;obtain ⟨⟨l2,l3,l4,l5⟩,⟨l6,l7,l8⟩,l9⟩:=l1
      first
       |omega
       |(rename_i q9;exact q9 ⟨by omega,by assumption⟩)
       |(simp_all [cg];done)
       |(simp_all [cg];omega)
     ·rw [bP hro] at l1;obtain rfl:nn=0:=hnn.2 hro;have e1:s.next=[]:=List.eq_nil_of_length_eq_zero (by omega);have e2:s.mtch=[]:=List.eq_nil_of_length_eq_zero (by omega);have e3:s.sent=[]:=List.eq_nil_of_length_eq_zero (by omega)
      first
       |omega
       |(simp_all [cg,de];done)
       |(simp_all [cg,de];omega)
    with_reducible (replace Q43:=dy Q43;replace Q43:=dT_ Q43)
    (try simp only [bs9] at Q43)
    refine ae rfl (ab (aa bL rfl) (ae rfl (ab (aq dc rfl (by exact (show _=some (Value.slice Q LL.length Qc) from (hk1.from_ (((ai.rfl_.next E171).next E178).next E188)).rd 19 rfl))) ?_)));refine ae rfl (ab (bW dR rfl) (ae rfl (ab (bS rfl rfl) (ab (aw (v:=.bool _) rfl rfl) (mvb rfl (zt (t:=197) rfl (fun Q44=>?_) (fun Q44=>?_)))))))
    ·(try simp only [bs9] at Q44)
     refine bc rfl (aj (af (aL rfl (ak (ag (asb rfl (aj (af (aC (az (bo (v:=.bool _) rfl rfl (⟨congrArg Value.bool ?_,(((hB.next E171).next E178).next E188)⟩))))))))))));rw [eq_comm,←Bool.not_eq_true,bh];rintro ⟨⟨n1,n2,n3,⟨n4,n5⟩,n6,n7,n8,n9⟩,⟨g1,g2,g3,g4,g5⟩,v1,l1,⟨p1,p2,p3⟩⟩;by_cases hro:s.role=2
     ·rw [bm hro] at l1;obtain rfl:nn=s.nodes:=hnn.1 hro;obtain ⟨⟨l2,l3,l4,l5⟩,⟨l6,l7,l8⟩,l9⟩:=l1
      first
       |omega
       |(rename_i q9;exact q9 ⟨by omega,by assumption⟩)
       |(simp_all [cg];done)
       |(simp_all [cg];omega)
     ·rw [bP hro] at l1;obtain rfl:nn=0:=hnn.2 hro;have e1:s.next=[]:=List.eq_nil_of_length_eq_zero (by omega);have e2:s.mtch=[]:=List.eq_nil_of_length_eq_zero (by omega);have e3:s.sent=[]:=List.eq_nil_of_length_eq_zero (by omega)
      first
       |omega
       |(simp_all [cg,de];done)
       |(simp_all [cg,de];omega)
    (try simp only [bs9] at Q44)
    refine ae rfl (mvi rfl (ae rfl (ab (bj rfl rfl) (ae rfl (mvb rfl (zt (t:=200) rfl (fun Q45=>?_) (fun Q45=>?_)))))))
    ·(try simp only [bs9] at Q45)
     refine ae rfl (ab (aa bL rfl) (ae rfl (ab (aq dc rfl (by exact (show _=some (Value.slice Q LL.length Qc) from (hk1.from_ (((ai.rfl_.next E171).next E178).next E188)).rd 19 rfl))) ?_)));refine ae rfl (ab (bW dR rfl) (ae rfl (ab (bS rfl rfl) (ae rfl (ab (aJ (v:=.bool _) rfl rfl) (ab (aw (v:=.bool _) rfl rfl) (aj (af (Ab rfl (fun Q46=>?_) (fun Q46=>?_))))))))))
     ·(try simp only [bs9] at Q46)
      refine ak (ag (asb rfl (aj (af (aC (az (bo (v:=.bool _) rfl rfl (⟨congrArg Value.bool ?_,(((hB.next E171).next E178).next E188)⟩))))))));rw [eq_comm,←Bool.not_eq_true,bh];rintro ⟨⟨n1,n2,n3,⟨n4,n5⟩,n6,n7,n8,n9⟩,⟨g1,g2,g3,g4,g5⟩,v1,l1,⟨p1,p2,p3⟩⟩;by_cases hro:s.role=2
      ·rw [bm hro] at l1;obtain rfl:nn=s.nodes:=hnn.1 hro;obtain ⟨⟨l2,l3,l4,l5⟩,⟨l6,l7,l8⟩,l9⟩:=l1
       first
        |omega
        |(rename_i q9;exact q9 ⟨by omega,by assumption⟩)
        |(simp_all [cg];done)
        |(simp_all [cg];omega)
      ·rw [bP hro] at l1;obtain rfl:nn=0:=hnn.2 hro;have e1:s.next=[]:=List.eq_nil_of_length_eq_zero (by omega);have e2:s.mtch=[]:=List.eq_nil_of_length_eq_zero (by omega);have e3:s.sent=[]:=List.eq_nil_of_length_eq_zero (by omega)
       first
        |omega
        |(simp_all [cg,de];done)
        |(simp_all [cg,de];omega)
     (try simp only [bs9] at Q46)
     refine aM ?_;refine cu (()) trivial (by (iterate 46 refine bI rfl ?_);exact bU) ?_;exact ⟨by first | assumption | simp_all,by first | assumption | simp_all,by first | assumption | simp_all,by omega,by omega,hk1.from_ (((ai.rfl_.next E171).next E178).next E188),(((hB.next E171).next E178).next E188)⟩
    (try simp only [bs9] at Q45)
    refine ao rfl rfl (ao rfl rfl (ao rfl rfl (ao rfl rfl (ae rfl (ab (aw (v:=.bool _) rfl rfl) (ab (aw (v:=.bool _) rfl rfl) (aj (af (br rfl ?_)))))))));refine aM ?_;refine cu (()) trivial (by (iterate 46 refine bI rfl ?_);exact bU) ?_;exact ⟨by first | assumption | simp_all,by first | assumption | simp_all,by first | assumption | simp_all,by omega,by omega,hk1.from_ (((ai.rfl_.next E171).next E178).next E188),(((hB.next E171).next E178).next E188)⟩
   rintro ⟨⟩ ρ47 w47 ⟨hx9,hm9,hs9,hl9,hn9,hk1,hB⟩;refine ak (ak (ag (asi rfl (aj (af (bg (dd (G:=Nat) [2,7,207,208,209,210,211,212,213,214,215,216,217,218,219,220,221,222,223,224,225,226,227,228,229,230,231,232,233,234,235,236,237,238,239,240,241,242,243,244,245,246,247,248,249,250,251,252,253,254,255,256,257,258] (fun k=>[(6,.int .i64 (k:Nat))]) (fun k w'=>k≤LL.length∧(∀ j (h:j<LL.length),j<k→fQ s LL[j].1=true)∧Blk w' b1 29 (rfV s (⟨E,Ec,V,Vc,X,Xc,M,Mc,Sn,Sc,Q,Qc,LL⟩:Ra)).toArray∧ai w w') (fun k=>LL.length-k) (0) ⟨rfl,trivial⟩ ?_ ?_)))))))
   ·exact ⟨Nat.zero_le _,fun j _ h=>absurd h (by omega),hk1.from_ ai.rfl_,hB⟩
   rintro k ρ48 w48 ⟨hk,h1,hk1,hB⟩;refine ak (ak (ag (mvi rfl (ab (aa bL rfl) (ab (aq dc rfl (by exact (show _=some (Value.slice Q LL.length Qc) from (hk1.from_ ai.rfl_).rd 19 rfl))) ?_)))));refine ab (bW dR rfl) (ab (b_ rfl rfl) (aj (af (Ab rfl (fun Q49=>?_) (fun Q49=>?_)))))
   ·have hkL:k<LL.length:=by omega
    have hqm:LL[k].1∈s.reads:=by rw [←hrL];exact List.mem_map_of_mem (List.getElem_mem hkL)
    obtain ⟨ba,oa,rfl,hcs⟩:∃ b o,Q=some ⟨b,o,none⟩∧∀ i (hi:i<LL.length),w.rangeAt b (o+i*4) (rdV LL[i]):=hrd.q (by show 0<LL.length;omega);refine aM (af (ak (bg (ak (ag (ab (aa bL rfl) (ab (aq dc rfl (by exact (show _=some (Value.slice (some ⟨ba,oa,none⟩) LL.length Qc) from (hk1.from_ ai.rfl_).rd 19 rfl))) ?_)))))));refine mvi rfl (ab (cn fx rfl rfl (by omega)) (ab (aG (cs:=rdV LL[k]) fV ef rfl (eB hB (hcs k hkL))) (cf fW ?_)));intro b7 w50 E7 hb7 hk7;have hg7:w.heap.size≤b7:=by rw [hb7];exact (hB).size
    have hk1L:=hk1.from_ (ai.rfl_.next E7);have hn7:b1≠b7:=by have:=hk1.lt;have:=((ai.rfl_.next E7)).size;omega
    refine b0 (vs:=[_,_,_,_]) ef rfl rfl (by simp [Value.oneCell']) (hk7) rfl ?_;intro w51 O16 P16;replace hk1:=hk1L.only O16 hn7;refine aj (af (ak (ag (ab (aa fa rfl) (ab (aq an rfl (by exact (show _=some (Value.int .i64 LL[k].1.id) from (P16.from_ ai.rfl_).rd 0 rfl))) ?_)))));refine ab (b_ rfl rfl) (mvb rfl (zt (t:=222) rfl (fun Q52=>?_) (fun Q52=>?_)))
    ·(try simp only [bs9] at Q52)
     refine bc rfl (aj (af (aL rfl (ak (ag (asb rfl (aj (af (aC (aZ (az (az (aZ (az (bo (v:=.bool _) rfl rfl (⟨congrArg Value.bool ?_,((hB.next E7).only O16 (hg7))⟩))))))))))))))));rw [eq_comm,←Bool.not_eq_true,bh];rintro ⟨_,_,_,l1,_⟩;by_cases hro:s.role=2
     ·rw [bm hro] at l1;have g5:=cz.1 (l1.2.2 _ hqm)
      first
       |omega
       |(simp_all;done)
     ·rw [bP hro] at l1;omega
    (try simp only [bs9] at Q52)
    refine ae rfl (ab (aa fa rfl) (ae rfl (ab (aq an rfl (by exact (show _=some (Value.int .i64 LL[k].1.id) from (P16.from_ ai.rfl_).rd 0 rfl))) ?_)));refine ae rfl (ab (bS rfl rfl) (ab (aw (v:=.bool _) rfl rfl) (mvb rfl (zt (t:=227) rfl (fun Q53=>?_) (fun Q53=>?_)))))
    ·(try simp only [bs9] at Q53)
     refine bc rfl (aj (af (aL rfl (ak (ag (asb rfl (aj (af (aC (aZ (az (az (aZ (az (bo (v:=.bool _) rfl rfl (⟨congrArg Value.bool ?_,((hB.next E7).only O16 (hg7))⟩))))))))))))))));rw [eq_comm,←Bool.not_eq_true,bh];rintro ⟨_,_,_,l1,_⟩;by_cases hro:s.role=2
     ·rw [bm hro] at l1;have g5:=cz.1 (l1.2.2 _ hqm)
      first
       |omega
       |(simp_all;done)
     ·rw [bP hro] at l1;omega
    (try simp only [bs9] at Q53)
    refine ae rfl (ab (aa e_ rfl) (ae rfl (ab (aq an rfl (by exact (show _=some (Value.int .i64 LL[k].1.ix) from (P16.from_ ai.rfl_).rd 1 rfl))) ?_)));refine ae rfl (ab (b_ rfl rfl) (ab (aw (v:=.bool _) rfl rfl) (mvb rfl (zt (t:=232) rfl (fun Q54=>?_) (fun Q54=>?_)))))
    ·(try simp only [bs9] at Q54)
     refine bc rfl (aj (af (aL rfl (ak (ag (asb rfl (aj (af (aC (aZ (az (az (aZ (az (bo (v:=.bool _) rfl rfl (⟨congrArg Value.bool ?_,((hB.next E7).only O16 (hg7))⟩))))))))))))))));rw [eq_comm,←Bool.not_eq_true,bh];rintro ⟨_,_,_,l1,_⟩;by_cases hro:s.role=2
     ·rw [bm hro] at l1;have g5:=cz.1 (l1.2.2 _ hqm)
      first
       |omega
       |(simp_all;done)
     ·rw [bP hro] at l1;omega
    (try simp only [bs9] at Q54)
    refine ae rfl (ab (aa e_ rfl) (ae rfl (ab (aq an rfl (by exact (show _=some (Value.int .i64 LL[k].1.ix) from (P16.from_ ai.rfl_).rd 1 rfl))) ?_)));refine ae rfl (ab (aa dr rfl) (ae rfl (ab (aq an rfl (by exact (hk1.from_ ai.rfl_).rd 10 rfl)) ?_)));refine ae rfl (ab (bS rfl rfl) (ab (aw (v:=.bool _) rfl rfl) (mvb rfl (zt (t:=239) rfl (fun Q55=>?_) (fun Q55=>?_)))))
    ·(try simp only [bs9] at Q55)
     refine bc rfl (aj (af (aL rfl (ak (ag (asb rfl (aj (af (aC (aZ (az (az (aZ (az (bo (v:=.bool _) rfl rfl (⟨congrArg Value.bool ?_,((hB.next E7).only O16 (hg7))⟩))))))))))))))));rw [eq_comm,←Bool.not_eq_true,bh];rintro ⟨_,_,_,l1,_⟩;by_cases hro:s.role=2
     ·rw [bm hro] at l1;have g5:=cz.1 (l1.2.2 _ hqm)
      first
       |omega
       |(simp_all;done)
     ·rw [bP hro] at l1;omega
    (try simp only [bs9] at Q55)
    refine ae rfl (ab (aa eZ rfl) (ae rfl (ab (aq an rfl (by exact (show _=some (Value.int .i64 LL[k].1.rn) from (P16.from_ ai.rfl_).rd 2 rfl))) ?_)));refine ae rfl (ab (b_ rfl rfl) (ab (aw (v:=.bool _) rfl rfl) (mvb rfl (zt (t:=244) rfl (fun Q56=>?_) (fun Q56=>?_)))))
    ·(try simp only [bs9] at Q56)
     refine bc rfl (aj (af (aL rfl (ak (ag (asb rfl (aj (af (aC (aZ (az (az (aZ (az (bo (v:=.bool _) rfl rfl (⟨congrArg Value.bool ?_,((hB.next E7).only O16 (hg7))⟩))))))))))))))));rw [eq_comm,←Bool.not_eq_true,bh];rintro ⟨_,_,_,l1,_⟩;by_cases hro:s.role=2
     ·rw [bm hro] at l1;have g5:=cz.1 (l1.2.2 _ hqm)
      first
       |omega
       |(simp_all;done)
     ·rw [bP hro] at l1;omega
    (try simp only [bs9] at Q56)
    refine ae rfl (ab (aa eZ rfl) (ae rfl (ab (aq an rfl (by exact (show _=some (Value.int .i64 LL[k].1.rn) from (P16.from_ ai.rfl_).rd 2 rfl))) ?_)));refine ae rfl (ab (aa dA rfl) (ae rfl (ab (aq an rfl (by exact (hk1.from_ ai.rfl_).rd 18 rfl)) ?_)));refine ae rfl (ab (bS rfl rfl) (ab (aw (v:=.bool _) rfl rfl) (mvb rfl (zt (t:=251) rfl (fun Q57=>?_) (fun Q57=>?_)))))
    ·(try simp only [bs9] at Q57)
     refine bc rfl (aj (af (aL rfl (ak (ag (asb rfl (aj (af (aC (aZ (az (az (aZ (az (bo (v:=.bool _) rfl rfl (⟨congrArg Value.bool ?_,((hB.next E7).only O16 (hg7))⟩))))))))))))))));rw [eq_comm,←Bool.not_eq_true,bh];rintro ⟨_,_,_,l1,_⟩;by_cases hro:s.role=2
     ·rw [bm hro] at l1;have g5:=cz.1 (l1.2.2 _ hqm)
      first
       |omega
       |(simp_all;done)
     ·rw [bP hro] at l1;omega
    (try simp only [bs9] at Q57)
    refine ae rfl (ab (aa ep rfl) (ae rfl (ab (aq bn rfl (by exact (show _=some (Value.slice LL[k].2.1 LL[k].1.acks.length LL[k].2.2) from (P16.from_ ai.rfl_).rd 3 rfl))) ?_)));refine ae rfl (ab (aa bX rfl) (ae rfl (ab (aq an rfl (by exact (hk1.from_ ai.rfl_).rd 1 rfl)) ?_)));refine ae rfl (aB iO (mG LL[k].2.1 LL[k].2.2 LL[k].1.acks s.nodes _ ((hrk _ (List.getElem_mem hkL)).1.from_ ((hB.next E7).only O16 (hg7))) (hl6 _ hqm)) ?_);rintro v256 w58 ⟨rfl,E256⟩;refine ae rfl (ab (cl rfl) (ab (aw (v:=.bool _) rfl rfl) (aj (af (z_ rfl (fun Q59=>?_) (fun Q59=>?_))))))
    ·(try simp only [bs9] at Q59)
     refine ak (ag (asb rfl (aj (af (aC (aZ (az (az (aZ (az (bo (v:=.bool _) rfl rfl (⟨congrArg Value.bool ?_,(((hB.next E7).only O16 (hg7)).next E256)⟩))))))))))));rw [eq_comm,←Bool.not_eq_true,bh];rintro ⟨_,_,_,l1,_⟩;by_cases hro:s.role=2
     ·rw [bm hro] at l1;have g5:=cz.1 (l1.2.2 _ hqm)
      first
       |omega
       |(simp_all;done)
     ·rw [bP hro] at l1;omega
    (try simp only [bs9] at Q59)
    refine aM (bE (af (ag (mvi rfl (ab (cq rfl rfl (by omega)) (asi rfl (aj ?_)))))));refine cu (k+1) ⟨(by first | rfl | (refine bT ?_;omega)),trivial⟩ (by (iterate 115 refine bI rfl ?_);exact bU) ⟨?_,?_⟩
    ·refine ⟨by omega,fun j h hj=>?_,hk1.from_ (ai.rfl_.next E256),(((hB.next E7).only O16 (hg7)).next E256)⟩;rcases Nat.lt_or_ge j k with e | e
     ·exact h1 j h e
     ·obtain rfl:j=k:=by omega
      rw [cz];exact ⟨by omega,by omega,by omega,by first | assumption | simp_all⟩
    ·omega
   refine cI (bD (bD (cr (af (ak (ag (asb rfl (aj (af (aC (bo (v:=.bool _) rfl rfl (⟨congrArg Value.bool ?_,hB⟩))))))))))));rw [eq_comm,bh]
   have hrd9:∀ q∈s.reads,fQ s q=true:=fun q hq=>by
    rw [←hrL] at hq;obtain ⟨y,hy,rfl⟩:=List.mem_map.1 hq;obtain ⟨i,hi,rfl⟩:=List.getElem_of_mem hy;exact h1 i hi (by omega)
   refine ⟨⟨by omega,by omega,by omega,⟨by omega,by omega⟩,by omega,by omega,by omega,by omega⟩,⟨by simp_all,by omega,by omega,by omega,by omega⟩,by simp_all,?_,⟨by omega,by omega,by omega⟩⟩;by_cases hro:s.role=2
   ·rw [bm hro];obtain rfl:nn=s.nodes:=hnn.1 hro;refine ⟨⟨?_,?_,?_,?_⟩,⟨?_,?_,?_⟩,hrd9⟩ <;> first | omega | (simp_all [cg];done) | (simp_all [cg];omega)
   ·rw [bP hro];obtain rfl:nn=0:=hnn.2 hro
    simp_all [cg]
  (try simp only [bs9] at Q34)
  refine ao rfl rfl (ao rfl rfl (ao rfl rfl (ae rfl (ab (aw (v:=.bool _) rfl rfl) (ab (aw (v:=.bool _) rfl rfl) (aj (af (br rfl (aM (af (ak (ag ?_))))))))))));refine asi rfl (aj (af (iz (G:=Unit) [161,162,163,164,165] (fun _=>[(5,.int .i64 nn)]) (fun _ w'=>Blk w' b1 29 (rfV s (⟨E,Ec,V,Vc,X,Xc,M,Mc,Sn,Sc,Q,Qc,LL⟩:Ra)).toArray∧ai w w') ?_ ?_)))
  ·refine ak (ag (ab (aa du rfl) (ab (aq an rfl (by exact (hk1.from_ (((ai.rfl_.next E67).next E110).next E116)).rd 2 rfl)) ?_)));refine ab (bj rfl rfl) (aj (af (Ab rfl (fun Q60=>?_) (fun Q60=>?_))))
   ·refine ag (ab (aa bX rfl) (ab (aq an rfl (by exact (hk1.from_ (((ai.rfl_.next E67).next E110).next E116)).rd 1 rfl)) ?_));refine asi rfl (aj ?_);refine cu (()) ⟨(bT (by first | exact (hnn.1 (by omega)).symm | exact (hnn.2 (by omega)).symm)),trivial⟩ (by (iterate 6 refine bI rfl ?_);exact bU) ?_;exact ⟨hk1.from_ (((ai.rfl_.next E67).next E110).next E116),((((ai.rfl_.next E1).next E67).next E110).next E116)⟩
   refine aM ?_;refine cu (()) ⟨(bT (by first | exact (hnn.1 (by omega)).symm | exact (hnn.2 (by omega)).symm)),trivial⟩ (by (iterate 3 refine bI rfl ?_);exact bU) ?_;exact ⟨hk1.from_ (((ai.rfl_.next E67).next E110).next E116),((((ai.rfl_.next E1).next E67).next E110).next E116)⟩
  rintro ⟨⟩ ρ61 w61 ⟨hk1,hB⟩;refine iz (G:=Unit) [2,166,167,168,169,170,171,172,173,174,175,176,177,178,179,180,181,182,183,184,185,186,187,188,189,190,191,192,193,194,195,196,197,198,199,200,201,202,203,204,205,206] (fun _=>[]) (fun _ w'=>cg s.next nn 1 (bH s+1)∧cg s.mtch nn 0 (bH s)∧cg s.sent nn 0 (s.snap.size:Nat)∧LL.length≤32∧(nn≠0∨LL.length=0)∧Blk w' b1 29 (rfV s (⟨E,Ec,V,Vc,X,Xc,M,Mc,Sn,Sc,Q,Qc,LL⟩:Ra)).toArray∧ai w w') ?_ ?_
  ·refine ak (ag (ab (aa cL rfl) (ab (aq bn rfl (by exact (show _=some (Value.slice X s.next.length Xc) from (hk1.from_ ai.rfl_).rd 15 rfl))) ?_)));refine mvi rfl (mvi rfl (ab (cq rfl rfl (by omega)) (aB fg (km X Xc s.next _ 1 (bH s+1) _ (hrd.x.1.from_ hB) hl2) ?_)));rintro v171 w62 ⟨rfl,E171⟩;refine ab (cl rfl) (mvb rfl (aF (t:=173) rfl (fun Q63=>?_) (fun Q63=>?_)))
   ·with_reducible (replace Q63:=dw Q63;replace Q63:=dF_ Q63)
    (try simp only [bs9] at Q63)
    refine bc rfl (aj (af (aL rfl (ak (ag (asb rfl (aj (af (aC (az (bo (v:=.bool _) rfl rfl (⟨congrArg Value.bool ?_,(hB.next E171)⟩))))))))))));rw [eq_comm,←Bool.not_eq_true,bh];rintro ⟨⟨n1,n2,n3,⟨n4,n5⟩,n6,n7,n8,n9⟩,⟨g1,g2,g3,g4,g5⟩,v1,l1,⟨p1,p2,p3⟩⟩;by_cases hro:s.role=2
    ·rw [bm hro] at l1;obtain rfl:nn=s.nodes:=hnn.1 hro;obtain ⟨⟨l2,l3,l4,l5⟩,⟨l6,l7,l8⟩,l9⟩:=l1
     first
      |omega
      |(rename_i q9;exact q9 ⟨by omega,by assumption⟩)
      |(simp_all [cg];done)
      |(simp_all [cg];omega)
    ·rw [bP hro] at l1;obtain rfl:nn=0:=hnn.2 hro;have e1:s.next=[]:=List.eq_nil_of_length_eq_zero (by omega);have e2:s.mtch=[]:=List.eq_nil_of_length_eq_zero (by omega);have e3:s.sent=[]:=List.eq_nil_of_length_eq_zero (by omega)
     first
      |omega
      |(simp_all [cg,de];done)
      |(simp_all [cg,de];omega)
   with_reducible (replace Q63:=dy Q63;replace Q63:=dT_ Q63)
   (try simp only [bs9] at Q63)
   refine ae rfl (ab (aa cO rfl) (ae rfl (ab (aq bn rfl (by exact (show _=some (Value.slice M s.mtch.length Mc) from (hk1.from_ (ai.rfl_.next E171)).rd 16 rfl))) ?_)));refine ae rfl (mvi rfl (ae rfl (mvi rfl (ae rfl (aB fg (km M Mc s.mtch _ 0 (bH s) _ (hrd.m.1.from_ (hB.next E171)) hl3) ?_)))));rintro v178 w64 ⟨rfl,E178⟩;refine ae rfl (ab (cl rfl) (ab (aw (v:=.bool _) rfl rfl) (mvb rfl (aF (t:=181) rfl (fun Q65=>?_) (fun Q65=>?_)))))
   ·with_reducible (replace Q65:=dw Q65;replace Q65:=dF_ Q65)
    (try simp only [bs9] at Q65)
    refine bc rfl (aj (af (aL rfl (ak (ag (asb rfl (aj (af (aC (az (bo (v:=.bool _) rfl rfl (⟨congrArg Value.bool ?_,((hB.next E171).next E178)⟩))))))))))));rw [eq_comm,←Bool.not_eq_true,bh];rintro ⟨⟨n1,n2,n3,⟨n4,n5⟩,n6,n7,n8,n9⟩,⟨g1,g2,g3,g4,g5⟩,v1,l1,⟨p1,p2,p3⟩⟩;by_cases hro:s.role=2
    ·rw [bm hro] at l1;obtain rfl:nn=s.nodes:=hnn.1 hro;obtain ⟨⟨l2,l3,l4,l5⟩,⟨l6,l7,l8⟩,l9⟩:=l1
     first
      |omega
      |(rename_i q9;exact q9 ⟨by omega,by assumption⟩)
      |(simp_all [cg];done)
      |(simp_all [cg];omega)
    ·rw [bP hro] at l1;obtain rfl:nn=0:=hnn.2 hro;have e1:s.next=[]:=List.eq_nil_of_length_eq_zero (by omega);have e2:s.mtch=[]:=List.eq_nil_of_length_eq_zero (by omega);have e3:s.sent=[]:=List.eq_nil_of_length_eq_zero (by omega)
     first
      |omega
      |(simp_all [cg,de];done)
      |(simp_all [cg,de];omega)
   with_reducible (replace Q65:=dy Q65;replace Q65:=dT_ Q65)
   (try simp only [bs9] at Q65)
   refine ae rfl (ab (aa cT rfl) (ae rfl (ab (aq bn rfl (by exact (show _=some (Value.slice Sn s.sent.length Sc) from (hk1.from_ ((ai.rfl_.next E171).next E178)).rd 17 rfl))) ?_)));refine ae rfl (mvi rfl (ae rfl (ab (aa dF rfl) (ae rfl (ab (aq cK rfl (by exact (hk1.from_ ((ai.rfl_.next E171).next E178)).rd 9 rfl)) ?_)))));refine ae rfl (ab (eG (by kernel_rfl) rfl) (ae rfl (aB fg (km Sn Sc s.sent _ 0 (s.snap.size:Nat) _ (hrd.n.1.from_ ((hB.next E171).next E178)) hl4) ?_)));rintro v188 w66 ⟨rfl,E188⟩;refine ae rfl (ab (cl rfl) (ab (aw (v:=.bool _) rfl rfl) (mvb rfl (aF (t:=191) rfl (fun Q67=>?_) (fun Q67=>?_)))))
   ·with_reducible (replace Q67:=dw Q67;replace Q67:=dF_ Q67)
    (try simp only [bs9] at Q67)
    refine bc rfl (aj (af (aL rfl (ak (ag (asb rfl (aj (af (aC (az (bo (v:=.bool _) rfl rfl (⟨congrArg Value.bool ?_,(((hB.next E171).next E178).next E188)⟩))))))))))));rw [eq_comm,←Bool.not_eq_true,bh];rintro ⟨⟨n1,n2,n3,⟨n4,n5⟩,n6,n7,n8,n9⟩,⟨g1,g2,g3,g4,g5⟩,v1,l1,⟨p1,p2,p3⟩⟩;by_cases hro:s.role=2
    ·rw [bm hro] at l1;obtain rfl:nn=s.nodes:=hnn.1 hro;obtain ⟨⟨l2,l3,l4,l5⟩,⟨l6,l7,l8⟩,l9⟩:=l1
     first
      |omega
      |(rename_i q9;exact q9 ⟨by omega,by assumption⟩)
      |(simp_all [cg];done)
      |(simp_all [cg];omega)
    ·rw [bP hro] at l1;obtain rfl:nn=0:=hnn.2 hro;have e1:s.next=[]:=List.eq_nil_of_length_eq_zero (by omega);have e2:s.mtch=[]:=List.eq_nil_of_length_eq_zero (by omega);have e3:s.sent=[]:=List.eq_nil_of_length_eq_zero (by omega)
     first
      |omega
      |(simp_all [cg,de];done)
      |(simp_all [cg,de];omega)
   with_reducible (replace Q67:=dy Q67;replace Q67:=dT_ Q67)
   (try simp only [bs9] at Q67)
   refine ae rfl (ab (aa bL rfl) (ae rfl (ab (aq dc rfl (by exact (show _=some (Value.slice Q LL.length Qc) from (hk1.from_ (((ai.rfl_.next E171).next E178).next E188)).rd 19 rfl))) ?_)));refine ae rfl (ab (bW dR rfl) (ae rfl (ab (bS rfl rfl) (ab (aw (v:=.bool _) rfl rfl) (mvb rfl (zt (t:=197) rfl (fun Q68=>?_) (fun Q68=>?_)))))))
   ·(try simp only [bs9] at Q68)
    refine bc rfl (aj (af (aL rfl (ak (ag (asb rfl (aj (af (aC (az (bo (v:=.bool _) rfl rfl (⟨congrArg Value.bool ?_,(((hB.next E171).next E178).next E188)⟩))))))))))));rw [eq_comm,←Bool.not_eq_true,bh];rintro ⟨⟨n1,n2,n3,⟨n4,n5⟩,n6,n7,n8,n9⟩,⟨g1,g2,g3,g4,g5⟩,v1,l1,⟨p1,p2,p3⟩⟩;by_cases hro:s.role=2
    ·rw [bm hro] at l1;obtain rfl:nn=s.nodes:=hnn.1 hro;obtain ⟨⟨l2,l3,l4,l5⟩,⟨l6,l7,l8⟩,l9⟩:=l1
     first
      |omega
      |(rename_i q9;exact q9 ⟨by omega,by assumption⟩)
      |(simp_all [cg];done)
      |(simp_all [cg];omega)
    ·rw [bP hro] at l1;obtain rfl:nn=0:=hnn.2 hro;have e1:s.next=[]:=List.eq_nil_of_length_eq_zero (by omega);have e2:s.mtch=[]:=List.eq_nil_of_length_eq_zero (by omega);have e3:s.sent=[]:=List.eq_nil_of_length_eq_zero (by omega)
     first
      |omega
      |(simp_all [cg,de];done)
      |(simp_all [cg,de];omega)
   (try simp only [bs9] at Q68)
   refine ae rfl (mvi rfl (ae rfl (ab (bj rfl rfl) (ae rfl (mvb rfl (zt (t:=200) rfl (fun Q69=>?_) (fun Q69=>?_)))))))
   ·(try simp only [bs9] at Q69)
    refine ae rfl (ab (aa bL rfl) (ae rfl (ab (aq dc rfl (by exact (show _=some (Value.slice Q LL.length Qc) from (hk1.from_ (((ai.rfl_.next E171).next E178).next E188)).rd 19 rfl))) ?_)));refine ae rfl (ab (bW dR rfl) (ae rfl (ab (bS rfl rfl) (ae rfl (ab (aJ (v:=.bool _) rfl rfl) (ab (aw (v:=.bool _) rfl rfl) (aj (af (Ab rfl (fun Q70=>?_) (fun Q70=>?_))))))))))
    ·(try simp only [bs9] at Q70)
     refine ak (ag (asb rfl (aj (af (aC (az (bo (v:=.bool _) rfl rfl (⟨congrArg Value.bool ?_,(((hB.next E171).next E178).next E188)⟩))))))));rw [eq_comm,←Bool.not_eq_true,bh];rintro ⟨⟨n1,n2,n3,⟨n4,n5⟩,n6,n7,n8,n9⟩,⟨g1,g2,g3,g4,g5⟩,v1,l1,⟨p1,p2,p3⟩⟩;by_cases hro:s.role=2
     ·rw [bm hro] at l1;obtain rfl:nn=s.nodes:=hnn.1 hro;obtain ⟨⟨l2,l3,l4,l5⟩,⟨l6,l7,l8⟩,l9⟩:=l1
      first
       |omega
       |(rename_i q9;exact q9 ⟨by omega,by assumption⟩)
       |(simp_all [cg];done)
       |(simp_all [cg];omega)
     ·rw [bP hro] at l1;obtain rfl:nn=0:=hnn.2 hro;have e1:s.next=[]:=List.eq_nil_of_length_eq_zero (by omega);have e2:s.mtch=[]:=List.eq_nil_of_length_eq_zero (by omega);have e3:s.sent=[]:=List.eq_nil_of_length_eq_zero (by omega)
      first
       |omega
       |(simp_all [cg,de];done)
       |(simp_all [cg,de];omega)
    (try simp only [bs9] at Q70)
    refine aM ?_;refine cu (()) trivial (by (iterate 46 refine bI rfl ?_);exact bU) ?_;exact ⟨by first | assumption | simp_all,by first | assumption | simp_all,by first | assumption | simp_all,by omega,by omega,hk1.from_ (((ai.rfl_.next E171).next E178).next E188),(((hB.next E171).next E178).next E188)⟩
   (try simp only [bs9] at Q69)
   refine ao rfl rfl (ao rfl rfl (ao rfl rfl (ao rfl rfl (ae rfl (ab (aw (v:=.bool _) rfl rfl) (ab (aw (v:=.bool _) rfl rfl) (aj (af (br rfl ?_)))))))));refine aM ?_;refine cu (()) trivial (by (iterate 46 refine bI rfl ?_);exact bU) ?_;exact ⟨by first | assumption | simp_all,by first | assumption | simp_all,by first | assumption | simp_all,by omega,by omega,hk1.from_ (((ai.rfl_.next E171).next E178).next E188),(((hB.next E171).next E178).next E188)⟩
  rintro ⟨⟩ ρ71 w71 ⟨hx9,hm9,hs9,hl9,hn9,hk1,hB⟩;refine ak (ak (ag (asi rfl (aj (af (bg (dd (G:=Nat) [2,7,207,208,209,210,211,212,213,214,215,216,217,218,219,220,221,222,223,224,225,226,227,228,229,230,231,232,233,234,235,236,237,238,239,240,241,242,243,244,245,246,247,248,249,250,251,252,253,254,255,256,257,258] (fun k=>[(6,.int .i64 (k:Nat))]) (fun k w'=>k≤LL.length∧(∀ j (h:j<LL.length),j<k→fQ s LL[j].1=true)∧Blk w' b1 29 (rfV s (⟨E,Ec,V,Vc,X,Xc,M,Mc,Sn,Sc,Q,Qc,LL⟩:Ra)).toArray∧ai w w') (fun k=>LL.length-k) (0) ⟨rfl,trivial⟩ ?_ ?_)))))))
  ·exact ⟨Nat.zero_le _,fun j _ h=>absurd h (by omega),hk1.from_ ai.rfl_,hB⟩
  rintro k ρ72 w72 ⟨hk,h1,hk1,hB⟩;refine ak (ak (ag (mvi rfl (ab (aa bL rfl) (ab (aq dc rfl (by exact (show _=some (Value.slice Q LL.length Qc) from (hk1.from_ ai.rfl_).rd 19 rfl))) ?_)))));refine ab (bW dR rfl) (ab (b_ rfl rfl) (aj (af (Ab rfl (fun Q73=>?_) (fun Q73=>?_)))))
  ·have hkL:k<LL.length:=by omega
   have hqm:LL[k].1∈s.reads:=by rw [←hrL];exact List.mem_map_of_mem (List.getElem_mem hkL)
   obtain ⟨ba,oa,rfl,hcs⟩:∃ b o,Q=some ⟨b,o,none⟩∧∀ i (hi:i<LL.length),w.rangeAt b (o+i*4) (rdV LL[i]):=hrd.q (by show 0<LL.length;omega);refine aM (af (ak (bg (ak (ag (ab (aa bL rfl) (ab (aq dc rfl (by exact (show _=some (Value.slice (some ⟨ba,oa,none⟩) LL.length Qc) from (hk1.from_ ai.rfl_).rd 19 rfl))) ?_)))))));refine mvi rfl (ab (cn fx rfl rfl (by omega)) (ab (aG (cs:=rdV LL[k]) fV ef rfl (eB hB (hcs k hkL))) (cf fW ?_)));intro b7 w74 E7 hb7 hk7;have hg7:w.heap.size≤b7:=by rw [hb7];exact (hB).size
   have hk1L:=hk1.from_ (ai.rfl_.next E7);have hn7:b1≠b7:=by have:=hk1.lt;have:=((ai.rfl_.next E7)).size;omega
   refine b0 (vs:=[_,_,_,_]) ef rfl rfl (by simp [Value.oneCell']) (hk7) rfl ?_;intro w75 O16 P16;replace hk1:=hk1L.only O16 hn7;refine aj (af (ak (ag (ab (aa fa rfl) (ab (aq an rfl (by exact (show _=some (Value.int .i64 LL[k].1.id) from (P16.from_ ai.rfl_).rd 0 rfl))) ?_)))));refine ab (b_ rfl rfl) (mvb rfl (zt (t:=222) rfl (fun Q76=>?_) (fun Q76=>?_)))
   ·(try simp only [bs9] at Q76)
    refine bc rfl (aj (af (aL rfl (ak (ag (asb rfl (aj (af (aC (aZ (az (az (aZ (az (bo (v:=.bool _) rfl rfl (⟨congrArg Value.bool ?_,((hB.next E7).only O16 (hg7))⟩))))))))))))))));rw [eq_comm,←Bool.not_eq_true,bh];rintro ⟨_,_,_,l1,_⟩;by_cases hro:s.role=2
    ·rw [bm hro] at l1;have g5:=cz.1 (l1.2.2 _ hqm)
     first
      |omega
      |(simp_all;done)
    ·rw [bP hro] at l1;omega
   (try simp only [bs9] at Q76)
   refine ae rfl (ab (aa fa rfl) (ae rfl (ab (aq an rfl (by exact (show _=some (Value.int .i64 LL[k].1.id) from (P16.from_ ai.rfl_).rd 0 rfl))) ?_)));refine ae rfl (ab (bS rfl rfl) (ab (aw (v:=.bool _) rfl rfl) (mvb rfl (zt (t:=227) rfl (fun Q77=>?_) (fun Q77=>?_)))))
   ·(try simp only [bs9] at Q77)
    refine bc rfl (aj (af (aL rfl (ak (ag (asb rfl (aj (af (aC (aZ (az (az (aZ (az (bo (v:=.bool _) rfl rfl (⟨congrArg Value.bool ?_,((hB.next E7).only O16 (hg7))⟩))))))))))))))));rw [eq_comm,←Bool.not_eq_true,bh];rintro ⟨_,_,_,l1,_⟩;by_cases hro:s.role=2
    ·rw [bm hro] at l1;have g5:=cz.1 (l1.2.2 _ hqm)
     first
      |omega
      |(simp_all;done)
    ·rw [bP hro] at l1;omega
   (try simp only [bs9] at Q77)
   refine ae rfl (ab (aa e_ rfl) (ae rfl (ab (aq an rfl (by exact (show _=some (Value.int .i64 LL[k].1.ix) from (P16.from_ ai.rfl_).rd 1 rfl))) ?_)));refine ae rfl (ab (b_ rfl rfl) (ab (aw (v:=.bool _) rfl rfl) (mvb rfl (zt (t:=232) rfl (fun Q78=>?_) (fun Q78=>?_)))))
   ·(try simp only [bs9] at Q78)
    refine bc rfl (aj (af (aL rfl (ak (ag (asb rfl (aj (af (aC (aZ (az (az (aZ (az (bo (v:=.bool _) rfl rfl (⟨congrArg Value.bool ?_,((hB.next E7).only O16 (hg7))⟩))))))))))))))));rw [eq_comm,←Bool.not_eq_true,bh];rintro ⟨_,_,_,l1,_⟩;by_cases hro:s.role=2
    ·rw [bm hro] at l1;have g5:=cz.1 (l1.2.2 _ hqm)
     first
      |omega
      |(simp_all;done)
    ·rw [bP hro] at l1;omega
   (try simp only [bs9] at Q78)
   refine ae rfl (ab (aa e_ rfl) (ae rfl (ab (aq an rfl (by exact (show _=some (Value.int .i64 LL[k].1.ix) from (P16.from_ ai.rfl_).rd 1 rfl))) ?_)));refine ae rfl (ab (aa dr rfl) (ae rfl (ab (aq an rfl (by exact (hk1.from_ ai.rfl_).rd 10 rfl)) ?_)));refine ae rfl (ab (bS rfl rfl) (ab (aw (v:=.bool _) rfl rfl) (mvb rfl (zt (t:=239) rfl (fun Q79=>?_) (fun Q79=>?_)))))
   ·(try simp only [bs9] at Q79)
    refine bc rfl (aj (af (aL rfl (ak (ag (asb rfl (aj (af (aC (aZ (az (az (aZ (az (bo (v:=.bool _) rfl rfl (⟨congrArg Value.bool ?_,((hB.next E7).only O16 (hg7))⟩))))))))))))))));rw [eq_comm,←Bool.not_eq_true,bh];rintro ⟨_,_,_,l1,_⟩;by_cases hro:s.role=2
    ·rw [bm hro] at l1;have g5:=cz.1 (l1.2.2 _ hqm)
     first
      |omega
      |(simp_all;done)
    ·rw [bP hro] at l1;omega
   (try simp only [bs9] at Q79)
   refine ae rfl (ab (aa eZ rfl) (ae rfl (ab (aq an rfl (by exact (show _=some (Value.int .i64 LL[k].1.rn) from (P16.from_ ai.rfl_).rd 2 rfl))) ?_)));refine ae rfl (ab (b_ rfl rfl) (ab (aw (v:=.bool _) rfl rfl) (mvb rfl (zt (t:=244) rfl (fun Q80=>?_) (fun Q80=>?_)))))
   ·(try simp only [bs9] at Q80)
    refine bc rfl (aj (af (aL rfl (ak (ag (asb rfl (aj (af (aC (aZ (az (az (aZ (az (bo (v:=.bool _) rfl rfl (⟨congrArg Value.bool ?_,((hB.next E7).only O16 (hg7))⟩))))))))))))))));rw [eq_comm,←Bool.not_eq_true,bh];rintro ⟨_,_,_,l1,_⟩;by_cases hro:s.role=2
    ·rw [bm hro] at l1;have g5:=cz.1 (l1.2.2 _ hqm)
     first
      |omega
      |(simp_all;done)
    ·rw [bP hro] at l1;omega
   (try simp only [bs9] at Q80)
   refine ae rfl (ab (aa eZ rfl) (ae rfl (ab (aq an rfl (by exact (show _=some (Value.int .i64 LL[k].1.rn) from (P16.from_ ai.rfl_).rd 2 rfl))) ?_)));refine ae rfl (ab (aa dA rfl) (ae rfl (ab (aq an rfl (by exact (hk1.from_ ai.rfl_).rd 18 rfl)) ?_)));refine ae rfl (ab (bS rfl rfl) (ab (aw (v:=.bool _) rfl rfl) (mvb rfl (zt (t:=251) rfl (fun Q81=>?_) (fun Q81=>?_)))))
   ·(try simp only [bs9] at Q81)
    refine bc rfl (aj (af (aL rfl (ak (ag (asb rfl (aj (af (aC (aZ (az (az (aZ (az (bo (v:=.bool _) rfl rfl (⟨congrArg Value.bool ?_,((hB.next E7).only O16 (hg7))⟩))))))))))))))));rw [eq_comm,←Bool.not_eq_true,bh];rintro ⟨_,_,_,l1,_⟩;by_cases hro:s.role=2
    ·rw [bm hro] at l1;have g5:=cz.1 (l1.2.2 _ hqm)
     first
      |omega
      |(simp_all;done)
    ·rw [bP hro] at l1;omega
   (try simp only [bs9] at Q81)
   refine ae rfl (ab (aa ep rfl) (ae rfl (ab (aq bn rfl (by exact (show _=some (Value.slice LL[k].2.1 LL[k].1.acks.length LL[k].2.2) from (P16.from_ ai.rfl_).rd 3 rfl))) ?_)));refine ae rfl (ab (aa bX rfl) (ae rfl (ab (aq an rfl (by exact (hk1.from_ ai.rfl_).rd 1 rfl)) ?_)));refine ae rfl (aB iO (mG LL[k].2.1 LL[k].2.2 LL[k].1.acks s.nodes _ ((hrk _ (List.getElem_mem hkL)).1.from_ ((hB.next E7).only O16 (hg7))) (hl6 _ hqm)) ?_);rintro v256 w82 ⟨rfl,E256⟩;refine ae rfl (ab (cl rfl) (ab (aw (v:=.bool _) rfl rfl) (aj (af (z_ rfl (fun Q83=>?_) (fun Q83=>?_))))))
   ·(try simp only [bs9] at Q83)
    refine ak (ag (asb rfl (aj (af (aC (aZ (az (az (aZ (az (bo (v:=.bool _) rfl rfl (⟨congrArg Value.bool ?_,(((hB.next E7).only O16 (hg7)).next E256)⟩))))))))))));rw [eq_comm,←Bool.not_eq_true,bh];rintro ⟨_,_,_,l1,_⟩;by_cases hro:s.role=2
    ·rw [bm hro] at l1;have g5:=cz.1 (l1.2.2 _ hqm)
     first
      |omega
      |(simp_all;done)
    ·rw [bP hro] at l1;omega
   (try simp only [bs9] at Q83)
   refine aM (bE (af (ag (mvi rfl (ab (cq rfl rfl (by omega)) (asi rfl (aj ?_)))))));refine cu (k+1) ⟨(by first | rfl | (refine bT ?_;omega)),trivial⟩ (by (iterate 115 refine bI rfl ?_);exact bU) ⟨?_,?_⟩
   ·refine ⟨by omega,fun j h hj=>?_,hk1.from_ (ai.rfl_.next E256),(((hB.next E7).only O16 (hg7)).next E256)⟩;rcases Nat.lt_or_ge j k with e | e
    ·exact h1 j h e
    ·obtain rfl:j=k:=by omega
     rw [cz];exact ⟨by omega,by omega,by omega,by first | assumption | simp_all⟩
   ·omega
  refine cI (bD (bD (cr (af (ak (ag (asb rfl (aj (af (aC (bo (v:=.bool _) rfl rfl (⟨congrArg Value.bool ?_,hB⟩))))))))))));rw [eq_comm,bh]
  have hrd9:∀ q∈s.reads,fQ s q=true:=fun q hq=>by
   rw [←hrL] at hq;obtain ⟨y,hy,rfl⟩:=List.mem_map.1 hq;obtain ⟨i,hi,rfl⟩:=List.getElem_of_mem hy;exact h1 i hi (by omega)
  refine ⟨⟨by omega,by omega,by omega,⟨by omega,by omega⟩,by omega,by omega,by omega,by omega⟩,⟨by simp_all,by omega,by omega,by omega,by omega⟩,by simp_all,?_,⟨by omega,by omega,by omega⟩⟩;by_cases hro:s.role=2
  ·rw [bm hro];obtain rfl:nn=s.nodes:=hnn.1 hro;refine ⟨⟨?_,?_,?_,?_⟩,⟨?_,?_,?_⟩,hrd9⟩ <;> first | omega | (simp_all [cg];done) | (simp_all [cg];omega)
  ·rw [bP hro];obtain rfl:nn=0:=hnn.2 hro
   simp_all [cg]
 (try simp only [bs9] at Q17)
 refine ao rfl rfl (ao rfl rfl (ao rfl rfl (ae rfl (ab (aw (v:=.bool _) rfl rfl) (ab (aw (v:=.bool _) rfl rfl) (mvb rfl (ae rfl (ab (aa c_ rfl) ?_))))))));refine ae rfl (ab (aq an rfl (by exact (hk1.from_ (ai.rfl_.next E67)).rd 11 rfl)) ?_);refine ae rfl (aB eT (sF s.elapsed _) ?_);rintro v90 w84 ⟨rfl,rfl⟩;refine ae rfl (ab (cl rfl) (ab (aw (v:=.bool _) rfl rfl) (mvb rfl (aF (t:=93) rfl (fun Q85=>?_) (fun Q85=>?_)))))
 ·with_reducible (replace Q85:=dw Q85;replace Q85:=dF_ Q85)
  (try simp only [bs9] at Q85)
  refine bc rfl (aj (af (aL rfl (ak (ag (asb rfl (aj (af (aC (az (bo (v:=.bool _) rfl rfl (⟨congrArg Value.bool ?_,((ai.rfl_.next E1).next E67)⟩))))))))))));rw [eq_comm,←Bool.not_eq_true,bh];rintro ⟨⟨n1,n2,n3,⟨n4,n5⟩,n6,n7,n8,n9⟩,⟨g1,g2,g3,g4,g5⟩,v1,l1,⟨p1,p2,p3⟩⟩
  first
   |omega
   |(simp_all;done)
   |(simp_all;omega)
 with_reducible (replace Q85:=dy Q85;replace Q85:=dT_ Q85)
 (try simp only [bs9] at Q85)
 refine ae rfl (ab (aa eY rfl) (ae rfl (ab (aq an rfl (by exact (hk1.from_ (ai.rfl_.next E67)).rd 12 rfl)) ?_)));refine ae rfl (aB eT (sF s.timeout _) ?_);rintro v96 w86 ⟨rfl,rfl⟩;refine ae rfl (ab (cl rfl) (ab (aw (v:=.bool _) rfl rfl) (mvb rfl (aF (t:=99) rfl (fun Q87=>?_) (fun Q87=>?_)))))
 ·with_reducible (replace Q87:=dw Q87;replace Q87:=dF_ Q87)
  (try simp only [bs9] at Q87)
  refine bc rfl (aj (af (aL rfl (ak (ag (asb rfl (aj (af (aC (az (bo (v:=.bool _) rfl rfl (⟨congrArg Value.bool ?_,((ai.rfl_.next E1).next E67)⟩))))))))))));rw [eq_comm,←Bool.not_eq_true,bh];rintro ⟨⟨n1,n2,n3,⟨n4,n5⟩,n6,n7,n8,n9⟩,⟨g1,g2,g3,g4,g5⟩,v1,l1,⟨p1,p2,p3⟩⟩
  first
   |omega
   |(simp_all;done)
   |(simp_all;omega)
 with_reducible (replace Q87:=dy Q87;replace Q87:=dT_ Q87)
 (try simp only [bs9] at Q87)
 refine ae rfl (ab (aa dA rfl) (ae rfl (ab (aq an rfl (by exact (hk1.from_ (ai.rfl_.next E67)).rd 18 rfl)) ?_)));refine ae rfl (aB eT (sF s.round _) ?_);rintro v102 w88 ⟨rfl,rfl⟩;refine ae rfl (ab (cl rfl) (ab (aw (v:=.bool _) rfl rfl) (mvb rfl (aF (t:=105) rfl (fun Q89=>?_) (fun Q89=>?_)))))
 ·with_reducible (replace Q89:=dw Q89;replace Q89:=dF_ Q89)
  (try simp only [bs9] at Q89)
  refine bc rfl (aj (af (aL rfl (ak (ag (asb rfl (aj (af (aC (az (bo (v:=.bool _) rfl rfl (⟨congrArg Value.bool ?_,((ai.rfl_.next E1).next E67)⟩))))))))))));rw [eq_comm,←Bool.not_eq_true,bh];rintro ⟨⟨n1,n2,n3,⟨n4,n5⟩,n6,n7,n8,n9⟩,⟨g1,g2,g3,g4,g5⟩,v1,l1,⟨p1,p2,p3⟩⟩
  first
   |omega
   |(simp_all;done)
   |(simp_all;omega)
 with_reducible (replace Q89:=dy Q89;replace Q89:=dT_ Q89)
 (try simp only [bs9] at Q89)
 refine ae rfl (ab (aa di rfl) (ae rfl (ab (aq bn rfl (by exact (show _=some (Value.slice V s.votes.length Vc) from (hk1.from_ (ai.rfl_.next E67)).rd 14 rfl))) ?_)));refine ae rfl (ab (aa bX rfl) (ae rfl (ab (aq an rfl (by exact (hk1.from_ (ai.rfl_.next E67)).rd 1 rfl)) ?_)));refine ae rfl (aB iO (mG V Vc s.votes s.nodes _ (hrd.v.1.from_ ((ai.rfl_.next E1).next E67)) hl1) ?_);rintro v110 w90 ⟨rfl,E110⟩;refine ae rfl (ab (cl rfl) (ab (aw (v:=.bool _) rfl rfl) (aj (af (z_ rfl (fun Q91=>?_) (fun Q91=>?_))))))
 ·(try simp only [bs9] at Q91)
  refine ak (ag (asb rfl (aj (af (aC (az (bo (v:=.bool _) rfl rfl (⟨congrArg Value.bool ?_,(((ai.rfl_.next E1).next E67).next E110)⟩))))))));rw [eq_comm,←Bool.not_eq_true,bh];rintro ⟨⟨n1,n2,n3,⟨n4,n5⟩,n6,n7,n8,n9⟩,⟨g1,g2,g3,g4,g5⟩,v1,l1,⟨p1,p2,p3⟩⟩
  first
   |omega
   |(simp_all;done)
   |(simp_all;omega)
 (try simp only [bs9] at Q91)
 refine aM (af (ak (ag (ab (aa bq rfl) (ab (aG (cs:=[.int .i64 s.b,.int .i64 s.t,.slice E s.es.length Ec]) bB bd rfl (nD (hk1.from_ ((ai.rfl_.next E67).next E110)))) ?_)))));have hm1:cD s.b s.t s.es=true:=by first | assumption | simp_all
 have hbl:=fT hm1;have hlr:bH s=s.b+s.es.length:=hbl.1;refine aB gO (lT s E s.es.length Ec _ (hrd.e.from_ (((ai.rfl_.next E1).next E67).next E110)) hm1) ?_;rintro v116 w92 ⟨rfl,E116⟩;refine mvt rfl (ab (aY rfl rfl) (ab (aY rfl rfl) (asi rfl (asi rfl (aj (af (ak (ak (ag (mvi rfl (ab (aa bt rfl) (ab (aq an rfl (by exact (hk1.from_ (((ai.rfl_.next E67).next E110).next E116)).rd 3 rfl)) ?_))))))))))));refine ab (bS rfl rfl) (aj (af (Ab rfl (fun Q93=>?_) (fun Q93=>?_))))
 ·refine ak (ag (asb rfl (aj (af (aC (az (bo (v:=.bool _) rfl rfl (⟨congrArg Value.bool ?_,((((ai.rfl_.next E1).next E67).next E110).next E116)⟩))))))));rw [eq_comm,←Bool.not_eq_true,bh];rintro ⟨⟨n1,n2,n3,⟨n4,n5⟩,n6,n7,n8,n9⟩,⟨g1,g2,g3,g4,g5⟩,v1,l1,⟨p1,p2,p3⟩⟩
  first
   |omega
   |(simp_all;done)
   |(simp_all;omega)
 refine aM (af (ak (ak (ag (ab (aa dr rfl) (ab (aq an rfl (by exact (hk1.from_ (((ai.rfl_.next E67).next E110).next E116)).rd 10 rfl)) ?_))))));refine ab (aa bq rfl) (ab (aa dH rfl) (ab (aq an rfl (by exact (hk1.from_ (((ai.rfl_.next E67).next E110).next E116)).rd 6 rfl)) ?_));refine ab (b_ rfl rfl) (mvb rfl (zt (t:=129) rfl (fun Q94=>?_) (fun Q94=>?_)))
 ·(try simp only [bs9] at Q94)
  refine bc rfl (aj (af (aL rfl (ak (ag (asb rfl (aj (af (aC (az (bo (v:=.bool _) rfl rfl (⟨congrArg Value.bool ?_,((((ai.rfl_.next E1).next E67).next E110).next E116)⟩))))))))))));rw [eq_comm,←Bool.not_eq_true,bh];rintro ⟨⟨n1,n2,n3,⟨n4,n5⟩,n6,n7,n8,n9⟩,⟨g1,g2,g3,g4,g5⟩,v1,l1,⟨p1,p2,p3⟩⟩
  first
   |omega
   |(simp_all;done)
   |(simp_all;omega)
 (try simp only [bs9] at Q94)
 refine ae rfl (ab (aa dr rfl) (ae rfl (ab (aq an rfl (by exact (hk1.from_ (((ai.rfl_.next E67).next E110).next E116)).rd 10 rfl)) ?_)));refine ae rfl (mvi rfl (ae rfl (ab (bS rfl rfl) (ab (aw (v:=.bool _) rfl rfl) (mvb rfl (zt (t:=135) rfl (fun Q95=>?_) (fun Q95=>?_)))))))
 ·(try simp only [bs9] at Q95)
  refine bc rfl (aj (af (aL rfl (ak (ag (asb rfl (aj (af (aC (az (bo (v:=.bool _) rfl rfl (⟨congrArg Value.bool ?_,((((ai.rfl_.next E1).next E67).next E110).next E116)⟩))))))))))));rw [eq_comm,←Bool.not_eq_true,bh];rintro ⟨⟨n1,n2,n3,⟨n4,n5⟩,n6,n7,n8,n9⟩,⟨g1,g2,g3,g4,g5⟩,v1,l1,⟨p1,p2,p3⟩⟩
  first
   |omega
   |(simp_all;done)
   |(simp_all;omega)
 (try simp only [bs9] at Q95)
 refine ae rfl (ab (aa dS rfl) (ae rfl (ab (aq cK rfl (by exact (hk1.from_ (((ai.rfl_.next E67).next E110).next E116)).rd 20 rfl)) ?_)));refine ae rfl (ab (eG (by kernel_rfl) rfl) (ae rfl (ab (bS rfl rfl) (ab (aw (v:=.bool _) rfl rfl) (mvb rfl (zt (t:=141) rfl (fun Q96=>?_) (fun Q96=>?_)))))))
 ·(try simp only [bs9] at Q96)
  refine bc rfl (aj (af (aL rfl (ak (ag (asb rfl (aj (af (aC (az (bo (v:=.bool _) rfl rfl (⟨congrArg Value.bool ?_,((((ai.rfl_.next E1).next E67).next E110).next E116)⟩))))))))))));rw [eq_comm,←Bool.not_eq_true,bh];rintro ⟨⟨n1,n2,n3,⟨n4,n5⟩,n6,n7,n8,n9⟩,⟨g1,g2,g3,g4,g5⟩,v1,l1,⟨p1,p2,p3⟩⟩
  first
   |omega
   |(simp_all;done)
   |(simp_all;omega)
 (try simp only [bs9] at Q96)
 refine ae rfl (ab (aa dJ rfl) (ae rfl (ab (aq an rfl (by exact (hk1.from_ (((ai.rfl_.next E67).next E110).next E116)).rd 21 rfl)) ?_)));refine ae rfl (ab (b_ rfl rfl) (ab (aw (v:=.bool _) rfl rfl) (mvb rfl (zt (t:=146) rfl (fun Q97=>?_) (fun Q97=>?_)))))
 ·(try simp only [bs9] at Q97)
  refine bc rfl (aj (af (aL rfl (ak (ag (asb rfl (aj (af (aC (az (bo (v:=.bool _) rfl rfl (⟨congrArg Value.bool ?_,((((ai.rfl_.next E1).next E67).next E110).next E116)⟩))))))))))));rw [eq_comm,←Bool.not_eq_true,bh];rintro ⟨⟨n1,n2,n3,⟨n4,n5⟩,n6,n7,n8,n9⟩,⟨g1,g2,g3,g4,g5⟩,v1,l1,⟨p1,p2,p3⟩⟩
  first
   |omega
   |(simp_all;done)
   |(simp_all;omega)
 (try simp only [bs9] at Q97)
 refine ae rfl (ab (aa dJ rfl) (ae rfl (ab (aq an rfl (by exact (hk1.from_ (((ai.rfl_.next E67).next E110).next E116)).rd 21 rfl)) ?_)));refine ae rfl (ab (bS rfl rfl) (ab (aw (v:=.bool _) rfl rfl) (mvb rfl (zt (t:=151) rfl (fun Q98=>?_) (fun Q98=>?_)))))
 ·(try simp only [bs9] at Q98)
  refine bc rfl (aj (af (aL rfl (ak (ag (asb rfl (aj (af (aC (az (bo (v:=.bool _) rfl rfl (⟨congrArg Value.bool ?_,((((ai.rfl_.next E1).next E67).next E110).next E116)⟩))))))))))));rw [eq_comm,←Bool.not_eq_true,bh];rintro ⟨⟨n1,n2,n3,⟨n4,n5⟩,n6,n7,n8,n9⟩,⟨g1,g2,g3,g4,g5⟩,v1,l1,⟨p1,p2,p3⟩⟩
  first
   |omega
   |(simp_all;done)
   |(simp_all;omega)
 (try simp only [bs9] at Q98)
 refine ae rfl (ab (aa dJ rfl) (ae rfl (ab (aq an rfl (by exact (hk1.from_ (((ai.rfl_.next E67).next E110).next E116)).rd 21 rfl)) ?_)));refine ae rfl (ab (bj rfl rfl) (ae rfl (mvb rfl (zt (t:=155) rfl (fun Q99=>?_) (fun Q99=>?_)))))
 ·(try simp only [bs9] at Q99)
  refine ae rfl (ab (aa dS rfl) (ae rfl (ab (aq cK rfl (by exact (hk1.from_ (((ai.rfl_.next E67).next E110).next E116)).rd 20 rfl)) ?_)));refine ae rfl (ab (iD (qd rfl rfl) (congrArg Value.bool (zf s.part))) (ae rfl (ab (aJ (v:=.bool _) rfl rfl) (ab (aw (v:=.bool _) rfl rfl) (aj (af (Ab rfl (fun Q100=>?_) (fun Q100=>?_))))))))
  ·(try simp only [bs9] at Q100)
   refine ak (ag (asb rfl (aj (af (aC (az (bo (v:=.bool _) rfl rfl (⟨congrArg Value.bool ?_,((((ai.rfl_.next E1).next E67).next E110).next E116)⟩))))))));rw [eq_comm,←Bool.not_eq_true,bh];rintro ⟨⟨n1,n2,n3,⟨n4,n5⟩,n6,n7,n8,n9⟩,⟨g1,g2,g3,g4,g5⟩,v1,l1,⟨p1,p2,p3⟩⟩
   first
    |omega
    |(simp_all;done)
    |(simp_all;omega)
  (try simp only [bs9] at Q100)
  refine aM (af (ak (ag (asi rfl (aj (af (iz (G:=Unit) [161,162,163,164,165] (fun _=>[(5,.int .i64 nn)]) (fun _ w'=>Blk w' b1 29 (rfV s (⟨E,Ec,V,Vc,X,Xc,M,Mc,Sn,Sc,Q,Qc,LL⟩:Ra)).toArray∧ai w w') ?_ ?_)))))))
  ·refine ak (ag (ab (aa du rfl) (ab (aq an rfl (by exact (hk1.from_ (((ai.rfl_.next E67).next E110).next E116)).rd 2 rfl)) ?_)));refine ab (bj rfl rfl) (aj (af (Ab rfl (fun Q101=>?_) (fun Q101=>?_))))
   ·refine ag (ab (aa bX rfl) (ab (aq an rfl (by exact (hk1.from_ (((ai.rfl_.next E67).next E110).next E116)).rd 1 rfl)) ?_));refine asi rfl (aj ?_);refine cu (()) ⟨(bT (by first | exact (hnn.1 (by omega)).symm | exact (hnn.2 (by omega)).symm)),trivial⟩ (by (iterate 6 refine bI rfl ?_);exact bU) ?_;exact ⟨hk1.from_ (((ai.rfl_.next E67).next E110).next E116),((((ai.rfl_.next E1).next E67).next E110).next E116)⟩
   refine aM ?_;refine cu (()) ⟨(bT (by first | exact (hnn.1 (by omega)).symm | exact (hnn.2 (by omega)).symm)),trivial⟩ (by (iterate 3 refine bI rfl ?_);exact bU) ?_;exact ⟨hk1.from_ (((ai.rfl_.next E67).next E110).next E116),((((ai.rfl_.next E1).next E67).next E110).next E116)⟩
  rintro ⟨⟩ ρ102 w102 ⟨hk1,hB⟩;refine iz (G:=Unit) [2,166,167,168,169,170,171,172,173,174,175,176,177,178,179,180,181,182,183,184,185,186,187,188,189,190,191,192,193,194,195,196,197,198,199,200,201,202,203,204,205,206] (fun _=>[]) (fun _ w'=>cg s.next nn 1 (bH s+1)∧cg s.mtch nn 0 (bH s)∧cg s.sent nn 0 (s.snap.size:Nat)∧LL.length≤32∧(nn≠0∨LL.length=0)∧Blk w' b1 29 (rfV s (⟨E,Ec,V,Vc,X,Xc,M,Mc,Sn,Sc,Q,Qc,LL⟩:Ra)).toArray∧ai w w') ?_ ?_
  ·refine ak (ag (ab (aa cL rfl) (ab (aq bn rfl (by exact (show _=some (Value.slice X s.next.length Xc) from (hk1.from_ ai.rfl_).rd 15 rfl))) ?_)));refine mvi rfl (mvi rfl (ab (cq rfl rfl (by omega)) (aB fg (km X Xc s.next _ 1 (bH s+1) _ (hrd.x.1.from_ hB) hl2) ?_)));rintro v171 w103 ⟨rfl,E171⟩;refine ab (cl rfl) (mvb rfl (aF (t:=173) rfl (fun Q104=>?_) (fun Q104=>?_)))
   ·with_reducible (replace Q104:=dw Q104;replace Q104:=dF_ Q104)
    (try simp only [bs9] at Q104)
    refine bc rfl (aj (af (aL rfl (ak (ag (asb rfl (aj (af (aC (az (bo (v:=.bool _) rfl rfl (⟨congrArg Value.bool ?_,(hB.next E171)⟩))))))))))));rw [eq_comm,←Bool.not_eq_true,bh];rintro ⟨⟨n1,n2,n3,⟨n4,n5⟩,n6,n7,n8,n9⟩,⟨g1,g2,g3,g4,g5⟩,v1,l1,⟨p1,p2,p3⟩⟩;by_cases hro:s.role=2
    ·rw [bm hro] at l1;obtain rfl:nn=s.nodes:=hnn.1 hro;obtain ⟨⟨l2,l3,l4,l5⟩,⟨l6,l7,l8⟩,l9⟩:=l1
     first
      |omega
      |(rename_i q9;exact q9 ⟨by omega,by assumption⟩)
      |(simp_all [cg];done)
      |(simp_all [cg];omega)
    ·rw [bP hro] at l1;obtain rfl:nn=0:=hnn.2 hro;have e1:s.next=[]:=List.eq_nil_of_length_eq_zero (by omega);have e2:s.mtch=[]:=List.eq_nil_of_length_eq_zero (by omega);have e3:s.sent=[]:=List.eq_nil_of_length_eq_zero (by omega)
     first
      |omega
      |(simp_all [cg,de];done)
      |(simp_all [cg,de];omega)
   with_reducible (replace Q104:=dy Q104;replace Q104:=dT_ Q104)
   (try simp only [bs9] at Q104)
   refine ae rfl (ab (aa cO rfl) (ae rfl (ab (aq bn rfl (by exact (show _=some (Value.slice M s.mtch.length Mc) from (hk1.from_ (ai.rfl_.next E171)).rd 16 rfl))) ?_)));refine ae rfl (mvi rfl (ae rfl (mvi rfl (ae rfl (aB fg (km M Mc s.mtch _ 0 (bH s) _ (hrd.m.1.from_ (hB.next E171)) hl3) ?_)))));rintro v178 w105 ⟨rfl,E178⟩;refine ae rfl (ab (cl rfl) (ab (aw (v:=.bool _) rfl rfl) (mvb rfl (aF (t:=181) rfl (fun Q106=>?_) (fun Q106=>?_)))))
   ·with_reducible (replace Q106:=dw Q106;replace Q106:=dF_ Q106)
    (try simp only [bs9] at Q106)
    refine bc rfl (aj (af (aL rfl (ak (ag (asb rfl (aj (af (aC (az (bo (v:=.bool _) rfl rfl (⟨congrArg Value.bool ?_,((hB.next E171).next E178)⟩))))))))))));rw [eq_comm,←Bool.not_eq_true,bh];rintro ⟨⟨n1,n2,n3,⟨n4,n5⟩,n6,n7,n8,n9⟩,⟨g1,g2,g3,g4,g5⟩,v1,l1,⟨p1,p2,p3⟩⟩;by_cases hro:s.role=2
    ·rw [bm hro] at l1;obtain rfl:nn=s.nodes:=hnn.1 hro;obtain ⟨⟨l2,l3,l4,l5⟩,⟨l6,l7,l8⟩,l9⟩:=l1
     first
      |omega
      |(rename_i q9;exact q9 ⟨by omega,by assumption⟩)
      |(simp_all [cg];done)
      |(simp_all [cg];omega)
    ·rw [bP hro] at l1;obtain rfl:nn=0:=hnn.2 hro;have e1:s.next=[]:=List.eq_nil_of_length_eq_zero (by omega);have e2:s.mtch=[]:=List.eq_nil_of_length_eq_zero (by omega);have e3:s.sent=[]:=List.eq_nil_of_length_eq_zero (by omega)
     first
      |omega
      |(simp_all [cg,de];done)
      |(simp_all [cg,de];omega)
   with_reducible (replace Q106:=dy Q106;replace Q106:=dT_ Q106)
   (try simp only [bs9] at Q106)
   refine ae rfl (ab (aa cT rfl) (ae rfl (ab (aq bn rfl (by exact (show _=some (Value.slice Sn s.sent.length Sc) from (hk1.from_ ((ai.rfl_.next E171).next E178)).rd 17 rfl))) ?_)));refine ae rfl (mvi rfl (ae rfl (ab (aa dF rfl) (ae rfl (ab (aq cK rfl (by exact (hk1.from_ ((ai.rfl_.next E171).next E178)).rd 9 rfl)) ?_)))));refine ae rfl (ab (eG (by kernel_rfl) rfl) (ae rfl (aB fg (km Sn Sc s.sent _ 0 (s.snap.size:Nat) _ (hrd.n.1.from_ ((hB.next E171).next E178)) hl4) ?_)));rintro v188 w107 ⟨rfl,E188⟩;refine ae rfl (ab (cl rfl) (ab (aw (v:=.bool _) rfl rfl) (mvb rfl (aF (t:=191) rfl (fun Q108=>?_) (fun Q108=>?_)))))
   ·with_reducible (replace Q108:=dw Q108;replace Q108:=dF_ Q108)
    (try simp only [bs9] at Q108)
    refine bc rfl (aj (af (aL rfl (ak (ag (asb rfl (aj (af (aC (az (bo (v:=.bool _) rfl rfl (⟨congrArg Value.bool ?_,(((hB.next E171).next E178).next E188)⟩))))))))))));rw [eq_comm,←Bool.not_eq_true,bh];rintro ⟨⟨n1,n2,n3,⟨n4,n5⟩,n6,n7,n8,n9⟩,⟨g1,g2,g3,g4,g5⟩,v1,l1,⟨p1,p2,p3⟩⟩;by_cases hro:s.role=2
    ·rw [bm hro] at l1;obtain rfl:nn=s.nodes:=hnn.1 hro;obtain ⟨⟨l2,l3,l4,l5⟩,⟨l6,l7,l8⟩,l9⟩:=l1
     first
      |omega
      |(rename_i q9;exact q9 ⟨by omega,by assumption⟩)
      |(simp_all [cg];done)
      |(simp_all [cg];omega)
    ·rw [bP hro] at l1;obtain rfl:nn=0:=hnn.2 hro;have e1:s.next=[]:=List.eq_nil_of_length_eq_zero (by omega);have e2:s.mtch=[]:=List.eq_nil_of_length_eq_zero (by omega);have e3:s.sent=[]:=List.eq_nil_of_length_eq_zero (by omega)
     first
      |omega
      |(simp_all [cg,de];done)
      |(simp_all [cg,de];omega)
   with_reducible (replace Q108:=dy Q108;replace Q108:=dT_ Q108)
   (try simp only [bs9] at Q108)
   refine ae rfl (ab (aa bL rfl) (ae rfl (ab (aq dc rfl (by exact (show _=some (Value.slice Q LL.length Qc) from (hk1.from_ (((ai.rfl_.next E171).next E178).next E188)).rd 19 rfl))) ?_)));refine ae rfl (ab (bW dR rfl) (ae rfl (ab (bS rfl rfl) (ab (aw (v:=.bool _) rfl rfl) (mvb rfl (zt (t:=197) rfl (fun Q109=>?_) (fun Q109=>?_)))))))
   ·(try simp only [bs9] at Q109)
    refine bc rfl (aj (af (aL rfl (ak (ag (asb rfl (aj (af (aC (az (bo (v:=.bool _) rfl rfl (⟨congrArg Value.bool ?_,(((hB.next E171).next E178).next E188)⟩))))))))))));rw [eq_comm,←Bool.not_eq_true,bh];rintro ⟨⟨n1,n2,n3,⟨n4,n5⟩,n6,n7,n8,n9⟩,⟨g1,g2,g3,g4,g5⟩,v1,l1,⟨p1,p2,p3⟩⟩;by_cases hro:s.role=2
    ·rw [bm hro] at l1;obtain rfl:nn=s.nodes:=hnn.1 hro;obtain ⟨⟨l2,l3,l4,l5⟩,⟨l6,l7,l8⟩,l9⟩:=l1
     first
      |omega
      |(rename_i q9;exact q9 ⟨by omega,by assumption⟩)
      |(simp_all [cg];done)
      |(simp_all [cg];omega)
    ·rw [bP hro] at l1;obtain rfl:nn=0:=hnn.2 hro;have e1:s.next=[]:=List.eq_nil_of_length_eq_zero (by omega);have e2:s.mtch=[]:=List.eq_nil_of_length_eq_zero (by omega);have e3:s.sent=[]:=List.eq_nil_of_length_eq_zero (by omega)
     first
      |omega
      |(simp_all [cg,de];done)
      |(simp_all [cg,de];omega)
   (try simp only [bs9] at Q109)
   refine ae rfl (mvi rfl (ae rfl (ab (bj rfl rfl) (ae rfl (mvb rfl (zt (t:=200) rfl (fun Q110=>?_) (fun Q110=>?_)))))))
   ·(try simp only [bs9] at Q110)
    refine ae rfl (ab (aa bL rfl) (ae rfl (ab (aq dc rfl (by exact (show _=some (Value.slice Q LL.length Qc) from (hk1.from_ (((ai.rfl_.next E171).next E178).next E188)).rd 19 rfl))) ?_)));refine ae rfl (ab (bW dR rfl) (ae rfl (ab (bS rfl rfl) (ae rfl (ab (aJ (v:=.bool _) rfl rfl) (ab (aw (v:=.bool _) rfl rfl) (aj (af (Ab rfl (fun Q111=>?_) (fun Q111=>?_))))))))))
    ·(try simp only [bs9] at Q111)
     refine ak (ag (asb rfl (aj (af (aC (az (bo (v:=.bool _) rfl rfl (⟨congrArg Value.bool ?_,(((hB.next E171).next E178).next E188)⟩))))))));rw [eq_comm,←Bool.not_eq_true,bh];rintro ⟨⟨n1,n2,n3,⟨n4,n5⟩,n6,n7,n8,n9⟩,⟨g1,g2,g3,g4,g5⟩,v1,l1,⟨p1,p2,p3⟩⟩;by_cases hro:s.role=2
     ·rw [bm hro] at l1;obtain rfl:nn=s.nodes:=hnn.1 hro;obtain ⟨⟨l2,l3,l4,l5⟩,⟨l6,l7,l8⟩,l9⟩:=l1
      first
       |omega
       |(rename_i q9;exact q9 ⟨by omega,by assumption⟩)
       |(simp_all [cg];done)
       |(simp_all [cg];omega)
     ·rw [bP hro] at l1;obtain rfl:nn=0:=hnn.2 hro;have e1:s.next=[]:=List.eq_nil_of_length_eq_zero (by omega);have e2:s.mtch=[]:=List.eq_nil_of_length_eq_zero (by omega);have e3:s.sent=[]:=List.eq_nil_of_length_eq_zero (by omega)
      first
       |omega
       |(simp_all [cg,de];done)
       |(simp_all [cg,de];omega)
    (try simp only [bs9] at Q111)
    refine aM ?_;refine cu (()) trivial (by (iterate 46 refine bI rfl ?_);exact bU) ?_;exact ⟨by first | assumption | simp_all,by first | assumption | simp_all,by first | assumption | simp_all,by omega,by omega,hk1.from_ (((ai.rfl_.next E171).next E178).next E188),(((hB.next E171).next E178).next E188)⟩
   (try simp only [bs9] at Q110)
   refine ao rfl rfl (ao rfl rfl (ao rfl rfl (ao rfl rfl (ae rfl (ab (aw (v:=.bool _) rfl rfl) (ab (aw (v:=.bool _) rfl rfl) (aj (af (br rfl ?_)))))))));refine aM ?_;refine cu (()) trivial (by (iterate 46 refine bI rfl ?_);exact bU) ?_;exact ⟨by first | assumption | simp_all,by first | assumption | simp_all,by first | assumption | simp_all,by omega,by omega,hk1.from_ (((ai.rfl_.next E171).next E178).next E188),(((hB.next E171).next E178).next E188)⟩
  rintro ⟨⟩ ρ112 w112 ⟨hx9,hm9,hs9,hl9,hn9,hk1,hB⟩;refine ak (ak (ag (asi rfl (aj (af (bg (dd (G:=Nat) [2,7,207,208,209,210,211,212,213,214,215,216,217,218,219,220,221,222,223,224,225,226,227,228,229,230,231,232,233,234,235,236,237,238,239,240,241,242,243,244,245,246,247,248,249,250,251,252,253,254,255,256,257,258] (fun k=>[(6,.int .i64 (k:Nat))]) (fun k w'=>k≤LL.length∧(∀ j (h:j<LL.length),j<k→fQ s LL[j].1=true)∧Blk w' b1 29 (rfV s (⟨E,Ec,V,Vc,X,Xc,M,Mc,Sn,Sc,Q,Qc,LL⟩:Ra)).toArray∧ai w w') (fun k=>LL.length-k) (0) ⟨rfl,trivial⟩ ?_ ?_)))))))
  ·exact ⟨Nat.zero_le _,fun j _ h=>absurd h (by omega),hk1.from_ ai.rfl_,hB⟩
  rintro k ρ113 w113 ⟨hk,h1,hk1,hB⟩;refine ak (ak (ag (mvi rfl (ab (aa bL rfl) (ab (aq dc rfl (by exact (show _=some (Value.slice Q LL.length Qc) from (hk1.from_ ai.rfl_).rd 19 rfl))) ?_)))));refine ab (bW dR rfl) (ab (b_ rfl rfl) (aj (af (Ab rfl (fun Q114=>?_) (fun Q114=>?_)))))
  ·have hkL:k<LL.length:=by omega
   have hqm:LL[k].1∈s.reads:=by rw [←hrL];exact List.mem_map_of_mem (List.getElem_mem hkL)
   obtain ⟨ba,oa,rfl,hcs⟩:∃ b o,Q=some ⟨b,o,none⟩∧∀ i (hi:i<LL.length),w.rangeAt b (o+i*4) (rdV LL[i]):=hrd.q (by show 0<LL.length;omega);refine aM (af (ak (bg (ak (ag (ab (aa bL rfl) (ab (aq dc rfl (by exact (show _=some (Value.slice (some ⟨ba,oa,none⟩) LL.length Qc) from (hk1.from_ ai.rfl_).rd 19 rfl))) ?_)))))));refine mvi rfl (ab (cn fx rfl rfl (by omega)) (ab (aG (cs:=rdV LL[k]) fV ef rfl (eB hB (hcs k hkL))) (cf fW ?_)));intro b7 w115 E7 hb7 hk7;have hg7:w.heap.size≤b7:=by rw [hb7];exact (hB).size
   have hk1L:=hk1.from_ (ai.rfl_.next E7);have hn7:b1≠b7:=by have:=hk1.lt;have:=((ai.rfl_.next E7)).size;omega
   refine b0 (vs:=[_,_,_,_]) ef rfl rfl (by simp [Value.oneCell']) (hk7) rfl ?_;intro w116 O16 P16;replace hk1:=hk1L.only O16 hn7;refine aj (af (ak (ag (ab (aa fa rfl) (ab (aq an rfl (by exact (show _=some (Value.int .i64 LL[k].1.id) from (P16.from_ ai.rfl_).rd 0 rfl))) ?_)))));refine ab (b_ rfl rfl) (mvb rfl (zt (t:=222) rfl (fun Q117=>?_) (fun Q117=>?_)))
   ·(try simp only [bs9] at Q117)
    refine bc rfl (aj (af (aL rfl (ak (ag (asb rfl (aj (af (aC (aZ (az (az (aZ (az (bo (v:=.bool _) rfl rfl (⟨congrArg Value.bool ?_,((hB.next E7).only O16 (hg7))⟩))))))))))))))));rw [eq_comm,←Bool.not_eq_true,bh];rintro ⟨_,_,_,l1,_⟩;by_cases hro:s.role=2
    ·rw [bm hro] at l1;have g5:=cz.1 (l1.2.2 _ hqm)
     first
      |omega
      |(simp_all;done)
    ·rw [bP hro] at l1;omega
   (try simp only [bs9] at Q117)
   refine ae rfl (ab (aa fa rfl) (ae rfl (ab (aq an rfl (by exact (show _=some (Value.int .i64 LL[k].1.id) from (P16.from_ ai.rfl_).rd 0 rfl))) ?_)));refine ae rfl (ab (bS rfl rfl) (ab (aw (v:=.bool _) rfl rfl) (mvb rfl (zt (t:=227) rfl (fun Q118=>?_) (fun Q118=>?_)))))
   ·(try simp only [bs9] at Q118)
    refine bc rfl (aj (af (aL rfl (ak (ag (asb rfl (aj (af (aC (aZ (az (az (aZ (az (bo (v:=.bool _) rfl rfl (⟨congrArg Value.bool ?_,((hB.next E7).only O16 (hg7))⟩))))))))))))))));rw [eq_comm,←Bool.not_eq_true,bh];rintro ⟨_,_,_,l1,_⟩;by_cases hro:s.role=2
    ·rw [bm hro] at l1;have g5:=cz.1 (l1.2.2 _ hqm)
     first
      |omega
      |(simp_all;done)
    ·rw [bP hro] at l1;omega
   (try simp only [bs9] at Q118)
   refine ae rfl (ab (aa e_ rfl) (ae rfl (ab (aq an rfl (by exact (show _=some (Value.int .i64 LL[k].1.ix) from (P16.from_ ai.rfl_).rd 1 rfl))) ?_)));refine ae rfl (ab (b_ rfl rfl) (ab (aw (v:=.bool _) rfl rfl) (mvb rfl (zt (t:=232) rfl (fun Q119=>?_) (fun Q119=>?_)))))
   ·(try simp only [bs9] at Q119)
    refine bc rfl (aj (af (aL rfl (ak (ag (asb rfl (aj (af (aC (aZ (az (az (aZ (az (bo (v:=.bool _) rfl rfl (⟨congrArg Value.bool ?_,((hB.next E7).only O16 (hg7))⟩))))))))))))))));rw [eq_comm,←Bool.not_eq_true,bh];rintro ⟨_,_,_,l1,_⟩;by_cases hro:s.role=2
    ·rw [bm hro] at l1;have g5:=cz.1 (l1.2.2 _ hqm)
     first
      |omega
      |(simp_all;done)
    ·rw [bP hro] at l1;omega
   (try simp only [bs9] at Q119)
   refine ae rfl (ab (aa e_ rfl) (ae rfl (ab (aq an rfl (by exact (show _=some (Value.int .i64 LL[k].1.ix) from (P16.from_ ai.rfl_).rd 1 rfl))) ?_)));refine ae rfl (ab (aa dr rfl) (ae rfl (ab (aq an rfl (by exact (hk1.from_ ai.rfl_).rd 10 rfl)) ?_)));refine ae rfl (ab (bS rfl rfl) (ab (aw (v:=.bool _) rfl rfl) (mvb rfl (zt (t:=239) rfl (fun Q120=>?_) (fun Q120=>?_)))))
   ·(try simp only [bs9] at Q120)
    refine bc rfl (aj (af (aL rfl (ak (ag (asb rfl (aj (af (aC (aZ (az (az (aZ (az (bo (v:=.bool _) rfl rfl (⟨congrArg Value.bool ?_,((hB.next E7).only O16 (hg7))⟩))))))))))))))));rw [eq_comm,←Bool.not_eq_true,bh];rintro ⟨_,_,_,l1,_⟩;by_cases hro:s.role=2
    ·rw [bm hro] at l1;have g5:=cz.1 (l1.2.2 _ hqm)
     first
      |omega
      |(simp_all;done)
    ·rw [bP hro] at l1;omega
   (try simp only [bs9] at Q120)
   refine ae rfl (ab (aa eZ rfl) (ae rfl (ab (aq an rfl (by exact (show _=some (Value.int .i64 LL[k].1.rn) from (P16.from_ ai.rfl_).rd 2 rfl))) ?_)));refine ae rfl (ab (b_ rfl rfl) (ab (aw (v:=.bool _) rfl rfl) (mvb rfl (zt (t:=244) rfl (fun Q121=>?_) (fun Q121=>?_)))))
   ·(try simp only [bs9] at Q121)
    refine bc rfl (aj (af (aL rfl (ak (ag (asb rfl (aj (af (aC (aZ (az (az (aZ (az (bo (v:=.bool _) rfl rfl (⟨congrArg Value.bool ?_,((hB.next E7).only O16 (hg7))⟩))))))))))))))));rw [eq_comm,←Bool.not_eq_true,bh];rintro ⟨_,_,_,l1,_⟩;by_cases hro:s.role=2
    ·rw [bm hro] at l1;have g5:=cz.1 (l1.2.2 _ hqm)
     first
      |omega
      |(simp_all;done)
    ·rw [bP hro] at l1;omega
   (try simp only [bs9] at Q121)
   refine ae rfl (ab (aa eZ rfl) (ae rfl (ab (aq an rfl (by exact (show _=some (Value.int .i64 LL[k].1.rn) from (P16.from_ ai.rfl_).rd 2 rfl))) ?_)));refine ae rfl (ab (aa dA rfl) (ae rfl (ab (aq an rfl (by exact (hk1.from_ ai.rfl_).rd 18 rfl)) ?_)));refine ae rfl (ab (bS rfl rfl) (ab (aw (v:=.bool _) rfl rfl) (mvb rfl (zt (t:=251) rfl (fun Q122=>?_) (fun Q122=>?_)))))
   ·(try simp only [bs9] at Q122)
    refine bc rfl (aj (af (aL rfl (ak (ag (asb rfl (aj (af (aC (aZ (az (az (aZ (az (bo (v:=.bool _) rfl rfl (⟨congrArg Value.bool ?_,((hB.next E7).only O16 (hg7))⟩))))))))))))))));rw [eq_comm,←Bool.not_eq_true,bh];rintro ⟨_,_,_,l1,_⟩;by_cases hro:s.role=2
    ·rw [bm hro] at l1;have g5:=cz.1 (l1.2.2 _ hqm)
     first
      |omega
      |(simp_all;done)
    ·rw [bP hro] at l1;omega
   (try simp only [bs9] at Q122)
   refine ae rfl (ab (aa ep rfl) (ae rfl (ab (aq bn rfl (by exact (show _=some (Value.slice LL[k].2.1 LL[k].1.acks.length LL[k].2.2) from (P16.from_ ai.rfl_).rd 3 rfl))) ?_)));refine ae rfl (ab (aa bX rfl) (ae rfl (ab (aq an rfl (by exact (hk1.from_ ai.rfl_).rd 1 rfl)) ?_)));refine ae rfl (aB iO (mG LL[k].2.1 LL[k].2.2 LL[k].1.acks s.nodes _ ((hrk _ (List.getElem_mem hkL)).1.from_ ((hB.next E7).only O16 (hg7))) (hl6 _ hqm)) ?_);rintro v256 w123 ⟨rfl,E256⟩;refine ae rfl (ab (cl rfl) (ab (aw (v:=.bool _) rfl rfl) (aj (af (z_ rfl (fun Q124=>?_) (fun Q124=>?_))))))
   ·(try simp only [bs9] at Q124)
    refine ak (ag (asb rfl (aj (af (aC (aZ (az (az (aZ (az (bo (v:=.bool _) rfl rfl (⟨congrArg Value.bool ?_,(((hB.next E7).only O16 (hg7)).next E256)⟩))))))))))));rw [eq_comm,←Bool.not_eq_true,bh];rintro ⟨_,_,_,l1,_⟩;by_cases hro:s.role=2
    ·rw [bm hro] at l1;have g5:=cz.1 (l1.2.2 _ hqm)
     first
      |omega
      |(simp_all;done)
    ·rw [bP hro] at l1;omega
   (try simp only [bs9] at Q124)
   refine aM (bE (af (ag (mvi rfl (ab (cq rfl rfl (by omega)) (asi rfl (aj ?_)))))));refine cu (k+1) ⟨(by first | rfl | (refine bT ?_;omega)),trivial⟩ (by (iterate 115 refine bI rfl ?_);exact bU) ⟨?_,?_⟩
   ·refine ⟨by omega,fun j h hj=>?_,hk1.from_ (ai.rfl_.next E256),(((hB.next E7).only O16 (hg7)).next E256)⟩;rcases Nat.lt_or_ge j k with e | e
    ·exact h1 j h e
    ·obtain rfl:j=k:=by omega
     rw [cz];exact ⟨by omega,by omega,by omega,by first | assumption | simp_all⟩
   ·omega
  refine cI (bD (bD (cr (af (ak (ag (asb rfl (aj (af (aC (bo (v:=.bool _) rfl rfl (⟨congrArg Value.bool ?_,hB⟩))))))))))));rw [eq_comm,bh]
  have hrd9:∀ q∈s.reads,fQ s q=true:=fun q hq=>by
   rw [←hrL] at hq;obtain ⟨y,hy,rfl⟩:=List.mem_map.1 hq;obtain ⟨i,hi,rfl⟩:=List.getElem_of_mem hy;exact h1 i hi (by omega)
  refine ⟨⟨by omega,by omega,by omega,⟨by omega,by omega⟩,by omega,by omega,by omega,by omega⟩,⟨by simp_all,by omega,by omega,by omega,by omega⟩,by simp_all,?_,⟨by omega,by omega,by omega⟩⟩;by_cases hro:s.role=2
  ·rw [bm hro];obtain rfl:nn=s.nodes:=hnn.1 hro;refine ⟨⟨?_,?_,?_,?_⟩,⟨?_,?_,?_⟩,hrd9⟩ <;> first | omega | (simp_all [cg];done) | (simp_all [cg];omega)
  ·rw [bP hro];obtain rfl:nn=0:=hnn.2 hro
   simp_all [cg]
 (try simp only [bs9] at Q99)
 refine ao rfl rfl (ao rfl rfl (ao rfl rfl (ae rfl (ab (aw (v:=.bool _) rfl rfl) (ab (aw (v:=.bool _) rfl rfl) (aj (af (br rfl (aM (af (ak (ag ?_))))))))))));refine asi rfl (aj (af (iz (G:=Unit) [161,162,163,164,165] (fun _=>[(5,.int .i64 nn)]) (fun _ w'=>Blk w' b1 29 (rfV s (⟨E,Ec,V,Vc,X,Xc,M,Mc,Sn,Sc,Q,Qc,LL⟩:Ra)).toArray∧ai w w') ?_ ?_)))
 ·refine ak (ag (ab (aa du rfl) (ab (aq an rfl (by exact (hk1.from_ (((ai.rfl_.next E67).next E110).next E116)).rd 2 rfl)) ?_)));refine ab (bj rfl rfl) (aj (af (Ab rfl (fun Q125=>?_) (fun Q125=>?_))))
  ·refine ag (ab (aa bX rfl) (ab (aq an rfl (by exact (hk1.from_ (((ai.rfl_.next E67).next E110).next E116)).rd 1 rfl)) ?_));refine asi rfl (aj ?_);refine cu (()) ⟨(bT (by first | exact (hnn.1 (by omega)).symm | exact (hnn.2 (by omega)).symm)),trivial⟩ (by (iterate 6 refine bI rfl ?_);exact bU) ?_;exact ⟨hk1.from_ (((ai.rfl_.next E67).next E110).next E116),((((ai.rfl_.next E1).next E67).next E110).next E116)⟩
  refine aM ?_;refine cu (()) ⟨(bT (by first | exact (hnn.1 (by omega)).symm | exact (hnn.2 (by omega)).symm)),trivial⟩ (by (iterate 3 refine bI rfl ?_);exact bU) ?_;exact ⟨hk1.from_ (((ai.rfl_.next E67).next E110).next E116),((((ai.rfl_.next E1).next E67).next E110).next E116)⟩
 rintro ⟨⟩ ρ126 w126 ⟨hk1,hB⟩;refine iz (G:=Unit) [2,166,167,168,169,170,171,172,173,174,175,176,177,178,179,180,181,182,183,184,185,186,187,188,189,190,191,192,193,194,195,196,197,198,199,200,201,202,203,204,205,206] (fun _=>[]) (fun _ w'=>cg s.next nn 1 (bH s+1)∧cg s.mtch nn 0 (bH s)∧cg s.sent nn 0 (s.snap.size:Nat)∧LL.length≤32∧(nn≠0∨LL.length=0)∧Blk w' b1 29 (rfV s (⟨E,Ec,V,Vc,X,Xc,M,Mc,Sn,Sc,Q,Qc,LL⟩:Ra)).toArray∧ai w w') ?_ ?_
 ·refine ak (ag (ab (aa cL rfl) (ab (aq bn rfl (by exact (show _=some (Value.slice X s.next.length Xc) from (hk1.from_ ai.rfl_).rd 15 rfl))) ?_)));refine mvi rfl (mvi rfl (ab (cq rfl rfl (by omega)) (aB fg (km X Xc s.next _ 1 (bH s+1) _ (hrd.x.1.from_ hB) hl2) ?_)));rintro v171 w127 ⟨rfl,E171⟩;refine ab (cl rfl) (mvb rfl (aF (t:=173) rfl (fun Q128=>?_) (fun Q128=>?_)))
  ·with_reducible (replace Q128:=dw Q128;replace Q128:=dF_ Q128)
   (try simp only [bs9] at Q128)
   refine bc rfl (aj (af (aL rfl (ak (ag (asb rfl (aj (af (aC (az (bo (v:=.bool _) rfl rfl (⟨congrArg Value.bool ?_,(hB.next E171)⟩))))))))))));rw [eq_comm,←Bool.not_eq_true,bh];rintro ⟨⟨n1,n2,n3,⟨n4,n5⟩,n6,n7,n8,n9⟩,⟨g1,g2,g3,g4,g5⟩,v1,l1,⟨p1,p2,p3⟩⟩;by_cases hro:s.role=2
   ·rw [bm hro] at l1;obtain rfl:nn=s.nodes:=hnn.1 hro;obtain ⟨⟨l2,l3,l4,l5⟩,⟨l6,l7,l8⟩,l9⟩:=l1
    first
     |omega
     |(rename_i q9;exact q9 ⟨by omega,by assumption⟩)
     |(simp_all [cg];done)
     |(simp_all [cg];omega)
   ·rw [bP hro] at l1;obtain rfl:nn=0:=hnn.2 hro;have e1:s.next=[]:=List.eq_nil_of_length_eq_zero (by omega);have e2:s.mtch=[]:=List.eq_nil_of_length_eq_zero (by omega);have e3:s.sent=[]:=List.eq_nil_of_length_eq_zero (by omega)
    first
     |omega
     |(simp_all [cg,de];done)
     |(simp_all [cg,de];omega)
  with_reducible (replace Q128:=dy Q128;replace Q128:=dT_ Q128)
  (try simp only [bs9] at Q128)
  refine ae rfl (ab (aa cO rfl) (ae rfl (ab (aq bn rfl (by exact (show _=some (Value.slice M s.mtch.length Mc) from (hk1.from_ (ai.rfl_.next E171)).rd 16 rfl))) ?_)));refine ae rfl (mvi rfl (ae rfl (mvi rfl (ae rfl (aB fg (km M Mc s.mtch _ 0 (bH s) _ (hrd.m.1.from_ (hB.next E171)) hl3) ?_)))));rintro v178 w129 ⟨rfl,E178⟩;refine ae rfl (ab (cl rfl) (ab (aw (v:=.bool _) rfl rfl) (mvb rfl (aF (t:=181) rfl (fun Q130=>?_) (fun Q130=>?_)))))
  ·with_reducible (replace Q130:=dw Q130;replace Q130:=dF_ Q130)
   (try simp only [bs9] at Q130)
   refine bc rfl (aj (af (aL rfl (ak (ag (asb rfl (aj (af (aC (az (bo (v:=.bool _) rfl rfl (⟨congrArg Value.bool ?_,((hB.next E171).next E178)⟩))))))))))));rw [eq_comm,←Bool.not_eq_true,bh];rintro ⟨⟨n1,n2,n3,⟨n4,n5⟩,n6,n7,n8,n9⟩,⟨g1,g2,g3,g4,g5⟩,v1,l1,⟨p1,p2,p3⟩⟩;by_cases hro:s.role=2
   ·rw [bm hro] at l1;obtain rfl:nn=s.nodes:=hnn.1 hro;obtain ⟨⟨l2,l3,l4,l5⟩,⟨l6,l7,l8⟩,l9⟩:=l1
    first
     |omega
     |(rename_i q9;exact q9 ⟨by omega,by assumption⟩)
     |(simp_all [cg];done)
     |(simp_all [cg];omega)
   ·rw [bP hro] at l1;obtain rfl:nn=0:=hnn.2 hro;have e1:s.next=[]:=List.eq_nil_of_length_eq_zero (by omega);have e2:s.mtch=[]:=List.eq_nil_of_length_eq_zero (by omega);have e3:s.sent=[]:=List.eq_nil_of_length_eq_zero (by omega)
    first
     |omega
     |(simp_all [cg,de];done)
     |(simp_all [cg,de];omega)
  with_reducible (replace Q130:=dy Q130;replace Q130:=dT_ Q130)
  (try simp only [bs9] at Q130)
  refine ae rfl (ab (aa cT rfl) (ae rfl (ab (aq bn rfl (by exact (show _=some (Value.slice Sn s.sent.length Sc) from (hk1.from_ ((ai.rfl_.next E171).next E178)).rd 17 rfl))) ?_)));refine ae rfl (mvi rfl (ae rfl (ab (aa dF rfl) (ae rfl (ab (aq cK rfl (by exact (hk1.from_ ((ai.rfl_.next E171).next E178)).rd 9 rfl)) ?_)))));refine ae rfl (ab (eG (by kernel_rfl) rfl) (ae rfl (aB fg (km Sn Sc s.sent _ 0 (s.snap.size:Nat) _ (hrd.n.1.from_ ((hB.next E171).next E178)) hl4) ?_)));rintro v188 w131 ⟨rfl,E188⟩;refine ae rfl (ab (cl rfl) (ab (aw (v:=.bool _) rfl rfl) (mvb rfl (aF (t:=191) rfl (fun Q132=>?_) (fun Q132=>?_)))))
  ·with_reducible (replace Q132:=dw Q132;replace Q132:=dF_ Q132)
   (try simp only [bs9] at Q132)
   refine bc rfl (aj (af (aL rfl (ak (ag (asb rfl (aj (af (aC (az (bo (v:=.bool _) rfl rfl (⟨congrArg Value.bool ?_,(((hB.next E171).next E178).next E188)⟩))))))))))));rw [eq_comm,←Bool.not_eq_true,bh];rintro ⟨⟨n1,n2,n3,⟨n4,n5⟩,n6,n7,n8,n9⟩,⟨g1,g2,g3,g4,g5⟩,v1,l1,⟨p1,p2,p3⟩⟩;by_cases hro:s.role=2
   ·rw [bm hro] at l1;obtain rfl:nn=s.nodes:=hnn.1 hro;obtain ⟨⟨l2,l3,l4,l5⟩,⟨l6,l7,l8⟩,l9⟩:=l1
    first
     |omega
     |(rename_i q9;exact q9 ⟨by omega,by assumption⟩)
     |(simp_all [cg];done)
     |(simp_all [cg];omega)
   ·rw [bP hro] at l1;obtain rfl:nn=0:=hnn.2 hro;have e1:s.next=[]:=List.eq_nil_of_length_eq_zero (by omega);have e2:s.mtch=[]:=List.eq_nil_of_length_eq_zero (by omega);have e3:s.sent=[]:=List.eq_nil_of_length_eq_zero (by omega)
    first
     |omega
     |(simp_all [cg,de];done)
     |(simp_all [cg,de];omega)
  with_reducible (replace Q132:=dy Q132;replace Q132:=dT_ Q132)
  (try simp only [bs9] at Q132)
  refine ae rfl (ab (aa bL rfl) (ae rfl (ab (aq dc rfl (by exact (show _=some (Value.slice Q LL.length Qc) from (hk1.from_ (((ai.rfl_.next E171).next E178).next E188)).rd 19 rfl))) ?_)));refine ae rfl (ab (bW dR rfl) (ae rfl (ab (bS rfl rfl) (ab (aw (v:=.bool _) rfl rfl) (mvb rfl (zt (t:=197) rfl (fun Q133=>?_) (fun Q133=>?_)))))))
  ·(try simp only [bs9] at Q133)
   refine bc rfl (aj (af (aL rfl (ak (ag (asb rfl (aj (af (aC (az (bo (v:=.bool _) rfl rfl (⟨congrArg Value.bool ?_,(((hB.next E171).next E178).next E188)⟩))))))))))));rw [eq_comm,←Bool.not_eq_true,bh];rintro ⟨⟨n1,n2,n3,⟨n4,n5⟩,n6,n7,n8,n9⟩,⟨g1,g2,g3,g4,g5⟩,v1,l1,⟨p1,p2,p3⟩⟩;by_cases hro:s.role=2
   ·rw [bm hro] at l1;obtain rfl:nn=s.nodes:=hnn.1 hro;obtain ⟨⟨l2,l3,l4,l5⟩,⟨l6,l7,l8⟩,l9⟩:=l1
    first
     |omega
     |(rename_i q9;exact q9 ⟨by omega,by assumption⟩)
     |(simp_all [cg];done)
     |(simp_all [cg];omega)
   ·rw [bP hro] at l1;obtain rfl:nn=0:=hnn.2 hro;have e1:s.next=[]:=List.eq_nil_of_length_eq_zero (by omega);have e2:s.mtch=[]:=List.eq_nil_of_length_eq_zero (by omega);have e3:s.sent=[]:=List.eq_nil_of_length_eq_zero (by omega)
    first
     |omega
     |(simp_all [cg,de];done)
     |(simp_all [cg,de];omega)
  (try simp only [bs9] at Q133)
  refine ae rfl (mvi rfl (ae rfl (ab (bj rfl rfl) (ae rfl (mvb rfl (zt (t:=200) rfl (fun Q134=>?_) (fun Q134=>?_)))))))
  ·(try simp only [bs9] at Q134)
   refine ae rfl (ab (aa bL rfl) (ae rfl (ab (aq dc rfl (by exact (show _=some (Value.slice Q LL.length Qc) from (hk1.from_ (((ai.rfl_.next E171).next E178).next E188)).rd 19 rfl))) ?_)));refine ae rfl (ab (bW dR rfl) (ae rfl (ab (bS rfl rfl) (ae rfl (ab (aJ (v:=.bool _) rfl rfl) (ab (aw (v:=.bool _) rfl rfl) (aj (af (Ab rfl (fun Q135=>?_) (fun Q135=>?_))))))))))
   ·(try simp only [bs9] at Q135)
    refine ak (ag (asb rfl (aj (af (aC (az (bo (v:=.bool _) rfl rfl (⟨congrArg Value.bool ?_,(((hB.next E171).next E178).next E188)⟩))))))));rw [eq_comm,←Bool.not_eq_true,bh];rintro ⟨⟨n1,n2,n3,⟨n4,n5⟩,n6,n7,n8,n9⟩,⟨g1,g2,g3,g4,g5⟩,v1,l1,⟨p1,p2,p3⟩⟩;by_cases hro:s.role=2
    ·rw [bm hro] at l1;obtain rfl:nn=s.nodes:=hnn.1 hro;obtain ⟨⟨l2,l3,l4,l5⟩,⟨l6,l7,l8⟩,l9⟩:=l1
     first
      |omega
      |(rename_i q9;exact q9 ⟨by omega,by assumption⟩)
      |(simp_all [cg];done)
      |(simp_all [cg];omega)
    ·rw [bP hro] at l1;obtain rfl:nn=0:=hnn.2 hro;have e1:s.next=[]:=List.eq_nil_of_length_eq_zero (by omega);have e2:s.mtch=[]:=List.eq_nil_of_length_eq_zero (by omega);have e3:s.sent=[]:=List.eq_nil_of_length_eq_zero (by omega)
     first
      |omega
      |(simp_all [cg,de];done)
      |(simp_all [cg,de];omega)
   (try simp only [bs9] at Q135)
   refine aM ?_;refine cu (()) trivial (by (iterate 46 refine bI rfl ?_);exact bU) ?_;exact ⟨by first | assumption | simp_all,by first | assumption | simp_all,by first | assumption | simp_all,by omega,by omega,hk1.from_ (((ai.rfl_.next E171).next E178).next E188),(((hB.next E171).next E178).next E188)⟩
  (try simp only [bs9] at Q134)
  refine ao rfl rfl (ao rfl rfl (ao rfl rfl (ao rfl rfl (ae rfl (ab (aw (v:=.bool _) rfl rfl) (ab (aw (v:=.bool _) rfl rfl) (aj (af (br rfl ?_)))))))));refine aM ?_;refine cu (()) trivial (by (iterate 46 refine bI rfl ?_);exact bU) ?_;exact ⟨by first | assumption | simp_all,by first | assumption | simp_all,by first | assumption | simp_all,by omega,by omega,hk1.from_ (((ai.rfl_.next E171).next E178).next E188),(((hB.next E171).next E178).next E188)⟩
 rintro ⟨⟩ ρ136 w136 ⟨hx9,hm9,hs9,hl9,hn9,hk1,hB⟩;refine ak (ak (ag (asi rfl (aj (af (bg (dd (G:=Nat) [2,7,207,208,209,210,211,212,213,214,215,216,217,218,219,220,221,222,223,224,225,226,227,228,229,230,231,232,233,234,235,236,237,238,239,240,241,242,243,244,245,246,247,248,249,250,251,252,253,254,255,256,257,258] (fun k=>[(6,.int .i64 (k:Nat))]) (fun k w'=>k≤LL.length∧(∀ j (h:j<LL.length),j<k→fQ s LL[j].1=true)∧Blk w' b1 29 (rfV s (⟨E,Ec,V,Vc,X,Xc,M,Mc,Sn,Sc,Q,Qc,LL⟩:Ra)).toArray∧ai w w') (fun k=>LL.length-k) (0) ⟨rfl,trivial⟩ ?_ ?_)))))))
 ·exact ⟨Nat.zero_le _,fun j _ h=>absurd h (by omega),hk1.from_ ai.rfl_,hB⟩
 rintro k ρ137 w137 ⟨hk,h1,hk1,hB⟩;refine ak (ak (ag (mvi rfl (ab (aa bL rfl) (ab (aq dc rfl (by exact (show _=some (Value.slice Q LL.length Qc) from (hk1.from_ ai.rfl_).rd 19 rfl))) ?_)))));refine ab (bW dR rfl) (ab (b_ rfl rfl) (aj (af (Ab rfl (fun Q138=>?_) (fun Q138=>?_)))))
 ·have hkL:k<LL.length:=by omega
  have hqm:LL[k].1∈s.reads:=by rw [←hrL];exact List.mem_map_of_mem (List.getElem_mem hkL)
  obtain ⟨ba,oa,rfl,hcs⟩:∃ b o,Q=some ⟨b,o,none⟩∧∀ i (hi:i<LL.length),w.rangeAt b (o+i*4) (rdV LL[i]):=hrd.q (by show 0<LL.length;omega);refine aM (af (ak (bg (ak (ag (ab (aa bL rfl) (ab (aq dc rfl (by exact (show _=some (Value.slice (some ⟨ba,oa,none⟩) LL.length Qc) from (hk1.from_ ai.rfl_).rd 19 rfl))) ?_)))))));refine mvi rfl (ab (cn fx rfl rfl (by omega)) (ab (aG (cs:=rdV LL[k]) fV ef rfl (eB hB (hcs k hkL))) (cf fW ?_)));intro b7 w139 E7 hb7 hk7;have hg7:w.heap.size≤b7:=by rw [hb7];exact (hB).size
  have hk1L:=hk1.from_ (ai.rfl_.next E7);have hn7:b1≠b7:=by have:=hk1.lt;have:=((ai.rfl_.next E7)).size;omega
  refine b0 (vs:=[_,_,_,_]) ef rfl rfl (by simp [Value.oneCell']) (hk7) rfl ?_;intro w140 O16 P16;replace hk1:=hk1L.only O16 hn7;refine aj (af (ak (ag (ab (aa fa rfl) (ab (aq an rfl (by exact (show _=some (Value.int .i64 LL[k].1.id) from (P16.from_ ai.rfl_).rd 0 rfl))) ?_)))));refine ab (b_ rfl rfl) (mvb rfl (zt (t:=222) rfl (fun Q141=>?_) (fun Q141=>?_)))
  ·(try simp only [bs9] at Q141)
   refine bc rfl (aj (af (aL rfl (ak (ag (asb rfl (aj (af (aC (aZ (az (az (aZ (az (bo (v:=.bool _) rfl rfl (⟨congrArg Value.bool ?_,((hB.next E7).only O16 (hg7))⟩))))))))))))))));rw [eq_comm,←Bool.not_eq_true,bh];rintro ⟨_,_,_,l1,_⟩;by_cases hro:s.role=2
   ·rw [bm hro] at l1;have g5:=cz.1 (l1.2.2 _ hqm)
    first
     |omega
     |(simp_all;done)
   ·rw [bP hro] at l1;omega
  (try simp only [bs9] at Q141)
  refine ae rfl (ab (aa fa rfl) (ae rfl (ab (aq an rfl (by exact (show _=some (Value.int .i64 LL[k].1.id) from (P16.from_ ai.rfl_).rd 0 rfl))) ?_)));refine ae rfl (ab (bS rfl rfl) (ab (aw (v:=.bool _) rfl rfl) (mvb rfl (zt (t:=227) rfl (fun Q142=>?_) (fun Q142=>?_)))))
  ·(try simp only [bs9] at Q142)
   refine bc rfl (aj (af (aL rfl (ak (ag (asb rfl (aj (af (aC (aZ (az (az (aZ (az (bo (v:=.bool _) rfl rfl (⟨congrArg Value.bool ?_,((hB.next E7).only O16 (hg7))⟩))))))))))))))));rw [eq_comm,←Bool.not_eq_true,bh];rintro ⟨_,_,_,l1,_⟩;by_cases hro:s.role=2
   ·rw [bm hro] at l1;have g5:=cz.1 (l1.2.2 _ hqm)
    first
     |omega
     |(simp_all;done)
   ·rw [bP hro] at l1;omega
  (try simp only [bs9] at Q142)
  refine ae rfl (ab (aa e_ rfl) (ae rfl (ab (aq an rfl (by exact (show _=some (Value.int .i64 LL[k].1.ix) from (P16.from_ ai.rfl_).rd 1 rfl))) ?_)));refine ae rfl (ab (b_ rfl rfl) (ab (aw (v:=.bool _) rfl rfl) (mvb rfl (zt (t:=232) rfl (fun Q143=>?_) (fun Q143=>?_)))))
  ·(try simp only [bs9] at Q143)
   refine bc rfl (aj (af (aL rfl (ak (ag (asb rfl (aj (af (aC (aZ (az (az (aZ (az (bo (v:=.bool _) rfl rfl (⟨congrArg Value.bool ?_,((hB.next E7).only O16 (hg7))⟩))))))))))))))));rw [eq_comm,←Bool.not_eq_true,bh];rintro ⟨_,_,_,l1,_⟩;by_cases hro:s.role=2
   ·rw [bm hro] at l1;have g5:=cz.1 (l1.2.2 _ hqm)
    first
     |omega
     |(simp_all;done)
   ·rw [bP hro] at l1;omega
  (try simp only [bs9] at Q143)
  refine ae rfl (ab (aa e_ rfl) (ae rfl (ab (aq an rfl (by exact (show _=some (Value.int .i64 LL[k].1.ix) from (P16.from_ ai.rfl_).rd 1 rfl))) ?_)));refine ae rfl (ab (aa dr rfl) (ae rfl (ab (aq an rfl (by exact (hk1.from_ ai.rfl_).rd 10 rfl)) ?_)));refine ae rfl (ab (bS rfl rfl) (ab (aw (v:=.bool _) rfl rfl) (mvb rfl (zt (t:=239) rfl (fun Q144=>?_) (fun Q144=>?_)))))
  ·(try simp only [bs9] at Q144)
   refine bc rfl (aj (af (aL rfl (ak (ag (asb rfl (aj (af (aC (aZ (az (az (aZ (az (bo (v:=.bool _) rfl rfl (⟨congrArg Value.bool ?_,((hB.next E7).only O16 (hg7))⟩))))))))))))))));rw [eq_comm,←Bool.not_eq_true,bh];rintro ⟨_,_,_,l1,_⟩;by_cases hro:s.role=2
   ·rw [bm hro] at l1;have g5:=cz.1 (l1.2.2 _ hqm)
    first
     |omega
     |(simp_all;done)
   ·rw [bP hro] at l1;omega
  (try simp only [bs9] at Q144)
  refine ae rfl (ab (aa eZ rfl) (ae rfl (ab (aq an rfl (by exact (show _=some (Value.int .i64 LL[k].1.rn) from (P16.from_ ai.rfl_).rd 2 rfl))) ?_)));refine ae rfl (ab (b_ rfl rfl) (ab (aw (v:=.bool _) rfl rfl) (mvb rfl (zt (t:=244) rfl (fun Q145=>?_) (fun Q145=>?_)))))
  ·(try simp only [bs9] at Q145)
   refine bc rfl (aj (af (aL rfl (ak (ag (asb rfl (aj (af (aC (aZ (az (az (aZ (az (bo (v:=.bool _) rfl rfl (⟨congrArg Value.bool ?_,((hB.next E7).only O16 (hg7))⟩))))))))))))))));rw [eq_comm,←Bool.not_eq_true,bh];rintro ⟨_,_,_,l1,_⟩;by_cases hro:s.role=2
   ·rw [bm hro] at l1;have g5:=cz.1 (l1.2.2 _ hqm)
    first
     |omega
     |(simp_all;done)
   ·rw [bP hro] at l1;omega
  (try simp only [bs9] at Q145)
  refine ae rfl (ab (aa eZ rfl) (ae rfl (ab (aq an rfl (by exact (show _=some (Value.int .i64 LL[k].1.rn) from (P16.from_ ai.rfl_).rd 2 rfl))) ?_)));refine ae rfl (ab (aa dA rfl) (ae rfl (ab (aq an rfl (by exact (hk1.from_ ai.rfl_).rd 18 rfl)) ?_)));refine ae rfl (ab (bS rfl rfl) (ab (aw (v:=.bool _) rfl rfl) (mvb rfl (zt (t:=251) rfl (fun Q146=>?_) (fun Q146=>?_)))))
  ·(try simp only [bs9] at Q146)
   refine bc rfl (aj (af (aL rfl (ak (ag (asb rfl (aj (af (aC (aZ (az (az (aZ (az (bo (v:=.bool _) rfl rfl (⟨congrArg Value.bool ?_,((hB.next E7).only O16 (hg7))⟩))))))))))))))));rw [eq_comm,←Bool.not_eq_true,bh];rintro ⟨_,_,_,l1,_⟩;by_cases hro:s.role=2
   ·rw [bm hro] at l1;have g5:=cz.1 (l1.2.2 _ hqm)
    first
     |omega
     |(simp_all;done)
   ·rw [bP hro] at l1;omega
  (try simp only [bs9] at Q146)
  refine ae rfl (ab (aa ep rfl) (ae rfl (ab (aq bn rfl (by exact (show _=some (Value.slice LL[k].2.1 LL[k].1.acks.length LL[k].2.2) from (P16.from_ ai.rfl_).rd 3 rfl))) ?_)));refine ae rfl (ab (aa bX rfl) (ae rfl (ab (aq an rfl (by exact (hk1.from_ ai.rfl_).rd 1 rfl)) ?_)));refine ae rfl (aB iO (mG LL[k].2.1 LL[k].2.2 LL[k].1.acks s.nodes _ ((hrk _ (List.getElem_mem hkL)).1.from_ ((hB.next E7).only O16 (hg7))) (hl6 _ hqm)) ?_);rintro v256 w147 ⟨rfl,E256⟩;refine ae rfl (ab (cl rfl) (ab (aw (v:=.bool _) rfl rfl) (aj (af (z_ rfl (fun Q148=>?_) (fun Q148=>?_))))))
  ·(try simp only [bs9] at Q148)
   refine ak (ag (asb rfl (aj (af (aC (aZ (az (az (aZ (az (bo (v:=.bool _) rfl rfl (⟨congrArg Value.bool ?_,(((hB.next E7).only O16 (hg7)).next E256)⟩))))))))))));rw [eq_comm,←Bool.not_eq_true,bh];rintro ⟨_,_,_,l1,_⟩;by_cases hro:s.role=2
   ·rw [bm hro] at l1;have g5:=cz.1 (l1.2.2 _ hqm)
    first
     |omega
     |(simp_all;done)
   ·rw [bP hro] at l1;omega
  (try simp only [bs9] at Q148)
  refine aM (bE (af (ag (mvi rfl (ab (cq rfl rfl (by omega)) (asi rfl (aj ?_)))))));refine cu (k+1) ⟨(by first | rfl | (refine bT ?_;omega)),trivial⟩ (by (iterate 115 refine bI rfl ?_);exact bU) ⟨?_,?_⟩
  ·refine ⟨by omega,fun j h hj=>?_,hk1.from_ (ai.rfl_.next E256),(((hB.next E7).only O16 (hg7)).next E256)⟩;rcases Nat.lt_or_ge j k with e | e
   ·exact h1 j h e
   ·obtain rfl:j=k:=by omega
    rw [cz];exact ⟨by omega,by omega,by omega,by first | assumption | simp_all⟩
  ·omega
 refine cI (bD (bD (cr (af (ak (ag (asb rfl (aj (af (aC (bo (v:=.bool _) rfl rfl (⟨congrArg Value.bool ?_,hB⟩))))))))))));rw [eq_comm,bh]
 have hrd9:∀ q∈s.reads,fQ s q=true:=fun q hq=>by
  rw [←hrL] at hq;obtain ⟨y,hy,rfl⟩:=List.mem_map.1 hq;obtain ⟨i,hi,rfl⟩:=List.getElem_of_mem hy;exact h1 i hi (by omega)
 refine ⟨⟨by omega,by omega,by omega,⟨by omega,by omega⟩,by omega,by omega,by omega,by omega⟩,⟨by simp_all,by omega,by omega,by omega,by omega⟩,by simp_all,?_,⟨by omega,by omega,by omega⟩⟩;by_cases hro:s.role=2
 ·rw [bm hro];obtain rfl:nn=s.nodes:=hnn.1 hro;refine ⟨⟨?_,?_,?_,?_⟩,⟨?_,?_,?_⟩,hrd9⟩ <;> first | omega | (simp_all [cg];done) | (simp_all [cg];omega)
 ·rw [bP hro];obtain rfl:nn=0:=hnn.2 hro
  simp_all [cg]
end Go.Proofs.YtkpooenofjdpmaaGreat
