/- texts that the claim stands on. -/
import Derived.Test.YtkpooenofjdpmaaGreatSlRfLawV15

set_option maxRecDepth 100000
set_option maxHeartbeats 4000000
namespace Go.Proofs.YtkpooenofjdpmaaGreat
open Go.Proofs.Tryz (prog)
open Go.RowKit
open Go.ChangeShapes Go.WideShapes Go.ChangeAt
theorem lJ:∀ (a0:Int) (a1:Int) (a2:Int) (a3:Int),prog.built 39 [(0,.int .i64 a0),(1,.int .i64 a1),(2,.int .i64 a2),(3,.int .i64 a3)]=some #[.int .i64 a0,.int .i64 a1,.int .i64 a2,.int .i64 a3,.int .i64 0,.int .i64 0,.int .i64 0,.int .i64 0,.bool false,.slice none 0 0,.int .i64 0,.string ⟨#[]⟩,.bool false]:=by intros;kernel_rfl
theorem r7:aR prog 105=true:=by kernel_rfl
theorem tr:aR prog 59=true:=by kernel_rfl
theorem mo {s:ByteArray}:⟨#[]⟩=s↔s.size=0:=by
 constructor
 ·intro h;subst h;rfl
 ·intro h;obtain ⟨⟨l⟩⟩:=s;have h9:l.length=0:=h;rw [List.eq_nil_of_length_eq_zero h9]
theorem k_ {k f t tm ix lt cm rd:Int} {ok:Bool} {es:List Ent} {a:Int} {d:ByteArray} {dn:Bool} (h1:gH k f t tm ix lt cm rd a) (h2:lM k ix lt es) (h3:je k ix a d):OkR k f t tm ix lt cm rd ok es a d dn↔ExR k ix lt cm rd ok es.length a d dn:=
 ⟨fun h=>h.2.1,fun h=>⟨h1,h,h2,h3⟩⟩
theorem vS (n:Int) (w:World) :
 Rt prog 61 [.int .i64 n] w (fun v w'=>v=.bool (decide (1≤n∧n≤7))∧w=w'):=by
 refine enter (n:=9) Tryz.func61 rfl rfl rfl (ak (ag (asb rfl (aj (af (ak (ag (mvi rfl (ab (j7 rfl rfl) (mvb rfl (zt (t:=5) rfl (fun Q1=>?_) (fun Q1=>?_))))))))))))
 ·refine ae rfl (mvi rfl (ae rfl (ab (gu rfl rfl) (ab (aJ (v:=.bool _) rfl rfl) (asb rfl (aj (af (aC (bo (v:=.bool _) rfl rfl (⟨congrArg Value.bool ?_,rfl⟩))))))))))
  first
   |(rw [eq_comm,decide_eq_false_iff_not];omega)
   |(rw [decide_eq_decide];omega)
 refine ao rfl rfl (ao rfl rfl (ab (aw (v:=.bool _) rfl rfl) (asb rfl (aj (af (aC (bo (v:=.bool _) rfl rfl (⟨congrArg Value.bool ?_,rfl⟩))))))))
 first
  |(rw [eq_comm,decide_eq_false_iff_not];omega)
  |(rw [decide_eq_decide];omega)
theorem pI (n:Int) (w:World) :
 Rt prog 62 [.int .i64 n] w (fun v w'=>v=.bool (decide (0≤n∧n<1099511627776))∧w=w'):=by
 refine enter (n:=9) Tryz.func62 rfl rfl rfl (ak (ag (asb rfl (aj (af (ak (ag (mvi rfl (ab (j7 rfl rfl) (mvb rfl (zt (t:=5) rfl (fun Q1=>?_) (fun Q1=>?_))))))))))))
 ·refine ae rfl (mvi rfl (ae rfl (ab (b_ rfl rfl) (ab (aJ (v:=.bool _) rfl rfl) (asb rfl (aj (af (aC (bo (v:=.bool _) rfl rfl (⟨congrArg Value.bool ?_,rfl⟩))))))))))
  first
   |(rw [eq_comm,decide_eq_false_iff_not];omega)
   |(rw [decide_eq_decide];omega)
 refine ao rfl rfl (ao rfl rfl (ab (aw (v:=.bool _) rfl rfl) (asb rfl (aj (af (aC (bo (v:=.bool _) rfl rfl (⟨congrArg Value.bool ?_,rfl⟩))))))))
 first
  |(rw [eq_comm,decide_eq_false_iff_not];omega)
  |(rw [decide_eq_decide];omega)
theorem yR (p q:Int) (A:Option Addr) (n c:Nat) (es:List Ent) (w:World) (h:cF w (.slice A n c) es) (hi0:-4611686018427387904≤p) (hi1:p≤4611686018427387904) (hl:es.length≤140737488351232):Rt prog 105 [.slice A n c,.int .i64 p,.int .i64 q] w fun v w'=>v=.bool (d_ es p q)∧ai w w':=
 Rt.of (rb p q _ es w h hi0 hi1 hl)
theorem zH (k f t tm ix lt cm rd:Int) (ok:Bool) (E:Option Addr) (n c:Nat) (a:Int) (d:ByteArray) (dn:Bool) (w:World) (es:List Ent) (hn:n=es.length) (he:cF w (.slice E n c) es) (hl:es.length≤400000000000) :
 Rt prog 88 [.agg #[.int .i64 k,.int .i64 f,.int .i64 t,.int .i64 tm,.int .i64 ix,.int .i64 lt,.int .i64 cm,.int .i64 rd,.bool ok,.slice E n c,.int .i64 a,.string d,.bool dn]] w (fun v w'=>v=.bool (decide (OkR k f t tm ix lt cm rd ok es a d dn))∧ai w w'):=by
 refine enter (n:=169) Tryz.func88 rfl rfl rfl (ak (ag (bZ (v:=.agg _) rfl ?_)));intro b1 w1 E1 hb1 hk1;have hg1:w.heap.size≤b1:=by rw [hb1];exact Nat.le_refl _
 refine asb rfl (aj (af (ak (ag (ab (aa cw rfl) (ab (aq an rfl (by exact hk1.rd 0 rfl)) ?_))))));refine ab (aa bA rfl) (ab (aq an rfl (by exact hk1.rd 1 rfl)) ?_);refine ab (aa ez rfl) (ab (aq an rfl (by exact hk1.rd 2 rfl)) ?_);refine ab (aa bu rfl) (ab (aq an rfl (by exact hk1.rd 3 rfl)) ?_);refine ab (cp (l:=[(0,.tmp 5),(1,.tmp 7),(2,.tmp 9),(3,.tmp 11)]) (lJ _ _ _ _)) (cf dW ?_);intro b3 w2 E3 hb3 hk3;have hg3:w.heap.size≤b3:=by rw [hb3];exact ((ai.rfl_.next E1)).size
 have hlt:b1<b3:=by have:=hk1.lt;omega
 replace hk1:=hk1.from_ E3;refine b0 (vs:=[_,_,_,_,_,_,_,_,_,_,_,_,_]) aP rfl rfl (by simp [Value.oneCell']) (hk3) rfl ?_;intro w3 O1 P1;replace hk1:=hk1.only O1 (by omega);have hX:=P1;refine aj (af (ak (ak (ag (ab (aa bA rfl) (ab (aq an rfl (by exact (hk1.from_ ai.rfl_).rd 1 rfl)) ?_))))));refine aB mT (vS _ _) ?_;rintro v15 w4 ⟨rfl,rfl⟩;refine ab (cl rfl) (mvb rfl (aF (t:=17) rfl (fun Q5=>?_) (fun Q5=>?_)))
 ·replace Q5:=dw Q5;replace Q5:=dF_ Q5;refine bc rfl (aj (af (aL rfl (ak (ag (asb rfl (aj (af (aC (az (bo (v:=.bool _) rfl rfl (⟨congrArg Value.bool (decide_eq_false (fun h=>by have h1:=h.1;unfold gH at h1;omega)).symm,(((ai.rfl_.next E1).next E3).only O1 (hg3))⟩))))))))))))
 replace Q5:=dy Q5;replace Q5:=dT_ Q5;refine ae rfl (ab (aa ez rfl) (ae rfl (ab (aq an rfl (by exact (hk1.from_ ai.rfl_).rd 2 rfl)) ?_)));refine ae rfl (aB mT (vS _ _) ?_);rintro v20 w6 ⟨rfl,rfl⟩;refine ae rfl (ab (cl rfl) (ab (aw (v:=.bool _) rfl rfl) (mvb rfl (aF (t:=23) rfl (fun Q7=>?_) (fun Q7=>?_)))))
 ·replace Q7:=dw Q7;replace Q7:=dF_ Q7;refine bc rfl (aj (af (aL rfl (ak (ag (asb rfl (aj (af (aC (az (bo (v:=.bool _) rfl rfl (⟨congrArg Value.bool (decide_eq_false (fun h=>by have h1:=h.1;unfold gH at h1;omega)).symm,(((ai.rfl_.next E1).next E3).only O1 (hg3))⟩))))))))))))
 replace Q7:=dy Q7;replace Q7:=dT_ Q7;refine ae rfl (ab (aa bu rfl) (ae rfl (ab (aq an rfl (by exact (hk1.from_ ai.rfl_).rd 3 rfl)) ?_)));refine ae rfl (aB eT (pI _ _) ?_);rintro v26 w8 ⟨rfl,rfl⟩;refine ae rfl (ab (cl rfl) (ab (aw (v:=.bool _) rfl rfl) (mvb rfl (aF (t:=29) rfl (fun Q9=>?_) (fun Q9=>?_)))))
 ·replace Q9:=dw Q9;replace Q9:=dF_ Q9;refine bc rfl (aj (af (aL rfl (ak (ag (asb rfl (aj (af (aC (az (bo (v:=.bool _) rfl rfl (⟨congrArg Value.bool (decide_eq_false (fun h=>by have h1:=h.1;unfold gH at h1;omega)).symm,(((ai.rfl_.next E1).next E3).only O1 (hg3))⟩))))))))))))
 replace Q9:=dy Q9;replace Q9:=dT_ Q9;refine ae rfl (ab (aa bR rfl) (ae rfl (ab (aq an rfl (by exact (hk1.from_ ai.rfl_).rd 4 rfl)) ?_)));refine ae rfl (aB eT (pI _ _) ?_);rintro v32 w10 ⟨rfl,rfl⟩;refine ae rfl (ab (cl rfl) (ab (aw (v:=.bool _) rfl rfl) (mvb rfl (aF (t:=35) rfl (fun Q11=>?_) (fun Q11=>?_)))))
 ·replace Q11:=dw Q11;replace Q11:=dF_ Q11;refine bc rfl (aj (af (aL rfl (ak (ag (asb rfl (aj (af (aC (az (bo (v:=.bool _) rfl rfl (⟨congrArg Value.bool (decide_eq_false (fun h=>by have h1:=h.1;unfold gH at h1;omega)).symm,(((ai.rfl_.next E1).next E3).only O1 (hg3))⟩))))))))))))
 replace Q11:=dy Q11;replace Q11:=dT_ Q11;refine ae rfl (ab (aa ck rfl) (ae rfl (ab (aq an rfl (by exact (hk1.from_ ai.rfl_).rd 5 rfl)) ?_)));refine ae rfl (aB eT (pI _ _) ?_);rintro v38 w12 ⟨rfl,rfl⟩;refine ae rfl (ab (cl rfl) (ab (aw (v:=.bool _) rfl rfl) (mvb rfl (aF (t:=41) rfl (fun Q13=>?_) (fun Q13=>?_)))))
 ·replace Q13:=dw Q13;replace Q13:=dF_ Q13;refine bc rfl (aj (af (aL rfl (ak (ag (asb rfl (aj (af (aC (az (bo (v:=.bool _) rfl rfl (⟨congrArg Value.bool (decide_eq_false (fun h=>by have h1:=h.1;unfold gH at h1;omega)).symm,(((ai.rfl_.next E1).next E3).only O1 (hg3))⟩))))))))))))
 replace Q13:=dy Q13;replace Q13:=dT_ Q13;refine ae rfl (ab (aa fz rfl) (ae rfl (ab (aq an rfl (by exact (hk1.from_ ai.rfl_).rd 6 rfl)) ?_)));refine ae rfl (aB eT (pI _ _) ?_);rintro v44 w14 ⟨rfl,rfl⟩;refine ae rfl (ab (cl rfl) (ab (aw (v:=.bool _) rfl rfl) (mvb rfl (aF (t:=47) rfl (fun Q15=>?_) (fun Q15=>?_)))))
 ·replace Q15:=dw Q15;replace Q15:=dF_ Q15;refine bc rfl (aj (af (aL rfl (ak (ag (asb rfl (aj (af (aC (az (bo (v:=.bool _) rfl rfl (⟨congrArg Value.bool (decide_eq_false (fun h=>by have h1:=h.1;unfold gH at h1;omega)).symm,(((ai.rfl_.next E1).next E3).only O1 (hg3))⟩))))))))))))
 replace Q15:=dy Q15;replace Q15:=dT_ Q15;refine ae rfl (ab (aa dg rfl) (ae rfl (ab (aq an rfl (by exact (hk1.from_ ai.rfl_).rd 7 rfl)) ?_)));refine ae rfl (aB eT (pI _ _) ?_);rintro v50 w16 ⟨rfl,rfl⟩;refine ae rfl (ab (cl rfl) (ab (aw (v:=.bool _) rfl rfl) (mvb rfl (aF (t:=53) rfl (fun Q17=>?_) (fun Q17=>?_)))))
 ·replace Q17:=dw Q17;replace Q17:=dF_ Q17;refine bc rfl (aj (af (aL rfl (ak (ag (asb rfl (aj (af (aC (az (bo (v:=.bool _) rfl rfl (⟨congrArg Value.bool (decide_eq_false (fun h=>by have h1:=h.1;unfold gH at h1;omega)).symm,(((ai.rfl_.next E1).next E3).only O1 (hg3))⟩))))))))))))
 replace Q17:=dy Q17;replace Q17:=dT_ Q17;refine ae rfl (ab (aa dU rfl) (ae rfl (ab (aq an rfl (by exact (hk1.from_ ai.rfl_).rd 10 rfl)) ?_)));refine ae rfl (aB eT (pI _ _) ?_);rintro v56 w18 ⟨rfl,rfl⟩;refine ae rfl (ab (cl rfl) (ab (aw (v:=.bool _) rfl rfl) (aj (af (aU rfl (fun Q19=>?_) (fun Q19=>?_))))))
 ·replace Q19:=dw Q19;replace Q19:=dF_ Q19;refine ak (ag (asb rfl (aj (af (aC (az (bo (v:=.bool _) rfl rfl (⟨congrArg Value.bool (decide_eq_false (fun h=>by have h1:=h.1;unfold gH at h1;omega)).symm,(((ai.rfl_.next E1).next E3).only O1 (hg3))⟩))))))))
 replace Q19:=dy Q19;replace Q19:=dT_ Q19;refine aM (af (iz (G:=(Int×Int×Int×Int)×Bool×(Option Addr×Nat×Nat×List Ent)×Int×ByteArray×Bool) [2,59,60,61,62,63,64,65,66,67,68,69,70,71,72,73,74,75,76,77,78,79,80,81,82,83,84,85,86,87,88,89,90,91,92,93,94,95,96,97,98,99,100,101,102,103,104,105,106,107,108,109,110,111,112,113,114,115,116,117,118,119,120,121,122,123,124,125,126,127,128,129,130,131,132,133,134,135,136,137,138,139,140,141,142,143,144,145,146,147,148,149,150,151,152,153,154,155,156,157,158,159,160,161,162,163,164,165] (fun _=>[]) (fun ((ix',lt',cm',rd'),ok',(E',n',c',es'),a',d',dn') w'=>Blk w' b3 39 #[.int .i64 k,.int .i64 f,.int .i64 t,.int .i64 tm,.int .i64 ix',.int .i64 lt',.int .i64 cm',.int .i64 rd',.bool ok',.slice E' n' c',.int .i64 a',.string d',.bool dn']∧Blk w' b1 39 #[.int .i64 k,.int .i64 f,.int .i64 t,.int .i64 tm,.int .i64 ix,.int .i64 lt,.int .i64 cm,.int .i64 rd,.bool ok,.slice E n c,.int .i64 a,.string d,.bool dn]∧cF w' (.slice E' n' c') es'∧n'=es'.length∧es'.length≤es.length∧((ix'=ix∧lt'=lt∧cm'=cm∧rd'=rd∧ok'=ok∧es'=es∧a'=a∧d'=d∧dn'=dn)↔OkR k f t tm ix lt cm rd ok es a d dn)∧ai w w') ?_ ?_))
 ·refine ak (ag (ab (aa cw rfl) (ab (aq an rfl (by exact (hk1.from_ ai.rfl_).rd 0 rfl)) ?_)));refine aj (af (bg (ak (ag (ab (bj rfl rfl) (asb rfl (aj (af (Aa rfl (fun Q20=>?_) (fun Q20=>?_))))))))))
  ·have hap:lM k ix lt es:=fun h=>by omega
   have hsn:je k ix a d:=fun h=>by omega
   have hnm:gH k f t tm ix lt cm rd a:=by unfold gH;omega
   have hU21:iA [(0,63,.pointer (some ⟨b1,4,none⟩)),(1,64,.int .i64 ix),(2,65,.pointer (some ⟨b1,5,none⟩)),(3,66,.int .i64 lt),(4,67,.pointer (some ⟨b3,4,none⟩)),(6,68,.pointer (some ⟨b3,5,none⟩))]:=by simp [iA]
   refine iJ [(0,63,.pointer (some ⟨b1,4,none⟩)),(1,64,.int .i64 ix),(2,65,.pointer (some ⟨b1,5,none⟩)),(3,66,.int .i64 lt),(4,67,.pointer (some ⟨b3,4,none⟩)),(6,68,.pointer (some ⟨b3,5,none⟩))] (fun S w'=>Blk w' b1 39 #[.int .i64 k,.int .i64 f,.int .i64 t,.int .i64 tm,.int .i64 ix,.int .i64 lt,.int .i64 cm,.int .i64 rd,.bool ok,.slice E n c,.int .i64 a,.string d,.bool dn]∧Blk w' b3 39 #[.int .i64 k,.int .i64 f,.int .i64 t,.int .i64 tm,bif S 5 then .int .i64 ix else .int .i64 0,bif S 7 then .int .i64 lt else .int .i64 0,.int .i64 0,.int .i64 0,.bool false,.slice none 0 0,.int .i64 0,.string ⟨#[]⟩,.bool false]∧ai w w') (by kernel_rfl) (by kernel_rfl) hU21 (by simp) (⟨hk1.from_ ai.rfl_.d1,hX.from_ ai.rfl_.d1,((((ai.rfl_.next E1).next E3).only O1 (hg3))).d1⟩) ?_ ?_
   ·constructor
    ·rintro S L' wS hI hM hS0 ⟨-⟩;have e1:=hI.1 1 (by simp);have hM':=hM;obtain ⟨hk1,hX,hB⟩:=hM';exact bp (aa bR e1) ⟨hI.put hU21 (.head _),hM⟩
    constructor
    ·rintro S L' wS hI hM hS0 ⟨d0,-⟩;have e63:bF L' 63=.pointer (some ⟨b1,4,none⟩):=hI.get (i:=0) (.head _) d0;have hM':=hM;obtain ⟨hk1,hX,hB⟩:=hM';exact bp (aq an e63 (by exact hk1.rd 4 rfl)) ⟨hI.put hU21 (.tail _ (.head _)),hM⟩
    constructor
    ·rintro S L' wS hI hM hS0 ⟨-,-⟩;have e1:=hI.1 1 (by simp);have hM':=hM;obtain ⟨hk1,hX,hB⟩:=hM';exact bp (aa ck e1) ⟨hI.put hU21 (gM 2 rfl),hM⟩
    constructor
    ·rintro S L' wS hI hM hS0 ⟨d2,-,-⟩;have e65:bF L' 65=.pointer (some ⟨b1,5,none⟩):=hI.get (i:=2) (gM 2 rfl) d2;have hM':=hM;obtain ⟨hk1,hX,hB⟩:=hM';exact bp (aq an e65 (by exact hk1.rd 5 rfl)) ⟨hI.put hU21 (gM 3 rfl),hM⟩
    constructor
    ·rintro S L' wS hI hM hS0 ⟨d0,d1,-,-,-⟩;have e3:=hI.1 3 (by simp);have hM':=hM;obtain ⟨hk1,hX,hB⟩:=hM';exact bp (aa bR e3) ⟨hI.put hU21 (gM 4 rfl),hM⟩
    constructor
    ·rintro S L' wS hI hM hS0 ⟨d4,d1,d0,d1,-,-,-⟩;have e64:bF L' 64=.int .i64 ix:=hI.get (i:=1) (.tail _ (.head _)) d1;have e67:bF L' 67=.pointer (some ⟨b3,4,none⟩):=hI.get (i:=4) (gM 4 rfl) d4;have hM':=hM;obtain ⟨hk1,hX,hB⟩:=hM';obtain ⟨w2,hR,hO,hb⟩:=eK (n:=169) (L:=L') (x:=.tmp 67) (y:=.tmp 64) aS e67 e64 rfl hX (by simp);exact dZ hR ⟨hI.skip (by simp),hk1.only hO (by omega),hb,hB.only hO hg3⟩
    constructor
    ·rintro S L' wS hI hM hS0 ⟨d0,d1,d2,d3,d4,d5,-⟩;have e3:=hI.1 3 (by simp);have hM':=hM;obtain ⟨hk1,hX,hB⟩:=hM';exact bp (aa ck e3) ⟨hI.put hU21 (gM 5 rfl),hM⟩
    constructor
    ·rintro S L' wS hI hM hS0 ⟨d6,d3,d5,d0,d1,d2,d3,d4,d5,-⟩;have e66:bF L' 66=.int .i64 lt:=hI.get (i:=3) (gM 3 rfl) d3;have e68:bF L' 68=.pointer (some ⟨b3,5,none⟩):=hI.get (i:=6) (gM 5 rfl) d6;have hM':=hM;obtain ⟨hk1,hX,hB⟩:=hM';obtain ⟨w2,hR,hO,hb⟩:=eK (n:=169) (L:=L') (x:=.tmp 68) (y:=.tmp 66) aS e68 e66 rfl hX (by simp);exact dZ hR ⟨hI.skip (by simp),hk1.only hO (by omega),hb,hB.only hO hg3⟩
    exact trivial
   ·intro w22 hM;obtain ⟨hk1,hX,hB⟩:=hM;replace hX:Blk w22 b3 39 #[.int .i64 k,.int .i64 f,.int .i64 t,.int .i64 tm,.int .i64 ix,.int .i64 lt,.int .i64 0,.int .i64 0,.bool false,.slice none 0 0,.int .i64 0,.string ⟨#[]⟩,.bool false]:=hX;refine bE ?_;refine cu (((ix,lt,0,0),false,(none,0,0,[]),0,⟨#[]⟩,false)) trivial (by (iterate 10 refine bI rfl ?_);exact bU) ?_;refine ⟨hX.from_ ai.rfl_,hk1.from_ ai.rfl_,cF.nil_ _,rfl,by simp,?_,hB⟩;rw [k_ hnm hap hsn];simp only [la,mo,mO,true_and];unfold ExR;rw [if_pos (by omega)]
    first | done | omega
  refine ak (ag (ab (bj rfl rfl) (asb rfl (aj (af (Aa rfl (fun Q23=>?_) (fun Q23=>?_)))))))
  ·have hap:lM k ix lt es:=fun h=>by omega
   have hsn:je k ix a d:=fun h=>by omega
   have hnm:gH k f t tm ix lt cm rd a:=by unfold gH;omega
   refine ag (ab (aa fk rfl) (ab (aq fm rfl (by exact (hk1.from_ ai.rfl_).rd 8 rfl)) ?_));refine ab (aa fk rfl) (dD (v:=.bool _) jl rfl rfl rfl (hX) (by show 0+8<13;decide) ?_);intro w24 O9 P9;replace hk1:=hk1.only O9 (by omega);replace hX:Blk w24 b3 39 #[.int .i64 k,.int .i64 f,.int .i64 t,.int .i64 tm,.int .i64 0,.int .i64 0,.int .i64 0,.int .i64 0,.bool ok,.slice none 0 0,.int .i64 0,.string ⟨#[]⟩,.bool false]:=P9;refine aj (bE ?_);refine cu (((0,0,0,0),ok,(none,0,0,[]),0,⟨#[]⟩,false)) trivial (by (iterate 9 refine bI rfl ?_);exact bU) ?_;refine ⟨hX.from_ ai.rfl_,hk1.from_ ai.rfl_,cF.nil_ _,rfl,by simp,?_,((((ai.rfl_.next E1).next E3).only O1 (hg3)).only O9 (hg3))⟩;rw [k_ hnm hap hsn];simp only [la,mo,mO,true_and];unfold ExR;rw [if_neg (by omega),if_pos (by omega)]
   first | done | omega
  refine ak (ag (ab (bj rfl rfl) (asb rfl (aj (af (Aa rfl (fun Q25=>?_) (fun Q25=>?_)))))))
  ·have hsn:je k ix a d:=fun h=>by omega
   have hnm:gH k f t tm ix lt cm rd a:=by unfold gH;omega
   refine ak ?_;have hU26:iA [(0,76,.pointer (some ⟨b1,4,none⟩)),(1,77,.int .i64 ix),(2,78,.pointer (some ⟨b1,5,none⟩)),(3,79,.int .i64 lt),(4,80,.pointer (some ⟨b1,6,none⟩)),(5,81,.int .i64 cm),(6,82,.pointer (some ⟨b1,7,none⟩)),(7,83,.int .i64 rd),(8,84,.pointer (some ⟨b1,9,none⟩)),(9,85,.slice E n c),(10,86,.pointer (some ⟨b3,4,none⟩)),(12,87,.pointer (some ⟨b3,5,none⟩)),(14,88,.pointer (some ⟨b3,6,none⟩)),(16,89,.pointer (some ⟨b3,7,none⟩)),(18,90,.pointer (some ⟨b3,9,none⟩))]:=by simp [iA]
   refine iJ [(0,76,.pointer (some ⟨b1,4,none⟩)),(1,77,.int .i64 ix),(2,78,.pointer (some ⟨b1,5,none⟩)),(3,79,.int .i64 lt),(4,80,.pointer (some ⟨b1,6,none⟩)),(5,81,.int .i64 cm),(6,82,.pointer (some ⟨b1,7,none⟩)),(7,83,.int .i64 rd),(8,84,.pointer (some ⟨b1,9,none⟩)),(9,85,.slice E n c),(10,86,.pointer (some ⟨b3,4,none⟩)),(12,87,.pointer (some ⟨b3,5,none⟩)),(14,88,.pointer (some ⟨b3,6,none⟩)),(16,89,.pointer (some ⟨b3,7,none⟩)),(18,90,.pointer (some ⟨b3,9,none⟩))] (fun S w'=>Blk w' b1 39 #[.int .i64 k,.int .i64 f,.int .i64 t,.int .i64 tm,.int .i64 ix,.int .i64 lt,.int .i64 cm,.int .i64 rd,.bool ok,.slice E n c,.int .i64 a,.string d,.bool dn]∧Blk w' b3 39 #[.int .i64 k,.int .i64 f,.int .i64 t,.int .i64 tm,bif S 11 then .int .i64 ix else .int .i64 0,bif S 13 then .int .i64 lt else .int .i64 0,bif S 15 then .int .i64 cm else .int .i64 0,bif S 17 then .int .i64 rd else .int .i64 0,.bool false,bif S 19 then .slice E n c else .slice none 0 0,.int .i64 0,.string ⟨#[]⟩,.bool false]∧ai w w') (by kernel_rfl) (by kernel_rfl) hU26 (by simp) (⟨hk1.from_ ai.rfl_.d1,hX.from_ ai.rfl_.d1,((((ai.rfl_.next E1).next E3).only O1 (hg3))).d1⟩) ?_ ?_
   ·constructor
    ·rintro S L' wS hI hM hS0 ⟨-⟩;have e1:=hI.1 1 (by simp);have hM':=hM;obtain ⟨hk1,hX,hB⟩:=hM';exact bp (aa bR e1) ⟨hI.put hU26 (.head _),hM⟩
    constructor
    ·rintro S L' wS hI hM hS0 ⟨d0,-⟩;have e76:bF L' 76=.pointer (some ⟨b1,4,none⟩):=hI.get (i:=0) (.head _) d0;have hM':=hM;obtain ⟨hk1,hX,hB⟩:=hM';exact bp (aq an e76 (by exact hk1.rd 4 rfl)) ⟨hI.put hU26 (.tail _ (.head _)),hM⟩
    constructor
    ·rintro S L' wS hI hM hS0 ⟨-,-⟩;have e1:=hI.1 1 (by simp);have hM':=hM;obtain ⟨hk1,hX,hB⟩:=hM';exact bp (aa ck e1) ⟨hI.put hU26 (gM 2 rfl),hM⟩
    constructor
    ·rintro S L' wS hI hM hS0 ⟨d2,-,-⟩;have e78:bF L' 78=.pointer (some ⟨b1,5,none⟩):=hI.get (i:=2) (gM 2 rfl) d2;have hM':=hM;obtain ⟨hk1,hX,hB⟩:=hM';exact bp (aq an e78 (by exact hk1.rd 5 rfl)) ⟨hI.put hU26 (gM 3 rfl),hM⟩
    constructor
    ·rintro S L' wS hI hM hS0 ⟨-,-⟩;have e1:=hI.1 1 (by simp);have hM':=hM;obtain ⟨hk1,hX,hB⟩:=hM';exact bp (aa fz e1) ⟨hI.put hU26 (gM 4 rfl),hM⟩
    constructor
    ·rintro S L' wS hI hM hS0 ⟨d4,-,-⟩;have e80:bF L' 80=.pointer (some ⟨b1,6,none⟩):=hI.get (i:=4) (gM 4 rfl) d4;have hM':=hM;obtain ⟨hk1,hX,hB⟩:=hM';exact bp (aq an e80 (by exact hk1.rd 6 rfl)) ⟨hI.put hU26 (gM 5 rfl),hM⟩
    constructor
    ·rintro S L' wS hI hM hS0 ⟨-,-⟩;have e1:=hI.1 1 (by simp);have hM':=hM;obtain ⟨hk1,hX,hB⟩:=hM';exact bp (aa dg e1) ⟨hI.put hU26 (gM 6 rfl),hM⟩
    constructor
    ·rintro S L' wS hI hM hS0 ⟨d6,-,-⟩;have e82:bF L' 82=.pointer (some ⟨b1,7,none⟩):=hI.get (i:=6) (gM 6 rfl) d6;have hM':=hM;obtain ⟨hk1,hX,hB⟩:=hM';exact bp (aq an e82 (by exact hk1.rd 7 rfl)) ⟨hI.put hU26 (gM 7 rfl),hM⟩
    constructor
    ·rintro S L' wS hI hM hS0 ⟨-,-⟩;have e1:=hI.1 1 (by simp);have hM':=hM;obtain ⟨hk1,hX,hB⟩:=hM';exact bp (aa dC e1) ⟨hI.put hU26 (gM 8 rfl),hM⟩
    constructor
    ·rintro S L' wS hI hM hS0 ⟨d8,-,-⟩;have e84:bF L' 84=.pointer (some ⟨b1,9,none⟩):=hI.get (i:=8) (gM 8 rfl) d8;have hM':=hM;obtain ⟨hk1,hX,hB⟩:=hM';exact bp (aq cY e84 (by exact hk1.rd 9 rfl)) ⟨hI.put hU26 (gM 9 rfl),hM⟩
    constructor
    ·rintro S L' wS hI hM hS0 ⟨d0,d1,-,-,-,-,-,-,-,-,-⟩;have e3:=hI.1 3 (by simp);have hM':=hM;obtain ⟨hk1,hX,hB⟩:=hM';exact bp (aa bR e3) ⟨hI.put hU26 (gM 10 rfl),hM⟩
    constructor
    ·rintro S L' wS hI hM hS0 ⟨d10,d1,d0,d1,-,-,-,-,-,-,-,-,-⟩;have e77:bF L' 77=.int .i64 ix:=hI.get (i:=1) (.tail _ (.head _)) d1;have e86:bF L' 86=.pointer (some ⟨b3,4,none⟩):=hI.get (i:=10) (gM 10 rfl) d10;have hM':=hM;obtain ⟨hk1,hX,hB⟩:=hM';obtain ⟨w2,hR,hO,hb⟩:=eK (n:=169) (L:=L') (x:=.tmp 86) (y:=.tmp 77) aS e86 e77 rfl hX (by simp);exact dZ hR ⟨hI.skip (by simp),hk1.only hO (by omega),hb,hB.only hO hg3⟩
    constructor
    ·rintro S L' wS hI hM hS0 ⟨d0,d1,d2,d3,-,-,-,-,-,-,d10,d11,-⟩;have e3:=hI.1 3 (by simp);have hM':=hM;obtain ⟨hk1,hX,hB⟩:=hM';exact bp (aa ck e3) ⟨hI.put hU26 (gM 11 rfl),hM⟩
    constructor
    ·rintro S L' wS hI hM hS0 ⟨d12,d3,d11,d0,d1,d2,d3,-,-,-,-,-,-,d10,d11,-⟩;have e79:bF L' 79=.int .i64 lt:=hI.get (i:=3) (gM 3 rfl) d3;have e87:bF L' 87=.pointer (some ⟨b3,5,none⟩):=hI.get (i:=12) (gM 11 rfl) d12;have hM':=hM;obtain ⟨hk1,hX,hB⟩:=hM';obtain ⟨w2,hR,hO,hb⟩:=eK (n:=169) (L:=L') (x:=.tmp 87) (y:=.tmp 79) aS e87 e79 rfl hX (by simp);exact dZ hR ⟨hI.skip (by simp),hk1.only hO (by omega),hb,hB.only hO hg3⟩
    constructor
    ·rintro S L' wS hI hM hS0 ⟨d0,d1,d2,d3,d4,d5,-,-,-,-,d10,d11,d12,d13,-⟩;have e3:=hI.1 3 (by simp);have hM':=hM;obtain ⟨hk1,hX,hB⟩:=hM';exact bp (aa fz e3) ⟨hI.put hU26 (gM 12 rfl),hM⟩
    constructor
    ·rintro S L' wS hI hM hS0 ⟨d14,d5,d13,d0,d1,d2,d3,d4,d5,-,-,-,-,d10,d11,d12,d13,-⟩;have e81:bF L' 81=.int .i64 cm:=hI.get (i:=5) (gM 5 rfl) d5;have e88:bF L' 88=.pointer (some ⟨b3,6,none⟩):=hI.get (i:=14) (gM 12 rfl) d14;have hM':=hM;obtain ⟨hk1,hX,hB⟩:=hM';obtain ⟨w2,hR,hO,hb⟩:=eK (n:=169) (L:=L') (x:=.tmp 88) (y:=.tmp 81) aS e88 e81 rfl hX (by simp);exact dZ hR ⟨hI.skip (by simp),hk1.only hO (by omega),hb,hB.only hO hg3⟩
    constructor
    ·rintro S L' wS hI hM hS0 ⟨d0,d1,d2,d3,d4,d5,d6,d7,-,-,d10,d11,d12,d13,d14,d15,-⟩;have e3:=hI.1 3 (by simp);have hM':=hM;obtain ⟨hk1,hX,hB⟩:=hM';exact bp (aa dg e3) ⟨hI.put hU26 (gM 13 rfl),hM⟩
    constructor
    ·rintro S L' wS hI hM hS0 ⟨d16,d7,d15,d0,d1,d2,d3,d4,d5,d6,d7,-,-,d10,d11,d12,d13,d14,d15,-⟩;have e83:bF L' 83=.int .i64 rd:=hI.get (i:=7) (gM 7 rfl) d7;have e89:bF L' 89=.pointer (some ⟨b3,7,none⟩):=hI.get (i:=16) (gM 13 rfl) d16;have hM':=hM;obtain ⟨hk1,hX,hB⟩:=hM';obtain ⟨w2,hR,hO,hb⟩:=eK (n:=169) (L:=L') (x:=.tmp 89) (y:=.tmp 83) aS e89 e83 rfl hX (by simp);exact dZ hR ⟨hI.skip (by simp),hk1.only hO (by omega),hb,hB.only hO hg3⟩
    constructor
    ·rintro S L' wS hI hM hS0 ⟨d0,d1,d2,d3,d4,d5,d6,d7,d8,d9,d10,d11,d12,d13,d14,d15,d16,d17,-⟩;have e3:=hI.1 3 (by simp);have hM':=hM;obtain ⟨hk1,hX,hB⟩:=hM';exact bp (aa dC e3) ⟨hI.put hU26 (gM 14 rfl),hM⟩
    constructor
    ·rintro S L' wS hI hM hS0 ⟨d18,d9,d17,d0,d1,d2,d3,d4,d5,d6,d7,d8,d9,d10,d11,d12,d13,d14,d15,d16,d17,-⟩;have e85:bF L' 85=.slice E n c:=hI.get (i:=9) (gM 9 rfl) d9;have e90:bF L' 90=.pointer (some ⟨b3,9,none⟩):=hI.get (i:=18) (gM 14 rfl) d18;have hM':=hM;obtain ⟨hk1,hX,hB⟩:=hM';obtain ⟨w2,hR,hO,hb⟩:=eK (n:=169) (L:=L') (x:=.tmp 90) (y:=.tmp 85) lk e90 e85 rfl hX (by simp);exact dZ hR ⟨hI.skip (by simp),hk1.only hO (by omega),hb,hB.only hO hg3⟩
    exact trivial
   ·intro w27 hM;obtain ⟨hk1,hX,hB⟩:=hM;replace hX:Blk w27 b3 39 #[.int .i64 k,.int .i64 f,.int .i64 t,.int .i64 tm,.int .i64 ix,.int .i64 lt,.int .i64 cm,.int .i64 rd,.bool false,.slice E n c,.int .i64 0,.string ⟨#[]⟩,.bool false]:=hX;refine af (ak (ag (ab (aa dC rfl) (ab (aq cY rfl (by exact (hk1.from_ ai.rfl_).rd 9 rfl)) ?_))));refine ab (bW cC rfl) (ab (bS rfl rfl) (mvb rfl (zt (t:=95) rfl (fun Q28=>?_) (fun Q28=>?_))))
    ·refine bc rfl (aj (af (aL rfl (ak (ag (asb rfl (aj (af (aC (aZ (az (bo (v:=.bool _) rfl rfl ?_))))))))))))
     exact ⟨congrArg Value.bool (decide_eq_false (fun h=>by
      have h2:=h.2.2.1 (by omega)
      first
       |omega
       |(have h3:d_ es ix lt=false:=by assumption
         rw [h3] at h2;simp at h2))).symm,hB⟩
    refine ae rfl (ab (aa dC rfl) (ae rfl (ab (aq cY rfl (by exact (hk1.from_ ai.rfl_).rd 9 rfl)) ?_)));refine ae rfl (ab (aa bR rfl) (ae rfl (ab (aq an rfl (by exact (hk1.from_ ai.rfl_).rd 4 rfl)) ?_)));refine ae rfl (ab (aa ck rfl) (ae rfl (ab (aq an rfl (by exact (hk1.from_ ai.rfl_).rd 5 rfl)) ?_)));refine ae rfl (aB r7 (yR ix lt E n c es _ (he.from_ hB) (by omega) (by omega) (by omega)) ?_);rintro v102 w29 ⟨rfl,E102⟩;refine ae rfl (ab (cl rfl) (ab (aw (v:=.bool _) rfl rfl) (aj (af (z_ rfl (fun Q30=>?_) (fun Q30=>?_))))))
    ·refine ak (ag (asb rfl (aj (af (aC (aZ (az (bo (v:=.bool _) rfl rfl ?_))))))))
     exact ⟨congrArg Value.bool (decide_eq_false (fun h=>by
      have h2:=h.2.2.1 (by omega)
      first
       |omega
       |(have h3:d_ es ix lt=false:=by assumption
         rw [h3] at h2;simp at h2))).symm,(hB.next E102)⟩
    have hap:lM k ix lt es:=fun _=>⟨by omega,by simpa using Q30⟩
    refine aM (bE ?_);refine cu (((ix,lt,cm,rd),false,(E,n,c,es),0,⟨#[]⟩,false)) trivial (by (iterate 38 refine bI rfl ?_);exact bU) ?_;refine ⟨hX.from_ (ai.rfl_.next E102),hk1.from_ (ai.rfl_.next E102),he.from_ (hB.next E102),hn,by simp,?_,(hB.next E102)⟩;rw [k_ hnm hap hsn];simp only [mo,mO,true_and];unfold ExR;rw [if_neg (by omega),if_neg (by omega),if_pos (by omega)]
    first | done | omega
  refine ak (ag (ab (bj rfl rfl) (asb rfl (aj (af (Aa rfl (fun Q31=>?_) (fun Q31=>?_)))))))
  ·have hap:lM k ix lt es:=fun h=>by omega
   have hsn:je k ix a d:=fun h=>by omega
   have hnm:gH k f t tm ix lt cm rd a:=by unfold gH;omega
   have hU32:iA [(0,107,.pointer (some ⟨b1,8,none⟩)),(1,108,.bool ok),(2,109,.pointer (some ⟨b1,4,none⟩)),(3,110,.int .i64 ix),(4,111,.pointer (some ⟨b1,7,none⟩)),(5,112,.int .i64 rd),(6,113,.pointer (some ⟨b3,8,none⟩)),(8,114,.pointer (some ⟨b3,4,none⟩)),(10,115,.pointer (some ⟨b3,7,none⟩))]:=by simp [iA]
   refine iJ [(0,107,.pointer (some ⟨b1,8,none⟩)),(1,108,.bool ok),(2,109,.pointer (some ⟨b1,4,none⟩)),(3,110,.int .i64 ix),(4,111,.pointer (some ⟨b1,7,none⟩)),(5,112,.int .i64 rd),(6,113,.pointer (some ⟨b3,8,none⟩)),(8,114,.pointer (some ⟨b3,4,none⟩)),(10,115,.pointer (some ⟨b3,7,none⟩))] (fun S w'=>Blk w' b1 39 #[.int .i64 k,.int .i64 f,.int .i64 t,.int .i64 tm,.int .i64 ix,.int .i64 lt,.int .i64 cm,.int .i64 rd,.bool ok,.slice E n c,.int .i64 a,.string d,.bool dn]∧Blk w' b3 39 #[.int .i64 k,.int .i64 f,.int .i64 t,.int .i64 tm,bif S 9 then .int .i64 ix else .int .i64 0,.int .i64 0,.int .i64 0,bif S 11 then .int .i64 rd else .int .i64 0,bif S 7 then .bool ok else .bool false,.slice none 0 0,.int .i64 0,.string ⟨#[]⟩,.bool false]∧ai w w') (by kernel_rfl) (by kernel_rfl) hU32 (by simp) (⟨hk1.from_ ai.rfl_.d1,hX.from_ ai.rfl_.d1,((((ai.rfl_.next E1).next E3).only O1 (hg3))).d1⟩) ?_ ?_
   ·constructor
    ·rintro S L' wS hI hM hS0 ⟨-⟩;have e1:=hI.1 1 (by simp);have hM':=hM;obtain ⟨hk1,hX,hB⟩:=hM';exact bp (aa fk e1) ⟨hI.put hU32 (.head _),hM⟩
    constructor
    ·rintro S L' wS hI hM hS0 ⟨d0,-⟩;have e107:bF L' 107=.pointer (some ⟨b1,8,none⟩):=hI.get (i:=0) (.head _) d0;have hM':=hM;obtain ⟨hk1,hX,hB⟩:=hM';exact bp (aq fm e107 (by exact hk1.rd 8 rfl)) ⟨hI.put hU32 (.tail _ (.head _)),hM⟩
    constructor
    ·rintro S L' wS hI hM hS0 ⟨-,-⟩;have e1:=hI.1 1 (by simp);have hM':=hM;obtain ⟨hk1,hX,hB⟩:=hM';exact bp (aa bR e1) ⟨hI.put hU32 (gM 2 rfl),hM⟩
    constructor
    ·rintro S L' wS hI hM hS0 ⟨d2,-,-⟩;have e109:bF L' 109=.pointer (some ⟨b1,4,none⟩):=hI.get (i:=2) (gM 2 rfl) d2;have hM':=hM;obtain ⟨hk1,hX,hB⟩:=hM';exact bp (aq an e109 (by exact hk1.rd 4 rfl)) ⟨hI.put hU32 (gM 3 rfl),hM⟩
    constructor
    ·rintro S L' wS hI hM hS0 ⟨-,-⟩;have e1:=hI.1 1 (by simp);have hM':=hM;obtain ⟨hk1,hX,hB⟩:=hM';exact bp (aa dg e1) ⟨hI.put hU32 (gM 4 rfl),hM⟩
    constructor
    ·rintro S L' wS hI hM hS0 ⟨d4,-,-⟩;have e111:bF L' 111=.pointer (some ⟨b1,7,none⟩):=hI.get (i:=4) (gM 4 rfl) d4;have hM':=hM;obtain ⟨hk1,hX,hB⟩:=hM';exact bp (aq an e111 (by exact hk1.rd 7 rfl)) ⟨hI.put hU32 (gM 5 rfl),hM⟩
    constructor
    ·rintro S L' wS hI hM hS0 ⟨d0,d1,-,-,-,-,-⟩;have e3:=hI.1 3 (by simp);have hM':=hM;obtain ⟨hk1,hX,hB⟩:=hM';exact bp (aa fk e3) ⟨hI.put hU32 (gM 6 rfl),hM⟩
    constructor
    ·rintro S L' wS hI hM hS0 ⟨d6,d1,d0,d1,-,-,-,-,-⟩;have e108:bF L' 108=.bool ok:=hI.get (i:=1) (.tail _ (.head _)) d1;have e113:bF L' 113=.pointer (some ⟨b3,8,none⟩):=hI.get (i:=6) (gM 6 rfl) d6;have hM':=hM;obtain ⟨hk1,hX,hB⟩:=hM';obtain ⟨w2,hR,hO,hb⟩:=eK (n:=169) (L:=L') (x:=.tmp 113) (y:=.tmp 108) jl e113 e108 rfl hX (by simp);exact dZ hR ⟨hI.skip (by simp),hk1.only hO (by omega),hb,hB.only hO hg3⟩
    constructor
    ·rintro S L' wS hI hM hS0 ⟨d0,d1,d2,d3,-,-,d6,d7,-⟩;have e3:=hI.1 3 (by simp);have hM':=hM;obtain ⟨hk1,hX,hB⟩:=hM';exact bp (aa bR e3) ⟨hI.put hU32 (gM 7 rfl),hM⟩
    constructor
    ·rintro S L' wS hI hM hS0 ⟨d8,d3,d7,d0,d1,d2,d3,-,-,d6,d7,-⟩;have e110:bF L' 110=.int .i64 ix:=hI.get (i:=3) (gM 3 rfl) d3;have e114:bF L' 114=.pointer (some ⟨b3,4,none⟩):=hI.get (i:=8) (gM 7 rfl) d8;have hM':=hM;obtain ⟨hk1,hX,hB⟩:=hM';obtain ⟨w2,hR,hO,hb⟩:=eK (n:=169) (L:=L') (x:=.tmp 114) (y:=.tmp 110) aS e114 e110 rfl hX (by simp);exact dZ hR ⟨hI.skip (by simp),hk1.only hO (by omega),hb,hB.only hO hg3⟩
    constructor
    ·rintro S L' wS hI hM hS0 ⟨d0,d1,d2,d3,d4,d5,d6,d7,d8,d9,-⟩;have e3:=hI.1 3 (by simp);have hM':=hM;obtain ⟨hk1,hX,hB⟩:=hM';exact bp (aa dg e3) ⟨hI.put hU32 (gM 8 rfl),hM⟩
    constructor
    ·rintro S L' wS hI hM hS0 ⟨d10,d5,d9,d0,d1,d2,d3,d4,d5,d6,d7,d8,d9,-⟩;have e112:bF L' 112=.int .i64 rd:=hI.get (i:=5) (gM 5 rfl) d5;have e115:bF L' 115=.pointer (some ⟨b3,7,none⟩):=hI.get (i:=10) (gM 8 rfl) d10;have hM':=hM;obtain ⟨hk1,hX,hB⟩:=hM';obtain ⟨w2,hR,hO,hb⟩:=eK (n:=169) (L:=L') (x:=.tmp 115) (y:=.tmp 112) aS e115 e112 rfl hX (by simp);exact dZ hR ⟨hI.skip (by simp),hk1.only hO (by omega),hb,hB.only hO hg3⟩
    exact trivial
   ·intro w33 hM;obtain ⟨hk1,hX,hB⟩:=hM;replace hX:Blk w33 b3 39 #[.int .i64 k,.int .i64 f,.int .i64 t,.int .i64 tm,.int .i64 ix,.int .i64 0,.int .i64 0,.int .i64 rd,.bool ok,.slice none 0 0,.int .i64 0,.string ⟨#[]⟩,.bool false]:=hX;refine bE ?_;refine cu (((ix,0,0,rd),ok,(none,0,0,[]),0,⟨#[]⟩,false)) trivial (by (iterate 19 refine bI rfl ?_);exact bU) ?_;refine ⟨hX.from_ ai.rfl_,hk1.from_ ai.rfl_,cF.nil_ _,rfl,by simp,?_,hB⟩;rw [k_ hnm hap hsn];simp only [la,mo,mO,true_and];unfold ExR;rw [if_neg (by omega),if_neg (by omega),if_neg (by omega),if_pos (by omega)]
    first | done | omega
  refine ak (ag (ab (bj rfl rfl) (asb rfl (aj (af (Aa rfl (fun Q34=>?_) (fun Q34=>?_)))))))
  ·have hap:lM k ix lt es:=fun h=>by omega
   have hnm:gH k f t tm ix lt cm rd a:=by unfold gH;omega
   refine ak ?_;have hU35:iA [(0,118,.pointer (some ⟨b1,4,none⟩)),(1,119,.int .i64 ix),(2,120,.pointer (some ⟨b1,5,none⟩)),(3,121,.int .i64 lt),(4,122,.pointer (some ⟨b1,7,none⟩)),(5,123,.int .i64 rd),(6,124,.pointer (some ⟨b1,10,none⟩)),(7,125,.int .i64 a),(8,126,.pointer (some ⟨b1,11,none⟩)),(9,127,.string d),(10,128,.pointer (some ⟨b1,12,none⟩)),(11,129,.bool dn),(12,130,.pointer (some ⟨b3,4,none⟩)),(14,131,.pointer (some ⟨b3,5,none⟩)),(16,132,.pointer (some ⟨b3,7,none⟩)),(18,133,.pointer (some ⟨b3,10,none⟩)),(20,134,.pointer (some ⟨b3,11,none⟩)),(22,135,.pointer (some ⟨b3,12,none⟩))]:=by simp [iA]
   refine iJ [(0,118,.pointer (some ⟨b1,4,none⟩)),(1,119,.int .i64 ix),(2,120,.pointer (some ⟨b1,5,none⟩)),(3,121,.int .i64 lt),(4,122,.pointer (some ⟨b1,7,none⟩)),(5,123,.int .i64 rd),(6,124,.pointer (some ⟨b1,10,none⟩)),(7,125,.int .i64 a),(8,126,.pointer (some ⟨b1,11,none⟩)),(9,127,.string d),(10,128,.pointer (some ⟨b1,12,none⟩)),(11,129,.bool dn),(12,130,.pointer (some ⟨b3,4,none⟩)),(14,131,.pointer (some ⟨b3,5,none⟩)),(16,132,.pointer (some ⟨b3,7,none⟩)),(18,133,.pointer (some ⟨b3,10,none⟩)),(20,134,.pointer (some ⟨b3,11,none⟩)),(22,135,.pointer (some ⟨b3,12,none⟩))] (fun S w'=>Blk w' b1 39 #[.int .i64 k,.int .i64 f,.int .i64 t,.int .i64 tm,.int .i64 ix,.int .i64 lt,.int .i64 cm,.int .i64 rd,.bool ok,.slice E n c,.int .i64 a,.string d,.bool dn]∧Blk w' b3 39 #[.int .i64 k,.int .i64 f,.int .i64 t,.int .i64 tm,bif S 13 then .int .i64 ix else .int .i64 0,bif S 15 then .int .i64 lt else .int .i64 0,.int .i64 0,bif S 17 then .int .i64 rd else .int .i64 0,.bool false,.slice none 0 0,bif S 19 then .int .i64 a else .int .i64 0,bif S 21 then .string d else .string ⟨#[]⟩,bif S 23 then .bool dn else .bool false]∧ai w w') (by kernel_rfl) (by kernel_rfl) hU35 (by simp) (⟨hk1.from_ ai.rfl_.d1,hX.from_ ai.rfl_.d1,((((ai.rfl_.next E1).next E3).only O1 (hg3))).d1⟩) ?_ ?_
   ·constructor
    ·rintro S L' wS hI hM hS0 ⟨-⟩;have e1:=hI.1 1 (by simp);have hM':=hM;obtain ⟨hk1,hX,hB⟩:=hM';exact bp (aa bR e1) ⟨hI.put hU35 (.head _),hM⟩
    constructor
    ·rintro S L' wS hI hM hS0 ⟨d0,-⟩;have e118:bF L' 118=.pointer (some ⟨b1,4,none⟩):=hI.get (i:=0) (.head _) d0;have hM':=hM;obtain ⟨hk1,hX,hB⟩:=hM';exact bp (aq an e118 (by exact hk1.rd 4 rfl)) ⟨hI.put hU35 (.tail _ (.head _)),hM⟩
    constructor
    ·rintro S L' wS hI hM hS0 ⟨-,-⟩;have e1:=hI.1 1 (by simp);have hM':=hM;obtain ⟨hk1,hX,hB⟩:=hM';exact bp (aa ck e1) ⟨hI.put hU35 (gM 2 rfl),hM⟩
    constructor
    ·rintro S L' wS hI hM hS0 ⟨d2,-,-⟩;have e120:bF L' 120=.pointer (some ⟨b1,5,none⟩):=hI.get (i:=2) (gM 2 rfl) d2;have hM':=hM;obtain ⟨hk1,hX,hB⟩:=hM';exact bp (aq an e120 (by exact hk1.rd 5 rfl)) ⟨hI.put hU35 (gM 3 rfl),hM⟩
    constructor
    ·rintro S L' wS hI hM hS0 ⟨-,-⟩;have e1:=hI.1 1 (by simp);have hM':=hM;obtain ⟨hk1,hX,hB⟩:=hM';exact bp (aa dg e1) ⟨hI.put hU35 (gM 4 rfl),hM⟩
    constructor
    ·rintro S L' wS hI hM hS0 ⟨d4,-,-⟩;have e122:bF L' 122=.pointer (some ⟨b1,7,none⟩):=hI.get (i:=4) (gM 4 rfl) d4;have hM':=hM;obtain ⟨hk1,hX,hB⟩:=hM';exact bp (aq an e122 (by exact hk1.rd 7 rfl)) ⟨hI.put hU35 (gM 5 rfl),hM⟩
    constructor
    ·rintro S L' wS hI hM hS0 ⟨-,-⟩;have e1:=hI.1 1 (by simp);have hM':=hM;obtain ⟨hk1,hX,hB⟩:=hM';exact bp (aa dU e1) ⟨hI.put hU35 (gM 6 rfl),hM⟩
    constructor
    ·rintro S L' wS hI hM hS0 ⟨d6,-,-⟩;have e124:bF L' 124=.pointer (some ⟨b1,10,none⟩):=hI.get (i:=6) (gM 6 rfl) d6;have hM':=hM;obtain ⟨hk1,hX,hB⟩:=hM';exact bp (aq an e124 (by exact hk1.rd 10 rfl)) ⟨hI.put hU35 (gM 7 rfl),hM⟩
    constructor
    ·rintro S L' wS hI hM hS0 ⟨-,-⟩;have e1:=hI.1 1 (by simp);have hM':=hM;obtain ⟨hk1,hX,hB⟩:=hM';exact bp (aa eR e1) ⟨hI.put hU35 (gM 8 rfl),hM⟩
    constructor
    ·rintro S L' wS hI hM hS0 ⟨d8,-,-⟩;have e126:bF L' 126=.pointer (some ⟨b1,11,none⟩):=hI.get (i:=8) (gM 8 rfl) d8;have hM':=hM;obtain ⟨hk1,hX,hB⟩:=hM';exact bp (aq cK e126 (by exact hk1.rd 11 rfl)) ⟨hI.put hU35 (gM 9 rfl),hM⟩
    constructor
    ·rintro S L' wS hI hM hS0 ⟨-,-⟩;have e1:=hI.1 1 (by simp);have hM':=hM;obtain ⟨hk1,hX,hB⟩:=hM';exact bp (aa gk e1) ⟨hI.put hU35 (gM 10 rfl),hM⟩
    constructor
    ·rintro S L' wS hI hM hS0 ⟨d10,-,-⟩;have e128:bF L' 128=.pointer (some ⟨b1,12,none⟩):=hI.get (i:=10) (gM 10 rfl) d10;have hM':=hM;obtain ⟨hk1,hX,hB⟩:=hM';exact bp (aq fm e128 (by exact hk1.rd 12 rfl)) ⟨hI.put hU35 (gM 11 rfl),hM⟩
    constructor
    ·rintro S L' wS hI hM hS0 ⟨d0,d1,-,-,-,-,-,-,-,-,-,-,-⟩;have e3:=hI.1 3 (by simp);have hM':=hM;obtain ⟨hk1,hX,hB⟩:=hM';exact bp (aa bR e3) ⟨hI.put hU35 (gM 12 rfl),hM⟩
    constructor
    ·rintro S L' wS hI hM hS0 ⟨d12,d1,d0,d1,-,-,-,-,-,-,-,-,-,-,-⟩;have e119:bF L' 119=.int .i64 ix:=hI.get (i:=1) (.tail _ (.head _)) d1;have e130:bF L' 130=.pointer (some ⟨b3,4,none⟩):=hI.get (i:=12) (gM 12 rfl) d12;have hM':=hM;obtain ⟨hk1,hX,hB⟩:=hM';obtain ⟨w2,hR,hO,hb⟩:=eK (n:=169) (L:=L') (x:=.tmp 130) (y:=.tmp 119) aS e130 e119 rfl hX (by simp);exact dZ hR ⟨hI.skip (by simp),hk1.only hO (by omega),hb,hB.only hO hg3⟩
    constructor
    ·rintro S L' wS hI hM hS0 ⟨d0,d1,d2,d3,-,-,-,-,-,-,-,-,d12,d13,-⟩;have e3:=hI.1 3 (by simp);have hM':=hM;obtain ⟨hk1,hX,hB⟩:=hM';exact bp (aa ck e3) ⟨hI.put hU35 (gM 13 rfl),hM⟩
    constructor
    ·rintro S L' wS hI hM hS0 ⟨d14,d3,d13,d0,d1,d2,d3,-,-,-,-,-,-,-,-,d12,d13,-⟩;have e121:bF L' 121=.int .i64 lt:=hI.get (i:=3) (gM 3 rfl) d3;have e131:bF L' 131=.pointer (some ⟨b3,5,none⟩):=hI.get (i:=14) (gM 13 rfl) d14;have hM':=hM;obtain ⟨hk1,hX,hB⟩:=hM';obtain ⟨w2,hR,hO,hb⟩:=eK (n:=169) (L:=L') (x:=.tmp 131) (y:=.tmp 121) aS e131 e121 rfl hX (by simp);exact dZ hR ⟨hI.skip (by simp),hk1.only hO (by omega),hb,hB.only hO hg3⟩
    constructor
    ·rintro S L' wS hI hM hS0 ⟨d0,d1,d2,d3,d4,d5,-,-,-,-,-,-,d12,d13,d14,d15,-⟩;have e3:=hI.1 3 (by simp);have hM':=hM;obtain ⟨hk1,hX,hB⟩:=hM';exact bp (aa dg e3) ⟨hI.put hU35 (gM 14 rfl),hM⟩
    constructor
    ·rintro S L' wS hI hM hS0 ⟨d16,d5,d15,d0,d1,d2,d3,d4,d5,-,-,-,-,-,-,d12,d13,d14,d15,-⟩;have e123:bF L' 123=.int .i64 rd:=hI.get (i:=5) (gM 5 rfl) d5;have e132:bF L' 132=.pointer (some ⟨b3,7,none⟩):=hI.get (i:=16) (gM 14 rfl) d16;have hM':=hM;obtain ⟨hk1,hX,hB⟩:=hM';obtain ⟨w2,hR,hO,hb⟩:=eK (n:=169) (L:=L') (x:=.tmp 132) (y:=.tmp 123) aS e132 e123 rfl hX (by simp);exact dZ hR ⟨hI.skip (by simp),hk1.only hO (by omega),hb,hB.only hO hg3⟩
    constructor
    ·rintro S L' wS hI hM hS0 ⟨d0,d1,d2,d3,d4,d5,d6,d7,-,-,-,-,d12,d13,d14,d15,d16,d17,-⟩;have e3:=hI.1 3 (by simp);have hM':=hM;obtain ⟨hk1,hX,hB⟩:=hM';exact bp (aa dU e3) ⟨hI.put hU35 (gM 15 rfl),hM⟩
    constructor
    ·rintro S L' wS hI hM hS0 ⟨d18,d7,d17,d0,d1,d2,d3,d4,d5,d6,d7,-,-,-,-,d12,d13,d14,d15,d16,d17,-⟩;have e125:bF L' 125=.int .i64 a:=hI.get (i:=7) (gM 7 rfl) d7;have e133:bF L' 133=.pointer (some ⟨b3,10,none⟩):=hI.get (i:=18) (gM 15 rfl) d18;have hM':=hM;obtain ⟨hk1,hX,hB⟩:=hM';obtain ⟨w2,hR,hO,hb⟩:=eK (n:=169) (L:=L') (x:=.tmp 133) (y:=.tmp 125) aS e133 e125 rfl hX (by simp);exact dZ hR ⟨hI.skip (by simp),hk1.only hO (by omega),hb,hB.only hO hg3⟩
    constructor
    ·rintro S L' wS hI hM hS0 ⟨d0,d1,d2,d3,d4,d5,d6,d7,d8,d9,-,-,d12,d13,d14,d15,d16,d17,d18,d19,-⟩;have e3:=hI.1 3 (by simp);have hM':=hM;obtain ⟨hk1,hX,hB⟩:=hM';exact bp (aa eR e3) ⟨hI.put hU35 (gM 16 rfl),hM⟩
    constructor
    ·rintro S L' wS hI hM hS0 ⟨d20,d9,d19,d0,d1,d2,d3,d4,d5,d6,d7,d8,d9,-,-,d12,d13,d14,d15,d16,d17,d18,d19,-⟩;have e127:bF L' 127=.string d:=hI.get (i:=9) (gM 9 rfl) d9;have e134:bF L' 134=.pointer (some ⟨b3,11,none⟩):=hI.get (i:=20) (gM 16 rfl) d20;have hM':=hM;obtain ⟨hk1,hX,hB⟩:=hM';obtain ⟨w2,hR,hO,hb⟩:=eK (n:=169) (L:=L') (x:=.tmp 134) (y:=.tmp 127) jV e134 e127 rfl hX (by simp);exact dZ hR ⟨hI.skip (by simp),hk1.only hO (by omega),hb,hB.only hO hg3⟩
    constructor
    ·rintro S L' wS hI hM hS0 ⟨d0,d1,d2,d3,d4,d5,d6,d7,d8,d9,d10,d11,d12,d13,d14,d15,d16,d17,d18,d19,d20,d21,-⟩;have e3:=hI.1 3 (by simp);have hM':=hM;obtain ⟨hk1,hX,hB⟩:=hM';exact bp (aa gk e3) ⟨hI.put hU35 (gM 17 rfl),hM⟩
    constructor
    ·rintro S L' wS hI hM hS0 ⟨d22,d11,d21,d0,d1,d2,d3,d4,d5,d6,d7,d8,d9,d10,d11,d12,d13,d14,d15,d16,d17,d18,d19,d20,d21,-⟩;have e129:bF L' 129=.bool dn:=hI.get (i:=11) (gM 11 rfl) d11;have e135:bF L' 135=.pointer (some ⟨b3,12,none⟩):=hI.get (i:=22) (gM 17 rfl) d22;have hM':=hM;obtain ⟨hk1,hX,hB⟩:=hM';obtain ⟨w2,hR,hO,hb⟩:=eK (n:=169) (L:=L') (x:=.tmp 135) (y:=.tmp 129) jl e135 e129 rfl hX (by simp);exact dZ hR ⟨hI.skip (by simp),hk1.only hO (by omega),hb,hB.only hO hg3⟩
    exact trivial
   ·intro w36 hM;obtain ⟨hk1,hX,hB⟩:=hM;replace hX:Blk w36 b3 39 #[.int .i64 k,.int .i64 f,.int .i64 t,.int .i64 tm,.int .i64 ix,.int .i64 lt,.int .i64 0,.int .i64 rd,.bool false,.slice none 0 0,.int .i64 a,.string d,.bool dn]:=hX;refine af (ak (ag (ab (aa bR rfl) (ab (aq an rfl (by exact (hk1.from_ ai.rfl_).rd 4 rfl)) ?_))));refine ab (bj rfl rfl) (mvb rfl (zr (t:=139) rfl (fun Q37=>?_) (fun Q37=>?_)))
    ·refine bc rfl (aj (af (aL rfl (ak (ag (asb rfl (aj (af (aC (aZ (az (bo (v:=.bool _) rfl rfl ?_))))))))))));exact ⟨congrArg Value.bool (decide_eq_false (fun h=>by have h2:=h.2.2.2 (by omega);omega)).symm,hB⟩
    refine ae rfl (ab (aa bR rfl) (ae rfl (ab (aq an rfl (by exact (hk1.from_ ai.rfl_).rd 4 rfl)) ?_)));refine ae rfl (ab (bS rfl rfl) (ab (aw (v:=.bool _) rfl rfl) (mvb rfl (zt (t:=144) rfl (fun Q38=>?_) (fun Q38=>?_)))))
    ·refine bc rfl (aj (af (aL rfl (ak (ag (asb rfl (aj (af (aC (aZ (az (bo (v:=.bool _) rfl rfl ?_))))))))))));exact ⟨congrArg Value.bool (decide_eq_false (fun h=>by have h2:=h.2.2.2 (by omega);omega)).symm,hB⟩
    refine ae rfl (ab (aa dU rfl) (ae rfl (ab (aq an rfl (by exact (hk1.from_ ai.rfl_).rd 10 rfl)) ?_)));refine ae rfl (ab (bS rfl rfl) (ab (aw (v:=.bool _) rfl rfl) (mvb rfl (zt (t:=149) rfl (fun Q39=>?_) (fun Q39=>?_)))))
    ·refine bc rfl (aj (af (aL rfl (ak (ag (asb rfl (aj (af (aC (aZ (az (bo (v:=.bool _) rfl rfl ?_))))))))))));exact ⟨congrArg Value.bool (decide_eq_false (fun h=>by have h2:=h.2.2.2 (by omega);omega)).symm,hB⟩
    refine ae rfl (ab (aa eR rfl) (ae rfl (ab (aq cK rfl (by exact (hk1.from_ ai.rfl_).rd 11 rfl)) ?_)));refine ae rfl (ab (eG (by kernel_rfl) rfl) (ae rfl (ab (bS rfl rfl) (ab (aw (v:=.bool _) rfl rfl) (aj (af (Ab rfl (fun Q40=>?_) (fun Q40=>?_))))))))
    ·refine ak (ag (asb rfl (aj (af (aC (aZ (az (bo (v:=.bool _) rfl rfl ?_))))))));exact ⟨congrArg Value.bool (decide_eq_false (fun h=>by have h2:=h.2.2.2 (by omega);omega)).symm,hB⟩
    have hsn:je k ix a d:=fun _=>by omega
    refine aM (bE ?_);refine cu (((ix,lt,0,rd),false,(none,0,0,[]),a,d,dn)) trivial (by (iterate 52 refine bI rfl ?_);exact bU) ?_;refine ⟨hX.from_ ai.rfl_,hk1.from_ ai.rfl_,cF.nil_ _,rfl,by simp,?_,hB⟩;rw [k_ hnm hap hsn];simp only [la,mO,true_and,and_true];unfold ExR;rw [if_neg (by omega),if_neg (by omega),if_neg (by omega),if_neg (by omega),if_pos (by omega)]
    first | done | omega
  refine ak (ag (ab (bj rfl rfl) (asb rfl (aj (af (Aa rfl (fun Q41=>?_) (fun Q41=>?_)))))))
  ·have hap:lM k ix lt es:=fun h=>by omega
   have hsn:je k ix a d:=fun h=>by omega
   have hnm:gH k f t tm ix lt cm rd a:=by unfold gH;omega
   have hU42:iA [(0,157,.pointer (some ⟨b1,4,none⟩)),(1,158,.int .i64 ix),(2,159,.pointer (some ⟨b1,10,none⟩)),(3,160,.int .i64 a),(4,161,.pointer (some ⟨b1,7,none⟩)),(5,162,.int .i64 rd),(6,163,.pointer (some ⟨b3,4,none⟩)),(8,164,.pointer (some ⟨b3,10,none⟩)),(10,165,.pointer (some ⟨b3,7,none⟩))]:=by simp [iA]
   refine iJ [(0,157,.pointer (some ⟨b1,4,none⟩)),(1,158,.int .i64 ix),(2,159,.pointer (some ⟨b1,10,none⟩)),(3,160,.int .i64 a),(4,161,.pointer (some ⟨b1,7,none⟩)),(5,162,.int .i64 rd),(6,163,.pointer (some ⟨b3,4,none⟩)),(8,164,.pointer (some ⟨b3,10,none⟩)),(10,165,.pointer (some ⟨b3,7,none⟩))] (fun S w'=>Blk w' b1 39 #[.int .i64 k,.int .i64 f,.int .i64 t,.int .i64 tm,.int .i64 ix,.int .i64 lt,.int .i64 cm,.int .i64 rd,.bool ok,.slice E n c,.int .i64 a,.string d,.bool dn]∧Blk w' b3 39 #[.int .i64 k,.int .i64 f,.int .i64 t,.int .i64 tm,bif S 7 then .int .i64 ix else .int .i64 0,.int .i64 0,.int .i64 0,bif S 11 then .int .i64 rd else .int .i64 0,.bool false,.slice none 0 0,bif S 9 then .int .i64 a else .int .i64 0,.string ⟨#[]⟩,.bool false]∧ai w w') (by kernel_rfl) (by kernel_rfl) hU42 (by simp) (⟨hk1.from_ ai.rfl_.d1,hX.from_ ai.rfl_.d1,((((ai.rfl_.next E1).next E3).only O1 (hg3))).d1⟩) ?_ ?_
   ·constructor
    ·rintro S L' wS hI hM hS0 ⟨-⟩;have e1:=hI.1 1 (by simp);have hM':=hM;obtain ⟨hk1,hX,hB⟩:=hM';exact bp (aa bR e1) ⟨hI.put hU42 (.head _),hM⟩
    constructor
    ·rintro S L' wS hI hM hS0 ⟨d0,-⟩;have e157:bF L' 157=.pointer (some ⟨b1,4,none⟩):=hI.get (i:=0) (.head _) d0;have hM':=hM;obtain ⟨hk1,hX,hB⟩:=hM';exact bp (aq an e157 (by exact hk1.rd 4 rfl)) ⟨hI.put hU42 (.tail _ (.head _)),hM⟩
    constructor
    ·rintro S L' wS hI hM hS0 ⟨-,-⟩;have e1:=hI.1 1 (by simp);have hM':=hM;obtain ⟨hk1,hX,hB⟩:=hM';exact bp (aa dU e1) ⟨hI.put hU42 (gM 2 rfl),hM⟩
    constructor
    ·rintro S L' wS hI hM hS0 ⟨d2,-,-⟩;have e159:bF L' 159=.pointer (some ⟨b1,10,none⟩):=hI.get (i:=2) (gM 2 rfl) d2;have hM':=hM;obtain ⟨hk1,hX,hB⟩:=hM';exact bp (aq an e159 (by exact hk1.rd 10 rfl)) ⟨hI.put hU42 (gM 3 rfl),hM⟩
    constructor
    ·rintro S L' wS hI hM hS0 ⟨-,-⟩;have e1:=hI.1 1 (by simp);have hM':=hM;obtain ⟨hk1,hX,hB⟩:=hM';exact bp (aa dg e1) ⟨hI.put hU42 (gM 4 rfl),hM⟩
    constructor
    ·rintro S L' wS hI hM hS0 ⟨d4,-,-⟩;have e161:bF L' 161=.pointer (some ⟨b1,7,none⟩):=hI.get (i:=4) (gM 4 rfl) d4;have hM':=hM;obtain ⟨hk1,hX,hB⟩:=hM';exact bp (aq an e161 (by exact hk1.rd 7 rfl)) ⟨hI.put hU42 (gM 5 rfl),hM⟩
    constructor
    ·rintro S L' wS hI hM hS0 ⟨d0,d1,-,-,-,-,-⟩;have e3:=hI.1 3 (by simp);have hM':=hM;obtain ⟨hk1,hX,hB⟩:=hM';exact bp (aa bR e3) ⟨hI.put hU42 (gM 6 rfl),hM⟩
    constructor
    ·rintro S L' wS hI hM hS0 ⟨d6,d1,d0,d1,-,-,-,-,-⟩;have e158:bF L' 158=.int .i64 ix:=hI.get (i:=1) (.tail _ (.head _)) d1;have e163:bF L' 163=.pointer (some ⟨b3,4,none⟩):=hI.get (i:=6) (gM 6 rfl) d6;have hM':=hM;obtain ⟨hk1,hX,hB⟩:=hM';obtain ⟨w2,hR,hO,hb⟩:=eK (n:=169) (L:=L') (x:=.tmp 163) (y:=.tmp 158) aS e163 e158 rfl hX (by simp);exact dZ hR ⟨hI.skip (by simp),hk1.only hO (by omega),hb,hB.only hO hg3⟩
    constructor
    ·rintro S L' wS hI hM hS0 ⟨d0,d1,d2,d3,-,-,d6,d7,-⟩;have e3:=hI.1 3 (by simp);have hM':=hM;obtain ⟨hk1,hX,hB⟩:=hM';exact bp (aa dU e3) ⟨hI.put hU42 (gM 7 rfl),hM⟩
    constructor
    ·rintro S L' wS hI hM hS0 ⟨d8,d3,d7,d0,d1,d2,d3,-,-,d6,d7,-⟩;have e160:bF L' 160=.int .i64 a:=hI.get (i:=3) (gM 3 rfl) d3;have e164:bF L' 164=.pointer (some ⟨b3,10,none⟩):=hI.get (i:=8) (gM 7 rfl) d8;have hM':=hM;obtain ⟨hk1,hX,hB⟩:=hM';obtain ⟨w2,hR,hO,hb⟩:=eK (n:=169) (L:=L') (x:=.tmp 164) (y:=.tmp 160) aS e164 e160 rfl hX (by simp);exact dZ hR ⟨hI.skip (by simp),hk1.only hO (by omega),hb,hB.only hO hg3⟩
    constructor
    ·rintro S L' wS hI hM hS0 ⟨d0,d1,d2,d3,d4,d5,d6,d7,d8,d9,-⟩;have e3:=hI.1 3 (by simp);have hM':=hM;obtain ⟨hk1,hX,hB⟩:=hM';exact bp (aa dg e3) ⟨hI.put hU42 (gM 8 rfl),hM⟩
    constructor
    ·rintro S L' wS hI hM hS0 ⟨d10,d5,d9,d0,d1,d2,d3,d4,d5,d6,d7,d8,d9,-⟩;have e162:bF L' 162=.int .i64 rd:=hI.get (i:=5) (gM 5 rfl) d5;have e165:bF L' 165=.pointer (some ⟨b3,7,none⟩):=hI.get (i:=10) (gM 8 rfl) d10;have hM':=hM;obtain ⟨hk1,hX,hB⟩:=hM';obtain ⟨w2,hR,hO,hb⟩:=eK (n:=169) (L:=L') (x:=.tmp 165) (y:=.tmp 162) aS e165 e162 rfl hX (by simp);exact dZ hR ⟨hI.skip (by simp),hk1.only hO (by omega),hb,hB.only hO hg3⟩
    exact trivial
   ·intro w43 hM;obtain ⟨hk1,hX,hB⟩:=hM;replace hX:Blk w43 b3 39 #[.int .i64 k,.int .i64 f,.int .i64 t,.int .i64 tm,.int .i64 ix,.int .i64 0,.int .i64 0,.int .i64 rd,.bool false,.slice none 0 0,.int .i64 a,.string ⟨#[]⟩,.bool false]:=hX;refine bE ?_;refine cu (((ix,0,0,rd),false,(none,0,0,[]),a,⟨#[]⟩,false)) trivial (by (iterate 23 refine bI rfl ?_);exact bU) ?_;refine ⟨hX.from_ ai.rfl_,hk1.from_ ai.rfl_,cF.nil_ _,rfl,by simp,?_,hB⟩;rw [k_ hnm hap hsn];simp only [la,mo,mO,true_and];unfold ExR;rw [if_neg (by omega),if_neg (by omega),if_neg (by omega),if_neg (by omega),if_neg (by omega),if_pos (by omega)]
    first | done | omega
  refine ak (ag (asb rfl (aj (af (aC (aZ (az (bo (v:=.bool _) rfl rfl (⟨congrArg Value.bool (decide_eq_false (fun h=>by have h1:=h.1;unfold gH at h1;omega)).symm,(((ai.rfl_.next E1).next E3).only O1 (hg3))⟩)))))))))
 rintro ⟨⟨ix',lt',cm',rd'⟩,ok',⟨E',n',c',es'⟩,a',d',dn'⟩ ρ44 w44 ⟨hX,hk1,heX,hnX,hlX,hiff,hB⟩;refine ak (ag (ab (aG (cs:=[_,_,_,_,_,_,_,_,_,_,_,_,_]) bk aP rfl (by exact hX.whole)) ?_));refine ab (aG (cs:=[_,_,_,_,_,_,_,_,_,_,_,_,_]) bk aP rfl (by exact hk1.whole)) ?_;refine aB jW (tW k f t tm ix' lt' cm' rd' ok' E' n' c' a' d' dn' k f t tm ix lt cm rd ok E n c a d dn _ es' es hnX hn heX (he.from_ hB) (by omega)) ?_;rintro v168 w45 ⟨rfl,E168⟩;refine asb rfl (aj (af (aC (bo (v:=.bool _) rfl rfl (⟨congrArg Value.bool ?_,(hB.next E168)⟩)))));rw [decide_eq_decide,←hiff];constructor
 ·rintro ⟨-,-,-,-,e5,e6,e7,e8,e9,e10,e11,e12,e13⟩;exact ⟨e5,e6,e7,e8,e9,e10,e11,e12,e13⟩
 ·rintro ⟨e5,e6,e7,e8,e9,e10,e11,e12,e13⟩;exact ⟨rfl,rfl,rfl,rfl,e5,e6,e7,e8,e9,e10,e11,e12,e13⟩
theorem sS {es:List Ent} {k:Nat} (h:k<es.length):eb (es.take k)++[.int .i64 es[k].i,.int .i64 es[k].t,.string es[k].d]=eb (es.take (k+1)):=by
 rw [List.take_succ_eq_append_getElem h,nd];rfl
theorem wO (E:Option Addr) (n c:Nat) (es:List Ent) (w:World) (hn:n=es.length) (he:cF w (.slice E n c) es) (hl:es.length≤1000000000) :
 Rt prog 59 [.slice E n c] w (fun v w'=>(∃ A' c',v=.slice A' es.length c'∧w'.ownsRow w.heap.size 99 3 (.slice A' es.length c') es.length (eb es))∧ai w w'):=by
 refine enter (n:=19) Tryz.func59 rfl rfl rfl (ak (ag (ass rfl (aj (af (ak (ag (ass rfl (aj (af (ak (ak (ag (asi rfl (aj (af (bg (dd (G:=Nat×Option Addr×Nat) [5,6,7,8,9,10,11,12,13,14,15,16,17] (fun (k,A3,c3)=>[(3,.slice A3 k c3),(4,.int .i64 (k:Nat))]) (fun (k,A3,c3) w'=>k≤es.length∧w'.ownsRow w.heap.size 99 3 (.slice A3 k c3) k (eb (es.take k))∧ai w w') (fun (k,_,_)=>es.length-k) ((0,none,0)) ⟨rfl,rfl,trivial⟩ ?_ ?_))))))))))))))))))
 ·exact ⟨Nat.zero_le _,World.ownsRow_nil _ _ _ _,ai.rfl_⟩
 rintro ⟨k,A3,c3⟩ ρ1 w1 ⟨hk,ho3,hB⟩;refine ak (ak (ag (mvi rfl (mvs rfl (ab (bW cC rfl) (ab (b_ rfl rfl) (aj (af (Ab rfl (fun Q2=>?_) (fun Q2=>?_))))))))))
 ·have hkl:k<es.length:=by omega
  obtain ⟨ba,oa,hA,hcs⟩:=lf he (by omega);subst hA;refine aM (af (ak (bg (ag (mvs rfl (mvs rfl (mvi rfl (ab (eN dN rfl rfl (by omega)) (ab (aG (cs:=[.int .i64 (es[k]'hkl).i,.int .i64 (es[k]'hkl).t,.string (es[k]'hkl).d]) jX gG rfl (eB hB (hcs k hkl))) ?_)))))))));refine lG (l:=[(0,.tmp 15)]) (cells:=[.int .i64 (es[k]'hkl).i,.int .i64 (es[k]'hkl).t,.string (es[k]'hkl).d].toArray) jh rfl rfl (by show Instr.fill _ _ [(0,Value.agg [.int .i64 (es[k]'hkl).i,.int .i64 (es[k]'hkl).t,.string (es[k]'hkl).d].toArray)]=_;kernel_rfl) ?_;intro b16 w3 E16 hb16 hk16;refine kY (a0:=w) (news:=[.int .i64 (es[k]'hkl).i,.int .i64 (es[k]'hkl).t,.string (es[k]'hkl).d]) jh rfl (by decide) rfl (ho3.kept_from (ai.rfl_.next E16)) (hB.next E16) rfl rfl (fun _=>⟨b16,0,rfl,hk16.whole⟩) (fun h=>by cases h) (by simp [Value.oneCell']) (by omega) (by omega) ?_;intro A17 c17 w4 ho17 B17 hg17;refine ass rfl (aj (bE (af (ag (mvi rfl (ab (cq rfl rfl (by omega)) (asi rfl (aj ?_))))))));refine cu ((k+1,A17,c17)) ⟨(by first | rfl | (refine bT ?_;omega)),(by first | rfl | (refine bT ?_;omega)),trivial⟩ (by (iterate 30 refine bI rfl ?_);exact bU) ⟨?_,?_⟩
  ·exact ⟨by omega,by rw [←sS hkl];exact ho17,B17⟩
  ·show es.length-(k+1)<es.length-k;omega
 refine cI (bD (bD (cr (af (ak (ag (mvs rfl (ass rfl (aj (af (aC (bo (v:=.slice _ _ _) rfl rfl ?_))))))))))));obtain rfl:k=es.length:=by omega
 rw [List.take_length] at ho3;exact ⟨⟨A3,c3,rfl,ho3⟩,hB⟩
theorem jc (x:Msg) (w:World) (he:cF w (.slice x.E x.es.length x.c) x.es) (hl:x.es.length≤1000000000) :
 Rt prog 47 [.agg (bM x).toArray] w (fun v w'=>(∃ A' c',v=.agg (bM { x with E:=A',c:=c' }).toArray∧w'.ownsRow w.heap.size 99 3 (.slice A' x.es.length c') x.es.length (eb x.es))∧ai w w'):=by
 refine enter (n:=10) Tryz.func47 rfl rfl rfl (ak (ag (bZ (v:=.agg _) rfl ?_)));intro b1 w1 E1 hb1 hk1;refine cf dW ?_;intro b2 w2 E2 hb2 hk2;have hg2:w.heap.size≤b2:=by rw [hb2];exact ((ai.rfl_.next E1)).size
 replace hk1:=hk1.from_ E2;refine aj (af (ak (ag (ab (aG (cs:=bM x) bk aP rfl hk1.whole) (cf dW ?_)))));intro b3 w3 E3 hb3 hk3;have hg3:w.heap.size≤b3:=by rw [hb3];exact (((ai.rfl_.next E1).next E2)).size
 have h23:b2≠b3:=by have:=hk2.lt;omega
 have h13:b1≠b3:=by have:=hk1.lt;omega
 replace hk1:=hk1.from_ E3;replace hk2:=hk2.from_ E3;refine b0 (vs:=[_,_,_,_,_,_,_,_,_,_,_,_,_]) aP rfl rfl (by simp [Value.oneCell']) (hk3) rfl ?_;intro w4 O1 P1;replace hk1:=hk1.only O1 h13;replace hk2:=hk2.only O1 h23;have hz1:=(((((ai.rfl_.next E1).next E2).next E3).only O1 (hg3))).size;refine aj (af (ak (ag (ab (aa dC rfl) (ab (aq cY rfl (by exact hk1.rd 9 rfl)) ?_)))));refine aB tr (wO x.E x.es.length x.c x.es _ rfl (he.from_ ((((ai.rfl_.next E1).next E2).next E3).only O1 (hg3))) hl) ?_;rintro v7 w5 ⟨⟨A7,c7,rfl,ho7⟩,E7⟩;refine ab (aa dC rfl) (dD (v:=.slice _ _ _) lk rfl rfl rfl ((P1.from_ (ai.rfl_.next E7))) (by show 0+9<13;decide) ?_);intro w6 O2 P2;replace hk2:=(hk2.from_ E7).only O2 h23;replace ho7:=gC ho7 O2 (k9 ho7 (P1.from_ E7) (by decide));refine aj (af (ak (ag (ab (aG (cs:=bM { x with E:=A7,c:=c7 }) bk aP rfl P2.whole) (b0 (vs:=[_,_,_,_,_,_,_,_,_,_,_,_,_]) aP rfl rfl (by simp [Value.oneCell']) (hk2) rfl ?_)))));intro w7 O3 P3;replace ho7:=gC ho7 O3 (k9 ho7 hk2 (by decide));refine aj (af (aC (iU rfl (cX (cs:=[_,_,_,_,_,_,_,_,_,_,_,_,_]) bk aP rfl (by exact P3.whole)) ?_)));exact ⟨⟨A7,c7,rfl,eU ho7 hz1⟩,(((((((ai.rfl_.next E1).next E2).next E3).only O1 (hg3)).next E7).only O2 (hg3)).only O3 (hg2))⟩
end Go.Proofs.YtkpooenofjdpmaaGreat
namespace Go.Proofs.YtkpooenofjdpmaaGreat
open Go.Proofs.Tryz (prog)
open Go.RowKit
open Go.ChangeShapes Go.WideShapes Go.ChangeAt
open Go.RowKit
theorem rk:∀ (l:List Int),gv l=true→l.Pairwise (·<·)
 |[],_=>List.Pairwise.nil
 |_::r,h=>List.Pairwise.cons (pC h) (rk r (mX h))
theorem rq:∀ (l:List Int),l.Pairwise (·<·)→gv l=true
 |[],_=>rfl
 |[_],_=>rfl
 |a::b::r,h=>by
  cases h with
  |cons h1 h2=>
   show (decide (a<b)&&gv (b::r))=true;rw [rq (b::r) h2,decide_eq_true (h1 b List.mem_cons_self)];rfl
theorem uh {l:List Int} {x y:Int} (h:y∈ku l x):y∈l∨y=x:=by
 unfold ku at h;split at h
 ·exact .inl h
 ·rcases List.mem_append.1 h with e | e
  ·exact .inl ((List.takeWhile_sublist _).mem e)
  ·rcases List.mem_cons.1 e with e | e
   ·exact .inr e
   ·exact .inl ((List.dropWhile_sublist _).mem e)
theorem oH:∀ {l:List Int} {x:Int},l.Pairwise (·<·)→∀ y∈l.dropWhile (fun y=>decide (y<x)),x≤y
 |[],_,_,y,hy=>by cases hy
 |a::r,x,h,y,hy=>by
  cases h with
  |cons h1 h2=>
   by_cases hax:a<x
   ·rw [List.dropWhile_cons,if_pos (by simpa using hax)] at hy;exact oH h2 y hy
   ·rw [List.dropWhile_cons,if_neg (by simpa using hax)] at hy;rcases List.mem_cons.1 hy with e | e
    ·omega
    ·have:=h1 y e;omega
theorem qU:∀ {l:List Int} {x:Int},∀ y∈l.takeWhile (fun y=>decide (y<x)),y<x
 |[],_,y,hy=>by cases hy
 |a::r,x,y,hy=>by
  by_cases hax:a<x
  ·rw [List.takeWhile_cons,if_pos (by simpa using hax)] at hy;rcases List.mem_cons.1 hy with e | e
   ·omega
   ·exact qU y e
  ·rw [List.takeWhile_cons,if_neg (by simpa using hax)] at hy;cases hy
theorem vf {l:List Int} {x:Int} (h:l.Pairwise (·<·)):(ku l x).Pairwise (·<·):=by
 unfold ku;split
 ·exact h
 ·rename_i hx;have hx':x ∉ l:=by simpa using hx
  rw [List.pairwise_append];refine ⟨h.sublist (List.takeWhile_sublist _),List.Pairwise.cons (fun y hy=>?_) (h.sublist (List.dropWhile_sublist _)),fun y hy z hz=>?_⟩
  ·have h1:=oH h y hy;have h2:y≠x:=fun e=>hx' (e ▸ (List.dropWhile_sublist _).mem hy)
   omega
  ·have h1:=qU y hy;rcases List.mem_cons.1 hz with e | e
   ·omega
   ·have:=oH h z e;omega
theorem qM {l:List Int} {n x:Int} (h:fE l n=true) (hx:1≤x∧x≤n):fE (ku l x) n=true:=by
 have h1:=lV h;unfold fE;rw [rq _ (vf (rk _ h1.2)),Bool.and_true,List.all_eq_true];intro y hy
 have h2:1≤y∧y≤n:=by
  rcases uh hy with e | e
  ·exact h1.1 y e
  ·rw [e];exact hx
 simp only [Bool.and_eq_true,decide_eq_true_eq];exact h2
theorem uQ {l:List Int} {n:Int} (h:fE l n=true) (hn:n≤7):l.length≤7:=by
 have h1:=lV h;have h2:=k8 l 0 n h1.2 fun x hx=>⟨by have:=(h1.1 x hx).1;omega,(h1.1 x hx).2⟩
 omega
theorem RfF.voted {s:Rf} (h:RfF s) {x:Int} (hx:1≤x∧x≤s.nodes):RfF { s with votes:=ku s.votes x }:={ h with vs:=qM h.vs hx }
theorem zm {s:Rf} {q:Rd} (h:fQ s q=true) {x rn:Int} (hx:1≤x∧x≤s.nodes):fQ s (if q.rn≤rn then { q with acks:=ku q.acks x } else q)=true:=by
 split
 ·unfold fQ at h ⊢;simp only [Bool.and_eq_true] at h ⊢;exact ⟨h.1,qM h.2 hx⟩
 ·exact h
theorem yx {s:Rf} (h:RfF s) {x rn:Int} (hx:1≤x∧x≤s.nodes):∀ q∈(w_ s x rn).reads,fQ s q=true:=fun q hq=>by
 obtain ⟨y,hy,rfl⟩:=List.mem_map.1 hq;exact zm (h.rd y hy) hx
theorem ub {s:Rf} {x rn:Int}:(w_ s x rn).reads.length=s.reads.length:=List.length_map _
theorem RfF.ack {s:Rf} (h:RfF s) {x rn:Int} (hx:1≤x∧x≤s.nodes):RfF (w_ s x rn):=
 { h with rl:=(by rw [ub];exact h.rl),r0:=h.r0.imp id (fun e=>by rw [ub];exact e),rd:=yx h hx }
theorem RfF.hear {s:Rf} (h:RfF s) {v:Int} (hv:0≤v∧v≤s.nodes):RfF { s with leader:=v,elapsed:=0 }:={ h with le:=hv,el:=⟨Int.le_refl _,z40⟩ }
theorem m_ {B T:Int} {xs:List Ent}:∀ (zs:List Ent) (p t:Int),d_ zs p t=true→B≤p→p≤B+xs.length→fO B T xs zs=[]∨∃ e r,fO B T xs zs=e::r∧B+1≤e.i∧e.i≤B+xs.length+1∧¬ (e.i≤B+xs.length∧er B T xs e.i=e.t)
 |[],_,_,_,_,_=>.inl rfl
 |e::r,p,t,h,h1,h2=>by
  have h3:=fZ h;by_cases hc:e.i≤B+xs.length∧er B T xs e.i=e.t
  ·rw [pJ hc];exact m_ r (p+1) e.t h3.2 (by omega) (by omega)
  ·exact .inr ⟨e,r,jv hc,by omega,by omega,hc⟩
def Av (es es':List Ent) (c:Nat):Prop:=c≤es'.length∧∀ i (h:i<es.length) (h':i<es'.length),i<c→es'[i].t=es[i].t
theorem wg {s:Rf} (h:RfF s) {m:Msg} {es':List Ent} (hr:fv s.b s.t m.ix m.lt s.es m.es=(0,false,es')):es'=s.es.take (pK s.b s.es (fO s.b s.t s.es (fS s.b m.ix m.es)))++fO s.b s.t s.es (fS s.b m.ix m.es)∧cD s.b s.t es'=true∧(fO s.b s.t s.es (fS s.b m.ix m.es)=[]∨∃ e r,fO s.b s.t s.es (fS s.b m.ix m.es)=e::r∧s.b+1≤e.i∧e.i≤bH s+1∧¬ (e.i≤bH s∧er s.b s.t s.es e.i=e.t)):=by
 have hl:=h.last;unfold fv at hr;split at hr
 ·rename_i h1;split at hr
  ·cases hr
  ·rename_i h2;unfold mg2 at hr;split at hr
   ·cases hr
   ·split at hr
    ·rename_i h4;cases hr;refine ⟨rfl,h4,?_⟩;obtain ⟨t,hrun⟩:=ra (B:=s.b) hl.2.1 h1.2.2.2 h1.2.2.1;have hP:s.b≤mgP s.b m.ix∧mgP s.b m.ix≤s.b+s.es.length:=⟨by unfold mgP;split <;> omega,by omega⟩;rw [hl.1];exact m_ _ _ t hrun hP.1 hP.2
    ·cases hr
 ·cases hr
end Go.Proofs.YtkpooenofjdpmaaGreat
namespace Go.Proofs.YtkpooenofjdpmaaGreat
open Go.Proofs.Tryz (prog)
open Go.RowKit
open Go.ChangeShapes Go.WideShapes Go.ChangeAt
theorem sc:prog.underlying 26=some (.slice 3):=by kernel_rfl
theorem jA:kn prog 27=some (54,4,48,(.agg #[.int .i64 0,.int .i64 0,.int .i64 0,.slice none 0 0])):=by kernel_rfl
theorem sa:prog.underlying 27=some (.slice 54):=by kernel_rfl
theorem sf:jn prog 91=some true:=by kernel_rfl
theorem kV:eg prog 91=some 22:=by kernel_rfl
theorem nt:ki prog 91=some (.agg #[.int .i64 0,.int .i64 0,.int .i64 0,.int .i64 0,.int .i64 0,.int .i64 0,.int .i64 0,.int .i64 0,.slice none 0 0,.string ⟨#[]⟩,.int .i64 0,.int .i64 0,.int .i64 0,.int .u64 0,.slice none 0 0,.slice none 0 0,.slice none 0 0,.slice none 0 0,.int .i64 0,.slice none 0 0,.string ⟨#[]⟩,.int .i64 0]):=by kernel_rfl
theorem qK:aR prog 120=true:=by kernel_rfl
theorem gN:aR prog 136=true:=by kernel_rfl
theorem qJ:aR prog 137=true:=by kernel_rfl
theorem pb:∀ (a0:Int) (a1:Int) (a2:Int) (a3:Int) (a4:Int) (a5:Int) (a6:Int) (a7:Int) (a8:Option Addr) (a9 a10:Nat) (a11:ByteArray) (a12:Int) (a13:Int) (a14:Int) (a15:Int) (a16:Option Addr) (a17 a18:Nat) (a19:Option Addr) (a20 a21:Nat) (a22:Option Addr) (a23 a24:Nat) (a25:Option Addr) (a26 a27:Nat) (a28:Int) (a29:Option Addr) (a30 a31:Nat) (a32:ByteArray) (a33:Int),prog.built 91 [(0,.agg #[.int .i64 a0,.int .i64 a1,.int .i64 a2,.int .i64 a3,.int .i64 a4,.int .i64 a5,.int .i64 a6,.int .i64 a7,.slice a8 a9 a10,.string a11,.int .i64 a12,.int .i64 a13,.int .i64 a14,.int .u64 a15,.slice a16 a17 a18,.slice a19 a20 a21,.slice a22 a23 a24,.slice a25 a26 a27,.int .i64 a28,.slice a29 a30 a31,.string a32,.int .i64 a33])]=some #[.int .i64 a0,.int .i64 a1,.int .i64 a2,.int .i64 a3,.int .i64 a4,.int .i64 a5,.int .i64 a6,.int .i64 a7,.slice a8 a9 a10,.string a11,.int .i64 a12,.int .i64 a13,.int .i64 a14,.int .u64 a15,.slice a16 a17 a18,.slice a19 a20 a21,.slice a22 a23 a24,.slice a25 a26 a27,.int .i64 a28,.slice a29 a30 a31,.string a32,.int .i64 a33]:=by intros;kernel_rfl
theorem nu:aR prog 95=true:=by kernel_rfl
theorem sd:aR prog 96=true:=by kernel_rfl
theorem o_:∀ (a0:Int) (a1:Int) (a2:Int) (a3:Int) (a4:Int) (a5:Int) (a6:Int) (a7:Int) (a8:Option Addr) (a9 a10:Nat) (a11:ByteArray) (a12:Int) (a13:Int) (a14:Int) (a15:Int) (a16:Option Addr) (a17 a18:Nat) (a19:Option Addr) (a20 a21:Nat) (a22:Option Addr) (a23 a24:Nat) (a25:Option Addr) (a26 a27:Nat) (a28:Int) (a29:Option Addr) (a30 a31:Nat) (a32:ByteArray) (a33:Int),prog.built 96 [(0,.agg #[.int .i64 a0,.int .i64 a1,.int .i64 a2,.int .i64 a3,.int .i64 a4,.int .i64 a5,.int .i64 a6,.int .i64 a7,.slice a8 a9 a10,.string a11,.int .i64 a12,.int .i64 a13,.int .i64 a14,.int .u64 a15,.slice a16 a17 a18,.slice a19 a20 a21,.slice a22 a23 a24,.slice a25 a26 a27,.int .i64 a28,.slice a29 a30 a31,.string a32,.int .i64 a33])]=some #[.int .i64 a0,.int .i64 a1,.int .i64 a2,.int .i64 a3,.int .i64 a4,.int .i64 a5,.int .i64 a6,.int .i64 a7,.slice a8 a9 a10,.string a11,.int .i64 a12,.int .i64 a13,.int .i64 a14,.int .u64 a15,.slice a16 a17 a18,.slice a19 a20 a21,.slice a22 a23 a24,.slice a25 a26 a27,.int .i64 a28,.slice a29 a30 a31,.string a32,.int .i64 a33,.slice none 0 0]:=by intros;kernel_rfl
theorem eD (A:Option Addr) (c n:Nat) (xs:List Value) (w:World) (hx:xs.length=n*1) (hr:0<n→∃ b o,A=some ⟨b,o,none⟩∧w.rangeAt b o xs) (hn0:A=none→n=0∧c=0) (h1:∀ u∈xs,u.oneCell'=true) (hl:n≤100000000000) :
 Rt prog 136 [.slice A n c] w (fun v w'=>(∃ A' c',v=.slice A' n c'∧w'.ownsRow w.heap.size 3 1 (.slice A' n c') n xs)∧ai w w'):=by
 refine enter (n:=8) Tryz.func136 rfl rfl rfl (ak (ag (ass rfl (aj (af (ak (ak (ag (mvs rfl (ab (nY sc rfl rfl) (aj (af (aU rfl (fun Q1=>?_) (fun Q1=>?_))))))))))))))
 ·(try first | (replace Q1 := dw Q1; trace "@MK N eD:c4+ 1.1") | (replace Q1 := dy Q1; trace "@MK N eD:c4+ 1.2"))
  (try first | (replace Q1 := jB Q1; trace "@MK N eD:c4+ 2.1") | (replace Q1 := jC Q1; trace "@MK N eD:c4+ 2.2") | (replace Q1 := ed Q1; trace "@MK N eD:c4+ 2.3") | (replace Q1 := ee Q1; trace "@MK N eD:c4+ 2.4") | (replace Q1 := dT_ Q1; trace "@MK N eD:c4+ 2.5") | (replace Q1 := dF_ Q1; trace "@MK N eD:c4+ 2.6"))
  obtain rfl:A=none:=Option.isNone_iff_eq_none.1 Q1;obtain ⟨rfl,rfl⟩:=hn0 rfl;obtain rfl:xs=[]:=List.eq_nil_of_length_eq_zero (by omega);refine ak (ag (ass rfl (aj (af (aC (az (bo (v:=.slice _ _ _) rfl rfl (⟨⟨none,0,rfl,World.ownsRow_nil _ _ _ _⟩,ai.rfl_⟩))))))))
 (try first | (replace Q1 := dw Q1; trace "@MK N eD:c4- 1.1") | (replace Q1 := dy Q1; trace "@MK N eD:c4- 1.2"))
 (try first | (replace Q1 := jB Q1; trace "@MK N eD:c4- 2.1") | (replace Q1 := jC Q1; trace "@MK N eD:c4- 2.2") | (replace Q1 := ed Q1; trace "@MK N eD:c4- 2.3") | (replace Q1 := ee Q1; trace "@MK N eD:c4- 2.4") | (replace Q1 := dT_ Q1; trace "@MK N eD:c4- 2.5") | (replace Q1 := dF_ Q1; trace "@MK N eD:c4- 2.6"))
 have hA4:A=none→c=0:=fun h=>by rw [h] at Q1;cases Q1
 refine aM (af (ak (ag (tH ct _ (ai.rfl_.size) ?_))));intro b5 w2 E5 hb5 ho5;refine mvs rfl ?_;refine kY (a0:=w) ct rfl (by decide) rfl ho5 (ai.rfl_.next E5) rfl hx (fun h=>(let ⟨b,o,hA,hc⟩:=hr h;⟨b,o,hA,eB (ai.rfl_.next E5) hc⟩)) hA4 h1 (by omega) (by omega) ?_;intro A7 c7 w3 ho7 B7 hg7;refine ass rfl (aj (af (aC (bo (v:=.slice _ _ _) rfl rfl (⟨⟨A7,c7,by rw [Nat.zero_add],by simpa using ho7⟩,B7⟩)))))
theorem eC (A:Option Addr) (c n:Nat) (xs:List Value) (w:World) (hx:xs.length=n*4) (hr:0<n→∃ b o,A=some ⟨b,o,none⟩∧w.rangeAt b o xs) (hn0:A=none→n=0∧c=0) (h1:∀ u∈xs,u.oneCell'=true) (hl:n≤100000000000) :
 Rt prog 137 [.slice A n c] w (fun v w'=>(∃ A' c',v=.slice A' n c'∧w'.ownsRow w.heap.size 54 4 (.slice A' n c') n xs)∧ai w w'):=by
 refine enter (n:=8) Tryz.func137 rfl rfl rfl (ak (ag (ass rfl (aj (af (ak (ak (ag (mvs rfl (ab (nY sa rfl rfl) (aj (af (aU rfl (fun Q1=>?_) (fun Q1=>?_))))))))))))))
 ·(try first | (replace Q1 := dw Q1; trace "@MK N eC:c4+ 1.1") | (replace Q1 := dy Q1; trace "@MK N eC:c4+ 1.2"))
  (try first | (replace Q1 := jB Q1; trace "@MK N eC:c4+ 2.1") | (replace Q1 := jC Q1; trace "@MK N eC:c4+ 2.2") | (replace Q1 := ed Q1; trace "@MK N eC:c4+ 2.3") | (replace Q1 := ee Q1; trace "@MK N eC:c4+ 2.4") | (replace Q1 := dT_ Q1; trace "@MK N eC:c4+ 2.5") | (replace Q1 := dF_ Q1; trace "@MK N eC:c4+ 2.6"))
  obtain rfl:A=none:=Option.isNone_iff_eq_none.1 Q1;obtain ⟨rfl,rfl⟩:=hn0 rfl;obtain rfl:xs=[]:=List.eq_nil_of_length_eq_zero (by omega);refine ak (ag (ass rfl (aj (af (aC (az (bo (v:=.slice _ _ _) rfl rfl (⟨⟨none,0,rfl,World.ownsRow_nil _ _ _ _⟩,ai.rfl_⟩))))))))
 (try first | (replace Q1 := dw Q1; trace "@MK N eC:c4- 1.1") | (replace Q1 := dy Q1; trace "@MK N eC:c4- 1.2"))
 (try first | (replace Q1 := jB Q1; trace "@MK N eC:c4- 2.1") | (replace Q1 := jC Q1; trace "@MK N eC:c4- 2.2") | (replace Q1 := ed Q1; trace "@MK N eC:c4- 2.3") | (replace Q1 := ee Q1; trace "@MK N eC:c4- 2.4") | (replace Q1 := dT_ Q1; trace "@MK N eC:c4- 2.5") | (replace Q1 := dF_ Q1; trace "@MK N eC:c4- 2.6"))
 have hA4:A=none→c=0:=fun h=>by rw [h] at Q1;cases Q1
 refine aM (af (ak (ag (tH jA _ (ai.rfl_.size) ?_))));intro b5 w2 E5 hb5 ho5;refine mvs rfl ?_;refine kY (a0:=w) jA rfl (by decide) rfl ho5 (ai.rfl_.next E5) rfl hx (fun h=>(let ⟨b,o,hA,hc⟩:=hr h;⟨b,o,hA,eB (ai.rfl_.next E5) hc⟩)) hA4 h1 (by omega) (by omega) ?_;intro A7 c7 w3 ho7 B7 hg7;refine ass rfl (aj (af (aC (bo (v:=.slice _ _ _) rfl rfl (⟨⟨A7,c7,by rw [Nat.zero_add],by simpa using ho7⟩,B7⟩)))))
theorem jT (A:Option Addr) (c:Nat) (l:List Int) (w:World) (h:IR w A c l) (hl:l.length≤1000000):Rt prog 136 [.slice A l.length c] w fun v w'=>(∃ A' c',v=.slice A' l.length c'∧w'.ownsRow w.heap.size 3 1 (.slice A' l.length c') l.length (l.map iV))∧ai w w':=
 eD A c l.length (l.map iV) w (by simp) (fun h0=>by
  obtain ⟨b,o,hA,hc⟩:=h.1 h0;refine ⟨b,o,hA,fun j v hv=>?_⟩;rw [List.getElem?_map] at hv;cases hj:l[j]? with
  |none=>rw [hj] at hv;cases hv
  |some x=>
   obtain ⟨hjl,rfl⟩:=List.getElem?_eq_some_iff.1 hj;rw [hj] at hv;cases hv;exact hc j hjl) h.2.2.2 (fun u hu=>by obtain ⟨x,_,rfl⟩:=List.mem_map.1 hu;rfl) (by omega)
theorem u0 (A:Option Addr) (c:Nat) (L:List (Rd×Option Addr×Nat)) (w:World) (h:im 4 rdV w A L) (hn:A=none→L.length=0∧c=0) (hl:L.length≤1000000):Rt prog 137 [.slice A L.length c] w fun v w'=>(∃ A' c',v=.slice A' L.length c'∧w'.ownsRow w.heap.size 54 4 (.slice A' L.length c') L.length (L.flatMap rdV))∧ai w w':=
 eC A c L.length (L.flatMap rdV) w (l_ ju L) (fun h0=>im.flat ju h h0) hn (xP L) (by omega)
def mH (N O:List (Rd×Option Addr×Nat)):List (Rd×Option Addr×Nat):=N++O.drop N.length
def zS (s:Rf):Rf:={ s with es:=[],votes:=[],next:=[],mtch:=[],sent:=[],reads:=[] }
theorem iX {w w':World} {tag:Nat→Nat} {g d base e s n cc:Nat} {A:Option Addr} {xs:List Value} (hC:Chg (fun k=>k=g) w w') (hg:tag g=8) (hd:d≠8) (h:w.ownsRow base e s (.slice A n cc) n xs∧Col tag d A):w'.ownsRow base e s (.slice A n cc) n xs∧Col tag d A:=
 ⟨eH h.1 hC (fun k hk e=>hd ((h.2 k hk).symm.trans (by rw [show k=g from e];exact hg))),h.2⟩
theorem cZ.chg8 {w w':World} {y g:Nat} {tag:Nat→Nat} {s:Rf} {a:Ra} (h:cZ y w tag s a) (hC:Chg (fun k=>k=g) w w') (hg:tag g=8):cZ y w' tag s a:=
 ⟨fun hx=>iX hC hg (by decide) (h.e hx),fun hx=>iX hC hg (by decide) (h.v hx),fun hx=>iX hC hg (by decide) (h.x hx),fun hx=>iX hC hg (by decide) (h.m hx),fun hx=>iX hC hg (by decide) (h.n hx),h.r,fun hx=>iX hC hg (by decide) (h.q hx),fun i hi hx=>iX hC hg (by omega) (h.k i hi hx)⟩
theorem pS:∀ (N O:List (Rd×Option Addr×Nat)) (x:Rd×Option Addr×Nat) (A:Option Addr) (c:Nat),((N++x::O).flatMap rdV).set (N.length*4+3) (.slice A x.1.acks.length c)=((N++(x.1,A,c)::O).flatMap rdV)
 |[],O,x,A,c=>rfl
 |y::N,O,x,A,c=>by
  have ih:=pS N O x A c;show (rdV y++(N++x::O).flatMap rdV).set ((N.length+1)*4+3) _=rdV y++(N++(x.1,A,c)::O).flatMap rdV;rw [List.set_append_right _ _ (by rw [ju];omega),ju,show (N.length+1)*4+3-4=N.length*4+3 by omega,ih]
theorem xW {N O:List (Rd×Option Addr×Nat)} (h:N.length<O.length):mH N O=N++O[N.length]::O.drop (N.length+1):=by
 unfold mH;rw [List.drop_eq_getElem_cons h]
theorem vZ {N O:List (Rd×Option Addr×Nat)} (h:N.length<O.length) (A:Option Addr) (c:Nat):((mH N O).flatMap rdV).set (N.length*4+3) (.slice A O[N.length].1.acks.length c)=(mH (N++[(O[N.length].1,A,c)]) O).flatMap rdV:=by
 rw [xW h,pS];unfold mH;rw [List.length_append,List.length_singleton,List.append_assoc];rfl
theorem v_ {N O:List (Rd×Option Addr×Nat)} (h:N.length=O.length):mH N O=N:=by unfold mH;rw [h,List.drop_length,List.append_nil]
theorem ov {N O:List (Rd×Option Addr×Nat)} (h:N.length≤O.length):(mH N O).length=O.length:=by unfold mH;rw [List.length_append,List.length_drop];omega
theorem uZ (s:Rf) (a:Ra) (w:World) (hrd:eX w s a) (hl:s.votes.length≤1000000∧s.next.length≤1000000∧s.mtch.length≤1000000∧s.sent.length≤1000000∧s.reads.length≤1000000∧∀ q∈s.reads,q.acks.length≤1000000) (hel:s.es.length≤1000000) :
 Rt prog 96 [.agg (rfV s a).toArray] w (fun v w'=>(∃ tag a',v=.agg (rfV s a').toArray∧bw w' tag s a'∧∀ k,k<w.heap.size→tag k=8)∧ai w w'):=by
 obtain ⟨E,Ec,V,Vc,X,Xc,M,Mc,Sn,Sc,Q,Qc,LL⟩:=a;obtain ⟨hl1,hl2,hl3,hl4,hl5,hl6⟩:=hl;have hrL:LL.map (fun q=>q.1)=s.reads:=hrd.r;have hrk:∀ q∈LL,IR w q.2.1 q.2.2 q.1.acks:=hrd.k;have hrq:im 4 rdV w Q LL:=hrd.q;have hqn:Q=none→LL.length=0∧Qc=0:=hrd.qc.2.2;have hLl:LL.length=s.reads.length:=by rw [←hrL,List.length_map]
 have hqm:LL.length≤1000000:=by omega
 refine enter (n:=51) Tryz.func96 rfl rfl rfl (ak (ag (bZ (v:=.agg _) rfl ?_)));intro b1 w1 E1 hb1 hk1;refine cf nt ?_;intro b2 w2 E2 hb2 hk2;have hg1:w.heap.size≤b1:=Nat.le_of_eq hb1.symm;have h12:b1<b2:=by have:=hk1.lt;omega
 have hg2:w.heap.size≤b2:=by omega
 have hk2z:Blk w2 b2 91 ((.agg #[.int .i64 0,.int .i64 0,.int .i64 0,.int .i64 0,.int .i64 0,.int .i64 0,.int .i64 0,.int .i64 0,.slice none 0 0,.string ⟨#[]⟩,.int .i64 0,.int .i64 0,.int .i64 0,.int .u64 0,.slice none 0 0,.slice none 0 0,.slice none 0 0,.slice none 0 0,.int .i64 0,.slice none 0 0,.string ⟨#[]⟩,.int .i64 0]):Value).cells:=hk2;have ht0:∀ k,k≤b2→(fun _:Nat=>8) k=8:=fun _ _=>rfl
 refine aj (af (ak (ag (ab (aa bq rfl) (ab (aa ec rfl) (ab (aq cY rfl (by exact (show _=some (Value.slice E s.es.length Ec) from (hk1.from_ (ai.rfl_.next E2)).rd 8 rfl))) ?_))))));have hN7:ai _ w2:=(ai.rfl_.next E2);have hk2c:=hk2z.from_ (ai.rfl_ (a:=w2));have hlt7:=hk2c.lt;have hf0:bw w2 (fun _=>8) ({ s with es:=[],votes:=[],next:=[],mtch:=[],sent:=[],reads:=[] }:Rf) a0:=bw.same bw.zero rfl rfl rfl rfl rfl rfl;refine aB qK (wP E s.es.length Ec s.es _ (hrd.e.from_ ((ai.rfl_.next E1).next E2)) (by omega)) ?_;rintro v7 w3 ⟨A7,c7,rfl,ho7,E7⟩;obtain ⟨tag1,hf1,ht1⟩:∃ t,bw w3 t ({ s with es:=s.es,votes:=[],next:=[],mtch:=[],sent:=[],reads:=[] }:Rf) (⟨A7,c7,none,0,none,0,none,0,none,0,none,0,[]⟩:Ra)∧(∀ k,k≤b2→t k=8):=⟨_,cZ.log (bw.but (c:=0) hf0 (ai.toChg E7)) s.b s.t rfl (eU ho7 (Nat.zero_le _)) (fun k hk=>dY (fe ho7 k hk).1),fun k hk=>(da (by omega)).trans (ht0 k hk)⟩;refine ab (aa bq rfl) (ab (aa ec rfl) ?_);have hS1:ai _ w3:=ai.rfl_;refine cW (s':=s) (a':=(⟨A7,c7,V,Vc,X,Xc,M,Mc,Sn,Sc,Q,Qc,LL⟩:Ra)) (v:=.slice _ _ _) lk rfl rfl rfl ((hk1.from_ ((hN7.next E7).next ai.rfl_))) (by exact ⟨by decide,rfl⟩) ?_;intro w4 O1_0 P1_0;replace hf1:=(hf1.from_ hS1).chg8 (O1_0.toChg rfl) (ht1 b1 (by omega));replace hk2z:=(hk2c.from_ (E7.next hS1)).only O1_0 (by omega);refine aj (af (ak (ag (ab (aa di rfl) (ab (aq bn rfl (by exact (show _=some (Value.slice V s.votes.length Vc) from (P1_0.from_ ai.rfl_).rd 14 rfl))) ?_)))));have hN12:ai _ w4:=ai.rfl_;have hk2c:=hk2z.from_ ai.rfl_;have hlt12:=hk2c.lt;have hf1n:=hf1.from_ ai.rfl_;refine aB gN (jT V Vc s.votes _ (IR.from_ hrd.v ((((ai.rfl_.next E1).next E2).next E7).only O1_0 (hg1))) hl1) ?_;rintro v12 w5 ⟨⟨A12,c12,rfl,ho12⟩,E12⟩;obtain ⟨tag2,hf2,ht2⟩:∃ t,bw w5 t ({ s with es:=s.es,votes:=s.votes,next:=[],mtch:=[],sent:=[],reads:=[] }:Rf) (⟨A7,c7,A12,c12,none,0,none,0,none,0,none,0,[]⟩:Ra)∧(∀ k,k≤b2→t k=8):=⟨_,cZ.votes (bw.but (c:=1) hf1n (ai.toChg E12)) rfl (eU ho12 (Nat.zero_le _)) (fun k hk=>dY (fe ho12 k hk).1),fun k hk=>(da (by omega)).trans (ht1 k hk)⟩;refine ab (aa di rfl) ?_;have hS2:ai _ w5:=ai.rfl_;refine cW (s':=s) (a':=(⟨A7,c7,A12,c12,X,Xc,M,Mc,Sn,Sc,Q,Qc,LL⟩:Ra)) (v:=.slice _ _ _) df rfl rfl rfl ((P1_0.from_ ((hN12.next E12).next ai.rfl_))) (by exact ⟨by decide,rfl⟩) ?_;intro w6 O2_0 P2_0;replace hf2:=(hf2.from_ hS2).chg8 (O2_0.toChg rfl) (ht2 b1 (by omega));replace hk2z:=(hk2c.from_ (E12.next hS2)).only O2_0 (by omega);refine aj (af (ak (ag (ab (aa cL rfl) (ab (aq bn rfl (by exact (show _=some (Value.slice X s.next.length Xc) from (P2_0.from_ ai.rfl_).rd 15 rfl))) ?_)))));have hN16:ai _ w6:=ai.rfl_;have hk2c:=hk2z.from_ ai.rfl_;have hlt16:=hk2c.lt;have hf2n:=hf2.from_ ai.rfl_;refine aB gN (jT X Xc s.next _ (IR.from_ hrd.x ((((((ai.rfl_.next E1).next E2).next E7).only O1_0 (hg1)).next E12).only O2_0 (hg1))) hl2) ?_;rintro v16 w7 ⟨⟨A16,c16,rfl,ho16⟩,E16⟩;obtain ⟨tag3,hf3,ht3⟩:∃ t,bw w7 t ({ s with es:=s.es,votes:=s.votes,next:=s.next,mtch:=[],sent:=[],reads:=[] }:Rf) (⟨A7,c7,A12,c12,A16,c16,none,0,none,0,none,0,[]⟩:Ra)∧(∀ k,k≤b2→t k=8):=⟨_,cZ.next (bw.but (c:=2) hf2n (ai.toChg E16)) rfl (eU ho16 (Nat.zero_le _)) (fun k hk=>dY (fe ho16 k hk).1),fun k hk=>(da (by omega)).trans (ht2 k hk)⟩;refine ab (aa cL rfl) ?_;have hS3:ai _ w7:=ai.rfl_;refine cW (s':=s) (a':=(⟨A7,c7,A12,c12,A16,c16,M,Mc,Sn,Sc,Q,Qc,LL⟩:Ra)) (v:=.slice _ _ _) df rfl rfl rfl ((P2_0.from_ ((hN16.next E16).next ai.rfl_))) (by exact ⟨by decide,rfl⟩) ?_;intro w8 O3_0 P3_0;replace hf3:=(hf3.from_ hS3).chg8 (O3_0.toChg rfl) (ht3 b1 (by omega));replace hk2z:=(hk2c.from_ (E16.next hS3)).only O3_0 (by omega);refine aj (af (ak (ag (ab (aa cO rfl) (ab (aq bn rfl (by exact (show _=some (Value.slice M s.mtch.length Mc) from (P3_0.from_ ai.rfl_).rd 16 rfl))) ?_)))));have hN20:ai _ w8:=ai.rfl_;have hk2c:=hk2z.from_ ai.rfl_;have hlt20:=hk2c.lt;have hf3n:=hf3.from_ ai.rfl_;refine aB gN (jT M Mc s.mtch _ (IR.from_ hrd.m ((((((((ai.rfl_.next E1).next E2).next E7).only O1_0 (hg1)).next E12).only O2_0 (hg1)).next E16).only O3_0 (hg1))) hl3) ?_;rintro v20 w9 ⟨⟨A20,c20,rfl,ho20⟩,E20⟩;obtain ⟨tag4,hf4,ht4⟩:∃ t,bw w9 t ({ s with es:=s.es,votes:=s.votes,next:=s.next,mtch:=s.mtch,sent:=[],reads:=[] }:Rf) (⟨A7,c7,A12,c12,A16,c16,A20,c20,none,0,none,0,[]⟩:Ra)∧(∀ k,k≤b2→t k=8):=⟨_,cZ.mtch (bw.but (c:=3) hf3n (ai.toChg E20)) rfl (eU ho20 (Nat.zero_le _)) (fun k hk=>dY (fe ho20 k hk).1),fun k hk=>(da (by omega)).trans (ht3 k hk)⟩;refine ab (aa cO rfl) ?_;have hS4:ai _ w9:=ai.rfl_;refine cW (s':=s) (a':=(⟨A7,c7,A12,c12,A16,c16,A20,c20,Sn,Sc,Q,Qc,LL⟩:Ra)) (v:=.slice _ _ _) df rfl rfl rfl ((P3_0.from_ ((hN20.next E20).next ai.rfl_))) (by exact ⟨by decide,rfl⟩) ?_;intro w10 O4_0 P4_0;replace hf4:=(hf4.from_ hS4).chg8 (O4_0.toChg rfl) (ht4 b1 (by omega));replace hk2z:=(hk2c.from_ (E20.next hS4)).only O4_0 (by omega);refine aj (af (ak (ag (ab (aa cT rfl) (ab (aq bn rfl (by exact (show _=some (Value.slice Sn s.sent.length Sc) from (P4_0.from_ ai.rfl_).rd 17 rfl))) ?_)))));have hN24:ai _ w10:=ai.rfl_;have hk2c:=hk2z.from_ ai.rfl_;have hlt24:=hk2c.lt;have hf4n:=hf4.from_ ai.rfl_;refine aB gN (jT Sn Sc s.sent _ (IR.from_ hrd.n ((((((((((ai.rfl_.next E1).next E2).next E7).only O1_0 (hg1)).next E12).only O2_0 (hg1)).next E16).only O3_0 (hg1)).next E20).only O4_0 (hg1))) hl4) ?_;rintro v24 w11 ⟨⟨A24,c24,rfl,ho24⟩,E24⟩;obtain ⟨tag5,hf5,ht5⟩:∃ t,bw w11 t ({ s with es:=s.es,votes:=s.votes,next:=s.next,mtch:=s.mtch,sent:=s.sent,reads:=[] }:Rf) (⟨A7,c7,A12,c12,A16,c16,A20,c20,A24,c24,none,0,[]⟩:Ra)∧(∀ k,k≤b2→t k=8):=⟨_,cZ.sent (bw.but (c:=4) hf4n (ai.toChg E24)) rfl (eU ho24 (Nat.zero_le _)) (fun k hk=>dY (fe ho24 k hk).1),fun k hk=>(da (by omega)).trans (ht4 k hk)⟩;refine ab (aa cT rfl) ?_;have hS5:ai _ w11:=ai.rfl_;refine cW (s':=s) (a':=(⟨A7,c7,A12,c12,A16,c16,A20,c20,A24,c24,Q,Qc,LL⟩:Ra)) (v:=.slice _ _ _) df rfl rfl rfl ((P4_0.from_ ((hN24.next E24).next ai.rfl_))) (by exact ⟨by decide,rfl⟩) ?_;intro w12 O5_0 P5_0;replace hf5:=(hf5.from_ hS5).chg8 (O5_0.toChg rfl) (ht5 b1 (by omega));replace hk2z:=(hk2c.from_ (E24.next hS5)).only O5_0 (by omega);refine aj (af (ak (ag (ab (aa bL rfl) (ab (aq dc rfl (by exact (show _=some (Value.slice Q LL.length Qc) from (P5_0.from_ ai.rfl_).rd 19 rfl))) ?_)))));have hN28:ai _ w12:=ai.rfl_;have hk2c:=hk2z.from_ ai.rfl_;have hlt28:=hk2c.lt;have hf5n:=hf5.from_ ai.rfl_;refine aB qJ (u0 Q Qc LL _ (hrq.from_ ((((((((((((ai.rfl_.next E1).next E2).next E7).only O1_0 (hg1)).next E12).only O2_0 (hg1)).next E16).only O3_0 (hg1)).next E20).only O4_0 (hg1)).next E24).only O5_0 (hg1))) hqn hqm) ?_;rintro v28 w13 ⟨⟨A28,c28,rfl,ho28⟩,E28⟩;obtain ⟨tag6,hg6,ht6,hc6⟩:∃ t,cZ 5 w13 t ({ s with es:=s.es,votes:=s.votes,next:=s.next,mtch:=s.mtch,sent:=s.sent,reads:=[] }:Rf) (⟨A7,c7,A12,c12,A16,c16,A20,c20,A24,c24,none,0,[]⟩:Ra)∧(∀ k,k≤b2→t k=8)∧Col t 5 A28:=⟨_,bw.but (c:=5) hf5n (ai.toChg E28),fun k hk=>(da (by omega)).trans (ht5 k hk),fun k hk=>dY (fe ho28 k hk).1⟩;refine ab (aa bL rfl) ?_;have hS6:ai _ w13:=ai.rfl_;refine cW (s':=s) (a':=(⟨A7,c7,A12,c12,A16,c16,A20,c20,A24,c24,A28,c28,LL⟩:Ra)) (v:=.slice _ _ _) jg rfl rfl rfl ((P5_0.from_ ((hN28.next E28).next ai.rfl_))) (by exact ⟨by decide,rfl⟩) ?_;intro w14 O6_0 P6_0;replace hg6:=(hg6.from_ hS6).chg8 (O6_0.toChg rfl) (ht6 b1 (by omega));have hr6:=gC (eU (base':=0) (ho28.kept_from hS6) (Nat.zero_le _)) O6_0 (fun k hk e=>by have:=hc6 k hk;rw [e,ht6 b1 (by omega)] at this;cases this);replace hk2z:=(hk2c.from_ (E28.next hS6)).only O6_0 (by omega);refine aj (af (ak (ak (ag (ab (aa bL rfl) (ab (aq dc rfl (by exact (show _=some (Value.slice A28 LL.length c28) from (P6_0.from_ ai.rfl_).rd 19 rfl))) ?_))))));refine ab (bW dR rfl) (mvi rfl (aj (af (bg (dd (G:=List (Rd×Option Addr×Nat)×(Nat→Nat)) [3,34,35,36,37,38,39,40,41,42,43,44,45,46,47,48] (fun (N,tg)=>[(33,.int .i64 (N.length:Nat))]) (fun (N,tg) w'=>N.length≤LL.length∧(∀ i (h:i<N.length) (h2:i<LL.length),N[i].1=LL[i].1)∧cZ 5 w' tg ({ s with es:=s.es,votes:=s.votes,next:=s.next,mtch:=s.mtch,sent:=s.sent,reads:=[] }:Rf) (⟨A7,c7,A12,c12,A16,c16,A20,c20,A24,c24,none,0,N⟩:Ra)∧(∀ k,k≤b2→tg k=8)∧Col tg 5 A28∧w'.ownsRow 0 54 4 (.slice A28 LL.length c28) LL.length ((mH N LL).flatMap rdV)∧Blk w' b1 29 (rfV s (⟨A7,c7,A12,c12,A16,c16,A20,c20,A24,c24,A28,c28,LL⟩:Ra)).toArray∧Blk w' b2 91 ((.agg #[.int .i64 0,.int .i64 0,.int .i64 0,.int .i64 0,.int .i64 0,.int .i64 0,.int .i64 0,.int .i64 0,.slice none 0 0,.string ⟨#[]⟩,.int .i64 0,.int .i64 0,.int .i64 0,.int .u64 0,.slice none 0 0,.slice none 0 0,.slice none 0 0,.slice none 0 0,.int .i64 0,.slice none 0 0,.string ⟨#[]⟩,.int .i64 0]):Value).cells∧ai w w') (fun (N,_)=>LL.length-N.length) (([],tag6)) ⟨rfl,trivial⟩ ?_ ?_)))))
 ·exact ⟨Nat.zero_le _,fun i h=>absurd h (Nat.not_lt_zero _),hg6.from_ ai.rfl_,ht6,hc6,hr6.kept_from ai.rfl_,P6_0.from_ ai.rfl_,hk2z.from_ ai.rfl_,((((((((((((((ai.rfl_.next E1).next E2).next E7).only O1_0 (hg1)).next E12).only O2_0 (hg1)).next E16).only O3_0 (hg1)).next E20).only O4_0 (hg1)).next E24).only O5_0 (hg1)).next E28).only O6_0 (hg1))⟩
 rintro ⟨N,tg⟩ ρ15 w15 ⟨hNl,hNe,hgN,htN,hcN,hrN,hbN,hk2N,hBN⟩;refine ak (ag (ab (b_ rfl rfl) (aj (af (ak (Ab rfl (fun Q16=>?_) (fun Q16=>?_)))))))
 ·have hNL:N.length<LL.length:=by omega
  have hqk:LL[N.length].1∈s.reads:=by rw [←hrL];exact List.mem_map_of_mem (List.getElem_mem hNL)
  obtain ⟨g28,rfl⟩:=fK hrN (by omega);obtain ⟨z9,hz9⟩:∃ z,z=(w15).heap.size:=⟨_,rfl⟩
  have hc44:(w15).cell? ⟨g28,0+N.length*4+3,none⟩=some (.slice LL[N.length].2.1 LL[N.length].1.acks.length LL[N.length].2.2):=by
   obtain ⟨b9,o9,he9,hcs⟩:=(im.own ju (by decide) hrN).2 (by rw [ov hNl];omega);cases he9;have h9:=hcs N.length (by rw [ov hNl];omega)
   have hm9:(mH N LL)[N.length]'(by rw [ov hNl];omega)=LL[N.length]:=by
    unfold mH;rw [List.getElem_append_right (Nat.le_refl _)];simp
   rw [hm9] at h9;exact h9 3 _ rfl
  have htg28:tg g28=5:=hcN g28 rfl
  have hg28:b2<g28:=by
   rcases Nat.lt_or_ge b2 g28 with e | e
   ·exact e
   ·have:=htN g28 e;omega
  refine aM (af (ak (bg (ak (ag (mvi rfl (asi rfl (aj (af ?_)))))))));apply bK 12 [(36,eqp _),(37,eqp (.slice (some ⟨g28,0,none⟩) LL.length c28)),(38,eqp _),(39,eqp _),(40,eqp (.slice (some ⟨g28,0,none⟩) LL.length c28)),(41,eqp _),(42,eqp _),(43,eqp _),(44,eqp (.slice LL[N.length].2.1 LL[N.length].1.acks.length LL[N.length].2.2)),(45,fun v w'=>∃ A' c',v=.slice A' LL[N.length].1.acks.length c'∧w'.ownsRow z9 3 1 (.slice A' LL[N.length].1.acks.length c') LL[N.length].1.acks.length (LL[N.length].1.acks.map iV)),(46,eqp _),(47,eqp _)] (by repeat first | exact cj | refine ch ?_ | refine bQ ?_) (by kernel_rfl) (by kernel_rfl) ⟨ah _,ah _,ah _,ah _,ah _,ah _,ah _,ah _,ah _,(fun _ _ _ hF ⟨a,b,h1,h2⟩=>⟨a,b,h1,h2.kept_from hF⟩),ah _,ah _,trivial⟩
  case hop=>
   constructor
   ·rintro-w18 D18;exact ar (aa bL rfl) rfl
   constructor
   ·rintro-w19 D19;rintro _ rfl;exact ar (aq dc rfl (by exact (show _=some (Value.slice (some ⟨g28,0,none⟩) LL.length c28) from (hbN.from_ (ai.rfl_.next D19)).rd 19 rfl))) rfl
   constructor
   ·rintro-w20 D20;exact ar (aH (v:=.int _ _) rfl) rfl
   constructor
   ·rintro-w21 D21;exact ar (aa bL rfl) rfl
   constructor
   ·rintro-w22 D22;rintro _ rfl;exact ar (aq dc rfl (by exact (show _=some (Value.slice (some ⟨g28,0,none⟩) LL.length c28) from (hbN.from_ (ai.rfl_.next D22)).rd 19 rfl))) rfl
   constructor
   ·rintro-w23 D23;exact ar (aH (v:=.int _ _) rfl) rfl
   constructor
   ·rintro-w24 D24;rintro v24_40 rfl _ rfl;exact ar (cn fx rfl rfl (by omega)) rfl
   constructor
   ·rintro-w25 D25;rintro _ rfl;exact ar (aa ep rfl) rfl
   constructor
   ·rintro-w26 D26;rintro _ rfl;exact ar (aq bn rfl (by exact fq (ai.rfl_.next D26) hc44)) rfl
   constructor
   ·rintro-w27 D27;rintro v27_44 rfl;refine gd gN ((jT LL[N.length].2.1 LL[N.length].2.2 LL[N.length].1.acks _ ((hrk _ (List.getElem_mem hNL)).from_ (hBN.next D27)) (hl6 _ hqk)).mono ?_);rintro v w9 ⟨⟨a,b,rfl,ho⟩,hF9⟩;exact ⟨hF9,a,b,rfl,eU ho (by rw [hz9];exact ((ai.rfl_.next D27)).size)⟩
   constructor
   ·rintro-w28 D28;rintro v28_37 rfl _ rfl;exact ar (cn fx rfl rfl (by omega)) rfl
   constructor
   ·rintro-w29 D29;rintro _ rfl;exact ar (aa ep rfl) rfl
   exact trivial
  case hend=>
   intro w30 D30;rintro _ rfl v37 rfl _ rfl _ rfl v40 rfl _ rfl _ rfl _ rfl v44 rfl v45 ⟨A45,c45,rfl,ho45⟩ _ rfl _ rfl;show St ..;have hM10:ai _ w30:=(ai.rfl_.next D30);refine sw (o:=N.length*4+3) df (by show Value.pointer (some ⟨g28,0+N.length*4+3,none⟩)=_;rw [Nat.zero_add]) rfl rfl (hrN.kept_from (ai.rfl_.next D30)) (by omega) ?_;intro w31 O10 P10;have hlt9:=hrN.lt g28 rfl;obtain ⟨tg2,hg2n,ht2n,hc2n⟩:∃ t,cZ 5 w31 t ({ s with es:=s.es,votes:=s.votes,next:=s.next,mtch:=s.mtch,sent:=s.sent,reads:=[] }:Rf) (⟨A7,c7,A12,c12,A16,c16,A20,c20,A24,c24,none,0,(N++[(LL[N.length].1,A45,c45)])⟩:Ra)∧(∀ k,k≤b2→t k=8)∧Col t 5 (some ⟨g28,0,none⟩):=⟨_,cZ.five (cZ.ack (q:=LL[N.length].1) (A:=A45) (c:=c45) hgN hM10 (by rw [←hz9];exact ho45)) O10 ((da hlt9.2).trans htg28),fun k hk=>(da (by omega)).trans (htN k hk),fun k hk=>by cases hk;exact (da hlt9.2).trans htg28⟩
   have hr2n:(w31).ownsRow 0 54 4 (.slice (some ⟨g28,0,none⟩) LL.length c28) LL.length ((mH (N++[(LL[N.length].1,A45,c45)]) LL).flatMap rdV):=by
    rw [←vZ hNL];exact P10
   have hb2n:=(hbN.from_ hM10).only O10 (by omega);have hk2n:=(hk2N.from_ hM10).only O10 (by omega);refine aj (bE (af (ag (ab (cq rfl rfl (by omega)) (mvi rfl (aj ?_))))));refine cu (((N++[(LL[N.length].1,A45,c45)]),tg2)) ⟨bT (by rw [List.length_append,List.length_singleton];omega),trivial⟩ (by (iterate 34 refine bI rfl ?_);exact bU) ⟨?_,?_⟩
   ·refine ⟨by rw [List.length_append,List.length_singleton];omega,fun i h h2=>?_,hg2n.from_ ai.rfl_,ht2n,hc2n,hr2n.kept_from ai.rfl_,hb2n.from_ ai.rfl_,hk2n.from_ ai.rfl_,((hBN.next D30).only O10 (by omega))⟩;rcases Nat.lt_or_ge i N.length with e | e
    ·rw [List.getElem_append_left e];exact hNe i e h2
    ·obtain rfl:i=N.length:=by rw [List.length_append,List.length_singleton] at h;omega
     simp only [List.getElem_append_right (Nat.le_refl _),Nat.sub_self,List.getElem_singleton]
   ·show LL.length-(N++[_]).length<LL.length-N.length;rw [List.length_append,List.length_singleton];omega
 refine cI (bD (bD (cr (af (ak (ag (ab (aG (cs:=rfV s (⟨A7,c7,A12,c12,A16,c16,A20,c20,A24,c24,A28,c28,LL⟩:Ra)) aQ aK rfl ((hbN.from_ ai.rfl_).whole)) (ab (cp (l:=[(0,.tmp 49)]) (pb _ _ _ _ _ _ _ _ _ _ _ _ _ _ _ _ _ _ _ _ _ _ _ _ _ _ _ _ _ _ _ _ _ _)) ?_))))))));have hM12:ai _ w15:=ai.rfl_;refine b0 (vs:=[_,_,_,_,_,_,_,_,_,_,_,_,_,_,_,_,_,_,_,_,_,_]) kV rfl rfl (by simp [Value.oneCell']) ((hk2N.from_ ai.rfl_)) rfl ?_;intro w32 O12 P12;refine aj (af (aC (iU rfl (cX (cs:=[_,_,_,_,_,_,_,_,_,_,_,_,_,_,_,_,_,_,_,_,_,_]) sf kV rfl (by exact P12.whole)) ?_)));have hNf:N.length=LL.length:=by omega
 have e9:N.map (fun q=>q.1)=s.reads:=by
  rw [←hrL];refine List.ext_getElem (by simp [hNf]) fun i h1 h2=>?_
  simp only [List.getElem_map];exact hNe i (by simpa using h1) (by simpa using h2)
 have hfin:=cZ.reads hgN (A:=A28) (c:=c28) (n:=LL.length) hNf.symm (by rw [v_ hNf] at hrN;exact hrN) hcN;rw [show ((⟨A7,c7,A12,c12,A16,c16,A20,c20,A24,c24,none,0,N⟩:Ra)).L=N from rfl,e9] at hfin;exact ⟨⟨tg,(⟨A7,c7,A12,c12,A16,c16,A20,c20,A24,c24,A28,c28,N⟩:Ra),(by show Value.agg (rfV s (⟨A7,c7,A12,c12,A16,c16,A20,c20,A24,c24,A28,c28,LL⟩:Ra)).toArray=Value.agg (rfV s (⟨A7,c7,A12,c12,A16,c16,A20,c20,A24,c24,A28,c28,N⟩:Ra)).toArray;unfold rfV;simp only [hNf]),cZ.chg8 (cZ.from_ hfin hM12) (O12.toChg rfl) (htN b2 (Nat.le_refl _)),fun k hk=>htN k (by omega)⟩,(hBN.only O12 (hg2))⟩
theorem qW {w w1 w':World} {g T:Nat} {tag:Nat→Nat} {s:Rf} {a:Ra} (hF:ai w w1) (hf:bw w1 tag s a) (ht:∀ k,k<w.heap.size→tag k=8) (hE:ai w1 w') (hg:g=w1.heap.size) (hb:Blk w' g T (rfV s a++[Value.slice none 0 0]).toArray):a_ w (fun k=>k<w.heap.size) w' T g ⟨s,[]⟩:=by
 subst hg;have hz:=hF.size;refine ⟨⟨fI w1.heap.size 7 tag,a,none,0,[],⟨hb,(hf.re 7).from_ hE,⟨World.ownsRow_nil _ _ _ _,rfl,fun j hj=>absurd hj (Nat.not_lt_zero _),Col.none⟩,dY (Nat.le_refl _),fun k hk=>(da (Nat.lt_of_lt_of_le hk hz)).trans (ht k hk)⟩⟩,fun k hk=>hk,(hF.next hE).toChg⟩
theorem wU (s:Rf) (a:Ra) (w:World) (hrd:eX w s a) (hl:s.votes.length≤1000000∧s.next.length≤1000000∧s.mtch.length≤1000000∧s.sent.length≤1000000∧s.reads.length≤1000000∧∀ q∈s.reads,q.acks.length≤1000000) (_:s.es.length≤1000000) (hm:ik s=false) :
 Rt prog 55 [.agg (rfV s a).toArray] w (fun v w'=>v=.tuple #[.pointer none,.int .i64 1]∧ai w w'):=by
 refine enter (n:=11) Tryz.func55 rfl rfl rfl (ak (ag (bZ (v:=.agg _) rfl ?_)));intro b1 w1 E1 hb1 hk1;refine asp rfl (asi rfl (aj (af (ak (ak (ag (ab (aG (cs:=rfV s a) aQ aK rfl ((hk1.from_ ai.rfl_).whole)) (aB nu (rO s a _ (hrd.from_ (ai.rfl_.next E1)) hl) ?_))))))));rintro v5 w2 ⟨rfl,E5⟩;refine ab (cQ (dG rfl rfl) (by rw [hm];rfl)) ?_;refine aj (af (aL rfl (ak (ag (asp rfl (asi rfl (aj (af (aC (az (mz (v:=.pointer _) (v':=.int _ _) rfl rfl rfl (⟨rfl,((ai.rfl_.next E1).next E5)⟩))))))))))))
theorem oL (s:Rf) (a:Ra) (w:World) (hrd:eX w s a) (hl:s.votes.length≤1000000∧s.next.length≤1000000∧s.mtch.length≤1000000∧s.sent.length≤1000000∧s.reads.length≤1000000∧∀ q∈s.reads,q.acks.length≤1000000) (hel:s.es.length≤1000000) (hm:ik s=true) :
 Rt prog 55 [.agg (rfV s a).toArray] w (fun v w'=>(∃ g,v=.tuple #[.pointer (some ⟨g,0,none⟩),.int .i64 0]∧a_ w (fun k=>k<w.heap.size) w' 96 g ⟨s,[]⟩)):=by
 refine enter (n:=11) Tryz.func55 rfl rfl rfl (ak (ag (bZ (v:=.agg _) rfl ?_)));intro b1 w1 E1 hb1 hk1;refine asp rfl (asi rfl (aj (af (ak (ak (ag (ab (aG (cs:=rfV s a) aQ aK rfl ((hk1.from_ ai.rfl_).whole)) (aB nu (rO s a _ (hrd.from_ (ai.rfl_.next E1)) hl) ?_))))))));rintro v5 w2 ⟨rfl,E5⟩;refine ab (cJ (dG rfl rfl) (by rw [hm];rfl)) ?_;refine aj (af (br rfl (aM (af (ak (ag (ab (aG (cs:=rfV s a) aQ aK rfl ((hk1.from_ (ai.rfl_.next E5)).whole)) ?_)))))));have hz8:=(((ai.rfl_.next E1).next E5)).size;refine aB sd (uZ s a _ (hrd.from_ ((ai.rfl_.next E1).next E5)) hl hel) ?_;rintro v8 w3 ⟨⟨tag,a',rfl,hf8,ht8⟩,E8⟩;have hB8:ai w w3:=(((ai.rfl_.next E1).next E5).next E8);refine ab (cp (l:=[(0,.tmp 8)]) (o_ _ _ _ _ _ _ _ _ _ _ _ _ _ _ _ _ _ _ _ _ _ _ _ _ _ _ _ _ _ _ _ _ _ _)) (bZ (v:=.agg _) rfl ?_);intro b10 w4 E10 hb10 hk10;have hb10e:=hb10;have hb10:Blk w4 b10 96 (rfV s a'++[Value.slice none 0 0]).toArray:=hk10;refine asp rfl (asi rfl (aj (af (aC (mz (v:=.pointer _) (v':=.int _ _) rfl rfl rfl (⟨b10,rfl,qW hB8 hf8 (fun k hk=>ht8 k (Nat.lt_of_lt_of_le hk hz8)) E10 hb10e hb10⟩))))))
theorem jk:aR prog 28=true:=by kernel_rfl
theorem tv:aR prog 60=true:=by kernel_rfl
theorem dk:ki prog 29=some (.agg #[.int .i64 0,.int .i64 0,.int .i64 0,.int .i64 0,.int .i64 0,.int .i64 0,.int .i64 0,.int .i64 0,.slice none 0 0,.string ⟨#[]⟩,.int .i64 0,.int .i64 0,.int .i64 0,.int .u64 0,.slice none 0 0,.slice none 0 0,.slice none 0 0,.slice none 0 0,.int .i64 0,.slice none 0 0,.string ⟨#[]⟩,.int .i64 0]):=by kernel_rfl
theorem tx:aR prog 27=true:=by kernel_rfl
theorem tw:aR prog 29=true:=by kernel_rfl
theorem yj (A:Option Addr) (c:Nat) (l:List Int) (w:World) (hr:eu iV w A l) (hl:l.length*8≤140737488351232) :
 Rt prog 28 [.slice A l.length c] w (fun v w'=>∃ A' c',v=.slice A' l.length c'∧w'.ownsRow w.heap.size 3 1 v l.length (l.map iV)∧ai w w'):=by
 refine enter (n:=19) Tryz.func28 rfl rfl rfl (ak (ag (ass rfl (aj (af (ak (ag (ass rfl (aj (af (ak (ak (ag (asi rfl (aj (af (bg (dd (G:=Nat×Option Addr×Nat) [5,6,7,8,9,10,11,12,13,14,15,16,17] (fun g=>[(3,.slice g.2.1 g.1 g.2.2),(4,.int .i64 (g.1:Nat))]) (fun g w'=>g.1≤l.length∧w'.ownsRow w.heap.size 3 1 (.slice g.2.1 g.1 g.2.2) g.1 ((l.take g.1).map iV)∧ai w w') (fun g=>l.length-g.1) ((0,none,0)) ⟨rfl,rfl,trivial⟩ ?_ ?_))))))))))))))))))
 ·exact ⟨Nat.zero_le _,World.ownsRow_nil _ _ _ _,ai.rfl_⟩
 rintro ⟨k,A3,c3⟩ ρ1 w1 ⟨hk,ho,hB⟩;simp only at hk ho;refine ak (ak (ag (mvi rfl (mvs rfl (ab (bW cB rfl) (ab (b_ rfl rfl) (aj (af (Ab rfl (fun Q2=>?_) (fun Q2=>?_))))))))))
 ·obtain ⟨ba,oa,rfl,ca⟩:=hr (by omega);refine aM (af (ak (bg (ag (mvs rfl (mvs rfl (mvi rfl (ab (dh db rfl rfl (by omega)) (ab (aq an rfl (by first | (exact fq hB (ca k (by omega))))) ?_)))))))));refine fb (v:=.int _ _) ct rfl rfl rfl ?_;intro b16 w3 E16 hb16 hk16;refine qY (a0:=w) ct rfl rfl (ho.kept_from E16) (hB.next E16) rfl hk16 rfl (by omega) (by omega) ?_;intro A17 c17 w4 ho17 B17 hg17;refine ass rfl (aj (bE (af (ag (mvi rfl (ab (cq rfl rfl (by omega)) (asi rfl (aj ?_))))))));refine cu ((k+1,A17,c17)) ⟨(by first | rfl | (refine bT ?_;omega)),(by first | rfl | (refine bT ?_;omega)),trivial⟩ (by (iterate 30 refine bI rfl ?_);exact bU) ⟨?_,?_⟩
  ·exact ⟨by simp only;omega,by rw [o6 iV (by omega)];exact ho17,B17⟩
  ·simp only;omega
 refine cI (bD (bD (cr (af (ak (ag (mvs rfl (ass rfl (aj (af (aC (bo (v:=.slice _ _ _) rfl rfl ?_))))))))))));obtain rfl:k=l.length:=by omega
 exact ⟨A3,c3,rfl,by rwa [List.take_length] at ho,hB⟩
theorem kJ (A:Option Addr) (c:Nat) (l:List Int) (w:World) (h:IR w A c l) (hl:l.length≤1000000):Rt prog 28 [.slice A l.length c] w fun v w'=>(∃ A' c',v=.slice A' l.length c'∧w'.ownsRow w.heap.size 3 1 (.slice A' l.length c') l.length (l.map iV))∧ai w w':=
 (yj A c l w h.1 (by omega)).mono fun v w' ⟨A',c',hv,ho,hF⟩=>⟨⟨A',c',hv,hv ▸ ho⟩,hF⟩
theorem cZ.grow5 {w w':World} {tag:Nat→Nat} {s:Rf} {a:Ra} (h:cZ 5 w tag s a) (hC:Chg (fun k=>tag k=5) w w'):cZ 5 w' (fI w.heap.size 5 tag) s a:=
 ⟨fun _=>ek hC (by decide) (h.e (by decide)),fun _=>ek hC (by decide) (h.v (by decide)),fun _=>ek hC (by decide) (h.x (by decide)),fun _=>ek hC (by decide) (h.m (by decide)),fun _=>ek hC (by decide) (h.n (by decide)),fun e=>absurd rfl e,fun e=>absurd rfl e,fun i hi _=>ek hC (by omega) (h.k i hi (by omega))⟩
theorem rM (q:Rd) (A:Option Addr) (c:Nat) (w:World) (h:IR w A c q.acks) (hl:q.acks.length≤1000000) :
 Rt prog 60 [.agg (rdV (q,A,c)).toArray] w (fun v w'=>(∃ A' c',v=.agg (rdV (q,A',c')).toArray∧w'.ownsRow w.heap.size 3 1 (.slice A' q.acks.length c') q.acks.length (q.acks.map iV))∧ai w w'):=by
 refine enter (n:=10) Tryz.func60 rfl rfl rfl (ak (ag (bZ (v:=.agg _) rfl ?_)));intro b1 w1 E1 hb1 hk1;refine cf fW ?_;intro b2 w2 E2 hb2 hk2;have hg2:w.heap.size≤b2:=by rw [hb2];exact ((ai.rfl_.next E1)).size
 have h12:b1≠b2:=by have:=hk1.lt;omega
 replace hk1:=hk1.from_ E2;refine aj (af (ak (ag (ab (aG (cs:=rdV (q,A,c)) fV ef rfl ((hk1.from_ ai.rfl_).whole)) ?_))));have hM3a:ai _ w2:=ai.rfl_;have hk1p:=hk1.from_ hM3a;have hk2p:=hk2.from_ hM3a;refine cf fW ?_;intro b3 w3 E3 hb3 hk3;have hg3:w.heap.size≤b3:=by rw [hb3];exact (((ai.rfl_.next E1).next E2)).size
 have hM3:=hM3a.next E3;replace hk1:=hk1.from_ hM3;replace hk2:=hk2.from_ hM3;have h13:b1≠b3:=fun e=>by have h9:=hk1p.lt;omega
 have h23:b2≠b3:=fun e=>by have h9:=hk2p.lt;omega
 refine b0 (vs:=[_,_,_,_]) ef rfl rfl (by simp [Value.oneCell']) (hk3) rfl ?_;intro w4 O1 P1;replace hk1:=hk1.only O1 h13;replace hk2:=hk2.only O1 h23;refine aj (af (ak (ag (ab (aa ep rfl) (ab (aq bn rfl (by exact (show _=some (Value.slice A q.acks.length c) from (hk1.from_ ai.rfl_).rd 3 rfl))) ?_)))));have hz7:=(((((ai.rfl_.next E1).next E2).next E3).only O1 (hg3))).size;refine aB jk (kJ A c q.acks _ (h.from_ ((((ai.rfl_.next E1).next E2).next E3).only O1 (hg3))) hl) ?_;rintro v7 w5 ⟨⟨A7,c7,rfl,ho7⟩,E7⟩;refine ab (aa ep rfl) ?_;have hM8:ai _ w5:=(ai.rfl_.next E7);refine dD (v:=.slice _ _ _) df rfl rfl rfl ((P1.from_ (ai.rfl_.next E7))) (by show _<4;decide) ?_;intro w6 O2 P2;replace hk2:=(hk2.from_ hM8).only O2 h23;replace ho7:=gC ho7 O2 (k9 ho7 (P1.from_ hM8) (by decide));refine aj (af (ak (ag (ab (aG (cs:=rdV (q,A7,c7)) fV ef rfl ((P2.from_ ai.rfl_).whole)) ?_))));have hM9:ai _ w6:=ai.rfl_;refine b0 (vs:=[_,_,_,_]) ef rfl rfl (by simp [Value.oneCell']) ((hk2.from_ ai.rfl_)) rfl ?_;intro w7 O3 P3;replace ho7:=gC (ho7.kept_from hM9) O3 (k9 (ho7.kept_from hM9) (hk2.from_ hM9) (by decide));refine aj (af (aC (iU rfl (cX (cs:=[_,_,_,_]) fV ef rfl (by exact P3.whole)) ?_)));exact ⟨⟨A7,c7,rfl,eU ho7 hz7⟩,(((((((ai.rfl_.next E1).next E2).next E3).only O1 (hg3)).next E7).only O2 (hg3)).only O3 (hg2))⟩
theorem An {A A':Option Addr} {n:Nat} (hL:A'.map (·.block)=A.map (·.block)∨A'.map (·.block)=some n):∀ k,A'.map (·.block)=some k→A.map (·.block)=some k∨n≤k:=fun k hk=>by
 rcases hL with e | e
 ·exact .inl (e ▸ hk)
 ·rw [e] at hk;cases hk;exact .inr (Nat.le_refl _)
theorem qq (x:Rd×Option Addr×Nat) (w:World) (h:IR w x.2.1 x.2.2 x.1.acks) (hl:x.1.acks.length≤1000000):Rt prog 60 [.agg (rdV x).toArray] w fun v w'=>(∃ A' c',v=.agg (rdV (x.1,A',c')).toArray∧w'.ownsRow w.heap.size 3 1 (.slice A' x.1.acks.length c') x.1.acks.length (x.1.acks.map iV))∧ai w w':=
 rM x.1 x.2.1 x.2.2 w h hl
theorem qp (s:Rf) (a:Ra) (tag:Nat→Nat) (Q:Option Addr) (Qc:Nat) (LL:List (Rd×Option Addr×Nat)) (w:World) (hg:cZ 5 w tag s a) (ha:a.L=[]) (hq:im 4 rdV w Q LL) (hk:∀ x∈LL,IR w x.2.1 x.2.2 x.1.acks) (hle:∀ x∈LL,x.1.acks.length≤1000000) (hn:LL.length≤1000000) :
 Rt prog 29 [.slice Q LL.length Qc] w (fun v w'=>(∃ tag' Q' c' N,v=.slice Q' LL.length c'∧N.map (fun q=>q.1)=LL.map (fun q=>q.1)∧cZ 5 w' tag' s { a with L:=N }∧(∀ k,k<w.heap.size→tag' k=tag k)∧Col tag' 5 Q'∧w'.ownsRow 0 54 4 (.slice Q' LL.length c') LL.length (N.flatMap rdV))∧ai w w'):=by
 refine enter (n:=20) Tryz.func29 rfl rfl rfl (ak (ag (ass rfl (aj (af (ak (ag (ass rfl (aj (af (ak (ak (ag (asi rfl (aj (af (bg (dd (G:=List (Rd×Option Addr×Nat)×(Nat→Nat)×Option Addr×Nat) [5,6,7,8,9,10,11,12,13,14,15,16,17,18] (fun (N,tg,A3,c3)=>[(3,.slice A3 N.length c3),(4,.int .i64 (N.length:Nat))]) (fun (N,tg,A3,c3) w'=>N.length≤LL.length∧(∀ i (h:i<N.length) (h2:i<LL.length),N[i].1=LL[i].1)∧cZ 5 w' tg s { a with L:=N }∧(∀ k,k<w.heap.size→tg k=tag k)∧Col tg 5 A3∧w'.ownsRow w.heap.size 54 4 (.slice A3 N.length c3) N.length (N.flatMap rdV)∧ai w w') (fun (N,_)=>LL.length-N.length) (([],tag,none,0)) ⟨rfl,rfl,trivial⟩ ?_ ?_))))))))))))))))))
 ·exact ⟨Nat.zero_le _,fun i h=>absurd h (Nat.not_lt_zero _),(by rw [←ha];exact hg.from_ ai.rfl_),fun _ _=>rfl,Col.none,World.ownsRow_nil _ _ _ _,ai.rfl_⟩
 rintro ⟨N,tg,A3,c3⟩ ρ1 w1 ⟨hNl,hNe,hgN,htN,hcN,hrN,hBN⟩;refine ak (ak (ag (mvi rfl (mvs rfl (ab (bW dR rfl) (ab (b_ rfl rfl) (aj (af (Ab rfl (fun Q2=>?_) (fun Q2=>?_))))))))))
 ·have hNL:N.length<LL.length:=by omega
  obtain ⟨ba,oa,rfl,hca⟩:=hq (by omega);have hkN:=hk _ (List.getElem_mem hNL);have hlN:=hle _ (List.getElem_mem hNL);refine aM (af (ak (bg (ag (mvs rfl (mvs rfl (mvi rfl (ab (eN fx rfl rfl (by omega)) (ab (aG (cs:=rdV LL[N.length]) fV ef rfl (eB hBN (hca N.length hNL))) ?_)))))))));have hgN9:=hgN.from_ ai.rfl_;have hz16:=(hBN).size;have hrN9:=hrN.kept_from ai.rfl_;refine aB tv (qq LL[N.length] _ (hkN.from_ hBN) hlN) ?_;rintro v16 w3 ⟨⟨A16,c16,rfl,ho16⟩,E16⟩;obtain ⟨t16,hg16,ht16,hc16⟩:∃ t,cZ 5 w3 t s { a with L:=(N++[(LL[N.length].1,A16,c16)]) }∧(∀ k,k<w.heap.size→t k=tag k)∧Col t 5 A3:=⟨_,hgN9.ack E16 (q:=LL[N.length].1) ho16,fun k hk=>(da (Nat.lt_of_lt_of_le hk hz16)).trans (htN k hk),hcN.re (fun k hk=>(fe hrN9 k hk).2)⟩;refine lG (l:=[(0,.tmp 16)]) (cells:=(rdV (LL[N.length].1,A16,c16)).toArray) jA rfl rfl (by show Instr.fill _ _ [(0,Value.agg (rdV (LL[N.length].1,A16,c16)).toArray)]=_;kernel_rfl) ?_;intro b17 w4 E17 hb17 hk17;have hM18:ai _ w4:=((ai.rfl_.next E16).next E17);have hB18:ai w w4:=((hBN.next E16).next E17);have hM18:ai _ w4:=((ai.rfl_.next E16).next E17);have hB18:ai w w4:=((hBN.next E16).next E17);have hr18:=hrN.kept_from hM18;refine sx (news:=rdV (LL[N.length].1,A16,c16)) jA rfl (by decide) rfl hr18 hB18.size rfl rfl ⟨b17,0,rfl,hk17.whole⟩ (by simp [rdV,Value.oneCell']) (by omega) (by omega) ?_;intro A18 c18 w5 ho18 hgr18 hL18;obtain ⟨t18,hg18,ht18,hc18⟩:∃ t,cZ 5 w5 t s { a with L:=(N++[(LL[N.length].1,A16,c16)]) }∧(∀ k,k<w.heap.size→t k=tag k)∧Col t 5 A18:=⟨_,(hg16.from_ (ai.rfl_.next E17)).grow5 (Chg.of_grown hgr18 (fun q hq=>hc16 q hq)),fun k hk=>(da (Nat.lt_of_lt_of_le hk hB18.size)).trans (ht16 k hk),hc16.new (fun k hk=>(fe hr18 k hk).2) (An hL18)⟩;have hF18:ai w w5:=hB18.grew hgr18 (fun k hk=>(fe hr18 k hk).1);refine ass rfl (aj (bE (af (ag (mvi rfl (ab (cq rfl rfl (by omega)) (asi rfl (aj ?_))))))));refine cu (((N++[(LL[N.length].1,A16,c16)]),t18,A18,c18)) ⟨(show Value.slice A18 (N.length+1) c18=Value.slice A18 (N++[(LL[N.length].1,A16,c16)]).length c18 by rw [List.length_append];rfl),bT (by rw [List.length_append,List.length_singleton];omega),trivial⟩ (by (iterate 32 refine bI rfl ?_);exact bU) ⟨?_,?_⟩
  ·have e18:(N++[(LL[N.length].1,A16,c16)]).length=N.length+1:=by rw [List.length_append];rfl
   refine ⟨by omega,fun i h h2=>?_,hg18.from_ ai.rfl_,ht18,hc18,?_,hF18⟩
   ·rcases Nat.lt_or_ge i N.length with e | e
    ·rw [List.getElem_append_left e];exact hNe i e h2
    ·obtain rfl:i=N.length:=by omega
     simp only [List.getElem_append_right (Nat.le_refl _),Nat.sub_self,List.getElem_singleton]
   ·have h9:=ho18.kept_from ai.rfl_;show World.ownsRow _ _ _ _ (.slice A18 (N++[(LL[N.length].1,A16,c16)]).length c18) (N++[(LL[N.length].1,A16,c16)]).length ((N++[(LL[N.length].1,A16,c16)]).flatMap rdV);rw [e18,List.flatMap_append,show [(LL[N.length].1,A16,c16)].flatMap rdV=rdV (LL[N.length].1,A16,c16) from List.append_nil _];exact h9
  ·show LL.length-(N++[_]).length<LL.length-N.length;rw [List.length_append,List.length_singleton];omega
 refine cI (bD (bD (cr (af (ak (ag (mvs rfl (ass rfl (aj (af (aC (bo (v:=.slice _ _ _) rfl rfl ?_))))))))))));have hNf:N.length=LL.length:=by omega
 rw [hNf] at hrN;refine ⟨⟨tg,A3,c3,N,by rw [hNf],?_,hgN.from_ ai.rfl_,htN,hcN,eU (hrN.kept_from ai.rfl_) (Nat.zero_le _)⟩,hBN⟩;refine List.ext_getElem (by simp [hNf]) fun i h1 h2=>?_
 simp only [List.getElem_map];exact hNe i (by simpa using h1) (by simpa using h2)
theorem jx (s:Rf) (a:Ra) (w:World) (hrd:eX w s a) (hl:s.votes.length≤1000000∧s.next.length≤1000000∧s.mtch.length≤1000000∧s.sent.length≤1000000∧s.reads.length≤1000000∧∀ q∈s.reads,q.acks.length≤1000000) (hel:s.es.length≤1000000) :
 Rt prog 16 [.agg (rfV s a).toArray] w (fun v w'=>(∃ tag a',v=.agg (rfV s a').toArray∧bw w' tag s a'∧∀ k,k<w.heap.size→tag k=8)∧ai w w'):=by
 obtain ⟨E,Ec,V,Vc,X,Xc,M,Mc,Sn,Sc,Q,Qc,LL⟩:=a;obtain ⟨hl1,hl2,hl3,hl4,hl5,hl6⟩:=hl;have hrL:LL.map (fun q=>q.1)=s.reads:=hrd.r;have hrk:∀ q∈LL,IR w q.2.1 q.2.2 q.1.acks:=hrd.k;have hrq:im 4 rdV w Q LL:=hrd.q;have hLl:LL.length=s.reads.length:=by rw [←hrL,List.length_map]
 have hqm:LL.length≤1000000:=by omega
 refine enter (n:=30) Tryz.func16 rfl rfl rfl (ak (ag (bZ (v:=.agg _) rfl ?_)));intro b1 w1 E1 hb1 hk1;refine cf dk ?_;intro b2 w2 E2 hb2 hk2;have hg2:w.heap.size≤b2:=by rw [hb2];exact ((ai.rfl_.next E1)).size
 have hlt1:=hk1.lt;replace hk1:=hk1.from_ E2;refine aj (af (ak (ag (ab (aG (cs:=rfV s (⟨E,Ec,V,Vc,X,Xc,M,Mc,Sn,Sc,Q,Qc,LL⟩:Ra)) aQ aK rfl (hk1.whole)) (cf dk ?_)))));intro b3 w3 E3 hb3 hk3;have hg3:w.heap.size≤b3:=by rw [hb3];exact (((ai.rfl_.next E1).next E2)).size
 have hlt2:=hk2.lt;have hlt1b:=hk1.lt;replace hk1:=hk1.from_ E3;replace hk2:=hk2.from_ E3;have h13:b1≠b3:=by omega
 have h23:b2≠b3:=by omega
 have ht0:∀ k,k≤b3→(fun _:Nat=>8) k=8:=fun _ _=>rfl
 refine b0 (vs:=[_,_,_,_,_,_,_,_,_,_,_,_,_,_,_,_,_,_,_,_,_,_]) aK rfl rfl (by simp [Value.oneCell']) (hk3) rfl ?_;intro w4 O1 P1;replace hk1:=hk1.only O1 h13;replace hk2:=hk2.only O1 h23;have hx1:Blk w4 b3 29 (rfV s (⟨E,Ec,V,Vc,X,Xc,M,Mc,Sn,Sc,Q,Qc,LL⟩:Ra)++[]).toArray:=P1;refine aj (af (ak (ag (ab (aa bq rfl) (ab (aG (cs:=[.int .i64 s.b,.int .i64 s.t,.slice E s.es.length Ec]) bB bd rfl (fB (show Blk _ b1 29 (rfV s (⟨E,Ec,V,Vc,X,Xc,M,Mc,Sn,Sc,Q,Qc,LL⟩:Ra)++[]).toArray from hk1.from_ ai.rfl_))) ?_)))));have hN7:ai _ w4:=ai.rfl_;have hx1n:=hx1.from_ hN7;have hlt7:=hx1n.lt;replace hk1:=hk1.from_ ai.rfl_;replace hk2:=hk2.from_ ai.rfl_;have hf0n:bw w4 (fun _=>8) ({ s with es:=[],votes:=[],next:=[],mtch:=[],sent:=[],reads:=[] }:Rf) a0:=bw.same bw.zero rfl rfl rfl rfl rfl rfl;refine aB tx (sW s.b s.t E s.es.length Ec s.es _ (hrd.e.from_ ((((ai.rfl_.next E1).next E2).next E3).only O1 (hg3))) (by omega)) ?_;rintro v7 w5 ⟨A7,c7,rfl,ho7,_,E7⟩;obtain ⟨tag1,hf1,ht1⟩:∃ t,bw w5 t ({ s with es:=s.es,votes:=[],next:=[],mtch:=[],sent:=[],reads:=[] }:Rf) (⟨A7,c7,none,0,none,0,none,0,none,0,none,0,[]⟩:Ra)∧(∀ k,k≤b3→t k=8):=⟨_,cZ.log (bw.but (c:=0) hf0n (ai.toChg E7)) s.b s.t rfl (eU ho7 (Nat.zero_le _)) (fun k hk=>dY (fe ho7 k hk).1),fun k hk=>(da (by omega)).trans (ht0 k hk)⟩;replace hx1n:=hx1n.from_ E7;replace hk1:=hk1.from_ E7;replace hk2:=hk2.from_ E7;refine ab (aa bq rfl) ?_;have hS1:ai _ w5:=ai.rfl_;have hB1:ai w w5:=(((((ai.rfl_.next E1).next E2).next E3).only O1 (hg3)).next E7);refine pn (s:=s) (a:=(⟨E,Ec,V,Vc,X,Xc,M,Mc,Sn,Sc,Q,Qc,LL⟩:Ra)) (R:=[]) (b:=s.b) (t9:=s.t) (es:=s.es) rfl bd rfl rfl (hx1n.from_ hS1) ?_;intro w6 O1_0 P1_0;have hx2:Blk w6 b3 29 (rfV s (⟨A7,c7,V,Vc,X,Xc,M,Mc,Sn,Sc,Q,Qc,LL⟩:Ra)++[]).toArray:=P1_0;replace hf1:=(hf1.from_ hS1).chg8 (O1_0.toChg rfl) (ht1 b3 (Nat.le_refl _));replace hk1:=(hk1.from_ hS1).only O1_0 h13;replace hk2:=(hk2.from_ hS1).only O1_0 h23;refine aj (af (ak (ag (ab (aa di rfl) (ab (aq bn rfl (by exact (show _=some (Value.slice V s.votes.length Vc) from (hk1.from_ ai.rfl_).rd 14 rfl))) ?_)))));have hN11:ai _ w6:=ai.rfl_;have hx2n:=hx2.from_ hN11;have hlt11:=hx2n.lt;replace hk1:=hk1.from_ ai.rfl_;replace hk2:=hk2.from_ ai.rfl_;have hf1n:=hf1.from_ hN11;refine aB jk (kJ V Vc s.votes _ (IR.from_ hrd.v (hB1.only O1_0 hg3)) hl1) ?_;rintro v11 w7 ⟨⟨A11,c11,rfl,ho11⟩,E11⟩;obtain ⟨tag2,hf2,ht2⟩:∃ t,bw w7 t ({ s with es:=s.es,votes:=s.votes,next:=[],mtch:=[],sent:=[],reads:=[] }:Rf) (⟨A7,c7,A11,c11,none,0,none,0,none,0,none,0,[]⟩:Ra)∧(∀ k,k≤b3→t k=8):=⟨_,cZ.votes (bw.but (c:=1) hf1n (ai.toChg E11)) rfl (eU ho11 (Nat.zero_le _)) (fun k hk=>dY (fe ho11 k hk).1),fun k hk=>(da (by omega)).trans (ht1 k hk)⟩;replace hx2n:=hx2n.from_ E11;replace hk1:=hk1.from_ E11;replace hk2:=hk2.from_ E11;refine ab (aa di rfl) ?_;have hS2:ai _ w7:=ai.rfl_;refine cW (s':=s) (a':=(⟨A7,c7,A11,c11,X,Xc,M,Mc,Sn,Sc,Q,Qc,LL⟩:Ra)) (v:=.slice _ _ _) df rfl rfl rfl ((hx2n.from_ hS2)) (by exact ⟨by decide,rfl⟩) ?_;intro w8 O2_0 P2_0;have hx3:Blk w8 b3 29 (rfV s (⟨A7,c7,A11,c11,X,Xc,M,Mc,Sn,Sc,Q,Qc,LL⟩:Ra)++[]).toArray:=P2_0;replace hf2:=(hf2.from_ hS2).chg8 (O2_0.toChg rfl) (ht2 b3 (Nat.le_refl _));replace hk1:=(hk1.from_ hS2).only O2_0 h13;replace hk2:=(hk2.from_ hS2).only O2_0 h23;refine aj (af (ak (ag (ab (aa cL rfl) (ab (aq bn rfl (by exact (show _=some (Value.slice X s.next.length Xc) from (hk1.from_ ai.rfl_).rd 15 rfl))) ?_)))));have hN15:ai _ w8:=ai.rfl_;have hx3n:=hx3.from_ hN15;have hlt15:=hx3n.lt;replace hk1:=hk1.from_ ai.rfl_;replace hk2:=hk2.from_ ai.rfl_;have hf2n:=hf2.from_ hN15;refine aB jk (kJ X Xc s.next _ (IR.from_ hrd.x (((hB1.only O1_0 hg3).next E11).only O2_0 (hg3))) hl2) ?_;rintro v15 w9 ⟨⟨A15,c15,rfl,ho15⟩,E15⟩;obtain ⟨tag3,hf3,ht3⟩:∃ t,bw w9 t ({ s with es:=s.es,votes:=s.votes,next:=s.next,mtch:=[],sent:=[],reads:=[] }:Rf) (⟨A7,c7,A11,c11,A15,c15,none,0,none,0,none,0,[]⟩:Ra)∧(∀ k,k≤b3→t k=8):=⟨_,cZ.next (bw.but (c:=2) hf2n (ai.toChg E15)) rfl (eU ho15 (Nat.zero_le _)) (fun k hk=>dY (fe ho15 k hk).1),fun k hk=>(da (by omega)).trans (ht2 k hk)⟩;replace hx3n:=hx3n.from_ E15;replace hk1:=hk1.from_ E15;replace hk2:=hk2.from_ E15;refine ab (aa cL rfl) ?_;have hS3:ai _ w9:=ai.rfl_;refine cW (s':=s) (a':=(⟨A7,c7,A11,c11,A15,c15,M,Mc,Sn,Sc,Q,Qc,LL⟩:Ra)) (v:=.slice _ _ _) df rfl rfl rfl ((hx3n.from_ hS3)) (by exact ⟨by decide,rfl⟩) ?_;intro w10 O3_0 P3_0;have hx4:Blk w10 b3 29 (rfV s (⟨A7,c7,A11,c11,A15,c15,M,Mc,Sn,Sc,Q,Qc,LL⟩:Ra)++[]).toArray:=P3_0;replace hf3:=(hf3.from_ hS3).chg8 (O3_0.toChg rfl) (ht3 b3 (Nat.le_refl _));replace hk1:=(hk1.from_ hS3).only O3_0 h13;replace hk2:=(hk2.from_ hS3).only O3_0 h23;refine aj (af (ak (ag (ab (aa cO rfl) (ab (aq bn rfl (by exact (show _=some (Value.slice M s.mtch.length Mc) from (hk1.from_ ai.rfl_).rd 16 rfl))) ?_)))));have hN19:ai _ w10:=ai.rfl_;have hx4n:=hx4.from_ hN19;have hlt19:=hx4n.lt;replace hk1:=hk1.from_ ai.rfl_;replace hk2:=hk2.from_ ai.rfl_;have hf3n:=hf3.from_ hN19;refine aB jk (kJ M Mc s.mtch _ (IR.from_ hrd.m (((((hB1.only O1_0 hg3).next E11).only O2_0 (hg3)).next E15).only O3_0 (hg3))) hl3) ?_;rintro v19 w11 ⟨⟨A19,c19,rfl,ho19⟩,E19⟩;obtain ⟨tag4,hf4,ht4⟩:∃ t,bw w11 t ({ s with es:=s.es,votes:=s.votes,next:=s.next,mtch:=s.mtch,sent:=[],reads:=[] }:Rf) (⟨A7,c7,A11,c11,A15,c15,A19,c19,none,0,none,0,[]⟩:Ra)∧(∀ k,k≤b3→t k=8):=⟨_,cZ.mtch (bw.but (c:=3) hf3n (ai.toChg E19)) rfl (eU ho19 (Nat.zero_le _)) (fun k hk=>dY (fe ho19 k hk).1),fun k hk=>(da (by omega)).trans (ht3 k hk)⟩;replace hx4n:=hx4n.from_ E19;replace hk1:=hk1.from_ E19;replace hk2:=hk2.from_ E19;refine ab (aa cO rfl) ?_;have hS4:ai _ w11:=ai.rfl_;refine cW (s':=s) (a':=(⟨A7,c7,A11,c11,A15,c15,A19,c19,Sn,Sc,Q,Qc,LL⟩:Ra)) (v:=.slice _ _ _) df rfl rfl rfl ((hx4n.from_ hS4)) (by exact ⟨by decide,rfl⟩) ?_;intro w12 O4_0 P4_0;have hx5:Blk w12 b3 29 (rfV s (⟨A7,c7,A11,c11,A15,c15,A19,c19,Sn,Sc,Q,Qc,LL⟩:Ra)++[]).toArray:=P4_0;replace hf4:=(hf4.from_ hS4).chg8 (O4_0.toChg rfl) (ht4 b3 (Nat.le_refl _));replace hk1:=(hk1.from_ hS4).only O4_0 h13;replace hk2:=(hk2.from_ hS4).only O4_0 h23;refine aj (af (ak (ag (ab (aa cT rfl) (ab (aq bn rfl (by exact (show _=some (Value.slice Sn s.sent.length Sc) from (hk1.from_ ai.rfl_).rd 17 rfl))) ?_)))));have hN23:ai _ w12:=ai.rfl_;have hx5n:=hx5.from_ hN23;have hlt23:=hx5n.lt;replace hk1:=hk1.from_ ai.rfl_;replace hk2:=hk2.from_ ai.rfl_;have hf4n:=hf4.from_ hN23;refine aB jk (kJ Sn Sc s.sent _ (IR.from_ hrd.n (((((((hB1.only O1_0 hg3).next E11).only O2_0 (hg3)).next E15).only O3_0 (hg3)).next E19).only O4_0 (hg3))) hl4) ?_;rintro v23 w13 ⟨⟨A23,c23,rfl,ho23⟩,E23⟩;obtain ⟨tag5,hf5,ht5⟩:∃ t,bw w13 t ({ s with es:=s.es,votes:=s.votes,next:=s.next,mtch:=s.mtch,sent:=s.sent,reads:=[] }:Rf) (⟨A7,c7,A11,c11,A15,c15,A19,c19,A23,c23,none,0,[]⟩:Ra)∧(∀ k,k≤b3→t k=8):=⟨_,cZ.sent (bw.but (c:=4) hf4n (ai.toChg E23)) rfl (eU ho23 (Nat.zero_le _)) (fun k hk=>dY (fe ho23 k hk).1),fun k hk=>(da (by omega)).trans (ht4 k hk)⟩;replace hx5n:=hx5n.from_ E23;replace hk1:=hk1.from_ E23;replace hk2:=hk2.from_ E23;refine ab (aa cT rfl) ?_;have hS5:ai _ w13:=ai.rfl_;refine cW (s':=s) (a':=(⟨A7,c7,A11,c11,A15,c15,A19,c19,A23,c23,Q,Qc,LL⟩:Ra)) (v:=.slice _ _ _) df rfl rfl rfl ((hx5n.from_ hS5)) (by exact ⟨by decide,rfl⟩) ?_;intro w14 O5_0 P5_0;have hx6:Blk w14 b3 29 (rfV s (⟨A7,c7,A11,c11,A15,c15,A19,c19,A23,c23,Q,Qc,LL⟩:Ra)++[]).toArray:=P5_0;replace hf5:=(hf5.from_ hS5).chg8 (O5_0.toChg rfl) (ht5 b3 (Nat.le_refl _));replace hk1:=(hk1.from_ hS5).only O5_0 h13;replace hk2:=(hk2.from_ hS5).only O5_0 h23;refine aj (af (ak (ag (ab (aa bL rfl) (ab (aq dc rfl (by exact (show _=some (Value.slice Q LL.length Qc) from (hk1.from_ ai.rfl_).rd 19 rfl))) ?_)))));have hN27:ai _ w14:=ai.rfl_;have hx6n:=hx6.from_ hN27;have hlt27:=hx6n.lt;replace hk1:=hk1.from_ ai.rfl_;replace hk2:=hk2.from_ ai.rfl_;have hf5n:=bw.but (c:=5) (hf5.from_ hN27) ai.rfl_.toChg;refine aB tw (qp ({ s with es:=s.es,votes:=s.votes,next:=s.next,mtch:=s.mtch,sent:=s.sent,reads:=[] }:Rf) (⟨A7,c7,A11,c11,A15,c15,A19,c19,A23,c23,none,0,[]⟩:Ra) _ Q Qc LL _ hf5n rfl (hrq.from_ (((((((((hB1.only O1_0 hg3).next E11).only O2_0 (hg3)).next E15).only O3_0 (hg3)).next E19).only O4_0 (hg3)).next E23).only O5_0 (hg3))) (fun x hx=>(hrk x hx).from_ (((((((((hB1.only O1_0 hg3).next E11).only O2_0 (hg3)).next E15).only O3_0 (hg3)).next E19).only O4_0 (hg3)).next E23).only O5_0 (hg3))) (fun x hx=>hl6 _ (by rw [←hrL];exact List.mem_map_of_mem hx)) hqm) ?_;rintro v27 w15 ⟨⟨tag6,A27,c27,N,rfl,hNe,hg6,ht6a,hc6,hr6⟩,E27⟩;have ht6:∀ k,k≤b3→tag6 k=8:=fun k hk=>(ht6a k (by omega)).trans ((da (by omega)).trans (ht5 k hk))
 replace hx6n:=hx6n.from_ E27;replace hk2:=hk2.from_ E27;have hfin:=cZ.reads hg6 (A:=A27) (c:=c27) (n:=LL.length) (by have h9:=congrArg List.length hNe;rw [List.length_map,List.length_map] at h9;exact h9.symm) hr6 hc6;rw [show ({ (⟨A7,c7,A11,c11,A15,c15,A19,c19,A23,c23,none,0,[]⟩:Ra) with L:=N }:Ra).L=N from rfl,hNe,hrL] at hfin;refine ab (aa bL rfl) ?_;have hS6:ai _ w15:=ai.rfl_;refine cW (s':=s) (a':=(⟨A7,c7,A11,c11,A15,c15,A19,c19,A23,c23,A27,c27,LL⟩:Ra)) (v:=.slice _ _ _) jg rfl rfl rfl ((hx6n.from_ hS6)) (by exact ⟨by decide,rfl⟩) ?_;intro w16 O6_0 P6_0;have hx7:Blk w16 b3 29 (rfV s (⟨A7,c7,A11,c11,A15,c15,A19,c19,A23,c23,A27,c27,LL⟩:Ra)++[]).toArray:=P6_0;replace hfin:=(hfin.from_ hS6).chg8 (O6_0.toChg rfl) (ht6 b3 (Nat.le_refl _));replace hk2:=(hk2.from_ hS6).only O6_0 h23;refine aj (af (ak (ag (ab (aG (cs:=rfV s (⟨A7,c7,A11,c11,A15,c15,A19,c19,A23,c23,A27,c27,LL⟩:Ra)) aQ aK rfl (my (hx7.from_ ai.rfl_))) ?_))));have hM8:ai _ w16:=ai.rfl_;refine b0 (vs:=[_,_,_,_,_,_,_,_,_,_,_,_,_,_,_,_,_,_,_,_,_,_]) aK rfl rfl (by simp [Value.oneCell']) ((hk2.from_ ai.rfl_)) rfl ?_;intro w17 O8 P8;refine aj (af (aC (iU rfl (cX (cs:=[_,_,_,_,_,_,_,_,_,_,_,_,_,_,_,_,_,_,_,_,_,_]) aQ aK rfl (by exact P8.whole)) ?_)));refine ⟨⟨tag6,(⟨A7,c7,A11,c11,A15,c15,A19,c19,A23,c23,A27,c27,N⟩:Ra),?_,(hfin.from_ hM8).chg8 (O8.toChg rfl) (ht6 b2 (by omega)),fun k hk=>ht6 k (by omega)⟩,((((((((((((hB1.only O1_0 hg3).next E11).only O2_0 (hg3)).next E15).only O3_0 (hg3)).next E19).only O4_0 (hg3)).next E23).only O5_0 (hg3)).next E27).only O6_0 (hg3)).only O8 (hg2))⟩;show Value.agg (rfV s (⟨A7,c7,A11,c11,A15,c15,A19,c19,A23,c23,A27,c27,LL⟩:Ra)).toArray=Value.agg (rfV s (⟨A7,c7,A11,c11,A15,c15,A19,c19,A23,c23,A27,c27,N⟩:Ra)).toArray;have h9:=congrArg List.length hNe;rw [List.length_map,List.length_map] at h9;unfold rfV;simp only [h9]
theorem fG:prog.built 29 []=some #[.int .i64 0,.int .i64 0,.int .i64 0,.int .i64 0,.int .i64 0,.int .i64 0,.int .i64 0,.int .i64 0,.slice none 0 0,.string ⟨#[]⟩,.int .i64 0,.int .i64 0,.int .i64 0,.int .u64 0,.slice none 0 0,.slice none 0 0,.slice none 0 0,.slice none 0 0,.int .i64 0,.slice none 0 0,.string ⟨#[]⟩,.int .i64 0]:=by kernel_rfl
theorem mR:∀ (a0:Int) (a1:Int) (a2:Int),prog.built 29 [(0,.int .i64 a0),(1,.int .i64 a1),(11,.int .u64 a2)]=some #[.int .i64 a0,.int .i64 a1,.int .i64 0,.int .i64 0,.int .i64 0,.int .i64 0,.int .i64 0,.int .i64 0,.slice none 0 0,.string ⟨#[]⟩,.int .i64 0,.int .i64 0,.int .i64 0,.int .u64 a2,.slice none 0 0,.slice none 0 0,.slice none 0 0,.slice none 0 0,.int .i64 0,.slice none 0 0,.string ⟨#[]⟩,.int .i64 0]:=by intros;kernel_rfl
theorem rU:∀ (a0:Int) (a1:Int) (a2:Int) (a3:Int) (a4:Int) (a5:Int) (a6:Int) (a7:Int) (a8:Option Addr) (a9 a10:Nat) (a11:ByteArray) (a12:Int) (a13:Int) (a14:Int) (a15:Int) (a16:Option Addr) (a17 a18:Nat) (a19:Option Addr) (a20 a21:Nat) (a22:Option Addr) (a23 a24:Nat) (a25:Option Addr) (a26 a27:Nat) (a28:Int) (a29:Option Addr) (a30 a31:Nat) (a32:ByteArray) (a33:Int),prog.built 91 [(0,.agg #[.int .i64 a0,.int .i64 a1,.int .i64 a2,.int .i64 a3,.int .i64 a4,.int .i64 a5,.int .i64 a6,.int .i64 a7,.slice a8 a9 a10,.string a11,.int .i64 a12,.int .i64 a13,.int .i64 a14,.int .u64 a15,.slice a16 a17 a18,.slice a19 a20 a21,.slice a22 a23 a24,.slice a25 a26 a27,.int .i64 a28,.slice a29 a30 a31,.string a32,.int .i64 a33])]=some #[.int .i64 a0,.int .i64 a1,.int .i64 a2,.int .i64 a3,.int .i64 a4,.int .i64 a5,.int .i64 a6,.int .i64 a7,.slice a8 a9 a10,.string a11,.int .i64 a12,.int .i64 a13,.int .i64 a14,.int .u64 a15,.slice a16 a17 a18,.slice a19 a20 a21,.slice a22 a23 a24,.slice a25 a26 a27,.int .i64 a28,.slice a29 a30 a31,.string a32,.int .i64 a33]:=by intros;kernel_rfl
theorem lj:aR prog 55=true:=by kernel_rfl
theorem u4:aR prog 56=true:=by kernel_rfl
theorem kZ {P:Program} {n:Fr} {L:List (Nat×Value)} {w:World} {t:TypeId} {x y:Operand} {g:Nat} {u:TypeId} {cs:Array Value} {vs:List Value} (ht:eg P t=some vs.length) (hx:ev n L x=.pointer (some ⟨g,0,none⟩)) (hy:ev n L y=.agg vs.toArray) (h1:∀ v∈vs,v.oneCell'=true) (hb:Blk w g u cs) (hi:vs.length=cs.size) :
 ∃ w',RS P (ev n L) (.store t x y) w w'∧fc g w w'∧Blk w' g u vs.toArray:=by
 have hb':Blk w g u cs.toList.toArray:=by simpa using hb
 refine ⟨_,mq ht hx hy h1 (hb'.there 0 vs.length (by simp;omega)),fc.sets vs 0 w,?_⟩;have:=Blk.sets vs 0 hb' (by simp;omega)
 rwa [rv cs.toList vs (by simp;omega)] at this
theorem jI {w w':World} {T g:Nat} {p:Sp} (h:a_ w (fun k=>k<w.heap.size) w' T g p):ai w w':=
 ⟨h.fr.os,h.fr.tape,h.fr.output,h.fr.size,fun k hk=>h.fr.block k hk fun e=>e hk⟩
def yy (w w':World) (p:Sp) (v:Value):Prop:=∃ tag a O oc L,v=.tuple #[.agg (rfV p.s a).toArray,.slice O L.length oc,.int .i64 0]∧bw w' tag p.s a∧eF w' tag p.out O oc L∧∀ k,k<w.heap.size→tag k=8
theorem yy.mk_ {w w1 w':World} {T g oc:Nat} {tag:Nat→Nat} {p:Sp} {a:Ra} {O:Option Addr} {L:List Msg} {Z:Nat→Prop} (hs:gQ w1 Z T g tag p a O oc L) (hz:∀ k,k<w.heap.size→Z k) (hC:Chg (fun k=>Z k) w1 w'):yy w w' p (.tuple #[.agg (rfV p.s a).toArray,.slice O L.length oc,.int .i64 0]):=by
 have ne:∀ {d:Nat} {A:Option Addr},d≠8→Col tag d A→∀ k,A.map (·.block)=some k→¬ Z k:=fun hd hc k hk e=>hd ((hc k hk).symm.trans (hs.z k e))
 have mv:∀ {d e s n cc:Nat} {A:Option Addr} {xs:List Value},d≠8→w1.ownsRow 0 e s (.slice A n cc) n xs∧Col tag d A→w'.ownsRow 0 e s (.slice A n cc) n xs∧Col tag d A:=fun hd h=>⟨eH h.1 hC (ne hd h.2),h.2⟩
 refine ⟨tag,a,O,oc,L,rfl,⟨fun hx=>mv (by decide) (hs.f.e hx),fun hx=>mv (by decide) (hs.f.v hx),fun hx=>mv (by decide) (hs.f.x hx),fun hx=>mv (by decide) (hs.f.m hx),fun hx=>mv (by decide) (hs.f.n hx),hs.f.r,fun hx=>mv (by decide) (hs.f.q hx),fun i hi hx=>mv (by omega) (hs.f.k i hi hx)⟩,⟨(mv (d:=6) (by decide) ⟨hs.m.o,hs.m.c⟩).1,hs.m.l,fun j hj=>mv (by omega) (hs.m.e j hj),hs.m.c⟩,fun k hk=>hs.z k (hz k hk)⟩
def nv (id n:Int):Prop:=(1≤n∧n≤7)∧(1≤id∧id≤n)
instance (id n:Int):Decidable (nv id n):=by unfold nv;exact inferInstance
theorem xU (id n seed:Int) (w:World) :
 Rt prog 21 [.int .i64 id,.int .i64 n,.int .u64 seed] w (fun v w'=>((nv id n∧v=.tuple #[.agg (rfV (rz id n seed) a0).toArray,.int .i64 0])∨(¬ nv id n∧v=.tuple #[.agg (rfV zR a0).toArray,.int .i64 1]))∧ai w w'):=by
 refine enter (n:=29) Tryz.func21 rfl rfl rfl (ak (ag (cf dk ?_)));intro b6 w1 E6 hb6 hk6;have hg6:w.heap.size≤b6:=Nat.le_of_eq hb6.symm;refine asi rfl (aj (af (ak (ak (ag (mvi rfl (fb (v:=.int _ _) ct rfl rfl rfl ?_)))))));intro b10 w2 E10 hb10 hk10;refine aB dK (eL 1 7 (some ⟨b10,0,none⟩) 1 [n] _ (f_ hk10) (by simp)) ?_;rintro v11 w3 ⟨rfl,rfl⟩;refine ab (cl rfl) (mvb rfl (aF (t:=13) rfl (fun Q4=>?_) (fun Q4=>?_)))
 ·with_reducible (replace Q4:=dw Q4;replace Q4:=dF_ Q4)
  (try simp only [bG,bN,and_true] at Q4)
  refine ao rfl rfl (ao rfl rfl (ao rfl rfl (ao rfl rfl (ao rfl rfl (ab (aJ (v:=.bool _) rfl rfl) (aj (af (aL rfl (ak (ag ?_))))))))));refine ab (cp (l:=[]) (fG)) (b0 (vs:=[_,_,_,_,_,_,_,_,_,_,_,_,_,_,_,_,_,_,_,_,_,_]) aK rfl rfl (by simp [Value.oneCell']) ((hk6.from_ (ai.rfl_.next E10))) rfl ?_);intro w5 O2 P2;refine asi rfl (aj (af (aC (az (od rfl (cX (cs:=[_,_,_,_,_,_,_,_,_,_,_,_,_,_,_,_,_,_,_,_,_,_]) aQ aK rfl (by first | exact P5.whole | exact P2.whole)) (dV (v:=.int _ _) rfl) ?_)))));exact ⟨.inr ⟨by unfold nv;omega,rfl⟩,(((ai.rfl_.next E6).next E10).only O2 (hg6))⟩
 with_reducible (replace Q4:=dy Q4;replace Q4:=dT_ Q4)
 (try simp only [bG,bN,and_true] at Q4)
 refine ae rfl (mvi rfl (ae rfl (mvi rfl (ae rfl (fb (v:=.int _ _) ct rfl rfl rfl ?_)))));intro b16 w6 E16 hb16 hk16;refine ae rfl (aB dK (eL 1 n (some ⟨b16,0,none⟩) 1 [id] _ (f_ hk16) (by simp)) ?_);rintro v17 w7 ⟨rfl,rfl⟩;refine ae rfl (ab (cl rfl) (ab (aw (v:=.bool _) rfl rfl) (aj (af (aU rfl (fun Q8=>?_) (fun Q8=>?_))))))
 ·with_reducible (replace Q8:=dw Q8;replace Q8:=dF_ Q8)
  (try simp only [bG,bN,and_true] at Q8)
  refine ak (ag (ab (cp (l:=[]) (fG)) (b0 (vs:=[_,_,_,_,_,_,_,_,_,_,_,_,_,_,_,_,_,_,_,_,_,_]) aK rfl rfl (by simp [Value.oneCell']) ((hk6.from_ ((ai.rfl_.next E10).next E16))) rfl ?_)));intro w9 O2 P2;refine asi rfl (aj (af (aC (az (od rfl (cX (cs:=[_,_,_,_,_,_,_,_,_,_,_,_,_,_,_,_,_,_,_,_,_,_]) aQ aK rfl (by first | exact P5.whole | exact P2.whole)) (dV (v:=.int _ _) rfl) ?_)))));exact ⟨.inr ⟨by unfold nv;omega,rfl⟩,((((ai.rfl_.next E6).next E10).next E16).only O2 (hg6))⟩
 with_reducible (replace Q8:=dy Q8;replace Q8:=dT_ Q8)
 (try simp only [bG,bN,and_true] at Q8)
 refine aM (af (ak (ag (mvi rfl (mvi rfl (mvi rfl (ab (cp (l:=[(0,.tmp 21),(1,.tmp 22),(11,.tmp 23)]) (mR _ _ _)) (ab (cp (l:=[(0,.tmp 24)]) (rU _ _ _ _ _ _ _ _ _ _ _ _ _ _ _ _ _ _ _ _ _ _ _ _ _ _ _ _ _ _ _ _ _ _)) ?_))))))));have hM8:ai _ w6:=((ai.rfl_.next E10).next E16);have hz8:=((((ai.rfl_.next E6).next E10).next E16)).size;refine cf nt ?_;intro b8 w10 E8 hb8 hk8;have hg8:w.heap.size≤b8:=by omega
 have hk6b:=hk6.from_ (hM8.next E8);have h68:b6≠b8:=by have:=(hk6.from_ hM8).lt;omega
 refine b0 (vs:=[_,_,_,_,_,_,_,_,_,_,_,_,_,_,_,_,_,_,_,_,_,_]) kV rfl rfl (by simp [Value.oneCell']) (hk8) rfl ?_;intro w11 O3 P3;have hb8:Blk w11 b8 91 (rfV ({ zR with id:=id,nodes:=n,seed:=seed }:Rf) a0++[]).toArray:=P3;have hk6c:=hk6b.only O3 h68;refine aj (af (ak (ag ?_)));have hB8:ai w w11:=(((((ai.rfl_.next E6).next E10).next E16).next E8).only O3 (hg8));refine aB kU (qo 91 b8 { zR with id:=id,nodes:=n,seed:=seed } a0 [] _ hb8) ?_;rintro v26 w12 ⟨rfl,hb26,hC26⟩;have hk6d:=hk6c.chg hC26 h68;refine aj (af (ak (ag (ab (aa aE rfl) (ab (aG (cs:=rfV (rz id n seed) a0) aQ aK rfl (my (hb26.from_ ai.rfl_))) (b0 (vs:=[_,_,_,_,_,_,_,_,_,_,_,_,_,_,_,_,_,_,_,_,_,_]) aK rfl rfl (by simp [Value.oneCell']) ((hk6d.from_ ai.rfl_)) rfl ?_))))));intro w13 O5 P5;refine asi rfl (aj (af (aC (od rfl (cX (cs:=[_,_,_,_,_,_,_,_,_,_,_,_,_,_,_,_,_,_,_,_,_,_]) aQ aK rfl (by first | exact P5.whole | exact P2.whole)) (dV (v:=.int _ _) rfl) ?_))));exact ⟨.inl ⟨by unfold nv;omega,rfl⟩,((hB8.chg hC26 (fun k hk=>by rw [show k=b8 from hk];exact hg8)).only O5 (hg6))⟩
theorem vk (s:Rf) (a:Ra) (w:World) (hrd:eX w s a) (hl:s.votes.length≤1000000∧s.next.length≤1000000∧s.mtch.length≤1000000∧s.sent.length≤1000000∧s.reads.length≤1000000∧∀ q∈s.reads,q.acks.length≤1000000) (hel:s.es.length≤1000000) (hm:ik s=true) :
 Rt prog 23 [.agg (rfV s a).toArray] w (fun v w'=>yy w w' (iC s) v∧ai w w'):=by
 refine enter (n:=27) Tryz.func23 rfl rfl rfl (ak (ag (bZ (v:=.agg _) rfl ?_)));intro b1 w1 E1 hb1 hk1;refine cf dk ?_;intro b2 w2 E2 hb2 hk2;have hg2:w.heap.size≤b2:=by rw [hb2];exact ((ai.rfl_.next E1)).size
 refine ass rfl (asi rfl (aj (af (ak (ag (ab (aG (cs:=rfV s a) aQ aK rfl (((hk1.from_ E2).from_ ai.rfl_).whole)) ?_))))));have hB9:ai w w2:=((ai.rfl_.next E1).next E2);have hk2b:=hk2.from_ ai.rfl_;have hlt2:=hk2b.lt;refine aB lj (oL s a _ (hrd.from_ ((ai.rfl_.next E1).next E2)) hl hel hm) ?_;rintro v9 w3 ⟨g,rfl,h9⟩;refine mvt rfl (ab (aY rfl rfl) (ab (aY rfl rfl) (asp rfl (asi rfl (aj (af (ak (ak (ag (mvi rfl (ab (cJ (dG rfl rfl) rfl) (aj (af ?_)))))))))))));refine br rfl (aM (af (ak (ag (mvp rfl (aB u4 (xC _ _ 96 g s _ (h9.from_ ai.rfl_) (mJ hm)) ?_))))));rintro v17 w4 ⟨rfl,h17⟩;obtain ⟨tag9,a9,O9,oc9,L9,hs9⟩:=h17.ex;have hF17:=jI h17;have hk2c:=hk2b.from_ hF17;have hz9:=hB9.size;have hBq:ai w w4:=(hB9.next (jI h17));have hn2:b2≠g:=fun e=>by have h1:=hs9.z b2 hlt2;rw [e,hs9.gc] at h1;cases h1
 replace hn2:=hn2.symm;refine aj (af (ak ?_));have hU5:iA [(0,18,.pointer (some ⟨g,0,none⟩)),(1,19,.pointer (some ⟨g,0,none⟩)),(2,20,.pointer (some ⟨g,0+0,none⟩)),(3,21,.pointer (some ⟨g,0+0+0,none⟩)),(4,22,.agg (rfV (iC s).s a9).toArray),(5,23,.pointer (some ⟨g,0,none⟩)),(6,24,.pointer (some ⟨g,0,none⟩)),(7,25,.pointer (some ⟨g,0+22,none⟩)),(8,26,.slice O9 L9.length oc9),(10,3,.slice O9 L9.length oc9),(11,4,.int .i64 0)]:=by simp [iA]
 refine iJ [(0,18,.pointer (some ⟨g,0,none⟩)),(1,19,.pointer (some ⟨g,0,none⟩)),(2,20,.pointer (some ⟨g,0+0,none⟩)),(3,21,.pointer (some ⟨g,0+0+0,none⟩)),(4,22,.agg (rfV (iC s).s a9).toArray),(5,23,.pointer (some ⟨g,0,none⟩)),(6,24,.pointer (some ⟨g,0,none⟩)),(7,25,.pointer (some ⟨g,0+22,none⟩)),(8,26,.slice O9 L9.length oc9),(10,3,.slice O9 L9.length oc9),(11,4,.int .i64 0)] (fun S w'=>Blk w' g 96 ((rfV (iC s).s a9)++[Value.slice O9 L9.length oc9]).toArray∧(∃ cs:Array Value,cs.size=22∧Blk w' b2 29 cs∧(S 9=true→cs=(rfV (iC s).s a9).toArray))∧Chg (fun k=>k=b2) w4 w') (by kernel_rfl) (by kernel_rfl) hU5 (by simp) (⟨(hs9.b.from_ ai.rfl_).from_ ai.rfl_.d1,⟨_,rfl,(hk2c.from_ ai.rfl_).from_ ai.rfl_.d1,fun h=>(by cases h)⟩,ai.rfl_.d1.toChg⟩) ?_ ?_
 ·constructor
  ·rintro S L' wS hI hM hS0 ⟨-⟩;have e5:=hI.1 5 (by simp);have hM':=hM;obtain ⟨hgB,⟨cs9,hs9z,hq9,hqe⟩,hC9⟩:=hM';exact bp (aH e5) ⟨hI.put hU5 (.head _),hM⟩
  constructor
  ·rintro S L' wS hI hM hS0 ⟨d0,-⟩;have e18:bF L' 18=.pointer (some ⟨g,0,none⟩):=hI.get (i:=0) (.head _) d0;have hM':=hM;obtain ⟨hgB,⟨cs9,hs9z,hq9,hqe⟩,hC9⟩:=hM';exact bp (ay e18) ⟨hI.put hU5 (.tail _ (.head _)),hM⟩
  constructor
  ·rintro S L' wS hI hM hS0 ⟨d1,-⟩;have e19:bF L' 19=.pointer (some ⟨g,0,none⟩):=hI.get (i:=1) (.tail _ (.head _)) d1;have hM':=hM;obtain ⟨hgB,⟨cs9,hs9z,hq9,hqe⟩,hC9⟩:=hM';exact bp (aa aN e19) ⟨hI.put hU5 (gM 2 rfl),hM⟩
  constructor
  ·rintro S L' wS hI hM hS0 ⟨d2,-⟩;have e20:bF L' 20=.pointer (some ⟨g,0+0,none⟩):=hI.get (i:=2) (gM 2 rfl) d2;have hM':=hM;obtain ⟨hgB,⟨cs9,hs9z,hq9,hqe⟩,hC9⟩:=hM';exact bp (aa aE e20) ⟨hI.put hU5 (gM 3 rfl),hM⟩
  constructor
  ·rintro S L' wS hI hM hS0 ⟨d3,-⟩;have e21:bF L' 21=.pointer (some ⟨g,0+0+0,none⟩):=hI.get (i:=3) (gM 3 rfl) d3;have hM':=hM;obtain ⟨hgB,⟨cs9,hs9z,hq9,hqe⟩,hC9⟩:=hM';exact bp (aG (cs:=(rfV (iC s).s a9)) aQ aK e21 (my hgB)) ⟨hI.put hU5 (gM 4 rfl),hM⟩
  constructor
  ·rintro S L' wS hI hM hS0 ⟨-,-⟩;have e5:=hI.1 5 (by simp);have hM':=hM;obtain ⟨hgB,⟨cs9,hs9z,hq9,hqe⟩,hC9⟩:=hM';exact bp (aH e5) ⟨hI.put hU5 (gM 5 rfl),hM⟩
  constructor
  ·rintro S L' wS hI hM hS0 ⟨d5,-,-⟩;have e23:bF L' 23=.pointer (some ⟨g,0,none⟩):=hI.get (i:=5) (gM 5 rfl) d5;have hM':=hM;obtain ⟨hgB,⟨cs9,hs9z,hq9,hqe⟩,hC9⟩:=hM';exact bp (ay e23) ⟨hI.put hU5 (gM 6 rfl),hM⟩
  constructor
  ·rintro S L' wS hI hM hS0 ⟨d6,-,-⟩;have e24:bF L' 24=.pointer (some ⟨g,0,none⟩):=hI.get (i:=6) (gM 6 rfl) d6;have hM':=hM;obtain ⟨hgB,⟨cs9,hs9z,hq9,hqe⟩,hC9⟩:=hM';exact bp (aa iK e24) ⟨hI.put hU5 (gM 7 rfl),hM⟩
  constructor
  ·rintro S L' wS hI hM hS0 ⟨d7,-,-⟩;have e25:bF L' 25=.pointer (some ⟨g,0+22,none⟩):=hI.get (i:=7) (gM 7 rfl) d7;have hM':=hM;obtain ⟨hgB,⟨cs9,hs9z,hq9,hqe⟩,hC9⟩:=hM';exact bp (aq ji e25 (by exact (show _=some (Value.slice O9 L9.length oc9) from hgB.rd 22 rfl))) ⟨hI.put hU5 (gM 8 rfl),hM⟩
  constructor
  ·rintro S L' wS hI hM hS0 ⟨d4,d0,d1,d2,d3,d4,-,-,-,-,-⟩;have e2:=hI.1 2 (by simp);have e22:bF L' 22=.agg (rfV (iC s).s a9).toArray:=hI.get (i:=4) (gM 4 rfl) d4;have hM':=hM;obtain ⟨hgB,⟨cs9,hs9z,hq9,hqe⟩,hC9⟩:=hM';obtain ⟨w2,hR,hO,hb⟩:=kZ (n:=27) (L:=L') (x:=.tmp 2) (y:=.tmp 22) (vs:=(rfV (iC s).s a9)) aK e2 e22 (by simp [rfV,Value.oneCell']) hq9 (by rw [hs9z];rfl);exact dZ hR ⟨hI.skip (by simp),hgB.only hO hn2,⟨_,rfl,hb,fun _=>rfl⟩,hC9.next (hO.toChg rfl)⟩
  constructor
  ·rintro S L' wS hI hM hS0 ⟨d8,d9,d0,d1,d2,d3,d4,d5,d6,d7,d8,d9,-⟩;have e26:bF L' 26=.slice O9 L9.length oc9:=hI.get (i:=8) (gM 8 rfl) d8;have hM':=hM;obtain ⟨hgB,⟨cs9,hs9z,hq9,hqe⟩,hC9⟩:=hM';exact bp (cy e26) ⟨hI.put hU5 (gM 9 rfl),hM⟩
  constructor
  ·rintro S L' wS hI hM hS0 ⟨d10,d0,d1,d2,d3,d4,d5,d6,d7,d8,d9,d10,-⟩;have hM':=hM;obtain ⟨hgB,⟨cs9,hs9z,hq9,hqe⟩,hC9⟩:=hM';exact bp (cy rfl) ⟨hI.put hU5 (gM 10 rfl),hM⟩
  exact trivial
 ·intro w6 hM;obtain ⟨hgB,⟨cs9,hs9z,hq9,hqe⟩,hC9⟩:=hM;have hqe:=hqe rfl;subst hqe;refine af (aC (jK rfl (cX (cs:=[_,_,_,_,_,_,_,_,_,_,_,_,_,_,_,_,_,_,_,_,_,_]) aQ aK rfl (by exact hq9.whole)) (dV (v:=.slice _ _ _) rfl) (dV (v:=.int _ _) rfl) ?_));exact ⟨yy.mk_ hs9 (fun k hk=>Nat.lt_of_lt_of_le hk hz9) (hC9.wide (fun k hk=>.inl (by rw [show k=b2 from hk];exact hlt2))),(hBq.chg hC9 (fun k hk=>by rw [show k=b2 from hk];exact hg2))⟩
section
variable {P:Program} {ops:Array Oper} {Q:Exit→Act→World→Prop} {rest:List Oper} {n:Fr} {L:List (Nat×Value)} {w0 w:World} {Z:Nat→Prop} {ty:TypeId} {pos:String} {after:Array Edge} {t:TypeId} {x y:Operand} {T g:Nat} {p:Sp} {s':Rf}
theorem a_.rd {k:Nat} {v:Value} (h:a_ w0 Z w T g p) (hv:∀ a,(rfV p.s a)[k]? =some v):w.cell? ⟨g,k,none⟩=some v:=by
 obtain ⟨tag,a,O,oc,L,hs⟩:=h.ex;exact dO hs.b k (hv a)
theorem fH {k:Nat} {v:Value} (ht:eg P t=some 1) (hx:ev n L x=.pointer (some ⟨g,k,none⟩)) (hy:ev n L y=v) (h1:v.oneCell'=true) (h:a_ w0 Z w T g p) (e:∀ a,k<22∧(rfV p.s a).set k v=rfV s' a)
 (hr:s'.es=p.s.es∧s'.votes=p.s.votes∧s'.next=p.s.next∧s'.mtch=p.s.mtch∧s'.sent=p.s.sent∧s'.reads=p.s.reads)
 (kk:∀ w',a_ w0 Z w' T g ⟨s',p.out⟩→St P ops Q rest n L w'):St P ops Q (⟨none,.store t x y,ty,pos,after,none⟩::rest) n L w:=by
 obtain ⟨tag,a,O,oc,L1,hs⟩:=h.ex;exact cW ht hx hy h1 hs.b (e a) fun w' o b=>kk w' (h.set hs (o.toChg rfl) (bw.same hs.f hr.1 hr.2.1 hr.2.2.1 hr.2.2.2.1 hr.2.2.2.2.1 hr.2.2.2.2.2) b).2
end
def ue (w w':World) (p:Sp) (tag:Nat→Nat) (a:Ra) (O:Option Addr) (oc:Nat) (L:List Msg):Prop:=bw w' tag p.s a∧eF w' tag p.out O oc L∧∀ k,k<w.heap.size→tag k=8
theorem ue.mk_ {w w1 w':World} {T g oc:Nat} {tag:Nat→Nat} {p:Sp} {a:Ra} {O:Option Addr} {L:List Msg} {Z:Nat→Prop} (hs:gQ w1 Z T g tag p a O oc L) (hz:∀ k,k<w.heap.size→Z k) (hC:Chg (fun k=>Z k) w1 w'):ue w w' p tag a O oc L:=by
 have ne:∀ {d:Nat} {A:Option Addr},d≠8→Col tag d A→∀ k,A.map (·.block)=some k→¬ Z k:=fun hd hc k hk e=>hd ((hc k hk).symm.trans (hs.z k e))
 have mv:∀ {d e s n cc:Nat} {A:Option Addr} {xs:List Value},d≠8→w1.ownsRow 0 e s (.slice A n cc) n xs∧Col tag d A→w'.ownsRow 0 e s (.slice A n cc) n xs∧Col tag d A:=fun hd h=>⟨eH h.1 hC (ne hd h.2),h.2⟩
 exact ⟨⟨fun hx=>mv (by decide) (hs.f.e hx),fun hx=>mv (by decide) (hs.f.v hx),fun hx=>mv (by decide) (hs.f.x hx),fun hx=>mv (by decide) (hs.f.m hx),fun hx=>mv (by decide) (hs.f.n hx),hs.f.r,fun hx=>mv (by decide) (hs.f.q hx),fun i hi hx=>mv (by omega) (hs.f.k i hi hx)⟩,⟨(mv (d:=6) (by decide) ⟨hs.m.o,hs.m.c⟩).1,hs.m.l,fun j hj=>mv (by omega) (hs.m.e j hj),hs.m.c⟩,fun k hk=>hs.z k (hz k hk)⟩
def Aw (p:Sp) (a:Ra) (O:Option Addr) (oc:Nat) (L:List Msg):List Value:=[.agg (rfV p.s a).toArray,.slice O L.length oc]
end Go.Proofs.YtkpooenofjdpmaaGreat
namespace Go.Proofs.YtkpooenofjdpmaaGreat
open Go.Proofs.Tryz (prog)
open Go.RowKit
open Go.ChangeShapes Go.WideShapes Go.ChangeAt
theorem ko:prog.built 99 [(0,.int .i64 (-9))]=some #[.int .i64 (-9),.int .i64 0,.string ⟨#[]⟩]:=by kernel_rfl
theorem qz:prog.built 99 []=some #[.int .i64 0,.int .i64 0,.string ⟨#[]⟩]:=by kernel_rfl
theorem nr:aR prog 93=true:=by kernel_rfl
theorem iu:aR prog 43=true:=by kernel_rfl
theorem kp:prog.built 54 [(0,.int .i64 (-9))]=some #[.int .i64 (-9),.int .i64 0,.int .i64 0,.slice none 0 0]:=by kernel_rfl
theorem kq:prog.built 39 [(0,.int .i64 (-9))]=some #[.int .i64 (-9),.int .i64 0,.int .i64 0,.int .i64 0,.int .i64 0,.int .i64 0,.int .i64 0,.int .i64 0,.bool false,.slice none 0 0,.int .i64 0,.string ⟨#[]⟩,.bool false]:=by kernel_rfl
theorem qA:prog.built 39 []=some #[.int .i64 0,.int .i64 0,.int .i64 0,.int .i64 0,.int .i64 0,.int .i64 0,.int .i64 0,.int .i64 0,.bool false,.slice none 0 0,.int .i64 0,.string ⟨#[]⟩,.bool false]:=by kernel_rfl
theorem pq (base:Nat) (A:Option Addr) (c n:Nat) (xs:List Value) (w:World) (ho:w.ownsRow base 99 3 (.slice A n c) n xs) (hb:base≤w.heap.size) (hl:n≤1000000000) :
 Rt prog 93 [.slice A n c] w (fun v w'=>v=.tuple #[]∧w.grownBy w' (A.map (·.block))):=by
 refine enter (n:=17) Tryz.func93 rfl rfl rfl (ak (ak (ag (asi rfl (aj (af (bg (dd (G:=Nat×List Value) [3,4,5,6,7,8,9,10,11,12] (fun (k,_)=>[(2,.int .i64 (k:Nat))]) (fun (k,ys) w'=>k≤n∧w'.ownsRow base 99 3 (.slice A n c) n ys∧w.grownBy w' (A.map (·.block))) (fun (k,_)=>n-k) ((0,xs)) ⟨rfl,trivial⟩ ?_ ?_))))))))
 ·exact ⟨Nat.zero_le _,ho,World.grownBy.refl _ _⟩
 rintro ⟨k,ys⟩ ρ1 w1 ⟨hk,ho2,hG⟩;refine ak (ak (ag (mvi rfl (mvs rfl (ab (bW cC rfl) (ab (b_ rfl rfl) (aj (af (Ab rfl (fun Q2=>?_) (fun Q2=>?_))))))))))
 ·obtain ⟨g,rfl⟩:=fK ho2 (by omega);refine aM (af (ak (bg (ag (mvs rfl (mvi rfl (ab (cp (l:=[(0,.const (.int .i64 (-9)))]) (ko)) (ab (eN dN rfl rfl (by omega)) ?_))))))));refine lF (size:=3) (o:=k*3) (vs:=[.int .i64 (-9),.int .i64 0,.string ⟨#[]⟩]) gG (by show Value.pointer (some ⟨g,0+k*3,none⟩)=_;rw [Nat.zero_add]) rfl (by simp [Value.oneCell']) ho2 (by omega) (by show k*3+3≤n*3;omega) ?_;intro w3 O3 P3;refine aj (bE (af (ag (mvi rfl (ab (cq rfl rfl (by omega)) (asi rfl (aj ?_)))))));refine cu ((k+1,iY ys (k*3) [.int .i64 (-9),.int .i64 0,.string ⟨#[]⟩])) ⟨(by first | rfl | (refine bT ?_;omega)),trivial⟩ (by (iterate 22 refine bI rfl ?_);exact bU) ⟨?_,?_⟩
  ·exact ⟨by omega,P3,eS hG (fc.grown O3)⟩
  ·show n-(k+1)<n-k;omega
 refine cI (bD (bD (cr (af (ag (mvs rfl (ab (cp (l:=[]) (qz)) (lG (l:=[(0,.tmp 14)]) (cells:=#[.int .i64 0,.int .i64 0,.string ⟨#[]⟩]) jh rfl rfl (by first | rfl | kernel_rfl) ?_))))))));intro bx w4 Ex hbx hkx;refine j4 (news:=[.int .i64 0,.int .i64 0,.string ⟨#[]⟩]) jh rfl (by decide) rfl (ho2.kept_from Ex) (Nat.le_trans hb (Nat.le_trans hG.size Ex.size)) rfl rfl (fun _=>⟨bx,0,rfl,hkx.whole⟩) (fun h=>by cases h) (by simp [Value.oneCell']) (by omega) (by omega) ?_;intro Ax cx w5 hox hgx;refine ass rfl (aj (cR (ey rfl (⟨rfl,eS (eS hG (Ex.grown _)) hgx⟩))))
theorem jJ (base:Nat) (A:Option Addr) (c n:Nat) (xs:List Value) (w:World) (ho:w.ownsRow base 3 1 (.slice A n c) n xs) (hb:base≤w.heap.size) (hl:n≤1000000000) :
 Rt prog 43 [.slice A n c] w (fun v w'=>v=.tuple #[]∧w.grownBy w' (A.map (·.block))):=by
 refine enter (n:=15) Tryz.func43 rfl rfl rfl (ak (ak (ag (asi rfl (aj (af (bg (dd (G:=Nat×List Value) [3,4,5,6,7,8,9,10,11] (fun (k,_)=>[(2,.int .i64 (k:Nat))]) (fun (k,ys) w'=>k≤n∧w'.ownsRow base 3 1 (.slice A n c) n ys∧w.grownBy w' (A.map (·.block))) (fun (k,_)=>n-k) ((0,xs)) ⟨rfl,trivial⟩ ?_ ?_))))))))
 ·exact ⟨Nat.zero_le _,ho,World.grownBy.refl _ _⟩
 rintro ⟨k,ys⟩ ρ1 w1 ⟨hk,ho2,hG⟩;refine ak (ak (ag (mvi rfl (mvs rfl (ab (bW cB rfl) (ab (b_ rfl rfl) (aj (af (Ab rfl (fun Q2=>?_) (fun Q2=>?_))))))))))
 ·obtain ⟨g,rfl⟩:=fK ho2 (by omega);refine aM (af (ak (bg (ag (mvs rfl (mvi rfl (ab (ew db rfl rfl (by omega)) (mn (i:=k) (v:=.int .i64 (-99)) aS rfl rfl rfl ho2 (by omega) ?_))))))));intro w3 O3 P3;refine aj (bE (af (ag (mvi rfl (ab (cq rfl rfl (by omega)) (asi rfl (aj ?_)))))));refine cu ((k+1,ys.set k (.int .i64 (-99)))) ⟨(by first | rfl | (refine bT ?_;omega)),trivial⟩ (by (iterate 20 refine bI rfl ?_);exact bU) ⟨?_,?_⟩
  ·exact ⟨by omega,P3,eS hG (fc.grown O3)⟩
  ·show n-(k+1)<n-k;omega
 refine cI (bD (bD (cr (af (ag (mvs rfl (lG (l:=[(0,.const (.int .i64 5))]) (cells:=#[.int .i64 5]) ct rfl rfl (by first | rfl | kernel_rfl) ?_)))))));intro bx w4 Ex hbx hkx;refine j4 (news:=[.int .i64 5]) ct rfl (by decide) rfl (ho2.kept_from Ex) (Nat.le_trans hb (Nat.le_trans hG.size Ex.size)) rfl rfl (fun _=>⟨bx,0,rfl,hkx.whole⟩) (fun h=>by cases h) (by simp [Value.oneCell']) (by omega) (by omega) ?_;intro Ax cx w5 hox hgx;refine ass rfl (aj (cR (ey rfl (⟨rfl,eS (eS hG (Ex.grown _)) hgx⟩))))
def mZ (k:Int):Msg:={ zM with k:=k }
def qZ:Rd×Option Addr×Nat:=(⟨-9,0,0,[]⟩,none,0)
section
variable {α:Type}
def spX (z:α) (X:List α) (k:Nat):List α:=List.replicate k z++X.drop k
theorem j6 {z:α} {X:List α} {k:Nat} (h:k≤X.length):(spX z X k).length=X.length:=by simp [spX];omega
theorem vr {z:α} {X:List α} {k:Nat} (h:k<X.length):(spX z X k)[k]'(by rw [j6 (by omega)];exact h)=X[k]:=by
 simp [spX,List.getElem_append_right]
theorem tJ {z:α} {X:List α} {k:Nat} (h:k<X.length):(spX z X k).set k z=spX z X (k+1):=by
 unfold spX;rw [List.set_append_right _ _ (by simp),List.length_replicate,Nat.sub_self,List.drop_eq_getElem_cons h,List.set_cons_zero,List.replicate_succ',List.append_assoc];rfl
end
theorem zQ (k:Int):Instr.fill (fun i=>some (i*13,13)) ((Array.range (1*13)).map ((.agg (bM (mZ 0)).toArray:Value).cells[·%(.agg (bM (mZ 0)).toArray:Value).cells.size]!)) [(0,.agg (bM (mZ k)).toArray)]=some (bM (mZ k)).toArray:=by
 first
  |kernel_rfl
  |rfl
def U5 (Z:Nat) (tag:Nat→Nat) (j:Nat):Nat→Prop:=fun q=>q<Z∧tag q<j
def UA (Z:Nat) (tag:Nat→Nat) (k:Nat):Nat→Prop:=fun q=>q<Z∧(tag q≤5∨∃ i,i<k∧tag q=1001+2*i)
def UM (Z:Nat) (tag:Nat→Nat) (k:Nat):Nat→Prop:=fun q=>q<Z∧(tag q=6∨∃ i,i<k∧tag q=1000+2*i)
theorem U5.up {Z j:Nat} {tag:Nat→Nat} {w w':World} (h:Chg (U5 Z tag j) w w'):Chg (U5 Z tag (j+1)) w w':=h.wide fun _ h=>.inl ⟨h.1,Nat.lt_succ_of_lt h.2⟩
theorem UA.up {Z k:Nat} {tag:Nat→Nat} {w w':World} (h:Chg (UA Z tag k) w w'):Chg (UA Z tag (k+1)) w w':=h.wide fun _ h=>.inl ⟨h.1,h.2.imp id fun ⟨i,a,b⟩=>⟨i,Nat.lt_succ_of_lt a,b⟩⟩
theorem UM.up {Z k:Nat} {tag:Nat→Nat} {w w':World} (h:Chg (UM Z tag k) w w'):Chg (UM Z tag (k+1)) w w':=h.wide fun _ h=>.inl ⟨h.1,h.2.imp id fun ⟨i,a,b⟩=>⟨i,Nat.lt_succ_of_lt a,b⟩⟩
theorem nU {w0 w1 w2 w3:World} {tag:Nat→Nat} {d e s n c:Nat} {A:Option Addr} {xs:List Value} (h:w0.ownsRow 0 e s (.slice A n c) n xs∧Col tag d A) (hg:w2.grownBy w3 (A.map (·.block))) (hC:Chg (U5 w0.heap.size tag d) w1 w2):Chg (U5 w0.heap.size tag (d+1)) w1 w3:=
 (U5.up hC).next (Chg.of_grown hg fun q hq=>⟨ej h.1 q hq,by rw [h.2 q hq];exact Nat.lt_succ_self _⟩)
theorem j5 (tag:Nat→Nat) (s:Rf) (a:Ra) (w:World) (h:bw w tag s a) (hl:s.votes.length≤1000000∧s.next.length≤1000000∧s.mtch.length≤1000000∧s.sent.length≤1000000∧s.reads.length≤1000000∧∀ q∈s.reads,q.acks.length≤1000000) (hel:s.es.length≤1000000) :
 Rt prog 51 [.agg (rfV s a).toArray] w (fun v w'=>v=.tuple #[]∧Chg (fun q=>StC (tag q)) w w'):=by
 obtain ⟨hl1,hl2,hl3,hl4,hl5,hl6⟩:=id hl;have hLl:a.L.length=s.reads.length:=by rw [←h.r (by decide),List.length_map]
 refine enter (n:=38) Tryz.func51 rfl rfl rfl (ak (ag (bZ (v:=.agg _) rfl ?_)));intro b1 w1 E1 hb1 hk1;refine aj (af (ak (ag (ab (aa bq rfl) (ab (aa ec rfl) (ab (aq cY rfl (by exact (show _=some (Value.slice a.E s.es.length a.Ec) from (hk1.from_ ai.rfl_).rd 8 rfl))) ?_))))));have hz0:=E1.size;have hB1:ai w w1:=(ai.rfl_.next E1);have hC0:Chg (U5 w.heap.size tag 0) w1 w1:=Chg.rfl_;have hkb0:=hk1.from_ ai.rfl_;have hn1:∀ j,¬ U5 w.heap.size tag j b1:=fun j e=>absurd e.1 (by omega)
 have hnA:∀ j,¬ UA w.heap.size tag j b1:=fun j e=>absurd e.1 (by omega)
 obtain ⟨wb,hwb⟩:∃ x,x=w1:=⟨_,rfl⟩;rw [←hwb] at hB1 hC0 hkb0;have hr0:=eH ((h.e (by decide)).1.kept_from hB1) hC0 (fun k hk e=>absurd e.2 (by rw [(h.e (by decide)).2 k hk];omega));refine aB nr (pq 0 a.E a.Ec s.es.length (eb s.es) _ (by rw [←hwb];exact hr0) (Nat.zero_le _) (by omega)) ?_;rintro v6 w2 ⟨rfl,hg0⟩;rw [←hwb] at hg0;have hC1:=nU (h.e (by decide)) hg0 hC0;have hkb1:=hkb0.chg hC1 (hn1 _);refine aj (af (ak (ag (ab (aa di rfl) (ab (aq bn rfl (by exact (show _=some (Value.slice a.V s.votes.length a.Vc) from (hkb1.from_ ai.rfl_).rd 14 rfl))) ?_)))));have hM1:ai _ w2:=ai.rfl_;have hr1:=eH ((h.v (by decide)).1.kept_from hB1) (hC1.next hM1.toChg) (fun k hk e=>absurd e.2 (by rw [(h.v (by decide)).2 k hk];omega));refine aB iu (jJ 0 a.V a.Vc s.votes.length (s.votes.map iV) _ hr1 (Nat.zero_le _) (by omega)) ?_;rintro v9 w3 ⟨rfl,hg1⟩;have hC2:=nU (h.v (by decide)) hg1 (hC1.next hM1.toChg);have hkb2:=hkb0.chg hC2 (hn1 _);refine aj (af (ak (ag (ab (aa cL rfl) (ab (aq bn rfl (by exact (show _=some (Value.slice a.X s.next.length a.Xc) from (hkb2.from_ ai.rfl_).rd 15 rfl))) ?_)))));have hM2:ai _ w3:=ai.rfl_;have hr2:=eH ((h.x (by decide)).1.kept_from hB1) (hC2.next hM2.toChg) (fun k hk e=>absurd e.2 (by rw [(h.x (by decide)).2 k hk];omega));refine aB iu (jJ 0 a.X a.Xc s.next.length (s.next.map iV) _ hr2 (Nat.zero_le _) (by omega)) ?_;rintro v12 w4 ⟨rfl,hg2⟩;have hC3:=nU (h.x (by decide)) hg2 (hC2.next hM2.toChg);have hkb3:=hkb0.chg hC3 (hn1 _);refine aj (af (ak (ag (ab (aa cO rfl) (ab (aq bn rfl (by exact (show _=some (Value.slice a.M s.mtch.length a.Mc) from (hkb3.from_ ai.rfl_).rd 16 rfl))) ?_)))));have hM3:ai _ w4:=ai.rfl_;have hr3:=eH ((h.m (by decide)).1.kept_from hB1) (hC3.next hM3.toChg) (fun k hk e=>absurd e.2 (by rw [(h.m (by decide)).2 k hk];omega));refine aB iu (jJ 0 a.M a.Mc s.mtch.length (s.mtch.map iV) _ hr3 (Nat.zero_le _) (by omega)) ?_;rintro v15 w5 ⟨rfl,hg3⟩;have hC4:=nU (h.m (by decide)) hg3 (hC3.next hM3.toChg);have hkb4:=hkb0.chg hC4 (hn1 _);refine aj (af (ak (ag (ab (aa cT rfl) (ab (aq bn rfl (by exact (show _=some (Value.slice a.S s.sent.length a.Sc) from (hkb4.from_ ai.rfl_).rd 17 rfl))) ?_)))));have hM4:ai _ w5:=ai.rfl_;have hr4:=eH ((h.n (by decide)).1.kept_from hB1) (hC4.next hM4.toChg) (fun k hk e=>absurd e.2 (by rw [(h.n (by decide)).2 k hk];omega));refine aB iu (jJ 0 a.S a.Sc s.sent.length (s.sent.map iV) _ hr4 (Nat.zero_le _) (by omega)) ?_;rintro v18 w6 ⟨rfl,hg4⟩;have hC5:=nU (h.n (by decide)) hg4 (hC4.next hM4.toChg);have hkb5:=hkb0.chg hC5 (hn1 _);refine aj (af (ak (ag (asi rfl (aj (af (bg (dd (G:=Nat) [19,20,21,22,23,24,25,26,27,28,29,30,31,32,33,34,35,36,37] (fun k=>[(2,.int .i64 (k:Nat))]) (fun k w'=>k≤a.L.length∧w'.ownsRow 0 54 4 (.slice a.Q a.L.length a.Qc) a.L.length ((spX qZ a.L k).flatMap rdV)∧Chg (UA w.heap.size tag k) wb w') (fun k=>a.L.length-k) (0) ⟨rfl,trivial⟩ ?_ ?_))))))))
 ·exact ⟨Nat.zero_le _,eH ((h.q (by decide)).1.kept_from hB1) (hC5.next (ai.rfl_:ai _ w6).toChg) (fun k hk e=>absurd e.2 (by rw [(h.q (by decide)).2 k hk];omega)),(hC5.next (ai.rfl_:ai _ w6).toChg).wide fun q e=>.inl ⟨e.1,.inl (by have:=e.2;omega)⟩⟩
 rintro k ρ7 w7 ⟨hk,hoQ,hCk⟩;refine ak (ak (ag (mvi rfl (ab (aa bL rfl) (ab (aq dc rfl (by exact (show _=some (Value.slice a.Q a.L.length a.Qc) from ((hkb0.chg hCk (hnA _)).from_ ai.rfl_).rd 19 rfl))) ?_)))));refine ab (bW dR rfl) (ab (b_ rfl rfl) (aj (af (Ab rfl (fun Q8=>?_) (fun Q8=>?_)))))
 ·have hkL:k<a.L.length:=by omega
  have hqk:a.L[k].1∈s.reads:=by rw [←h.r (by decide)];exact List.mem_map_of_mem (List.getElem_mem hkL)
  obtain ⟨gq,hgq⟩:∃ g,a.Q=some ⟨g,0,none⟩:=fK hoQ (by omega);have hcq:∀ q,a.Q.map (·.block)=some q→tag q=5:=fun q hq=>(h.q (by decide)).2 q hq
  have hlq:=ej (h.q (by decide)).1;rw [hgq] at hoQ hcq hlq;have hkq:Blk w7 b1 29 (rfV s { a with Q:=some ⟨gq,0,none⟩ }).toArray:=by rw [←hgq];exact (hkb0.chg hCk (hnA _)).from_ ai.rfl_
  obtain ⟨bx,ox,hAx,hcx⟩:=(im.own ju (by decide) hoQ).2 (by rw [j6 (by omega)];omega);cases hAx;have hvx:=hcx k (by rw [j6 (by omega)];exact hkL);rw [vr hkL] at hvx;have hc31:(w7).cell? ⟨gq,0+k*4+3,none⟩=some (.slice a.L[k].2.1 a.L[k].1.acks.length a.L[k].2.2):=fq ai.rfl_ (hvx 3 _ rfl);refine aM (af (ak (bg (ak (ag (ab (aa bL rfl) (ab (aq dc rfl (by exact (show _=some (Value.slice (some ⟨gq,0,none⟩) a.L.length a.Qc) from (hkq.from_ ai.rfl_).rd 19 rfl))) ?_)))))));refine mvi rfl (ab (cn fx rfl rfl (by omega)) (ab (aa ep rfl) (ab (aq bn rfl (by exact fq ai.rfl_ hc31)) ?_)));have hM32:ai _ w7:=ai.rfl_;have hrk:=eH ((h.k k hkL (by omega)).1.kept_from hB1) (hCk.next hM32.toChg) (fun q hq e=>by rcases e.2 with e2 | ⟨i,hi,e2⟩ <;> rw [(h.k k hkL (by omega)).2 q hq] at e2 <;> omega);refine aB iu (jJ 0 a.L[k].2.1 a.L[k].2.2 a.L[k].1.acks.length (a.L[k].1.acks.map iV) _ hrk (Nat.zero_le _) (by have:=hl.2.2.2.2.2 _ hqk;omega)) ?_;rintro v32 w9 ⟨rfl,hg32⟩;have hC9:Chg (UA w.heap.size tag (k+1)) wb w9:=(UA.up (hCk.next hM32.toChg)).next (Chg.of_grown hg32 fun q hq=>⟨ej (h.k k hkL (by omega)).1 q hq,.inr ⟨k,Nat.lt_succ_self _,(h.k k hkL (by omega)).2 q hq⟩⟩);have hoQ9:=eH (hoQ.kept_from hM32) (Chg.of_grown (U:=fun q=>tag q=1001+2*k) hg32 fun q hq=>(h.k k hkL (by omega)).2 q hq) (fun q hq e=>by have:=hcq q hq;omega);refine aj (af (ag (ab (aa bL rfl) ?_)));refine ab (aq dc rfl (by exact (show _=some (Value.slice (some ⟨gq,0,none⟩) a.L.length a.Qc) from by rw [←hgq];exact ((hkb0.chg hC9 (hnA _)).from_ ai.rfl_).rd 19 rfl))) ?_;refine mvi rfl (ab (cp (l:=[(0,.const (.int .i64 (-9)))]) (kp)) (ab (cn fx rfl rfl (by omega)) ?_));have hM10:ai _ w9:=ai.rfl_;have hoQ8:=hoQ9.kept_from hM10;obtain ⟨g',cur,hgA,_,hbk,_⟩:=nE hoQ8 (by omega);cases hgA;refine lF (size:=4) (o:=k*4) (vs:=rdV qZ) ef (by show Value.pointer (some ⟨gq,0+k*4,none⟩)=_;rw [Nat.zero_add]) rfl (by simp [rdV,qZ,Value.oneCell']) hoQ8 (by omega) (by show k*4+4≤a.L.length*4;omega) ?_;intro w10 O10 P10;rw [pE ju _ k (by rw [j6 (by omega)];exact hkL),tJ hkL] at P10;have hC10:Chg (UA w.heap.size tag (k+1)) wb w10:=(hC9.next hM10.toChg).next (O10.toChg ⟨hlq gq rfl,.inl (by have:=hcq gq rfl;omega)⟩);rw [←hgq] at P10;refine aj (bE (af (ag (mvi rfl (ab (cq rfl rfl (by omega)) (asi rfl (aj ?_)))))));refine cu (k+1) ⟨(by first | rfl | (refine bT ?_;omega)),trivial⟩ (by (iterate 40 refine bI rfl ?_);exact bU) ⟨?_,?_⟩
  ·exact ⟨by omega,P10.kept_from ai.rfl_,(hC10.next (ai.rfl_:ai _ w10).toChg)⟩
  ·omega
 refine cI (bD (bD (cr (cR (ey rfl (⟨rfl,(hB1.toChg.next ((hCk.next (ai.rfl_:ai _ w7).toChg).wide fun q e=>.inl ?_))⟩))))));rcases e.2 with e2 | ⟨i,_,e2⟩
 ·exact .inl e2
 ·exact .inr ⟨i,e2⟩
theorem lQ (tag:Nat→Nat) (out:List Msg) (A:Option Addr) (c:Nat) (L:List Msg) (w:World) (h:eF w tag out A c L) (hl:L.length≤100000) (hle:∀ x∈L,x.es.length≤1000000) :
 Rt prog 52 [.slice A L.length c] w (fun v w'=>v=.tuple #[]∧Chg (fun q=>tag q=6∨∃ i,tag q=1000+2*i) w w'):=by
 refine enter (n:=23) Tryz.func52 rfl rfl rfl (ak (ak (ag (asi rfl (aj (af (bg (dd (G:=Nat) [3,4,5,6,7,8,9,10,11,12,13,14,15,16,17,18] (fun k=>[(2,.int .i64 (k:Nat))]) (fun k w'=>k≤L.length∧w'.ownsRow 0 39 13 (.slice A L.length c) L.length ((spX (mZ (-9)) L k).flatMap bM)∧Chg (UM w.heap.size tag k) w w') (fun k=>L.length-k) (0) ⟨rfl,trivial⟩ ?_ ?_))))))))
 ·exact ⟨Nat.zero_le _,h.o.kept_from ai.rfl_,(ai.rfl_:ai _ w).toChg⟩
 rintro k ρ1 w1 ⟨hk,hoQ,hCk⟩;refine ak (ak (ag (mvi rfl (mvs rfl (ab (bW ll rfl) (ab (b_ rfl rfl) (aj (af (Ab rfl (fun Q2=>?_) (fun Q2=>?_))))))))))
 ·have hkX:k<L.length:=by omega
  obtain ⟨g,hgq⟩:∃ g,A=some ⟨g,0,none⟩:=fK hoQ (by omega);subst hgq;have hcq:∀ q,(some (⟨g,0,none⟩:Addr)).map (·.block)=some q→tag q=6:=fun q hq=>h.c q hq
  have hlq:=ej h.o;have hEk:=hle _ (List.getElem_mem hkX);obtain ⟨bx,ox,hAx,hcx⟩:=(im.own nF (by decide) hoQ).2 (by rw [j6 (by omega)];omega);cases hAx;have hvx:=hcx k (by rw [j6 (by omega)];exact hkX);rw [vr hkX] at hvx;refine aM (af (ak (bg (ak (ag (mvs rfl (mvi rfl (ab (cn ln rfl rfl (by omega)) (ab (aa dC rfl) (ab (aq cY rfl (by exact fq ai.rfl_ (hvx 9 _ rfl))) ?_))))))))));have hM14:ai _ w1:=ai.rfl_;have hrk:=eH (h.e k hkX).1 (hCk.next hM14.toChg) (fun q hq e=>by rcases e.2 with e2 | ⟨i,hi,e2⟩ <;> rw [(h.e k hkX).2 q hq] at e2 <;> omega);refine aB nr (pq 0 L[k].E L[k].c L[k].es.length (eb L[k].es) _ hrk (Nat.zero_le _) (by omega)) ?_;rintro v14 w3 ⟨rfl,hg14⟩;have hC9:Chg (UM w.heap.size tag (k+1)) w w3:=(UM.up (hCk.next hM14.toChg)).next (Chg.of_grown hg14 fun q hq=>⟨ej (h.e k hkX).1 q hq,.inr ⟨k,Nat.lt_succ_self _,(h.e k hkX).2 q hq⟩⟩);have hoQ9:=eH (hoQ.kept_from hM14) (Chg.of_grown (U:=fun q=>tag q=1000+2*k) hg14 fun q hq=>(h.e k hkX).2 q hq) (fun q hq e=>by have:=hcq q hq;omega);refine aj (af (ag (mvs rfl (mvi rfl (ab (cp (l:=[(0,.const (.int .i64 (-9)))]) (kq)) (ab (cn ln rfl rfl (by omega)) ?_))))));have hM10:ai _ w3:=ai.rfl_;have hoQ8:=hoQ9.kept_from hM10;obtain ⟨g',cur,hgA,_,hbk,_⟩:=nE hoQ8 (by omega);cases hgA;refine lF (size:=13) (o:=k*13) (vs:=bM (mZ (-9))) aP (by show Value.pointer (some ⟨g,0+k*13,none⟩)=_;rw [Nat.zero_add]) rfl (by simp [bM,mZ,zM,Value.oneCell']) hoQ8 (by omega) (by show k*13+13≤L.length*13;omega) ?_;intro w4 O10 P10;rw [pE nF _ k (by rw [j6 (by omega)];exact hkX),tJ hkX] at P10;have hC10:Chg (UM w.heap.size tag (k+1)) w w4:=(hC9.next hM10.toChg).next (O10.toChg ⟨hlq g rfl,.inl (by have:=hcq g rfl;omega)⟩);refine aj (bE (af (ag (mvi rfl (ab (cq rfl rfl (by omega)) (asi rfl (aj ?_)))))));refine cu (k+1) ⟨(by first | rfl | (refine bT ?_;omega)),trivial⟩ (by (iterate 34 refine bI rfl ?_);exact bU) ⟨?_,?_⟩
  ·exact ⟨by omega,P10.kept_from ai.rfl_,hC10.next (ai.rfl_:ai _ w4).toChg⟩
  ·omega
 refine cI (bD (bD (cr (af (ag (mvs rfl (ab (cp (l:=[]) (qA)) ?_)))))));have hM21:ai _ w1:=ai.rfl_;refine lG (l:=[(0,.tmp 20)]) (cells:=(bM (mZ 0)).toArray) h_ rfl rfl (zQ 0) ?_;intro b21 w5 E21 hb21 hk21;have hM22:ai _ w5:=(hM21.next E21);have ho9:=hoQ.kept_from hM22;refine j4 (base:=0) (news:=bM (mZ 0)) h_ rfl (by decide) rfl ho9 (Nat.zero_le _) rfl rfl (fun _=>⟨b21,0,rfl,hk21.whole⟩) (fun h=>by cases h) (by simp [bM,mZ,zM,Value.oneCell']) (by omega) (by omega) ?_;intro A22 c22 w6 ho22 hg22;have hC22:Chg (UM w.heap.size tag L.length) w w6:=((hCk.wide fun q e=>.inl ⟨e.1,e.2.imp id fun ⟨i,a,b⟩=>⟨i,by omega,b⟩⟩).next hM22.toChg).next (Chg.of_grown hg22 fun q hq=>⟨ej h.o q hq,.inl (h.c q hq)⟩);refine ass rfl (aj (cR (ey rfl (⟨rfl,(hC22.next (ai.rfl_:ai _ w6).toChg).wide fun q e=>.inl (e.2.imp id fun ⟨i,_,b⟩=>⟨i,b⟩)⟩))))
end Go.Proofs.YtkpooenofjdpmaaGreat
namespace Go.Proofs.YtkpooenofjdpmaaGreat
open Go.Proofs.Tryz (prog)
open Go.RowKit
abbrev uf:Ty:=.pr (.int .i64) (.pr (.int .i64) (.pr .str .unit))
theorem tX {w:World} {c:Nat→Option Value} {xs:List uf.den} (h:(Ty.sl uf).At w c xs) :
 ∃ (v:Value) (es:List Ent),c 0=some v∧cF w v es∧(∀ e∈es,e.Ok)∧es.length*32≤140737488351232:=by
 obtain ⟨A,cap,h0,h1,h2,h3⟩:=h;refine ⟨_,xs.map fun x=>⟨x.1,x.2.1,x.2.2.1⟩,h0,⟨A,cap,by rw [List.length_map],by rw [List.length_map];exact h2.1,h2.2.1,h2.2.2,fun hp=>?_⟩,?_,by rw [List.length_map];exact h1⟩
 ·rw [List.length_map] at hp;obtain ⟨b,o,hA,hb,hi⟩:=h3 hp;refine ⟨b,o,hA,hb,fun i hil=>?_⟩;rw [List.length_map] at hil;obtain ⟨⟨c1,_⟩,⟨c2,_⟩,⟨c3,_⟩,_⟩:=hi i _ (List.getElem?_eq_getElem hil);rw [List.getElem_map];exact ⟨c1,c2,c3⟩
 ·intro e he;simp only [List.mem_map] at he;obtain ⟨x,hx,rfl⟩:=he;obtain ⟨i,hil,rfl⟩:=List.mem_iff_getElem.1 hx;obtain ⟨b,o,hA,hb,hi⟩:=h3 (Nat.lt_of_le_of_lt (Nat.zero_le _) hil);obtain ⟨⟨_,c1⟩,⟨_,c2⟩,⟨_,c3⟩,_⟩:=hi i _ (List.getElem?_eq_getElem hil);have b1:=bounds_i64 c1;have b2:=bounds_i64 c2;exact ⟨b1.1,b1.2,b2.1,b2.2,c3⟩
end Go.Proofs.YtkpooenofjdpmaaGreat
namespace Go.Proofs.YtkpooenofjdpmaaGreat
open Go.Proofs.Tryz (prog)
open Go.RowKit
open Go.ChangeShapes Go.WideShapes Go.ChangeAt
theorem sh:cP prog 99 2=some 2:=by kernel_rfl
theorem sg:(prog.underlying 3).isSome=true:=by kernel_rfl
theorem oW:prog.underlying 108=some (.int .u64):=by kernel_rfl
theorem tz:(prog.underlying 108).isSome=true:=by kernel_rfl
theorem xj:prog.underlying 3=some (.int .i64):=by kernel_rfl
theorem p5:aR prog 25=true:=by kernel_rfl
abbrev Ai:Ty:=.pr (.int .i64) (.pr (.int .i64) (.pr (.int .i64) (.pr (.int .i64) (.pr (.int .i64) (.pr (.int .i64) (.pr (.int .i64) (.pr (.int .i64) (.pr .bool (.pr (.sl uf) (.pr (.int .i64) (.pr .str (.pr .bool .unit))))))))))))
abbrev s7:Ty:=.pr (.int .i64) (.pr Ai (.pr .bool (.pr .str (.pr (.int .i64) .unit))))
abbrev vJ:Ty:=.pr (.int .i64) (.pr (.int .i64) (.pr (.int .i64) (.pr (.sl (.int .i64)) .unit)))
abbrev Am:Ty:=.pr (.int .i64) (.pr (.int .i64) (.pr (.sl uf) .unit))
abbrev oe:Ty:=.pr (.int .i64) (.pr (.int .i64) (.pr (.int .i64) (.pr (.int .i64) (.pr (.int .i64) (.pr (.int .i64) (.pr Am (.pr .str (.pr (.int .i64) (.pr (.int .i64) (.pr (.int .i64) (.pr (.int .u64) (.pr (.sl (.int .i64)) (.pr (.sl (.int .i64)) (.pr (.sl (.int .i64)) (.pr (.sl (.int .i64)) (.pr (.int .i64) (.pr (.sl vJ) (.pr .str (.pr (.int .i64) .unit)))))))))))))))))))
structure Ac where
 dx:Int
 m:Msg
 fit:Bool
 d:ByteArray
 i:Int
def acV (x:Ac):List Value:=.int .i64 x.dx::(bM x.m++[.bool x.fit,.string x.d,.int .i64 x.i])
theorem ua {α:Type} {f:α→List Value} {t:Ty} {w:World} {P:α→Prop} (hg:∀ (c:Nat→Option Value) (x:t.den),t.At w c x→∃ y:α,(∀ j v,(f y)[j]? =some v→c j=some v)∧P y) {c:Nat→Option Value} {xs:List t.den} (h:(Ty.sl t).At w c xs) :
 ∃ (A:Option Addr) (cap:Nat) (L:List α),c 0=some (.slice A L.length cap)∧im t.size f w A L∧(∀ y∈L,P y)∧L.length*t.bytes≤140737488351232∧L.length≤cap∧cap≤9223372036854775807∧(A=none→L.length=0∧cap=0):=by
 obtain ⟨A,cap,h0,h1,h2,h3⟩:=h
 have hno:A=none→xs.length=0:=fun e=>by
  rcases Nat.eq_zero_or_pos xs.length with hz | hz
  ·exact hz
  ·obtain ⟨b,o,hA,_⟩:=h3 hz;rw [e] at hA;cases hA
 rcases Nat.eq_zero_or_pos xs.length with hz | hz
 ·refine ⟨A,cap,[],by rw [h0];rw [hz];rfl,fun h=>absurd h (Nat.lt_irrefl _),fun y hy=>(by cases hy),(by rw [List.length_nil,Nat.zero_mul];exact Nat.zero_le _),Nat.zero_le _,h2.2.1,fun e=>⟨rfl,h2.2.2 e⟩⟩
 ·obtain ⟨b,o,hA,hb,hi⟩:=h3 hz;have g:∀ i:Fin xs.length,∃ y:α,(∀ j v,(f y)[j]? =some v→w.cell? ⟨b,o+i*t.size+j,none⟩=some v)∧P y:=fun i=>hg _ _ (hi i.1 xs[i.1] (List.getElem?_eq_getElem i.2))
  refine ⟨A,cap,List.ofFn fun i=>Classical.choose (g i),by rw [List.length_ofFn];exact h0,fun _=>⟨b,o,hA,fun i hil=>?_⟩,fun y hy=>?_,by rw [List.length_ofFn];exact h1,by rw [List.length_ofFn];exact h2.1,h2.2.1,fun e=>⟨by rw [List.length_ofFn];exact hno e,h2.2.2 e⟩⟩
  ·rw [List.length_ofFn] at hil;intro j v hv;rw [List.getElem_ofFn] at hv;exact (Classical.choose_spec (g ⟨i,hil⟩)).1 j v hv
  ·obtain ⟨i,hil,rfl⟩:=List.getElem_of_mem hy;rw [List.length_ofFn] at hil;rw [List.getElem_ofFn];exact (Classical.choose_spec (g ⟨i,hil⟩)).2
theorem rQ {w:World} {c:Nat→Option Value} {xs:List Int} (h:(Ty.sl (.int .i64)).At w c xs):∃ (A:Option Addr) (cap:Nat),c 0=some (.slice A xs.length cap)∧IR w A cap xs∧xs.length*8≤140737488351232:=by
 have h':=h;obtain ⟨A0,c0,g0,g1,g2,g3⟩:=h';obtain ⟨A,cap,h0,hr,_,hb,hc⟩:=yu h;rw [g0] at h0;cases h0;refine ⟨A0,c0,g0,⟨(eu.of_row hr).2,hc.1,hc.2,fun e=>⟨?_,g2.2.2 e⟩⟩,hb⟩;rcases Nat.eq_zero_or_pos xs.length with hz | hz
 ·exact hz
 ·obtain ⟨b,o,hA,_⟩:=g3 hz;rw [e] at hA;cases hA
def As (w:World) (q:Rd×Option Addr×Nat):Prop:=IR w q.2.1 q.2.2 q.1.acks∧q.1.acks.length*8≤140737488351232
theorem yq {w:World} (c:Nat→Option Value) (x:vJ.den) (h:vJ.At w c x):∃ q:Rd×Option Addr×Nat,(∀ j v,(rdV q)[j]? =some v→c j=some v)∧As w q:=by
 obtain ⟨x0,x1,x2,xl,_⟩:=x;obtain ⟨g0,g1,g2,gl,_⟩:=h;obtain ⟨A,cap,e0,e1,e2⟩:=rQ gl;refine ⟨(⟨x0,x1,x2,xl⟩,A,cap),fun j v hv=>?_,e1,e2⟩
 match j,hv with
 |0,hv=>cases hv;exact g0.1
 |1,hv=>cases hv;exact g1.1
 |2,hv=>cases hv;exact g2.1
 |3,hv=>cases hv;exact e0
 |j+4,hv=>simp [rdV] at hv
def vc (w:World) (x:Ac):Prop:=cF w (.slice x.m.E x.m.es.length x.m.c) x.m.es∧(∀ e∈x.m.es,e.Ok)∧x.m.es.length*32≤140737488351232∧x.m.d.size≤140737488351232∧x.d.size≤140737488351232
theorem vc.from_ {w w':World} {x:Ac} (h:vc w x) (hF:ai w w'):vc w' x:=⟨h.1.from_ hF,h.2⟩
theorem zg {w:World} (c:Nat→Option Value) (x:s7.den) (h:s7.At w c x):∃ X:Ac,(∀ j v,(acV X)[j]? =some v→c j=some v)∧vc w X:=by
 obtain ⟨x0,⟨xk,xf,xt,xtm,xix,xlt,xcm,xrd,xok,xE,xa,xd,xdn,_⟩,xb,xs,xi,_⟩:=x;obtain ⟨g0,⟨g1,g2,g3,g4,g5,g6,g7,g8,g9,gE,g11,g12,g13,_⟩,g14,g15,g16,_⟩:=h;obtain ⟨v,es,e0,e1,e2,e3⟩:=tX gE;have e1':=e1;obtain ⟨E,c9,rfl,_⟩:=e1';refine ⟨⟨x0,{ zM with k:=xk,f:=xf,t:=xt,tm:=xtm,ix:=xix,lt:=xlt,cm:=xcm,rd:=xrd,ok:=xok,a:=xa,d:=xd,dn:=xdn,E:=E,c:=c9,es:=es },xb,xs,xi⟩,fun j v hv=>?_,e1,e2,e3,g12.2,g15.2⟩
 match j,hv with
 |0,hv=>cases hv;exact g0.1
 |1,hv=>cases hv;exact g1.1
 |2,hv=>cases hv;exact g2.1
 |3,hv=>cases hv;exact g3.1
 |4,hv=>cases hv;exact g4.1
 |5,hv=>cases hv;exact g5.1
 |6,hv=>cases hv;exact g6.1
 |7,hv=>cases hv;exact g7.1
 |8,hv=>cases hv;exact g8.1
 |9,hv=>cases hv;exact g9
 |10,hv=>cases hv;exact e0
 |11,hv=>cases hv;exact g11.1
 |12,hv=>cases hv;exact g12.1
 |13,hv=>cases hv;exact g13
 |14,hv=>cases hv;exact g14
 |15,hv=>cases hv;exact g15.1
 |16,hv=>cases hv;exact g16.1
 |j+17,hv=>simp [acV,bM] at hv
structure Ag (s:Rf) (a:Ra):Prop where
 sn:s.snap.size≤140737488351232
 pa:s.part.size≤140737488351232
 es:s.es.length*32≤140737488351232
 eo:∀ e∈s.es,e.Ok
 v:s.votes.length*8≤140737488351232
 x:s.next.length*8≤140737488351232
 m:s.mtch.length*8≤140737488351232
 n:s.sent.length*8≤140737488351232
 q:a.L.length*48≤140737488351232
 k:∀ q∈a.L,q.1.acks.length*8≤140737488351232
theorem yr {w:World} {c:Nat→Option Value} {x:oe.den} (h:oe.At w c x):∃ (s:Rf) (a:Ra),(∀ j v,(rfV s a)[j]? =some v→c j=some v)∧eX w s a∧Ag s a:=by
 obtain ⟨x0,x1,x2,x3,x4,x5,⟨xb,xt,xe,_⟩,xsn,xco,xel,xti,xse,xv,xx,xm,xn,xro,xq,xpa,xpo,_⟩:=x;obtain ⟨g0,g1,g2,g3,g4,g5,⟨g6,g7,g8,_⟩,g9,g10,g11,g12,g13,g14,g15,g16,g17,g18,g19,g20,g21,_⟩:=h;obtain ⟨v,es,e0,e1,e2,e3⟩:=tX g8;have e1':=e1;obtain ⟨E,Ec,rfl,_⟩:=e1';obtain ⟨V,Vc,v0,v1,v2⟩:=rQ g14;obtain ⟨X,Xc,y0,y1,y2⟩:=rQ g15;obtain ⟨M,Mc,m0,m1,m2⟩:=rQ g16;obtain ⟨N,Nc,n0,n1,n2⟩:=rQ g17;obtain ⟨Q,Qc,L,q0,q1,q2,q3,q4,q5,q6⟩:=ua (f:=rdV) yq g19;refine ⟨{ id:=x0,nodes:=x1,role:=x2,term:=x3,vote:=x4,leader:=x5,b:=xb,t:=xt,es:=es,snap:=xsn,commit:=xco,elapsed:=xel,timeout:=xti,seed:=xse,votes:=xv,next:=xx,mtch:=xm,sent:=xn,round:=xro,reads:=L.map (fun q=>q.1),part:=xpa,partOf:=xpo },⟨E,Ec,V,Vc,X,Xc,M,Mc,N,Nc,Q,Qc,L⟩,fun j v hv=>?_,⟨e1,v1,y1,m1,n1,rfl,q1,⟨q4,q5,q6⟩,fun q hq=>(q2 q hq).1⟩,⟨g9.2,g20.2,e3,e2,v2,y2,m2,n2,q3,fun q hq=>(q2 q hq).2⟩⟩
 match j,hv with
 |0,hv=>cases hv;exact g0.1
 |1,hv=>cases hv;exact g1.1
 |2,hv=>cases hv;exact g2.1
 |3,hv=>cases hv;exact g3.1
 |4,hv=>cases hv;exact g4.1
 |5,hv=>cases hv;exact g5.1
 |6,hv=>cases hv;exact g6.1
 |7,hv=>cases hv;exact g7.1
 |8,hv=>cases hv;exact e0
 |9,hv=>cases hv;exact g9.1
 |10,hv=>cases hv;exact g10.1
 |11,hv=>cases hv;exact g11.1
 |12,hv=>cases hv;exact g12.1
 |13,hv=>cases hv;exact g13.1
 |14,hv=>cases hv;exact v0
 |15,hv=>cases hv;exact y0
 |16,hv=>cases hv;exact m0
 |17,hv=>cases hv;exact n0
 |18,hv=>cases hv;exact g18.1
 |19,hv=>cases hv;exact q0
 |20,hv=>cases hv;exact g20.1
 |21,hv=>cases hv;exact g21.1
 |j+22,hv=>simp [rfV] at hv
structure tb (w:World) (s:Rf) (a:Ra) (LA:Option Addr) (X:List Ac):Prop where
 r:eX w s a
 z:Ag s a
 x:im 17 acV w LA X
 o:∀ y∈X,vc w y
 n:X.length*147≤140737488351232
theorem tb.from_ {w w':World} {s:Rf} {a:Ra} {LA:Option Addr} {X:List Ac} (h:tb w s a LA X) (hF:ai w w'):tb w' s a LA X:=⟨h.r.from_ hF,h.z,h.x.from_ hF,fun y hy=>(h.o y hy).from_ hF,h.n⟩
def scV (s:Rf) (a:Ra) (LA:Option Addr) (n lc:Nat):List Value:=rfV s a++[.slice LA n lc]
theorem Ar {cs:Array Value} {l:List Value} (hs:cs.size=l.length) (h:∀ (j:Nat) (v:Value),l[j]? =some v→cs[j]? =some v):cs=l.toArray:=by
 apply Array.ext_getElem?;intro i;rcases Nat.lt_or_ge i l.length with hi | hi
 ·rw [h i _ (List.getElem?_eq_getElem hi)];simp [hi]
 ·rw [Array.getElem?_eq_none (by omega)];simp [hi]
theorem u1 {w:World} {cs:Array Value} {x:(Ty.pr oe (.pr (.sl s7) .unit)).den} (hs:cs.size=23) (h:(Ty.pr oe (.pr (.sl s7) .unit)).At w (fun j=>cs[j]?) x):∃ s a LA lc X,cs=(scV s a LA (List.length X) lc).toArray∧tb w s a LA X:=by
 obtain ⟨h1,h2,_⟩:=h;obtain ⟨s,a,hc,hr,hz⟩:=yr h1;obtain ⟨LA,lc,X,q0,q1,q2,q3,q4,q5,q6⟩:=ua (f:=acV) zg h2;refine ⟨s,a,LA,lc,X,Ar hs fun j v hv=>?_,⟨hr,hz,q1,q2,q3⟩⟩;unfold scV at hv;rcases Nat.lt_or_ge j 22 with hj | hj
 ·rw [List.getElem?_append_left (show j<(rfV s a).length from hj)] at hv;exact hc j v hv
 ·rw [List.getElem?_append_right (show (rfV s a).length≤j from hj)] at hv
  obtain rfl:j=22:=by
   have:=(List.getElem?_eq_some_iff.1 hv).1;rw [lS] at this;simp at this;omega
  simp [lS] at hv;subst hv;exact q0
def Small (s:Rf) (X:List Ac):Prop:=(s.votes.length≤20000∧s.next.length≤20000∧s.mtch.length≤20000∧s.sent.length≤20000∧s.reads.length≤20000∧∀ q∈s.reads,q.acks.length≤20000)∧s.es.length≤600∧X.length≤100∧(s.snap.size≤20000∧s.part.size≤20000)∧∀ y∈X,y.m.es.length≤200∧y.m.d.size≤20000∧y.d.size≤20000
theorem wI {w:World} {A:Option Addr} {n c:Nat} {es:List Ent} (h:cF w (.slice A n c) es) (hs:∀ e∈es,e.Ok) (h0:0<n):∃ b o,A=some ⟨b,o,none⟩∧∀ j,j<n→∃ s:ByteArray,w.cell? ⟨b,o+j*3+2,none⟩=some (.string s)∧s.size≤140737488351232:=by
 obtain ⟨A',c',hv,_,_,_,hp⟩:=h;simp only [Value.slice.injEq] at hv;obtain ⟨rfl,rfl,rfl⟩:=hv;obtain ⟨b,o,hA,_,hc⟩:=hp h0;exact ⟨b,o,hA,fun j hj=>⟨es[j].d,(hc j hj).2.2,(hs _ (List.getElem_mem hj)).2.2.2.2⟩⟩
theorem lX (A:Option Addr) (c n:Nat) (es:List Ent) (w:World) (he:cF w (.slice A n c) es) (ho:∀ e∈es,e.Ok) (hl:n≤140737488351232) :
 Rt prog 25 [.slice A n c] w (fun v w'=>(∃ m:Nat,v=.int .i64 (m:Nat)∧n≤m∧m≤562949953421312)∧w=w'):=by
 refine enter (n:=26) Tryz.func25 rfl rfl rfl (ak (ag (asi rfl (aj (af (ak (ag (mvs rfl (ab (bW cC rfl) (asi rfl (aj (af (ak (ak (ag (asi rfl ?_))))))))))))))));refine aj (af (bg (dd (G:=Nat×Nat) [7,8,9,10,11,12,13,14,15,16,17,18,19,20,21,22,23,24] (fun (m,k)=>[(3,.int .i64 (m:Nat)),(4,.int .i64 (k:Nat))]) (fun (m,k) w'=>k≤n∧n≤m∧m≤562949953421312∧w=w') (fun (_,k)=>n-k) ((n,0)) ⟨rfl,rfl,trivial⟩ ?_ ?_)))
 ·exact ⟨Nat.zero_le _,Nat.le_refl _,by omega,rfl⟩
 rintro ⟨m,k⟩ ρ1 w1 ⟨hk,hnm,hm,rfl⟩;refine ak (ak (ag (mvi rfl (mvs rfl (ab (bW cC rfl) (ab (b_ rfl rfl) (mvb rfl (zt (t:=11) rfl (fun Q2=>?_) (fun Q2=>?_)))))))))
 ·refine ae rfl (mvi rfl (ae rfl (ab (b_ rfl rfl) (ab (aJ (v:=.bool _) rfl rfl) (aj (af (Ab rfl (fun Q3=>?_) (fun Q3=>?_))))))))
  ·obtain ⟨ba,oa,hA,hcs⟩:=wI he ho (by omega);subst hA;obtain ⟨s,hs1,hs2⟩:=hcs k (by omega);refine aM (af (ak (bg (ag (mvi rfl (mvs rfl (mvi rfl (ab (cn dN rfl rfl (by omega)) (ab (aa sh rfl) (ab (aq cK rfl (by exact hs1)) ?_))))))))));refine ab (eG (by kernel_rfl) rfl) (ab (dI rfl rfl (by omega)) (asi rfl (aj (bE (af (ag (mvi rfl (ab (dI (b:=1) rfl rfl (by omega)) (asi rfl (aj ?_))))))))));refine cu ((m+s.size,k+1)) ⟨(by first | rfl | (refine bT ?_;omega)),(by first | rfl | (refine bT ?_;omega)),trivial⟩ (by (iterate 41 refine bI rfl ?_);exact bU) ⟨?_,?_⟩
   ·exact ⟨by omega,by omega,by omega,rfl⟩
   ·show n-(k+1)<n-k;omega
  refine cI (bD (bD (cr (af (ak (ag (mvi rfl (asi rfl (aj (af (aC (bo (v:=.int _ _) rfl rfl (⟨⟨_,rfl,hnm,hm⟩,rfl⟩)))))))))))))
 refine ao rfl rfl (ao rfl rfl (ab (aw (v:=.bool _) rfl rfl) (aj (af (br rfl (cI (bD (bD (cr (af (ak (ag (mvi rfl (asi rfl ?_))))))))))))));refine aj (af (aC (bo (v:=.int _ _) rfl rfl (⟨⟨_,rfl,hnm,hm⟩,rfl⟩))))
def wiN (i:Int) (n:Nat):Nat:=(IntKind.u64.wrap i).toNat%n
theorem iQ (i:Int) (n:Nat) (w:World) (hn:0<n∧n≤1000) :
 Rt prog 31 [.int .i64 i,.int .i64 (n:Nat)] w (fun v w'=>v=.int .i64 (wiN i n:Nat)∧w=w'):=by
 obtain ⟨a,ha,ha2⟩:∃ a:Nat,IntKind.u64.wrap i=(a:Int)∧a<18446744073709551616:=⟨(IntKind.u64.wrap i).toNat,by rw [IntKind.wrap_u64];omega,by rw [IntKind.wrap_u64];omega⟩;have hm:a%n<n:=Nat.mod_lt _ hn.1;have hwi:wiN i n=a%n:=by unfold wiN;rw [ha];rfl
 refine enter (n:=11) Tryz.func31 rfl rfl rfl (ak (ag (asi rfl (aj (af (ak (ag (mvi rfl (ab (tL sg oW rfl) (dm (t:=6) (v:=.int _ _) (v':=.int .u64 (a:Nat)) rfl (by rw [ha]) ?_))))))))));refine mvi rfl (ab (uK sg oW rfl (by omega)) (ab (vD rfl rfl (by omega)) ?_));refine dm (t:=9) (v:=.int _ _) (v':=.int .u64 ((a%n:Nat):Int)) rfl (by rw [Int.tmod_eq_emod_of_nonneg (by omega)];rfl) ?_;refine ab (vG tz xj rfl (by omega)) (asi rfl (aj (af (aC (bo (v:=.int _ _) rfl rfl ?_)))));rw [hwi];exact ⟨rfl,rfl⟩
theorem pP (m:Msg) (w:World) (he:cF w (.slice m.E m.es.length m.c) m.es) (ho:∀ e∈m.es,e.Ok) (hl:m.es.length≤140737488351232) (hd:m.d.size≤140737488351232) :
 Rt prog 26 [.agg (bM m).toArray] w (fun v w'=>(∃ b,v=.bool b∧(b=false→m.es.length≤200∧m.d.size≤20000))∧ai w w'):=by
 refine enter (n:=19) Tryz.func26 rfl rfl rfl (ak (ag (bZ (v:=.agg _) rfl ?_)));intro b1 w1 E1 hb1 hk1;refine asb rfl (aj (af (ak (ag (ab (aa eR rfl) (ab (aq cK rfl (by exact (show _=some (Value.string m.d) from (hk1.from_ ai.rfl_).rd 11 rfl))) ?_))))));refine ab (eG (by kernel_rfl) rfl) (ab (bS rfl rfl) (mvb rfl (zt (t:=7) rfl (fun Q2=>?_) (fun Q2=>?_))))
 ·refine ao rfl rfl (ao rfl rfl (ao rfl rfl (ao rfl rfl (ab (aJ (v:=.bool _) rfl rfl) (mvb rfl (ao rfl rfl (ao rfl rfl (ao rfl rfl ?_))))))));refine ao rfl rfl (ab (aJ (v:=.bool _) rfl rfl) (asb rfl (aj (af (aC (bo (v:=.bool _) rfl rfl (⟨⟨_,rfl,fun h=>?_⟩,(ai.rfl_.next E1)⟩)))))))
  first
   |(exfalso;simp at h;done)
   |(have h9:=dF_ h;omega)
   |(simp only [decide_eq_false_iff_not] at h;omega)
   |(simp at h;omega)
 refine ae rfl (ab (aa dC rfl) (ae rfl (ab (aq cY rfl (by exact (show _=some (Value.slice m.E m.es.length m.c) from (hk1.from_ ai.rfl_).rd 9 rfl))) ?_)));refine ae rfl (aB p5 (lX m.E m.c m.es.length m.es _ (he.from_ (ai.rfl_.next E1)) ho hl) ?_);rintro v10 w3 ⟨⟨m10,rfl,hm1,hm2⟩,rfl⟩;refine ae rfl (ab (bS rfl rfl) (ab (aw (v:=.bool _) rfl rfl) (mvb rfl (zt (t:=13) rfl (fun Q4=>?_) (fun Q4=>?_)))))
 ·refine ao rfl rfl (ao rfl rfl (ao rfl rfl (ao rfl rfl (ab (aJ (v:=.bool _) rfl rfl) (asb rfl (aj (af (aC (bo (v:=.bool _) rfl rfl (⟨⟨_,rfl,fun h=>?_⟩,(ai.rfl_.next E1)⟩))))))))))
  first
   |(exfalso;simp at h;done)
   |(have h9:=dF_ h;omega)
   |(simp only [decide_eq_false_iff_not] at h;omega)
   |(simp at h;omega)
 refine ae rfl (ab (aa dC rfl) (ae rfl (ab (aq cY rfl (by exact (show _=some (Value.slice m.E m.es.length m.c) from (hk1.from_ ai.rfl_).rd 9 rfl))) ?_)));refine ae rfl (ab (bW cC rfl) (ae rfl (ab (bS rfl rfl) (ab (aw (v:=.bool _) rfl rfl) (asb rfl (aj (af (aC (bo (v:=.bool _) rfl rfl (⟨⟨_,rfl,fun h=>?_⟩,(ai.rfl_.next E1)⟩))))))))))
 first
  |(exfalso;simp at h;done)
  |(have h9:=dF_ h;omega)
  |(simp only [decide_eq_false_iff_not] at h;omega)
  |(simp at h;omega)
theorem dt:cP prog 32 0=some 0:=by kernel_rfl
theorem dT:cP prog 32 1=some 22:=by kernel_rfl
theorem ei:jn prog 30=some false:=by kernel_rfl
theorem fU:(gT prog 30).isSome=true:=by kernel_rfl
theorem iv:gT prog 30=some (41,17):=by kernel_rfl
theorem lz:cP prog 41 3=some 15:=by kernel_rfl
theorem fo:cP prog 41 1=some 1:=by kernel_rfl
theorem ns:aR prog 26=true:=by kernel_rfl
theorem lh {w:World} {b a:Nat} {x:Ac} (h:w.rangeAt b a (acV x)):w.rangeAt b (a+1) (bM x.m):=fun j v hv=>by
 have hj:j<13:=(List.getElem?_eq_some_iff.1 hv).1
 have h1:(acV x)[j+1]? =some v:=by
  show (bM x.m++[Value.bool x.fit,.string x.d,.int .i64 x.i])[j]? =some v;rw [List.getElem?_append_left (show j<(bM x.m).length from hj)];exact hv
 have:=h (j+1) v h1
 rwa [show a+(j+1)=a+1+j by omega] at this
theorem cH (s:Rf) (a:Ra) (LA:Option Addr) (lc:Nat) (X:List Ac) (w:World) (h:tb w s a LA X) :
 Rt prog 15 [.agg (scV s a LA X.length lc).toArray] w (fun v w'=>(∃ b,v=.bool b∧(b=false→Small s X))∧ai w w'):=by
 have z1:=h.z.sn;have z2:=h.z.pa;have z3:=h.z.es;have z4:=h.z.v;have z5:=h.z.x;have z6:=h.z.m;have z7:=h.z.n;have z8:=h.z.q;have z9:=h.z.k;have z10:=h.n;have hLl:a.L.length=s.reads.length:=by rw [←h.r.r,List.length_map]
 refine enter (n:=111) Tryz.func15 rfl rfl rfl (ak (ag (bZ (v:=.agg _) rfl ?_)));intro b1 w1 E1 hb1 hk1;refine asb rfl (aj (af (ak ?_)));apply bK 41 [(6,eqp _),(7,eqp _),(8,eqp (.string s.snap)),(9,eqp _),(10,eqp _),(11,eqp _),(12,eqp (.string s.part)),(13,eqp _),(14,eqp (.int .i64 ((s.snap.size+s.part.size:Nat):Int))),(15,eqp _),(16,eqp _),(17,eqp _),(18,eqp (.slice a.E s.es.length a.Ec)),(19,fun v _=>∃ q:Nat,v=.int .i64 (q:Nat)∧s.es.length≤q∧q≤562949953421312),(20,fun v _=>∃ q:Nat,v=.int .i64 (q:Nat)∧s.snap.size+s.part.size+s.es.length≤q∧q≤844424930123776),(21,eqp _),(22,eqp _),(23,eqp (.slice a.V s.votes.length a.Vc)),(24,eqp _),(25,fun v _=>∃ q:Nat,v=.int .i64 (q:Nat)∧s.snap.size+s.part.size+s.es.length+s.votes.length≤q∧q≤985162418475008),(26,eqp _),(27,eqp _),(28,eqp (.slice a.X s.next.length a.Xc)),(29,eqp _),(30,fun v _=>∃ q:Nat,v=.int .i64 (q:Nat)∧s.snap.size+s.part.size+s.es.length+s.votes.length+s.next.length≤q∧q≤1125899906826240),(31,eqp _),(32,eqp _),(33,eqp (.slice a.M s.mtch.length a.Mc)),(34,eqp _),(35,fun v _=>∃ q:Nat,v=.int .i64 (q:Nat)∧s.snap.size+s.part.size+s.es.length+s.votes.length+s.next.length+s.mtch.length≤q∧q≤1266637395177472),(36,eqp _),(37,eqp _),(38,eqp (.slice a.S s.sent.length a.Sc)),(39,eqp _),(40,fun v _=>∃ q:Nat,v=.int .i64 (q:Nat)∧s.snap.size+s.part.size+s.es.length+s.votes.length+s.next.length+s.mtch.length+s.sent.length≤q∧q≤1407374883528704),(41,eqp _),(42,eqp _),(43,eqp (.slice a.Q a.L.length a.Qc)),(44,eqp _),(45,fun v _=>∃ q:Nat,v=.int .i64 (q:Nat)∧s.snap.size+s.part.size+s.es.length+s.votes.length+s.next.length+s.mtch.length+s.sent.length+a.L.length≤q∧q≤1548112371879936),(3,fun v _=>∃ q:Nat,v=.int .i64 (q:Nat)∧s.snap.size+s.part.size+s.es.length+s.votes.length+s.next.length+s.mtch.length+s.sent.length+a.L.length≤q∧q≤1548112371879936)] (by repeat first | exact cj | refine ch ?_ | refine bQ ?_) (by kernel_rfl) (by kernel_rfl) ⟨ah _,ah _,ah _,ah _,ah _,ah _,ah _,ah _,ah _,ah _,ah _,ah _,ah _,(fun _ _ _ _ h=>h),(fun _ _ _ _ h=>h),ah _,ah _,ah _,ah _,(fun _ _ _ _ h=>h),ah _,ah _,ah _,ah _,(fun _ _ _ _ h=>h),ah _,ah _,ah _,ah _,(fun _ _ _ _ h=>h),ah _,ah _,ah _,ah _,(fun _ _ _ _ h=>h),ah _,ah _,ah _,ah _,(fun _ _ _ _ h=>h),(fun _ _ _ _ h=>h),trivial⟩
 case hop=>
  constructor
  ·rintro-w3 D3;exact ar (aa dt rfl) rfl
  constructor
  ·rintro-w4 D4;rintro _ rfl;exact ar (aa dF rfl) rfl
  constructor
  ·rintro-w5 D5;rintro _ rfl;exact ar (aq cK rfl (by exact (show _=some (Value.string s.snap) from (hk1.from_ (ai.rfl_.next D5)).rd 9 rfl))) rfl
  constructor
  ·rintro-w6 D6;rintro v6_8 rfl;exact ar (eG (by kernel_rfl) rfl) rfl
  constructor
  ·rintro-w7 D7;exact ar (aa dt rfl) rfl
  constructor
  ·rintro-w8 D8;rintro _ rfl;exact ar (aa dS rfl) rfl
  constructor
  ·rintro-w9 D9;rintro _ rfl;exact ar (aq cK rfl (by exact (show _=some (Value.string s.part) from (hk1.from_ (ai.rfl_.next D9)).rd 20 rfl))) rfl
  constructor
  ·rintro-w10 D10;rintro v10_12 rfl;exact ar (eG (by kernel_rfl) rfl) rfl
  constructor
  ·rintro-w11 D11;rintro _ rfl _ rfl;exact ar (dI rfl rfl (by omega)) rfl
  constructor
  ·rintro-w12 D12;exact ar (aa dt rfl) rfl
  constructor
  ·rintro-w13 D13;rintro _ rfl;exact ar (aa bq rfl) rfl
  constructor
  ·rintro-w14 D14;rintro _ rfl;exact ar (aa ec rfl) rfl
  constructor
  ·rintro-w15 D15;rintro _ rfl;exact ar (aq cY rfl (by exact (show _=some (Value.slice a.E s.es.length a.Ec) from (hk1.from_ (ai.rfl_.next D15)).rd 8 rfl))) rfl
  constructor
  ·rintro-w16 D16;rintro v16_18 rfl;refine gd p5 ((lX a.E a.Ec s.es.length s.es _ (h.r.e.from_ ((ai.rfl_.next E1).next D16)) h.z.eo (by omega)).mono ?_);rintro v w2 ⟨⟨q,rfl,hp,hq⟩,rfl⟩;exact ⟨ai.rfl_,q,rfl,hp,hq⟩
  constructor
  ·rintro-w17 D17;rintro v17_14 rfl v17_19 ⟨q17,rfl,hl17,hu17⟩;exact ar (dI rfl rfl (by omega)) ⟨_,rfl,by omega,by omega⟩
  constructor
  ·rintro-w18 D18;exact ar (aa dt rfl) rfl
  constructor
  ·rintro-w19 D19;rintro _ rfl;exact ar (aa di rfl) rfl
  constructor
  ·rintro-w20 D20;rintro _ rfl;exact ar (aq bn rfl (by exact (show _=some (Value.slice a.V s.votes.length a.Vc) from (hk1.from_ (ai.rfl_.next D20)).rd 14 rfl))) rfl
  constructor
  ·rintro-w21 D21;rintro v21_23 rfl;exact ar (bW cB rfl) rfl
  constructor
  ·rintro-w22 D22;rintro v22_20 ⟨q22,rfl,hl22,hu22⟩ _ rfl;exact ar (dI rfl rfl (by omega)) ⟨_,rfl,by omega,by omega⟩
  constructor
  ·rintro-w23 D23;exact ar (aa dt rfl) rfl
  constructor
  ·rintro-w24 D24;rintro _ rfl;exact ar (aa cL rfl) rfl
  constructor
  ·rintro-w25 D25;rintro _ rfl;exact ar (aq bn rfl (by exact (show _=some (Value.slice a.X s.next.length a.Xc) from (hk1.from_ (ai.rfl_.next D25)).rd 15 rfl))) rfl
  constructor
  ·rintro-w26 D26;rintro v26_28 rfl;exact ar (bW cB rfl) rfl
  constructor
  ·rintro-w27 D27;rintro v27_25 ⟨q27,rfl,hl27,hu27⟩ _ rfl;exact ar (dI rfl rfl (by omega)) ⟨_,rfl,by omega,by omega⟩
  constructor
  ·rintro-w28 D28;exact ar (aa dt rfl) rfl
  constructor
  ·rintro-w29 D29;rintro _ rfl;exact ar (aa cO rfl) rfl
  constructor
  ·rintro-w30 D30;rintro _ rfl;exact ar (aq bn rfl (by exact (show _=some (Value.slice a.M s.mtch.length a.Mc) from (hk1.from_ (ai.rfl_.next D30)).rd 16 rfl))) rfl
  constructor
  ·rintro-w31 D31;rintro v31_33 rfl;exact ar (bW cB rfl) rfl
  constructor
  ·rintro-w32 D32;rintro v32_30 ⟨q32,rfl,hl32,hu32⟩ _ rfl;exact ar (dI rfl rfl (by omega)) ⟨_,rfl,by omega,by omega⟩
  constructor
  ·rintro-w33 D33;exact ar (aa dt rfl) rfl
  constructor
  ·rintro-w34 D34;rintro _ rfl;exact ar (aa cT rfl) rfl
  constructor
  ·rintro-w35 D35;rintro _ rfl;exact ar (aq bn rfl (by exact (show _=some (Value.slice a.S s.sent.length a.Sc) from (hk1.from_ (ai.rfl_.next D35)).rd 17 rfl))) rfl
  constructor
  ·rintro-w36 D36;rintro v36_38 rfl;exact ar (bW cB rfl) rfl
  constructor
  ·rintro-w37 D37;rintro v37_35 ⟨q37,rfl,hl37,hu37⟩ _ rfl;exact ar (dI rfl rfl (by omega)) ⟨_,rfl,by omega,by omega⟩
  constructor
  ·rintro-w38 D38;exact ar (aa dt rfl) rfl
  constructor
  ·rintro-w39 D39;rintro _ rfl;exact ar (aa bL rfl) rfl
  constructor
  ·rintro-w40 D40;rintro _ rfl;exact ar (aq dc rfl (by exact (show _=some (Value.slice a.Q a.L.length a.Qc) from (hk1.from_ (ai.rfl_.next D40)).rd 19 rfl))) rfl
  constructor
  ·rintro-w41 D41;rintro v41_43 rfl;exact ar (bW dR rfl) rfl
  constructor
  ·rintro-w42 D42;rintro v42_40 ⟨q42,rfl,hl42,hu42⟩ _ rfl;exact ar (dI rfl rfl (by omega)) ⟨_,rfl,by omega,by omega⟩
  constructor
  ·rintro-w43 D43;rintro v43_45 ⟨q43,rfl,hl43,hu43⟩;exact ar (cy rfl) ⟨_,rfl,by omega,by omega⟩
  exact trivial
 case hend=>
  intro w44 D44;rintro _ rfl _ rfl v8 rfl _ rfl _ rfl _ rfl v12 rfl _ rfl v14 rfl _ rfl _ rfl _ rfl v18 rfl v19 ⟨q44,rfl,hl44,hu44⟩ v20 ⟨q44,rfl,hl44,hu44⟩ _ rfl _ rfl v23 rfl _ rfl v25 ⟨q44,rfl,hl44,hu44⟩ _ rfl _ rfl v28 rfl _ rfl v30 ⟨q44,rfl,hl44,hu44⟩ _ rfl _ rfl v33 rfl _ rfl v35 ⟨q44,rfl,hl44,hu44⟩ _ rfl _ rfl v38 rfl _ rfl v40 ⟨q44,rfl,hl44,hu44⟩ _ rfl _ rfl v43 rfl _ rfl v45 ⟨q44,rfl,hl44,hu44⟩ v3 ⟨q3,rfl,hl3,hu3⟩;show St ..;refine aj (af (ak (ak (ag (asi rfl (aj (af (bg (dd (G:=Nat×Nat) [46,47,48,49,50,51,52,53,54,55,56,57,58,59,60,61,62,63,64,65,66,67] (fun (m,k)=>[(3,.int .i64 (m:Nat)),(4,.int .i64 (k:Nat))]) (fun (m,k) w'=>k≤a.L.length∧s.snap.size+s.part.size+s.es.length+s.votes.length+s.next.length+s.mtch.length+s.sent.length+a.L.length≤m∧m≤2000000000000000∧(∀ j (h:j<a.L.length),j<k→a.L[j].1.acks.length≤m)∧Blk w' b1 32 (scV s a LA X.length lc).toArray∧ai w w') (fun (_,k)=>a.L.length-k) ((q3,0)) ⟨rfl,rfl,trivial⟩ ?_ ?_)))))))))
  ·exact ⟨Nat.zero_le _,hl3,by omega,fun j _ h=>absurd h (by omega),hk1.from_ (ai.rfl_.next D44),((ai.rfl_.next E1).next D44)⟩
  rintro ⟨m,k⟩ ρ45 w45 ⟨hk,hm1,hm2,hj1,hk1,hB⟩;refine ak (ak (ag (mvi rfl (ab (aa dt rfl) (ab (aa bL rfl) (ab (aq dc rfl (by exact (show _=some (Value.slice a.Q a.L.length a.Qc) from (hk1.from_ ai.rfl_).rd 19 rfl))) ?_))))));refine ab (bW dR rfl) (ab (b_ rfl rfl) (mvb rfl (zt (t:=52) rfl (fun Q46=>?_) (fun Q46=>?_))))
  ·refine ae rfl (mvi rfl (ae rfl (ab (b_ rfl rfl) (ab (aJ (v:=.bool _) rfl rfl) (aj (af (Ab rfl (fun Q47=>?_) (fun Q47=>?_))))))))
   ·have hkL:k<a.L.length:=by omega
    have zk:=z9 _ (List.getElem_mem hkL);obtain ⟨ba,oa,hQe,hcs⟩:=h.r.q (by omega);have hkq:Blk w45 b1 32 (scV s { a with Q:=some ⟨ba,oa,none⟩ } LA X.length lc).toArray:=by rw [←hQe];exact hk1.from_ ai.rfl_
    refine aM (af (ak (bg (ag (mvi rfl (ab (aa dt rfl) (ab (aa bL rfl) (ab (aq dc rfl (by exact (show _=some (Value.slice (some ⟨ba,oa,none⟩) a.L.length a.Qc) from (hkq.from_ ai.rfl_).rd 19 rfl))) ?_))))))));refine mvi rfl (ab (cn fx rfl rfl (by omega)) (ab (aa ep rfl) (ab (aq bn rfl (by exact fq hB (hcs k hkL 3 _ rfl))) ?_)));refine ab (bW cB rfl) (ab (dI rfl rfl (by omega)) (asi rfl (aj (bE (af (ag (mvi rfl (ab (cq rfl rfl (by omega)) (asi rfl (aj ?_))))))))));refine cu ((m+a.L[k].1.acks.length,k+1)) ⟨(by first | rfl | (refine bT ?_;omega)),(by first | rfl | (refine bT ?_;omega)),trivial⟩ (by (iterate 49 refine bI rfl ?_);exact bU) ⟨?_,?_⟩
    ·refine ⟨by omega,by omega,by omega,fun j h hj=>?_,hk1.from_ ai.rfl_,hB⟩;rcases Nat.lt_or_ge j k with e | e
     ·have:=hj1 j h e;omega
     ·obtain rfl:j=k:=by omega
      omega
    ·show a.L.length-(k+1)<a.L.length-k;omega
   refine cI (bD (bD (cr (af (ak (ak (ag (asi rfl (aj (af (bg (dd (G:=Nat×Nat) [2,68,69,70,71,72,73,74,75,76,77,78,79,80,81,82,83,84,85,86,87,88,89,90,91,92,93,94] (fun (m2,i)=>[(3,.int .i64 (m2:Nat)),(5,.int .i64 (i:Nat))]) (fun (m2,i) w'=>i≤X.length∧m≤m2∧m2≤2000000000000000∧(∀ j (h:j<X.length),j<i→X[j].m.es.length≤200∧X[j].m.d.size≤20000∧X[j].d.size≤m2)∧Blk w' b1 32 (scV s a LA X.length lc).toArray∧ai w w') (fun (_,i)=>X.length-i) ((m,0)) ⟨rfl,rfl,trivial⟩ ?_ ?_))))))))))))
   ·exact ⟨Nat.zero_le _,Nat.le_refl _,hm2,fun j _ h=>absurd h (by omega),hk1.from_ ai.rfl_,hB⟩
   rintro ⟨m2,i⟩ ρ48 w48 ⟨hk2,hn1,hn2,hj2,hk1,hB⟩;refine ak (ak (ag (mvi rfl (ab (aa dT rfl) (ab (aq ei rfl (by exact (show _=some (Value.slice LA X.length lc) from (hk1.from_ ai.rfl_).rd 22 rfl))) ?_)))));refine ab (bW fU rfl) (ab (b_ rfl rfl) (mvb rfl (zt (t:=73) rfl (fun Q49=>?_) (fun Q49=>?_))))
   ·refine ae rfl (mvi rfl (ae rfl (ab (b_ rfl rfl) (ab (aJ (v:=.bool _) rfl rfl) (aj (af (Ab rfl (fun Q50=>?_) (fun Q50=>?_))))))))
    ·have hkX:i<X.length:=by omega
     have hox:=h.o _ (List.getElem_mem hkX);have zk:=hox.2.2.2.2;obtain ⟨ba,oa,hQe,hcs⟩:=h.x (by omega);have hkq:Blk w48 b1 32 (scV s a (some ⟨ba,oa,none⟩) X.length lc).toArray:=by rw [←hQe];exact hk1.from_ ai.rfl_
     refine aM (af (ak (bg (ak (ag (mvi rfl (ab (aa dT rfl) (ab (aq ei rfl (by exact (show _=some (Value.slice (some ⟨ba,oa,none⟩) X.length lc) from (hkq.from_ ai.rfl_).rd 22 rfl))) ?_))))))));refine mvi rfl (ab (cn iv rfl rfl (by omega)) (ab (aa lz rfl) (ab (aq cK rfl (by exact fq hB (hcs i hkX 15 _ rfl))) ?_)));refine ab (eG (by kernel_rfl) rfl) (ab (dI rfl rfl (by omega)) (asi rfl (aj (af (ak (ag (ab (aa dT rfl) (ab (aq ei rfl (by exact (show _=some (Value.slice (some ⟨ba,oa,none⟩) X.length lc) from (hkq.from_ ai.rfl_).rd 22 rfl))) ?_))))))));refine mvi rfl (ab (cn iv rfl rfl (by omega)) (ab (aa fo rfl) (ab (aG (cs:=bM X[i].m) bk aP rfl (lh (eB hB (hcs i hkX)))) (aB ns (pP X[i].m _ (hox.1.from_ hB) hox.2.1 (by have:=hox.2.2.1;omega) hox.2.2.2.1) ?_))));rintro v94 w51 ⟨⟨b94,rfl,hb94⟩,E94⟩;refine aj (af (aU rfl (fun Q52=>?_) (fun Q52=>?_)))
     ·(try with_reducible first | (replace Q52 := dT_ Q52; trace "@MK N cH:g52+.c55-.g73+.c76+.c94+ 1.1") | (replace Q52 := dF_ Q52; trace "@MK N cH:g52+.c55-.g73+.c76+.c94+ 1.2") | (replace Q52 := dw Q52; trace "@MK N cH:g52+.c55-.g73+.c76+.c94+ 1.3") | (replace Q52 := dy Q52; trace "@MK N cH:g52+.c55-.g73+.c76+.c94+ 1.4"))
      (try with_reducible first | (replace Q52 := dT_ Q52; trace "@MK N cH:g52+.c55-.g73+.c76+.c94+ 2.1") | (replace Q52 := dF_ Q52; trace "@MK N cH:g52+.c55-.g73+.c76+.c94+ 2.2") | (replace Q52 := jB Q52; trace "@MK N cH:g52+.c55-.g73+.c76+.c94+ 2.3") | (replace Q52 := jC Q52; trace "@MK N cH:g52+.c55-.g73+.c76+.c94+ 2.4") | (replace Q52 := ed Q52; trace "@MK N cH:g52+.c55-.g73+.c76+.c94+ 2.5") | (replace Q52 := ee Q52; trace "@MK N cH:g52+.c55-.g73+.c76+.c94+ 2.6"))
      refine ak (ag (asb rfl (aj (af (aC (aZ (az (az (aZ (az (bo (v:=.bool _) rfl rfl (⟨⟨_,rfl,fun h=>by cases h⟩,(hB.next E94)⟩))))))))))))
     (try with_reducible first | (replace Q52 := dT_ Q52; trace "@MK N cH:g52+.c55-.g73+.c76+.c94- 1.1") | (replace Q52 := dF_ Q52; trace "@MK N cH:g52+.c55-.g73+.c76+.c94- 1.2") | (replace Q52 := dw Q52; trace "@MK N cH:g52+.c55-.g73+.c76+.c94- 1.3") | (replace Q52 := dy Q52; trace "@MK N cH:g52+.c55-.g73+.c76+.c94- 1.4"))
     (try with_reducible first | (replace Q52 := dT_ Q52; trace "@MK N cH:g52+.c55-.g73+.c76+.c94- 2.1") | (replace Q52 := dF_ Q52; trace "@MK N cH:g52+.c55-.g73+.c76+.c94- 2.2") | (replace Q52 := jB Q52; trace "@MK N cH:g52+.c55-.g73+.c76+.c94- 2.3") | (replace Q52 := jC Q52; trace "@MK N cH:g52+.c55-.g73+.c76+.c94- 2.4") | (replace Q52 := ed Q52; trace "@MK N cH:g52+.c55-.g73+.c76+.c94- 2.5") | (replace Q52 := ee Q52; trace "@MK N cH:g52+.c55-.g73+.c76+.c94- 2.6"))
     refine aM (bE (af (ag (mvi rfl (ab (cq rfl rfl (by omega)) (asi rfl (aj ?_)))))));refine cu ((m2+X[i].d.size,i+1)) ⟨(by first | rfl | (refine bT ?_;omega)),(by first | rfl | (refine bT ?_;omega)),trivial⟩ (by (iterate 60 refine bI rfl ?_);exact bU) ⟨?_,?_⟩
     ·refine ⟨by omega,by omega,by omega,fun j h hj=>?_,hk1.from_ (ai.rfl_.next E94),(hB.next E94)⟩;rcases Nat.lt_or_ge j i with e | e
      ·have:=hj2 j h e;omega
      ·obtain rfl:j=i:=by omega
       have:=hb94 (by first | rfl | assumption | simp_all);omega
     ·show X.length-(i+1)<X.length-i;omega
    refine cI (bD (bD (cr (af (ak (ag (mvi rfl (ab (bS rfl rfl) (mvb rfl (zt (t:=97) rfl (fun Q53=>?_) (fun Q53=>?_)))))))))))
    ·refine ao rfl rfl (ao rfl rfl (ao rfl rfl (ao rfl rfl (ao rfl rfl (ao rfl rfl (ab (aJ (v:=.bool _) rfl rfl) (mvb rfl (ao rfl rfl ?_))))))));refine ao rfl rfl (ao rfl rfl (ao rfl rfl (ab (aJ (v:=.bool _) rfl rfl) (asb rfl (aj (af (aC (bo (v:=.bool _) rfl rfl (⟨⟨_,rfl,fun h9=>?_⟩,hB⟩)))))))))
     have hh:m2≤20000∧s.es.length≤600∧X.length≤100:=by
      first
       |(exfalso;simp at h9;done)
       |(have h8:=dF_ h9;omega)
       |(simp only [decide_eq_false_iff_not] at h9;omega)
       |(simp at h9;omega)
     have hkl:k=a.L.length:=by omega
     refine ⟨⟨by omega,by omega,by omega,by omega,by omega,fun q hq=>?_⟩,hh.2.1,hh.2.2,⟨by omega,by omega⟩,fun y hy=>?_⟩
     ·rw [←h.r.r] at hq;obtain ⟨y,hy,rfl⟩:=List.mem_map.1 hq;obtain ⟨j,hj,rfl⟩:=List.getElem_of_mem hy;have:=hj1 j hj (by omega);omega
     ·obtain ⟨j,hj,rfl⟩:=List.getElem_of_mem hy;have:=hj2 j hj (by omega);omega
    refine ae rfl (ab (aa dt rfl) (ae rfl (ab (aa bq rfl) (ae rfl (ab (aa ec rfl) (ae rfl (ab (aq cY rfl (by exact (show _=some (Value.slice a.E s.es.length a.Ec) from (hk1.from_ ai.rfl_).rd 8 rfl))) ?_)))))));refine ae rfl (ab (bW cC rfl) (ae rfl (ab (bS rfl rfl) (ab (aw (v:=.bool _) rfl rfl) (mvb rfl (zt (t:=105) rfl (fun Q54=>?_) (fun Q54=>?_)))))))
    ·refine ao rfl rfl (ao rfl rfl (ao rfl rfl (ao rfl rfl (ab (aJ (v:=.bool _) rfl rfl) (asb rfl (aj (af (aC (bo (v:=.bool _) rfl rfl (⟨⟨_,rfl,fun h9=>?_⟩,hB⟩))))))))))
     have hh:m2≤20000∧s.es.length≤600∧X.length≤100:=by
      first
       |(exfalso;simp at h9;done)
       |(have h8:=dF_ h9;omega)
       |(simp only [decide_eq_false_iff_not] at h9;omega)
       |(simp at h9;omega)
     have hkl:k=a.L.length:=by omega
     refine ⟨⟨by omega,by omega,by omega,by omega,by omega,fun q hq=>?_⟩,hh.2.1,hh.2.2,⟨by omega,by omega⟩,fun y hy=>?_⟩
     ·rw [←h.r.r] at hq;obtain ⟨y,hy,rfl⟩:=List.mem_map.1 hq;obtain ⟨j,hj,rfl⟩:=List.getElem_of_mem hy;have:=hj1 j hj (by omega);omega
     ·obtain ⟨j,hj,rfl⟩:=List.getElem_of_mem hy;have:=hj2 j hj (by omega);omega
    refine ae rfl (ab (aa dT rfl) (ae rfl (ab (aq ei rfl (by exact (show _=some (Value.slice LA X.length lc) from (hk1.from_ ai.rfl_).rd 22 rfl))) ?_)));refine ae rfl (ab (bW fU rfl) (ae rfl (ab (bS rfl rfl) (ab (aw (v:=.bool _) rfl rfl) (asb rfl (aj (af (aC (bo (v:=.bool _) rfl rfl (⟨⟨_,rfl,fun h9=>?_⟩,hB⟩))))))))))
    have hh:m2≤20000∧s.es.length≤600∧X.length≤100:=by
     first
      |(exfalso;simp at h9;done)
      |(have h8:=dF_ h9;omega)
      |(simp only [decide_eq_false_iff_not] at h9;omega)
      |(simp at h9;omega)
    have hkl:k=a.L.length:=by omega
    refine ⟨⟨by omega,by omega,by omega,by omega,by omega,fun q hq=>?_⟩,hh.2.1,hh.2.2,⟨by omega,by omega⟩,fun y hy=>?_⟩
    ·rw [←h.r.r] at hq;obtain ⟨y,hy,rfl⟩:=List.mem_map.1 hq;obtain ⟨j,hj,rfl⟩:=List.getElem_of_mem hy;have:=hj1 j hj (by omega);omega
    ·obtain ⟨j,hj,rfl⟩:=List.getElem_of_mem hy;have:=hj2 j hj (by omega);omega
   refine bc rfl (aj (af (br rfl (cI (bD (bD (cr (af (ak (ag (mvi rfl (ab (bS rfl rfl) (mvb rfl (zt (t:=97) rfl (fun Q55=>?_) (fun Q55=>?_)))))))))))))))
   ·refine ao rfl rfl (ao rfl rfl (ao rfl rfl (ao rfl rfl (ao rfl rfl (ao rfl rfl (ab (aJ (v:=.bool _) rfl rfl) (mvb rfl (ao rfl rfl ?_))))))));refine ao rfl rfl (ao rfl rfl (ao rfl rfl (ab (aJ (v:=.bool _) rfl rfl) (asb rfl (aj (af (aC (bo (v:=.bool _) rfl rfl (⟨⟨_,rfl,fun h9=>?_⟩,hB⟩)))))))))
    have hh:m2≤20000∧s.es.length≤600∧X.length≤100:=by
     first
      |(exfalso;simp at h9;done)
      |(have h8:=dF_ h9;omega)
      |(simp only [decide_eq_false_iff_not] at h9;omega)
      |(simp at h9;omega)
    have hkl:k=a.L.length:=by omega
    refine ⟨⟨by omega,by omega,by omega,by omega,by omega,fun q hq=>?_⟩,hh.2.1,hh.2.2,⟨by omega,by omega⟩,fun y hy=>?_⟩
    ·rw [←h.r.r] at hq;obtain ⟨y,hy,rfl⟩:=List.mem_map.1 hq;obtain ⟨j,hj,rfl⟩:=List.getElem_of_mem hy;have:=hj1 j hj (by omega);omega
    ·obtain ⟨j,hj,rfl⟩:=List.getElem_of_mem hy;have:=hj2 j hj (by omega);omega
   refine ae rfl (ab (aa dt rfl) (ae rfl (ab (aa bq rfl) (ae rfl (ab (aa ec rfl) (ae rfl (ab (aq cY rfl (by exact (show _=some (Value.slice a.E s.es.length a.Ec) from (hk1.from_ ai.rfl_).rd 8 rfl))) ?_)))))));refine ae rfl (ab (bW cC rfl) (ae rfl (ab (bS rfl rfl) (ab (aw (v:=.bool _) rfl rfl) (mvb rfl (zt (t:=105) rfl (fun Q56=>?_) (fun Q56=>?_)))))))
   ·refine ao rfl rfl (ao rfl rfl (ao rfl rfl (ao rfl rfl (ab (aJ (v:=.bool _) rfl rfl) (asb rfl (aj (af (aC (bo (v:=.bool _) rfl rfl (⟨⟨_,rfl,fun h9=>?_⟩,hB⟩))))))))))
    have hh:m2≤20000∧s.es.length≤600∧X.length≤100:=by
     first
      |(exfalso;simp at h9;done)
      |(have h8:=dF_ h9;omega)
      |(simp only [decide_eq_false_iff_not] at h9;omega)
      |(simp at h9;omega)
    have hkl:k=a.L.length:=by omega
    refine ⟨⟨by omega,by omega,by omega,by omega,by omega,fun q hq=>?_⟩,hh.2.1,hh.2.2,⟨by omega,by omega⟩,fun y hy=>?_⟩
    ·rw [←h.r.r] at hq;obtain ⟨y,hy,rfl⟩:=List.mem_map.1 hq;obtain ⟨j,hj,rfl⟩:=List.getElem_of_mem hy;have:=hj1 j hj (by omega);omega
    ·obtain ⟨j,hj,rfl⟩:=List.getElem_of_mem hy;have:=hj2 j hj (by omega);omega
   refine ae rfl (ab (aa dT rfl) (ae rfl (ab (aq ei rfl (by exact (show _=some (Value.slice LA X.length lc) from (hk1.from_ ai.rfl_).rd 22 rfl))) ?_)));refine ae rfl (ab (bW fU rfl) (ae rfl (ab (bS rfl rfl) (ab (aw (v:=.bool _) rfl rfl) (asb rfl (aj (af (aC (bo (v:=.bool _) rfl rfl (⟨⟨_,rfl,fun h9=>?_⟩,hB⟩))))))))))
   have hh:m2≤20000∧s.es.length≤600∧X.length≤100:=by
    first
     |(exfalso;simp at h9;done)
     |(have h8:=dF_ h9;omega)
     |(simp only [decide_eq_false_iff_not] at h9;omega)
     |(simp at h9;omega)
   have hkl:k=a.L.length:=by omega
   refine ⟨⟨by omega,by omega,by omega,by omega,by omega,fun q hq=>?_⟩,hh.2.1,hh.2.2,⟨by omega,by omega⟩,fun y hy=>?_⟩
   ·rw [←h.r.r] at hq;obtain ⟨y,hy,rfl⟩:=List.mem_map.1 hq;obtain ⟨j,hj,rfl⟩:=List.getElem_of_mem hy;have:=hj1 j hj (by omega);omega
   ·obtain ⟨j,hj,rfl⟩:=List.getElem_of_mem hy;have:=hj2 j hj (by omega);omega
  refine bc rfl (aj (af (br rfl (cI (bD (bD (cr (af (ak (ak (ag (asi rfl (aj (af (bg (dd (G:=Nat×Nat) [2,68,69,70,71,72,73,74,75,76,77,78,79,80,81,82,83,84,85,86,87,88,89,90,91,92,93,94] (fun (m2,i)=>[(3,.int .i64 (m2:Nat)),(5,.int .i64 (i:Nat))]) (fun (m2,i) w'=>i≤X.length∧m≤m2∧m2≤2000000000000000∧(∀ j (h:j<X.length),j<i→X[j].m.es.length≤200∧X[j].m.d.size≤20000∧X[j].d.size≤m2)∧Blk w' b1 32 (scV s a LA X.length lc).toArray∧ai w w') (fun (_,i)=>X.length-i) ((m,0)) ⟨rfl,rfl,trivial⟩ ?_ ?_))))))))))))))))
  ·exact ⟨Nat.zero_le _,Nat.le_refl _,hm2,fun j _ h=>absurd h (by omega),hk1.from_ ai.rfl_,hB⟩
  rintro ⟨m2,i⟩ ρ57 w57 ⟨hk2,hn1,hn2,hj2,hk1,hB⟩;refine ak (ak (ag (mvi rfl (ab (aa dT rfl) (ab (aq ei rfl (by exact (show _=some (Value.slice LA X.length lc) from (hk1.from_ ai.rfl_).rd 22 rfl))) ?_)))));refine ab (bW fU rfl) (ab (b_ rfl rfl) (mvb rfl (zt (t:=73) rfl (fun Q58=>?_) (fun Q58=>?_))))
  ·refine ae rfl (mvi rfl (ae rfl (ab (b_ rfl rfl) (ab (aJ (v:=.bool _) rfl rfl) (aj (af (Ab rfl (fun Q59=>?_) (fun Q59=>?_))))))))
   ·have hkX:i<X.length:=by omega
    have hox:=h.o _ (List.getElem_mem hkX);have zk:=hox.2.2.2.2;obtain ⟨ba,oa,hQe,hcs⟩:=h.x (by omega);have hkq:Blk w57 b1 32 (scV s a (some ⟨ba,oa,none⟩) X.length lc).toArray:=by rw [←hQe];exact hk1.from_ ai.rfl_
    refine aM (af (ak (bg (ak (ag (mvi rfl (ab (aa dT rfl) (ab (aq ei rfl (by exact (show _=some (Value.slice (some ⟨ba,oa,none⟩) X.length lc) from (hkq.from_ ai.rfl_).rd 22 rfl))) ?_))))))));refine mvi rfl (ab (cn iv rfl rfl (by omega)) (ab (aa lz rfl) (ab (aq cK rfl (by exact fq hB (hcs i hkX 15 _ rfl))) ?_)));refine ab (eG (by kernel_rfl) rfl) (ab (dI rfl rfl (by omega)) (asi rfl (aj (af (ak (ag (ab (aa dT rfl) (ab (aq ei rfl (by exact (show _=some (Value.slice (some ⟨ba,oa,none⟩) X.length lc) from (hkq.from_ ai.rfl_).rd 22 rfl))) ?_))))))));refine mvi rfl (ab (cn iv rfl rfl (by omega)) (ab (aa fo rfl) (ab (aG (cs:=bM X[i].m) bk aP rfl (lh (eB hB (hcs i hkX)))) (aB ns (pP X[i].m _ (hox.1.from_ hB) hox.2.1 (by have:=hox.2.2.1;omega) hox.2.2.2.1) ?_))));rintro v94 w60 ⟨⟨b94,rfl,hb94⟩,E94⟩;refine aj (af (aU rfl (fun Q61=>?_) (fun Q61=>?_)))
    ·(try with_reducible first | (replace Q61 := dT_ Q61; trace "@MK N cH:g52-.g73+.c76+.c94+ 1.1") | (replace Q61 := dF_ Q61; trace "@MK N cH:g52-.g73+.c76+.c94+ 1.2") | (replace Q61 := dw Q61; trace "@MK N cH:g52-.g73+.c76+.c94+ 1.3") | (replace Q61 := dy Q61; trace "@MK N cH:g52-.g73+.c76+.c94+ 1.4"))
     (try with_reducible first | (replace Q61 := dT_ Q61; trace "@MK N cH:g52-.g73+.c76+.c94+ 2.1") | (replace Q61 := dF_ Q61; trace "@MK N cH:g52-.g73+.c76+.c94+ 2.2") | (replace Q61 := jB Q61; trace "@MK N cH:g52-.g73+.c76+.c94+ 2.3") | (replace Q61 := jC Q61; trace "@MK N cH:g52-.g73+.c76+.c94+ 2.4") | (replace Q61 := ed Q61; trace "@MK N cH:g52-.g73+.c76+.c94+ 2.5") | (replace Q61 := ee Q61; trace "@MK N cH:g52-.g73+.c76+.c94+ 2.6"))
     refine ak (ag (asb rfl (aj (af (aC (aZ (az (az (aZ (az (bo (v:=.bool _) rfl rfl (⟨⟨_,rfl,fun h=>by cases h⟩,(hB.next E94)⟩))))))))))))
    (try with_reducible first | (replace Q61 := dT_ Q61; trace "@MK N cH:g52-.g73+.c76+.c94- 1.1") | (replace Q61 := dF_ Q61; trace "@MK N cH:g52-.g73+.c76+.c94- 1.2") | (replace Q61 := dw Q61; trace "@MK N cH:g52-.g73+.c76+.c94- 1.3") | (replace Q61 := dy Q61; trace "@MK N cH:g52-.g73+.c76+.c94- 1.4"))
    (try with_reducible first | (replace Q61 := dT_ Q61; trace "@MK N cH:g52-.g73+.c76+.c94- 2.1") | (replace Q61 := dF_ Q61; trace "@MK N cH:g52-.g73+.c76+.c94- 2.2") | (replace Q61 := jB Q61; trace "@MK N cH:g52-.g73+.c76+.c94- 2.3") | (replace Q61 := jC Q61; trace "@MK N cH:g52-.g73+.c76+.c94- 2.4") | (replace Q61 := ed Q61; trace "@MK N cH:g52-.g73+.c76+.c94- 2.5") | (replace Q61 := ee Q61; trace "@MK N cH:g52-.g73+.c76+.c94- 2.6"))
    refine aM (bE (af (ag (mvi rfl (ab (cq rfl rfl (by omega)) (asi rfl (aj ?_)))))));refine cu ((m2+X[i].d.size,i+1)) ⟨(by first | rfl | (refine bT ?_;omega)),(by first | rfl | (refine bT ?_;omega)),trivial⟩ (by (iterate 60 refine bI rfl ?_);exact bU) ⟨?_,?_⟩
    ·refine ⟨by omega,by omega,by omega,fun j h hj=>?_,hk1.from_ (ai.rfl_.next E94),(hB.next E94)⟩;rcases Nat.lt_or_ge j i with e | e
     ·have:=hj2 j h e;omega
     ·obtain rfl:j=i:=by omega
      have:=hb94 (by first | rfl | assumption | simp_all);omega
    ·show X.length-(i+1)<X.length-i;omega
   refine cI (bD (bD (cr (af (ak (ag (mvi rfl (ab (bS rfl rfl) (mvb rfl (zt (t:=97) rfl (fun Q62=>?_) (fun Q62=>?_)))))))))))
   ·refine ao rfl rfl (ao rfl rfl (ao rfl rfl (ao rfl rfl (ao rfl rfl (ao rfl rfl (ab (aJ (v:=.bool _) rfl rfl) (mvb rfl (ao rfl rfl ?_))))))));refine ao rfl rfl (ao rfl rfl (ao rfl rfl (ab (aJ (v:=.bool _) rfl rfl) (asb rfl (aj (af (aC (bo (v:=.bool _) rfl rfl (⟨⟨_,rfl,fun h9=>?_⟩,hB⟩)))))))))
    have hh:m2≤20000∧s.es.length≤600∧X.length≤100:=by
     first
      |(exfalso;simp at h9;done)
      |(have h8:=dF_ h9;omega)
      |(simp only [decide_eq_false_iff_not] at h9;omega)
      |(simp at h9;omega)
    have hkl:k=a.L.length:=by omega
    refine ⟨⟨by omega,by omega,by omega,by omega,by omega,fun q hq=>?_⟩,hh.2.1,hh.2.2,⟨by omega,by omega⟩,fun y hy=>?_⟩
    ·rw [←h.r.r] at hq;obtain ⟨y,hy,rfl⟩:=List.mem_map.1 hq;obtain ⟨j,hj,rfl⟩:=List.getElem_of_mem hy;have:=hj1 j hj (by omega);omega
    ·obtain ⟨j,hj,rfl⟩:=List.getElem_of_mem hy;have:=hj2 j hj (by omega);omega
   refine ae rfl (ab (aa dt rfl) (ae rfl (ab (aa bq rfl) (ae rfl (ab (aa ec rfl) (ae rfl (ab (aq cY rfl (by exact (show _=some (Value.slice a.E s.es.length a.Ec) from (hk1.from_ ai.rfl_).rd 8 rfl))) ?_)))))));refine ae rfl (ab (bW cC rfl) (ae rfl (ab (bS rfl rfl) (ab (aw (v:=.bool _) rfl rfl) (mvb rfl (zt (t:=105) rfl (fun Q63=>?_) (fun Q63=>?_)))))))
   ·refine ao rfl rfl (ao rfl rfl (ao rfl rfl (ao rfl rfl (ab (aJ (v:=.bool _) rfl rfl) (asb rfl (aj (af (aC (bo (v:=.bool _) rfl rfl (⟨⟨_,rfl,fun h9=>?_⟩,hB⟩))))))))))
    have hh:m2≤20000∧s.es.length≤600∧X.length≤100:=by
     first
      |(exfalso;simp at h9;done)
      |(have h8:=dF_ h9;omega)
      |(simp only [decide_eq_false_iff_not] at h9;omega)
      |(simp at h9;omega)
    have hkl:k=a.L.length:=by omega
    refine ⟨⟨by omega,by omega,by omega,by omega,by omega,fun q hq=>?_⟩,hh.2.1,hh.2.2,⟨by omega,by omega⟩,fun y hy=>?_⟩
    ·rw [←h.r.r] at hq;obtain ⟨y,hy,rfl⟩:=List.mem_map.1 hq;obtain ⟨j,hj,rfl⟩:=List.getElem_of_mem hy;have:=hj1 j hj (by omega);omega
    ·obtain ⟨j,hj,rfl⟩:=List.getElem_of_mem hy;have:=hj2 j hj (by omega);omega
   refine ae rfl (ab (aa dT rfl) (ae rfl (ab (aq ei rfl (by exact (show _=some (Value.slice LA X.length lc) from (hk1.from_ ai.rfl_).rd 22 rfl))) ?_)));refine ae rfl (ab (bW fU rfl) (ae rfl (ab (bS rfl rfl) (ab (aw (v:=.bool _) rfl rfl) (asb rfl (aj (af (aC (bo (v:=.bool _) rfl rfl (⟨⟨_,rfl,fun h9=>?_⟩,hB⟩))))))))))
   have hh:m2≤20000∧s.es.length≤600∧X.length≤100:=by
    first
     |(exfalso;simp at h9;done)
     |(have h8:=dF_ h9;omega)
     |(simp only [decide_eq_false_iff_not] at h9;omega)
     |(simp at h9;omega)
   have hkl:k=a.L.length:=by omega
   refine ⟨⟨by omega,by omega,by omega,by omega,by omega,fun q hq=>?_⟩,hh.2.1,hh.2.2,⟨by omega,by omega⟩,fun y hy=>?_⟩
   ·rw [←h.r.r] at hq;obtain ⟨y,hy,rfl⟩:=List.mem_map.1 hq;obtain ⟨j,hj,rfl⟩:=List.getElem_of_mem hy;have:=hj1 j hj (by omega);omega
   ·obtain ⟨j,hj,rfl⟩:=List.getElem_of_mem hy;have:=hj2 j hj (by omega);omega
  refine bc rfl (aj (af (br rfl (cI (bD (bD (cr (af (ak (ag (mvi rfl (ab (bS rfl rfl) (mvb rfl (zt (t:=97) rfl (fun Q64=>?_) (fun Q64=>?_)))))))))))))))
  ·refine ao rfl rfl (ao rfl rfl (ao rfl rfl (ao rfl rfl (ao rfl rfl (ao rfl rfl (ab (aJ (v:=.bool _) rfl rfl) (mvb rfl (ao rfl rfl ?_))))))));refine ao rfl rfl (ao rfl rfl (ao rfl rfl (ab (aJ (v:=.bool _) rfl rfl) (asb rfl (aj (af (aC (bo (v:=.bool _) rfl rfl (⟨⟨_,rfl,fun h9=>?_⟩,hB⟩)))))))))
   have hh:m2≤20000∧s.es.length≤600∧X.length≤100:=by
    first
     |(exfalso;simp at h9;done)
     |(have h8:=dF_ h9;omega)
     |(simp only [decide_eq_false_iff_not] at h9;omega)
     |(simp at h9;omega)
   have hkl:k=a.L.length:=by omega
   refine ⟨⟨by omega,by omega,by omega,by omega,by omega,fun q hq=>?_⟩,hh.2.1,hh.2.2,⟨by omega,by omega⟩,fun y hy=>?_⟩
   ·rw [←h.r.r] at hq;obtain ⟨y,hy,rfl⟩:=List.mem_map.1 hq;obtain ⟨j,hj,rfl⟩:=List.getElem_of_mem hy;have:=hj1 j hj (by omega);omega
   ·obtain ⟨j,hj,rfl⟩:=List.getElem_of_mem hy;have:=hj2 j hj (by omega);omega
  refine ae rfl (ab (aa dt rfl) (ae rfl (ab (aa bq rfl) (ae rfl (ab (aa ec rfl) (ae rfl (ab (aq cY rfl (by exact (show _=some (Value.slice a.E s.es.length a.Ec) from (hk1.from_ ai.rfl_).rd 8 rfl))) ?_)))))));refine ae rfl (ab (bW cC rfl) (ae rfl (ab (bS rfl rfl) (ab (aw (v:=.bool _) rfl rfl) (mvb rfl (zt (t:=105) rfl (fun Q65=>?_) (fun Q65=>?_)))))))
  ·refine ao rfl rfl (ao rfl rfl (ao rfl rfl (ao rfl rfl (ab (aJ (v:=.bool _) rfl rfl) (asb rfl (aj (af (aC (bo (v:=.bool _) rfl rfl (⟨⟨_,rfl,fun h9=>?_⟩,hB⟩))))))))))
   have hh:m2≤20000∧s.es.length≤600∧X.length≤100:=by
    first
     |(exfalso;simp at h9;done)
     |(have h8:=dF_ h9;omega)
     |(simp only [decide_eq_false_iff_not] at h9;omega)
     |(simp at h9;omega)
   have hkl:k=a.L.length:=by omega
   refine ⟨⟨by omega,by omega,by omega,by omega,by omega,fun q hq=>?_⟩,hh.2.1,hh.2.2,⟨by omega,by omega⟩,fun y hy=>?_⟩
   ·rw [←h.r.r] at hq;obtain ⟨y,hy,rfl⟩:=List.mem_map.1 hq;obtain ⟨j,hj,rfl⟩:=List.getElem_of_mem hy;have:=hj1 j hj (by omega);omega
   ·obtain ⟨j,hj,rfl⟩:=List.getElem_of_mem hy;have:=hj2 j hj (by omega);omega
  refine ae rfl (ab (aa dT rfl) (ae rfl (ab (aq ei rfl (by exact (show _=some (Value.slice LA X.length lc) from (hk1.from_ ai.rfl_).rd 22 rfl))) ?_)));refine ae rfl (ab (bW fU rfl) (ae rfl (ab (bS rfl rfl) (ab (aw (v:=.bool _) rfl rfl) (asb rfl (aj (af (aC (bo (v:=.bool _) rfl rfl (⟨⟨_,rfl,fun h9=>?_⟩,hB⟩))))))))))
  have hh:m2≤20000∧s.es.length≤600∧X.length≤100:=by
   first
    |(exfalso;simp at h9;done)
    |(have h8:=dF_ h9;omega)
    |(simp only [decide_eq_false_iff_not] at h9;omega)
    |(simp at h9;omega)
  have hkl:k=a.L.length:=by omega
  refine ⟨⟨by omega,by omega,by omega,by omega,by omega,fun q hq=>?_⟩,hh.2.1,hh.2.2,⟨by omega,by omega⟩,fun y hy=>?_⟩
  ·rw [←h.r.r] at hq;obtain ⟨y,hy,rfl⟩:=List.mem_map.1 hq;obtain ⟨j,hj,rfl⟩:=List.getElem_of_mem hy;have:=hj1 j hj (by omega);omega
  ·obtain ⟨j,hj,rfl⟩:=List.getElem_of_mem hy;have:=hj2 j hj (by omega);omega
end Go.Proofs.YtkpooenofjdpmaaGreat
