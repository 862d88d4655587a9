/- texts that the claim stands on. -/
import Derived.Test.YtkpooenofjdpmaaGreatSlRfLawV34

set_option maxRecDepth 100000
set_option maxHeartbeats 4000000
namespace Go.Proofs.YtkpooenofjdpmaaGreat
open Go.Proofs.Tryz (prog)
open Go.RowKit
open Go.ChangeShapes Go.WideShapes Go.ChangeAt
theorem br:cD prog 111 0=some 0:=by kernel_rfl
theorem kz:aN prog 65=true:=by kernel_rfl
theorem uk:aN prog 69=true:=by kernel_rfl
theorem jU:cD prog 111 1=some 22:=by kernel_rfl
theorem mA (s:Rf) (E:Option Addr) (n c:Nat) (w:World) (h:bX w (.slice E n c) s.es) (_:bR s.b s.t s.es=true):Rt prog 65 [.agg #[.int .i64 s.b,.int .i64 s.t,.slice E n c]] w fun v w'=>v=.tuple #[.int .i64 (bn s),.int .i64 (di s.t s.es)]∧ah w w':=
 (Rt.of (kS s.b s.t _ s.es w h)).mono fun _ _ h=>h
theorem wX (T g:Nat) (s:Rf) (a:Ra) (R:List Value) (w:World) (hb:Blk w g T (rfV s a++R).toArray) (he:bX w (.slice a.E s.es.length a.Ec) s.es) (hm:bR s.b s.t s.es=true) :
 Rt prog 70 [.pointer (some ⟨g,0,none⟩)] w (fun v w'=>v=.tuple #[.int .i64 (bn s),.int .i64 (di s.t s.es)]∧ah w w'):=by
 refine enter (n:=12) Tryz.func70 rfl rfl rfl (ak (af (asi rfl (asi rfl (ai (ag (ak (af (mvp rfl (aa (aw rfl) (aa (ab br rfl) (aa (ab bj rfl) ?_))))))))))));refine aa (aD (cs:=[.int .i64 s.b,.int .i64 s.t,.slice a.E s.es.length a.Ec]) aY aL rfl (iM (hb.from_ ah.rfl_))) (az kz (mA s a.E s.es.length a.Ec _ (he.from_ ah.rfl_) hm) ?_);rintro v9 w1 ⟨rfl,E9⟩;refine aa (aO rfl rfl) (aa (aO rfl rfl) (asi rfl (asi rfl (ai (ag (aC (o6 (v:=.int _ _) (v':=.int _ _) rfl rfl rfl (⟨rfl,(ah.rfl_.next E9)⟩))))))))
theorem ym (w0:World) (Z:Nat→Prop) (T g:Nat) (p:Sp) (w:World) (h:aZ w0 Z w T g p) :
 Rt prog 69 [.pointer (some ⟨g,0,none⟩)] w (fun v w'=>v=.tuple #[]∧aZ w0 Z w' T g ⟨fF p.s,p.out⟩):=by
 obtain ⟨s,out⟩:=p;obtain ⟨tag,a,O,oc,L,hs⟩:=h.ex;obtain ⟨E,Ec,V,Vc,X,Xc,M,Mc,Sn,Sc,Q,Qc,LL⟩:=a;have hb:Blk w g T (rfV s (⟨E,Ec,V,Vc,X,Xc,M,Mc,Sn,Sc,Q,Qc,LL⟩:Ra)++[Value.slice O L.length oc]).toArray:=hs.b
 have hll:L.length=out.length:=by
  have h9:=congrArg List.length hs.m.l;rw [List.length_map] at h9;exact h9
 have hB0:ah w w:=ah.rfl_;refine enter (n:=22) Tryz.func69 rfl rfl rfl (ak (af (mvp rfl (aa (aw rfl) (aa (ab br rfl) (aa (ab de rfl) ?_))))));have hB0:ah _ w:=ah.rfl_;refine cK (s':=({ s with votes:=[] }:Rf)) (a':=(⟨E,Ec,none,0,X,Xc,M,Mc,Sn,Sc,Q,Qc,LL⟩:Ra)) (v:=.slice _ _ _) db rfl rfl rfl ((hb.from_ ah.rfl_)) (by exact ⟨by decide,rfl⟩) ?_;intro w1 O0_0 P0_0;have hC1:Chg (fun k=>k=g) w w1:=(ah.toChg hB0).only O0_0 rfl;refine ai (ag (ak (af (mvp rfl (aa (aw rfl) (aa (ab br rfl) (aa (ab cS rfl) ?_)))))));have hB1:ah _ w1:=(ah.rfl_ (a:=w1));refine cK (s':=({ s with votes:=[],next:=[] }:Rf)) (a':=(⟨E,Ec,none,0,none,0,M,Mc,Sn,Sc,Q,Qc,LL⟩:Ra)) (v:=.slice _ _ _) db rfl rfl rfl ((P0_0.from_ (ah.rfl_ (a:=w1)))) (by exact ⟨by decide,rfl⟩) ?_;intro w2 O1_0 P1_0;replace hC1:=(hC1.next (ah.toChg hB1)).only O1_0 rfl;refine ai (ag (ak (af (mvp rfl (aa (aw rfl) (aa (ab br rfl) (aa (ab c_ rfl) ?_)))))));have hB2:ah _ w2:=(ah.rfl_ (a:=w2));refine cK (s':=({ s with votes:=[],next:=[],mtch:=[] }:Rf)) (a':=(⟨E,Ec,none,0,none,0,none,0,Sn,Sc,Q,Qc,LL⟩:Ra)) (v:=.slice _ _ _) db rfl rfl rfl ((P1_0.from_ (ah.rfl_ (a:=w2)))) (by exact ⟨by decide,rfl⟩) ?_;intro w3 O2_0 P2_0;replace hC1:=(hC1.next (ah.toChg hB2)).only O2_0 rfl;refine ai (ag (ak (af (mvp rfl (aa (aw rfl) (aa (ab br rfl) (aa (ab df rfl) ?_)))))));have hB3:ah _ w3:=(ah.rfl_ (a:=w3));refine cK (s':=({ s with votes:=[],next:=[],mtch:=[],sent:=[] }:Rf)) (a':=(⟨E,Ec,none,0,none,0,none,0,none,0,Q,Qc,LL⟩:Ra)) (v:=.slice _ _ _) db rfl rfl rfl ((P2_0.from_ (ah.rfl_ (a:=w3)))) (by exact ⟨by decide,rfl⟩) ?_;intro w4 O3_0 P3_0;replace hC1:=(hC1.next (ah.toChg hB3)).only O3_0 rfl;refine ai (ag (af (mvp rfl (aa (aw rfl) (aa (ab br rfl) (aa (ab cl rfl) ?_))))));have hB4:ah _ w4:=(ah.rfl_ (a:=w4));refine cK (s':=({ s with votes:=[],next:=[],mtch:=[],sent:=[],reads:=[] }:Rf)) (a':=(⟨E,Ec,none,0,none,0,none,0,none,0,none,0,[]⟩:Ra)) (v:=.slice _ _ _) jy rfl rfl rfl ((P3_0.from_ (ah.rfl_ (a:=w4)))) (by exact ⟨by decide,rfl⟩) ?_;intro w5 O4_0 P4_0;replace hC1:=(hC1.next (ah.toChg hB4)).only O4_0 rfl;refine ai (du (eB rfl (⟨rfl,(h.set (s':=fF s) (a':=(⟨E,Ec,none,0,none,0,none,0,none,0,none,0,[]⟩:Ra)) hs hC1 (bm.same hs.f.alone rfl rfl rfl rfl rfl rfl) P4_0).2⟩)))
theorem ps (w0:World) (Z:Nat→Prop) (T g:Nat) (p:Sp) (w:World) (h:aZ w0 Z w T g p) (tm:Int) :
 Rt prog 124 [.pointer (some ⟨g,0,none⟩),.int .i64 tm] w (fun v w'=>v=.tuple #[]∧aZ w0 Z w' T g ⟨cH p.s tm,p.out⟩):=by
 obtain ⟨s,out⟩:=p;obtain ⟨tag,a,O,oc,L,hs⟩:=h.ex;obtain ⟨E,Ec,V,Vc,X,Xc,M,Mc,Sn,Sc,Q,Qc,LL⟩:=a;have hb:Blk w g T (rfV s (⟨E,Ec,V,Vc,X,Xc,M,Mc,Sn,Sc,Q,Qc,LL⟩:Ra)++[Value.slice O L.length oc]).toArray:=hs.b
 have hll:L.length=out.length:=by
  have h9:=congrArg List.length hs.m.l;rw [List.length_map] at h9;exact h9
 have hB0:ah w w:=ah.rfl_;refine enter (n:=38) Tryz.func124 rfl rfl rfl (ak (af (mvp rfl (aa (aw rfl) (aa (ab br rfl) (aa (ab cZ rfl) ?_))))));have hB0:ah w w:=ah.rfl_;refine cK (s':=({ s with role:=0 }:Rf)) (a':=(⟨E,Ec,V,Vc,X,Xc,M,Mc,Sn,Sc,Q,Qc,LL⟩:Ra)) (v:=.int _ _) bd rfl rfl rfl (hb) (by exact ⟨by decide,rfl⟩) ?_;intro w1 O0_0 P0_0;have hC1:Chg (fun k=>k=g) w w1:=(ah.toChg hB0).only O0_0 rfl;refine ai (ag (ak (af (mvp rfl (aa (aw rfl) (aa (ab br rfl) (aa (ab dX rfl) ?_)))))));have hB1:ah _ w1:=(ah.rfl_ (a:=w1));refine cK (s':=({ s with role:=0,leader:=0 }:Rf)) (a':=(⟨E,Ec,V,Vc,X,Xc,M,Mc,Sn,Sc,Q,Qc,LL⟩:Ra)) (v:=.int _ _) bd rfl rfl rfl ((P0_0.from_ (ah.rfl_ (a:=w1)))) (by exact ⟨by decide,rfl⟩) ?_;intro w2 O1_0 P1_0;have hC2:=(hC1.next (ah.toChg hB1)).only O1_0 rfl;obtain ⟨hs3,h3⟩:=h.set (s':=({ s with role:=0,leader:=0 }:Rf)) (a':=(⟨E,Ec,V,Vc,X,Xc,M,Mc,Sn,Sc,Q,Qc,LL⟩:Ra)) hs hC2 (bm.same hs.f rfl rfl rfl rfl rfl rfl) P1_0;refine ai (ag (ak (af (mvp rfl (az uk (ym w0 Z T g ⟨({ s with role:=0,leader:=0 }:Rf),out⟩ _ (h3.from_ (ah.rfl_ (a:=w2)))) ?_)))));rintro v13 w3 ⟨rfl,h13⟩;have h13:aZ w0 Z w3 T g ⟨({ fF s with role:=0,leader:=0 }:Rf),out⟩:=h13;obtain ⟨tag9,a9,O9,oc9,L9,hs9⟩:=h13.ex;have hb9:=hs9.b;refine ai (ag (ak (af (mvi rfl (mvp rfl (aa (aw rfl) (aa (ab br rfl) (aa (ab bL rfl) (aa (ar ao rfl (by exact (show _=some (Value.int .i64 s.term) from dK (hb9.from_ (ah.rfl_ (a:=w3))) 3 rfl))) ?_)))))))));refine aa (ch rfl rfl) (ai (ag (Bn rfl (fun Q4=>?_) (fun Q4=>?_))))
 ·refine ak (af (mvp rfl (mvi rfl (aa (aw rfl) (aa (ab br rfl) (aa (ab bL rfl) ?_))))));have hB4:ah _ w3:=(ah.rfl_ (a:=w3));refine cK (s':=({ fF s with role:=0,leader:=0,term:=tm }:Rf)) (a':=a9) (v:=.int _ _) bd rfl rfl rfl ((hb9.from_ (ah.rfl_ (a:=w3)))) (by exact ⟨by decide,rfl⟩) ?_;intro w5 O4_0 P4_0;have hC4:Chg (fun k=>k=g) _ w5:=(ah.toChg hB4).only O4_0 rfl;refine ai (ag (ak (af (mvp rfl (aa (aw rfl) (aa (ab br rfl) (aa (ab fw rfl) ?_)))))));have hB5:ah _ w5:=(ah.rfl_ (a:=w5));refine cK (s':=({ fF s with role:=0,leader:=0,term:=tm,vote:=0 }:Rf)) (a':=a9) (v:=.int _ _) bd rfl rfl rfl ((P4_0.from_ (ah.rfl_ (a:=w5)))) (by exact ⟨by decide,rfl⟩) ?_;intro w6 O5_0 P5_0;have hC5:=(hC4.next (ah.toChg hB5)).only O5_0 rfl;refine ai (ag (ak (af (mvp rfl (aa (aw rfl) (aa (ab br rfl) (aa (ab ee rfl) ?_)))))));have hB6:ah _ w6:=(ah.rfl_ (a:=w6));refine cK (s':=({ fF s with role:=0,leader:=0,term:=tm,vote:=0,part:=⟨#[]⟩ }:Rf)) (a':=a9) (v:=.string _) nA rfl rfl rfl ((P5_0.from_ (ah.rfl_ (a:=w6)))) (by exact ⟨by decide,rfl⟩) ?_;intro w7 O6_0 P6_0;have hC6:=(hC5.next (ah.toChg hB6)).only O6_0 rfl;refine ai (ag (af (mvp rfl (aa (aw rfl) (aa (ab br rfl) (aa (ab ed rfl) ?_))))));have hB7:ah _ w7:=(ah.rfl_ (a:=w7));refine cK (s':=({ fF s with role:=0,leader:=0,term:=tm,vote:=0,part:=⟨#[]⟩,partOf:=0 }:Rf)) (a':=a9) (v:=.int _ _) bd rfl rfl rfl ((P6_0.from_ (ah.rfl_ (a:=w7)))) (by exact ⟨by decide,rfl⟩) ?_;intro w8 O7_0 P7_0;have hC7:=(hC6.next (ah.toChg hB7)).only O7_0 rfl;refine ai (du (eB rfl (⟨rfl,?_⟩)));show aZ w0 Z _ T g ⟨cH s tm,out⟩;unfold cH;simp only
  first
   |(rw [if_pos (show s.term<tm by omega)];exact (h13.set (s':=({ fF s with role:=0,leader:=0,term:=tm,vote:=0,part:=⟨#[]⟩,partOf:=0 }:Rf)) (a':=a9) hs9 hC7 (bm.same hs9.f rfl rfl rfl rfl rfl rfl) P7_0).2)
   |(rw [if_neg (show ¬ s.term<tm by omega)];exact h13.from_ (ah.rfl_ (a:=w8)))
 refine aM (du (eB rfl (⟨rfl,?_⟩)));show aZ w0 Z _ T g ⟨cH s tm,out⟩;unfold cH;simp only
 first
  |(rw [if_pos (show s.term<tm by omega)];exact (h13.set (s':=({ fF s with role:=0,leader:=0,term:=tm,vote:=0,part:=⟨#[]⟩,partOf:=0 }:Rf)) (a':=a9) hs9 hC7 (bm.same hs9.f rfl rfl rfl rfl rfl rfl) P7_0).2)
  |(rw [if_neg (show ¬ s.term<tm by omega)];exact h13.from_ (ah.rfl_ (a:=w3)))
theorem kM (w0:World) (Z:Nat→Prop) (T g:Nat) (p:Sp) (w:World) (h:aZ w0 Z w T g p) (tag:Nat→Nat) (a:Ra) (O:Option Addr) (oc:Nat) (L:List Msg) (hs:gZ w Z T g tag p a O oc L) (hl:L.length≤1000) (m:Msg) (hE:w.ownsRow 0 99 3 (.slice m.E m.es.length m.c) m.es.length (cN m.es)∧Col tag (1000+2*L.length) m.E) :
 Rt prog 71 [.pointer (some ⟨g,0,none⟩),.agg (bH m).toArray] w (fun v w'=>v=.tuple #[]∧aZ w0 Z w' T g (p.tell (pl m))):=by
 refine enter (n:=26) Tryz.func71 rfl rfl rfl (ak (af (bZ (v:=.agg _) rfl ?_)));intro b3 w1 E3 hb3 hk3;have hgb:=hs.b.lt;have h5:g≠b3:=by omega
 have hg3:w.heap.size≤b3:=Nat.le_of_eq hb3.symm;have hgA:=hs.b.from_ (ah.rfl_.next E3);refine ai (ag (ak (af (mvp rfl (aa (aw rfl) (aa (ab br rfl) (aa (ab cw rfl) (aa (ar ao rfl (by exact dK (hgA.from_ ah.rfl_) 0 rfl)) ?_))))))));refine aa (ab cu rfl) ?_;have hM1:ah _ w1:=ah.rfl_;refine eE (v:=.int _ _) bd rfl rfl rfl ((hk3.from_ ah.rfl_)) (by show _<13;decide) ?_;intro w2 O1 P1;have hgB0:=(hgA.from_ hM1).only O1 h5;refine ai (ag (ak (af (mvp rfl (aa (aw rfl) (aa (ab br rfl) (aa (ab bL rfl) (aa (ar ao rfl (by exact dK (hgB0.from_ ah.rfl_) 3 rfl)) ?_))))))));refine aa (ab bJ rfl) ?_;have hM2:ah _ w2:=ah.rfl_;refine eE (v:=.int _ _) bd rfl rfl rfl ((P1.from_ ah.rfl_)) (by show _<13;decide) ?_;intro w3 O2 P2;have hgB:=(hgB0.from_ hM2).only O2 h5;have hB:ah w w3:=(((ah.rfl_.next E3).only O1 (hg3)).only O2 (hg3));have hX:Blk w3 b3 39 (bH { m with f:=p.s.id,tm:=p.s.term }).toArray:=P2;refine ai (ag ?_);apply yc 8 7 [22] [(16,eqp _),(17,eqp _),(18,eqp _),(19,eqp _),(20,eqp (.slice O L.length oc)),(21,eqp (.agg (bH { m with f:=p.s.id,tm:=p.s.term }).toArray)),(22,fun v w'=>∃ q,v=.slice (some ⟨q,0,none⟩) 1 1∧Blk w' q 39 (bH { m with f:=p.s.id,tm:=p.s.term }).toArray),(23,fun v w'=>∃ A2 c2,v=.slice A2 (L.length+1) c2∧w'.ownsRow 0 39 13 (.slice A2 (L.length+1) c2) (L.length+1) (L.flatMap bH++bH { m with f:=p.s.id,tm:=p.s.term })∧(∀ k,A2.map (·.block)=some k→O.map (·.block)=some k∨(w3).heap.size≤k))] (fun w'=>ah w3 w') (fun w'=>(w3).grownBy w' (O.map (·.block))) (by repeat first | exact cB | refine cz ?_ | refine ck ?_) (by kernel_rfl) (by kernel_rfl) (by kernel_rfl) ⟨aj _,aj _,aj _,aj _,aj _,aj _,(fun _ _ _ hF ⟨q,h1,h2⟩=>⟨q,h1,h2.from_ hF⟩),(fun _ _ _ hF ⟨A2,c2,h1,h2,h3⟩=>⟨A2,c2,h1,h2.kept_from hF,h3⟩),trivial⟩ (ah.rfl_.d1) (ah.rfl_.d1.grown _) (fun _ _ hF h=>h.next hF) (fun _ _ hF h=>eU h (hF.grown _))
 case hop=>
  constructor
  ·rintro-w5 hG5;exact au (aK (v:=.pointer _) rfl) rfl
  constructor
  ·rintro-w6 D6;exact au (aK (v:=.pointer _) rfl) rfl
  constructor
  ·rintro-w7 D7;rintro _ rfl;exact au (aw rfl) rfl
  constructor
  ·rintro-w8 D8;rintro _ rfl;exact au (ab jU rfl) rfl
  constructor
  ·rintro-w9 D9;rintro _ rfl;exact au (ar jA rfl (show _=some (Value.slice O L.length oc) from (hgB.from_ D9).rd 22 rfl)) rfl
  constructor
  ·rintro-w10 D10;exact au (aD (cs:=bH { m with f:=p.s.id,tm:=p.s.term }) bh aU rfl ((hX.from_ D10).whole)) rfl
  constructor
  ·rintro-w11 D11;rintro v11_21 rfl;exact ko (qS (l:=[(0,.tmp 21)]) (cells:=(bH { m with f:=p.s.id,tm:=p.s.term }).toArray) ir rfl rfl (by show Instr.fill _ _ [(0,Value.agg (bH { m with f:=p.s.id,tm:=p.s.term }).toArray)]=_;kernel_rfl)) (ah.rfl_.new _) ⟨_,rfl,Blk.new _ _ _⟩
  constructor
  ·intro h;cases h
  exact trivial
 case hmu=>
  rintro w13 D13;rintro v13_20 rfl v13_22 ⟨q13,rfl,hq13⟩;show we ..;refine pe (news:=bH { m with f:=p.s.id,tm:=p.s.term }) ir rfl (by decide) rfl ((hs.m.o.kept_from hB).kept_from D13) (Nat.zero_le _) rfl rfl ⟨_,_,rfl,hq13.whole⟩ (by simp [bH,Value.oneCell']) (by omega) (by omega) ?_;intro A3 c3 w3 ho3 hg3 hl3;exact ⟨eU (D13.grown _) hg3,⟨A3,c3,rfl,ho3,fun k hk=>(hl3 k hk).imp id fun e=>Nat.le_trans D13.size e⟩,fun t u ht h=>pf (by repeat first | exact trivial | refine ⟨.inl rfl,?_⟩ | refine ⟨.inr (fun _ h=>h),?_⟩) t u ht h⟩
 case hend=>
  rintro w14 hG14;rintro _ rfl _ rfl _ rfl _ rfl v20 rfl v21 rfl v22 _ v23 ⟨A23,c23,rfl,ho23,hL23⟩;show St ..;have hgD:=hG14;have hgC:=hgB.chg (Chg.of_grown (U:=fun k=>tag k=6) hgD (fun k hk=>hs.m.c k hk)) (fun e=>by rw [hs.gc] at e;cases e);refine aa (aw rfl) (aa (ab jU rfl) (eE (v:=.slice _ _ _) pL rfl rfl rfl (hgC) (by show _<23;decide) ?_));intro w15 O3 P3;refine ai (du (eB rfl (⟨rfl,h.push hs (x:={ m with f:=p.s.id,tm:=p.s.term }) hE hB hgD ho23 rfl (fun k hk=>(hL23 k hk).imp id fun e=>Nat.le_trans hB.size e) O3 P3⟩)))
theorem um:aN prog 106=true:=by kernel_rfl
theorem nF:aN prog 61=true:=by kernel_rfl
theorem eZ:aN prog 62=true:=by kernel_rfl
theorem vZ:aN prog 63=true:=by kernel_rfl
theorem nE:aN prog 64=true:=by kernel_rfl
theorem nD:aN prog 66=true:=by kernel_rfl
theorem AX (n:Int) (w:World) :
 Rt prog 61 [.int .i64 n] w (fun v w'=>v=.bool (decide (1≤n∧n≤7))∧w=w'):=by
 refine enter (n:=9) Tryz.func61 rfl rfl rfl (ak (af (asb rfl (ai (ag (ak (af (mvi rfl (aa (lW rfl rfl) (mvb rfl (AP (t:=5) rfl (fun Q1=>?_) (fun Q1=>?_))))))))))))
 ·refine ae rfl (mvi rfl (ae rfl (aa (gH rfl rfl) (aa (aG (v:=.bool _) rfl rfl) (asb rfl (ai (ag (aC (bw (v:=.bool _) rfl rfl (⟨congrArg Value.bool ?_,rfl⟩))))))))))
  first
   |exact (decide_eq_true (by omega)).symm
   |exact (decide_eq_false (by omega)).symm
   |(rw [decide_eq_decide];omega)
 refine an rfl rfl (an rfl rfl (aa (av (v:=.bool _) rfl rfl) (asb rfl (ai (ag (aC (bw (v:=.bool _) rfl rfl (⟨congrArg Value.bool ?_,rfl⟩))))))))
 first
  |exact (decide_eq_true (by omega)).symm
  |exact (decide_eq_false (by omega)).symm
  |(rw [decide_eq_decide];omega)
theorem tA (n:Int) (w:World) :
 Rt prog 62 [.int .i64 n] w (fun v w'=>v=.bool (decide (0≤n∧n≤1099511627775))∧w=w'):=by
 refine enter (n:=9) Tryz.func62 rfl rfl rfl (ak (af (asb rfl (ai (ag (ak (af (mvi rfl (aa (lW rfl rfl) (mvb rfl (AP (t:=5) rfl (fun Q1=>?_) (fun Q1=>?_))))))))))))
 ·refine ae rfl (mvi rfl (ae rfl (aa (cg rfl rfl) (aa (aG (v:=.bool _) rfl rfl) (asb rfl (ai (ag (aC (bw (v:=.bool _) rfl rfl (⟨congrArg Value.bool ?_,rfl⟩))))))))))
  first
   |exact (decide_eq_true (by omega)).symm
   |exact (decide_eq_false (by omega)).symm
   |(rw [decide_eq_decide];omega)
 refine an rfl rfl (an rfl rfl (aa (av (v:=.bool _) rfl rfl) (asb rfl (ai (ag (aC (bw (v:=.bool _) rfl rfl (⟨congrArg Value.bool ?_,rfl⟩))))))))
 first
  |exact (decide_eq_true (by omega)).symm
  |exact (decide_eq_false (by omega)).symm
  |(rw [decide_eq_decide];omega)
theorem BA (s:Rf) (E:Option Addr) (n c:Nat) (w:World) (h:bX w (.slice E n c) s.es):Rt prog 63 [.agg #[.int .i64 s.b,.int .i64 s.t,.slice E n c]] w fun v w'=>v=.bool (bR s.b s.t s.es)∧ah w w':=
 (Rt.of (za s.b s.t _ s.es w h)).mono fun _ _ h=>h
def fz (l:List Int) (n lo hi:Int):Prop:=(l.length:Int)=n∧eQ lo hi l
instance (l:List Int) (n lo hi:Int):Decidable (fz l n lo hi):=by unfold fz;exact inferInstance
theorem Ah (A:Option Addr) (c:Nat) (l:List Int) (w:World) (hr:ey iV w A l) (hl:l.length≤1000000) :
 Rt prog 106 [.slice A l.length c] w (fun v w'=>v=.bool (gB l)∧ah w w'):=by
 refine enter (n:=20) Tryz.func106 rfl rfl rfl (ak (af (asb rfl (ai (ag (ak (ak (af (asi rfl (ai (ag (a_ (cY (G:=Nat) [2,4,5,6,7,8,9,10,11,12,13,14,15,16,17,18,19] (fun k=>[(3,.int .i64 (k:Nat))]) (fun k w'=>1≤k∧(k≤l.length∨k=1)∧(∀ j (h:j+1<l.length),j+1<k→l[j]<l[j+1])∧ah w w') (fun k=>l.length-k) (1) ⟨rfl,trivial⟩ ?_ ?_)))))))))))))
 ·exact ⟨Nat.le_refl _,.inr rfl,fun j _ h=>absurd h (by omega),ah.rfl_⟩
 rintro k ρ1 w1 ⟨hk0,hk,h2,hB⟩;refine ak (ak (af (mvi rfl (mvs rfl (aa (bF cp rfl) (aa (cg rfl rfl) (ai (ag (Bn rfl (fun Q2=>?_) (fun Q2=>?_))))))))))
 ·have hkx:k<l.length:=by omega
  obtain ⟨ba,oa,rfl,hca⟩:=hr (by omega);refine aM (ag (ak (a_ (ak ?_))));apply bY 10 [(10,eqp _),(11,eqp _),(12,eqp _),(13,eqp (.int .i64 l[k])),(14,eqp _),(15,eqp _),(16,eqp (.int .i64 ((k-1:Nat):Int))),(17,eqp _),(18,eqp (.int .i64 l[k-1])),(19,eqp _)] (by repeat first | exact cB | refine cz ?_ | refine ck ?_) (by kernel_rfl) (by kernel_rfl) ⟨aj _,aj _,aj _,aj _,aj _,aj _,aj _,aj _,aj _,aj _,trivial⟩
  case hop=>
   constructor
   ·rintro-w4 D4;exact au (aK (v:=.slice _ _ _) rfl) rfl
   constructor
   ·rintro-w5 D5;exact au (aK (v:=.int _ _) rfl) rfl
   constructor
   ·rintro-w6 D6;rintro _ rfl _ rfl;exact au (dd c6 rfl rfl (by omega)) rfl
   constructor
   ·rintro-w7 D7;rintro _ rfl;exact au (ar ao rfl (by exact fC (hB.next D7) (hca k hkx))) rfl
   constructor
   ·rintro-w8 D8;exact au (aK (v:=.slice _ _ _) rfl) rfl
   constructor
   ·rintro-w9 D9;exact au (aK (v:=.int _ _) rfl) rfl
   constructor
   ·rintro-w10 D10;rintro _ rfl;exact au (jk (dM rfl rfl (by omega)) (bM (by omega))) rfl
   constructor
   ·rintro-w11 D11;rintro _ rfl v11_16 rfl;exact au (dd c6 rfl rfl (by omega)) rfl
   constructor
   ·rintro-w12 D12;rintro _ rfl;exact au (ar ao rfl (by exact fC (hB.next D12) (hca (k-1) (by omega)))) rfl
   constructor
   ·rintro-w13 D13;rintro v13_13 rfl v13_18 rfl;exact au (gH rfl rfl) rfl
   exact trivial
  case hend=>
   intro w14 D14;rintro _ rfl _ rfl _ rfl v13 rfl _ rfl _ rfl v16 rfl _ rfl v18 rfl _ rfl;show St ..;refine ai (ag (Bn rfl (fun Q15=>?_) (fun Q15=>?_)))
   ·refine ak (af (asb rfl (ai (ag (aC (bD (aE (aE (bD (aE (bw (v:=.bool _) rfl rfl (⟨congrArg Value.bool ?_,(hB.next D14)⟩))))))))))));rw [eq_comm,←Bool.not_eq_true,jl];intro h4;obtain ⟨j,rfl⟩:∃ j,k=j+1:=⟨k-1,by omega⟩;have h6:=h4 j hkx
    (try simp only [Nat.add_sub_cancel] at*)
    omega
   refine aM (bN (ag (af (mvi rfl (aa (bW rfl rfl (by omega)) (asi rfl (ai ?_)))))));refine bT (k+1) ⟨(by first | rfl | (refine bM ?_;omega)),trivial⟩ (by (iterate 35 refine bf rfl ?_);exact bB) ⟨?_,?_⟩
   ·refine ⟨by omega,.inl (by omega),fun j h hj=>?_,(hB.next D14)⟩;rcases Nat.lt_or_ge (j+1) k with e | e
    ·exact h2 j h e
    ·obtain rfl:k=j+1:=by omega
     (try simp only [Nat.add_sub_cancel] at*)
     omega
   ·omega
 refine cq (bg (bg (b_ (ag (ak (af (asb rfl (ai (ag (aC (bw (v:=.bool _) rfl rfl (⟨congrArg Value.bool ?_,hB⟩))))))))))));rw [eq_comm,jl];exact fun j hj=>h2 j hj (by omega)
theorem tC (A:Option Addr) (c:Nat) (l:List Int) (n:Int) (w:World) (hr:ey iV w A l) (hl:l.length≤1000000) :
 Rt prog 64 [.slice A l.length c,.int .i64 n] w (fun v w'=>v=.bool (fE l n)∧ah w w'):=by
 refine enter (n:=27) Tryz.func64 rfl rfl rfl (ak (af (asb rfl (ai (ag (ak (ak (af (asi rfl (ai (ag (a_ (cY (G:=Nat) [4,6,7,8,9,10,11,12,13,14,15,16,17,18,19,20,21,22,23,24] (fun k=>[(5,.int .i64 (k:Nat))]) (fun k w'=>k≤l.length∧(∀ j (h:j<l.length),j<k→1≤l[j]∧l[j]≤n)∧ah w w') (fun k=>l.length-k) (0) ⟨rfl,trivial⟩ ?_ ?_)))))))))))))
 ·exact ⟨Nat.zero_le _,fun j _ h=>absurd h (by omega),ah.rfl_⟩
 rintro k ρ1 w1 ⟨hk,h1,hB⟩;refine ak (ak (af (mvi rfl (mvs rfl (aa (bF cp rfl) (aa (cg rfl rfl) (ai (ag (Bn rfl (fun Q2=>?_) (fun Q2=>?_))))))))))
 ·have hkx:k<l.length:=by omega
  obtain ⟨ba,oa,rfl,hca⟩:=hr (by omega);refine aM (ag (ak (a_ (ak (af (mvs rfl (mvi rfl (aa (dd c6 rfl rfl (by omega)) (aa (ar ao rfl (by exact fC hB (hca k hkx))) ?_)))))))));refine aa (cg rfl rfl) (mvb rfl (AP (t:=17) rfl (fun Q3=>?_) (fun Q3=>?_)))
  ·refine bE rfl (ai (ag (aR rfl (ak (af (asb rfl (ai (ag (aC (bD (aE (aE (bD (aE (bw (v:=.bool _) rfl rfl (⟨congrArg Value.bool ?_,hB⟩))))))))))))))));rw [eq_comm,←Bool.not_eq_true,ij];rintro ⟨h3,h4⟩;have h5:=h3 _ (List.getElem_mem hkx);omega
  refine ae rfl (mvs rfl (ae rfl (mvi rfl (ae rfl (aa (dd c6 rfl rfl (by omega)) (ae rfl (aa (ar ao rfl (by exact fC hB (hca k hkx))) ?_)))))));refine ae rfl (mvi rfl (ae rfl (aa (ch rfl rfl) (aa (av (v:=.bool _) rfl rfl) (ai (ag (Bn rfl (fun Q4=>?_) (fun Q4=>?_))))))))
  ·refine ak (af (asb rfl (ai (ag (aC (bD (aE (aE (bD (aE (bw (v:=.bool _) rfl rfl (⟨congrArg Value.bool ?_,hB⟩))))))))))));rw [eq_comm,←Bool.not_eq_true,ij];rintro ⟨h3,h4⟩;have h5:=h3 _ (List.getElem_mem hkx);omega
  refine aM (bN (ag (af (mvi rfl (aa (bW rfl rfl (by omega)) (asi rfl (ai ?_)))))));refine bT (k+1) ⟨(by first | rfl | (refine bM ?_;omega)),trivial⟩ (by (iterate 42 refine bf rfl ?_);exact bB) ⟨?_,?_⟩
  ·refine ⟨by omega,fun j h hj=>?_,hB⟩;rcases Nat.lt_or_ge j k with e | e
   ·exact h1 j h e
   ·obtain rfl:j=k:=by omega
    omega
  ·omega
 refine cq (bg (bg (b_ (ag (ak (af (mvs rfl (az um (Ah A c l _ (hr.from_ hB) hl) ?_))))))));rintro v26 w5 ⟨rfl,E26⟩;refine asb rfl (ai (ag (aC (bw (v:=.bool _) rfl rfl (⟨congrArg Value.bool ?_,(hB.next E26)⟩)))));obtain rfl:k=l.length:=by omega
 rw [Bool.eq_iff_iff,ij,jl];exact ⟨fun h=>⟨fun x hx=>by obtain ⟨j,hj,rfl⟩:=List.getElem_of_mem hx;exact h1 j hj hj,h⟩,fun h=>h.2⟩
theorem x6 (A:Option Addr) (c:Nat) (l:List Int) (n lo hi:Int) (w:World) (hr:ey iV w A l) (hl:l.length≤1000000) :
 Rt prog 66 [.slice A l.length c,.int .i64 n,.int .i64 lo,.int .i64 hi] w (fun v w'=>v=.bool (decide (fz l n lo hi))∧ah w w'):=by
 refine enter (n:=34) Tryz.func66 rfl rfl rfl (ak (af (asb rfl (ai (ag (ak (ak (af (asi rfl (ai (ag (a_ (cY (G:=Nat) [8,10,11,12,13,14,15,16,17,18,19,20,21,22,23,24,25,26,27,28,29] (fun k=>[(9,.int .i64 (k:Nat))]) (fun k w'=>k≤l.length∧(∀ j (h:j<l.length),j<k→lo≤l[j]∧l[j]≤hi)∧ah w w') (fun k=>l.length-k) (0) ⟨rfl,trivial⟩ ?_ ?_)))))))))))))
 ·exact ⟨Nat.zero_le _,fun j _ h=>absurd h (by omega),ah.rfl_⟩
 rintro k ρ1 w1 ⟨hk,h1,hB⟩;refine ak (ak (af (mvi rfl (mvs rfl (aa (bF cp rfl) (aa (cg rfl rfl) (ai (ag (Bn rfl (fun Q2=>?_) (fun Q2=>?_))))))))))
 ·have hkx:k<l.length:=by omega
  obtain ⟨ba,oa,rfl,hca⟩:=hr (by omega);refine aM (ag (ak (a_ (ak (af (mvs rfl (mvi rfl (aa (dd c6 rfl rfl (by omega)) (aa (ar ao rfl (by exact fC hB (hca k hkx))) ?_)))))))));refine mvi rfl (aa (cg rfl rfl) (mvb rfl (AP (t:=22) rfl (fun Q3=>?_) (fun Q3=>?_))))
  ·refine bE rfl (ai (ag (aR rfl (ak (af (asb rfl (ai (ag (aC (bD (aE (aE (bD (aE (bw (v:=.bool _) rfl rfl (⟨congrArg Value.bool ?_,hB⟩))))))))))))))));rw [eq_comm,decide_eq_false_iff_not];rintro ⟨h3,h4⟩;have h5:=h4 _ (List.getElem_mem hkx);omega
  refine ae rfl (mvs rfl (ae rfl (mvi rfl (ae rfl (aa (dd c6 rfl rfl (by omega)) (ae rfl (aa (ar ao rfl (by exact fC hB (hca k hkx))) ?_)))))));refine ae rfl (mvi rfl (ae rfl (aa (ch rfl rfl) (aa (av (v:=.bool _) rfl rfl) (ai (ag (Bn rfl (fun Q4=>?_) (fun Q4=>?_))))))))
  ·refine ak (af (asb rfl (ai (ag (aC (bD (aE (aE (bD (aE (bw (v:=.bool _) rfl rfl (⟨congrArg Value.bool ?_,hB⟩))))))))))));rw [eq_comm,decide_eq_false_iff_not];rintro ⟨h3,h4⟩;have h5:=h4 _ (List.getElem_mem hkx);omega
  refine aM (bN (ag (af (mvi rfl (aa (bW rfl rfl (by omega)) (asi rfl (ai ?_)))))));refine bT (k+1) ⟨(by first | rfl | (refine bM ?_;omega)),trivial⟩ (by (iterate 44 refine bf rfl ?_);exact bB) ⟨?_,?_⟩
  ·refine ⟨by omega,fun j h hj=>?_,hB⟩;rcases Nat.lt_or_ge j k with e | e
   ·exact h1 j h e
   ·obtain rfl:j=k:=by omega
    omega
  ·omega
 refine cq (bg (bg (b_ (ag (ak (af (mvs rfl (aa (bF cp rfl) (mvi rfl (aa (bt rfl rfl) (asb rfl (ai (ag (aC (bw (v:=.bool _) rfl rfl ?_)))))))))))))));refine ⟨congrArg Value.bool ?_,hB⟩;obtain rfl:k=l.length:=by omega
 rw [Bool.eq_iff_iff,beq_iff_eq,decide_eq_true_eq];exact ⟨fun h=>⟨h,fun x hx=>by obtain ⟨j,hj,rfl⟩:=List.getElem_of_mem hx;exact h1 j hj hj⟩,fun h=>h.1⟩
theorem Bo (s:ByteArray):(!(s.toList==(⟨#[]⟩:ByteArray).toList))=decide (s.size≠0):=by
 rw [zz,Bool.eq_iff_iff];simp
theorem yR (s:Rf) (a:Ra) (w:World) (hrd:fo w s a) (hl:s.votes.length≤1000000∧s.next.length≤1000000∧s.mtch.length≤1000000∧s.sent.length≤1000000∧s.reads.length≤1000000∧∀ q∈s.reads,q.acks.length≤1000000) :
 Rt prog 30 [.agg (rfV s a).toArray] w (fun v w'=>v=.bool (iB s)∧ah w w'):=by
 obtain ⟨E,Ec,V,Vc,X,Xc,M,Mc,Sn,Sc,Q,Qc,LL⟩:=a;have hrL:LL.map (fun q=>q.1)=s.reads:=hrd.r;have hrk:∀ q∈LL,IR w q.2.1 q.2.2 q.1.acks:=hrd.k;obtain ⟨hl1,hl2,hl3,hl4,hl5,hl6⟩:=hl;have hrl:LL.length=s.reads.length:=by rw [←hrL,List.length_map]
 obtain ⟨nn,hnn⟩:∃ nn:Int,(s.role=2→nn=s.nodes)∧(s.role≠2→nn=0):=by
  by_cases h:s.role=2
  ·exact ⟨s.nodes,fun _=>rfl,fun e=>absurd h e⟩
  ·exact ⟨0,fun e=>absurd e h,fun _=>rfl⟩
 refine enter (n:=259) Tryz.func30 rfl rfl rfl (ak (af (bZ (v:=.agg _) rfl ?_)));intro b1 w1 E1 hb1 hk1;refine asb rfl (ai (ag (fY (G:=Unit) [2,8,9,10,11,12,13,14,15,16,17,18,19,20,21,22,23,24,25,26,27,28,29,30,31,32,33,34,35,36,37,38,39,40,41,42,43,44,45,46,47,48,49,50,51,52,53,54,55,56,57,58,59,60,61,62,63,64,65,66,67,68,69,70,71,72,73,74,75,76,77,78,79,80,81,82,83,84,85,86,87,88,89,90,91,92,93,94,95,96,97,98,99,100,101,102,103,104,105,106,107,108,109,110,111,112] (fun _=>[]) (fun _ w'=>((1≤s.nodes∧s.nodes≤7)∧(1≤s.id∧s.id≤s.nodes)∧(0≤s.role∧s.role≤2)∧(0≤s.term∧s.term≤1099511627775)∧(0≤s.vote∧s.vote≤s.nodes)∧(0≤s.leader∧s.leader≤s.nodes)∧bR s.b s.t s.es=true∧s.snap.size≤524288∧(s.b≠0∨s.snap.size=0)∧(0≤s.elapsed∧s.elapsed≤1099511627775)∧(0≤s.timeout∧s.timeout≤1099511627775)∧(0≤s.round∧s.round≤1099511627775)∧fE s.votes s.nodes=true)∧Blk w' b1 29 (rfV s (⟨E,Ec,V,Vc,X,Xc,M,Mc,Sn,Sc,Q,Qc,LL⟩:Ra)).toArray∧ah w w') ?_ ?_)))
 ·refine ak (af (aa (ab cf rfl) (aa (ar ao rfl (by exact (hk1.from_ ah.rfl_).rd 1 rfl)) ?_)));refine az nF (AX s.nodes _) ?_;rintro v10 w2 ⟨rfl,rfl⟩;refine aa (cn rfl) (mvb rfl (aJ (t:=12) rfl (fun Q3=>?_) (fun Q3=>?_)))
  ·with_reducible (replace Q3:=dF Q3;replace Q3:=dF_ Q3)
   (try simp only [bs9] at Q3)
   refine bE rfl (ai (ag (aR rfl (ak (af (asb rfl (ai (ag (aC (aE (bw (v:=.bool _) rfl rfl (⟨congrArg Value.bool ?_,(ah.rfl_.next E1)⟩))))))))))));rw [eq_comm,←Bool.not_eq_true,cd];rintro ⟨⟨n1,n2,n3,⟨n4,n5⟩,n6,n7,n8,n9⟩,⟨g1,g2,g3,g4,g5⟩,v1,l1,⟨p1,p2,p3⟩⟩
   first
    |omega
    |(simp_all;done)
    |(simp_all;omega)
  with_reducible (replace Q3:=dG Q3;replace Q3:=dT_ Q3)
  (try simp only [bs9] at Q3)
  refine ae rfl (aa (ab cw rfl) (ae rfl (aa (ar ao rfl (by exact (hk1.from_ ah.rfl_).rd 0 rfl)) ?_)));refine ae rfl (aa (cg rfl rfl) (aa (av (v:=.bool _) rfl rfl) (mvb rfl (AP (t:=17) rfl (fun Q4=>?_) (fun Q4=>?_)))))
  ·(try simp only [bs9] at Q4)
   refine bE rfl (ai (ag (aR rfl (ak (af (asb rfl (ai (ag (aC (aE (bw (v:=.bool _) rfl rfl (⟨congrArg Value.bool ?_,(ah.rfl_.next E1)⟩))))))))))));rw [eq_comm,←Bool.not_eq_true,cd];rintro ⟨⟨n1,n2,n3,⟨n4,n5⟩,n6,n7,n8,n9⟩,⟨g1,g2,g3,g4,g5⟩,v1,l1,⟨p1,p2,p3⟩⟩
   first
    |omega
    |(simp_all;done)
    |(simp_all;omega)
  (try simp only [bs9] at Q4)
  refine ae rfl (aa (ab cw rfl) (ae rfl (aa (ar ao rfl (by exact (hk1.from_ ah.rfl_).rd 0 rfl)) ?_)));refine ae rfl (aa (ab cf rfl) (ae rfl (aa (ar ao rfl (by exact (hk1.from_ ah.rfl_).rd 1 rfl)) ?_)));refine ae rfl (aa (ch rfl rfl) (aa (av (v:=.bool _) rfl rfl) (mvb rfl (AP (t:=24) rfl (fun Q5=>?_) (fun Q5=>?_)))))
  ·(try simp only [bs9] at Q5)
   refine bE rfl (ai (ag (aR rfl (ak (af (asb rfl (ai (ag (aC (aE (bw (v:=.bool _) rfl rfl (⟨congrArg Value.bool ?_,(ah.rfl_.next E1)⟩))))))))))));rw [eq_comm,←Bool.not_eq_true,cd];rintro ⟨⟨n1,n2,n3,⟨n4,n5⟩,n6,n7,n8,n9⟩,⟨g1,g2,g3,g4,g5⟩,v1,l1,⟨p1,p2,p3⟩⟩
   first
    |omega
    |(simp_all;done)
    |(simp_all;omega)
  (try simp only [bs9] at Q5)
  refine ae rfl (aa (ab cZ rfl) (ae rfl (aa (ar ao rfl (by exact (hk1.from_ ah.rfl_).rd 2 rfl)) ?_)));refine ae rfl (aa (cg rfl rfl) (aa (av (v:=.bool _) rfl rfl) (mvb rfl (AP (t:=29) rfl (fun Q6=>?_) (fun Q6=>?_)))))
  ·(try simp only [bs9] at Q6)
   refine bE rfl (ai (ag (aR rfl (ak (af (asb rfl (ai (ag (aC (aE (bw (v:=.bool _) rfl rfl (⟨congrArg Value.bool ?_,(ah.rfl_.next E1)⟩))))))))))));rw [eq_comm,←Bool.not_eq_true,cd];rintro ⟨⟨n1,n2,n3,⟨n4,n5⟩,n6,n7,n8,n9⟩,⟨g1,g2,g3,g4,g5⟩,v1,l1,⟨p1,p2,p3⟩⟩
   first
    |omega
    |(simp_all;done)
    |(simp_all;omega)
  (try simp only [bs9] at Q6)
  refine ae rfl (aa (ab cZ rfl) (ae rfl (aa (ar ao rfl (by exact (hk1.from_ ah.rfl_).rd 2 rfl)) ?_)));refine ae rfl (aa (ch rfl rfl) (aa (av (v:=.bool _) rfl rfl) (mvb rfl (AP (t:=34) rfl (fun Q7=>?_) (fun Q7=>?_)))))
  ·(try simp only [bs9] at Q7)
   refine bE rfl (ai (ag (aR rfl (ak (af (asb rfl (ai (ag (aC (aE (bw (v:=.bool _) rfl rfl (⟨congrArg Value.bool ?_,(ah.rfl_.next E1)⟩))))))))))));rw [eq_comm,←Bool.not_eq_true,cd];rintro ⟨⟨n1,n2,n3,⟨n4,n5⟩,n6,n7,n8,n9⟩,⟨g1,g2,g3,g4,g5⟩,v1,l1,⟨p1,p2,p3⟩⟩
   first
    |omega
    |(simp_all;done)
    |(simp_all;omega)
  (try simp only [bs9] at Q7)
  refine ae rfl (aa (ab bL rfl) (ae rfl (aa (ar ao rfl (by exact (hk1.from_ ah.rfl_).rd 3 rfl)) ?_)));refine ae rfl (az eZ (tA s.term _) ?_);rintro v37 w8 ⟨rfl,rfl⟩;refine ae rfl (aa (cn rfl) (aa (av (v:=.bool _) rfl rfl) (mvb rfl (aJ (t:=40) rfl (fun Q9=>?_) (fun Q9=>?_)))))
  ·with_reducible (replace Q9:=dF Q9;replace Q9:=dF_ Q9)
   (try simp only [bs9] at Q9)
   refine bE rfl (ai (ag (aR rfl (ak (af (asb rfl (ai (ag (aC (aE (bw (v:=.bool _) rfl rfl (⟨congrArg Value.bool ?_,(ah.rfl_.next E1)⟩))))))))))));rw [eq_comm,←Bool.not_eq_true,cd];rintro ⟨⟨n1,n2,n3,⟨n4,n5⟩,n6,n7,n8,n9⟩,⟨g1,g2,g3,g4,g5⟩,v1,l1,⟨p1,p2,p3⟩⟩
   first
    |omega
    |(simp_all;done)
    |(simp_all;omega)
  with_reducible (replace Q9:=dG Q9;replace Q9:=dT_ Q9)
  (try simp only [bs9] at Q9)
  refine ae rfl (aa (ab fw rfl) (ae rfl (aa (ar ao rfl (by exact (hk1.from_ ah.rfl_).rd 4 rfl)) ?_)));refine ae rfl (aa (cg rfl rfl) (aa (av (v:=.bool _) rfl rfl) (mvb rfl (AP (t:=45) rfl (fun Q10=>?_) (fun Q10=>?_)))))
  ·(try simp only [bs9] at Q10)
   refine bE rfl (ai (ag (aR rfl (ak (af (asb rfl (ai (ag (aC (aE (bw (v:=.bool _) rfl rfl (⟨congrArg Value.bool ?_,(ah.rfl_.next E1)⟩))))))))))));rw [eq_comm,←Bool.not_eq_true,cd];rintro ⟨⟨n1,n2,n3,⟨n4,n5⟩,n6,n7,n8,n9⟩,⟨g1,g2,g3,g4,g5⟩,v1,l1,⟨p1,p2,p3⟩⟩
   first
    |omega
    |(simp_all;done)
    |(simp_all;omega)
  (try simp only [bs9] at Q10)
  refine ae rfl (aa (ab fw rfl) (ae rfl (aa (ar ao rfl (by exact (hk1.from_ ah.rfl_).rd 4 rfl)) ?_)));refine ae rfl (aa (ab cf rfl) (ae rfl (aa (ar ao rfl (by exact (hk1.from_ ah.rfl_).rd 1 rfl)) ?_)));refine ae rfl (aa (ch rfl rfl) (aa (av (v:=.bool _) rfl rfl) (mvb rfl (AP (t:=52) rfl (fun Q11=>?_) (fun Q11=>?_)))))
  ·(try simp only [bs9] at Q11)
   refine bE rfl (ai (ag (aR rfl (ak (af (asb rfl (ai (ag (aC (aE (bw (v:=.bool _) rfl rfl (⟨congrArg Value.bool ?_,(ah.rfl_.next E1)⟩))))))))))));rw [eq_comm,←Bool.not_eq_true,cd];rintro ⟨⟨n1,n2,n3,⟨n4,n5⟩,n6,n7,n8,n9⟩,⟨g1,g2,g3,g4,g5⟩,v1,l1,⟨p1,p2,p3⟩⟩
   first
    |omega
    |(simp_all;done)
    |(simp_all;omega)
  (try simp only [bs9] at Q11)
  refine ae rfl (aa (ab dX rfl) (ae rfl (aa (ar ao rfl (by exact (hk1.from_ ah.rfl_).rd 5 rfl)) ?_)));refine ae rfl (aa (cg rfl rfl) (aa (av (v:=.bool _) rfl rfl) (mvb rfl (AP (t:=57) rfl (fun Q12=>?_) (fun Q12=>?_)))))
  ·(try simp only [bs9] at Q12)
   refine bE rfl (ai (ag (aR rfl (ak (af (asb rfl (ai (ag (aC (aE (bw (v:=.bool _) rfl rfl (⟨congrArg Value.bool ?_,(ah.rfl_.next E1)⟩))))))))))));rw [eq_comm,←Bool.not_eq_true,cd];rintro ⟨⟨n1,n2,n3,⟨n4,n5⟩,n6,n7,n8,n9⟩,⟨g1,g2,g3,g4,g5⟩,v1,l1,⟨p1,p2,p3⟩⟩
   first
    |omega
    |(simp_all;done)
    |(simp_all;omega)
  (try simp only [bs9] at Q12)
  refine ae rfl (aa (ab dX rfl) (ae rfl (aa (ar ao rfl (by exact (hk1.from_ ah.rfl_).rd 5 rfl)) ?_)));refine ae rfl (aa (ab cf rfl) (ae rfl (aa (ar ao rfl (by exact (hk1.from_ ah.rfl_).rd 1 rfl)) ?_)));refine ae rfl (aa (ch rfl rfl) (aa (av (v:=.bool _) rfl rfl) (mvb rfl (AP (t:=64) rfl (fun Q13=>?_) (fun Q13=>?_)))))
  ·(try simp only [bs9] at Q13)
   refine bE rfl (ai (ag (aR rfl (ak (af (asb rfl (ai (ag (aC (aE (bw (v:=.bool _) rfl rfl (⟨congrArg Value.bool ?_,(ah.rfl_.next E1)⟩))))))))))));rw [eq_comm,←Bool.not_eq_true,cd];rintro ⟨⟨n1,n2,n3,⟨n4,n5⟩,n6,n7,n8,n9⟩,⟨g1,g2,g3,g4,g5⟩,v1,l1,⟨p1,p2,p3⟩⟩
   first
    |omega
    |(simp_all;done)
    |(simp_all;omega)
  (try simp only [bs9] at Q13)
  refine ae rfl (aa (ab bj rfl) (ae rfl (aa (aD (cs:=[.int .i64 s.b,.int .i64 s.t,.slice E s.es.length Ec]) aY aL rfl (qT (hk1.from_ ah.rfl_))) (ae rfl (az vZ (BA s E s.es.length Ec _ (hrd.e.from_ (ah.rfl_.next E1))) ?_)))));rintro v67 w14 ⟨rfl,E67⟩;refine ae rfl (aa (cn rfl) (aa (av (v:=.bool _) rfl rfl) (mvb rfl (AN (t:=70) rfl (fun Q15=>?_) (fun Q15=>?_)))))
  ·(try simp only [bs9] at Q15)
   refine bE rfl (ai (ag (aR rfl (ak (af (asb rfl (ai (ag (aC (aE (bw (v:=.bool _) rfl rfl (⟨congrArg Value.bool ?_,((ah.rfl_.next E1).next E67)⟩))))))))))));rw [eq_comm,←Bool.not_eq_true,cd];rintro ⟨⟨n1,n2,n3,⟨n4,n5⟩,n6,n7,n8,n9⟩,⟨g1,g2,g3,g4,g5⟩,v1,l1,⟨p1,p2,p3⟩⟩
   first
    |omega
    |(simp_all;done)
    |(simp_all;omega)
  (try simp only [bs9] at Q15)
  refine ae rfl (aa (ab dY rfl) (ae rfl (aa (ar dc rfl (by exact (hk1.from_ (ah.rfl_.next E67)).rd 9 rfl)) ?_)));refine ae rfl (aa (f_ (by kernel_rfl) rfl) (ae rfl (aa (ch rfl rfl) (aa (av (v:=.bool _) rfl rfl) (mvb rfl (AP (t:=76) rfl (fun Q16=>?_) (fun Q16=>?_)))))))
  ·(try simp only [bs9] at Q16)
   refine bE rfl (ai (ag (aR rfl (ak (af (asb rfl (ai (ag (aC (aE (bw (v:=.bool _) rfl rfl (⟨congrArg Value.bool ?_,((ah.rfl_.next E1).next E67)⟩))))))))))));rw [eq_comm,←Bool.not_eq_true,cd];rintro ⟨⟨n1,n2,n3,⟨n4,n5⟩,n6,n7,n8,n9⟩,⟨g1,g2,g3,g4,g5⟩,v1,l1,⟨p1,p2,p3⟩⟩
   first
    |omega
    |(simp_all;done)
    |(simp_all;omega)
  (try simp only [bs9] at Q16)
  refine ae rfl (aa (ab bj rfl) (ae rfl (aa (ab ct rfl) (ae rfl (aa (ar ao rfl (by exact (hk1.from_ (ah.rfl_.next E67)).rd 6 rfl)) ?_)))));refine ae rfl (aa (bt rfl rfl) (ae rfl (mvb rfl (AP (t:=81) rfl (fun Q17=>?_) (fun Q17=>?_)))))
  ·(try simp only [bs9] at Q17)
   refine ae rfl (aa (ab dY rfl) (ae rfl (aa (ar dc rfl (by exact (hk1.from_ (ah.rfl_.next E67)).rd 9 rfl)) ?_)));refine ae rfl (aa (jk (uH rfl rfl) (congrArg Value.bool (Bo s.snap))) (ae rfl (aa (aG (v:=.bool _) rfl rfl) (aa (av (v:=.bool _) rfl rfl) (mvb rfl (AP (t:=87) rfl (fun Q18=>?_) (fun Q18=>?_)))))))
   ·(try simp only [bs9] at Q18)
    refine bE rfl (ai (ag (aR rfl (ak (af (asb rfl (ai (ag (aC (aE (bw (v:=.bool _) rfl rfl (⟨congrArg Value.bool ?_,((ah.rfl_.next E1).next E67)⟩))))))))))));rw [eq_comm,←Bool.not_eq_true,cd];rintro ⟨⟨n1,n2,n3,⟨n4,n5⟩,n6,n7,n8,n9⟩,⟨g1,g2,g3,g4,g5⟩,v1,l1,⟨p1,p2,p3⟩⟩
    first
     |omega
     |(simp_all;done)
     |(simp_all;omega)
   (try simp only [bs9] at Q18)
   refine ae rfl (aa (ab dq rfl) (ae rfl (aa (ar ao rfl (by exact (hk1.from_ (ah.rfl_.next E67)).rd 11 rfl)) ?_)));refine ae rfl (az eZ (tA s.elapsed _) ?_);rintro v90 w19 ⟨rfl,rfl⟩;refine ae rfl (aa (cn rfl) (aa (av (v:=.bool _) rfl rfl) (mvb rfl (aJ (t:=93) rfl (fun Q20=>?_) (fun Q20=>?_)))))
   ·with_reducible (replace Q20:=dF Q20;replace Q20:=dF_ Q20)
    (try simp only [bs9] at Q20)
    refine bE rfl (ai (ag (aR rfl (ak (af (asb rfl (ai (ag (aC (aE (bw (v:=.bool _) rfl rfl (⟨congrArg Value.bool ?_,((ah.rfl_.next E1).next E67)⟩))))))))))));rw [eq_comm,←Bool.not_eq_true,cd];rintro ⟨⟨n1,n2,n3,⟨n4,n5⟩,n6,n7,n8,n9⟩,⟨g1,g2,g3,g4,g5⟩,v1,l1,⟨p1,p2,p3⟩⟩
    first
     |omega
     |(simp_all;done)
     |(simp_all;omega)
   with_reducible (replace Q20:=dG Q20;replace Q20:=dT_ Q20)
   (try simp only [bs9] at Q20)
   refine ae rfl (aa (ab fp rfl) (ae rfl (aa (ar ao rfl (by exact (hk1.from_ (ah.rfl_.next E67)).rd 12 rfl)) ?_)));refine ae rfl (az eZ (tA s.timeout _) ?_);rintro v96 w21 ⟨rfl,rfl⟩;refine ae rfl (aa (cn rfl) (aa (av (v:=.bool _) rfl rfl) (mvb rfl (aJ (t:=99) rfl (fun Q22=>?_) (fun Q22=>?_)))))
   ·with_reducible (replace Q22:=dF Q22;replace Q22:=dF_ Q22)
    (try simp only [bs9] at Q22)
    refine bE rfl (ai (ag (aR rfl (ak (af (asb rfl (ai (ag (aC (aE (bw (v:=.bool _) rfl rfl (⟨congrArg Value.bool ?_,((ah.rfl_.next E1).next E67)⟩))))))))))));rw [eq_comm,←Bool.not_eq_true,cd];rintro ⟨⟨n1,n2,n3,⟨n4,n5⟩,n6,n7,n8,n9⟩,⟨g1,g2,g3,g4,g5⟩,v1,l1,⟨p1,p2,p3⟩⟩
    first
     |omega
     |(simp_all;done)
     |(simp_all;omega)
   with_reducible (replace Q22:=dG Q22;replace Q22:=dT_ Q22)
   (try simp only [bs9] at Q22)
   refine ae rfl (aa (ab dW rfl) (ae rfl (aa (ar ao rfl (by exact (hk1.from_ (ah.rfl_.next E67)).rd 18 rfl)) ?_)));refine ae rfl (az eZ (tA s.round _) ?_);rintro v102 w23 ⟨rfl,rfl⟩;refine ae rfl (aa (cn rfl) (aa (av (v:=.bool _) rfl rfl) (mvb rfl (aJ (t:=105) rfl (fun Q24=>?_) (fun Q24=>?_)))))
   ·with_reducible (replace Q24:=dF Q24;replace Q24:=dF_ Q24)
    (try simp only [bs9] at Q24)
    refine bE rfl (ai (ag (aR rfl (ak (af (asb rfl (ai (ag (aC (aE (bw (v:=.bool _) rfl rfl (⟨congrArg Value.bool ?_,((ah.rfl_.next E1).next E67)⟩))))))))))));rw [eq_comm,←Bool.not_eq_true,cd];rintro ⟨⟨n1,n2,n3,⟨n4,n5⟩,n6,n7,n8,n9⟩,⟨g1,g2,g3,g4,g5⟩,v1,l1,⟨p1,p2,p3⟩⟩
    first
     |omega
     |(simp_all;done)
     |(simp_all;omega)
   with_reducible (replace Q24:=dG Q24;replace Q24:=dT_ Q24)
   (try simp only [bs9] at Q24)
   refine ae rfl (aa (ab de rfl) (ae rfl (aa (ar bo rfl (by exact (show _=some (Value.slice V s.votes.length Vc) from (hk1.from_ (ah.rfl_.next E67)).rd 14 rfl))) ?_)));refine ae rfl (aa (ab cf rfl) (ae rfl (aa (ar ao rfl (by exact (hk1.from_ (ah.rfl_.next E67)).rd 1 rfl)) ?_)));refine ae rfl (az nE (tC V Vc s.votes s.nodes _ (hrd.v.1.from_ ((ah.rfl_.next E1).next E67)) hl1) ?_);rintro v110 w25 ⟨rfl,E110⟩;refine ae rfl (aa (cn rfl) (aa (av (v:=.bool _) rfl rfl) (ai (ag (Bl rfl (fun Q26=>?_) (fun Q26=>?_))))))
   ·(try simp only [bs9] at Q26)
    refine ak (af (asb rfl (ai (ag (aC (aE (bw (v:=.bool _) rfl rfl (⟨congrArg Value.bool ?_,(((ah.rfl_.next E1).next E67).next E110)⟩))))))));rw [eq_comm,←Bool.not_eq_true,cd];rintro ⟨⟨n1,n2,n3,⟨n4,n5⟩,n6,n7,n8,n9⟩,⟨g1,g2,g3,g4,g5⟩,v1,l1,⟨p1,p2,p3⟩⟩
    first
     |omega
     |(simp_all;done)
     |(simp_all;omega)
   (try simp only [bs9] at Q26)
   refine aM ?_;refine bT (()) trivial (by (iterate 122 refine bf rfl ?_);exact bB) ?_;exact ⟨⟨by omega,by omega,by omega,by omega,by omega,by omega,by first | assumption | simp_all,by omega,by omega,by omega,by omega,by omega,by first | assumption | simp_all⟩,hk1.from_ ((ah.rfl_.next E67).next E110),(((ah.rfl_.next E1).next E67).next E110)⟩
  (try simp only [bs9] at Q17)
  refine an rfl rfl (an rfl rfl (an rfl rfl (ae rfl (aa (av (v:=.bool _) rfl rfl) (aa (av (v:=.bool _) rfl rfl) (mvb rfl (ae rfl (aa (ab dq rfl) ?_))))))));refine ae rfl (aa (ar ao rfl (by exact (hk1.from_ (ah.rfl_.next E67)).rd 11 rfl)) ?_);refine ae rfl (az eZ (tA s.elapsed _) ?_);rintro v90 w27 ⟨rfl,rfl⟩;refine ae rfl (aa (cn rfl) (aa (av (v:=.bool _) rfl rfl) (mvb rfl (aJ (t:=93) rfl (fun Q28=>?_) (fun Q28=>?_)))))
  ·with_reducible (replace Q28:=dF Q28;replace Q28:=dF_ Q28)
   (try simp only [bs9] at Q28)
   refine bE rfl (ai (ag (aR rfl (ak (af (asb rfl (ai (ag (aC (aE (bw (v:=.bool _) rfl rfl (⟨congrArg Value.bool ?_,((ah.rfl_.next E1).next E67)⟩))))))))))));rw [eq_comm,←Bool.not_eq_true,cd];rintro ⟨⟨n1,n2,n3,⟨n4,n5⟩,n6,n7,n8,n9⟩,⟨g1,g2,g3,g4,g5⟩,v1,l1,⟨p1,p2,p3⟩⟩
   first
    |omega
    |(simp_all;done)
    |(simp_all;omega)
  with_reducible (replace Q28:=dG Q28;replace Q28:=dT_ Q28)
  (try simp only [bs9] at Q28)
  refine ae rfl (aa (ab fp rfl) (ae rfl (aa (ar ao rfl (by exact (hk1.from_ (ah.rfl_.next E67)).rd 12 rfl)) ?_)));refine ae rfl (az eZ (tA s.timeout _) ?_);rintro v96 w29 ⟨rfl,rfl⟩;refine ae rfl (aa (cn rfl) (aa (av (v:=.bool _) rfl rfl) (mvb rfl (aJ (t:=99) rfl (fun Q30=>?_) (fun Q30=>?_)))))
  ·with_reducible (replace Q30:=dF Q30;replace Q30:=dF_ Q30)
   (try simp only [bs9] at Q30)
   refine bE rfl (ai (ag (aR rfl (ak (af (asb rfl (ai (ag (aC (aE (bw (v:=.bool _) rfl rfl (⟨congrArg Value.bool ?_,((ah.rfl_.next E1).next E67)⟩))))))))))));rw [eq_comm,←Bool.not_eq_true,cd];rintro ⟨⟨n1,n2,n3,⟨n4,n5⟩,n6,n7,n8,n9⟩,⟨g1,g2,g3,g4,g5⟩,v1,l1,⟨p1,p2,p3⟩⟩
   first
    |omega
    |(simp_all;done)
    |(simp_all;omega)
  with_reducible (replace Q30:=dG Q30;replace Q30:=dT_ Q30)
  (try simp only [bs9] at Q30)
  refine ae rfl (aa (ab dW rfl) (ae rfl (aa (ar ao rfl (by exact (hk1.from_ (ah.rfl_.next E67)).rd 18 rfl)) ?_)));refine ae rfl (az eZ (tA s.round _) ?_);rintro v102 w31 ⟨rfl,rfl⟩;refine ae rfl (aa (cn rfl) (aa (av (v:=.bool _) rfl rfl) (mvb rfl (aJ (t:=105) rfl (fun Q32=>?_) (fun Q32=>?_)))))
  ·with_reducible (replace Q32:=dF Q32;replace Q32:=dF_ Q32)
   (try simp only [bs9] at Q32)
   refine bE rfl (ai (ag (aR rfl (ak (af (asb rfl (ai (ag (aC (aE (bw (v:=.bool _) rfl rfl (⟨congrArg Value.bool ?_,((ah.rfl_.next E1).next E67)⟩))))))))))));rw [eq_comm,←Bool.not_eq_true,cd];rintro ⟨⟨n1,n2,n3,⟨n4,n5⟩,n6,n7,n8,n9⟩,⟨g1,g2,g3,g4,g5⟩,v1,l1,⟨p1,p2,p3⟩⟩
   first
    |omega
    |(simp_all;done)
    |(simp_all;omega)
  with_reducible (replace Q32:=dG Q32;replace Q32:=dT_ Q32)
  (try simp only [bs9] at Q32)
  refine ae rfl (aa (ab de rfl) (ae rfl (aa (ar bo rfl (by exact (show _=some (Value.slice V s.votes.length Vc) from (hk1.from_ (ah.rfl_.next E67)).rd 14 rfl))) ?_)));refine ae rfl (aa (ab cf rfl) (ae rfl (aa (ar ao rfl (by exact (hk1.from_ (ah.rfl_.next E67)).rd 1 rfl)) ?_)));refine ae rfl (az nE (tC V Vc s.votes s.nodes _ (hrd.v.1.from_ ((ah.rfl_.next E1).next E67)) hl1) ?_);rintro v110 w33 ⟨rfl,E110⟩;refine ae rfl (aa (cn rfl) (aa (av (v:=.bool _) rfl rfl) (ai (ag (Bl rfl (fun Q34=>?_) (fun Q34=>?_))))))
  ·(try simp only [bs9] at Q34)
   refine ak (af (asb rfl (ai (ag (aC (aE (bw (v:=.bool _) rfl rfl (⟨congrArg Value.bool ?_,(((ah.rfl_.next E1).next E67).next E110)⟩))))))));rw [eq_comm,←Bool.not_eq_true,cd];rintro ⟨⟨n1,n2,n3,⟨n4,n5⟩,n6,n7,n8,n9⟩,⟨g1,g2,g3,g4,g5⟩,v1,l1,⟨p1,p2,p3⟩⟩
   first
    |omega
    |(simp_all;done)
    |(simp_all;omega)
  (try simp only [bs9] at Q34)
  refine aM ?_;refine bT (()) trivial (by (iterate 121 refine bf rfl ?_);exact bB) ?_;exact ⟨⟨by omega,by omega,by omega,by omega,by omega,by omega,by first | assumption | simp_all,by omega,by omega,by omega,by omega,by omega,by first | assumption | simp_all⟩,hk1.from_ ((ah.rfl_.next E67).next E110),(((ah.rfl_.next E1).next E67).next E110)⟩
 rintro ⟨⟩ ρ35 w35 ⟨⟨f1,f2,f3,f4,f5,f6,f7,f8,f9,fa,fb,fc,fd⟩,hk1,hB⟩;refine ak (af (aa (ab bj rfl) (aa (aD (cs:=[.int .i64 s.b,.int .i64 s.t,.slice E s.es.length Ec]) aY aL rfl (qT (hk1.from_ ah.rfl_))) ?_)));have hm1:bR s.b s.t s.es=true:=by first | assumption | simp_all
 have hbl:=dZ hm1;have hlr:bn s=s.b+s.es.length:=hbl.1;refine az kz (mA s E s.es.length Ec _ (hrd.e.from_ hB) hm1) ?_;rintro v116 w36 ⟨rfl,E116⟩;refine mvt rfl (aa (aO rfl rfl) (aa (aO rfl rfl) (asi rfl (asi rfl (ai (ag (ak (ak (af (mvi rfl (aa (ab bL rfl) (aa (ar ao rfl (by exact (hk1.from_ (ah.rfl_.next E116)).rd 3 rfl)) ?_))))))))))));refine aa (ch rfl rfl) (ai (ag (Bn rfl (fun Q37=>?_) (fun Q37=>?_))))
 ·refine ak (af (asb rfl (ai (ag (aC (aE (bw (v:=.bool _) rfl rfl (⟨congrArg Value.bool ?_,(hB.next E116)⟩))))))));rw [eq_comm,←Bool.not_eq_true,cd];rintro ⟨⟨n1,n2,n3,⟨n4,n5⟩,n6,n7,n8,n9⟩,⟨g1,g2,g3,g4,g5⟩,v1,l1,⟨p1,p2,p3⟩⟩
  first
   |omega
   |(simp_all;done)
   |(simp_all;omega)
 refine aM (ag (fY (G:=Unit) [2,123,124,125,126,127,128,129,130,131,132,133,134,135,136,137,138,139,140,141,142,143,144,145,146,147,148,149,150,151,152,153,154,155,156,157,158,159,160] (fun _=>[]) (fun _ w'=>(di s.t s.es≤s.term∧(s.b≤s.commit∧s.commit≤bn s)∧s.part.size≤524288∧(0≤s.partOf∧s.partOf≤1099511625728)∧(s.partOf≠0∨s.part.size=0))∧Blk w' b1 29 (rfV s (⟨E,Ec,V,Vc,X,Xc,M,Mc,Sn,Sc,Q,Qc,LL⟩:Ra)).toArray∧ah w w') ?_ ?_))
 ·refine ak (af (aa (ab cQ rfl) (aa (ar ao rfl (by exact (hk1.from_ (ah.rfl_.next E116)).rd 10 rfl)) ?_)));refine aa (ab bj rfl) (aa (ab ct rfl) (aa (ar ao rfl (by exact (hk1.from_ (ah.rfl_.next E116)).rd 6 rfl)) ?_));refine aa (cg rfl rfl) (mvb rfl (AP (t:=129) rfl (fun Q38=>?_) (fun Q38=>?_)))
  ·(try simp only [bs9] at Q38)
   refine bE rfl (ai (ag (aR rfl (ak (af (asb rfl (ai (ag (aC (aE (bw (v:=.bool _) rfl rfl (⟨congrArg Value.bool ?_,(hB.next E116)⟩))))))))))));rw [eq_comm,←Bool.not_eq_true,cd];rintro ⟨⟨n1,n2,n3,⟨n4,n5⟩,n6,n7,n8,n9⟩,⟨g1,g2,g3,g4,g5⟩,v1,l1,⟨p1,p2,p3⟩⟩
   first
    |omega
    |(simp_all;done)
    |(simp_all;omega)
  (try simp only [bs9] at Q38)
  refine ae rfl (aa (ab cQ rfl) (ae rfl (aa (ar ao rfl (by exact (hk1.from_ (ah.rfl_.next E116)).rd 10 rfl)) ?_)));refine ae rfl (mvi rfl (ae rfl (aa (ch rfl rfl) (aa (av (v:=.bool _) rfl rfl) (mvb rfl (AP (t:=135) rfl (fun Q39=>?_) (fun Q39=>?_)))))))
  ·(try simp only [bs9] at Q39)
   refine bE rfl (ai (ag (aR rfl (ak (af (asb rfl (ai (ag (aC (aE (bw (v:=.bool _) rfl rfl (⟨congrArg Value.bool ?_,(hB.next E116)⟩))))))))))));rw [eq_comm,←Bool.not_eq_true,cd];rintro ⟨⟨n1,n2,n3,⟨n4,n5⟩,n6,n7,n8,n9⟩,⟨g1,g2,g3,g4,g5⟩,v1,l1,⟨p1,p2,p3⟩⟩
   first
    |omega
    |(simp_all;done)
    |(simp_all;omega)
  (try simp only [bs9] at Q39)
  refine ae rfl (aa (ab ee rfl) (ae rfl (aa (ar dc rfl (by exact (hk1.from_ (ah.rfl_.next E116)).rd 20 rfl)) ?_)));refine ae rfl (aa (f_ (by kernel_rfl) rfl) (ae rfl (aa (ch rfl rfl) (aa (av (v:=.bool _) rfl rfl) (mvb rfl (AP (t:=141) rfl (fun Q40=>?_) (fun Q40=>?_)))))))
  ·(try simp only [bs9] at Q40)
   refine bE rfl (ai (ag (aR rfl (ak (af (asb rfl (ai (ag (aC (aE (bw (v:=.bool _) rfl rfl (⟨congrArg Value.bool ?_,(hB.next E116)⟩))))))))))));rw [eq_comm,←Bool.not_eq_true,cd];rintro ⟨⟨n1,n2,n3,⟨n4,n5⟩,n6,n7,n8,n9⟩,⟨g1,g2,g3,g4,g5⟩,v1,l1,⟨p1,p2,p3⟩⟩
   first
    |omega
    |(simp_all;done)
    |(simp_all;omega)
  (try simp only [bs9] at Q40)
  refine ae rfl (aa (ab ed rfl) (ae rfl (aa (ar ao rfl (by exact (hk1.from_ (ah.rfl_.next E116)).rd 21 rfl)) ?_)));refine ae rfl (aa (cg rfl rfl) (aa (av (v:=.bool _) rfl rfl) (mvb rfl (AP (t:=146) rfl (fun Q41=>?_) (fun Q41=>?_)))))
  ·(try simp only [bs9] at Q41)
   refine bE rfl (ai (ag (aR rfl (ak (af (asb rfl (ai (ag (aC (aE (bw (v:=.bool _) rfl rfl (⟨congrArg Value.bool ?_,(hB.next E116)⟩))))))))))));rw [eq_comm,←Bool.not_eq_true,cd];rintro ⟨⟨n1,n2,n3,⟨n4,n5⟩,n6,n7,n8,n9⟩,⟨g1,g2,g3,g4,g5⟩,v1,l1,⟨p1,p2,p3⟩⟩
   first
    |omega
    |(simp_all;done)
    |(simp_all;omega)
  (try simp only [bs9] at Q41)
  refine ae rfl (aa (ab ed rfl) (ae rfl (aa (ar ao rfl (by exact (hk1.from_ (ah.rfl_.next E116)).rd 21 rfl)) ?_)));refine ae rfl (aa (ch rfl rfl) (aa (av (v:=.bool _) rfl rfl) (mvb rfl (AP (t:=151) rfl (fun Q42=>?_) (fun Q42=>?_)))))
  ·(try simp only [bs9] at Q42)
   refine bE rfl (ai (ag (aR rfl (ak (af (asb rfl (ai (ag (aC (aE (bw (v:=.bool _) rfl rfl (⟨congrArg Value.bool ?_,(hB.next E116)⟩))))))))))));rw [eq_comm,←Bool.not_eq_true,cd];rintro ⟨⟨n1,n2,n3,⟨n4,n5⟩,n6,n7,n8,n9⟩,⟨g1,g2,g3,g4,g5⟩,v1,l1,⟨p1,p2,p3⟩⟩
   first
    |omega
    |(simp_all;done)
    |(simp_all;omega)
  (try simp only [bs9] at Q42)
  refine ae rfl (aa (ab ed rfl) (ae rfl (aa (ar ao rfl (by exact (hk1.from_ (ah.rfl_.next E116)).rd 21 rfl)) ?_)));refine ae rfl (aa (bt rfl rfl) (ae rfl (mvb rfl (AP (t:=155) rfl (fun Q43=>?_) (fun Q43=>?_)))))
  ·(try simp only [bs9] at Q43)
   refine ae rfl (aa (ab ee rfl) (ae rfl (aa (ar dc rfl (by exact (hk1.from_ (ah.rfl_.next E116)).rd 20 rfl)) ?_)));refine ae rfl (aa (jk (uH rfl rfl) (congrArg Value.bool (Bo s.part))) (ae rfl (aa (aG (v:=.bool _) rfl rfl) (aa (av (v:=.bool _) rfl rfl) (ai (ag (Bn rfl (fun Q44=>?_) (fun Q44=>?_))))))))
   ·(try simp only [bs9] at Q44)
    refine ak (af (asb rfl (ai (ag (aC (aE (bw (v:=.bool _) rfl rfl (⟨congrArg Value.bool ?_,(hB.next E116)⟩))))))));rw [eq_comm,←Bool.not_eq_true,cd];rintro ⟨⟨n1,n2,n3,⟨n4,n5⟩,n6,n7,n8,n9⟩,⟨g1,g2,g3,g4,g5⟩,v1,l1,⟨p1,p2,p3⟩⟩
    first
     |omega
     |(simp_all;done)
     |(simp_all;omega)
   (try simp only [bs9] at Q44)
   refine aM ?_;refine bT (()) trivial (by (iterate 44 refine bf rfl ?_);exact bB) ?_;exact ⟨⟨by omega,by omega,by omega,by omega,by omega⟩,hk1.from_ (ah.rfl_.next E116),(hB.next E116)⟩
  (try simp only [bs9] at Q43)
  refine an rfl rfl (an rfl rfl (an rfl rfl (ae rfl (aa (av (v:=.bool _) rfl rfl) (aa (av (v:=.bool _) rfl rfl) (ai (ag (bA rfl (aM ?_)))))))));refine bT (()) trivial (by (iterate 44 refine bf rfl ?_);exact bB) ?_;exact ⟨⟨by omega,by omega,by omega,by omega,by omega⟩,hk1.from_ (ah.rfl_.next E116),(hB.next E116)⟩
 rintro ⟨⟩ ρ45 w45 ⟨⟨fe,ff,fg,fh,fi⟩,hk1,hB⟩;refine ak (af (asi rfl (ai (ag (fY (G:=Unit) [161,162,163,164,165] (fun _=>[(5,.int .i64 nn)]) (fun _ w'=>Blk w' b1 29 (rfV s (⟨E,Ec,V,Vc,X,Xc,M,Mc,Sn,Sc,Q,Qc,LL⟩:Ra)).toArray∧ah w w') ?_ ?_)))))
 ·refine ak (af (aa (ab cZ rfl) (aa (ar ao rfl (by exact (hk1.from_ ah.rfl_).rd 2 rfl)) ?_)));refine aa (bt rfl rfl) (ai (ag (Bn rfl (fun Q46=>?_) (fun Q46=>?_))))
  ·refine af (aa (ab cf rfl) (aa (ar ao rfl (by exact (hk1.from_ ah.rfl_).rd 1 rfl)) ?_));refine asi rfl (ai ?_);refine bT (()) ⟨(bM (by first | exact (hnn.1 (by omega)).symm | exact (hnn.2 (by omega)).symm)),trivial⟩ (by (iterate 6 refine bf rfl ?_);exact bB) ?_;exact ⟨hk1.from_ ah.rfl_,hB⟩
  refine aM ?_;refine bT (()) ⟨(bM (by first | exact (hnn.1 (by omega)).symm | exact (hnn.2 (by omega)).symm)),trivial⟩ (by (iterate 3 refine bf rfl ?_);exact bB) ?_;exact ⟨hk1.from_ ah.rfl_,hB⟩
 rintro ⟨⟩ ρ47 w47 ⟨hk1,hB⟩;refine fY (G:=Unit) [2,166,167,168,169,170,171,172,173,174,175,176,177,178,179,180,181,182,183,184,185,186,187,188,189,190,191,192,193,194,195,196,197,198,199,200,201,202,203,204,205,206] (fun _=>[]) (fun _ w'=>fz s.next nn 1 (bn s+1)∧fz s.mtch nn 0 (bn s)∧fz s.sent nn 0 (s.snap.size:Nat)∧LL.length≤32∧(nn≠0∨LL.length=0)∧Blk w' b1 29 (rfV s (⟨E,Ec,V,Vc,X,Xc,M,Mc,Sn,Sc,Q,Qc,LL⟩:Ra)).toArray∧ah w w') ?_ ?_
 ·refine ak (af (aa (ab cS rfl) (aa (ar bo rfl (by exact (show _=some (Value.slice X s.next.length Xc) from (hk1.from_ ah.rfl_).rd 15 rfl))) ?_)));refine mvi rfl (mvi rfl (aa (bW rfl rfl (by omega)) (az nD (x6 X Xc s.next _ 1 (bn s+1) _ (hrd.x.1.from_ hB) hl2) ?_)));rintro v171 w48 ⟨rfl,E171⟩;refine aa (cn rfl) (mvb rfl (aJ (t:=173) rfl (fun Q49=>?_) (fun Q49=>?_)))
  ·with_reducible (replace Q49:=dF Q49;replace Q49:=dF_ Q49)
   (try simp only [bs9] at Q49)
   refine bE rfl (ai (ag (aR rfl (ak (af (asb rfl (ai (ag (aC (aE (bw (v:=.bool _) rfl rfl (⟨congrArg Value.bool ?_,(hB.next E171)⟩))))))))))));rw [eq_comm,←Bool.not_eq_true,cd];rintro ⟨⟨n1,n2,n3,⟨n4,n5⟩,n6,n7,n8,n9⟩,⟨g1,g2,g3,g4,g5⟩,v1,l1,⟨p1,p2,p3⟩⟩;by_cases hro:s.role=2
   ·rw [cC hro] at l1;obtain rfl:nn=s.nodes:=hnn.1 hro;obtain ⟨⟨l2,l3,l4,l5⟩,⟨l6,l7,l8⟩,l9⟩:=l1
    first
     |omega
     |(rename_i q9;exact q9 ⟨by omega,by assumption⟩)
     |(simp_all [fz];done)
     |(simp_all [fz];omega)
   ·rw [eb hro] at l1;obtain rfl:nn=0:=hnn.2 hro;have e1:s.next=[]:=List.eq_nil_of_length_eq_zero (by omega);have e2:s.mtch=[]:=List.eq_nil_of_length_eq_zero (by omega);have e3:s.sent=[]:=List.eq_nil_of_length_eq_zero (by omega)
    first
     |omega
     |(simp_all [fz,eQ];done)
     |(simp_all [fz,eQ];omega)
  with_reducible (replace Q49:=dG Q49;replace Q49:=dT_ Q49)
  (try simp only [bs9] at Q49)
  refine ae rfl (aa (ab c_ rfl) (ae rfl (aa (ar bo rfl (by exact (show _=some (Value.slice M s.mtch.length Mc) from (hk1.from_ (ah.rfl_.next E171)).rd 16 rfl))) ?_)));refine ae rfl (mvi rfl (ae rfl (mvi rfl (ae rfl (az nD (x6 M Mc s.mtch _ 0 (bn s) _ (hrd.m.1.from_ (hB.next E171)) hl3) ?_)))));rintro v178 w50 ⟨rfl,E178⟩;refine ae rfl (aa (cn rfl) (aa (av (v:=.bool _) rfl rfl) (mvb rfl (aJ (t:=181) rfl (fun Q51=>?_) (fun Q51=>?_)))))
  ·with_reducible (replace Q51:=dF Q51;replace Q51:=dF_ Q51)
   (try simp only [bs9] at Q51)
   refine bE rfl (ai (ag (aR rfl (ak (af (asb rfl (ai (ag (aC (aE (bw (v:=.bool _) rfl rfl (⟨congrArg Value.bool ?_,((hB.next E171).next E178)⟩))))))))))));rw [eq_comm,←Bool.not_eq_true,cd];rintro ⟨⟨n1,n2,n3,⟨n4,n5⟩,n6,n7,n8,n9⟩,⟨g1,g2,g3,g4,g5⟩,v1,l1,⟨p1,p2,p3⟩⟩;by_cases hro:s.role=2
   ·rw [cC hro] at l1;obtain rfl:nn=s.nodes:=hnn.1 hro;obtain ⟨⟨l2,l3,l4,l5⟩,⟨l6,l7,l8⟩,l9⟩:=l1
    first
     |omega
     |(rename_i q9;exact q9 ⟨by omega,by assumption⟩)
     |(simp_all [fz];done)
     |(simp_all [fz];omega)
   ·rw [eb hro] at l1;obtain rfl:nn=0:=hnn.2 hro;have e1:s.next=[]:=List.eq_nil_of_length_eq_zero (by omega);have e2:s.mtch=[]:=List.eq_nil_of_length_eq_zero (by omega);have e3:s.sent=[]:=List.eq_nil_of_length_eq_zero (by omega)
    first
     |omega
     |(simp_all [fz,eQ];done)
     |(simp_all [fz,eQ];omega)
  with_reducible (replace Q51:=dG Q51;replace Q51:=dT_ Q51)
  (try simp only [bs9] at Q51)
  refine ae rfl (aa (ab df rfl) (ae rfl (aa (ar bo rfl (by exact (show _=some (Value.slice Sn s.sent.length Sc) from (hk1.from_ ((ah.rfl_.next E171).next E178)).rd 17 rfl))) ?_)));refine ae rfl (mvi rfl (ae rfl (aa (ab dY rfl) (ae rfl (aa (ar dc rfl (by exact (hk1.from_ ((ah.rfl_.next E171).next E178)).rd 9 rfl)) ?_)))));refine ae rfl (aa (f_ (by kernel_rfl) rfl) (ae rfl (az nD (x6 Sn Sc s.sent _ 0 (s.snap.size:Nat) _ (hrd.n.1.from_ ((hB.next E171).next E178)) hl4) ?_)));rintro v188 w52 ⟨rfl,E188⟩;refine ae rfl (aa (cn rfl) (aa (av (v:=.bool _) rfl rfl) (mvb rfl (aJ (t:=191) rfl (fun Q53=>?_) (fun Q53=>?_)))))
  ·with_reducible (replace Q53:=dF Q53;replace Q53:=dF_ Q53)
   (try simp only [bs9] at Q53)
   refine bE rfl (ai (ag (aR rfl (ak (af (asb rfl (ai (ag (aC (aE (bw (v:=.bool _) rfl rfl (⟨congrArg Value.bool ?_,(((hB.next E171).next E178).next E188)⟩))))))))))));rw [eq_comm,←Bool.not_eq_true,cd];rintro ⟨⟨n1,n2,n3,⟨n4,n5⟩,n6,n7,n8,n9⟩,⟨g1,g2,g3,g4,g5⟩,v1,l1,⟨p1,p2,p3⟩⟩;by_cases hro:s.role=2
   ·rw [cC hro] at l1;obtain rfl:nn=s.nodes:=hnn.1 hro;obtain ⟨⟨l2,l3,l4,l5⟩,⟨l6,l7,l8⟩,l9⟩:=l1
    first
     |omega
     |(rename_i q9;exact q9 ⟨by omega,by assumption⟩)
     |(simp_all [fz];done)
     |(simp_all [fz];omega)
   ·rw [eb hro] at l1;obtain rfl:nn=0:=hnn.2 hro;have e1:s.next=[]:=List.eq_nil_of_length_eq_zero (by omega);have e2:s.mtch=[]:=List.eq_nil_of_length_eq_zero (by omega);have e3:s.sent=[]:=List.eq_nil_of_length_eq_zero (by omega)
    first
     |omega
     |(simp_all [fz,eQ];done)
     |(simp_all [fz,eQ];omega)
  with_reducible (replace Q53:=dG Q53;replace Q53:=dT_ Q53)
  (try simp only [bs9] at Q53)
  refine ae rfl (aa (ab cl rfl) (ae rfl (aa (ar ea rfl (by exact (show _=some (Value.slice Q LL.length Qc) from (hk1.from_ (((ah.rfl_.next E171).next E178).next E188)).rd 19 rfl))) ?_)));refine ae rfl (aa (bF fy rfl) (ae rfl (aa (ch rfl rfl) (aa (av (v:=.bool _) rfl rfl) (mvb rfl (AP (t:=197) rfl (fun Q54=>?_) (fun Q54=>?_)))))))
  ·(try simp only [bs9] at Q54)
   refine bE rfl (ai (ag (aR rfl (ak (af (asb rfl (ai (ag (aC (aE (bw (v:=.bool _) rfl rfl (⟨congrArg Value.bool ?_,(((hB.next E171).next E178).next E188)⟩))))))))))));rw [eq_comm,←Bool.not_eq_true,cd];rintro ⟨⟨n1,n2,n3,⟨n4,n5⟩,n6,n7,n8,n9⟩,⟨g1,g2,g3,g4,g5⟩,v1,l1,⟨p1,p2,p3⟩⟩;by_cases hro:s.role=2
   ·rw [cC hro] at l1;obtain rfl:nn=s.nodes:=hnn.1 hro;obtain ⟨⟨l2,l3,l4,l5⟩,⟨l6,l7,l8⟩,l9⟩:=l1
    first
     |omega
     |(rename_i q9;exact q9 ⟨by omega,by assumption⟩)
     |(simp_all [fz];done)
     |(simp_all [fz];omega)
   ·rw [eb hro] at l1;obtain rfl:nn=0:=hnn.2 hro;have e1:s.next=[]:=List.eq_nil_of_length_eq_zero (by omega);have e2:s.mtch=[]:=List.eq_nil_of_length_eq_zero (by omega);have e3:s.sent=[]:=List.eq_nil_of_length_eq_zero (by omega)
    first
     |omega
     |(simp_all [fz,eQ];done)
     |(simp_all [fz,eQ];omega)
  (try simp only [bs9] at Q54)
  refine ae rfl (mvi rfl (ae rfl (aa (bt rfl rfl) (ae rfl (mvb rfl (AP (t:=200) rfl (fun Q55=>?_) (fun Q55=>?_)))))))
  ·(try simp only [bs9] at Q55)
   refine ae rfl (aa (ab cl rfl) (ae rfl (aa (ar ea rfl (by exact (show _=some (Value.slice Q LL.length Qc) from (hk1.from_ (((ah.rfl_.next E171).next E178).next E188)).rd 19 rfl))) ?_)));refine ae rfl (aa (bF fy rfl) (ae rfl (aa (ch rfl rfl) (ae rfl (aa (aG (v:=.bool _) rfl rfl) (aa (av (v:=.bool _) rfl rfl) (ai (ag (Bn rfl (fun Q56=>?_) (fun Q56=>?_))))))))))
   ·(try simp only [bs9] at Q56)
    refine ak (af (asb rfl (ai (ag (aC (aE (bw (v:=.bool _) rfl rfl (⟨congrArg Value.bool ?_,(((hB.next E171).next E178).next E188)⟩))))))));rw [eq_comm,←Bool.not_eq_true,cd];rintro ⟨⟨n1,n2,n3,⟨n4,n5⟩,n6,n7,n8,n9⟩,⟨g1,g2,g3,g4,g5⟩,v1,l1,⟨p1,p2,p3⟩⟩;by_cases hro:s.role=2
    ·rw [cC hro] at l1;obtain rfl:nn=s.nodes:=hnn.1 hro;obtain ⟨⟨l2,l3,l4,l5⟩,⟨l6,l7,l8⟩,l9⟩:=l1
     first
      |omega
      |(rename_i q9;exact q9 ⟨by omega,by assumption⟩)
      |(simp_all [fz];done)
      |(simp_all [fz];omega)
    ·rw [eb hro] at l1;obtain rfl:nn=0:=hnn.2 hro;have e1:s.next=[]:=List.eq_nil_of_length_eq_zero (by omega);have e2:s.mtch=[]:=List.eq_nil_of_length_eq_zero (by omega);have e3:s.sent=[]:=List.eq_nil_of_length_eq_zero (by omega)
     first
      |omega
      |(simp_all [fz,eQ];done)
      |(simp_all [fz,eQ];omega)
   (try simp only [bs9] at Q56)
   refine aM ?_;refine bT (()) trivial (by (iterate 46 refine bf rfl ?_);exact bB) ?_;exact ⟨by first | assumption | simp_all,by first | assumption | simp_all,by first | assumption | simp_all,by omega,by omega,hk1.from_ (((ah.rfl_.next E171).next E178).next E188),(((hB.next E171).next E178).next E188)⟩
  (try simp only [bs9] at Q55)
  refine an rfl rfl (an rfl rfl (an rfl rfl (an rfl rfl (ae rfl (aa (av (v:=.bool _) rfl rfl) (aa (av (v:=.bool _) rfl rfl) (ai (ag (bA rfl ?_)))))))));refine aM ?_;refine bT (()) trivial (by (iterate 46 refine bf rfl ?_);exact bB) ?_;exact ⟨by first | assumption | simp_all,by first | assumption | simp_all,by first | assumption | simp_all,by omega,by omega,hk1.from_ (((ah.rfl_.next E171).next E178).next E188),(((hB.next E171).next E178).next E188)⟩
 rintro ⟨⟩ ρ57 w57 ⟨hx9,hm9,hs9,hl9,hn9,hk1,hB⟩;refine ak (ak (af (asi rfl (ai (ag (a_ (cY (G:=Nat) [2,7,207,208,209,210,211,212,213,214,215,216,217,218,219,220,221,222,223,224,225,226,227,228,229,230,231,232,233,234,235,236,237,238,239,240,241,242,243,244,245,246,247,248,249,250,251,252,253,254,255,256,257,258] (fun k=>[(6,.int .i64 (k:Nat))]) (fun k w'=>k≤LL.length∧(∀ j (h:j<LL.length),j<k→g_ s LL[j].1=true)∧Blk w' b1 29 (rfV s (⟨E,Ec,V,Vc,X,Xc,M,Mc,Sn,Sc,Q,Qc,LL⟩:Ra)).toArray∧ah w w') (fun k=>LL.length-k) (0) ⟨rfl,trivial⟩ ?_ ?_)))))))
 ·exact ⟨Nat.zero_le _,fun j _ h=>absurd h (by omega),hk1.from_ ah.rfl_,hB⟩
 rintro k ρ58 w58 ⟨hk,h1,hk1,hB⟩;refine ak (ak (af (mvi rfl (aa (ab cl rfl) (aa (ar ea rfl (by exact (show _=some (Value.slice Q LL.length Qc) from (hk1.from_ ah.rfl_).rd 19 rfl))) ?_)))));refine aa (bF fy rfl) (aa (cg rfl rfl) (ai (ag (Bn rfl (fun Q59=>?_) (fun Q59=>?_)))))
 ·have hkL:k<LL.length:=by omega
  have hqm:LL[k].1∈s.reads:=by rw [←hrL];exact List.mem_map_of_mem (List.getElem_mem hkL)
  obtain ⟨ba,oa,rfl,hcs⟩:∃ b o,Q=some ⟨b,o,none⟩∧∀ i (hi:i<LL.length),w.rangeAt b (o+i*4) (rdV LL[i]):=hrd.q (by show 0<LL.length;omega);refine aM (ag (ak (a_ (ak (af (aa (ab cl rfl) (aa (ar ea rfl (by exact (show _=some (Value.slice (some ⟨ba,oa,none⟩) LL.length Qc) from (hk1.from_ ah.rfl_).rd 19 rfl))) ?_)))))));refine mvi rfl (aa (bq gD rfl rfl (by omega)) (aa (aD (cs:=rdV LL[k]) iK fG rfl (dT hB (hcs k hkL))) (bQ jR ?_)));intro b7 w60 E7 hb7 hk7;have hg7:w.heap.size≤b7:=by rw [hb7];exact (hB).size
  have hk1L:=hk1.from_ (ah.rfl_.next E7);have hn7:b1≠b7:=by have:=hk1.lt;have:=((ah.rfl_.next E7)).size;omega
  refine bK (vs:=[_,_,_,_]) fG rfl rfl (by simp [Value.oneCell']) (hk7) rfl ?_;intro w61 O16 P16;replace hk1:=hk1L.only O16 hn7;refine ai (ag (ak (af (aa (ab jD rfl) (aa (ar ao rfl (by exact (show _=some (Value.int .i64 LL[k].1.id) from (P16.from_ ah.rfl_).rd 0 rfl))) ?_)))));refine aa (cg rfl rfl) (mvb rfl (AP (t:=222) rfl (fun Q62=>?_) (fun Q62=>?_)))
  ·(try simp only [bs9] at Q62)
   refine bE rfl (ai (ag (aR rfl (ak (af (asb rfl (ai (ag (aC (bD (aE (aE (bD (aE (bw (v:=.bool _) rfl rfl (⟨congrArg Value.bool ?_,((hB.next E7).only O16 (hg7))⟩))))))))))))))));rw [eq_comm,←Bool.not_eq_true,cd];rintro ⟨_,_,_,l1,_⟩;by_cases hro:s.role=2
   ·rw [cC hro] at l1;have g5:=eK.1 (l1.2.2 _ hqm)
    first
     |omega
     |(simp_all;done)
   ·rw [eb hro] at l1;omega
  (try simp only [bs9] at Q62)
  refine ae rfl (aa (ab jD rfl) (ae rfl (aa (ar ao rfl (by exact (show _=some (Value.int .i64 LL[k].1.id) from (P16.from_ ah.rfl_).rd 0 rfl))) ?_)));refine ae rfl (aa (ch rfl rfl) (aa (av (v:=.bool _) rfl rfl) (mvb rfl (AP (t:=227) rfl (fun Q63=>?_) (fun Q63=>?_)))))
  ·(try simp only [bs9] at Q63)
   refine bE rfl (ai (ag (aR rfl (ak (af (asb rfl (ai (ag (aC (bD (aE (aE (bD (aE (bw (v:=.bool _) rfl rfl (⟨congrArg Value.bool ?_,((hB.next E7).only O16 (hg7))⟩))))))))))))))));rw [eq_comm,←Bool.not_eq_true,cd];rintro ⟨_,_,_,l1,_⟩;by_cases hro:s.role=2
   ·rw [cC hro] at l1;have g5:=eK.1 (l1.2.2 _ hqm)
    first
     |omega
     |(simp_all;done)
   ·rw [eb hro] at l1;omega
  (try simp only [bs9] at Q63)
  refine ae rfl (aa (ab jC rfl) (ae rfl (aa (ar ao rfl (by exact (show _=some (Value.int .i64 LL[k].1.ix) from (P16.from_ ah.rfl_).rd 1 rfl))) ?_)));refine ae rfl (aa (cg rfl rfl) (aa (av (v:=.bool _) rfl rfl) (mvb rfl (AP (t:=232) rfl (fun Q64=>?_) (fun Q64=>?_)))))
  ·(try simp only [bs9] at Q64)
   refine bE rfl (ai (ag (aR rfl (ak (af (asb rfl (ai (ag (aC (bD (aE (aE (bD (aE (bw (v:=.bool _) rfl rfl (⟨congrArg Value.bool ?_,((hB.next E7).only O16 (hg7))⟩))))))))))))))));rw [eq_comm,←Bool.not_eq_true,cd];rintro ⟨_,_,_,l1,_⟩;by_cases hro:s.role=2
   ·rw [cC hro] at l1;have g5:=eK.1 (l1.2.2 _ hqm)
    first
     |omega
     |(simp_all;done)
   ·rw [eb hro] at l1;omega
  (try simp only [bs9] at Q64)
  refine ae rfl (aa (ab jC rfl) (ae rfl (aa (ar ao rfl (by exact (show _=some (Value.int .i64 LL[k].1.ix) from (P16.from_ ah.rfl_).rd 1 rfl))) ?_)));refine ae rfl (aa (ab cQ rfl) (ae rfl (aa (ar ao rfl (by exact (hk1.from_ ah.rfl_).rd 10 rfl)) ?_)));refine ae rfl (aa (ch rfl rfl) (aa (av (v:=.bool _) rfl rfl) (mvb rfl (AP (t:=239) rfl (fun Q65=>?_) (fun Q65=>?_)))))
  ·(try simp only [bs9] at Q65)
   refine bE rfl (ai (ag (aR rfl (ak (af (asb rfl (ai (ag (aC (bD (aE (aE (bD (aE (bw (v:=.bool _) rfl rfl (⟨congrArg Value.bool ?_,((hB.next E7).only O16 (hg7))⟩))))))))))))))));rw [eq_comm,←Bool.not_eq_true,cd];rintro ⟨_,_,_,l1,_⟩;by_cases hro:s.role=2
   ·rw [cC hro] at l1;have g5:=eK.1 (l1.2.2 _ hqm)
    first
     |omega
     |(simp_all;done)
   ·rw [eb hro] at l1;omega
  (try simp only [bs9] at Q65)
  refine ae rfl (aa (ab jB rfl) (ae rfl (aa (ar ao rfl (by exact (show _=some (Value.int .i64 LL[k].1.rn) from (P16.from_ ah.rfl_).rd 2 rfl))) ?_)));refine ae rfl (aa (cg rfl rfl) (aa (av (v:=.bool _) rfl rfl) (mvb rfl (AP (t:=244) rfl (fun Q66=>?_) (fun Q66=>?_)))))
  ·(try simp only [bs9] at Q66)
   refine bE rfl (ai (ag (aR rfl (ak (af (asb rfl (ai (ag (aC (bD (aE (aE (bD (aE (bw (v:=.bool _) rfl rfl (⟨congrArg Value.bool ?_,((hB.next E7).only O16 (hg7))⟩))))))))))))))));rw [eq_comm,←Bool.not_eq_true,cd];rintro ⟨_,_,_,l1,_⟩;by_cases hro:s.role=2
   ·rw [cC hro] at l1;have g5:=eK.1 (l1.2.2 _ hqm)
    first
     |omega
     |(simp_all;done)
   ·rw [eb hro] at l1;omega
  (try simp only [bs9] at Q66)
  refine ae rfl (aa (ab jB rfl) (ae rfl (aa (ar ao rfl (by exact (show _=some (Value.int .i64 LL[k].1.rn) from (P16.from_ ah.rfl_).rd 2 rfl))) ?_)));refine ae rfl (aa (ab dW rfl) (ae rfl (aa (ar ao rfl (by exact (hk1.from_ ah.rfl_).rd 18 rfl)) ?_)));refine ae rfl (aa (ch rfl rfl) (aa (av (v:=.bool _) rfl rfl) (mvb rfl (AP (t:=251) rfl (fun Q67=>?_) (fun Q67=>?_)))))
  ·(try simp only [bs9] at Q67)
   refine bE rfl (ai (ag (aR rfl (ak (af (asb rfl (ai (ag (aC (bD (aE (aE (bD (aE (bw (v:=.bool _) rfl rfl (⟨congrArg Value.bool ?_,((hB.next E7).only O16 (hg7))⟩))))))))))))))));rw [eq_comm,←Bool.not_eq_true,cd];rintro ⟨_,_,_,l1,_⟩;by_cases hro:s.role=2
   ·rw [cC hro] at l1;have g5:=eK.1 (l1.2.2 _ hqm)
    first
     |omega
     |(simp_all;done)
   ·rw [eb hro] at l1;omega
  (try simp only [bs9] at Q67)
  refine ae rfl (aa (ab fB rfl) (ae rfl (aa (ar bo rfl (by exact (show _=some (Value.slice LL[k].2.1 LL[k].1.acks.length LL[k].2.2) from (P16.from_ ah.rfl_).rd 3 rfl))) ?_)));refine ae rfl (aa (ab cf rfl) (ae rfl (aa (ar ao rfl (by exact (hk1.from_ ah.rfl_).rd 1 rfl)) ?_)));refine ae rfl (az nE (tC LL[k].2.1 LL[k].2.2 LL[k].1.acks s.nodes _ ((hrk _ (List.getElem_mem hkL)).1.from_ ((hB.next E7).only O16 (hg7))) (hl6 _ hqm)) ?_);rintro v256 w68 ⟨rfl,E256⟩;refine ae rfl (aa (cn rfl) (aa (av (v:=.bool _) rfl rfl) (ai (ag (Bl rfl (fun Q69=>?_) (fun Q69=>?_))))))
  ·(try simp only [bs9] at Q69)
   refine ak (af (asb rfl (ai (ag (aC (bD (aE (aE (bD (aE (bw (v:=.bool _) rfl rfl (⟨congrArg Value.bool ?_,(((hB.next E7).only O16 (hg7)).next E256)⟩))))))))))));rw [eq_comm,←Bool.not_eq_true,cd];rintro ⟨_,_,_,l1,_⟩;by_cases hro:s.role=2
   ·rw [cC hro] at l1;have g5:=eK.1 (l1.2.2 _ hqm)
    first
     |omega
     |(simp_all;done)
   ·rw [eb hro] at l1;omega
  (try simp only [bs9] at Q69)
  refine aM (bN (ag (af (mvi rfl (aa (bW rfl rfl (by omega)) (asi rfl (ai ?_)))))));refine bT (k+1) ⟨(by first | rfl | (refine bM ?_;omega)),trivial⟩ (by (iterate 115 refine bf rfl ?_);exact bB) ⟨?_,?_⟩
  ·refine ⟨by omega,fun j h hj=>?_,hk1.from_ (ah.rfl_.next E256),(((hB.next E7).only O16 (hg7)).next E256)⟩;rcases Nat.lt_or_ge j k with e | e
   ·exact h1 j h e
   ·obtain rfl:j=k:=by omega
    rw [eK];exact ⟨by omega,by omega,by omega,by first | assumption | simp_all⟩
  ·omega
 refine cq (bg (bg (b_ (ag (ak (af (asb rfl (ai (ag (aC (bw (v:=.bool _) rfl rfl (⟨congrArg Value.bool ?_,hB⟩))))))))))));rw [eq_comm,cd]
 have hrd9:∀ q∈s.reads,g_ s q=true:=fun q hq=>by
  rw [←hrL] at hq;obtain ⟨y,hy,rfl⟩:=List.mem_map.1 hq;obtain ⟨i,hi,rfl⟩:=List.getElem_of_mem hy;exact h1 i hi (by omega)
 refine ⟨⟨by omega,by omega,by omega,⟨by omega,by omega⟩,by omega,by omega,by omega,by omega⟩,⟨by simp_all,by omega,by omega,by omega,by omega⟩,by simp_all,?_,⟨by omega,by omega,by omega⟩⟩;by_cases hro:s.role=2
 ·rw [cC hro];obtain rfl:nn=s.nodes:=hnn.1 hro;refine ⟨⟨?_,?_,?_,?_⟩,⟨?_,?_,?_⟩,hrd9⟩ <;> first | omega | (simp_all [fz];done) | (simp_all [fz];omega)
 ·rw [eb hro];obtain rfl:nn=0:=hnn.2 hro
  simp_all [fz]
theorem dI:kB prog 39=some (.agg #[.int .i64 0,.int .i64 0,.int .i64 0,.int .i64 0,.int .i64 0,.int .i64 0,.int .i64 0,.int .i64 0,.bool false,.slice none 0 0,.int .i64 0,.string ⟨#[]⟩,.bool false]):=by kernel_rfl
theorem uo:aN prog 59=true:=by kernel_rfl
theorem z_ {s:ByteArray}:⟨#[]⟩=s↔s.size=0:=by
 constructor
 ·intro h;subst h;rfl
 ·intro h;obtain ⟨⟨l⟩⟩:=s;have h9:l.length=0:=h;rw [List.eq_nil_of_length_eq_zero h9]
theorem y5 {k f t tm ix lt cm rd:Int} {ok:Bool} {es:List Ent} {a:Int} {d:ByteArray} {dn:Bool} (h1:jF k f t tm ix lt cm rd a) (h2:oy k ix lt es) (h3:pI k ix a d):OkR k f t tm ix lt cm rd ok es a d dn↔ExR k ix lt cm rd ok es.length a d dn:=
 ⟨fun h=>h.2.1,fun h=>⟨h1,h,h2,h3⟩⟩
theorem xw (n:Int) (w:World) :
 Rt prog 61 [.int .i64 n] w (fun v w'=>v=.bool (decide (1≤n∧n≤7))∧w=w'):=by
 refine enter (n:=9) Tryz.func61 rfl rfl rfl (ak (af (asb rfl (ai (ag (ak (af (mvi rfl (aa (lW rfl rfl) (mvb rfl (AP (t:=5) rfl (fun Q1=>?_) (fun Q1=>?_))))))))))))
 ·refine ae rfl (mvi rfl (ae rfl (aa (gH rfl rfl) (aa (aG (v:=.bool _) rfl rfl) (asb rfl (ai (ag (aC (bw (v:=.bool _) rfl rfl (⟨congrArg Value.bool ?_,rfl⟩))))))))))
  first
   |(rw [eq_comm,decide_eq_false_iff_not];omega)
   |(rw [decide_eq_decide];omega)
 refine an rfl rfl (an rfl rfl (aa (av (v:=.bool _) rfl rfl) (asb rfl (ai (ag (aC (bw (v:=.bool _) rfl rfl (⟨congrArg Value.bool ?_,rfl⟩))))))))
 first
  |(rw [eq_comm,decide_eq_false_iff_not];omega)
  |(rw [decide_eq_decide];omega)
theorem qu (n:Int) (w:World) :
 Rt prog 62 [.int .i64 n] w (fun v w'=>v=.bool (decide (0≤n∧n<1099511627776))∧w=w'):=by
 refine enter (n:=9) Tryz.func62 rfl rfl rfl (ak (af (asb rfl (ai (ag (ak (af (mvi rfl (aa (lW rfl rfl) (mvb rfl (AP (t:=5) rfl (fun Q1=>?_) (fun Q1=>?_))))))))))))
 ·refine ae rfl (mvi rfl (ae rfl (aa (cg rfl rfl) (aa (aG (v:=.bool _) rfl rfl) (asb rfl (ai (ag (aC (bw (v:=.bool _) rfl rfl (⟨congrArg Value.bool ?_,rfl⟩))))))))))
  first
   |(rw [eq_comm,decide_eq_false_iff_not];omega)
   |(rw [decide_eq_decide];omega)
 refine an rfl rfl (an rfl rfl (aa (av (v:=.bool _) rfl rfl) (asb rfl (ai (ag (aC (bw (v:=.bool _) rfl rfl (⟨congrArg Value.bool ?_,rfl⟩))))))))
 first
  |(rw [eq_comm,decide_eq_false_iff_not];omega)
  |(rw [decide_eq_decide];omega)
theorem Aa (p q:Int) (A:Option Addr) (n c:Nat) (es:List Ent) (w:World) (h:bX w (.slice A n c) es) (hi0:-4611686018427387904≤p) (hi1:p≤4611686018427387904) (hl:es.length≤140737488351232):Rt prog 105 [.slice A n c,.int .i64 p,.int .i64 q] w fun v w'=>v=.bool (dm es p q)∧ah w w':=
 Rt.of (o0 p q _ es w h hi0 hi1 hl)
theorem tR {es:List Ent} {k:Nat} (h:k<es.length):cN (es.take k)++[.int .i64 es[k].i,.int .i64 es[k].t,.string es[k].d]=cN (es.take (k+1)):=by
 rw [List.take_succ_eq_append_getElem h,fK];rfl
theorem x_ (E:Option Addr) (n c:Nat) (es:List Ent) (w:World) (hn:n=es.length) (he:bX w (.slice E n c) es) (hl:es.length≤1000000000) :
 Rt prog 59 [.slice E n c] w (fun v w'=>(∃ A' c',v=.slice A' es.length c'∧w'.ownsRow w.heap.size 99 3 (.slice A' es.length c') es.length (cN es))∧ah w w'):=by
 refine enter (n:=19) Tryz.func59 rfl rfl rfl (ak (af (ass rfl (ai (ag (ak (af (ass rfl (ai (ag (ak (ak (af (asi rfl (ai (ag (a_ (cY (G:=Nat×Option Addr×Nat) [5,6,7,8,9,10,11,12,13,14,15,16,17] (fun (k,A3,c3)=>[(3,.slice A3 k c3),(4,.int .i64 (k:Nat))]) (fun (k,A3,c3) w'=>k≤es.length∧w'.ownsRow w.heap.size 99 3 (.slice A3 k c3) k (cN (es.take k))∧ah w w') (fun (k,_,_)=>es.length-k) ((0,none,0)) ⟨rfl,rfl,trivial⟩ ?_ ?_))))))))))))))))))
 ·exact ⟨Nat.zero_le _,World.ownsRow_nil _ _ _ _,ah.rfl_⟩
 rintro ⟨k,A3,c3⟩ ρ1 w1 ⟨hk,ho3,hB⟩;refine ak (ak (af (mvi rfl (mvs rfl (aa (bF bC rfl) (aa (cg rfl rfl) (ai (ag (Bn rfl (fun Q2=>?_) (fun Q2=>?_))))))))))
 ·have hkl:k<es.length:=by omega
  obtain ⟨ba,oa,hA,hcs⟩:=lD he (by omega);subst hA;refine aM (ag (ak (a_ (af (mvs rfl (mvs rfl (mvi rfl (aa (eR bU rfl rfl (by omega)) (aa (aD (cs:=[.int .i64 (es[k]'hkl).i,.int .i64 (es[k]'hkl).t,.string (es[k]'hkl).d]) jd fW rfl (dT hB (hcs k hkl))) ?_)))))))));refine lV (l:=[(0,.tmp 15)]) (cells:=[.int .i64 (es[k]'hkl).i,.int .i64 (es[k]'hkl).t,.string (es[k]'hkl).d].toArray) jz rfl rfl (by show Instr.fill _ _ [(0,Value.agg [.int .i64 (es[k]'hkl).i,.int .i64 (es[k]'hkl).t,.string (es[k]'hkl).d].toArray)]=_;kernel_rfl) ?_;intro b16 w3 E16 hb16 hk16;refine lx (a0:=w) (news:=[.int .i64 (es[k]'hkl).i,.int .i64 (es[k]'hkl).t,.string (es[k]'hkl).d]) jz rfl (by decide) rfl (ho3.kept_from (ah.rfl_.next E16)) (hB.next E16) rfl rfl (fun _=>⟨b16,0,rfl,hk16.whole⟩) (fun h=>by cases h) (by simp [Value.oneCell']) (by omega) (by omega) ?_;intro A17 c17 w4 ho17 B17 hg17;refine ass rfl (ai (bN (ag (af (mvi rfl (aa (bW rfl rfl (by omega)) (asi rfl (ai ?_))))))));refine bT ((k+1,A17,c17)) ⟨(by first | rfl | (refine bM ?_;omega)),(by first | rfl | (refine bM ?_;omega)),trivial⟩ (by (iterate 30 refine bf rfl ?_);exact bB) ⟨?_,?_⟩
  ·exact ⟨by omega,by rw [←tR hkl];exact ho17,B17⟩
  ·show es.length-(k+1)<es.length-k;omega
 refine cq (bg (bg (b_ (ag (ak (af (mvs rfl (ass rfl (ai (ag (aC (bw (v:=.slice _ _ _) rfl rfl ?_))))))))))));obtain rfl:k=es.length:=by omega
 rw [List.take_length] at ho3;exact ⟨⟨A3,c3,rfl,ho3⟩,hB⟩
theorem ju (x:Msg) (w:World) (he:bX w (.slice x.E x.es.length x.c) x.es) (hl:x.es.length≤1000000000) :
 Rt prog 47 [.agg (bH x).toArray] w (fun v w'=>(∃ A' c',v=.agg (bH { x with E:=A',c:=c' }).toArray∧w'.ownsRow w.heap.size 99 3 (.slice A' x.es.length c') x.es.length (cN x.es))∧ah w w'):=by
 refine enter (n:=10) Tryz.func47 rfl rfl rfl (ak (af (bZ (v:=.agg _) rfl ?_)));intro b1 w1 E1 hb1 hk1;refine bQ dI ?_;intro b2 w2 E2 hb2 hk2;have hg2:w.heap.size≤b2:=by rw [hb2];exact ((ah.rfl_.next E1)).size
 replace hk1:=hk1.from_ E2;refine ai (ag (ak (af (aa (aD (cs:=bH x) bh aU rfl hk1.whole) (bQ dI ?_)))));intro b3 w3 E3 hb3 hk3;have hg3:w.heap.size≤b3:=by rw [hb3];exact (((ah.rfl_.next E1).next E2)).size
 have h23:b2≠b3:=by have:=hk2.lt;omega
 have h13:b1≠b3:=by have:=hk1.lt;omega
 replace hk1:=hk1.from_ E3;replace hk2:=hk2.from_ E3;refine bK (vs:=[_,_,_,_,_,_,_,_,_,_,_,_,_]) aU rfl rfl (by simp [Value.oneCell']) (hk3) rfl ?_;intro w4 O1 P1;replace hk1:=hk1.only O1 h13;replace hk2:=hk2.only O1 h23;have hz1:=(((((ah.rfl_.next E1).next E2).next E3).only O1 (hg3))).size;refine ai (ag (ak (af (aa (ab bS rfl) (aa (ar bk rfl (by exact hk1.rd 9 rfl)) ?_)))));refine az uo (x_ x.E x.es.length x.c x.es _ rfl (he.from_ ((((ah.rfl_.next E1).next E2).next E3).only O1 (hg3))) hl) ?_;rintro v7 w5 ⟨⟨A7,c7,rfl,ho7⟩,E7⟩;refine aa (ab bS rfl) (eE (v:=.slice _ _ _) gW rfl rfl rfl ((P1.from_ (ah.rfl_.next E7))) (by show 0+9<13;decide) ?_);intro w6 O2 P2;replace hk2:=(hk2.from_ E7).only O2 h23;replace ho7:=eY ho7 O2 (eS ho7 (P1.from_ E7) (by decide));refine ai (ag (ak (af (aa (aD (cs:=bH { x with E:=A7,c:=c7 }) bh aU rfl P2.whole) (bK (vs:=[_,_,_,_,_,_,_,_,_,_,_,_,_]) aU rfl rfl (by simp [Value.oneCell']) (hk2) rfl ?_)))));intro w7 O3 P3;replace ho7:=eY ho7 O3 (eS ho7 hk2 (by decide));refine ai (ag (aC (lK rfl (cL (cs:=[_,_,_,_,_,_,_,_,_,_,_,_,_]) bh aU rfl (by exact P3.whole)) ?_)));exact ⟨⟨A7,c7,rfl,ec ho7 hz1⟩,(((((((ah.rfl_.next E1).next E2).next E3).only O1 (hg3)).next E7).only O2 (hg3)).only O3 (hg2))⟩
end Go.Proofs.YtkpooenofjdpmaaGreat
namespace Go.Proofs.YtkpooenofjdpmaaGreat
open Go.Proofs.Tryz (prog)
open Go.RowKit
open Go.ChangeShapes Go.WideShapes Go.ChangeAt
open Go.RowKit
theorem r5:∀ (l:List Int),gB l=true→l.Pairwise (·<·)
 |[],_=>List.Pairwise.nil
 |_::r,h=>List.Pairwise.cons (qn h) (r5 r (nL h))
theorem r_:∀ (l:List Int),l.Pairwise (·<·)→gB l=true
 |[],_=>rfl
 |[_],_=>rfl
 |a::b::r,h=>by
  cases h with
  |cons h1 h2=>
   show (decide (a<b)&&gB (b::r))=true;rw [r_ (b::r) h2,decide_eq_true (h1 b List.mem_cons_self)];rfl
theorem va {l:List Int} {x y:Int} (h:y∈kL l x):y∈l∨y=x:=by
 unfold kL at h;split at h
 ·exact .inl h
 ·rcases List.mem_append.1 h with e | e
  ·exact .inl ((List.takeWhile_sublist _).mem e)
  ·rcases List.mem_cons.1 e with e | e
   ·exact .inr e
   ·exact .inl ((List.dropWhile_sublist _).mem e)
theorem pz:∀ {l:List Int} {x:Int},l.Pairwise (·<·)→∀ y∈l.dropWhile (fun y=>decide (y<x)),x≤y
 |[],_,_,y,hy=>by cases hy
 |a::r,x,h,y,hy=>by
  cases h with
  |cons h1 h2=>
   by_cases hax:a<x
   ·rw [List.dropWhile_cons,if_pos (by simpa using hax)] at hy;exact pz h2 y hy
   ·rw [List.dropWhile_cons,if_neg (by simpa using hax)] at hy;rcases List.mem_cons.1 hy with e | e
    ·omega
    ·have:=h1 y e;omega
theorem rR:∀ {l:List Int} {x:Int},∀ y∈l.takeWhile (fun y=>decide (y<x)),y<x
 |[],_,y,hy=>by cases hy
 |a::r,x,y,hy=>by
  by_cases hax:a<x
  ·rw [List.takeWhile_cons,if_pos (by simpa using hax)] at hy;rcases List.mem_cons.1 hy with e | e
   ·omega
   ·exact rR y e
  ·rw [List.takeWhile_cons,if_neg (by simpa using hax)] at hy;cases hy
theorem wo {l:List Int} {x:Int} (h:l.Pairwise (·<·)):(kL l x).Pairwise (·<·):=by
 unfold kL;split
 ·exact h
 ·rename_i hx;have hx':x ∉ l:=by simpa using hx
  rw [List.pairwise_append];refine ⟨h.sublist (List.takeWhile_sublist _),List.Pairwise.cons (fun y hy=>?_) (h.sublist (List.dropWhile_sublist _)),fun y hy z hz=>?_⟩
  ·have h1:=pz h y hy;have h2:y≠x:=fun e=>hx' (e ▸ (List.dropWhile_sublist _).mem hy)
   omega
  ·have h1:=rR y hy;rcases List.mem_cons.1 hz with e | e
   ·omega
   ·have:=pz h z e;omega
theorem rK {l:List Int} {n x:Int} (h:fE l n=true) (hx:1≤x∧x≤n):fE (kL l x) n=true:=by
 have h1:=mD h;unfold fE;rw [r_ _ (wo (r5 _ h1.2)),Bool.and_true,List.all_eq_true];intro y hy
 have h2:1≤y∧y≤n:=by
  rcases va hy with e | e
  ·exact h1.1 y e
  ·rw [e];exact hx
 simp only [Bool.and_eq_true,decide_eq_true_eq];exact h2
theorem vE {l:List Int} {n:Int} (h:fE l n=true) (hn:n≤7):l.length≤7:=by
 have h1:=mD h;have h2:=lA l 0 n h1.2 fun x hx=>⟨by have:=(h1.1 x hx).1;omega,(h1.1 x hx).2⟩
 omega
theorem RfF.voted {s:Rf} (h:RfF s) {x:Int} (hx:1≤x∧x≤s.nodes):RfF { s with votes:=kL s.votes x }:={ h with vs:=rK h.vs hx }
theorem AJ {s:Rf} {q:Rd} (h:g_ s q=true) {x rn:Int} (hx:1≤x∧x≤s.nodes):g_ s (if q.rn≤rn then { q with acks:=kL q.acks x } else q)=true:=by
 split
 ·unfold g_ at h ⊢;simp only [Bool.and_eq_true] at h ⊢;exact ⟨h.1,rK h.2 hx⟩
 ·exact h
theorem zG {s:Rf} (h:RfF s) {x rn:Int} (hx:1≤x∧x≤s.nodes):∀ q∈(yn s x rn).reads,g_ s q=true:=fun q hq=>by
 obtain ⟨y,hy,rfl⟩:=List.mem_map.1 hq;exact AJ (h.rd y hy) hx
theorem u4 {s:Rf} {x rn:Int}:(yn s x rn).reads.length=s.reads.length:=List.length_map _
theorem RfF.ack {s:Rf} (h:RfF s) {x rn:Int} (hx:1≤x∧x≤s.nodes):RfF (yn s x rn):=
 { h with rl:=(by rw [u4];exact h.rl),r0:=h.r0.imp id (fun e=>by rw [u4];exact e),rd:=zG h hx }
theorem RfF.hear {s:Rf} (h:RfF s) {v:Int} (hv:0≤v∧v≤s.nodes):RfF { s with leader:=v,elapsed:=0 }:={ h with le:=hv,el:=⟨Int.le_refl _,z40⟩ }
theorem vd {B T i:Int} {xs:List Ent} {r:Nat} (h:r<xs.length) (hi:i=B+1+r):dw B T xs i=xs[r].t:=by
 subst hi;unfold dw;rw [if_neg (by omega),show (B+1+(r:Int)-B-1).toNat=r by omega,List.getElem?_eq_getElem h]
theorem nO {B T:Int} {xs:List Ent}:∀ (zs:List Ent) (p t:Int),dm zs p t=true→B≤p→p≤B+xs.length→dz B T xs zs=[]∨∃ e r,dz B T xs zs=e::r∧B+1≤e.i∧e.i≤B+xs.length+1∧¬ (e.i≤B+xs.length∧dw B T xs e.i=e.t)
 |[],_,_,_,_,_=>.inl rfl
 |e::r,p,t,h,h1,h2=>by
  have h3:=et h;by_cases hc:e.i≤B+xs.length∧dw B T xs e.i=e.t
  ·rw [lB hc];exact nO r (p+1) e.t h3.2 (by omega) (by omega)
  ·exact .inr ⟨e,r,gj hc,by omega,by omega,hc⟩
def yx (es es':List Ent) (c:Nat):Prop:=c≤es'.length∧∀ i (h:i<es.length) (h':i<es'.length),i<c→es'[i].t=es[i].t
theorem mF {s:Rf} (h:RfF s) {m:Msg} {es':List Ent} (hr:dL s.b s.t m.ix m.lt s.es m.es=(0,false,es')):es'=s.es.take (nP s.b s.es (dz s.b s.t s.es (er s.b m.ix m.es)))++dz s.b s.t s.es (er s.b m.ix m.es)∧bR s.b s.t es'=true∧(dz s.b s.t s.es (er s.b m.ix m.es)=[]∨∃ e r,dz s.b s.t s.es (er s.b m.ix m.es)=e::r∧s.b+1≤e.i∧e.i≤bn s+1∧¬ (e.i≤bn s∧dw s.b s.t s.es e.i=e.t)):=by
 have hl:=h.last;unfold dL at hr;split at hr
 ·rename_i h1;split at hr
  ·cases hr
  ·rename_i h2;unfold mg2 at hr;split at hr
   ·cases hr
   ·split at hr
    ·rename_i h4;cases hr;refine ⟨rfl,h4,?_⟩;obtain ⟨t,hrun⟩:=mw (B:=s.b) hl.2.1 h1.2.2.2 h1.2.2.1;have hP:s.b≤mgP s.b m.ix∧mgP s.b m.ix≤s.b+s.es.length:=⟨by unfold mgP;split <;> omega,by omega⟩;rw [hl.1];exact nO _ _ t hrun hP.1 hP.2
    ·cases hr
 ·cases hr
theorem vI {s:Rf} (h:RfF s) {m:Msg} {es':List Ent} (hr:dL s.b s.t m.ix m.lt s.es m.es=(0,false,es')):yx s.es es' (s.commit-s.b).toNat↔iC s m=false:=by
 obtain ⟨he,hm,hy⟩:=mF h hr;have hl:=h.last;have hc:=h.co;rcases hy with hy | ⟨e,r,hy,h1,h2,h3⟩
 ·have hc0:iC s m=false:=by unfold iC;rw [hy]
  refine ⟨fun _=>hc0,fun _=>?_⟩;rw [hy] at he
  have he2:es'=s.es:=by
   rw [he];show s.es.take s.es.length++[]=_;rw [List.take_length,List.append_nil]
  subst he2;exact ⟨by omega,fun i _ _ _=>rfl⟩
 ·have hk:nP s.b s.es (dz s.b s.t s.es (er s.b m.ix m.es))=(e.i-1-s.b).toNat:=by rw [hy];rfl
  rw [hk,hy] at he;have hkl:(e.i-1-s.b).toNat≤s.es.length:=by omega
  have hc0:iC s m=(decide (e.i≤bn s)&&decide (e.i≤s.commit)):=by unfold iC;rw [hy]
  have hlen:es'.length=(e.i-1-s.b).toNat+(r.length+1):=by rw [he,List.length_append,List.length_take,List.length_cons];omega
  constructor
  ·intro hK;rw [hc0];by_cases h5:e.i≤bn s∧e.i≤s.commit
   ·exfalso;have hk9:(e.i-1-s.b).toNat<s.es.length:=by omega
    have h6:=hK.2 (e.i-1-s.b).toNat hk9 (by omega) (by omega)
    have h7:es'[(e.i-1-s.b).toNat]'(by omega)=e:=by
     subst he;rw [List.getElem_append_right (by rw [List.length_take];omega)];simp [List.length_take,Nat.min_eq_left hkl]
    rw [h7] at h6;have h8:dw s.b s.t s.es e.i=s.es[(e.i-1-s.b).toNat].t:=vd hk9 (by omega);exact h3 ⟨h5.1,by rw [h8,h6]⟩
   ·simp only [Bool.and_eq_false_iff,decide_eq_false_iff_not];omega
  ·intro hK;rw [hc0] at hK;simp only [Bool.and_eq_false_iff,decide_eq_false_iff_not] at hK;refine ⟨by omega,fun i hi hi' hic=>?_⟩
   have h9:es'[i]=s.es[i]:=by
    subst he;rw [List.getElem_append_left (by rw [List.length_take];omega),List.getElem_take]
   rw [h9]
end Go.Proofs.YtkpooenofjdpmaaGreat
namespace Go.Proofs.YtkpooenofjdpmaaGreat
open Go.Proofs.Tryz (prog)
open Go.RowKit
open Go.ChangeShapes Go.WideShapes Go.ChangeAt
theorem s7:prog.underlying 26=some (.slice 3):=by kernel_rfl
theorem jS:kD prog 27=some (54,4,48,(.agg #[.int .i64 0,.int .i64 0,.int .i64 0,.slice none 0 0])):=by kernel_rfl
theorem s6:prog.underlying 27=some (.slice 54):=by kernel_rfl
theorem s9:jG prog 91=some true:=by kernel_rfl
theorem lq:ef prog 91=some 22:=by kernel_rfl
theorem oe:kB prog 91=some (.agg #[.int .i64 0,.int .i64 0,.int .i64 0,.int .i64 0,.int .i64 0,.int .i64 0,.int .i64 0,.int .i64 0,.slice none 0 0,.string ⟨#[]⟩,.int .i64 0,.int .i64 0,.int .i64 0,.int .u64 0,.slice none 0 0,.slice none 0 0,.slice none 0 0,.slice none 0 0,.int .i64 0,.slice none 0 0,.string ⟨#[]⟩,.int .i64 0]):=by kernel_rfl
theorem rH:aN prog 120=true:=by kernel_rfl
theorem gV:aN prog 136=true:=by kernel_rfl
theorem rG:aN prog 137=true:=by kernel_rfl
theorem p7:∀ (a0:Int) (a1:Int) (a2:Int) (a3:Int) (a4:Int) (a5:Int) (a6:Int) (a7:Int) (a8:Option Addr) (a9 a10:Nat) (a11:ByteArray) (a12:Int) (a13:Int) (a14:Int) (a15:Int) (a16:Option Addr) (a17 a18:Nat) (a19:Option Addr) (a20 a21:Nat) (a22:Option Addr) (a23 a24:Nat) (a25:Option Addr) (a26 a27:Nat) (a28:Int) (a29:Option Addr) (a30 a31:Nat) (a32:ByteArray) (a33:Int),prog.built 91 [(0,.agg #[.int .i64 a0,.int .i64 a1,.int .i64 a2,.int .i64 a3,.int .i64 a4,.int .i64 a5,.int .i64 a6,.int .i64 a7,.slice a8 a9 a10,.string a11,.int .i64 a12,.int .i64 a13,.int .i64 a14,.int .u64 a15,.slice a16 a17 a18,.slice a19 a20 a21,.slice a22 a23 a24,.slice a25 a26 a27,.int .i64 a28,.slice a29 a30 a31,.string a32,.int .i64 a33])]=some #[.int .i64 a0,.int .i64 a1,.int .i64 a2,.int .i64 a3,.int .i64 a4,.int .i64 a5,.int .i64 a6,.int .i64 a7,.slice a8 a9 a10,.string a11,.int .i64 a12,.int .i64 a13,.int .i64 a14,.int .u64 a15,.slice a16 a17 a18,.slice a19 a20 a21,.slice a22 a23 a24,.slice a25 a26 a27,.int .i64 a28,.slice a29 a30 a31,.string a32,.int .i64 a33]:=by intros;kernel_rfl
theorem og:aN prog 95=true:=by kernel_rfl
theorem s8:aN prog 96=true:=by kernel_rfl
theorem p6:∀ (a0:Int) (a1:Int) (a2:Int) (a3:Int) (a4:Int) (a5:Int) (a6:Int) (a7:Int) (a8:Option Addr) (a9 a10:Nat) (a11:ByteArray) (a12:Int) (a13:Int) (a14:Int) (a15:Int) (a16:Option Addr) (a17 a18:Nat) (a19:Option Addr) (a20 a21:Nat) (a22:Option Addr) (a23 a24:Nat) (a25:Option Addr) (a26 a27:Nat) (a28:Int) (a29:Option Addr) (a30 a31:Nat) (a32:ByteArray) (a33:Int),prog.built 96 [(0,.agg #[.int .i64 a0,.int .i64 a1,.int .i64 a2,.int .i64 a3,.int .i64 a4,.int .i64 a5,.int .i64 a6,.int .i64 a7,.slice a8 a9 a10,.string a11,.int .i64 a12,.int .i64 a13,.int .i64 a14,.int .u64 a15,.slice a16 a17 a18,.slice a19 a20 a21,.slice a22 a23 a24,.slice a25 a26 a27,.int .i64 a28,.slice a29 a30 a31,.string a32,.int .i64 a33])]=some #[.int .i64 a0,.int .i64 a1,.int .i64 a2,.int .i64 a3,.int .i64 a4,.int .i64 a5,.int .i64 a6,.int .i64 a7,.slice a8 a9 a10,.string a11,.int .i64 a12,.int .i64 a13,.int .i64 a14,.int .u64 a15,.slice a16 a17 a18,.slice a19 a20 a21,.slice a22 a23 a24,.slice a25 a26 a27,.int .i64 a28,.slice a29 a30 a31,.string a32,.int .i64 a33,.slice none 0 0]:=by intros;kernel_rfl
theorem eG (A:Option Addr) (c n:Nat) (xs:List Value) (w:World) (hx:xs.length=n*1) (hr:0<n→∃ b o,A=some ⟨b,o,none⟩∧w.rangeAt b o xs) (hn0:A=none→n=0∧c=0) (h1:∀ u∈xs,u.oneCell'=true) (hl:n≤100000000000) :
 Rt prog 136 [.slice A n c] w (fun v w'=>(∃ A' c',v=.slice A' n c'∧w'.ownsRow w.heap.size 3 1 (.slice A' n c') n xs)∧ah w w'):=by
 refine enter (n:=8) Tryz.func136 rfl rfl rfl (ak (af (ass rfl (ai (ag (ak (ak (af (mvs rfl (aa (o3 s7 rfl rfl) (ai (ag (aQ rfl (fun Q1=>?_) (fun Q1=>?_))))))))))))))
 ·(try first | (replace Q1 := dF Q1; trace "@MK N eG:c4+ 1.1") | (replace Q1 := dG Q1; trace "@MK N eG:c4+ 1.2"))
  (try first | (replace Q1 := jv Q1; trace "@MK N eG:c4+ 2.1") | (replace Q1 := jw Q1; trace "@MK N eG:c4+ 2.2") | (replace Q1 := ek Q1; trace "@MK N eG:c4+ 2.3") | (replace Q1 := en Q1; trace "@MK N eG:c4+ 2.4") | (replace Q1 := dT_ Q1; trace "@MK N eG:c4+ 2.5") | (replace Q1 := dF_ Q1; trace "@MK N eG:c4+ 2.6"))
  obtain rfl:A=none:=Option.isNone_iff_eq_none.1 Q1;obtain ⟨rfl,rfl⟩:=hn0 rfl;obtain rfl:xs=[]:=List.eq_nil_of_length_eq_zero (by omega);refine ak (af (ass rfl (ai (ag (aC (aE (bw (v:=.slice _ _ _) rfl rfl (⟨⟨none,0,rfl,World.ownsRow_nil _ _ _ _⟩,ah.rfl_⟩))))))))
 (try first | (replace Q1 := dF Q1; trace "@MK N eG:c4- 1.1") | (replace Q1 := dG Q1; trace "@MK N eG:c4- 1.2"))
 (try first | (replace Q1 := jv Q1; trace "@MK N eG:c4- 2.1") | (replace Q1 := jw Q1; trace "@MK N eG:c4- 2.2") | (replace Q1 := ek Q1; trace "@MK N eG:c4- 2.3") | (replace Q1 := en Q1; trace "@MK N eG:c4- 2.4") | (replace Q1 := dT_ Q1; trace "@MK N eG:c4- 2.5") | (replace Q1 := dF_ Q1; trace "@MK N eG:c4- 2.6"))
 have hA4:A=none→c=0:=fun h=>by rw [h] at Q1;cases Q1
 refine aM (ag (ak (af (uE cj _ (ah.rfl_.size) ?_))));intro b5 w2 E5 hb5 ho5;refine mvs rfl ?_;refine lx (a0:=w) cj rfl (by decide) rfl ho5 (ah.rfl_.next E5) rfl hx (fun h=>(let ⟨b,o,hA,hc⟩:=hr h;⟨b,o,hA,dT (ah.rfl_.next E5) hc⟩)) hA4 h1 (by omega) (by omega) ?_;intro A7 c7 w3 ho7 B7 hg7;refine ass rfl (ai (ag (aC (bw (v:=.slice _ _ _) rfl rfl (⟨⟨A7,c7,by rw [Nat.zero_add],by simpa using ho7⟩,B7⟩)))))
theorem eF (A:Option Addr) (c n:Nat) (xs:List Value) (w:World) (hx:xs.length=n*4) (hr:0<n→∃ b o,A=some ⟨b,o,none⟩∧w.rangeAt b o xs) (hn0:A=none→n=0∧c=0) (h1:∀ u∈xs,u.oneCell'=true) (hl:n≤100000000000) :
 Rt prog 137 [.slice A n c] w (fun v w'=>(∃ A' c',v=.slice A' n c'∧w'.ownsRow w.heap.size 54 4 (.slice A' n c') n xs)∧ah w w'):=by
 refine enter (n:=8) Tryz.func137 rfl rfl rfl (ak (af (ass rfl (ai (ag (ak (ak (af (mvs rfl (aa (o3 s6 rfl rfl) (ai (ag (aQ rfl (fun Q1=>?_) (fun Q1=>?_))))))))))))))
 ·(try first | (replace Q1 := dF Q1; trace "@MK N eF:c4+ 1.1") | (replace Q1 := dG Q1; trace "@MK N eF:c4+ 1.2"))
  (try first | (replace Q1 := jv Q1; trace "@MK N eF:c4+ 2.1") | (replace Q1 := jw Q1; trace "@MK N eF:c4+ 2.2") | (replace Q1 := ek Q1; trace "@MK N eF:c4+ 2.3") | (replace Q1 := en Q1; trace "@MK N eF:c4+ 2.4") | (replace Q1 := dT_ Q1; trace "@MK N eF:c4+ 2.5") | (replace Q1 := dF_ Q1; trace "@MK N eF:c4+ 2.6"))
  obtain rfl:A=none:=Option.isNone_iff_eq_none.1 Q1;obtain ⟨rfl,rfl⟩:=hn0 rfl;obtain rfl:xs=[]:=List.eq_nil_of_length_eq_zero (by omega);refine ak (af (ass rfl (ai (ag (aC (aE (bw (v:=.slice _ _ _) rfl rfl (⟨⟨none,0,rfl,World.ownsRow_nil _ _ _ _⟩,ah.rfl_⟩))))))))
 (try first | (replace Q1 := dF Q1; trace "@MK N eF:c4- 1.1") | (replace Q1 := dG Q1; trace "@MK N eF:c4- 1.2"))
 (try first | (replace Q1 := jv Q1; trace "@MK N eF:c4- 2.1") | (replace Q1 := jw Q1; trace "@MK N eF:c4- 2.2") | (replace Q1 := ek Q1; trace "@MK N eF:c4- 2.3") | (replace Q1 := en Q1; trace "@MK N eF:c4- 2.4") | (replace Q1 := dT_ Q1; trace "@MK N eF:c4- 2.5") | (replace Q1 := dF_ Q1; trace "@MK N eF:c4- 2.6"))
 have hA4:A=none→c=0:=fun h=>by rw [h] at Q1;cases Q1
 refine aM (ag (ak (af (uE jS _ (ah.rfl_.size) ?_))));intro b5 w2 E5 hb5 ho5;refine mvs rfl ?_;refine lx (a0:=w) jS rfl (by decide) rfl ho5 (ah.rfl_.next E5) rfl hx (fun h=>(let ⟨b,o,hA,hc⟩:=hr h;⟨b,o,hA,dT (ah.rfl_.next E5) hc⟩)) hA4 h1 (by omega) (by omega) ?_;intro A7 c7 w3 ho7 B7 hg7;refine ass rfl (ai (ag (aC (bw (v:=.slice _ _ _) rfl rfl (⟨⟨A7,c7,by rw [Nat.zero_add],by simpa using ho7⟩,B7⟩)))))
theorem kf (A:Option Addr) (c:Nat) (l:List Int) (w:World) (h:IR w A c l) (hl:l.length≤1000000):Rt prog 136 [.slice A l.length c] w fun v w'=>(∃ A' c',v=.slice A' l.length c'∧w'.ownsRow w.heap.size 3 1 (.slice A' l.length c') l.length (l.map iV))∧ah w w':=
 eG A c l.length (l.map iV) w (by simp) (fun h0=>by
  obtain ⟨b,o,hA,hc⟩:=h.1 h0;refine ⟨b,o,hA,fun j v hv=>?_⟩;rw [List.getElem?_map] at hv;cases hj:l[j]? with
  |none=>rw [hj] at hv;cases hv
  |some x=>
   obtain ⟨hjl,rfl⟩:=List.getElem?_eq_some_iff.1 hj;rw [hj] at hv;cases hv;exact hc j hjl) h.2.2.2 (fun u hu=>by obtain ⟨x,_,rfl⟩:=List.mem_map.1 hu;rfl) (by omega)
theorem vS (A:Option Addr) (c:Nat) (L:List (Rd×Option Addr×Nat)) (w:World) (h:iE 4 rdV w A L) (hn:A=none→L.length=0∧c=0) (hl:L.length≤1000000):Rt prog 137 [.slice A L.length c] w fun v w'=>(∃ A' c',v=.slice A' L.length c'∧w'.ownsRow w.heap.size 54 4 (.slice A' L.length c') L.length (L.flatMap rdV))∧ah w w':=
 eF A c L.length (L.flatMap rdV) w (mJ jM L) (fun h0=>iE.flat jM h h0) hn (yV L) (by omega)
def nk (N O:List (Rd×Option Addr×Nat)):List (Rd×Option Addr×Nat):=N++O.drop N.length
def zS (s:Rf):Rf:={ s with es:=[],votes:=[],next:=[],mtch:=[],sent:=[],reads:=[] }
theorem jn {w w':World} {tag:Nat→Nat} {g d base e s n cc:Nat} {A:Option Addr} {xs:List Value} (hC:Chg (fun k=>k=g) w w') (hg:tag g=8) (hd:d≠8) (h:w.ownsRow base e s (.slice A n cc) n xs∧Col tag d A):w'.ownsRow base e s (.slice A n cc) n xs∧Col tag d A:=
 ⟨eJ h.1 hC (fun k hk e=>hd ((h.2 k hk).symm.trans (by rw [show k=g from e];exact hg))),h.2⟩
theorem cO.chg8 {w w':World} {y g:Nat} {tag:Nat→Nat} {s:Rf} {a:Ra} (h:cO y w tag s a) (hC:Chg (fun k=>k=g) w w') (hg:tag g=8):cO y w' tag s a:=
 ⟨fun hx=>jn hC hg (by decide) (h.e hx),fun hx=>jn hC hg (by decide) (h.v hx),fun hx=>jn hC hg (by decide) (h.x hx),fun hx=>jn hC hg (by decide) (h.m hx),fun hx=>jn hC hg (by decide) (h.n hx),h.r,fun hx=>jn hC hg (by decide) (h.q hx),fun i hi hx=>jn hC hg (by omega) (h.k i hi hx)⟩
theorem qA:∀ (N O:List (Rd×Option Addr×Nat)) (x:Rd×Option Addr×Nat) (A:Option Addr) (c:Nat),((N++x::O).flatMap rdV).set (N.length*4+3) (.slice A x.1.acks.length c)=((N++(x.1,A,c)::O).flatMap rdV)
 |[],O,x,A,c=>rfl
 |y::N,O,x,A,c=>by
  have ih:=qA N O x A c;show (rdV y++(N++x::O).flatMap rdV).set ((N.length+1)*4+3) _=rdV y++(N++(x.1,A,c)::O).flatMap rdV;rw [List.set_append_right _ _ (by rw [jM];omega),jM,show (N.length+1)*4+3-4=N.length*4+3 by omega,ih]
theorem y9 {N O:List (Rd×Option Addr×Nat)} (h:N.length<O.length):nk N O=N++O[N.length]::O.drop (N.length+1):=by
 unfold nk;rw [List.drop_eq_getElem_cons h]
theorem xF {N O:List (Rd×Option Addr×Nat)} (h:N.length<O.length) (A:Option Addr) (c:Nat):((nk N O).flatMap rdV).set (N.length*4+3) (.slice A O[N.length].1.acks.length c)=(nk (N++[(O[N.length].1,A,c)]) O).flatMap rdV:=by
 rw [y9 h,qA];unfold nk;rw [List.length_append,List.length_singleton,List.append_assoc];rfl
theorem xG {N O:List (Rd×Option Addr×Nat)} (h:N.length=O.length):nk N O=N:=by unfold nk;rw [h,List.drop_length,List.append_nil]
theorem pg {N O:List (Rd×Option Addr×Nat)} (h:N.length≤O.length):(nk N O).length=O.length:=by unfold nk;rw [List.length_append,List.length_drop];omega
theorem vR (s:Rf) (a:Ra) (w:World) (hrd:fo w s a) (hl:s.votes.length≤1000000∧s.next.length≤1000000∧s.mtch.length≤1000000∧s.sent.length≤1000000∧s.reads.length≤1000000∧∀ q∈s.reads,q.acks.length≤1000000) (hel:s.es.length≤1000000) :
 Rt prog 96 [.agg (rfV s a).toArray] w (fun v w'=>(∃ tag a',v=.agg (rfV s a').toArray∧bm w' tag s a'∧∀ k,k<w.heap.size→tag k=8)∧ah w w'):=by
 obtain ⟨E,Ec,V,Vc,X,Xc,M,Mc,Sn,Sc,Q,Qc,LL⟩:=a;obtain ⟨hl1,hl2,hl3,hl4,hl5,hl6⟩:=hl;have hrL:LL.map (fun q=>q.1)=s.reads:=hrd.r;have hrk:∀ q∈LL,IR w q.2.1 q.2.2 q.1.acks:=hrd.k;have hrq:iE 4 rdV w Q LL:=hrd.q;have hqn:Q=none→LL.length=0∧Qc=0:=hrd.qc.2.2;have hLl:LL.length=s.reads.length:=by rw [←hrL,List.length_map]
 have hqm:LL.length≤1000000:=by omega
 refine enter (n:=51) Tryz.func96 rfl rfl rfl (ak (af (bZ (v:=.agg _) rfl ?_)));intro b1 w1 E1 hb1 hk1;refine bQ oe ?_;intro b2 w2 E2 hb2 hk2;have hg1:w.heap.size≤b1:=Nat.le_of_eq hb1.symm;have h12:b1<b2:=by have:=hk1.lt;omega
 have hg2:w.heap.size≤b2:=by omega
 have hk2z:Blk w2 b2 91 ((.agg #[.int .i64 0,.int .i64 0,.int .i64 0,.int .i64 0,.int .i64 0,.int .i64 0,.int .i64 0,.int .i64 0,.slice none 0 0,.string ⟨#[]⟩,.int .i64 0,.int .i64 0,.int .i64 0,.int .u64 0,.slice none 0 0,.slice none 0 0,.slice none 0 0,.slice none 0 0,.int .i64 0,.slice none 0 0,.string ⟨#[]⟩,.int .i64 0]):Value).cells:=hk2;have ht0:∀ k,k≤b2→(fun _:Nat=>8) k=8:=fun _ _=>rfl
 refine ai (ag (ak (af (aa (ab bj rfl) (aa (ab cX rfl) (aa (ar bk rfl (by exact (show _=some (Value.slice E s.es.length Ec) from (hk1.from_ (ah.rfl_.next E2)).rd 8 rfl))) ?_))))));have hN7:ah _ w2:=(ah.rfl_.next E2);have hk2c:=hk2z.from_ (ah.rfl_ (a:=w2));have hlt7:=hk2c.lt;have hf0:bm w2 (fun _=>8) ({ s with es:=[],votes:=[],next:=[],mtch:=[],sent:=[],reads:=[] }:Rf) a0:=bm.same bm.zero rfl rfl rfl rfl rfl rfl;refine az rH (ya E s.es.length Ec s.es _ (hrd.e.from_ ((ah.rfl_.next E1).next E2)) (by omega)) ?_;rintro v7 w3 ⟨A7,c7,rfl,ho7,E7⟩;obtain ⟨tag1,hf1,ht1⟩:∃ t,bm w3 t ({ s with es:=s.es,votes:=[],next:=[],mtch:=[],sent:=[],reads:=[] }:Rf) (⟨A7,c7,none,0,none,0,none,0,none,0,none,0,[]⟩:Ra)∧(∀ k,k≤b2→t k=8):=⟨_,cO.log (bm.but (c:=0) hf0 (ah.toChg E7)) s.b s.t rfl (ec ho7 (Nat.zero_le _)) (fun k hk=>dQ (eN ho7 k hk).1),fun k hk=>(cW (by omega)).trans (ht0 k hk)⟩;refine aa (ab bj rfl) (aa (ab cX rfl) ?_);have hS1:ah _ w3:=ah.rfl_;refine cK (s':=s) (a':=(⟨A7,c7,V,Vc,X,Xc,M,Mc,Sn,Sc,Q,Qc,LL⟩:Ra)) (v:=.slice _ _ _) gW rfl rfl rfl ((hk1.from_ ((hN7.next E7).next ah.rfl_))) (by exact ⟨by decide,rfl⟩) ?_;intro w4 O1_0 P1_0;replace hf1:=(hf1.from_ hS1).chg8 (O1_0.toChg rfl) (ht1 b1 (by omega));replace hk2z:=(hk2c.from_ (E7.next hS1)).only O1_0 (by omega);refine ai (ag (ak (af (aa (ab de rfl) (aa (ar bo rfl (by exact (show _=some (Value.slice V s.votes.length Vc) from (P1_0.from_ ah.rfl_).rd 14 rfl))) ?_)))));have hN12:ah _ w4:=ah.rfl_;have hk2c:=hk2z.from_ ah.rfl_;have hlt12:=hk2c.lt;have hf1n:=hf1.from_ ah.rfl_;refine az gV (kf V Vc s.votes _ (IR.from_ hrd.v ((((ah.rfl_.next E1).next E2).next E7).only O1_0 (hg1))) hl1) ?_;rintro v12 w5 ⟨⟨A12,c12,rfl,ho12⟩,E12⟩;obtain ⟨tag2,hf2,ht2⟩:∃ t,bm w5 t ({ s with es:=s.es,votes:=s.votes,next:=[],mtch:=[],sent:=[],reads:=[] }:Rf) (⟨A7,c7,A12,c12,none,0,none,0,none,0,none,0,[]⟩:Ra)∧(∀ k,k≤b2→t k=8):=⟨_,cO.votes (bm.but (c:=1) hf1n (ah.toChg E12)) rfl (ec ho12 (Nat.zero_le _)) (fun k hk=>dQ (eN ho12 k hk).1),fun k hk=>(cW (by omega)).trans (ht1 k hk)⟩;refine aa (ab de rfl) ?_;have hS2:ah _ w5:=ah.rfl_;refine cK (s':=s) (a':=(⟨A7,c7,A12,c12,X,Xc,M,Mc,Sn,Sc,Q,Qc,LL⟩:Ra)) (v:=.slice _ _ _) db rfl rfl rfl ((P1_0.from_ ((hN12.next E12).next ah.rfl_))) (by exact ⟨by decide,rfl⟩) ?_;intro w6 O2_0 P2_0;replace hf2:=(hf2.from_ hS2).chg8 (O2_0.toChg rfl) (ht2 b1 (by omega));replace hk2z:=(hk2c.from_ (E12.next hS2)).only O2_0 (by omega);refine ai (ag (ak (af (aa (ab cS rfl) (aa (ar bo rfl (by exact (show _=some (Value.slice X s.next.length Xc) from (P2_0.from_ ah.rfl_).rd 15 rfl))) ?_)))));have hN16:ah _ w6:=ah.rfl_;have hk2c:=hk2z.from_ ah.rfl_;have hlt16:=hk2c.lt;have hf2n:=hf2.from_ ah.rfl_;refine az gV (kf X Xc s.next _ (IR.from_ hrd.x ((((((ah.rfl_.next E1).next E2).next E7).only O1_0 (hg1)).next E12).only O2_0 (hg1))) hl2) ?_;rintro v16 w7 ⟨⟨A16,c16,rfl,ho16⟩,E16⟩;obtain ⟨tag3,hf3,ht3⟩:∃ t,bm w7 t ({ s with es:=s.es,votes:=s.votes,next:=s.next,mtch:=[],sent:=[],reads:=[] }:Rf) (⟨A7,c7,A12,c12,A16,c16,none,0,none,0,none,0,[]⟩:Ra)∧(∀ k,k≤b2→t k=8):=⟨_,cO.next (bm.but (c:=2) hf2n (ah.toChg E16)) rfl (ec ho16 (Nat.zero_le _)) (fun k hk=>dQ (eN ho16 k hk).1),fun k hk=>(cW (by omega)).trans (ht2 k hk)⟩;refine aa (ab cS rfl) ?_;have hS3:ah _ w7:=ah.rfl_;refine cK (s':=s) (a':=(⟨A7,c7,A12,c12,A16,c16,M,Mc,Sn,Sc,Q,Qc,LL⟩:Ra)) (v:=.slice _ _ _) db rfl rfl rfl ((P2_0.from_ ((hN16.next E16).next ah.rfl_))) (by exact ⟨by decide,rfl⟩) ?_;intro w8 O3_0 P3_0;replace hf3:=(hf3.from_ hS3).chg8 (O3_0.toChg rfl) (ht3 b1 (by omega));replace hk2z:=(hk2c.from_ (E16.next hS3)).only O3_0 (by omega);refine ai (ag (ak (af (aa (ab c_ rfl) (aa (ar bo rfl (by exact (show _=some (Value.slice M s.mtch.length Mc) from (P3_0.from_ ah.rfl_).rd 16 rfl))) ?_)))));have hN20:ah _ w8:=ah.rfl_;have hk2c:=hk2z.from_ ah.rfl_;have hlt20:=hk2c.lt;have hf3n:=hf3.from_ ah.rfl_;refine az gV (kf M Mc s.mtch _ (IR.from_ hrd.m ((((((((ah.rfl_.next E1).next E2).next E7).only O1_0 (hg1)).next E12).only O2_0 (hg1)).next E16).only O3_0 (hg1))) hl3) ?_;rintro v20 w9 ⟨⟨A20,c20,rfl,ho20⟩,E20⟩;obtain ⟨tag4,hf4,ht4⟩:∃ t,bm w9 t ({ s with es:=s.es,votes:=s.votes,next:=s.next,mtch:=s.mtch,sent:=[],reads:=[] }:Rf) (⟨A7,c7,A12,c12,A16,c16,A20,c20,none,0,none,0,[]⟩:Ra)∧(∀ k,k≤b2→t k=8):=⟨_,cO.mtch (bm.but (c:=3) hf3n (ah.toChg E20)) rfl (ec ho20 (Nat.zero_le _)) (fun k hk=>dQ (eN ho20 k hk).1),fun k hk=>(cW (by omega)).trans (ht3 k hk)⟩;refine aa (ab c_ rfl) ?_;have hS4:ah _ w9:=ah.rfl_;refine cK (s':=s) (a':=(⟨A7,c7,A12,c12,A16,c16,A20,c20,Sn,Sc,Q,Qc,LL⟩:Ra)) (v:=.slice _ _ _) db rfl rfl rfl ((P3_0.from_ ((hN20.next E20).next ah.rfl_))) (by exact ⟨by decide,rfl⟩) ?_;intro w10 O4_0 P4_0;replace hf4:=(hf4.from_ hS4).chg8 (O4_0.toChg rfl) (ht4 b1 (by omega));replace hk2z:=(hk2c.from_ (E20.next hS4)).only O4_0 (by omega);refine ai (ag (ak (af (aa (ab df rfl) (aa (ar bo rfl (by exact (show _=some (Value.slice Sn s.sent.length Sc) from (P4_0.from_ ah.rfl_).rd 17 rfl))) ?_)))));have hN24:ah _ w10:=ah.rfl_;have hk2c:=hk2z.from_ ah.rfl_;have hlt24:=hk2c.lt;have hf4n:=hf4.from_ ah.rfl_;refine az gV (kf Sn Sc s.sent _ (IR.from_ hrd.n ((((((((((ah.rfl_.next E1).next E2).next E7).only O1_0 (hg1)).next E12).only O2_0 (hg1)).next E16).only O3_0 (hg1)).next E20).only O4_0 (hg1))) hl4) ?_;rintro v24 w11 ⟨⟨A24,c24,rfl,ho24⟩,E24⟩;obtain ⟨tag5,hf5,ht5⟩:∃ t,bm w11 t ({ s with es:=s.es,votes:=s.votes,next:=s.next,mtch:=s.mtch,sent:=s.sent,reads:=[] }:Rf) (⟨A7,c7,A12,c12,A16,c16,A20,c20,A24,c24,none,0,[]⟩:Ra)∧(∀ k,k≤b2→t k=8):=⟨_,cO.sent (bm.but (c:=4) hf4n (ah.toChg E24)) rfl (ec ho24 (Nat.zero_le _)) (fun k hk=>dQ (eN ho24 k hk).1),fun k hk=>(cW (by omega)).trans (ht4 k hk)⟩;refine aa (ab df rfl) ?_;have hS5:ah _ w11:=ah.rfl_;refine cK (s':=s) (a':=(⟨A7,c7,A12,c12,A16,c16,A20,c20,A24,c24,Q,Qc,LL⟩:Ra)) (v:=.slice _ _ _) db rfl rfl rfl ((P4_0.from_ ((hN24.next E24).next ah.rfl_))) (by exact ⟨by decide,rfl⟩) ?_;intro w12 O5_0 P5_0;replace hf5:=(hf5.from_ hS5).chg8 (O5_0.toChg rfl) (ht5 b1 (by omega));replace hk2z:=(hk2c.from_ (E24.next hS5)).only O5_0 (by omega);refine ai (ag (ak (af (aa (ab cl rfl) (aa (ar ea rfl (by exact (show _=some (Value.slice Q LL.length Qc) from (P5_0.from_ ah.rfl_).rd 19 rfl))) ?_)))));have hN28:ah _ w12:=ah.rfl_;have hk2c:=hk2z.from_ ah.rfl_;have hlt28:=hk2c.lt;have hf5n:=hf5.from_ ah.rfl_;refine az rG (vS Q Qc LL _ (hrq.from_ ((((((((((((ah.rfl_.next E1).next E2).next E7).only O1_0 (hg1)).next E12).only O2_0 (hg1)).next E16).only O3_0 (hg1)).next E20).only O4_0 (hg1)).next E24).only O5_0 (hg1))) hqn hqm) ?_;rintro v28 w13 ⟨⟨A28,c28,rfl,ho28⟩,E28⟩;obtain ⟨tag6,hg6,ht6,hc6⟩:∃ t,cO 5 w13 t ({ s with es:=s.es,votes:=s.votes,next:=s.next,mtch:=s.mtch,sent:=s.sent,reads:=[] }:Rf) (⟨A7,c7,A12,c12,A16,c16,A20,c20,A24,c24,none,0,[]⟩:Ra)∧(∀ k,k≤b2→t k=8)∧Col t 5 A28:=⟨_,bm.but (c:=5) hf5n (ah.toChg E28),fun k hk=>(cW (by omega)).trans (ht5 k hk),fun k hk=>dQ (eN ho28 k hk).1⟩;refine aa (ab cl rfl) ?_;have hS6:ah _ w13:=ah.rfl_;refine cK (s':=s) (a':=(⟨A7,c7,A12,c12,A16,c16,A20,c20,A24,c24,A28,c28,LL⟩:Ra)) (v:=.slice _ _ _) jy rfl rfl rfl ((P5_0.from_ ((hN28.next E28).next ah.rfl_))) (by exact ⟨by decide,rfl⟩) ?_;intro w14 O6_0 P6_0;replace hg6:=(hg6.from_ hS6).chg8 (O6_0.toChg rfl) (ht6 b1 (by omega));have hr6:=eY (ec (base':=0) (ho28.kept_from hS6) (Nat.zero_le _)) O6_0 (fun k hk e=>by have:=hc6 k hk;rw [e,ht6 b1 (by omega)] at this;cases this);replace hk2z:=(hk2c.from_ (E28.next hS6)).only O6_0 (by omega);refine ai (ag (ak (ak (af (aa (ab cl rfl) (aa (ar ea rfl (by exact (show _=some (Value.slice A28 LL.length c28) from (P6_0.from_ ah.rfl_).rd 19 rfl))) ?_))))));refine aa (bF fy rfl) (mvi rfl (ai (ag (a_ (cY (G:=List (Rd×Option Addr×Nat)×(Nat→Nat)) [3,34,35,36,37,38,39,40,41,42,43,44,45,46,47,48] (fun (N,tg)=>[(33,.int .i64 (N.length:Nat))]) (fun (N,tg) w'=>N.length≤LL.length∧(∀ i (h:i<N.length) (h2:i<LL.length),N[i].1=LL[i].1)∧cO 5 w' tg ({ s with es:=s.es,votes:=s.votes,next:=s.next,mtch:=s.mtch,sent:=s.sent,reads:=[] }:Rf) (⟨A7,c7,A12,c12,A16,c16,A20,c20,A24,c24,none,0,N⟩:Ra)∧(∀ k,k≤b2→tg k=8)∧Col tg 5 A28∧w'.ownsRow 0 54 4 (.slice A28 LL.length c28) LL.length ((nk N LL).flatMap rdV)∧Blk w' b1 29 (rfV s (⟨A7,c7,A12,c12,A16,c16,A20,c20,A24,c24,A28,c28,LL⟩:Ra)).toArray∧Blk w' b2 91 ((.agg #[.int .i64 0,.int .i64 0,.int .i64 0,.int .i64 0,.int .i64 0,.int .i64 0,.int .i64 0,.int .i64 0,.slice none 0 0,.string ⟨#[]⟩,.int .i64 0,.int .i64 0,.int .i64 0,.int .u64 0,.slice none 0 0,.slice none 0 0,.slice none 0 0,.slice none 0 0,.int .i64 0,.slice none 0 0,.string ⟨#[]⟩,.int .i64 0]):Value).cells∧ah w w') (fun (N,_)=>LL.length-N.length) (([],tag6)) ⟨rfl,trivial⟩ ?_ ?_)))))
 ·exact ⟨Nat.zero_le _,fun i h=>absurd h (Nat.not_lt_zero _),hg6.from_ ah.rfl_,ht6,hc6,hr6.kept_from ah.rfl_,P6_0.from_ ah.rfl_,hk2z.from_ ah.rfl_,((((((((((((((ah.rfl_.next E1).next E2).next E7).only O1_0 (hg1)).next E12).only O2_0 (hg1)).next E16).only O3_0 (hg1)).next E20).only O4_0 (hg1)).next E24).only O5_0 (hg1)).next E28).only O6_0 (hg1))⟩
 rintro ⟨N,tg⟩ ρ15 w15 ⟨hNl,hNe,hgN,htN,hcN,hrN,hbN,hk2N,hBN⟩;refine ak (af (aa (cg rfl rfl) (ai (ag (ak (Bn rfl (fun Q16=>?_) (fun Q16=>?_)))))))
 ·have hNL:N.length<LL.length:=by omega
  have hqk:LL[N.length].1∈s.reads:=by rw [←hrL];exact List.mem_map_of_mem (List.getElem_mem hNL)
  obtain ⟨g28,rfl⟩:=ft hrN (by omega);obtain ⟨z9,hz9⟩:∃ z,z=(w15).heap.size:=⟨_,rfl⟩
  have hc44:(w15).cell? ⟨g28,0+N.length*4+3,none⟩=some (.slice LL[N.length].2.1 LL[N.length].1.acks.length LL[N.length].2.2):=by
   obtain ⟨b9,o9,he9,hcs⟩:=(iE.own jM (by decide) hrN).2 (by rw [pg hNl];omega);cases he9;have h9:=hcs N.length (by rw [pg hNl];omega)
   have hm9:(nk N LL)[N.length]'(by rw [pg hNl];omega)=LL[N.length]:=by
    unfold nk;rw [List.getElem_append_right (Nat.le_refl _)];simp
   rw [hm9] at h9;exact h9 3 _ rfl
  have htg28:tg g28=5:=hcN g28 rfl
  have hg28:b2<g28:=by
   rcases Nat.lt_or_ge b2 g28 with e | e
   ·exact e
   ·have:=htN g28 e;omega
  refine aM (ag (ak (a_ (ak (af (mvi rfl (asi rfl (ai (ag ?_)))))))));apply bY 12 [(36,eqp _),(37,eqp (.slice (some ⟨g28,0,none⟩) LL.length c28)),(38,eqp _),(39,eqp _),(40,eqp (.slice (some ⟨g28,0,none⟩) LL.length c28)),(41,eqp _),(42,eqp _),(43,eqp _),(44,eqp (.slice LL[N.length].2.1 LL[N.length].1.acks.length LL[N.length].2.2)),(45,fun v w'=>∃ A' c',v=.slice A' LL[N.length].1.acks.length c'∧w'.ownsRow z9 3 1 (.slice A' LL[N.length].1.acks.length c') LL[N.length].1.acks.length (LL[N.length].1.acks.map iV)),(46,eqp _),(47,eqp _)] (by repeat first | exact cB | refine cz ?_ | refine ck ?_) (by kernel_rfl) (by kernel_rfl) ⟨aj _,aj _,aj _,aj _,aj _,aj _,aj _,aj _,aj _,(fun _ _ _ hF ⟨a,b,h1,h2⟩=>⟨a,b,h1,h2.kept_from hF⟩),aj _,aj _,trivial⟩
  case hop=>
   constructor
   ·rintro-w18 D18;exact au (ab cl rfl) rfl
   constructor
   ·rintro-w19 D19;rintro _ rfl;exact au (ar ea rfl (by exact (show _=some (Value.slice (some ⟨g28,0,none⟩) LL.length c28) from (hbN.from_ (ah.rfl_.next D19)).rd 19 rfl))) rfl
   constructor
   ·rintro-w20 D20;exact au (aK (v:=.int _ _) rfl) rfl
   constructor
   ·rintro-w21 D21;exact au (ab cl rfl) rfl
   constructor
   ·rintro-w22 D22;rintro _ rfl;exact au (ar ea rfl (by exact (show _=some (Value.slice (some ⟨g28,0,none⟩) LL.length c28) from (hbN.from_ (ah.rfl_.next D22)).rd 19 rfl))) rfl
   constructor
   ·rintro-w23 D23;exact au (aK (v:=.int _ _) rfl) rfl
   constructor
   ·rintro-w24 D24;rintro v24_40 rfl _ rfl;exact au (bq gD rfl rfl (by omega)) rfl
   constructor
   ·rintro-w25 D25;rintro _ rfl;exact au (ab fB rfl) rfl
   constructor
   ·rintro-w26 D26;rintro _ rfl;exact au (ar bo rfl (by exact fC (ah.rfl_.next D26) hc44)) rfl
   constructor
   ·rintro-w27 D27;rintro v27_44 rfl;refine fD gV ((kf LL[N.length].2.1 LL[N.length].2.2 LL[N.length].1.acks _ ((hrk _ (List.getElem_mem hNL)).from_ (hBN.next D27)) (hl6 _ hqk)).mono ?_);rintro v w9 ⟨⟨a,b,rfl,ho⟩,hF9⟩;exact ⟨hF9,a,b,rfl,ec ho (by rw [hz9];exact ((ah.rfl_.next D27)).size)⟩
   constructor
   ·rintro-w28 D28;rintro v28_37 rfl _ rfl;exact au (bq gD rfl rfl (by omega)) rfl
   constructor
   ·rintro-w29 D29;rintro _ rfl;exact au (ab fB rfl) rfl
   exact trivial
  case hend=>
   intro w30 D30;rintro _ rfl v37 rfl _ rfl _ rfl v40 rfl _ rfl _ rfl _ rfl v44 rfl v45 ⟨A45,c45,rfl,ho45⟩ _ rfl _ rfl;show St ..;have hM10:ah _ w30:=(ah.rfl_.next D30);refine jh (o:=N.length*4+3) db (by show Value.pointer (some ⟨g28,0+N.length*4+3,none⟩)=_;rw [Nat.zero_add]) rfl rfl (hrN.kept_from (ah.rfl_.next D30)) (by omega) ?_;intro w31 O10 P10;have hlt9:=hrN.lt g28 rfl;obtain ⟨tg2,hg2n,ht2n,hc2n⟩:∃ t,cO 5 w31 t ({ s with es:=s.es,votes:=s.votes,next:=s.next,mtch:=s.mtch,sent:=s.sent,reads:=[] }:Rf) (⟨A7,c7,A12,c12,A16,c16,A20,c20,A24,c24,none,0,(N++[(LL[N.length].1,A45,c45)])⟩:Ra)∧(∀ k,k≤b2→t k=8)∧Col t 5 (some ⟨g28,0,none⟩):=⟨_,cO.five (cO.ack (q:=LL[N.length].1) (A:=A45) (c:=c45) hgN hM10 (by rw [←hz9];exact ho45)) O10 ((cW hlt9.2).trans htg28),fun k hk=>(cW (by omega)).trans (htN k hk),fun k hk=>by cases hk;exact (cW hlt9.2).trans htg28⟩
   have hr2n:(w31).ownsRow 0 54 4 (.slice (some ⟨g28,0,none⟩) LL.length c28) LL.length ((nk (N++[(LL[N.length].1,A45,c45)]) LL).flatMap rdV):=by
    rw [←xF hNL];exact P10
   have hb2n:=(hbN.from_ hM10).only O10 (by omega);have hk2n:=(hk2N.from_ hM10).only O10 (by omega);refine ai (bN (ag (af (aa (bW rfl rfl (by omega)) (mvi rfl (ai ?_))))));refine bT (((N++[(LL[N.length].1,A45,c45)]),tg2)) ⟨bM (by rw [List.length_append,List.length_singleton];omega),trivial⟩ (by (iterate 34 refine bf rfl ?_);exact bB) ⟨?_,?_⟩
   ·refine ⟨by rw [List.length_append,List.length_singleton];omega,fun i h h2=>?_,hg2n.from_ ah.rfl_,ht2n,hc2n,hr2n.kept_from ah.rfl_,hb2n.from_ ah.rfl_,hk2n.from_ ah.rfl_,((hBN.next D30).only O10 (by omega))⟩;rcases Nat.lt_or_ge i N.length with e | e
    ·rw [List.getElem_append_left e];exact hNe i e h2
    ·obtain rfl:i=N.length:=by rw [List.length_append,List.length_singleton] at h;omega
     simp only [List.getElem_append_right (Nat.le_refl _),Nat.sub_self,List.getElem_singleton]
   ·show LL.length-(N++[_]).length<LL.length-N.length;rw [List.length_append,List.length_singleton];omega
 refine cq (bg (bg (b_ (ag (ak (af (aa (aD (cs:=rfV s (⟨A7,c7,A12,c12,A16,c16,A20,c20,A24,c24,A28,c28,LL⟩:Ra)) aP aF rfl ((hbN.from_ ah.rfl_).whole)) (aa (cy (l:=[(0,.tmp 49)]) (p7 _ _ _ _ _ _ _ _ _ _ _ _ _ _ _ _ _ _ _ _ _ _ _ _ _ _ _ _ _ _ _ _ _ _)) ?_))))))));have hM12:ah _ w15:=ah.rfl_;refine bK (vs:=[_,_,_,_,_,_,_,_,_,_,_,_,_,_,_,_,_,_,_,_,_,_]) lq rfl rfl (by simp [Value.oneCell']) ((hk2N.from_ ah.rfl_)) rfl ?_;intro w32 O12 P12;refine ai (ag (aC (lK rfl (cL (cs:=[_,_,_,_,_,_,_,_,_,_,_,_,_,_,_,_,_,_,_,_,_,_]) s9 lq rfl (by exact P12.whole)) ?_)));have hNf:N.length=LL.length:=by omega
 have e9:N.map (fun q=>q.1)=s.reads:=by
  rw [←hrL];refine List.ext_getElem (by simp [hNf]) fun i h1 h2=>?_
  simp only [List.getElem_map];exact hNe i (by simpa using h1) (by simpa using h2)
 have hfin:=cO.reads hgN (A:=A28) (c:=c28) (n:=LL.length) hNf.symm (by rw [xG hNf] at hrN;exact hrN) hcN;rw [show ((⟨A7,c7,A12,c12,A16,c16,A20,c20,A24,c24,none,0,N⟩:Ra)).L=N from rfl,e9] at hfin;exact ⟨⟨tg,(⟨A7,c7,A12,c12,A16,c16,A20,c20,A24,c24,A28,c28,N⟩:Ra),(by show Value.agg (rfV s (⟨A7,c7,A12,c12,A16,c16,A20,c20,A24,c24,A28,c28,LL⟩:Ra)).toArray=Value.agg (rfV s (⟨A7,c7,A12,c12,A16,c16,A20,c20,A24,c24,A28,c28,N⟩:Ra)).toArray;unfold rfV;simp only [hNf]),cO.chg8 (cO.from_ hfin hM12) (O12.toChg rfl) (htN b2 (Nat.le_refl _)),fun k hk=>htN k (by omega)⟩,(hBN.only O12 (hg2))⟩
theorem rT {w w1 w':World} {g T:Nat} {tag:Nat→Nat} {s:Rf} {a:Ra} (hF:ah w w1) (hf:bm w1 tag s a) (ht:∀ k,k<w.heap.size→tag k=8) (hE:ah w1 w') (hg:g=w1.heap.size) (hb:Blk w' g T (rfV s a++[Value.slice none 0 0]).toArray):aZ w (fun k=>k<w.heap.size) w' T g ⟨s,[]⟩:=by
 subst hg;have hz:=hF.size;refine ⟨⟨fS w1.heap.size 7 tag,a,none,0,[],⟨hb,(hf.re 7).from_ hE,⟨World.ownsRow_nil _ _ _ _,rfl,fun j hj=>absurd hj (Nat.not_lt_zero _),Col.none⟩,dQ (Nat.le_refl _),fun k hk=>(cW (Nat.lt_of_lt_of_le hk hz)).trans (ht k hk)⟩⟩,fun k hk=>hk,(hF.next hE).toChg⟩
theorem yf (s:Rf) (a:Ra) (w:World) (hrd:fo w s a) (hl:s.votes.length≤1000000∧s.next.length≤1000000∧s.mtch.length≤1000000∧s.sent.length≤1000000∧s.reads.length≤1000000∧∀ q∈s.reads,q.acks.length≤1000000) (_:s.es.length≤1000000) (hm:iB s=false) :
 Rt prog 55 [.agg (rfV s a).toArray] w (fun v w'=>v=.tuple #[.pointer none,.int .i64 1]∧ah w w'):=by
 refine enter (n:=11) Tryz.func55 rfl rfl rfl (ak (af (bZ (v:=.agg _) rfl ?_)));intro b1 w1 E1 hb1 hk1;refine asp rfl (asi rfl (ai (ag (ak (ak (af (aa (aD (cs:=rfV s a) aP aF rfl ((hk1.from_ ah.rfl_).whole)) (az og (sF s a _ (hrd.from_ (ah.rfl_.next E1)) hl) ?_))))))));rintro v5 w2 ⟨rfl,E5⟩;refine aa (dh (dp rfl rfl) (by rw [hm];rfl)) ?_;refine ai (ag (aR rfl (ak (af (asp rfl (asi rfl (ai (ag (aC (aE (o6 (v:=.pointer _) (v':=.int _ _) rfl rfl rfl (⟨rfl,((ah.rfl_.next E1).next E5)⟩))))))))))))
theorem pD (s:Rf) (a:Ra) (w:World) (hrd:fo w s a) (hl:s.votes.length≤1000000∧s.next.length≤1000000∧s.mtch.length≤1000000∧s.sent.length≤1000000∧s.reads.length≤1000000∧∀ q∈s.reads,q.acks.length≤1000000) (hel:s.es.length≤1000000) (hm:iB s=true) :
 Rt prog 55 [.agg (rfV s a).toArray] w (fun v w'=>(∃ g,v=.tuple #[.pointer (some ⟨g,0,none⟩),.int .i64 0]∧aZ w (fun k=>k<w.heap.size) w' 96 g ⟨s,[]⟩)):=by
 refine enter (n:=11) Tryz.func55 rfl rfl rfl (ak (af (bZ (v:=.agg _) rfl ?_)));intro b1 w1 E1 hb1 hk1;refine asp rfl (asi rfl (ai (ag (ak (ak (af (aa (aD (cs:=rfV s a) aP aF rfl ((hk1.from_ ah.rfl_).whole)) (az og (sF s a _ (hrd.from_ (ah.rfl_.next E1)) hl) ?_))))))));rintro v5 w2 ⟨rfl,E5⟩;refine aa (c8 (dp rfl rfl) (by rw [hm];rfl)) ?_;refine ai (ag (bA rfl (aM (ag (ak (af (aa (aD (cs:=rfV s a) aP aF rfl ((hk1.from_ (ah.rfl_.next E5)).whole)) ?_)))))));have hz8:=(((ah.rfl_.next E1).next E5)).size;refine az s8 (vR s a _ (hrd.from_ ((ah.rfl_.next E1).next E5)) hl hel) ?_;rintro v8 w3 ⟨⟨tag,a',rfl,hf8,ht8⟩,E8⟩;have hB8:ah w w3:=(((ah.rfl_.next E1).next E5).next E8);refine aa (cy (l:=[(0,.tmp 8)]) (p6 _ _ _ _ _ _ _ _ _ _ _ _ _ _ _ _ _ _ _ _ _ _ _ _ _ _ _ _ _ _ _ _ _ _)) (bZ (v:=.agg _) rfl ?_);intro b10 w4 E10 hb10 hk10;have hb10e:=hb10;have hb10:Blk w4 b10 96 (rfV s a'++[Value.slice none 0 0]).toArray:=hk10;refine asp rfl (asi rfl (ai (ag (aC (o6 (v:=.pointer _) (v':=.int _ _) rfl rfl rfl (⟨b10,rfl,rT hB8 hf8 (fun k hk=>ht8 k (Nat.lt_of_lt_of_le hk hz8)) E10 hb10e hb10⟩))))))
theorem jE:aN prog 28=true:=by kernel_rfl
theorem uw:aN prog 60=true:=by kernel_rfl
theorem dg:kB prog 29=some (.agg #[.int .i64 0,.int .i64 0,.int .i64 0,.int .i64 0,.int .i64 0,.int .i64 0,.int .i64 0,.int .i64 0,.slice none 0 0,.string ⟨#[]⟩,.int .i64 0,.int .i64 0,.int .i64 0,.int .u64 0,.slice none 0 0,.slice none 0 0,.slice none 0 0,.slice none 0 0,.int .i64 0,.slice none 0 0,.string ⟨#[]⟩,.int .i64 0]):=by kernel_rfl
theorem ux:aN prog 29=true:=by kernel_rfl
theorem zu (A:Option Addr) (c:Nat) (l:List Int) (w:World) (hr:ey iV w A l) (hl:l.length*8≤140737488351232) :
 Rt prog 28 [.slice A l.length c] w (fun v w'=>∃ A' c',v=.slice A' l.length c'∧w'.ownsRow w.heap.size 3 1 v l.length (l.map iV)∧ah w w'):=by
 refine enter (n:=19) Tryz.func28 rfl rfl rfl (ak (af (ass rfl (ai (ag (ak (af (ass rfl (ai (ag (ak (ak (af (asi rfl (ai (ag (a_ (cY (G:=Nat×Option Addr×Nat) [5,6,7,8,9,10,11,12,13,14,15,16,17] (fun g=>[(3,.slice g.2.1 g.1 g.2.2),(4,.int .i64 (g.1:Nat))]) (fun g w'=>g.1≤l.length∧w'.ownsRow w.heap.size 3 1 (.slice g.2.1 g.1 g.2.2) g.1 ((l.take g.1).map iV)∧ah w w') (fun g=>l.length-g.1) ((0,none,0)) ⟨rfl,rfl,trivial⟩ ?_ ?_))))))))))))))))))
 ·exact ⟨Nat.zero_le _,World.ownsRow_nil _ _ _ _,ah.rfl_⟩
 rintro ⟨k,A3,c3⟩ ρ1 w1 ⟨hk,ho,hB⟩;simp only at hk ho;refine ak (ak (af (mvi rfl (mvs rfl (aa (bF cp rfl) (aa (cg rfl rfl) (ai (ag (Bn rfl (fun Q2=>?_) (fun Q2=>?_))))))))))
 ·obtain ⟨ba,oa,rfl,ca⟩:=hr (by omega);refine aM (ag (ak (a_ (af (mvs rfl (mvs rfl (mvi rfl (aa (dd c6 rfl rfl (by omega)) (aa (ar ao rfl (by first | (exact fC hB (ca k (by omega))))) ?_)))))))));refine fq (v:=.int _ _) cj rfl rfl rfl ?_;intro b16 w3 E16 hb16 hk16;refine rV (a0:=w) cj rfl rfl (ho.kept_from E16) (hB.next E16) rfl hk16 rfl (by omega) (by omega) ?_;intro A17 c17 w4 ho17 B17 hg17;refine ass rfl (ai (bN (ag (af (mvi rfl (aa (bW rfl rfl (by omega)) (asi rfl (ai ?_))))))));refine bT ((k+1,A17,c17)) ⟨(by first | rfl | (refine bM ?_;omega)),(by first | rfl | (refine bM ?_;omega)),trivial⟩ (by (iterate 30 refine bf rfl ?_);exact bB) ⟨?_,?_⟩
  ·exact ⟨by simp only;omega,by rw [pY iV (by omega)];exact ho17,B17⟩
  ·simp only;omega
 refine cq (bg (bg (b_ (ag (ak (af (mvs rfl (ass rfl (ai (ag (aC (bw (v:=.slice _ _ _) rfl rfl ?_))))))))))));obtain rfl:k=l.length:=by omega
 exact ⟨A3,c3,rfl,by rwa [List.take_length] at ho,hB⟩
theorem kY (A:Option Addr) (c:Nat) (l:List Int) (w:World) (h:IR w A c l) (hl:l.length≤1000000):Rt prog 28 [.slice A l.length c] w fun v w'=>(∃ A' c',v=.slice A' l.length c'∧w'.ownsRow w.heap.size 3 1 (.slice A' l.length c') l.length (l.map iV))∧ah w w':=
 (zu A c l w h.1 (by omega)).mono fun v w' ⟨A',c',hv,ho,hF⟩=>⟨⟨A',c',hv,hv ▸ ho⟩,hF⟩
theorem cO.grow5 {w w':World} {tag:Nat→Nat} {s:Rf} {a:Ra} (h:cO 5 w tag s a) (hC:Chg (fun k=>tag k=5) w w'):cO 5 w' (fS w.heap.size 5 tag) s a:=
 ⟨fun _=>ep hC (by decide) (h.e (by decide)),fun _=>ep hC (by decide) (h.v (by decide)),fun _=>ep hC (by decide) (h.x (by decide)),fun _=>ep hC (by decide) (h.m (by decide)),fun _=>ep hC (by decide) (h.n (by decide)),fun e=>absurd rfl e,fun e=>absurd rfl e,fun i hi _=>ep hC (by omega) (h.k i hi (by omega))⟩
theorem sE (q:Rd) (A:Option Addr) (c:Nat) (w:World) (h:IR w A c q.acks) (hl:q.acks.length≤1000000) :
 Rt prog 60 [.agg (rdV (q,A,c)).toArray] w (fun v w'=>(∃ A' c',v=.agg (rdV (q,A',c')).toArray∧w'.ownsRow w.heap.size 3 1 (.slice A' q.acks.length c') q.acks.length (q.acks.map iV))∧ah w w'):=by
 refine enter (n:=10) Tryz.func60 rfl rfl rfl (ak (af (bZ (v:=.agg _) rfl ?_)));intro b1 w1 E1 hb1 hk1;refine bQ jR ?_;intro b2 w2 E2 hb2 hk2;have hg2:w.heap.size≤b2:=by rw [hb2];exact ((ah.rfl_.next E1)).size
 have h12:b1≠b2:=by have:=hk1.lt;omega
 replace hk1:=hk1.from_ E2;refine ai (ag (ak (af (aa (aD (cs:=rdV (q,A,c)) iK fG rfl ((hk1.from_ ah.rfl_).whole)) ?_))));have hM3a:ah _ w2:=ah.rfl_;have hk1p:=hk1.from_ hM3a;have hk2p:=hk2.from_ hM3a;refine bQ jR ?_;intro b3 w3 E3 hb3 hk3;have hg3:w.heap.size≤b3:=by rw [hb3];exact (((ah.rfl_.next E1).next E2)).size
 have hM3:=hM3a.next E3;replace hk1:=hk1.from_ hM3;replace hk2:=hk2.from_ hM3;have h13:b1≠b3:=fun e=>by have h9:=hk1p.lt;omega
 have h23:b2≠b3:=fun e=>by have h9:=hk2p.lt;omega
 refine bK (vs:=[_,_,_,_]) fG rfl rfl (by simp [Value.oneCell']) (hk3) rfl ?_;intro w4 O1 P1;replace hk1:=hk1.only O1 h13;replace hk2:=hk2.only O1 h23;refine ai (ag (ak (af (aa (ab fB rfl) (aa (ar bo rfl (by exact (show _=some (Value.slice A q.acks.length c) from (hk1.from_ ah.rfl_).rd 3 rfl))) ?_)))));have hz7:=(((((ah.rfl_.next E1).next E2).next E3).only O1 (hg3))).size;refine az jE (kY A c q.acks _ (h.from_ ((((ah.rfl_.next E1).next E2).next E3).only O1 (hg3))) hl) ?_;rintro v7 w5 ⟨⟨A7,c7,rfl,ho7⟩,E7⟩;refine aa (ab fB rfl) ?_;have hM8:ah _ w5:=(ah.rfl_.next E7);refine eE (v:=.slice _ _ _) db rfl rfl rfl ((P1.from_ (ah.rfl_.next E7))) (by show _<4;decide) ?_;intro w6 O2 P2;replace hk2:=(hk2.from_ hM8).only O2 h23;replace ho7:=eY ho7 O2 (eS ho7 (P1.from_ hM8) (by decide));refine ai (ag (ak (af (aa (aD (cs:=rdV (q,A7,c7)) iK fG rfl ((P2.from_ ah.rfl_).whole)) ?_))));have hM9:ah _ w6:=ah.rfl_;refine bK (vs:=[_,_,_,_]) fG rfl rfl (by simp [Value.oneCell']) ((hk2.from_ ah.rfl_)) rfl ?_;intro w7 O3 P3;replace ho7:=eY (ho7.kept_from hM9) O3 (eS (ho7.kept_from hM9) (hk2.from_ hM9) (by decide));refine ai (ag (aC (lK rfl (cL (cs:=[_,_,_,_]) iK fG rfl (by exact P3.whole)) ?_)));exact ⟨⟨A7,c7,rfl,ec ho7 hz7⟩,(((((((ah.rfl_.next E1).next E2).next E3).only O1 (hg3)).next E7).only O2 (hg3)).only O3 (hg2))⟩
theorem BC {A A':Option Addr} {n:Nat} (hL:A'.map (·.block)=A.map (·.block)∨A'.map (·.block)=some n):∀ k,A'.map (·.block)=some k→A.map (·.block)=some k∨n≤k:=fun k hk=>by
 rcases hL with e | e
 ·exact .inl (e ▸ hk)
 ·rw [e] at hk;cases hk;exact .inr (Nat.le_refl _)
theorem ri (x:Rd×Option Addr×Nat) (w:World) (h:IR w x.2.1 x.2.2 x.1.acks) (hl:x.1.acks.length≤1000000):Rt prog 60 [.agg (rdV x).toArray] w fun v w'=>(∃ A' c',v=.agg (rdV (x.1,A',c')).toArray∧w'.ownsRow w.heap.size 3 1 (.slice A' x.1.acks.length c') x.1.acks.length (x.1.acks.map iV))∧ah w w':=
 sE x.1 x.2.1 x.2.2 w h hl
theorem rh (s:Rf) (a:Ra) (tag:Nat→Nat) (Q:Option Addr) (Qc:Nat) (LL:List (Rd×Option Addr×Nat)) (w:World) (hg:cO 5 w tag s a) (ha:a.L=[]) (hq:iE 4 rdV w Q LL) (hk:∀ x∈LL,IR w x.2.1 x.2.2 x.1.acks) (hle:∀ x∈LL,x.1.acks.length≤1000000) (hn:LL.length≤1000000) :
 Rt prog 29 [.slice Q LL.length Qc] w (fun v w'=>(∃ tag' Q' c' N,v=.slice Q' LL.length c'∧N.map (fun q=>q.1)=LL.map (fun q=>q.1)∧cO 5 w' tag' s { a with L:=N }∧(∀ k,k<w.heap.size→tag' k=tag k)∧Col tag' 5 Q'∧w'.ownsRow 0 54 4 (.slice Q' LL.length c') LL.length (N.flatMap rdV))∧ah w w'):=by
 refine enter (n:=20) Tryz.func29 rfl rfl rfl (ak (af (ass rfl (ai (ag (ak (af (ass rfl (ai (ag (ak (ak (af (asi rfl (ai (ag (a_ (cY (G:=List (Rd×Option Addr×Nat)×(Nat→Nat)×Option Addr×Nat) [5,6,7,8,9,10,11,12,13,14,15,16,17,18] (fun (N,tg,A3,c3)=>[(3,.slice A3 N.length c3),(4,.int .i64 (N.length:Nat))]) (fun (N,tg,A3,c3) w'=>N.length≤LL.length∧(∀ i (h:i<N.length) (h2:i<LL.length),N[i].1=LL[i].1)∧cO 5 w' tg s { a with L:=N }∧(∀ k,k<w.heap.size→tg k=tag k)∧Col tg 5 A3∧w'.ownsRow w.heap.size 54 4 (.slice A3 N.length c3) N.length (N.flatMap rdV)∧ah w w') (fun (N,_)=>LL.length-N.length) (([],tag,none,0)) ⟨rfl,rfl,trivial⟩ ?_ ?_))))))))))))))))))
 ·exact ⟨Nat.zero_le _,fun i h=>absurd h (Nat.not_lt_zero _),(by rw [←ha];exact hg.from_ ah.rfl_),fun _ _=>rfl,Col.none,World.ownsRow_nil _ _ _ _,ah.rfl_⟩
 rintro ⟨N,tg,A3,c3⟩ ρ1 w1 ⟨hNl,hNe,hgN,htN,hcN,hrN,hBN⟩;refine ak (ak (af (mvi rfl (mvs rfl (aa (bF fy rfl) (aa (cg rfl rfl) (ai (ag (Bn rfl (fun Q2=>?_) (fun Q2=>?_))))))))))
 ·have hNL:N.length<LL.length:=by omega
  obtain ⟨ba,oa,rfl,hca⟩:=hq (by omega);have hkN:=hk _ (List.getElem_mem hNL);have hlN:=hle _ (List.getElem_mem hNL);refine aM (ag (ak (a_ (af (mvs rfl (mvs rfl (mvi rfl (aa (eR gD rfl rfl (by omega)) (aa (aD (cs:=rdV LL[N.length]) iK fG rfl (dT hBN (hca N.length hNL))) ?_)))))))));have hgN9:=hgN.from_ ah.rfl_;have hz16:=(hBN).size;have hrN9:=hrN.kept_from ah.rfl_;refine az uw (ri LL[N.length] _ (hkN.from_ hBN) hlN) ?_;rintro v16 w3 ⟨⟨A16,c16,rfl,ho16⟩,E16⟩;obtain ⟨t16,hg16,ht16,hc16⟩:∃ t,cO 5 w3 t s { a with L:=(N++[(LL[N.length].1,A16,c16)]) }∧(∀ k,k<w.heap.size→t k=tag k)∧Col t 5 A3:=⟨_,hgN9.ack E16 (q:=LL[N.length].1) ho16,fun k hk=>(cW (Nat.lt_of_lt_of_le hk hz16)).trans (htN k hk),hcN.re (fun k hk=>(eN hrN9 k hk).2)⟩;refine lV (l:=[(0,.tmp 16)]) (cells:=(rdV (LL[N.length].1,A16,c16)).toArray) jS rfl rfl (by show Instr.fill _ _ [(0,Value.agg (rdV (LL[N.length].1,A16,c16)).toArray)]=_;kernel_rfl) ?_;intro b17 w4 E17 hb17 hk17;have hM18:ah _ w4:=((ah.rfl_.next E16).next E17);have hB18:ah w w4:=((hBN.next E16).next E17);have hM18:ah _ w4:=((ah.rfl_.next E16).next E17);have hB18:ah w w4:=((hBN.next E16).next E17);have hr18:=hrN.kept_from hM18;refine tr (news:=rdV (LL[N.length].1,A16,c16)) jS rfl (by decide) rfl hr18 hB18.size rfl rfl ⟨b17,0,rfl,hk17.whole⟩ (by simp [rdV,Value.oneCell']) (by omega) (by omega) ?_;intro A18 c18 w5 ho18 hgr18 hL18;obtain ⟨t18,hg18,ht18,hc18⟩:∃ t,cO 5 w5 t s { a with L:=(N++[(LL[N.length].1,A16,c16)]) }∧(∀ k,k<w.heap.size→t k=tag k)∧Col t 5 A18:=⟨_,(hg16.from_ (ah.rfl_.next E17)).grow5 (Chg.of_grown hgr18 (fun q hq=>hc16 q hq)),fun k hk=>(cW (Nat.lt_of_lt_of_le hk hB18.size)).trans (ht16 k hk),hc16.new (fun k hk=>(eN hr18 k hk).2) (BC hL18)⟩;have hF18:ah w w5:=hB18.grew hgr18 (fun k hk=>(eN hr18 k hk).1);refine ass rfl (ai (bN (ag (af (mvi rfl (aa (bW rfl rfl (by omega)) (asi rfl (ai ?_))))))));refine bT (((N++[(LL[N.length].1,A16,c16)]),t18,A18,c18)) ⟨(show Value.slice A18 (N.length+1) c18=Value.slice A18 (N++[(LL[N.length].1,A16,c16)]).length c18 by rw [List.length_append];rfl),bM (by rw [List.length_append,List.length_singleton];omega),trivial⟩ (by (iterate 32 refine bf rfl ?_);exact bB) ⟨?_,?_⟩
  ·have e18:(N++[(LL[N.length].1,A16,c16)]).length=N.length+1:=by rw [List.length_append];rfl
   refine ⟨by omega,fun i h h2=>?_,hg18.from_ ah.rfl_,ht18,hc18,?_,hF18⟩
   ·rcases Nat.lt_or_ge i N.length with e | e
    ·rw [List.getElem_append_left e];exact hNe i e h2
    ·obtain rfl:i=N.length:=by omega
     simp only [List.getElem_append_right (Nat.le_refl _),Nat.sub_self,List.getElem_singleton]
   ·have h9:=ho18.kept_from ah.rfl_;show World.ownsRow _ _ _ _ (.slice A18 (N++[(LL[N.length].1,A16,c16)]).length c18) (N++[(LL[N.length].1,A16,c16)]).length ((N++[(LL[N.length].1,A16,c16)]).flatMap rdV);rw [e18,List.flatMap_append,show [(LL[N.length].1,A16,c16)].flatMap rdV=rdV (LL[N.length].1,A16,c16) from List.append_nil _];exact h9
  ·show LL.length-(N++[_]).length<LL.length-N.length;rw [List.length_append,List.length_singleton];omega
 refine cq (bg (bg (b_ (ag (ak (af (mvs rfl (ass rfl (ai (ag (aC (bw (v:=.slice _ _ _) rfl rfl ?_))))))))))));have hNf:N.length=LL.length:=by omega
 rw [hNf] at hrN;refine ⟨⟨tg,A3,c3,N,by rw [hNf],?_,hgN.from_ ah.rfl_,htN,hcN,ec (hrN.kept_from ah.rfl_) (Nat.zero_le _)⟩,hBN⟩;refine List.ext_getElem (by simp [hNf]) fun i h1 h2=>?_
 simp only [List.getElem_map];exact hNe i (by simpa using h1) (by simpa using h2)
theorem jO (s:Rf) (a:Ra) (w:World) (hrd:fo w s a) (hl:s.votes.length≤1000000∧s.next.length≤1000000∧s.mtch.length≤1000000∧s.sent.length≤1000000∧s.reads.length≤1000000∧∀ q∈s.reads,q.acks.length≤1000000) (hel:s.es.length≤1000000) :
 Rt prog 16 [.agg (rfV s a).toArray] w (fun v w'=>(∃ tag a',v=.agg (rfV s a').toArray∧bm w' tag s a'∧∀ k,k<w.heap.size→tag k=8)∧ah w w'):=by
 obtain ⟨E,Ec,V,Vc,X,Xc,M,Mc,Sn,Sc,Q,Qc,LL⟩:=a;obtain ⟨hl1,hl2,hl3,hl4,hl5,hl6⟩:=hl;have hrL:LL.map (fun q=>q.1)=s.reads:=hrd.r;have hrk:∀ q∈LL,IR w q.2.1 q.2.2 q.1.acks:=hrd.k;have hrq:iE 4 rdV w Q LL:=hrd.q;have hLl:LL.length=s.reads.length:=by rw [←hrL,List.length_map]
 have hqm:LL.length≤1000000:=by omega
 refine enter (n:=30) Tryz.func16 rfl rfl rfl (ak (af (bZ (v:=.agg _) rfl ?_)));intro b1 w1 E1 hb1 hk1;refine bQ dg ?_;intro b2 w2 E2 hb2 hk2;have hg2:w.heap.size≤b2:=by rw [hb2];exact ((ah.rfl_.next E1)).size
 have hlt1:=hk1.lt;replace hk1:=hk1.from_ E2;refine ai (ag (ak (af (aa (aD (cs:=rfV s (⟨E,Ec,V,Vc,X,Xc,M,Mc,Sn,Sc,Q,Qc,LL⟩:Ra)) aP aF rfl (hk1.whole)) (bQ dg ?_)))));intro b3 w3 E3 hb3 hk3;have hg3:w.heap.size≤b3:=by rw [hb3];exact (((ah.rfl_.next E1).next E2)).size
 have hlt2:=hk2.lt;have hlt1b:=hk1.lt;replace hk1:=hk1.from_ E3;replace hk2:=hk2.from_ E3;have h13:b1≠b3:=by omega
 have h23:b2≠b3:=by omega
 have ht0:∀ k,k≤b3→(fun _:Nat=>8) k=8:=fun _ _=>rfl
 refine bK (vs:=[_,_,_,_,_,_,_,_,_,_,_,_,_,_,_,_,_,_,_,_,_,_]) aF rfl rfl (by simp [Value.oneCell']) (hk3) rfl ?_;intro w4 O1 P1;replace hk1:=hk1.only O1 h13;replace hk2:=hk2.only O1 h23;have hx1:Blk w4 b3 29 (rfV s (⟨E,Ec,V,Vc,X,Xc,M,Mc,Sn,Sc,Q,Qc,LL⟩:Ra)++[]).toArray:=P1;refine ai (ag (ak (af (aa (ab bj rfl) (aa (aD (cs:=[.int .i64 s.b,.int .i64 s.t,.slice E s.es.length Ec]) aY aL rfl (iM (show Blk _ b1 29 (rfV s (⟨E,Ec,V,Vc,X,Xc,M,Mc,Sn,Sc,Q,Qc,LL⟩:Ra)++[]).toArray from hk1.from_ ah.rfl_))) ?_)))));have hN7:ah _ w4:=ah.rfl_;have hx1n:=hx1.from_ hN7;have hlt7:=hx1n.lt;replace hk1:=hk1.from_ ah.rfl_;replace hk2:=hk2.from_ ah.rfl_;have hf0n:bm w4 (fun _=>8) ({ s with es:=[],votes:=[],next:=[],mtch:=[],sent:=[],reads:=[] }:Rf) a0:=bm.same bm.zero rfl rfl rfl rfl rfl rfl;refine az kA (l_ s.b s.t E s.es.length Ec s.es _ (hrd.e.from_ ((((ah.rfl_.next E1).next E2).next E3).only O1 (hg3))) (by omega)) ?_;rintro v7 w5 ⟨A7,c7,rfl,ho7,_,E7⟩;obtain ⟨tag1,hf1,ht1⟩:∃ t,bm w5 t ({ s with es:=s.es,votes:=[],next:=[],mtch:=[],sent:=[],reads:=[] }:Rf) (⟨A7,c7,none,0,none,0,none,0,none,0,none,0,[]⟩:Ra)∧(∀ k,k≤b3→t k=8):=⟨_,cO.log (bm.but (c:=0) hf0n (ah.toChg E7)) s.b s.t rfl (ec ho7 (Nat.zero_le _)) (fun k hk=>dQ (eN ho7 k hk).1),fun k hk=>(cW (by omega)).trans (ht0 k hk)⟩;replace hx1n:=hx1n.from_ E7;replace hk1:=hk1.from_ E7;replace hk2:=hk2.from_ E7;refine aa (ab bj rfl) ?_;have hS1:ah _ w5:=ah.rfl_;have hB1:ah w w5:=(((((ah.rfl_.next E1).next E2).next E3).only O1 (hg3)).next E7);refine m_ (s:=s) (a:=(⟨E,Ec,V,Vc,X,Xc,M,Mc,Sn,Sc,Q,Qc,LL⟩:Ra)) (R:=[]) (b:=s.b) (t9:=s.t) (es:=s.es) rfl aL rfl rfl (hx1n.from_ hS1) ?_;intro w6 O1_0 P1_0;have hx2:Blk w6 b3 29 (rfV s (⟨A7,c7,V,Vc,X,Xc,M,Mc,Sn,Sc,Q,Qc,LL⟩:Ra)++[]).toArray:=P1_0;replace hf1:=(hf1.from_ hS1).chg8 (O1_0.toChg rfl) (ht1 b3 (Nat.le_refl _));replace hk1:=(hk1.from_ hS1).only O1_0 h13;replace hk2:=(hk2.from_ hS1).only O1_0 h23;refine ai (ag (ak (af (aa (ab de rfl) (aa (ar bo rfl (by exact (show _=some (Value.slice V s.votes.length Vc) from (hk1.from_ ah.rfl_).rd 14 rfl))) ?_)))));have hN11:ah _ w6:=ah.rfl_;have hx2n:=hx2.from_ hN11;have hlt11:=hx2n.lt;replace hk1:=hk1.from_ ah.rfl_;replace hk2:=hk2.from_ ah.rfl_;have hf1n:=hf1.from_ hN11;refine az jE (kY V Vc s.votes _ (IR.from_ hrd.v (hB1.only O1_0 hg3)) hl1) ?_;rintro v11 w7 ⟨⟨A11,c11,rfl,ho11⟩,E11⟩;obtain ⟨tag2,hf2,ht2⟩:∃ t,bm w7 t ({ s with es:=s.es,votes:=s.votes,next:=[],mtch:=[],sent:=[],reads:=[] }:Rf) (⟨A7,c7,A11,c11,none,0,none,0,none,0,none,0,[]⟩:Ra)∧(∀ k,k≤b3→t k=8):=⟨_,cO.votes (bm.but (c:=1) hf1n (ah.toChg E11)) rfl (ec ho11 (Nat.zero_le _)) (fun k hk=>dQ (eN ho11 k hk).1),fun k hk=>(cW (by omega)).trans (ht1 k hk)⟩;replace hx2n:=hx2n.from_ E11;replace hk1:=hk1.from_ E11;replace hk2:=hk2.from_ E11;refine aa (ab de rfl) ?_;have hS2:ah _ w7:=ah.rfl_;refine cK (s':=s) (a':=(⟨A7,c7,A11,c11,X,Xc,M,Mc,Sn,Sc,Q,Qc,LL⟩:Ra)) (v:=.slice _ _ _) db rfl rfl rfl ((hx2n.from_ hS2)) (by exact ⟨by decide,rfl⟩) ?_;intro w8 O2_0 P2_0;have hx3:Blk w8 b3 29 (rfV s (⟨A7,c7,A11,c11,X,Xc,M,Mc,Sn,Sc,Q,Qc,LL⟩:Ra)++[]).toArray:=P2_0;replace hf2:=(hf2.from_ hS2).chg8 (O2_0.toChg rfl) (ht2 b3 (Nat.le_refl _));replace hk1:=(hk1.from_ hS2).only O2_0 h13;replace hk2:=(hk2.from_ hS2).only O2_0 h23;refine ai (ag (ak (af (aa (ab cS rfl) (aa (ar bo rfl (by exact (show _=some (Value.slice X s.next.length Xc) from (hk1.from_ ah.rfl_).rd 15 rfl))) ?_)))));have hN15:ah _ w8:=ah.rfl_;have hx3n:=hx3.from_ hN15;have hlt15:=hx3n.lt;replace hk1:=hk1.from_ ah.rfl_;replace hk2:=hk2.from_ ah.rfl_;have hf2n:=hf2.from_ hN15;refine az jE (kY X Xc s.next _ (IR.from_ hrd.x (((hB1.only O1_0 hg3).next E11).only O2_0 (hg3))) hl2) ?_;rintro v15 w9 ⟨⟨A15,c15,rfl,ho15⟩,E15⟩;obtain ⟨tag3,hf3,ht3⟩:∃ t,bm w9 t ({ s with es:=s.es,votes:=s.votes,next:=s.next,mtch:=[],sent:=[],reads:=[] }:Rf) (⟨A7,c7,A11,c11,A15,c15,none,0,none,0,none,0,[]⟩:Ra)∧(∀ k,k≤b3→t k=8):=⟨_,cO.next (bm.but (c:=2) hf2n (ah.toChg E15)) rfl (ec ho15 (Nat.zero_le _)) (fun k hk=>dQ (eN ho15 k hk).1),fun k hk=>(cW (by omega)).trans (ht2 k hk)⟩;replace hx3n:=hx3n.from_ E15;replace hk1:=hk1.from_ E15;replace hk2:=hk2.from_ E15;refine aa (ab cS rfl) ?_;have hS3:ah _ w9:=ah.rfl_;refine cK (s':=s) (a':=(⟨A7,c7,A11,c11,A15,c15,M,Mc,Sn,Sc,Q,Qc,LL⟩:Ra)) (v:=.slice _ _ _) db rfl rfl rfl ((hx3n.from_ hS3)) (by exact ⟨by decide,rfl⟩) ?_;intro w10 O3_0 P3_0;have hx4:Blk w10 b3 29 (rfV s (⟨A7,c7,A11,c11,A15,c15,M,Mc,Sn,Sc,Q,Qc,LL⟩:Ra)++[]).toArray:=P3_0;replace hf3:=(hf3.from_ hS3).chg8 (O3_0.toChg rfl) (ht3 b3 (Nat.le_refl _));replace hk1:=(hk1.from_ hS3).only O3_0 h13;replace hk2:=(hk2.from_ hS3).only O3_0 h23;refine ai (ag (ak (af (aa (ab c_ rfl) (aa (ar bo rfl (by exact (show _=some (Value.slice M s.mtch.length Mc) from (hk1.from_ ah.rfl_).rd 16 rfl))) ?_)))));have hN19:ah _ w10:=ah.rfl_;have hx4n:=hx4.from_ hN19;have hlt19:=hx4n.lt;replace hk1:=hk1.from_ ah.rfl_;replace hk2:=hk2.from_ ah.rfl_;have hf3n:=hf3.from_ hN19;refine az jE (kY M Mc s.mtch _ (IR.from_ hrd.m (((((hB1.only O1_0 hg3).next E11).only O2_0 (hg3)).next E15).only O3_0 (hg3))) hl3) ?_;rintro v19 w11 ⟨⟨A19,c19,rfl,ho19⟩,E19⟩;obtain ⟨tag4,hf4,ht4⟩:∃ t,bm w11 t ({ s with es:=s.es,votes:=s.votes,next:=s.next,mtch:=s.mtch,sent:=[],reads:=[] }:Rf) (⟨A7,c7,A11,c11,A15,c15,A19,c19,none,0,none,0,[]⟩:Ra)∧(∀ k,k≤b3→t k=8):=⟨_,cO.mtch (bm.but (c:=3) hf3n (ah.toChg E19)) rfl (ec ho19 (Nat.zero_le _)) (fun k hk=>dQ (eN ho19 k hk).1),fun k hk=>(cW (by omega)).trans (ht3 k hk)⟩;replace hx4n:=hx4n.from_ E19;replace hk1:=hk1.from_ E19;replace hk2:=hk2.from_ E19;refine aa (ab c_ rfl) ?_;have hS4:ah _ w11:=ah.rfl_;refine cK (s':=s) (a':=(⟨A7,c7,A11,c11,A15,c15,A19,c19,Sn,Sc,Q,Qc,LL⟩:Ra)) (v:=.slice _ _ _) db rfl rfl rfl ((hx4n.from_ hS4)) (by exact ⟨by decide,rfl⟩) ?_;intro w12 O4_0 P4_0;have hx5:Blk w12 b3 29 (rfV s (⟨A7,c7,A11,c11,A15,c15,A19,c19,Sn,Sc,Q,Qc,LL⟩:Ra)++[]).toArray:=P4_0;replace hf4:=(hf4.from_ hS4).chg8 (O4_0.toChg rfl) (ht4 b3 (Nat.le_refl _));replace hk1:=(hk1.from_ hS4).only O4_0 h13;replace hk2:=(hk2.from_ hS4).only O4_0 h23;refine ai (ag (ak (af (aa (ab df rfl) (aa (ar bo rfl (by exact (show _=some (Value.slice Sn s.sent.length Sc) from (hk1.from_ ah.rfl_).rd 17 rfl))) ?_)))));have hN23:ah _ w12:=ah.rfl_;have hx5n:=hx5.from_ hN23;have hlt23:=hx5n.lt;replace hk1:=hk1.from_ ah.rfl_;replace hk2:=hk2.from_ ah.rfl_;have hf4n:=hf4.from_ hN23;refine az jE (kY Sn Sc s.sent _ (IR.from_ hrd.n (((((((hB1.only O1_0 hg3).next E11).only O2_0 (hg3)).next E15).only O3_0 (hg3)).next E19).only O4_0 (hg3))) hl4) ?_;rintro v23 w13 ⟨⟨A23,c23,rfl,ho23⟩,E23⟩;obtain ⟨tag5,hf5,ht5⟩:∃ t,bm w13 t ({ s with es:=s.es,votes:=s.votes,next:=s.next,mtch:=s.mtch,sent:=s.sent,reads:=[] }:Rf) (⟨A7,c7,A11,c11,A15,c15,A19,c19,A23,c23,none,0,[]⟩:Ra)∧(∀ k,k≤b3→t k=8):=⟨_,cO.sent (bm.but (c:=4) hf4n (ah.toChg E23)) rfl (ec ho23 (Nat.zero_le _)) (fun k hk=>dQ (eN ho23 k hk).1),fun k hk=>(cW (by omega)).trans (ht4 k hk)⟩;replace hx5n:=hx5n.from_ E23;replace hk1:=hk1.from_ E23;replace hk2:=hk2.from_ E23;refine aa (ab df rfl) ?_;have hS5:ah _ w13:=ah.rfl_;refine cK (s':=s) (a':=(⟨A7,c7,A11,c11,A15,c15,A19,c19,A23,c23,Q,Qc,LL⟩:Ra)) (v:=.slice _ _ _) db rfl rfl rfl ((hx5n.from_ hS5)) (by exact ⟨by decide,rfl⟩) ?_;intro w14 O5_0 P5_0;have hx6:Blk w14 b3 29 (rfV s (⟨A7,c7,A11,c11,A15,c15,A19,c19,A23,c23,Q,Qc,LL⟩:Ra)++[]).toArray:=P5_0;replace hf5:=(hf5.from_ hS5).chg8 (O5_0.toChg rfl) (ht5 b3 (Nat.le_refl _));replace hk1:=(hk1.from_ hS5).only O5_0 h13;replace hk2:=(hk2.from_ hS5).only O5_0 h23;refine ai (ag (ak (af (aa (ab cl rfl) (aa (ar ea rfl (by exact (show _=some (Value.slice Q LL.length Qc) from (hk1.from_ ah.rfl_).rd 19 rfl))) ?_)))));have hN27:ah _ w14:=ah.rfl_;have hx6n:=hx6.from_ hN27;have hlt27:=hx6n.lt;replace hk1:=hk1.from_ ah.rfl_;replace hk2:=hk2.from_ ah.rfl_;have hf5n:=bm.but (c:=5) (hf5.from_ hN27) ah.rfl_.toChg;refine az ux (rh ({ s with es:=s.es,votes:=s.votes,next:=s.next,mtch:=s.mtch,sent:=s.sent,reads:=[] }:Rf) (⟨A7,c7,A11,c11,A15,c15,A19,c19,A23,c23,none,0,[]⟩:Ra) _ Q Qc LL _ hf5n rfl (hrq.from_ (((((((((hB1.only O1_0 hg3).next E11).only O2_0 (hg3)).next E15).only O3_0 (hg3)).next E19).only O4_0 (hg3)).next E23).only O5_0 (hg3))) (fun x hx=>(hrk x hx).from_ (((((((((hB1.only O1_0 hg3).next E11).only O2_0 (hg3)).next E15).only O3_0 (hg3)).next E19).only O4_0 (hg3)).next E23).only O5_0 (hg3))) (fun x hx=>hl6 _ (by rw [←hrL];exact List.mem_map_of_mem hx)) hqm) ?_;rintro v27 w15 ⟨⟨tag6,A27,c27,N,rfl,hNe,hg6,ht6a,hc6,hr6⟩,E27⟩;have ht6:∀ k,k≤b3→tag6 k=8:=fun k hk=>(ht6a k (by omega)).trans ((cW (by omega)).trans (ht5 k hk))
 replace hx6n:=hx6n.from_ E27;replace hk2:=hk2.from_ E27;have hfin:=cO.reads hg6 (A:=A27) (c:=c27) (n:=LL.length) (by have h9:=congrArg List.length hNe;rw [List.length_map,List.length_map] at h9;exact h9.symm) hr6 hc6;rw [show ({ (⟨A7,c7,A11,c11,A15,c15,A19,c19,A23,c23,none,0,[]⟩:Ra) with L:=N }:Ra).L=N from rfl,hNe,hrL] at hfin;refine aa (ab cl rfl) ?_;have hS6:ah _ w15:=ah.rfl_;refine cK (s':=s) (a':=(⟨A7,c7,A11,c11,A15,c15,A19,c19,A23,c23,A27,c27,LL⟩:Ra)) (v:=.slice _ _ _) jy rfl rfl rfl ((hx6n.from_ hS6)) (by exact ⟨by decide,rfl⟩) ?_;intro w16 O6_0 P6_0;have hx7:Blk w16 b3 29 (rfV s (⟨A7,c7,A11,c11,A15,c15,A19,c19,A23,c23,A27,c27,LL⟩:Ra)++[]).toArray:=P6_0;replace hfin:=(hfin.from_ hS6).chg8 (O6_0.toChg rfl) (ht6 b3 (Nat.le_refl _));replace hk2:=(hk2.from_ hS6).only O6_0 h23;refine ai (ag (ak (af (aa (aD (cs:=rfV s (⟨A7,c7,A11,c11,A15,c15,A19,c19,A23,c23,A27,c27,LL⟩:Ra)) aP aF rfl (ng (hx7.from_ ah.rfl_))) ?_))));have hM8:ah _ w16:=ah.rfl_;refine bK (vs:=[_,_,_,_,_,_,_,_,_,_,_,_,_,_,_,_,_,_,_,_,_,_]) aF rfl rfl (by simp [Value.oneCell']) ((hk2.from_ ah.rfl_)) rfl ?_;intro w17 O8 P8;refine ai (ag (aC (lK rfl (cL (cs:=[_,_,_,_,_,_,_,_,_,_,_,_,_,_,_,_,_,_,_,_,_,_]) aP aF rfl (by exact P8.whole)) ?_)));refine ⟨⟨tag6,(⟨A7,c7,A11,c11,A15,c15,A19,c19,A23,c23,A27,c27,N⟩:Ra),?_,(hfin.from_ hM8).chg8 (O8.toChg rfl) (ht6 b2 (by omega)),fun k hk=>ht6 k (by omega)⟩,((((((((((((hB1.only O1_0 hg3).next E11).only O2_0 (hg3)).next E15).only O3_0 (hg3)).next E19).only O4_0 (hg3)).next E23).only O5_0 (hg3)).next E27).only O6_0 (hg3)).only O8 (hg2))⟩;show Value.agg (rfV s (⟨A7,c7,A11,c11,A15,c15,A19,c19,A23,c23,A27,c27,LL⟩:Ra)).toArray=Value.agg (rfV s (⟨A7,c7,A11,c11,A15,c15,A19,c19,A23,c23,A27,c27,N⟩:Ra)).toArray;have h9:=congrArg List.length hNe;rw [List.length_map,List.length_map] at h9;unfold rfV;simp only [h9]
theorem fQ:prog.built 29 []=some #[.int .i64 0,.int .i64 0,.int .i64 0,.int .i64 0,.int .i64 0,.int .i64 0,.int .i64 0,.int .i64 0,.slice none 0 0,.string ⟨#[]⟩,.int .i64 0,.int .i64 0,.int .i64 0,.int .u64 0,.slice none 0 0,.slice none 0 0,.slice none 0 0,.slice none 0 0,.int .i64 0,.slice none 0 0,.string ⟨#[]⟩,.int .i64 0]:=by kernel_rfl
theorem nz:∀ (a0:Int) (a1:Int) (a2:Int),prog.built 29 [(0,.int .i64 a0),(1,.int .i64 a1),(11,.int .u64 a2)]=some #[.int .i64 a0,.int .i64 a1,.int .i64 0,.int .i64 0,.int .i64 0,.int .i64 0,.int .i64 0,.int .i64 0,.slice none 0 0,.string ⟨#[]⟩,.int .i64 0,.int .i64 0,.int .i64 0,.int .u64 a2,.slice none 0 0,.slice none 0 0,.slice none 0 0,.slice none 0 0,.int .i64 0,.slice none 0 0,.string ⟨#[]⟩,.int .i64 0]:=by intros;kernel_rfl
theorem sL:∀ (a0:Int) (a1:Int) (a2:Int) (a3:Int) (a4:Int) (a5:Int) (a6:Int) (a7:Int) (a8:Option Addr) (a9 a10:Nat) (a11:ByteArray) (a12:Int) (a13:Int) (a14:Int) (a15:Int) (a16:Option Addr) (a17 a18:Nat) (a19:Option Addr) (a20 a21:Nat) (a22:Option Addr) (a23 a24:Nat) (a25:Option Addr) (a26 a27:Nat) (a28:Int) (a29:Option Addr) (a30 a31:Nat) (a32:ByteArray) (a33:Int),prog.built 91 [(0,.agg #[.int .i64 a0,.int .i64 a1,.int .i64 a2,.int .i64 a3,.int .i64 a4,.int .i64 a5,.int .i64 a6,.int .i64 a7,.slice a8 a9 a10,.string a11,.int .i64 a12,.int .i64 a13,.int .i64 a14,.int .u64 a15,.slice a16 a17 a18,.slice a19 a20 a21,.slice a22 a23 a24,.slice a25 a26 a27,.int .i64 a28,.slice a29 a30 a31,.string a32,.int .i64 a33])]=some #[.int .i64 a0,.int .i64 a1,.int .i64 a2,.int .i64 a3,.int .i64 a4,.int .i64 a5,.int .i64 a6,.int .i64 a7,.slice a8 a9 a10,.string a11,.int .i64 a12,.int .i64 a13,.int .i64 a14,.int .u64 a15,.slice a16 a17 a18,.slice a19 a20 a21,.slice a22 a23 a24,.slice a25 a26 a27,.int .i64 a28,.slice a29 a30 a31,.string a32,.int .i64 a33]:=by intros;kernel_rfl
theorem lF:aN prog 55=true:=by kernel_rfl
theorem vX:aN prog 56=true:=by kernel_rfl
theorem ly {P:Program} {n:Fr} {L:List (Nat×Value)} {w:World} {t:TypeId} {x y:Operand} {g:Nat} {u:TypeId} {cs:Array Value} {vs:List Value} (ht:ef P t=some vs.length) (hx:ev n L x=.pointer (some ⟨g,0,none⟩)) (hy:ev n L y=.agg vs.toArray) (h1:∀ v∈vs,v.oneCell'=true) (hb:Blk w g u cs) (hi:vs.length=cs.size) :
 ∃ w',RS P (ev n L) (.store t x y) w w'∧e_ g w w'∧Blk w' g u vs.toArray:=by
 have hb':Blk w g u cs.toList.toArray:=by simpa using hb
 refine ⟨_,nb ht hx hy h1 (hb'.there 0 vs.length (by simp;omega)),e_.sets vs 0 w,?_⟩;have:=Blk.sets vs 0 hb' (by simp;omega)
 rwa [sd cs.toList vs (by simp;omega)] at this
theorem jW {w w':World} {T g:Nat} {p:Sp} (h:aZ w (fun k=>k<w.heap.size) w' T g p):ah w w':=
 ⟨h.fr.os,h.fr.tape,h.fr.output,h.fr.size,fun k hk=>h.fr.block k hk fun e=>e hk⟩
def zH (w w':World) (p:Sp) (v:Value):Prop:=∃ tag a O oc L,v=.tuple #[.agg (rfV p.s a).toArray,.slice O L.length oc,.int .i64 0]∧bm w' tag p.s a∧eI w' tag p.out O oc L∧∀ k,k<w.heap.size→tag k=8
theorem zH.mk_ {w w1 w':World} {T g oc:Nat} {tag:Nat→Nat} {p:Sp} {a:Ra} {O:Option Addr} {L:List Msg} {Z:Nat→Prop} (hs:gZ w1 Z T g tag p a O oc L) (hz:∀ k,k<w.heap.size→Z k) (hC:Chg (fun k=>Z k) w1 w'):zH w w' p (.tuple #[.agg (rfV p.s a).toArray,.slice O L.length oc,.int .i64 0]):=by
 have ne:∀ {d:Nat} {A:Option Addr},d≠8→Col tag d A→∀ k,A.map (·.block)=some k→¬ Z k:=fun hd hc k hk e=>hd ((hc k hk).symm.trans (hs.z k e))
 have mv:∀ {d e s n cc:Nat} {A:Option Addr} {xs:List Value},d≠8→w1.ownsRow 0 e s (.slice A n cc) n xs∧Col tag d A→w'.ownsRow 0 e s (.slice A n cc) n xs∧Col tag d A:=fun hd h=>⟨eJ h.1 hC (ne hd h.2),h.2⟩
 refine ⟨tag,a,O,oc,L,rfl,⟨fun hx=>mv (by decide) (hs.f.e hx),fun hx=>mv (by decide) (hs.f.v hx),fun hx=>mv (by decide) (hs.f.x hx),fun hx=>mv (by decide) (hs.f.m hx),fun hx=>mv (by decide) (hs.f.n hx),hs.f.r,fun hx=>mv (by decide) (hs.f.q hx),fun i hi hx=>mv (by omega) (hs.f.k i hi hx)⟩,⟨(mv (d:=6) (by decide) ⟨hs.m.o,hs.m.c⟩).1,hs.m.l,fun j hj=>mv (by omega) (hs.m.e j hj),hs.m.c⟩,fun k hk=>hs.z k (hz k hk)⟩
def oh (id n:Int):Prop:=(1≤n∧n≤7)∧(1≤id∧id≤n)
instance (id n:Int):Decidable (oh id n):=by unfold oh;exact inferInstance
theorem y7 (id n seed:Int) (w:World) :
 Rt prog 21 [.int .i64 id,.int .i64 n,.int .u64 seed] w (fun v w'=>((oh id n∧v=.tuple #[.agg (rfV (sh id n seed) a0).toArray,.int .i64 0])∨(¬ oh id n∧v=.tuple #[.agg (rfV zR a0).toArray,.int .i64 1]))∧ah w w'):=by
 refine enter (n:=29) Tryz.func21 rfl rfl rfl (ak (af (bQ dg ?_)));intro b6 w1 E6 hb6 hk6;have hg6:w.heap.size≤b6:=Nat.le_of_eq hb6.symm;refine asi rfl (ai (ag (ak (ak (af (mvi rfl (fq (v:=.int _ _) cj rfl rfl rfl ?_)))))));intro b10 w2 E10 hb10 hk10;refine az dH (eO 1 7 (some ⟨b10,0,none⟩) 1 [n] _ (gp hk10) (by simp)) ?_;rintro v11 w3 ⟨rfl,rfl⟩;refine aa (cn rfl) (mvb rfl (aJ (t:=13) rfl (fun Q4=>?_) (fun Q4=>?_)))
 ·with_reducible (replace Q4:=dF Q4;replace Q4:=dF_ Q4)
  (try simp only [bp,bG,and_true] at Q4)
  refine an rfl rfl (an rfl rfl (an rfl rfl (an rfl rfl (an rfl rfl (aa (aG (v:=.bool _) rfl rfl) (ai (ag (aR rfl (ak (af ?_))))))))));refine aa (cy (l:=[]) (fQ)) (bK (vs:=[_,_,_,_,_,_,_,_,_,_,_,_,_,_,_,_,_,_,_,_,_,_]) aF rfl rfl (by simp [Value.oneCell']) ((hk6.from_ (ah.rfl_.next E10))) rfl ?_);intro w5 O2 P2;refine asi rfl (ai (ag (aC (aE (o5 rfl (cL (cs:=[_,_,_,_,_,_,_,_,_,_,_,_,_,_,_,_,_,_,_,_,_,_]) aP aF rfl (by first | exact P5.whole | exact P2.whole)) (da (v:=.int _ _) rfl) ?_)))));exact ⟨.inr ⟨by unfold oh;omega,rfl⟩,(((ah.rfl_.next E6).next E10).only O2 (hg6))⟩
 with_reducible (replace Q4:=dG Q4;replace Q4:=dT_ Q4)
 (try simp only [bp,bG,and_true] at Q4)
 refine ae rfl (mvi rfl (ae rfl (mvi rfl (ae rfl (fq (v:=.int _ _) cj rfl rfl rfl ?_)))));intro b16 w6 E16 hb16 hk16;refine ae rfl (az dH (eO 1 n (some ⟨b16,0,none⟩) 1 [id] _ (gp hk16) (by simp)) ?_);rintro v17 w7 ⟨rfl,rfl⟩;refine ae rfl (aa (cn rfl) (aa (av (v:=.bool _) rfl rfl) (ai (ag (aQ rfl (fun Q8=>?_) (fun Q8=>?_))))))
 ·with_reducible (replace Q8:=dF Q8;replace Q8:=dF_ Q8)
  (try simp only [bp,bG,and_true] at Q8)
  refine ak (af (aa (cy (l:=[]) (fQ)) (bK (vs:=[_,_,_,_,_,_,_,_,_,_,_,_,_,_,_,_,_,_,_,_,_,_]) aF rfl rfl (by simp [Value.oneCell']) ((hk6.from_ ((ah.rfl_.next E10).next E16))) rfl ?_)));intro w9 O2 P2;refine asi rfl (ai (ag (aC (aE (o5 rfl (cL (cs:=[_,_,_,_,_,_,_,_,_,_,_,_,_,_,_,_,_,_,_,_,_,_]) aP aF rfl (by first | exact P5.whole | exact P2.whole)) (da (v:=.int _ _) rfl) ?_)))));exact ⟨.inr ⟨by unfold oh;omega,rfl⟩,((((ah.rfl_.next E6).next E10).next E16).only O2 (hg6))⟩
 with_reducible (replace Q8:=dG Q8;replace Q8:=dT_ Q8)
 (try simp only [bp,bG,and_true] at Q8)
 refine aM (ag (ak (af (mvi rfl (mvi rfl (mvi rfl (aa (cy (l:=[(0,.tmp 21),(1,.tmp 22),(11,.tmp 23)]) (nz _ _ _)) (aa (cy (l:=[(0,.tmp 24)]) (sL _ _ _ _ _ _ _ _ _ _ _ _ _ _ _ _ _ _ _ _ _ _ _ _ _ _ _ _ _ _ _ _ _ _)) ?_))))))));have hM8:ah _ w6:=((ah.rfl_.next E10).next E16);have hz8:=((((ah.rfl_.next E6).next E10).next E16)).size;refine bQ oe ?_;intro b8 w10 E8 hb8 hk8;have hg8:w.heap.size≤b8:=by omega
 have hk6b:=hk6.from_ (hM8.next E8);have h68:b6≠b8:=by have:=(hk6.from_ hM8).lt;omega
 refine bK (vs:=[_,_,_,_,_,_,_,_,_,_,_,_,_,_,_,_,_,_,_,_,_,_]) lq rfl rfl (by simp [Value.oneCell']) (hk8) rfl ?_;intro w11 O3 P3;have hb8:Blk w11 b8 91 (rfV ({ zR with id:=id,nodes:=n,seed:=seed }:Rf) a0++[]).toArray:=P3;have hk6c:=hk6b.only O3 h68;refine ai (ag (ak (af ?_)));have hB8:ah w w11:=(((((ah.rfl_.next E6).next E10).next E16).next E8).only O3 (hg8));refine az lp (rf 91 b8 { zR with id:=id,nodes:=n,seed:=seed } a0 [] _ hb8) ?_;rintro v26 w12 ⟨rfl,hb26,hC26⟩;have hk6d:=hk6c.chg hC26 h68;refine ai (ag (ak (af (aa (ab aB rfl) (aa (aD (cs:=rfV (sh id n seed) a0) aP aF rfl (ng (hb26.from_ ah.rfl_))) (bK (vs:=[_,_,_,_,_,_,_,_,_,_,_,_,_,_,_,_,_,_,_,_,_,_]) aF rfl rfl (by simp [Value.oneCell']) ((hk6d.from_ ah.rfl_)) rfl ?_))))));intro w13 O5 P5;refine asi rfl (ai (ag (aC (o5 rfl (cL (cs:=[_,_,_,_,_,_,_,_,_,_,_,_,_,_,_,_,_,_,_,_,_,_]) aP aF rfl (by first | exact P5.whole | exact P2.whole)) (da (v:=.int _ _) rfl) ?_))));exact ⟨.inl ⟨by unfold oh;omega,rfl⟩,((hB8.chg hC26 (fun k hk=>by rw [show k=b8 from hk];exact hg8)).only O5 (hg6))⟩
theorem wB (s:Rf) (a:Ra) (w:World) (hrd:fo w s a) (hl:s.votes.length≤1000000∧s.next.length≤1000000∧s.mtch.length≤1000000∧s.sent.length≤1000000∧s.reads.length≤1000000∧∀ q∈s.reads,q.acks.length≤1000000) (hel:s.es.length≤1000000) (hm:iB s=true) :
 Rt prog 23 [.agg (rfV s a).toArray] w (fun v w'=>zH w w' (iP s) v∧ah w w'):=by
 refine enter (n:=27) Tryz.func23 rfl rfl rfl (ak (af (bZ (v:=.agg _) rfl ?_)));intro b1 w1 E1 hb1 hk1;refine bQ dg ?_;intro b2 w2 E2 hb2 hk2;have hg2:w.heap.size≤b2:=by rw [hb2];exact ((ah.rfl_.next E1)).size
 refine ass rfl (asi rfl (ai (ag (ak (af (aa (aD (cs:=rfV s a) aP aF rfl (((hk1.from_ E2).from_ ah.rfl_).whole)) ?_))))));have hB9:ah w w2:=((ah.rfl_.next E1).next E2);have hk2b:=hk2.from_ ah.rfl_;have hlt2:=hk2b.lt;refine az lF (pD s a _ (hrd.from_ ((ah.rfl_.next E1).next E2)) hl hel hm) ?_;rintro v9 w3 ⟨g,rfl,h9⟩;refine mvt rfl (aa (aO rfl rfl) (aa (aO rfl rfl) (asp rfl (asi rfl (ai (ag (ak (ak (af (mvi rfl (aa (c8 (dp rfl rfl) rfl) (ai (ag ?_)))))))))))));refine bA rfl (aM (ag (ak (af (mvp rfl (az vX (yG _ _ 96 g s _ (h9.from_ ah.rfl_) (nq hm)) ?_))))));rintro v17 w4 ⟨rfl,h17⟩;obtain ⟨tag9,a9,O9,oc9,L9,hs9⟩:=h17.ex;have hF17:=jW h17;have hk2c:=hk2b.from_ hF17;have hz9:=hB9.size;have hBq:ah w w4:=(hB9.next (jW h17));have hn2:b2≠g:=fun e=>by have h1:=hs9.z b2 hlt2;rw [e,hs9.gc] at h1;cases h1
 replace hn2:=hn2.symm;refine ai (ag (ak ?_));have hU5:k9 [(0,18,.pointer (some ⟨g,0,none⟩)),(1,19,.pointer (some ⟨g,0,none⟩)),(2,20,.pointer (some ⟨g,0+0,none⟩)),(3,21,.pointer (some ⟨g,0+0+0,none⟩)),(4,22,.agg (rfV (iP s).s a9).toArray),(5,23,.pointer (some ⟨g,0,none⟩)),(6,24,.pointer (some ⟨g,0,none⟩)),(7,25,.pointer (some ⟨g,0+22,none⟩)),(8,26,.slice O9 L9.length oc9),(10,3,.slice O9 L9.length oc9),(11,4,.int .i64 0)]:=by simp [k9]
 refine mL [(0,18,.pointer (some ⟨g,0,none⟩)),(1,19,.pointer (some ⟨g,0,none⟩)),(2,20,.pointer (some ⟨g,0+0,none⟩)),(3,21,.pointer (some ⟨g,0+0+0,none⟩)),(4,22,.agg (rfV (iP s).s a9).toArray),(5,23,.pointer (some ⟨g,0,none⟩)),(6,24,.pointer (some ⟨g,0,none⟩)),(7,25,.pointer (some ⟨g,0+22,none⟩)),(8,26,.slice O9 L9.length oc9),(10,3,.slice O9 L9.length oc9),(11,4,.int .i64 0)] (fun S w'=>Blk w' g 96 ((rfV (iP s).s a9)++[Value.slice O9 L9.length oc9]).toArray∧(∃ cs:Array Value,cs.size=22∧Blk w' b2 29 cs∧(S 9=true→cs=(rfV (iP s).s a9).toArray))∧Chg (fun k=>k=b2) w4 w') (by kernel_rfl) (by kernel_rfl) hU5 (by simp) (⟨(hs9.b.from_ ah.rfl_).from_ ah.rfl_.d1,⟨_,rfl,(hk2c.from_ ah.rfl_).from_ ah.rfl_.d1,fun h=>(by cases h)⟩,ah.rfl_.d1.toChg⟩) ?_ ?_
 ·constructor
  ·rintro S L' wS hI hM hS0 ⟨-⟩;have e5:=hI.1 5 (by simp);have hM':=hM;obtain ⟨hgB,⟨cs9,hs9z,hq9,hqe⟩,hC9⟩:=hM';exact b0 (aK e5) ⟨hI.put hU5 (.head _),hM⟩
  constructor
  ·rintro S L' wS hI hM hS0 ⟨d0,-⟩;have e18:bI L' 18=.pointer (some ⟨g,0,none⟩):=hI.get (i:=0) (.head _) d0;have hM':=hM;obtain ⟨hgB,⟨cs9,hs9z,hq9,hqe⟩,hC9⟩:=hM';exact b0 (aw e18) ⟨hI.put hU5 (.tail _ (.head _)),hM⟩
  constructor
  ·rintro S L' wS hI hM hS0 ⟨d1,-⟩;have e19:bI L' 19=.pointer (some ⟨g,0,none⟩):=hI.get (i:=1) (.tail _ (.head _)) d1;have hM':=hM;obtain ⟨hgB,⟨cs9,hs9z,hq9,hqe⟩,hC9⟩:=hM';exact b0 (ab aH e19) ⟨hI.put hU5 (gM 2 rfl),hM⟩
  constructor
  ·rintro S L' wS hI hM hS0 ⟨d2,-⟩;have e20:bI L' 20=.pointer (some ⟨g,0+0,none⟩):=hI.get (i:=2) (gM 2 rfl) d2;have hM':=hM;obtain ⟨hgB,⟨cs9,hs9z,hq9,hqe⟩,hC9⟩:=hM';exact b0 (ab aB e20) ⟨hI.put hU5 (gM 3 rfl),hM⟩
  constructor
  ·rintro S L' wS hI hM hS0 ⟨d3,-⟩;have e21:bI L' 21=.pointer (some ⟨g,0+0+0,none⟩):=hI.get (i:=3) (gM 3 rfl) d3;have hM':=hM;obtain ⟨hgB,⟨cs9,hs9z,hq9,hqe⟩,hC9⟩:=hM';exact b0 (aD (cs:=(rfV (iP s).s a9)) aP aF e21 (ng hgB)) ⟨hI.put hU5 (gM 4 rfl),hM⟩
  constructor
  ·rintro S L' wS hI hM hS0 ⟨-,-⟩;have e5:=hI.1 5 (by simp);have hM':=hM;obtain ⟨hgB,⟨cs9,hs9z,hq9,hqe⟩,hC9⟩:=hM';exact b0 (aK e5) ⟨hI.put hU5 (gM 5 rfl),hM⟩
  constructor
  ·rintro S L' wS hI hM hS0 ⟨d5,-,-⟩;have e23:bI L' 23=.pointer (some ⟨g,0,none⟩):=hI.get (i:=5) (gM 5 rfl) d5;have hM':=hM;obtain ⟨hgB,⟨cs9,hs9z,hq9,hqe⟩,hC9⟩:=hM';exact b0 (aw e23) ⟨hI.put hU5 (gM 6 rfl),hM⟩
  constructor
  ·rintro S L' wS hI hM hS0 ⟨d6,-,-⟩;have e24:bI L' 24=.pointer (some ⟨g,0,none⟩):=hI.get (i:=6) (gM 6 rfl) d6;have hM':=hM;obtain ⟨hgB,⟨cs9,hs9z,hq9,hqe⟩,hC9⟩:=hM';exact b0 (ab iU e24) ⟨hI.put hU5 (gM 7 rfl),hM⟩
  constructor
  ·rintro S L' wS hI hM hS0 ⟨d7,-,-⟩;have e25:bI L' 25=.pointer (some ⟨g,0+22,none⟩):=hI.get (i:=7) (gM 7 rfl) d7;have hM':=hM;obtain ⟨hgB,⟨cs9,hs9z,hq9,hqe⟩,hC9⟩:=hM';exact b0 (ar jA e25 (by exact (show _=some (Value.slice O9 L9.length oc9) from hgB.rd 22 rfl))) ⟨hI.put hU5 (gM 8 rfl),hM⟩
  constructor
  ·rintro S L' wS hI hM hS0 ⟨d4,d0,d1,d2,d3,d4,-,-,-,-,-⟩;have e2:=hI.1 2 (by simp);have e22:bI L' 22=.agg (rfV (iP s).s a9).toArray:=hI.get (i:=4) (gM 4 rfl) d4;have hM':=hM;obtain ⟨hgB,⟨cs9,hs9z,hq9,hqe⟩,hC9⟩:=hM';obtain ⟨w2,hR,hO,hb⟩:=ly (n:=27) (L:=L') (x:=.tmp 2) (y:=.tmp 22) (vs:=(rfV (iP s).s a9)) aF e2 e22 (by simp [rfV,Value.oneCell']) hq9 (by rw [hs9z];rfl);exact gO hR ⟨hI.skip (by simp),hgB.only hO hn2,⟨_,rfl,hb,fun _=>rfl⟩,hC9.next (hO.toChg rfl)⟩
  constructor
  ·rintro S L' wS hI hM hS0 ⟨d8,d9,d0,d1,d2,d3,d4,d5,d6,d7,d8,d9,-⟩;have e26:bI L' 26=.slice O9 L9.length oc9:=hI.get (i:=8) (gM 8 rfl) d8;have hM':=hM;obtain ⟨hgB,⟨cs9,hs9z,hq9,hqe⟩,hC9⟩:=hM';exact b0 (dt e26) ⟨hI.put hU5 (gM 9 rfl),hM⟩
  constructor
  ·rintro S L' wS hI hM hS0 ⟨d10,d0,d1,d2,d3,d4,d5,d6,d7,d8,d9,d10,-⟩;have hM':=hM;obtain ⟨hgB,⟨cs9,hs9z,hq9,hqe⟩,hC9⟩:=hM';exact b0 (dt rfl) ⟨hI.put hU5 (gM 10 rfl),hM⟩
  exact trivial
 ·intro w6 hM;obtain ⟨hgB,⟨cs9,hs9z,hq9,hqe⟩,hC9⟩:=hM;have hqe:=hqe rfl;subst hqe;refine ag (aC (jZ rfl (cL (cs:=[_,_,_,_,_,_,_,_,_,_,_,_,_,_,_,_,_,_,_,_,_,_]) aP aF rfl (by exact hq9.whole)) (da (v:=.slice _ _ _) rfl) (da (v:=.int _ _) rfl) ?_));exact ⟨zH.mk_ hs9 (fun k hk=>Nat.lt_of_lt_of_le hk hz9) (hC9.wide (fun k hk=>.inl (by rw [show k=b2 from hk];exact hlt2))),(hBq.chg hC9 (fun k hk=>by rw [show k=b2 from hk];exact hg2))⟩
section
variable {P:Program} {ops:Array Oper} {Q:Exit→Act→World→Prop} {rest:List Oper} {n:Fr} {L:List (Nat×Value)} {w0 w:World} {Z:Nat→Prop} {ty:TypeId} {pos:String} {after:Array Edge} {t:TypeId} {x y:Operand} {T g:Nat} {p:Sp} {s':Rf}
theorem aZ.rd {k:Nat} {v:Value} (h:aZ w0 Z w T g p) (hv:∀ a,(rfV p.s a)[k]? =some v):w.cell? ⟨g,k,none⟩=some v:=by
 obtain ⟨tag,a,O,oc,L,hs⟩:=h.ex;exact dK hs.b k (hv a)
theorem iA {k:Nat} {v:Value} (ht:ef P t=some 1) (hx:ev n L x=.pointer (some ⟨g,k,none⟩)) (hy:ev n L y=v) (h1:v.oneCell'=true) (h:aZ w0 Z w T g p) (e:∀ a,k<22∧(rfV p.s a).set k v=rfV s' a)
 (hr:s'.es=p.s.es∧s'.votes=p.s.votes∧s'.next=p.s.next∧s'.mtch=p.s.mtch∧s'.sent=p.s.sent∧s'.reads=p.s.reads)
 (kk:∀ w',aZ w0 Z w' T g ⟨s',p.out⟩→St P ops Q rest n L w'):St P ops Q (⟨none,.store t x y,ty,pos,after,none⟩::rest) n L w:=by
 obtain ⟨tag,a,O,oc,L1,hs⟩:=h.ex;exact cK ht hx hy h1 hs.b (e a) fun w' o b=>kk w' (h.set hs (o.toChg rfl) (bm.same hs.f hr.1 hr.2.1 hr.2.2.1 hr.2.2.2.1 hr.2.2.2.2.1 hr.2.2.2.2.2) b).2
end
def u7 (w w':World) (p:Sp) (tag:Nat→Nat) (a:Ra) (O:Option Addr) (oc:Nat) (L:List Msg):Prop:=bm w' tag p.s a∧eI w' tag p.out O oc L∧∀ k,k<w.heap.size→tag k=8
theorem u7.mk_ {w w1 w':World} {T g oc:Nat} {tag:Nat→Nat} {p:Sp} {a:Ra} {O:Option Addr} {L:List Msg} {Z:Nat→Prop} (hs:gZ w1 Z T g tag p a O oc L) (hz:∀ k,k<w.heap.size→Z k) (hC:Chg (fun k=>Z k) w1 w'):u7 w w' p tag a O oc L:=by
 have ne:∀ {d:Nat} {A:Option Addr},d≠8→Col tag d A→∀ k,A.map (·.block)=some k→¬ Z k:=fun hd hc k hk e=>hd ((hc k hk).symm.trans (hs.z k e))
 have mv:∀ {d e s n cc:Nat} {A:Option Addr} {xs:List Value},d≠8→w1.ownsRow 0 e s (.slice A n cc) n xs∧Col tag d A→w'.ownsRow 0 e s (.slice A n cc) n xs∧Col tag d A:=fun hd h=>⟨eJ h.1 hC (ne hd h.2),h.2⟩
 exact ⟨⟨fun hx=>mv (by decide) (hs.f.e hx),fun hx=>mv (by decide) (hs.f.v hx),fun hx=>mv (by decide) (hs.f.x hx),fun hx=>mv (by decide) (hs.f.m hx),fun hx=>mv (by decide) (hs.f.n hx),hs.f.r,fun hx=>mv (by decide) (hs.f.q hx),fun i hi hx=>mv (by omega) (hs.f.k i hi hx)⟩,⟨(mv (d:=6) (by decide) ⟨hs.m.o,hs.m.c⟩).1,hs.m.l,fun j hj=>mv (by omega) (hs.m.e j hj),hs.m.c⟩,fun k hk=>hs.z k (hz k hk)⟩
def BK (p:Sp) (a:Ra) (O:Option Addr) (oc:Nat) (L:List Msg):List Value:=[.agg (rfV p.s a).toArray,.slice O L.length oc]
end Go.Proofs.YtkpooenofjdpmaaGreat
namespace Go.Proofs.YtkpooenofjdpmaaGreat
open Go.Proofs.Tryz (prog)
open Go.RowKit
open Go.ChangeShapes Go.WideShapes Go.ChangeAt
theorem kF:prog.built 99 [(0,.int .i64 (-9))]=some #[.int .i64 (-9),.int .i64 0,.string ⟨#[]⟩]:=by kernel_rfl
theorem ru:prog.built 99 []=some #[.int .i64 0,.int .i64 0,.string ⟨#[]⟩]:=by kernel_rfl
theorem n_:aN prog 93=true:=by kernel_rfl
theorem iH:aN prog 43=true:=by kernel_rfl
theorem kG:prog.built 54 [(0,.int .i64 (-9))]=some #[.int .i64 (-9),.int .i64 0,.int .i64 0,.slice none 0 0]:=by kernel_rfl
theorem kH:prog.built 39 [(0,.int .i64 (-9))]=some #[.int .i64 (-9),.int .i64 0,.int .i64 0,.int .i64 0,.int .i64 0,.int .i64 0,.int .i64 0,.int .i64 0,.bool false,.slice none 0 0,.int .i64 0,.string ⟨#[]⟩,.bool false]:=by kernel_rfl
theorem rv:prog.built 39 []=some #[.int .i64 0,.int .i64 0,.int .i64 0,.int .i64 0,.int .i64 0,.int .i64 0,.int .i64 0,.int .i64 0,.bool false,.slice none 0 0,.int .i64 0,.string ⟨#[]⟩,.bool false]:=by kernel_rfl
theorem qg (base:Nat) (A:Option Addr) (c n:Nat) (xs:List Value) (w:World) (ho:w.ownsRow base 99 3 (.slice A n c) n xs) (hb:base≤w.heap.size) (hl:n≤1000000000) :
 Rt prog 93 [.slice A n c] w (fun v w'=>v=.tuple #[]∧w.grownBy w' (A.map (·.block))):=by
 refine enter (n:=17) Tryz.func93 rfl rfl rfl (ak (ak (af (asi rfl (ai (ag (a_ (cY (G:=Nat×List Value) [3,4,5,6,7,8,9,10,11,12] (fun (k,_)=>[(2,.int .i64 (k:Nat))]) (fun (k,ys) w'=>k≤n∧w'.ownsRow base 99 3 (.slice A n c) n ys∧w.grownBy w' (A.map (·.block))) (fun (k,_)=>n-k) ((0,xs)) ⟨rfl,trivial⟩ ?_ ?_))))))))
 ·exact ⟨Nat.zero_le _,ho,World.grownBy.refl _ _⟩
 rintro ⟨k,ys⟩ ρ1 w1 ⟨hk,ho2,hG⟩;refine ak (ak (af (mvi rfl (mvs rfl (aa (bF bC rfl) (aa (cg rfl rfl) (ai (ag (Bn rfl (fun Q2=>?_) (fun Q2=>?_))))))))))
 ·obtain ⟨g,rfl⟩:=ft ho2 (by omega);refine aM (ag (ak (a_ (af (mvs rfl (mvi rfl (aa (cy (l:=[(0,.const (.int .i64 (-9)))]) (kF)) (aa (eR bU rfl rfl (by omega)) ?_))))))));refine lU (size:=3) (o:=k*3) (vs:=[.int .i64 (-9),.int .i64 0,.string ⟨#[]⟩]) fW (by show Value.pointer (some ⟨g,0+k*3,none⟩)=_;rw [Nat.zero_add]) rfl (by simp [Value.oneCell']) ho2 (by omega) (by show k*3+3≤n*3;omega) ?_;intro w3 O3 P3;refine ai (bN (ag (af (mvi rfl (aa (bW rfl rfl (by omega)) (asi rfl (ai ?_)))))));refine bT ((k+1,jo ys (k*3) [.int .i64 (-9),.int .i64 0,.string ⟨#[]⟩])) ⟨(by first | rfl | (refine bM ?_;omega)),trivial⟩ (by (iterate 22 refine bf rfl ?_);exact bB) ⟨?_,?_⟩
  ·exact ⟨by omega,P3,eU hG (e_.grown O3)⟩
  ·show n-(k+1)<n-k;omega
 refine cq (bg (bg (b_ (ag (af (mvs rfl (aa (cy (l:=[]) (ru)) (lV (l:=[(0,.tmp 14)]) (cells:=#[.int .i64 0,.int .i64 0,.string ⟨#[]⟩]) jz rfl rfl (by first | rfl | kernel_rfl) ?_))))))));intro bx w4 Ex hbx hkx;refine kj (news:=[.int .i64 0,.int .i64 0,.string ⟨#[]⟩]) jz rfl (by decide) rfl (ho2.kept_from Ex) (Nat.le_trans hb (Nat.le_trans hG.size Ex.size)) rfl rfl (fun _=>⟨bx,0,rfl,hkx.whole⟩) (fun h=>by cases h) (by simp [Value.oneCell']) (by omega) (by omega) ?_;intro Ax cx w5 hox hgx;refine ass rfl (ai (du (eB rfl (⟨rfl,eU (eU hG (Ex.grown _)) hgx⟩))))
theorem jX (base:Nat) (A:Option Addr) (c n:Nat) (xs:List Value) (w:World) (ho:w.ownsRow base 3 1 (.slice A n c) n xs) (hb:base≤w.heap.size) (hl:n≤1000000000) :
 Rt prog 43 [.slice A n c] w (fun v w'=>v=.tuple #[]∧w.grownBy w' (A.map (·.block))):=by
 refine enter (n:=15) Tryz.func43 rfl rfl rfl (ak (ak (af (asi rfl (ai (ag (a_ (cY (G:=Nat×List Value) [3,4,5,6,7,8,9,10,11] (fun (k,_)=>[(2,.int .i64 (k:Nat))]) (fun (k,ys) w'=>k≤n∧w'.ownsRow base 3 1 (.slice A n c) n ys∧w.grownBy w' (A.map (·.block))) (fun (k,_)=>n-k) ((0,xs)) ⟨rfl,trivial⟩ ?_ ?_))))))))
 ·exact ⟨Nat.zero_le _,ho,World.grownBy.refl _ _⟩
 rintro ⟨k,ys⟩ ρ1 w1 ⟨hk,ho2,hG⟩;refine ak (ak (af (mvi rfl (mvs rfl (aa (bF cp rfl) (aa (cg rfl rfl) (ai (ag (Bn rfl (fun Q2=>?_) (fun Q2=>?_))))))))))
 ·obtain ⟨g,rfl⟩:=ft ho2 (by omega);refine aM (ag (ak (a_ (af (mvs rfl (mvi rfl (aa (eA c6 rfl rfl (by omega)) (mY (i:=k) (v:=.int .i64 (-99)) bd rfl rfl rfl ho2 (by omega) ?_))))))));intro w3 O3 P3;refine ai (bN (ag (af (mvi rfl (aa (bW rfl rfl (by omega)) (asi rfl (ai ?_)))))));refine bT ((k+1,ys.set k (.int .i64 (-99)))) ⟨(by first | rfl | (refine bM ?_;omega)),trivial⟩ (by (iterate 20 refine bf rfl ?_);exact bB) ⟨?_,?_⟩
  ·exact ⟨by omega,P3,eU hG (e_.grown O3)⟩
  ·show n-(k+1)<n-k;omega
 refine cq (bg (bg (b_ (ag (af (mvs rfl (lV (l:=[(0,.const (.int .i64 5))]) (cells:=#[.int .i64 5]) cj rfl rfl (by first | rfl | kernel_rfl) ?_)))))));intro bx w4 Ex hbx hkx;refine kj (news:=[.int .i64 5]) cj rfl (by decide) rfl (ho2.kept_from Ex) (Nat.le_trans hb (Nat.le_trans hG.size Ex.size)) rfl rfl (fun _=>⟨bx,0,rfl,hkx.whole⟩) (fun h=>by cases h) (by simp [Value.oneCell']) (by omega) (by omega) ?_;intro Ax cx w5 hox hgx;refine ass rfl (ai (du (eB rfl (⟨rfl,eU (eU hG (Ex.grown _)) hgx⟩))))
def mZ (k:Int):Msg:={ zM with k:=k }
def qZ:Rd×Option Addr×Nat:=(⟨-9,0,0,[]⟩,none,0)
section
variable {α:Type}
def spX (z:α) (X:List α) (k:Nat):List α:=List.replicate k z++X.drop k
theorem kn {z:α} {X:List α} {k:Nat} (h:k≤X.length):(spX z X k).length=X.length:=by simp [spX];omega
theorem wG {z:α} {X:List α} {k:Nat} (h:k<X.length):(spX z X k)[k]'(by rw [kn (by omega)];exact h)=X[k]:=by
 simp [spX,List.getElem_append_right]
theorem uF {z:α} {X:List α} {k:Nat} (h:k<X.length):(spX z X k).set k z=spX z X (k+1):=by
 unfold spX;rw [List.set_append_right _ _ (by simp),List.length_replicate,Nat.sub_self,List.drop_eq_getElem_cons h,List.set_cons_zero,List.replicate_succ',List.append_assoc];rfl
end
theorem Be (k:Int):Instr.fill (fun i=>some (i*13,13)) ((Array.range (1*13)).map ((.agg (bH (mZ 0)).toArray:Value).cells[·%(.agg (bH (mZ 0)).toArray:Value).cells.size]!)) [(0,.agg (bH (mZ k)).toArray)]=some (bH (mZ k)).toArray:=by
 first
  |kernel_rfl
  |rfl
def U5 (Z:Nat) (tag:Nat→Nat) (j:Nat):Nat→Prop:=fun q=>q<Z∧tag q<j
def UA (Z:Nat) (tag:Nat→Nat) (k:Nat):Nat→Prop:=fun q=>q<Z∧(tag q≤5∨∃ i,i<k∧tag q=1001+2*i)
def UM (Z:Nat) (tag:Nat→Nat) (k:Nat):Nat→Prop:=fun q=>q<Z∧(tag q=6∨∃ i,i<k∧tag q=1000+2*i)
theorem U5.up {Z j:Nat} {tag:Nat→Nat} {w w':World} (h:Chg (U5 Z tag j) w w'):Chg (U5 Z tag (j+1)) w w':=h.wide fun _ h=>.inl ⟨h.1,Nat.lt_succ_of_lt h.2⟩
theorem UA.up {Z k:Nat} {tag:Nat→Nat} {w w':World} (h:Chg (UA Z tag k) w w'):Chg (UA Z tag (k+1)) w w':=h.wide fun _ h=>.inl ⟨h.1,h.2.imp id fun ⟨i,a,b⟩=>⟨i,Nat.lt_succ_of_lt a,b⟩⟩
theorem UM.up {Z k:Nat} {tag:Nat→Nat} {w w':World} (h:Chg (UM Z tag k) w w'):Chg (UM Z tag (k+1)) w w':=h.wide fun _ h=>.inl ⟨h.1,h.2.imp id fun ⟨i,a,b⟩=>⟨i,Nat.lt_succ_of_lt a,b⟩⟩
theorem oU {w0 w1 w2 w3:World} {tag:Nat→Nat} {d e s n c:Nat} {A:Option Addr} {xs:List Value} (h:w0.ownsRow 0 e s (.slice A n c) n xs∧Col tag d A) (hg:w2.grownBy w3 (A.map (·.block))) (hC:Chg (U5 w0.heap.size tag d) w1 w2):Chg (U5 w0.heap.size tag (d+1)) w1 w3:=
 (U5.up hC).next (Chg.of_grown hg fun q hq=>⟨ej h.1 q hq,by rw [h.2 q hq];exact Nat.lt_succ_self _⟩)
theorem km (tag:Nat→Nat) (s:Rf) (a:Ra) (w:World) (h:bm w tag s a) (hl:s.votes.length≤1000000∧s.next.length≤1000000∧s.mtch.length≤1000000∧s.sent.length≤1000000∧s.reads.length≤1000000∧∀ q∈s.reads,q.acks.length≤1000000) (hel:s.es.length≤1000000) :
 Rt prog 51 [.agg (rfV s a).toArray] w (fun v w'=>v=.tuple #[]∧Chg (fun q=>StC (tag q)) w w'):=by
 obtain ⟨hl1,hl2,hl3,hl4,hl5,hl6⟩:=id hl;have hLl:a.L.length=s.reads.length:=by rw [←h.r (by decide),List.length_map]
 refine enter (n:=38) Tryz.func51 rfl rfl rfl (ak (af (bZ (v:=.agg _) rfl ?_)));intro b1 w1 E1 hb1 hk1;refine ai (ag (ak (af (aa (ab bj rfl) (aa (ab cX rfl) (aa (ar bk rfl (by exact (show _=some (Value.slice a.E s.es.length a.Ec) from (hk1.from_ ah.rfl_).rd 8 rfl))) ?_))))));have hz0:=E1.size;have hB1:ah w w1:=(ah.rfl_.next E1);have hC0:Chg (U5 w.heap.size tag 0) w1 w1:=Chg.rfl_;have hkb0:=hk1.from_ ah.rfl_;have hn1:∀ j,¬ U5 w.heap.size tag j b1:=fun j e=>absurd e.1 (by omega)
 have hnA:∀ j,¬ UA w.heap.size tag j b1:=fun j e=>absurd e.1 (by omega)
 obtain ⟨wb,hwb⟩:∃ x,x=w1:=⟨_,rfl⟩;rw [←hwb] at hB1 hC0 hkb0;have hr0:=eJ ((h.e (by decide)).1.kept_from hB1) hC0 (fun k hk e=>absurd e.2 (by rw [(h.e (by decide)).2 k hk];omega));refine az n_ (qg 0 a.E a.Ec s.es.length (cN s.es) _ (by rw [←hwb];exact hr0) (Nat.zero_le _) (by omega)) ?_;rintro v6 w2 ⟨rfl,hg0⟩;rw [←hwb] at hg0;have hC1:=oU (h.e (by decide)) hg0 hC0;have hkb1:=hkb0.chg hC1 (hn1 _);refine ai (ag (ak (af (aa (ab de rfl) (aa (ar bo rfl (by exact (show _=some (Value.slice a.V s.votes.length a.Vc) from (hkb1.from_ ah.rfl_).rd 14 rfl))) ?_)))));have hM1:ah _ w2:=ah.rfl_;have hr1:=eJ ((h.v (by decide)).1.kept_from hB1) (hC1.next hM1.toChg) (fun k hk e=>absurd e.2 (by rw [(h.v (by decide)).2 k hk];omega));refine az iH (jX 0 a.V a.Vc s.votes.length (s.votes.map iV) _ hr1 (Nat.zero_le _) (by omega)) ?_;rintro v9 w3 ⟨rfl,hg1⟩;have hC2:=oU (h.v (by decide)) hg1 (hC1.next hM1.toChg);have hkb2:=hkb0.chg hC2 (hn1 _);refine ai (ag (ak (af (aa (ab cS rfl) (aa (ar bo rfl (by exact (show _=some (Value.slice a.X s.next.length a.Xc) from (hkb2.from_ ah.rfl_).rd 15 rfl))) ?_)))));have hM2:ah _ w3:=ah.rfl_;have hr2:=eJ ((h.x (by decide)).1.kept_from hB1) (hC2.next hM2.toChg) (fun k hk e=>absurd e.2 (by rw [(h.x (by decide)).2 k hk];omega));refine az iH (jX 0 a.X a.Xc s.next.length (s.next.map iV) _ hr2 (Nat.zero_le _) (by omega)) ?_;rintro v12 w4 ⟨rfl,hg2⟩;have hC3:=oU (h.x (by decide)) hg2 (hC2.next hM2.toChg);have hkb3:=hkb0.chg hC3 (hn1 _);refine ai (ag (ak (af (aa (ab c_ rfl) (aa (ar bo rfl (by exact (show _=some (Value.slice a.M s.mtch.length a.Mc) from (hkb3.from_ ah.rfl_).rd 16 rfl))) ?_)))));have hM3:ah _ w4:=ah.rfl_;have hr3:=eJ ((h.m (by decide)).1.kept_from hB1) (hC3.next hM3.toChg) (fun k hk e=>absurd e.2 (by rw [(h.m (by decide)).2 k hk];omega));refine az iH (jX 0 a.M a.Mc s.mtch.length (s.mtch.map iV) _ hr3 (Nat.zero_le _) (by omega)) ?_;rintro v15 w5 ⟨rfl,hg3⟩;have hC4:=oU (h.m (by decide)) hg3 (hC3.next hM3.toChg);have hkb4:=hkb0.chg hC4 (hn1 _);refine ai (ag (ak (af (aa (ab df rfl) (aa (ar bo rfl (by exact (show _=some (Value.slice a.S s.sent.length a.Sc) from (hkb4.from_ ah.rfl_).rd 17 rfl))) ?_)))));have hM4:ah _ w5:=ah.rfl_;have hr4:=eJ ((h.n (by decide)).1.kept_from hB1) (hC4.next hM4.toChg) (fun k hk e=>absurd e.2 (by rw [(h.n (by decide)).2 k hk];omega));refine az iH (jX 0 a.S a.Sc s.sent.length (s.sent.map iV) _ hr4 (Nat.zero_le _) (by omega)) ?_;rintro v18 w6 ⟨rfl,hg4⟩;have hC5:=oU (h.n (by decide)) hg4 (hC4.next hM4.toChg);have hkb5:=hkb0.chg hC5 (hn1 _);refine ai (ag (ak (af (asi rfl (ai (ag (a_ (cY (G:=Nat) [19,20,21,22,23,24,25,26,27,28,29,30,31,32,33,34,35,36,37] (fun k=>[(2,.int .i64 (k:Nat))]) (fun k w'=>k≤a.L.length∧w'.ownsRow 0 54 4 (.slice a.Q a.L.length a.Qc) a.L.length ((spX qZ a.L k).flatMap rdV)∧Chg (UA w.heap.size tag k) wb w') (fun k=>a.L.length-k) (0) ⟨rfl,trivial⟩ ?_ ?_))))))))
 ·exact ⟨Nat.zero_le _,eJ ((h.q (by decide)).1.kept_from hB1) (hC5.next (ah.rfl_:ah _ w6).toChg) (fun k hk e=>absurd e.2 (by rw [(h.q (by decide)).2 k hk];omega)),(hC5.next (ah.rfl_:ah _ w6).toChg).wide fun q e=>.inl ⟨e.1,.inl (by have:=e.2;omega)⟩⟩
 rintro k ρ7 w7 ⟨hk,hoQ,hCk⟩;refine ak (ak (af (mvi rfl (aa (ab cl rfl) (aa (ar ea rfl (by exact (show _=some (Value.slice a.Q a.L.length a.Qc) from ((hkb0.chg hCk (hnA _)).from_ ah.rfl_).rd 19 rfl))) ?_)))));refine aa (bF fy rfl) (aa (cg rfl rfl) (ai (ag (Bn rfl (fun Q8=>?_) (fun Q8=>?_)))))
 ·have hkL:k<a.L.length:=by omega
  have hqk:a.L[k].1∈s.reads:=by rw [←h.r (by decide)];exact List.mem_map_of_mem (List.getElem_mem hkL)
  obtain ⟨gq,hgq⟩:∃ g,a.Q=some ⟨g,0,none⟩:=ft hoQ (by omega);have hcq:∀ q,a.Q.map (·.block)=some q→tag q=5:=fun q hq=>(h.q (by decide)).2 q hq
  have hlq:=ej (h.q (by decide)).1;rw [hgq] at hoQ hcq hlq;have hkq:Blk w7 b1 29 (rfV s { a with Q:=some ⟨gq,0,none⟩ }).toArray:=by rw [←hgq];exact (hkb0.chg hCk (hnA _)).from_ ah.rfl_
  obtain ⟨bx,ox,hAx,hcx⟩:=(iE.own jM (by decide) hoQ).2 (by rw [kn (by omega)];omega);cases hAx;have hvx:=hcx k (by rw [kn (by omega)];exact hkL);rw [wG hkL] at hvx;have hc31:(w7).cell? ⟨gq,0+k*4+3,none⟩=some (.slice a.L[k].2.1 a.L[k].1.acks.length a.L[k].2.2):=fC ah.rfl_ (hvx 3 _ rfl);refine aM (ag (ak (a_ (ak (af (aa (ab cl rfl) (aa (ar ea rfl (by exact (show _=some (Value.slice (some ⟨gq,0,none⟩) a.L.length a.Qc) from (hkq.from_ ah.rfl_).rd 19 rfl))) ?_)))))));refine mvi rfl (aa (bq gD rfl rfl (by omega)) (aa (ab fB rfl) (aa (ar bo rfl (by exact fC ah.rfl_ hc31)) ?_)));have hM32:ah _ w7:=ah.rfl_;have hrk:=eJ ((h.k k hkL (by omega)).1.kept_from hB1) (hCk.next hM32.toChg) (fun q hq e=>by rcases e.2 with e2 | ⟨i,hi,e2⟩ <;> rw [(h.k k hkL (by omega)).2 q hq] at e2 <;> omega);refine az iH (jX 0 a.L[k].2.1 a.L[k].2.2 a.L[k].1.acks.length (a.L[k].1.acks.map iV) _ hrk (Nat.zero_le _) (by have:=hl.2.2.2.2.2 _ hqk;omega)) ?_;rintro v32 w9 ⟨rfl,hg32⟩;have hC9:Chg (UA w.heap.size tag (k+1)) wb w9:=(UA.up (hCk.next hM32.toChg)).next (Chg.of_grown hg32 fun q hq=>⟨ej (h.k k hkL (by omega)).1 q hq,.inr ⟨k,Nat.lt_succ_self _,(h.k k hkL (by omega)).2 q hq⟩⟩);have hoQ9:=eJ (hoQ.kept_from hM32) (Chg.of_grown (U:=fun q=>tag q=1001+2*k) hg32 fun q hq=>(h.k k hkL (by omega)).2 q hq) (fun q hq e=>by have:=hcq q hq;omega);refine ai (ag (af (aa (ab cl rfl) ?_)));refine aa (ar ea rfl (by exact (show _=some (Value.slice (some ⟨gq,0,none⟩) a.L.length a.Qc) from by rw [←hgq];exact ((hkb0.chg hC9 (hnA _)).from_ ah.rfl_).rd 19 rfl))) ?_;refine mvi rfl (aa (cy (l:=[(0,.const (.int .i64 (-9)))]) (kG)) (aa (bq gD rfl rfl (by omega)) ?_));have hM10:ah _ w9:=ah.rfl_;have hoQ8:=hoQ9.kept_from hM10;obtain ⟨g',cur,hgA,_,hbk,_⟩:=oC hoQ8 (by omega);cases hgA;refine lU (size:=4) (o:=k*4) (vs:=rdV qZ) fG (by show Value.pointer (some ⟨gq,0+k*4,none⟩)=_;rw [Nat.zero_add]) rfl (by simp [rdV,qZ,Value.oneCell']) hoQ8 (by omega) (by show k*4+4≤a.L.length*4;omega) ?_;intro w10 O10 P10;rw [qp jM _ k (by rw [kn (by omega)];exact hkL),uF hkL] at P10;have hC10:Chg (UA w.heap.size tag (k+1)) wb w10:=(hC9.next hM10.toChg).next (O10.toChg ⟨hlq gq rfl,.inl (by have:=hcq gq rfl;omega)⟩);rw [←hgq] at P10;refine ai (bN (ag (af (mvi rfl (aa (bW rfl rfl (by omega)) (asi rfl (ai ?_)))))));refine bT (k+1) ⟨(by first | rfl | (refine bM ?_;omega)),trivial⟩ (by (iterate 40 refine bf rfl ?_);exact bB) ⟨?_,?_⟩
  ·exact ⟨by omega,P10.kept_from ah.rfl_,(hC10.next (ah.rfl_:ah _ w10).toChg)⟩
  ·omega
 refine cq (bg (bg (b_ (du (eB rfl (⟨rfl,(hB1.toChg.next ((hCk.next (ah.rfl_:ah _ w7).toChg).wide fun q e=>.inl ?_))⟩))))));rcases e.2 with e2 | ⟨i,_,e2⟩
 ·exact .inl e2
 ·exact .inr ⟨i,e2⟩
theorem mq (tag:Nat→Nat) (out:List Msg) (A:Option Addr) (c:Nat) (L:List Msg) (w:World) (h:eI w tag out A c L) (hl:L.length≤100000) (hle:∀ x∈L,x.es.length≤1000000) :
 Rt prog 52 [.slice A L.length c] w (fun v w'=>v=.tuple #[]∧Chg (fun q=>tag q=6∨∃ i,tag q=1000+2*i) w w'):=by
 refine enter (n:=23) Tryz.func52 rfl rfl rfl (ak (ak (af (asi rfl (ai (ag (a_ (cY (G:=Nat) [3,4,5,6,7,8,9,10,11,12,13,14,15,16,17,18] (fun k=>[(2,.int .i64 (k:Nat))]) (fun k w'=>k≤L.length∧w'.ownsRow 0 39 13 (.slice A L.length c) L.length ((spX (mZ (-9)) L k).flatMap bH)∧Chg (UM w.heap.size tag k) w w') (fun k=>L.length-k) (0) ⟨rfl,trivial⟩ ?_ ?_))))))))
 ·exact ⟨Nat.zero_le _,h.o.kept_from ah.rfl_,(ah.rfl_:ah _ w).toChg⟩
 rintro k ρ1 w1 ⟨hk,hoQ,hCk⟩;refine ak (ak (af (mvi rfl (mvs rfl (aa (bF lG rfl) (aa (cg rfl rfl) (ai (ag (Bn rfl (fun Q2=>?_) (fun Q2=>?_))))))))))
 ·have hkX:k<L.length:=by omega
  obtain ⟨g,hgq⟩:∃ g,A=some ⟨g,0,none⟩:=ft hoQ (by omega);subst hgq;have hcq:∀ q,(some (⟨g,0,none⟩:Addr)).map (·.block)=some q→tag q=6:=fun q hq=>h.c q hq
  have hlq:=ej h.o;have hEk:=hle _ (List.getElem_mem hkX);obtain ⟨bx,ox,hAx,hcx⟩:=(iE.own oD (by decide) hoQ).2 (by rw [kn (by omega)];omega);cases hAx;have hvx:=hcx k (by rw [kn (by omega)];exact hkX);rw [wG hkX] at hvx;refine aM (ag (ak (a_ (ak (af (mvs rfl (mvi rfl (aa (bq lH rfl rfl (by omega)) (aa (ab bS rfl) (aa (ar bk rfl (by exact fC ah.rfl_ (hvx 9 _ rfl))) ?_))))))))));have hM14:ah _ w1:=ah.rfl_;have hrk:=eJ (h.e k hkX).1 (hCk.next hM14.toChg) (fun q hq e=>by rcases e.2 with e2 | ⟨i,hi,e2⟩ <;> rw [(h.e k hkX).2 q hq] at e2 <;> omega);refine az n_ (qg 0 L[k].E L[k].c L[k].es.length (cN L[k].es) _ hrk (Nat.zero_le _) (by omega)) ?_;rintro v14 w3 ⟨rfl,hg14⟩;have hC9:Chg (UM w.heap.size tag (k+1)) w w3:=(UM.up (hCk.next hM14.toChg)).next (Chg.of_grown hg14 fun q hq=>⟨ej (h.e k hkX).1 q hq,.inr ⟨k,Nat.lt_succ_self _,(h.e k hkX).2 q hq⟩⟩);have hoQ9:=eJ (hoQ.kept_from hM14) (Chg.of_grown (U:=fun q=>tag q=1000+2*k) hg14 fun q hq=>(h.e k hkX).2 q hq) (fun q hq e=>by have:=hcq q hq;omega);refine ai (ag (af (mvs rfl (mvi rfl (aa (cy (l:=[(0,.const (.int .i64 (-9)))]) (kH)) (aa (bq lH rfl rfl (by omega)) ?_))))));have hM10:ah _ w3:=ah.rfl_;have hoQ8:=hoQ9.kept_from hM10;obtain ⟨g',cur,hgA,_,hbk,_⟩:=oC hoQ8 (by omega);cases hgA;refine lU (size:=13) (o:=k*13) (vs:=bH (mZ (-9))) aU (by show Value.pointer (some ⟨g,0+k*13,none⟩)=_;rw [Nat.zero_add]) rfl (by simp [bH,mZ,zM,Value.oneCell']) hoQ8 (by omega) (by show k*13+13≤L.length*13;omega) ?_;intro w4 O10 P10;rw [qp oD _ k (by rw [kn (by omega)];exact hkX),uF hkX] at P10;have hC10:Chg (UM w.heap.size tag (k+1)) w w4:=(hC9.next hM10.toChg).next (O10.toChg ⟨hlq g rfl,.inl (by have:=hcq g rfl;omega)⟩);refine ai (bN (ag (af (mvi rfl (aa (bW rfl rfl (by omega)) (asi rfl (ai ?_)))))));refine bT (k+1) ⟨(by first | rfl | (refine bM ?_;omega)),trivial⟩ (by (iterate 34 refine bf rfl ?_);exact bB) ⟨?_,?_⟩
  ·exact ⟨by omega,P10.kept_from ah.rfl_,hC10.next (ah.rfl_:ah _ w4).toChg⟩
  ·omega
 refine cq (bg (bg (b_ (ag (af (mvs rfl (aa (cy (l:=[]) (rv)) ?_)))))));have hM21:ah _ w1:=ah.rfl_;refine lV (l:=[(0,.tmp 20)]) (cells:=(bH (mZ 0)).toArray) ir rfl rfl (Be 0) ?_;intro b21 w5 E21 hb21 hk21;have hM22:ah _ w5:=(hM21.next E21);have ho9:=hoQ.kept_from hM22;refine kj (base:=0) (news:=bH (mZ 0)) ir rfl (by decide) rfl ho9 (Nat.zero_le _) rfl rfl (fun _=>⟨b21,0,rfl,hk21.whole⟩) (fun h=>by cases h) (by simp [bH,mZ,zM,Value.oneCell']) (by omega) (by omega) ?_;intro A22 c22 w6 ho22 hg22;have hC22:Chg (UM w.heap.size tag L.length) w w6:=((hCk.wide fun q e=>.inl ⟨e.1,e.2.imp id fun ⟨i,a,b⟩=>⟨i,by omega,b⟩⟩).next hM22.toChg).next (Chg.of_grown hg22 fun q hq=>⟨ej h.o q hq,.inl (h.c q hq)⟩);refine ass rfl (ai (du (eB rfl (⟨rfl,(hC22.next (ah.rfl_:ah _ w6).toChg).wide fun q e=>.inl (e.2.imp id fun ⟨i,_,b⟩=>⟨i,b⟩)⟩))))
end Go.Proofs.YtkpooenofjdpmaaGreat
namespace Go.Proofs.YtkpooenofjdpmaaGreat
open Go.Proofs.Tryz (prog)
open Go.RowKit
abbrev u_:Ty:=.pr (.int .i64) (.pr (.int .i64) (.pr .str .unit))
theorem uZ {w:World} {c:Nat→Option Value} {xs:List u_.den} (h:(Ty.sl u_).At w c xs) :
 ∃ (v:Value) (es:List Ent),c 0=some v∧bX w v es∧(∀ e∈es,e.Ok)∧es.length*32≤140737488351232:=by
 obtain ⟨A,cap,h0,h1,h2,h3⟩:=h;refine ⟨_,xs.map fun x=>⟨x.1,x.2.1,x.2.2.1⟩,h0,⟨A,cap,by rw [List.length_map],by rw [List.length_map];exact h2.1,h2.2.1,h2.2.2,fun hp=>?_⟩,?_,by rw [List.length_map];exact h1⟩
 ·rw [List.length_map] at hp;obtain ⟨b,o,hA,hb,hi⟩:=h3 hp;refine ⟨b,o,hA,hb,fun i hil=>?_⟩;rw [List.length_map] at hil;obtain ⟨⟨c1,_⟩,⟨c2,_⟩,⟨c3,_⟩,_⟩:=hi i _ (List.getElem?_eq_getElem hil);rw [List.getElem_map];exact ⟨c1,c2,c3⟩
 ·intro e he;simp only [List.mem_map] at he;obtain ⟨x,hx,rfl⟩:=he;obtain ⟨i,hil,rfl⟩:=List.mem_iff_getElem.1 hx;obtain ⟨b,o,hA,hb,hi⟩:=h3 (Nat.lt_of_le_of_lt (Nat.zero_le _) hil);obtain ⟨⟨_,c1⟩,⟨_,c2⟩,⟨_,c3⟩,_⟩:=hi i _ (List.getElem?_eq_getElem hil);have b1:=bounds_i64 c1;have b2:=bounds_i64 c2;exact ⟨b1.1,b1.2,b2.1,b2.2,c3⟩
end Go.Proofs.YtkpooenofjdpmaaGreat
namespace Go.Proofs.YtkpooenofjdpmaaGreat
open Go.Proofs.Tryz (prog)
open Go.RowKit
open Go.ChangeShapes Go.WideShapes Go.ChangeAt
theorem ta:cD prog 99 2=some 2:=by kernel_rfl
theorem s_:(prog.underlying 3).isSome=true:=by kernel_rfl
theorem pO:prog.underlying 108=some (.int .u64):=by kernel_rfl
theorem uy:(prog.underlying 108).isSome=true:=by kernel_rfl
theorem yr:prog.underlying 3=some (.int .i64):=by kernel_rfl
theorem qI:aN prog 25=true:=by kernel_rfl
abbrev Bw:Ty:=.pr (.int .i64) (.pr (.int .i64) (.pr (.int .i64) (.pr (.int .i64) (.pr (.int .i64) (.pr (.int .i64) (.pr (.int .i64) (.pr (.int .i64) (.pr .bool (.pr (.sl u_) (.pr (.int .i64) (.pr .str (.pr .bool .unit))))))))))))
abbrev ub:Ty:=.pr (.int .i64) (.pr Bw (.pr .bool (.pr .str (.pr (.int .i64) .unit))))
abbrev w_:Ty:=.pr (.int .i64) (.pr (.int .i64) (.pr (.int .i64) (.pr (.sl (.int .i64)) .unit)))
abbrev BB:Ty:=.pr (.int .i64) (.pr (.int .i64) (.pr (.sl u_) .unit))
abbrev o7:Ty:=.pr (.int .i64) (.pr (.int .i64) (.pr (.int .i64) (.pr (.int .i64) (.pr (.int .i64) (.pr (.int .i64) (.pr BB (.pr .str (.pr (.int .i64) (.pr (.int .i64) (.pr (.int .i64) (.pr (.int .u64) (.pr (.sl (.int .i64)) (.pr (.sl (.int .i64)) (.pr (.sl (.int .i64)) (.pr (.sl (.int .i64)) (.pr (.int .i64) (.pr (.sl w_) (.pr .str (.pr (.int .i64) .unit)))))))))))))))))))
structure Ac where
 dx:Int
 m:Msg
 fit:Bool
 d:ByteArray
 i:Int
def acV (x:Ac):List Value:=.int .i64 x.dx::(bH x.m++[.bool x.fit,.string x.d,.int .i64 x.i])
theorem u2 {α:Type} {f:α→List Value} {t:Ty} {w:World} {P:α→Prop} (hg:∀ (c:Nat→Option Value) (x:t.den),t.At w c x→∃ y:α,(∀ j v,(f y)[j]? =some v→c j=some v)∧P y) {c:Nat→Option Value} {xs:List t.den} (h:(Ty.sl t).At w c xs) :
 ∃ (A:Option Addr) (cap:Nat) (L:List α),c 0=some (.slice A L.length cap)∧iE t.size f w A L∧(∀ y∈L,P y)∧L.length*t.bytes≤140737488351232∧L.length≤cap∧cap≤9223372036854775807∧(A=none→L.length=0∧cap=0):=by
 obtain ⟨A,cap,h0,h1,h2,h3⟩:=h
 have hno:A=none→xs.length=0:=fun e=>by
  rcases Nat.eq_zero_or_pos xs.length with hz | hz
  ·exact hz
  ·obtain ⟨b,o,hA,_⟩:=h3 hz;rw [e] at hA;cases hA
 rcases Nat.eq_zero_or_pos xs.length with hz | hz
 ·refine ⟨A,cap,[],by rw [h0];rw [hz];rfl,fun h=>absurd h (Nat.lt_irrefl _),fun y hy=>(by cases hy),(by rw [List.length_nil,Nat.zero_mul];exact Nat.zero_le _),Nat.zero_le _,h2.2.1,fun e=>⟨rfl,h2.2.2 e⟩⟩
 ·obtain ⟨b,o,hA,hb,hi⟩:=h3 hz;have g:∀ i:Fin xs.length,∃ y:α,(∀ j v,(f y)[j]? =some v→w.cell? ⟨b,o+i*t.size+j,none⟩=some v)∧P y:=fun i=>hg _ _ (hi i.1 xs[i.1] (List.getElem?_eq_getElem i.2))
  refine ⟨A,cap,List.ofFn fun i=>Classical.choose (g i),by rw [List.length_ofFn];exact h0,fun _=>⟨b,o,hA,fun i hil=>?_⟩,fun y hy=>?_,by rw [List.length_ofFn];exact h1,by rw [List.length_ofFn];exact h2.1,h2.2.1,fun e=>⟨by rw [List.length_ofFn];exact hno e,h2.2.2 e⟩⟩
  ·rw [List.length_ofFn] at hil;intro j v hv;rw [List.getElem_ofFn] at hv;exact (Classical.choose_spec (g ⟨i,hil⟩)).1 j v hv
  ·obtain ⟨i,hil,rfl⟩:=List.getElem_of_mem hy;rw [List.length_ofFn] at hil;rw [List.getElem_ofFn];exact (Classical.choose_spec (g ⟨i,hil⟩)).2
theorem sH {w:World} {c:Nat→Option Value} {xs:List Int} (h:(Ty.sl (.int .i64)).At w c xs):∃ (A:Option Addr) (cap:Nat),c 0=some (.slice A xs.length cap)∧IR w A cap xs∧xs.length*8≤140737488351232:=by
 have h':=h;obtain ⟨A0,c0,g0,g1,g2,g3⟩:=h';obtain ⟨A,cap,h0,hr,_,hb,hc⟩:=zD h;rw [g0] at h0;cases h0;refine ⟨A0,c0,g0,⟨(ey.of_row hr).2,hc.1,hc.2,fun e=>⟨?_,g2.2.2 e⟩⟩,hb⟩;rcases Nat.eq_zero_or_pos xs.length with hz | hz
 ·exact hz
 ·obtain ⟨b,o,hA,_⟩:=g3 hz;rw [e] at hA;cases hA
def BI (w:World) (q:Rd×Option Addr×Nat):Prop:=IR w q.2.1 q.2.2 q.1.acks∧q.1.acks.length*8≤140737488351232
theorem zB {w:World} (c:Nat→Option Value) (x:w_.den) (h:w_.At w c x):∃ q:Rd×Option Addr×Nat,(∀ j v,(rdV q)[j]? =some v→c j=some v)∧BI w q:=by
 obtain ⟨x0,x1,x2,xl,_⟩:=x;obtain ⟨g0,g1,g2,gl,_⟩:=h;obtain ⟨A,cap,e0,e1,e2⟩:=sH gl;refine ⟨(⟨x0,x1,x2,xl⟩,A,cap),fun j v hv=>?_,e1,e2⟩
 match j,hv with
 |0,hv=>cases hv;exact g0.1
 |1,hv=>cases hv;exact g1.1
 |2,hv=>cases hv;exact g2.1
 |3,hv=>cases hv;exact e0
 |j+4,hv=>simp [rdV] at hv
def wi (w:World) (x:Ac):Prop:=bX w (.slice x.m.E x.m.es.length x.m.c) x.m.es∧(∀ e∈x.m.es,e.Ok)∧x.m.es.length*32≤140737488351232∧x.m.d.size≤140737488351232∧x.d.size≤140737488351232
theorem wi.from_ {w w':World} {x:Ac} (h:wi w x) (hF:ah w w'):wi w' x:=⟨h.1.from_ hF,h.2⟩
theorem AF {w:World} (c:Nat→Option Value) (x:ub.den) (h:ub.At w c x):∃ X:Ac,(∀ j v,(acV X)[j]? =some v→c j=some v)∧wi w X:=by
 obtain ⟨x0,⟨xk,xf,xt,xtm,xix,xlt,xcm,xrd,xok,xE,xa,xd,xdn,_⟩,xb,xs,xi,_⟩:=x;obtain ⟨g0,⟨g1,g2,g3,g4,g5,g6,g7,g8,g9,gE,g11,g12,g13,_⟩,g14,g15,g16,_⟩:=h;obtain ⟨v,es,e0,e1,e2,e3⟩:=uZ gE;have e1':=e1;obtain ⟨E,c9,rfl,_⟩:=e1';refine ⟨⟨x0,{ zM with k:=xk,f:=xf,t:=xt,tm:=xtm,ix:=xix,lt:=xlt,cm:=xcm,rd:=xrd,ok:=xok,a:=xa,d:=xd,dn:=xdn,E:=E,c:=c9,es:=es },xb,xs,xi⟩,fun j v hv=>?_,e1,e2,e3,g12.2,g15.2⟩
 match j,hv with
 |0,hv=>cases hv;exact g0.1
 |1,hv=>cases hv;exact g1.1
 |2,hv=>cases hv;exact g2.1
 |3,hv=>cases hv;exact g3.1
 |4,hv=>cases hv;exact g4.1
 |5,hv=>cases hv;exact g5.1
 |6,hv=>cases hv;exact g6.1
 |7,hv=>cases hv;exact g7.1
 |8,hv=>cases hv;exact g8.1
 |9,hv=>cases hv;exact g9
 |10,hv=>cases hv;exact e0
 |11,hv=>cases hv;exact g11.1
 |12,hv=>cases hv;exact g12.1
 |13,hv=>cases hv;exact g13
 |14,hv=>cases hv;exact g14
 |15,hv=>cases hv;exact g15.1
 |16,hv=>cases hv;exact g16.1
 |j+17,hv=>simp [acV,bH] at hv
structure Bt (s:Rf) (a:Ra):Prop where
 sn:s.snap.size≤140737488351232
 pa:s.part.size≤140737488351232
 es:s.es.length*32≤140737488351232
 eo:∀ e∈s.es,e.Ok
 v:s.votes.length*8≤140737488351232
 x:s.next.length*8≤140737488351232
 m:s.mtch.length*8≤140737488351232
 n:s.sent.length*8≤140737488351232
 q:a.L.length*48≤140737488351232
 k:∀ q∈a.L,q.1.acks.length*8≤140737488351232
theorem zC {w:World} {c:Nat→Option Value} {x:o7.den} (h:o7.At w c x):∃ (s:Rf) (a:Ra),(∀ j v,(rfV s a)[j]? =some v→c j=some v)∧fo w s a∧Bt s a:=by
 obtain ⟨x0,x1,x2,x3,x4,x5,⟨xb,xt,xe,_⟩,xsn,xco,xel,xti,xse,xv,xx,xm,xn,xro,xq,xpa,xpo,_⟩:=x;obtain ⟨g0,g1,g2,g3,g4,g5,⟨g6,g7,g8,_⟩,g9,g10,g11,g12,g13,g14,g15,g16,g17,g18,g19,g20,g21,_⟩:=h;obtain ⟨v,es,e0,e1,e2,e3⟩:=uZ g8;have e1':=e1;obtain ⟨E,Ec,rfl,_⟩:=e1';obtain ⟨V,Vc,v0,v1,v2⟩:=sH g14;obtain ⟨X,Xc,y0,y1,y2⟩:=sH g15;obtain ⟨M,Mc,m0,m1,m2⟩:=sH g16;obtain ⟨N,Nc,n0,n1,n2⟩:=sH g17;obtain ⟨Q,Qc,L,q0,q1,q2,q3,q4,q5,q6⟩:=u2 (f:=rdV) zB g19;refine ⟨{ id:=x0,nodes:=x1,role:=x2,term:=x3,vote:=x4,leader:=x5,b:=xb,t:=xt,es:=es,snap:=xsn,commit:=xco,elapsed:=xel,timeout:=xti,seed:=xse,votes:=xv,next:=xx,mtch:=xm,sent:=xn,round:=xro,reads:=L.map (fun q=>q.1),part:=xpa,partOf:=xpo },⟨E,Ec,V,Vc,X,Xc,M,Mc,N,Nc,Q,Qc,L⟩,fun j v hv=>?_,⟨e1,v1,y1,m1,n1,rfl,q1,⟨q4,q5,q6⟩,fun q hq=>(q2 q hq).1⟩,⟨g9.2,g20.2,e3,e2,v2,y2,m2,n2,q3,fun q hq=>(q2 q hq).2⟩⟩
 match j,hv with
 |0,hv=>cases hv;exact g0.1
 |1,hv=>cases hv;exact g1.1
 |2,hv=>cases hv;exact g2.1
 |3,hv=>cases hv;exact g3.1
 |4,hv=>cases hv;exact g4.1
 |5,hv=>cases hv;exact g5.1
 |6,hv=>cases hv;exact g6.1
 |7,hv=>cases hv;exact g7.1
 |8,hv=>cases hv;exact e0
 |9,hv=>cases hv;exact g9.1
 |10,hv=>cases hv;exact g10.1
 |11,hv=>cases hv;exact g11.1
 |12,hv=>cases hv;exact g12.1
 |13,hv=>cases hv;exact g13.1
 |14,hv=>cases hv;exact v0
 |15,hv=>cases hv;exact y0
 |16,hv=>cases hv;exact m0
 |17,hv=>cases hv;exact n0
 |18,hv=>cases hv;exact g18.1
 |19,hv=>cases hv;exact q0
 |20,hv=>cases hv;exact g20.1
 |21,hv=>cases hv;exact g21.1
 |j+22,hv=>simp [rfV] at hv
structure ug (w:World) (s:Rf) (a:Ra) (LA:Option Addr) (X:List Ac):Prop where
 r:fo w s a
 z:Bt s a
 x:iE 17 acV w LA X
 o:∀ y∈X,wi w y
 n:X.length*147≤140737488351232
theorem ug.from_ {w w':World} {s:Rf} {a:Ra} {LA:Option Addr} {X:List Ac} (h:ug w s a LA X) (hF:ah w w'):ug w' s a LA X:=⟨h.r.from_ hF,h.z,h.x.from_ hF,fun y hy=>(h.o y hy).from_ hF,h.n⟩
def scV (s:Rf) (a:Ra) (LA:Option Addr) (n lc:Nat):List Value:=rfV s a++[.slice LA n lc]
theorem BH {cs:Array Value} {l:List Value} (hs:cs.size=l.length) (h:∀ (j:Nat) (v:Value),l[j]? =some v→cs[j]? =some v):cs=l.toArray:=by
 apply Array.ext_getElem?;intro i;rcases Nat.lt_or_ge i l.length with hi | hi
 ·rw [h i _ (List.getElem?_eq_getElem hi)];simp [hi]
 ·rw [Array.getElem?_eq_none (by omega)];simp [hi]
theorem vV {w:World} {cs:Array Value} {x:(Ty.pr o7 (.pr (.sl ub) .unit)).den} (hs:cs.size=23) (h:(Ty.pr o7 (.pr (.sl ub) .unit)).At w (fun j=>cs[j]?) x):∃ s a LA lc X,cs=(scV s a LA (List.length X) lc).toArray∧ug w s a LA X:=by
 obtain ⟨h1,h2,_⟩:=h;obtain ⟨s,a,hc,hr,hz⟩:=zC h1;obtain ⟨LA,lc,X,q0,q1,q2,q3,q4,q5,q6⟩:=u2 (f:=acV) AF h2;refine ⟨s,a,LA,lc,X,BH hs fun j v hv=>?_,⟨hr,hz,q1,q2,q3⟩⟩;unfold scV at hv;rcases Nat.lt_or_ge j 22 with hj | hj
 ·rw [List.getElem?_append_left (show j<(rfV s a).length from hj)] at hv;exact hc j v hv
 ·rw [List.getElem?_append_right (show (rfV s a).length≤j from hj)] at hv
  obtain rfl:j=22:=by
   have:=(List.getElem?_eq_some_iff.1 hv).1;rw [my] at this;simp at this;omega
  simp [my] at hv;subst hv;exact q0
def Small (s:Rf) (X:List Ac):Prop:=(s.votes.length≤20000∧s.next.length≤20000∧s.mtch.length≤20000∧s.sent.length≤20000∧s.reads.length≤20000∧∀ q∈s.reads,q.acks.length≤20000)∧s.es.length≤600∧X.length≤100∧(s.snap.size≤20000∧s.part.size≤20000)∧∀ y∈X,y.m.es.length≤200∧y.m.d.size≤20000∧y.d.size≤20000
theorem xY {w:World} {A:Option Addr} {n c:Nat} {es:List Ent} (h:bX w (.slice A n c) es) (hs:∀ e∈es,e.Ok) (h0:0<n):∃ b o,A=some ⟨b,o,none⟩∧∀ j,j<n→∃ s:ByteArray,w.cell? ⟨b,o+j*3+2,none⟩=some (.string s)∧s.size≤140737488351232:=by
 obtain ⟨A',c',hv,_,_,_,hp⟩:=h;simp only [Value.slice.injEq] at hv;obtain ⟨rfl,rfl,rfl⟩:=hv;obtain ⟨b,o,hA,_,hc⟩:=hp h0;exact ⟨b,o,hA,fun j hj=>⟨es[j].d,(hc j hj).2.2,(hs _ (List.getElem_mem hj)).2.2.2.2⟩⟩
theorem mG (A:Option Addr) (c n:Nat) (es:List Ent) (w:World) (he:bX w (.slice A n c) es) (ho:∀ e∈es,e.Ok) (hl:n≤140737488351232) :
 Rt prog 25 [.slice A n c] w (fun v w'=>(∃ m:Nat,v=.int .i64 (m:Nat)∧n≤m∧m≤562949953421312)∧w=w'):=by
 refine enter (n:=26) Tryz.func25 rfl rfl rfl (ak (af (asi rfl (ai (ag (ak (af (mvs rfl (aa (bF bC rfl) (asi rfl (ai (ag (ak (ak (af (asi rfl ?_))))))))))))))));refine ai (ag (a_ (cY (G:=Nat×Nat) [7,8,9,10,11,12,13,14,15,16,17,18,19,20,21,22,23,24] (fun (m,k)=>[(3,.int .i64 (m:Nat)),(4,.int .i64 (k:Nat))]) (fun (m,k) w'=>k≤n∧n≤m∧m≤562949953421312∧w=w') (fun (_,k)=>n-k) ((n,0)) ⟨rfl,rfl,trivial⟩ ?_ ?_)))
 ·exact ⟨Nat.zero_le _,Nat.le_refl _,by omega,rfl⟩
 rintro ⟨m,k⟩ ρ1 w1 ⟨hk,hnm,hm,rfl⟩;refine ak (ak (af (mvi rfl (mvs rfl (aa (bF bC rfl) (aa (cg rfl rfl) (mvb rfl (AP (t:=11) rfl (fun Q2=>?_) (fun Q2=>?_)))))))))
 ·refine ae rfl (mvi rfl (ae rfl (aa (cg rfl rfl) (aa (aG (v:=.bool _) rfl rfl) (ai (ag (Bn rfl (fun Q3=>?_) (fun Q3=>?_))))))))
  ·obtain ⟨ba,oa,hA,hcs⟩:=xY he ho (by omega);subst hA;obtain ⟨s,hs1,hs2⟩:=hcs k (by omega);refine aM (ag (ak (a_ (af (mvi rfl (mvs rfl (mvi rfl (aa (bq bU rfl rfl (by omega)) (aa (ab ta rfl) (aa (ar dc rfl (by exact hs1)) ?_))))))))));refine aa (f_ (by kernel_rfl) rfl) (aa (dD rfl rfl (by omega)) (asi rfl (ai (bN (ag (af (mvi rfl (aa (dD (b:=1) rfl rfl (by omega)) (asi rfl (ai ?_))))))))));refine bT ((m+s.size,k+1)) ⟨(by first | rfl | (refine bM ?_;omega)),(by first | rfl | (refine bM ?_;omega)),trivial⟩ (by (iterate 41 refine bf rfl ?_);exact bB) ⟨?_,?_⟩
   ·exact ⟨by omega,by omega,by omega,rfl⟩
   ·show n-(k+1)<n-k;omega
  refine cq (bg (bg (b_ (ag (ak (af (mvi rfl (asi rfl (ai (ag (aC (bw (v:=.int _ _) rfl rfl (⟨⟨_,rfl,hnm,hm⟩,rfl⟩)))))))))))))
 refine an rfl rfl (an rfl rfl (aa (av (v:=.bool _) rfl rfl) (ai (ag (bA rfl (cq (bg (bg (b_ (ag (ak (af (mvi rfl (asi rfl ?_))))))))))))));refine ai (ag (aC (bw (v:=.int _ _) rfl rfl (⟨⟨_,rfl,hnm,hm⟩,rfl⟩))))
def wiN (i:Int) (n:Nat):Nat:=(IntKind.u64.wrap i).toNat%n
theorem je (i:Int) (n:Nat) (w:World) (hn:0<n∧n≤1000) :
 Rt prog 31 [.int .i64 i,.int .i64 (n:Nat)] w (fun v w'=>v=.int .i64 (wiN i n:Nat)∧w=w'):=by
 obtain ⟨a,ha,ha2⟩:∃ a:Nat,IntKind.u64.wrap i=(a:Int)∧a<18446744073709551616:=⟨(IntKind.u64.wrap i).toNat,by rw [IntKind.wrap_u64];omega,by rw [IntKind.wrap_u64];omega⟩;have hm:a%n<n:=Nat.mod_lt _ hn.1;have hwi:wiN i n=a%n:=by unfold wiN;rw [ha];rfl
 refine enter (n:=11) Tryz.func31 rfl rfl rfl (ak (af (asi rfl (ai (ag (ak (af (mvi rfl (aa (uJ s_ pO rfl) (dP (t:=6) (v:=.int _ _) (v':=.int .u64 (a:Nat)) rfl (by rw [ha]) ?_))))))))));refine mvi rfl (aa (vu s_ pO rfl (by omega)) (aa (wT rfl rfl (by omega)) ?_));refine dP (t:=9) (v:=.int _ _) (v':=.int .u64 ((a%n:Nat):Int)) rfl (by rw [Int.tmod_eq_emod_of_nonneg (by omega)];rfl) ?_;refine aa (wW uy yr rfl (by omega)) (asi rfl (ai (ag (aC (bw (v:=.int _ _) rfl rfl ?_)))));rw [hwi];exact ⟨rfl,rfl⟩
theorem qy (m:Msg) (w:World) (he:bX w (.slice m.E m.es.length m.c) m.es) (ho:∀ e∈m.es,e.Ok) (hl:m.es.length≤140737488351232) (hd:m.d.size≤140737488351232) :
 Rt prog 26 [.agg (bH m).toArray] w (fun v w'=>(∃ b,v=.bool b∧(b=false→m.es.length≤200∧m.d.size≤20000))∧ah w w'):=by
 refine enter (n:=19) Tryz.func26 rfl rfl rfl (ak (af (bZ (v:=.agg _) rfl ?_)));intro b1 w1 E1 hb1 hk1;refine asb rfl (ai (ag (ak (af (aa (ab iW rfl) (aa (ar dc rfl (by exact (show _=some (Value.string m.d) from (hk1.from_ ah.rfl_).rd 11 rfl))) ?_))))));refine aa (f_ (by kernel_rfl) rfl) (aa (ch rfl rfl) (mvb rfl (AP (t:=7) rfl (fun Q2=>?_) (fun Q2=>?_))))
 ·refine an rfl rfl (an rfl rfl (an rfl rfl (an rfl rfl (aa (aG (v:=.bool _) rfl rfl) (mvb rfl (an rfl rfl (an rfl rfl (an rfl rfl ?_))))))));refine an rfl rfl (aa (aG (v:=.bool _) rfl rfl) (asb rfl (ai (ag (aC (bw (v:=.bool _) rfl rfl (⟨⟨_,rfl,fun h=>?_⟩,(ah.rfl_.next E1)⟩)))))))
  first
   |(exfalso;simp at h;done)
   |(have h9:=dF_ h;omega)
   |(simp only [decide_eq_false_iff_not] at h;omega)
   |(simp at h;omega)
 refine ae rfl (aa (ab bS rfl) (ae rfl (aa (ar bk rfl (by exact (show _=some (Value.slice m.E m.es.length m.c) from (hk1.from_ ah.rfl_).rd 9 rfl))) ?_)));refine ae rfl (az qI (mG m.E m.c m.es.length m.es _ (he.from_ (ah.rfl_.next E1)) ho hl) ?_);rintro v10 w3 ⟨⟨m10,rfl,hm1,hm2⟩,rfl⟩;refine ae rfl (aa (ch rfl rfl) (aa (av (v:=.bool _) rfl rfl) (mvb rfl (AP (t:=13) rfl (fun Q4=>?_) (fun Q4=>?_)))))
 ·refine an rfl rfl (an rfl rfl (an rfl rfl (an rfl rfl (aa (aG (v:=.bool _) rfl rfl) (asb rfl (ai (ag (aC (bw (v:=.bool _) rfl rfl (⟨⟨_,rfl,fun h=>?_⟩,(ah.rfl_.next E1)⟩))))))))))
  first
   |(exfalso;simp at h;done)
   |(have h9:=dF_ h;omega)
   |(simp only [decide_eq_false_iff_not] at h;omega)
   |(simp at h;omega)
 refine ae rfl (aa (ab bS rfl) (ae rfl (aa (ar bk rfl (by exact (show _=some (Value.slice m.E m.es.length m.c) from (hk1.from_ ah.rfl_).rd 9 rfl))) ?_)));refine ae rfl (aa (bF bC rfl) (ae rfl (aa (ch rfl rfl) (aa (av (v:=.bool _) rfl rfl) (asb rfl (ai (ag (aC (bw (v:=.bool _) rfl rfl (⟨⟨_,rfl,fun h=>?_⟩,(ah.rfl_.next E1)⟩))))))))))
 first
  |(exfalso;simp at h;done)
  |(have h9:=dF_ h;omega)
  |(simp only [decide_eq_false_iff_not] at h;omega)
  |(simp at h;omega)
end Go.Proofs.YtkpooenofjdpmaaGreat
