/- texts that the claim stands on. -/
import Derived.Test.YtkpooenofjdpmaaGreatSlRfLawV24

set_option maxRecDepth 100000
set_option maxHeartbeats 4000000
namespace Go.Proofs.YtkpooenofjdpmaaGreat
open Go.Proofs.Tryz (prog)
open Go.RowKit
open Go.ChangeShapes Go.WideShapes Go.ChangeAt
theorem aJ:cK prog 111 0=some 0:=by kernel_rfl
theorem jZ:aO prog 65=true:=by kernel_rfl
theorem o5:aO prog 69=true:=by kernel_rfl
theorem jv:cK prog 111 1=some 22:=by kernel_rfl
theorem iY:aO prog 71=true:=by kernel_rfl
theorem fM:∀ (a0:Int) (a1:Int) (a2:Int) (a3:Int) (a4:Int) (a5:ByteArray) (a6:Bool),prog.built 39 [(0,.int .i64 5),(2,.int .i64 a0),(4,.int .i64 a1),(5,.int .i64 a2),(7,.int .i64 a3),(10,.int .i64 a4),(11,.string a5),(12,.bool a6)]=some #[.int .i64 5,.int .i64 0,.int .i64 a0,.int .i64 0,.int .i64 a1,.int .i64 a2,.int .i64 0,.int .i64 a3,.bool false,.slice none 0 0,.int .i64 a4,.string a5,.bool a6]:=by intros;kernel_rfl
theorem o4:aO prog 82=true:=by kernel_rfl
theorem sQ:aO prog 109=true:=by kernel_rfl
theorem gA:∀ (a0:Int) (a1:Int) (a2:Int) (a3:Int) (a4:Int) (a5:Option Addr) (a6 a7:Nat),prog.built 39 [(0,.int .i64 3),(2,.int .i64 a0),(4,.int .i64 a1),(5,.int .i64 a2),(6,.int .i64 a3),(7,.int .i64 a4),(9,.slice a5 a6 a7)]=some #[.int .i64 3,.int .i64 0,.int .i64 a0,.int .i64 0,.int .i64 a1,.int .i64 a2,.int .i64 a3,.int .i64 a4,.bool false,.slice a5 a6 a7,.int .i64 0,.string ⟨#[]⟩,.bool false]:=by intros;kernel_rfl
theorem lU (s:Rf) (E:Option Addr) (n c:Nat) (w:World) (h:cz w (.slice E n c) s.es) (_:cJ s.b s.t s.es=true):Rt prog 65 [.agg #[.int .i64 s.b,.int .i64 s.t,.slice E n c]] w fun v w'=>v=.tuple #[.int .i64 (a_ s),.int .i64 (de s.t s.es)]∧ah w w':=
 (Rt.of (nd s.b s.t _ s.es w h)).mono fun _ _ h=>h
theorem rN (T g:Nat) (s:Rf) (a:Ra) (R:List Value) (w:World) (hb:Blk w g T (rfV s a++R).toArray) (he:cz w (.slice a.E s.es.length a.Ec) s.es) (hm:cJ s.b s.t s.es=true) :
 Rt prog 70 [.pointer (some ⟨g,0,none⟩)] w (fun v w'=>v=.tuple #[.int .i64 (a_ s),.int .i64 (de s.t s.es)]∧ah w w'):=by
 refine enter (n:=12) Tryz.func70 rfl rfl rfl (ak (af (asi rfl (asi rfl (aj (ag (ak (af (mvp rfl (aa (av rfl) (aa (ab aJ rfl) (aa (ab bq rfl) ?_))))))))))));refine aa (aG (cs:=[.int .i64 s.b,.int .i64 s.t,.slice a.E s.es.length a.Ec]) dd cT rfl (js (hb.from_ ah.rfl_))) (ay jZ (lU s a.E s.es.length a.Ec _ (he.from_ ah.rfl_) hm) ?_);rintro v9 w1 ⟨rfl,E9⟩;refine aa (aZ rfl rfl) (aa (aZ rfl rfl) (asi rfl (asi rfl (aj (ag (aB (lS (v:=.int _ _) (v':=.int _ _) rfl rfl rfl (⟨rfl,(ah.rfl_.next E9)⟩))))))))
theorem sr (w0:World) (Z:Nat→Prop) (T g:Nat) (p:Sp) (w:World) (h:aQ w0 Z w T g p) :
 Rt prog 69 [.pointer (some ⟨g,0,none⟩)] w (fun v w'=>v=.tuple #[]∧aQ w0 Z w' T g ⟨dA p.s,p.out⟩):=by
 obtain ⟨s,out⟩:=p;obtain ⟨tag,a,O,oc,L,hs⟩:=h.ex;obtain ⟨E,Ec,V,Vc,X,Xc,M,Mc,Sn,Sc,Q,Qc,LL⟩:=a;have hb:Blk w g T (rfV s (⟨E,Ec,V,Vc,X,Xc,M,Mc,Sn,Sc,Q,Qc,LL⟩:Ra)++[Value.slice O L.length oc]).toArray:=hs.b
 have hll:L.length=out.length:=by
  have h9:=congrArg List.length hs.m.l;rw [List.length_map] at h9;exact h9
 have hB0:ah w w:=ah.rfl_;refine enter (n:=22) Tryz.func69 rfl rfl rfl (ak (af (mvp rfl (aa (av rfl) (aa (ab aJ rfl) (aa (ab cf rfl) ?_))))));have hB0:ah _ w:=ah.rfl_;refine cj (s':=({ s with votes:=[] }:Rf)) (a':=(⟨E,Ec,none,0,X,Xc,M,Mc,Sn,Sc,Q,Qc,LL⟩:Ra)) (v:=.slice _ _ _) cy rfl rfl rfl ((hb.from_ ah.rfl_)) (by exact ⟨by decide,rfl⟩) ?_;intro w1 O0_0 P0_0;have hC1:Chg (fun k=>k=g) w w1:=(ah.toChg hB0).only O0_0 rfl;refine aj (ag (ak (af (mvp rfl (aa (av rfl) (aa (ab aJ rfl) (aa (ab bY rfl) ?_)))))));have hB1:ah _ w1:=(ah.rfl_ (a:=w1));refine cj (s':=({ s with votes:=[],next:=[] }:Rf)) (a':=(⟨E,Ec,none,0,none,0,M,Mc,Sn,Sc,Q,Qc,LL⟩:Ra)) (v:=.slice _ _ _) cy rfl rfl rfl ((P0_0.from_ (ah.rfl_ (a:=w1)))) (by exact ⟨by decide,rfl⟩) ?_;intro w2 O1_0 P1_0;replace hC1:=(hC1.next (ah.toChg hB1)).only O1_0 rfl;refine aj (ag (ak (af (mvp rfl (aa (av rfl) (aa (ab aJ rfl) (aa (ab cu rfl) ?_)))))));have hB2:ah _ w2:=(ah.rfl_ (a:=w2));refine cj (s':=({ s with votes:=[],next:=[],mtch:=[] }:Rf)) (a':=(⟨E,Ec,none,0,none,0,none,0,Sn,Sc,Q,Qc,LL⟩:Ra)) (v:=.slice _ _ _) cy rfl rfl rfl ((P1_0.from_ (ah.rfl_ (a:=w2)))) (by exact ⟨by decide,rfl⟩) ?_;intro w3 O2_0 P2_0;replace hC1:=(hC1.next (ah.toChg hB2)).only O2_0 rfl;refine aj (ag (ak (af (mvp rfl (aa (av rfl) (aa (ab aJ rfl) (aa (ab cN rfl) ?_)))))));have hB3:ah _ w3:=(ah.rfl_ (a:=w3));refine cj (s':=({ s with votes:=[],next:=[],mtch:=[],sent:=[] }:Rf)) (a':=(⟨E,Ec,none,0,none,0,none,0,none,0,Q,Qc,LL⟩:Ra)) (v:=.slice _ _ _) cy rfl rfl rfl ((P2_0.from_ (ah.rfl_ (a:=w3)))) (by exact ⟨by decide,rfl⟩) ?_;intro w4 O3_0 P3_0;replace hC1:=(hC1.next (ah.toChg hB3)).only O3_0 rfl;refine aj (ag (af (mvp rfl (aa (av rfl) (aa (ab aJ rfl) (aa (ab bU rfl) ?_))))));have hB4:ah _ w4:=(ah.rfl_ (a:=w4));refine cj (s':=({ s with votes:=[],next:=[],mtch:=[],sent:=[],reads:=[] }:Rf)) (a':=(⟨E,Ec,none,0,none,0,none,0,none,0,none,0,[]⟩:Ra)) (v:=.slice _ _ _) iW rfl rfl rfl ((P3_0.from_ (ah.rfl_ (a:=w4)))) (by exact ⟨by decide,rfl⟩) ?_;intro w5 O4_0 P4_0;replace hC1:=(hC1.next (ah.toChg hB4)).only O4_0 rfl;refine aj (cC (dV rfl (⟨rfl,(h.set (s':=dA s) (a':=(⟨E,Ec,none,0,none,0,none,0,none,0,none,0,[]⟩:Ra)) hs hC1 (bh.same hs.f.alone rfl rfl rfl rfl rfl rfl) P4_0).2⟩)))
theorem mf (w0:World) (Z:Nat→Prop) (T g:Nat) (p:Sp) (w:World) (h:aQ w0 Z w T g p) (tm:Int) :
 Rt prog 124 [.pointer (some ⟨g,0,none⟩),.int .i64 tm] w (fun v w'=>v=.tuple #[]∧aQ w0 Z w' T g ⟨bS p.s tm,p.out⟩):=by
 obtain ⟨s,out⟩:=p;obtain ⟨tag,a,O,oc,L,hs⟩:=h.ex;obtain ⟨E,Ec,V,Vc,X,Xc,M,Mc,Sn,Sc,Q,Qc,LL⟩:=a;have hb:Blk w g T (rfV s (⟨E,Ec,V,Vc,X,Xc,M,Mc,Sn,Sc,Q,Qc,LL⟩:Ra)++[Value.slice O L.length oc]).toArray:=hs.b
 have hll:L.length=out.length:=by
  have h9:=congrArg List.length hs.m.l;rw [List.length_map] at h9;exact h9
 have hB0:ah w w:=ah.rfl_;refine enter (n:=38) Tryz.func124 rfl rfl rfl (ak (af (mvp rfl (aa (av rfl) (aa (ab aJ rfl) (aa (ab cG rfl) ?_))))));have hB0:ah w w:=ah.rfl_;refine cj (s':=({ s with role:=0 }:Rf)) (a':=(⟨E,Ec,V,Vc,X,Xc,M,Mc,Sn,Sc,Q,Qc,LL⟩:Ra)) (v:=.int _ _) bF rfl rfl rfl (hb) (by exact ⟨by decide,rfl⟩) ?_;intro w1 O0_0 P0_0;have hC1:Chg (fun k=>k=g) w w1:=(ah.toChg hB0).only O0_0 rfl;refine aj (ag (ak (af (mvp rfl (aa (av rfl) (aa (ab aJ rfl) (aa (ab ek rfl) ?_)))))));have hB1:ah _ w1:=(ah.rfl_ (a:=w1));refine cj (s':=({ s with role:=0,leader:=0 }:Rf)) (a':=(⟨E,Ec,V,Vc,X,Xc,M,Mc,Sn,Sc,Q,Qc,LL⟩:Ra)) (v:=.int _ _) bF rfl rfl rfl ((P0_0.from_ (ah.rfl_ (a:=w1)))) (by exact ⟨by decide,rfl⟩) ?_;intro w2 O1_0 P1_0;have hC2:=(hC1.next (ah.toChg hB1)).only O1_0 rfl;obtain ⟨hs3,h3⟩:=h.set (s':=({ s with role:=0,leader:=0 }:Rf)) (a':=(⟨E,Ec,V,Vc,X,Xc,M,Mc,Sn,Sc,Q,Qc,LL⟩:Ra)) hs hC2 (bh.same hs.f rfl rfl rfl rfl rfl rfl) P1_0;refine aj (ag (ak (af (mvp rfl (ay o5 (sr w0 Z T g ⟨({ s with role:=0,leader:=0 }:Rf),out⟩ _ (h3.from_ (ah.rfl_ (a:=w2)))) ?_)))));rintro v13 w3 ⟨rfl,h13⟩;have h13:aQ w0 Z w3 T g ⟨({ dA s with role:=0,leader:=0 }:Rf),out⟩:=h13;obtain ⟨tag9,a9,O9,oc9,L9,hs9⟩:=h13.ex;have hb9:=hs9.b;refine aj (ag (ak (af (mvi rfl (mvp rfl (aa (av rfl) (aa (ab aJ rfl) (aa (ab bm rfl) (aa (ar ao rfl (by exact (show _=some (Value.int .i64 s.term) from ct (hb9.from_ (ah.rfl_ (a:=w3))) 3 rfl))) ?_)))))))));refine aa (cn rfl rfl) (aj (ag (Bk rfl (fun Q4=>?_) (fun Q4=>?_))))
 ·refine ak (af (mvp rfl (mvi rfl (aa (av rfl) (aa (ab aJ rfl) (aa (ab bm rfl) ?_))))));have hB4:ah _ w3:=(ah.rfl_ (a:=w3));refine cj (s':=({ dA s with role:=0,leader:=0,term:=tm }:Rf)) (a':=a9) (v:=.int _ _) bF rfl rfl rfl ((hb9.from_ (ah.rfl_ (a:=w3)))) (by exact ⟨by decide,rfl⟩) ?_;intro w5 O4_0 P4_0;have hC4:Chg (fun k=>k=g) _ w5:=(ah.toChg hB4).only O4_0 rfl;refine aj (ag (ak (af (mvp rfl (aa (av rfl) (aa (ab aJ rfl) (aa (ab eQ rfl) ?_)))))));have hB5:ah _ w5:=(ah.rfl_ (a:=w5));refine cj (s':=({ dA s with role:=0,leader:=0,term:=tm,vote:=0 }:Rf)) (a':=a9) (v:=.int _ _) bF rfl rfl rfl ((P4_0.from_ (ah.rfl_ (a:=w5)))) (by exact ⟨by decide,rfl⟩) ?_;intro w6 O5_0 P5_0;have hC5:=(hC4.next (ah.toChg hB5)).only O5_0 rfl;refine aj (ag (ak (af (mvp rfl (aa (av rfl) (aa (ab aJ rfl) (aa (ab dX rfl) ?_)))))));have hB6:ah _ w6:=(ah.rfl_ (a:=w6));refine cj (s':=({ dA s with role:=0,leader:=0,term:=tm,vote:=0,part:=⟨#[]⟩ }:Rf)) (a':=a9) (v:=.string _) mS rfl rfl rfl ((P5_0.from_ (ah.rfl_ (a:=w6)))) (by exact ⟨by decide,rfl⟩) ?_;intro w7 O6_0 P6_0;have hC6:=(hC5.next (ah.toChg hB6)).only O6_0 rfl;refine aj (ag (af (mvp rfl (aa (av rfl) (aa (ab aJ rfl) (aa (ab dW rfl) ?_))))));have hB7:ah _ w7:=(ah.rfl_ (a:=w7));refine cj (s':=({ dA s with role:=0,leader:=0,term:=tm,vote:=0,part:=⟨#[]⟩,partOf:=0 }:Rf)) (a':=a9) (v:=.int _ _) bF rfl rfl rfl ((P6_0.from_ (ah.rfl_ (a:=w7)))) (by exact ⟨by decide,rfl⟩) ?_;intro w8 O7_0 P7_0;have hC7:=(hC6.next (ah.toChg hB7)).only O7_0 rfl;refine aj (cC (dV rfl (⟨rfl,?_⟩)));show aQ w0 Z _ T g ⟨bS s tm,out⟩;unfold bS;simp only
  first
   |(rw [if_pos (show s.term<tm by omega)];exact (h13.set (s':=({ dA s with role:=0,leader:=0,term:=tm,vote:=0,part:=⟨#[]⟩,partOf:=0 }:Rf)) (a':=a9) hs9 hC7 (bh.same hs9.f rfl rfl rfl rfl rfl rfl) P7_0).2)
   |(rw [if_neg (show ¬ s.term<tm by omega)];exact h13.from_ (ah.rfl_ (a:=w8)))
 refine aM (cC (dV rfl (⟨rfl,?_⟩)));show aQ w0 Z _ T g ⟨bS s tm,out⟩;unfold bS;simp only
 first
  |(rw [if_pos (show s.term<tm by omega)];exact (h13.set (s':=({ dA s with role:=0,leader:=0,term:=tm,vote:=0,part:=⟨#[]⟩,partOf:=0 }:Rf)) (a':=a9) hs9 hC7 (bh.same hs9.f rfl rfl rfl rfl rfl rfl) P7_0).2)
  |(rw [if_neg (show ¬ s.term<tm by omega)];exact h13.from_ (ah.rfl_ (a:=w3)))
theorem ke (w0:World) (Z:Nat→Prop) (T g:Nat) (p:Sp) (w:World) (h:aQ w0 Z w T g p) (tag:Nat→Nat) (a:Ra) (O:Option Addr) (oc:Nat) (L:List Msg) (hs:gn w Z T g tag p a O oc L) (hl:L.length≤1000) (m:Msg) (hE:w.ownsRow 0 99 3 (.slice m.E m.es.length m.c) m.es.length (dF m.es)∧Col tag (1000+2*L.length) m.E) :
 Rt prog 71 [.pointer (some ⟨g,0,none⟩),.agg (bD m).toArray] w (fun v w'=>v=.tuple #[]∧aQ w0 Z w' T g (p.tell (pl m))):=by
 refine enter (n:=26) Tryz.func71 rfl rfl rfl (ak (af (bK (v:=.agg _) rfl ?_)));intro b3 w1 E3 hb3 hk3;have hgb:=hs.b.lt;have h5:g≠b3:=by omega
 have hg3:w.heap.size≤b3:=Nat.le_of_eq hb3.symm;have hgA:=hs.b.from_ (ah.rfl_.next E3);refine aj (ag (ak (af (mvp rfl (aa (av rfl) (aa (ab aJ rfl) (aa (ab bZ rfl) (aa (ar ao rfl (by exact ct (hgA.from_ ah.rfl_) 0 rfl)) ?_))))))));refine aa (ab cH rfl) ?_;have hM1:ah _ w1:=ah.rfl_;refine fR (v:=.int _ _) bF rfl rfl rfl ((hk3.from_ ah.rfl_)) (by show _<13;decide) ?_;intro w2 O1 P1;have hgB0:=(hgA.from_ hM1).only O1 h5;refine aj (ag (ak (af (mvp rfl (aa (av rfl) (aa (ab aJ rfl) (aa (ab bm rfl) (aa (ar ao rfl (by exact ct (hgB0.from_ ah.rfl_) 3 rfl)) ?_))))))));refine aa (ab bt rfl) ?_;have hM2:ah _ w2:=ah.rfl_;refine fR (v:=.int _ _) bF rfl rfl rfl ((P1.from_ ah.rfl_)) (by show _<13;decide) ?_;intro w3 O2 P2;have hgB:=(hgB0.from_ hM2).only O2 h5;have hB:ah w w3:=(((ah.rfl_.next E3).only O1 (hg3)).only O2 (hg3));have hX:Blk w3 b3 39 (bD { m with f:=p.s.id,tm:=p.s.term }).toArray:=P2;refine aj (ag ?_);apply qH 8 7 [22] [(16,eqp _),(17,eqp _),(18,eqp _),(19,eqp _),(20,eqp (.slice O L.length oc)),(21,eqp (.agg (bD { m with f:=p.s.id,tm:=p.s.term }).toArray)),(22,fun v w'=>∃ q,v=.slice (some ⟨q,0,none⟩) 1 1∧Blk w' q 39 (bD { m with f:=p.s.id,tm:=p.s.term }).toArray),(23,fun v w'=>∃ A2 c2,v=.slice A2 (L.length+1) c2∧w'.ownsRow 0 39 13 (.slice A2 (L.length+1) c2) (L.length+1) (L.flatMap bD++bD { m with f:=p.s.id,tm:=p.s.term })∧(∀ k,A2.map (·.block)=some k→O.map (·.block)=some k∨(w3).heap.size≤k))] (fun w'=>ah w3 w') (fun w'=>(w3).grownBy w' (O.map (·.block))) (by repeat first | exact cB | refine cA ?_ | refine bW ?_) (by kernel_rfl) (by kernel_rfl) (by kernel_rfl) ⟨aq _,aq _,aq _,aq _,aq _,aq _,(fun _ _ _ hF ⟨q,h1,h2⟩=>⟨q,h1,h2.from_ hF⟩),(fun _ _ _ hF ⟨A2,c2,h1,h2,h3⟩=>⟨A2,c2,h1,h2.kept_from hF,h3⟩),trivial⟩ (ah.rfl_.d1) (ah.rfl_.d1.grown _) (fun _ _ hF h=>h.next hF) (fun _ _ hF h=>cY h (hF.grown _))
 case hop=>
  constructor
  ·rintro-w5 hG5;exact au (aH (v:=.pointer _) rfl) rfl
  constructor
  ·rintro-w6 D6;exact au (aH (v:=.pointer _) rfl) rfl
  constructor
  ·rintro-w7 D7;rintro _ rfl;exact au (av rfl) rfl
  constructor
  ·rintro-w8 D8;rintro _ rfl;exact au (ab jv rfl) rfl
  constructor
  ·rintro-w9 D9;rintro _ rfl;exact au (ar iX rfl (show _=some (Value.slice O L.length oc) from (hgB.from_ D9).rd 22 rfl)) rfl
  constructor
  ·rintro-w10 D10;exact au (aG (cs:=bD { m with f:=p.s.id,tm:=p.s.term }) bk aY rfl ((hX.from_ D10).whole)) rfl
  constructor
  ·rintro-w11 D11;rintro v11_21 rfl;exact mJ (od (l:=[(0,.tmp 21)]) (cells:=(bD { m with f:=p.s.id,tm:=p.s.term }).toArray) gP rfl rfl (by show Instr.fill _ _ [(0,Value.agg (bD { m with f:=p.s.id,tm:=p.s.term }).toArray)]=_;kernel_rfl)) (ah.rfl_.new _) ⟨_,rfl,Blk.new _ _ _⟩
  constructor
  ·intro h;cases h
  exact trivial
 case hmu=>
  rintro w13 D13;rintro v13_20 rfl v13_22 ⟨q13,rfl,hq13⟩;show rf ..;refine lr (news:=bD { m with f:=p.s.id,tm:=p.s.term }) gP rfl (by decide) rfl ((hs.m.o.kept_from hB).kept_from D13) (Nat.zero_le _) rfl rfl ⟨_,_,rfl,hq13.whole⟩ (by simp [bD,Value.oneCell']) (by omega) (by omega) ?_;intro A3 c3 w3 ho3 hg3 hl3;exact ⟨cY (D13.grown _) hg3,⟨A3,c3,rfl,ho3,fun k hk=>(hl3 k hk).imp id fun e=>Nat.le_trans D13.size e⟩,fun t u ht h=>kr (by repeat first | exact trivial | refine ⟨.inl rfl,?_⟩ | refine ⟨.inr (fun _ h=>h),?_⟩) t u ht h⟩
 case hend=>
  rintro w14 hG14;rintro _ rfl _ rfl _ rfl _ rfl v20 rfl v21 rfl v22 _ v23 ⟨A23,c23,rfl,ho23,hL23⟩;show St ..;have hgD:=hG14;have hgC:=hgB.chg (Chg.of_grown (U:=fun k=>tag k=6) hgD (fun k hk=>hs.m.c k hk)) (fun e=>by rw [hs.gc] at e;cases e);refine aa (av rfl) (aa (ab jv rfl) (fR (v:=.slice _ _ _) oY rfl rfl rfl (hgC) (by show _<23;decide) ?_));intro w15 O3 P3;refine aj (cC (dV rfl (⟨rfl,h.push hs (x:={ m with f:=p.s.id,tm:=p.s.term }) hE hB hgD ho23 rfl (fun k hk=>(hL23 k hk).imp id fun e=>Nat.le_trans hB.size e) O3 P3⟩)))
theorem xg (s:Rf) (i:Int) (E:Option Addr) (c:Nat) (w:World) (h:cz w (.slice E s.es.length c) s.es) (hm:cJ s.b s.t s.es=true) (hi:s.b≤i∧i≤a_ s):Rt prog 82 [.agg #[.int .i64 s.b,.int .i64 s.t,.slice E s.es.length c],.int .i64 i] w fun v w'=>v=.tuple #[.int .i64 (dJ s.b s.t s.es i),.bool true]∧ah w w':=
 tw s.b s.t i E s.es.length c s.es w h hm ⟨hi.1,by have:=(eP hm).1;have h2:a_ s=s.b+s.es.length:=this;omega⟩
theorem vL (s:Rf) (i:Int) (E:Option Addr) (c:Nat) (w:World) (h:cz w (.slice E s.es.length c) s.es) (hm:cJ s.b s.t s.es=true) (hi:s.b+1≤i∧i≤a_ s+1):Rt prog 109 [.agg #[.int .i64 s.b,.int .i64 s.t,.slice E s.es.length c],.int .i64 i,.int .i64 16] w fun v w'=>(∃ A' c',v=.slice A' ((s.es.drop (i-s.b-1).toNat).take 16).length c'∧w'.ownsRow w.heap.size 99 3 (.slice A' ((s.es.drop (i-s.b-1).toNat).take 16).length c') ((s.es.drop (i-s.b-1).toNat).take 16).length (dF ((s.es.drop (i-s.b-1).toNat).take 16)))∧ah w w':=
 (rP s.b s.t i 16 E c s.es w h hm ⟨hi.1,by have:=(eP hm).1;have h2:a_ s=s.b+s.es.length:=this;omega⟩ (by decide)).mono fun v w' ⟨A',k',c',hv,ho,hF⟩=>by
  have hk:k'=((s.es.drop (i-s.b-1).toNat).take 16).length:=by
   have h1:=ho.1;rw [kv] at h1;have:(16:Int).toNat=16:=rfl;rw [this] at h1;omega
  subst hk;exact ⟨⟨A',c',hv,ho⟩,hF⟩
theorem vC (w0:World) (Z:Nat→Prop) (T g:Nat) (p:Sp) (w:World) (h:aQ w0 Z w T g p) (hF:RfF p.s) (hr:p.s.role=2) (hl:p.out.length≤900) (to:Int) (hto:1≤to∧to≤p.s.nodes) :
 Rt prog 73 [.pointer (some ⟨g,0,none⟩),.int .i64 to] w (fun v w'=>v=.tuple #[]∧aQ w0 Z w' T g (if to=p.s.id then p else p.send to)):=by
 obtain ⟨tag,a,O,oc,L,hs⟩:=h.ex;obtain ⟨E,Ec,V,Vc,X,Xc,M,Mc,Sn,Sc,Q,Qc,LL⟩:=a;have hb:=hs.b;have hll:L.length=p.out.length:=by rw [←hs.m.l,List.length_map]
 obtain ⟨k,rfl⟩:∃ k:Nat,to=(k:Int)+1:=⟨(to-1).toNat,by omega⟩;have hXl:p.s.next.length=p.s.nodes.toNat:=by rw [hF.nx.1,gx hr]
 have hSl:p.s.sent.length=p.s.nodes.toNat:=by rw [hF.se.1,gx hr]
 have hkX:k<p.s.next.length:=by omega
 have hkS:k<p.s.sent.length:=by omega
 have hnx:=hF.nx.2 _ (List.getElem_mem hkX);have hse:=hF.se.2 _ (List.getElem_mem hkS);obtain ⟨gX,rfl⟩:∃ q,X=some ⟨q,0,none⟩:=eK (hs.f.x (by decide)).1 (by omega);have hXo:w.ownsRow 0 3 1 (.slice (some ⟨gX,0,none⟩) p.s.next.length Xc) p.s.next.length (p.s.next.map iV):=(hs.f.x (by decide)).1;have hXc:=gu (l:=p.s.next) hXo k hkX;obtain ⟨gS,rfl⟩:∃ q,Sn=some ⟨q,0,none⟩:=eK (hs.f.n (by decide)).1 (by omega);have hSo:w.ownsRow 0 3 1 (.slice (some ⟨gS,0,none⟩) p.s.sent.length Sc) p.s.sent.length (p.s.sent.map iV):=(hs.f.n (by decide)).1;have hSc:=gu (l:=p.s.sent) hSo k hkS;obtain ⟨na,hna⟩:∃ na:Nat,p.s.sent[k]=(na:Int):=⟨p.s.sent[k].toNat,by omega⟩;have he:cz w (.slice E p.s.es.length Ec) p.s.es:=hs.f.rd.e;have hzw:=h.zw;have hnn:=hF.n;have hsn:=hF.sn;have hbl:=hF.last;have hlb:df p.s.b p.s.es=a_ p.s:=rfl;have hpn:=qK hkX;have hpx:=qK hkS;have hid:=hF.i;refine enter (n:=132) Tryz.func73 rfl rfl rfl (ak (ak (af (mvi rfl (mvp rfl (aa (av rfl) (aa (ab aJ rfl) (aa (ab bZ rfl) (aa (ar ao rfl (by exact (show _=some (Value.int .i64 p.s.id) from ct (hb.from_ ah.rfl_) 0 rfl))) ?_)))))))));refine aa (bg rfl rfl) (aj (ag (Bj rfl (fun Q1=>?_) (fun Q1=>?_))))
 ·refine aB (aD (dV rfl ?_));rw [if_pos (by omega)];exact ⟨rfl,h.from_ ah.rfl_⟩
 refine aM (ag (ak (af (mvp rfl (aa (av rfl) (aa (ab aJ rfl) (aa (ab bq rfl) (aa (aG (cs:=[.int .i64 p.s.b,.int .i64 p.s.t,.slice E p.s.es.length Ec]) dd cT rfl (js (hb.from_ ah.rfl_))) (bP oV ?_)))))))));intro b4 w2 E4 hb4 hk4;have hg4:w.heap.size≤b4:=by rw [hb4];exact (ah.rfl_).size
 refine cg (vs:=[_,_,_]) cT rfl rfl (by simp [Value.oneCell']) (hk4) rfl ?_;intro w3 O1 P1;have hP1:Blk w3 b4 24 #[.int .i64 p.s.b,.int .i64 p.s.t,.slice E p.s.es.length Ec]:=P1;refine aj (ag (ak (af (mvi rfl (aa (ef rfl rfl (by omega)) (dY (t:=23) (v:=.int _ _) (v':=.int .i64 (k:Nat)) rfl (by exact br (by omega)) ?_))))));refine asi rfl (aj (ag (ak (ak ?_))));apply bQ 11 [(24,eqp _),(25,eqp _),(26,eqp _),(27,eqp _),(28,eqp _),(29,eqp _),(30,eqp _),(31,eqp (.int .i64 p.s.next[k])),(32,eqp _),(33,eqp (.int .i64 p.s.b)),(34,eqp _)] (by repeat first | exact cB | refine cA ?_ | refine bW ?_) (by kernel_rfl) (by kernel_rfl) ⟨aq _,aq _,aq _,aq _,aq _,aq _,aq _,aq _,aq _,aq _,aq _,trivial⟩
 case hop=>
  constructor
  ·rintro-w5 D5;exact au (aH (v:=.pointer _) rfl) rfl
  constructor
  ·rintro-w6 D6;rintro _ rfl;exact au (av rfl) rfl
  constructor
  ·rintro-w7 D7;rintro _ rfl;exact au (ab aJ rfl) rfl
  constructor
  ·rintro-w8 D8;rintro _ rfl;exact au (ab bY rfl) rfl
  constructor
  ·rintro-w9 D9;rintro _ rfl;exact au (ar bc rfl (by exact (show _=some (Value.slice (some ⟨gX,0,none⟩) p.s.next.length Xc) from ct (hb.from_ (((ah.rfl_.next E4).only O1 (hg4)).next D9)) 15 rfl))) rfl
  constructor
  ·rintro-w10 D10;exact au (aH (v:=.int _ _) rfl) rfl
  constructor
  ·rintro-w11 D11;rintro _ rfl _ rfl;exact au (da bj rfl rfl (by omega)) rfl
  constructor
  ·rintro-w12 D12;rintro _ rfl;exact au (ar ao rfl (by exact dP (((ah.rfl_.next E4).only O1 (hg4)).next D12) hXc)) rfl
  constructor
  ·rintro-w13 D13;exact au (ab dI rfl) rfl
  constructor
  ·rintro-w14 D14;rintro _ rfl;exact au (ar ao rfl (by exact (hP1.from_ (ah.rfl_.next D14)).rd 0 rfl)) rfl
  constructor
  ·rintro-w15 D15;rintro v15_31 rfl v15_33 rfl;exact au (gp rfl rfl) rfl
  exact trivial
 case hend=>
  intro w16 D16;rintro _ rfl _ rfl _ rfl _ rfl _ rfl _ rfl _ rfl v31 rfl _ rfl v33 rfl _ rfl;show St ..;refine aj (ag (Bk rfl (fun Q17=>?_) (fun Q17=>?_)))
  ·refine ak (af (mvp rfl (aa (av rfl) (aa (ab aJ rfl) (aa (ab cN rfl) (aa (ar bc rfl (by exact (show _=some (Value.slice (some ⟨gS,0,none⟩) p.s.sent.length Sc) from ct (hb.from_ (((ah.rfl_.next E4).only O1 (hg4)).next D16)) 17 rfl))) ?_))))));refine mvi rfl (aa (da bj rfl rfl (by omega)) (aa (ar ao rfl (by exact dP (((ah.rfl_.next E4).only O1 (hg4)).next D16) hSc)) ?_));refine dY (t:=42) (v:=.int _ _) (v':=.int .i64 (na:Nat)) rfl (by exact congrArg (Value.int .i64) hna) ?_;refine asi rfl (aj (ag (ak (af (mvi rfl (mvp rfl (aa (av rfl) (aa (ab aJ rfl) (aa (ab di rfl) (aa (ar cS rfl (by exact (show _=some (Value.string p.s.snap) from ct (hb.from_ (((ah.rfl_.next E4).only O1 (hg4)).next D16)) 9 rfl))) ?_))))))))));refine aa (eY (by kernel_rfl) rfl) (mvi rfl (aa (ef rfl rfl (by omega)) (aa (km rfl rfl) (aa (b0 rfl rfl (by omega)) (dY (t:=53) (v:=.int _ _) (v':=.int .i64 ((min (na+1024) p.s.snap.size:Nat):Int)) rfl (by exact br (by omega)) ?_)))));refine asi rfl (aj (ag (ak ?_)));apply kZ [(0,54,fun _ v _=>v=_),(1,55,fun _ v _=>v=_),(2,56,fun _ v _=>v=_),(3,57,fun _ v _=>v=_),(4,58,fun _ v _=>v=_),(5,59,fun _ v _=>v=_),(6,60,fun _ v _=>v=_),(7,61,fun _ v _=>v=_),(8,62,fun _ v _=>v=_),(9,63,fun _ v _=>v=_),(10,64,fun _ v _=>v=_),(11,65,fun _ v _=>v=_),(12,66,fun _ v _=>v=_),(13,67,fun _ v _=>v=_),(14,68,fun _ v _=>v=_),(15,69,fun _ v _=>v=_),(16,70,fun _ v _=>v=_),(17,71,fun _ v _=>v=_),(18,72,fun _ v _=>v=_),(19,73,fun _ v _=>v=_),(20,74,fun _ v _=>v=_),(21,75,fun _ v _=>v=_),(22,76,fun _ v _=>v=_),(23,77,fun _ v _=>v=_),(24,78,fun _ v _=>v=_),(25,79,fun _ v _=>v=_),(26,80,fun _ v _=>v=_),(27,81,fun _ v _=>v=_),(28,82,fun _ v _=>v=_),(29,83,fun _ v _=>v=_)] [29] (fun S w'=>(S 29=false→ah w16 w')∧(S 29=true→aQ w0 Z w' T g (p.tell (pl ({ zM with k:=5,t:=(k:Int)+1,ix:=p.s.b,lt:=p.s.t,rd:=p.s.round,a:=(na:Int),d:=p.s.snap.extract na (min (na+1024) p.s.snap.size),dn:=decide (min (na+1024) p.s.snap.size=p.s.snap.size) }:Msg))))) (by kernel_rfl) (by kernel_rfl) rfl rfl ⟨fun _ _ _ _ _ _ _ h=>h,fun _ _ _ _ _ _ _ h=>h,fun _ _ _ _ _ _ _ h=>h,fun _ _ _ _ _ _ _ h=>h,fun _ _ _ _ _ _ _ h=>h,fun _ _ _ _ _ _ _ h=>h,fun _ _ _ _ _ _ _ h=>h,fun _ _ _ _ _ _ _ h=>h,fun _ _ _ _ _ _ _ h=>h,fun _ _ _ _ _ _ _ h=>h,fun _ _ _ _ _ _ _ h=>h,fun _ _ _ _ _ _ _ h=>h,fun _ _ _ _ _ _ _ h=>h,fun _ _ _ _ _ _ _ h=>h,fun _ _ _ _ _ _ _ h=>h,fun _ _ _ _ _ _ _ h=>h,fun _ _ _ _ _ _ _ h=>h,fun _ _ _ _ _ _ _ h=>h,fun _ _ _ _ _ _ _ h=>h,fun _ _ _ _ _ _ _ h=>h,fun _ _ _ _ _ _ _ h=>h,fun _ _ _ _ _ _ _ h=>h,fun _ _ _ _ _ _ _ h=>h,fun _ _ _ _ _ _ _ h=>h,fun _ _ _ _ _ _ _ h=>h,fun _ _ _ _ _ _ _ h=>h,fun _ _ _ _ _ _ _ h=>h,fun _ _ _ _ _ _ _ h=>h,fun _ _ _ _ _ _ _ h=>h,fun _ _ _ _ _ _ _ h=>h,trivial⟩ (fun S i w1 w2 hq hF h=>⟨fun h0=>(h.1 (lO h0)).next hF,fun h1=>(fun h=>h.from_ hF) (h.2 (nC (show 29≠i by rintro rfl;exact absurd hq (by decide)) h1))⟩) ⟨fun _=>ah.rfl_.d1,fun h=>by cases h⟩
   case hstep=>
    constructor
    ·rintro S L' w18 hU hmo hme hI hM hC hS ⟨-⟩;have hS0:S 29=false:=(ai hC (j:=29) rfl (by kernel_rfl) hS);have hM18:=hM.1 hS0;have e0:=hI.1 0 (ea rfl);exact aE [(0,_)] hU hmo hme hI hM (.head _) rfl rfl (by kernel_rfl) ⟨e0,trivial⟩ (aH (v:=.pointer _) rfl) ah.rfl_ (rfl)
    constructor
    ·rintro S L' w19 hU hmo hme hI hM hC hS ⟨-⟩;have hS0:S 29=false:=(ai hC (j:=29) rfl (by kernel_rfl) (ai hC (j:=28) rfl (by kernel_rfl) hS));have hM19:=hM.1 hS0;have e1:=hI.1 1 (ea rfl);exact aE [(1,_)] hU hmo hme hI hM (.tail _ (.head _)) rfl rfl (by kernel_rfl) ⟨e1,trivial⟩ (aH (v:=.int _ _) rfl) ah.rfl_ (rfl)
    constructor
    ·rintro S L' w20 hU hmo hme hI hM hC hS ⟨-⟩;have hS0:S 29=false:=(ai hC (j:=29) rfl (by kernel_rfl) (ai hC (j:=28) rfl (by kernel_rfl) (ai hC (j:=3) rfl (by kernel_rfl) hS)));have hM20:=hM.1 hS0;have e4:=hI.1 4 (ea rfl);exact aE [(4,_)] hU hmo hme hI hM (gM 2 rfl) rfl rfl (by kernel_rfl) ⟨e4,trivial⟩ (ab dI rfl) ah.rfl_ (rfl)
    constructor
    ·rintro S L' w21 hU hmo hme hI hM hC hS ⟨d2,-⟩;have hS0:S 29=false:=(ai hC (j:=29) rfl (by kernel_rfl) (ai hC (j:=28) rfl (by kernel_rfl) hS));have hM21:=hM.1 hS0;obtain ⟨v21_56,e56,h56⟩:=hI.get (i:=2) (gM 2 rfl) d2;obtain rfl:=h56;exact aE [(56,_)] hU hmo hme hI hM (gM 3 rfl) rfl rfl (by kernel_rfl) ⟨e56,trivial⟩ (ar ao rfl (by exact (hP1.from_ ((ah.rfl_.next D16).next hM21)).rd 0 rfl)) ah.rfl_ (rfl)
    constructor
    ·rintro S L' w22 hU hmo hme hI hM hC hS ⟨-⟩;have hS0:S 29=false:=(ai hC (j:=29) rfl (by kernel_rfl) (ai hC (j:=28) rfl (by kernel_rfl) (ai hC (j:=5) rfl (by kernel_rfl) hS)));have hM22:=hM.1 hS0;have e4:=hI.1 4 (ea rfl);exact aE [(4,_)] hU hmo hme hI hM (gM 4 rfl) rfl rfl (by kernel_rfl) ⟨e4,trivial⟩ (ab mi rfl) ah.rfl_ (rfl)
    constructor
    ·rintro S L' w23 hU hmo hme hI hM hC hS ⟨d4,-⟩;have hS0:S 29=false:=(ai hC (j:=29) rfl (by kernel_rfl) (ai hC (j:=28) rfl (by kernel_rfl) hS));have hM23:=hM.1 hS0;obtain ⟨v23_58,e58,h58⟩:=hI.get (i:=4) (gM 4 rfl) d4;obtain rfl:=h58;exact aE [(58,_)] hU hmo hme hI hM (gM 5 rfl) rfl rfl (by kernel_rfl) ⟨e58,trivial⟩ (ar ao rfl (by exact (hP1.from_ ((ah.rfl_.next D16).next hM23)).rd 1 rfl)) ah.rfl_ (rfl)
    constructor
    ·rintro S L' w24 hU hmo hme hI hM hC hS ⟨-⟩;have hS0:S 29=false:=(ai hC (j:=29) rfl (by kernel_rfl) (ai hC (j:=28) rfl (by kernel_rfl) (ai hC (j:=10) rfl (by kernel_rfl) (ai hC (j:=9) rfl (by kernel_rfl) (ai hC (j:=8) rfl (by kernel_rfl) (ai hC (j:=7) rfl (by kernel_rfl) hS))))));have hM24:=hM.1 hS0;have e0:=hI.1 0 (ea rfl);exact aE [(0,_)] hU hmo hme hI hM (gM 6 rfl) rfl rfl (by kernel_rfl) ⟨e0,trivial⟩ (aH (v:=.pointer _) rfl) ah.rfl_ (rfl)
    constructor
    ·rintro S L' w25 hU hmo hme hI hM hC hS ⟨d6,-⟩;have hS0:S 29=false:=(ai hC (j:=29) rfl (by kernel_rfl) (ai hC (j:=28) rfl (by kernel_rfl) (ai hC (j:=10) rfl (by kernel_rfl) (ai hC (j:=9) rfl (by kernel_rfl) (ai hC (j:=8) rfl (by kernel_rfl) hS)))));have hM25:=hM.1 hS0;obtain ⟨v25_60,e60,h60⟩:=hI.get (i:=6) (gM 6 rfl) d6;obtain rfl:=h60;exact aE [(60,_)] hU hmo hme hI hM (gM 7 rfl) rfl rfl (by kernel_rfl) ⟨e60,trivial⟩ (av rfl) ah.rfl_ (rfl)
    constructor
    ·rintro S L' w26 hU hmo hme hI hM hC hS ⟨d7,-⟩;have hS0:S 29=false:=(ai hC (j:=29) rfl (by kernel_rfl) (ai hC (j:=28) rfl (by kernel_rfl) (ai hC (j:=10) rfl (by kernel_rfl) (ai hC (j:=9) rfl (by kernel_rfl) hS))));have hM26:=hM.1 hS0;obtain ⟨v26_61,e61,h61⟩:=hI.get (i:=7) (gM 7 rfl) d7;obtain rfl:=h61;exact aE [(61,_)] hU hmo hme hI hM (gM 8 rfl) rfl rfl (by kernel_rfl) ⟨e61,trivial⟩ (ab aJ rfl) ah.rfl_ (rfl)
    constructor
    ·rintro S L' w27 hU hmo hme hI hM hC hS ⟨d8,-⟩;have hS0:S 29=false:=(ai hC (j:=29) rfl (by kernel_rfl) (ai hC (j:=28) rfl (by kernel_rfl) (ai hC (j:=10) rfl (by kernel_rfl) hS)));have hM27:=hM.1 hS0;obtain ⟨v27_62,e62,h62⟩:=hI.get (i:=8) (gM 8 rfl) d8;obtain rfl:=h62;exact aE [(62,_)] hU hmo hme hI hM (gM 9 rfl) rfl rfl (by kernel_rfl) ⟨e62,trivial⟩ (ab dp rfl) ah.rfl_ (rfl)
    constructor
    ·rintro S L' w28 hU hmo hme hI hM hC hS ⟨d9,-⟩;have hS0:S 29=false:=(ai hC (j:=29) rfl (by kernel_rfl) (ai hC (j:=28) rfl (by kernel_rfl) hS));have hM28:=hM.1 hS0;obtain ⟨v28_63,e63,h63⟩:=hI.get (i:=9) (gM 9 rfl) d9;obtain rfl:=h63;exact aE [(63,_)] hU hmo hme hI hM (gM 10 rfl) rfl rfl (by kernel_rfl) ⟨e63,trivial⟩ (ar ao rfl (by exact (show _=some (Value.int .i64 p.s.round) from ct (hb.from_ ((((ah.rfl_.next E4).only O1 (hg4)).next D16).next hM28)) 18 rfl))) ah.rfl_ (rfl)
    constructor
    ·rintro S L' w29 hU hmo hme hI hM hC hS ⟨-⟩;have hS0:S 29=false:=(ai hC (j:=29) rfl (by kernel_rfl) (ai hC (j:=28) rfl (by kernel_rfl) hS));have hM29:=hM.1 hS0;have e6:=hI.1 6 (ea rfl);exact aE [(6,_)] hU hmo hme hI hM (gM 11 rfl) rfl rfl (by kernel_rfl) ⟨e6,trivial⟩ (aH (v:=.int _ _) rfl) ah.rfl_ (rfl)
    constructor
    ·rintro S L' w30 hU hmo hme hI hM hC hS ⟨-⟩;have hS0:S 29=false:=(ai hC (j:=29) rfl (by kernel_rfl) (ai hC (j:=28) rfl (by kernel_rfl) (ai hC (j:=19) rfl (by kernel_rfl) (ai hC (j:=16) rfl (by kernel_rfl) (ai hC (j:=15) rfl (by kernel_rfl) (ai hC (j:=14) rfl (by kernel_rfl) (ai hC (j:=13) rfl (by kernel_rfl) hS)))))));have hM30:=hM.1 hS0;have e0:=hI.1 0 (ea rfl);exact aE [(0,_)] hU hmo hme hI hM (gM 12 rfl) rfl rfl (by kernel_rfl) ⟨e0,trivial⟩ (aH (v:=.pointer _) rfl) ah.rfl_ (rfl)
    constructor
    ·rintro S L' w31 hU hmo hme hI hM hC hS ⟨d12,-⟩;have hS0:S 29=false:=(ai hC (j:=29) rfl (by kernel_rfl) (ai hC (j:=28) rfl (by kernel_rfl) (ai hC (j:=19) rfl (by kernel_rfl) (ai hC (j:=16) rfl (by kernel_rfl) (ai hC (j:=15) rfl (by kernel_rfl) (ai hC (j:=14) rfl (by kernel_rfl) hS))))));have hM31:=hM.1 hS0;obtain ⟨v31_66,e66,h66⟩:=hI.get (i:=12) (gM 12 rfl) d12;obtain rfl:=h66;exact aE [(66,_)] hU hmo hme hI hM (gM 13 rfl) rfl rfl (by kernel_rfl) ⟨e66,trivial⟩ (av rfl) ah.rfl_ (rfl)
    constructor
    ·rintro S L' w32 hU hmo hme hI hM hC hS ⟨d13,-⟩;have hS0:S 29=false:=(ai hC (j:=29) rfl (by kernel_rfl) (ai hC (j:=28) rfl (by kernel_rfl) (ai hC (j:=19) rfl (by kernel_rfl) (ai hC (j:=16) rfl (by kernel_rfl) (ai hC (j:=15) rfl (by kernel_rfl) hS)))));have hM32:=hM.1 hS0;obtain ⟨v32_67,e67,h67⟩:=hI.get (i:=13) (gM 13 rfl) d13;obtain rfl:=h67;exact aE [(67,_)] hU hmo hme hI hM (gM 14 rfl) rfl rfl (by kernel_rfl) ⟨e67,trivial⟩ (ab aJ rfl) ah.rfl_ (rfl)
    constructor
    ·rintro S L' w33 hU hmo hme hI hM hC hS ⟨d14,-⟩;have hS0:S 29=false:=(ai hC (j:=29) rfl (by kernel_rfl) (ai hC (j:=28) rfl (by kernel_rfl) (ai hC (j:=19) rfl (by kernel_rfl) (ai hC (j:=16) rfl (by kernel_rfl) hS))));have hM33:=hM.1 hS0;obtain ⟨v33_68,e68,h68⟩:=hI.get (i:=14) (gM 14 rfl) d14;obtain rfl:=h68;exact aE [(68,_)] hU hmo hme hI hM (gM 15 rfl) rfl rfl (by kernel_rfl) ⟨e68,trivial⟩ (ab di rfl) ah.rfl_ (rfl)
    constructor
    ·rintro S L' w34 hU hmo hme hI hM hC hS ⟨d15,-⟩;have hS0:S 29=false:=(ai hC (j:=29) rfl (by kernel_rfl) (ai hC (j:=28) rfl (by kernel_rfl) (ai hC (j:=19) rfl (by kernel_rfl) hS)));have hM34:=hM.1 hS0;obtain ⟨v34_69,e69,h69⟩:=hI.get (i:=15) (gM 15 rfl) d15;obtain rfl:=h69;exact aE [(69,_)] hU hmo hme hI hM (gM 16 rfl) rfl rfl (by kernel_rfl) ⟨e69,trivial⟩ (ar cS rfl (by exact (show _=some (Value.string p.s.snap) from ct (hb.from_ ((((ah.rfl_.next E4).only O1 (hg4)).next D16).next hM34)) 9 rfl))) ah.rfl_ (rfl)
    constructor
    ·rintro S L' w35 hU hmo hme hI hM hC hS ⟨-⟩;have hS0:S 29=false:=(ai hC (j:=29) rfl (by kernel_rfl) (ai hC (j:=28) rfl (by kernel_rfl) (ai hC (j:=19) rfl (by kernel_rfl) hS)));have hM35:=hM.1 hS0;have e6:=hI.1 6 (ea rfl);exact aE [(6,_)] hU hmo hme hI hM (gM 17 rfl) rfl rfl (by kernel_rfl) ⟨e6,trivial⟩ (aH (v:=.int _ _) rfl) ah.rfl_ (rfl)
    constructor
    ·rintro S L' w36 hU hmo hme hI hM hC hS ⟨-⟩;have hS0:S 29=false:=(ai hC (j:=29) rfl (by kernel_rfl) (ai hC (j:=28) rfl (by kernel_rfl) (ai hC (j:=19) rfl (by kernel_rfl) hS)));have hM36:=hM.1 hS0;have e7:=hI.1 7 (ea rfl);exact aE [(7,_)] hU hmo hme hI hM (gM 18 rfl) rfl rfl (by kernel_rfl) ⟨e7,trivial⟩ (aH (v:=.int _ _) rfl) ah.rfl_ (rfl)
    constructor
    ·rintro S L' w37 hU hmo hme hI hM hC hS ⟨d16,d17,d18,-⟩;have hS0:S 29=false:=(ai hC (j:=29) rfl (by kernel_rfl) (ai hC (j:=28) rfl (by kernel_rfl) hS));have hM37:=hM.1 hS0;obtain ⟨v37_70,e70,h70⟩:=hI.get (i:=16) (gM 16 rfl) d16;obtain rfl:=h70;obtain ⟨v37_71,e71,h71⟩:=hI.get (i:=17) (gM 17 rfl) d17;obtain rfl:=h71;obtain ⟨v37_72,e72,h72⟩:=hI.get (i:=18) (gM 18 rfl) d18;obtain rfl:=h72;exact aE [(70,_),(71,_),(72,_)] hU hmo hme hI hM (gM 19 rfl) rfl rfl (by kernel_rfl) ⟨e70,e71,e72,trivial⟩ ((n_ (l:=na) (h:=min (na+1024) p.s.snap.size) qb rfl rfl rfl (by omega) (by omega) rfl)) (ah.rfl_) (rfl)
    constructor
    ·rintro S L' w38 hU hmo hme hI hM hC hS ⟨-⟩;have hS0:S 29=false:=(ai hC (j:=29) rfl (by kernel_rfl) (ai hC (j:=28) rfl (by kernel_rfl) (ai hC (j:=27) rfl (by kernel_rfl) hS)));have hM38:=hM.1 hS0;have e7:=hI.1 7 (ea rfl);exact aE [(7,_)] hU hmo hme hI hM (gM 20 rfl) rfl rfl (by kernel_rfl) ⟨e7,trivial⟩ (aH (v:=.int _ _) rfl) ah.rfl_ (rfl)
    constructor
    ·rintro S L' w39 hU hmo hme hI hM hC hS ⟨-⟩;have hS0:S 29=false:=(ai hC (j:=29) rfl (by kernel_rfl) (ai hC (j:=28) rfl (by kernel_rfl) (ai hC (j:=27) rfl (by kernel_rfl) (ai hC (j:=26) rfl (by kernel_rfl) (ai hC (j:=25) rfl (by kernel_rfl) (ai hC (j:=24) rfl (by kernel_rfl) (ai hC (j:=23) rfl (by kernel_rfl) (ai hC (j:=22) rfl (by kernel_rfl) hS))))))));have hM39:=hM.1 hS0;have e0:=hI.1 0 (ea rfl);exact aE [(0,_)] hU hmo hme hI hM (gM 21 rfl) rfl rfl (by kernel_rfl) ⟨e0,trivial⟩ (aH (v:=.pointer _) rfl) ah.rfl_ (rfl)
    constructor
    ·rintro S L' w40 hU hmo hme hI hM hC hS ⟨d21,-⟩;have hS0:S 29=false:=(ai hC (j:=29) rfl (by kernel_rfl) (ai hC (j:=28) rfl (by kernel_rfl) (ai hC (j:=27) rfl (by kernel_rfl) (ai hC (j:=26) rfl (by kernel_rfl) (ai hC (j:=25) rfl (by kernel_rfl) (ai hC (j:=24) rfl (by kernel_rfl) (ai hC (j:=23) rfl (by kernel_rfl) hS)))))));have hM40:=hM.1 hS0;obtain ⟨v40_75,e75,h75⟩:=hI.get (i:=21) (gM 21 rfl) d21;obtain rfl:=h75;exact aE [(75,_)] hU hmo hme hI hM (gM 22 rfl) rfl rfl (by kernel_rfl) ⟨e75,trivial⟩ (av rfl) ah.rfl_ (rfl)
    constructor
    ·rintro S L' w41 hU hmo hme hI hM hC hS ⟨d22,-⟩;have hS0:S 29=false:=(ai hC (j:=29) rfl (by kernel_rfl) (ai hC (j:=28) rfl (by kernel_rfl) (ai hC (j:=27) rfl (by kernel_rfl) (ai hC (j:=26) rfl (by kernel_rfl) (ai hC (j:=25) rfl (by kernel_rfl) (ai hC (j:=24) rfl (by kernel_rfl) hS))))));have hM41:=hM.1 hS0;obtain ⟨v41_76,e76,h76⟩:=hI.get (i:=22) (gM 22 rfl) d22;obtain rfl:=h76;exact aE [(76,_)] hU hmo hme hI hM (gM 23 rfl) rfl rfl (by kernel_rfl) ⟨e76,trivial⟩ (ab aJ rfl) ah.rfl_ (rfl)
    constructor
    ·rintro S L' w42 hU hmo hme hI hM hC hS ⟨d23,-⟩;have hS0:S 29=false:=(ai hC (j:=29) rfl (by kernel_rfl) (ai hC (j:=28) rfl (by kernel_rfl) (ai hC (j:=27) rfl (by kernel_rfl) (ai hC (j:=26) rfl (by kernel_rfl) (ai hC (j:=25) rfl (by kernel_rfl) hS)))));have hM42:=hM.1 hS0;obtain ⟨v42_77,e77,h77⟩:=hI.get (i:=23) (gM 23 rfl) d23;obtain rfl:=h77;exact aE [(77,_)] hU hmo hme hI hM (gM 24 rfl) rfl rfl (by kernel_rfl) ⟨e77,trivial⟩ (ab di rfl) ah.rfl_ (rfl)
    constructor
    ·rintro S L' w43 hU hmo hme hI hM hC hS ⟨d24,-⟩;have hS0:S 29=false:=(ai hC (j:=29) rfl (by kernel_rfl) (ai hC (j:=28) rfl (by kernel_rfl) (ai hC (j:=27) rfl (by kernel_rfl) (ai hC (j:=26) rfl (by kernel_rfl) hS))));have hM43:=hM.1 hS0;obtain ⟨v43_78,e78,h78⟩:=hI.get (i:=24) (gM 24 rfl) d24;obtain rfl:=h78;exact aE [(78,_)] hU hmo hme hI hM (gM 25 rfl) rfl rfl (by kernel_rfl) ⟨e78,trivial⟩ (ar cS rfl (by exact (show _=some (Value.string p.s.snap) from ct (hb.from_ ((((ah.rfl_.next E4).only O1 (hg4)).next D16).next hM43)) 9 rfl))) ah.rfl_ (rfl)
    constructor
    ·rintro S L' w44 hU hmo hme hI hM hC hS ⟨d25,-⟩;have hS0:S 29=false:=(ai hC (j:=29) rfl (by kernel_rfl) (ai hC (j:=28) rfl (by kernel_rfl) (ai hC (j:=27) rfl (by kernel_rfl) hS)));have hM44:=hM.1 hS0;obtain ⟨v44_79,e79,h79⟩:=hI.get (i:=25) (gM 25 rfl) d25;obtain rfl:=h79;exact aE [(79,_)] hU hmo hme hI hM (gM 26 rfl) rfl rfl (by kernel_rfl) ⟨e79,trivial⟩ (eY (by kernel_rfl) rfl) ah.rfl_ (rfl)
    constructor
    ·rintro S L' w45 hU hmo hme hI hM hC hS ⟨d20,d26,-⟩;have hS0:S 29=false:=(ai hC (j:=29) rfl (by kernel_rfl) (ai hC (j:=28) rfl (by kernel_rfl) hS));have hM45:=hM.1 hS0;obtain ⟨v45_74,e74,h74⟩:=hI.get (i:=20) (gM 20 rfl) d20;obtain rfl:=h74;obtain ⟨v45_80,e80,h80⟩:=hI.get (i:=26) (gM 26 rfl) d26;obtain rfl:=h80;exact aE [(74,_),(80,_)] hU hmo hme hI hM (gM 27 rfl) rfl rfl (by kernel_rfl) ⟨e74,e80,trivial⟩ ((fT (bg rfl rfl) (congrArg Value.bool (show (((min (na+1024) p.s.snap.size:Nat):Int)==((p.s.snap.size:Nat):Int))=decide (min (na+1024) p.s.snap.size=p.s.snap.size) by rw [Bool.eq_iff_iff,beq_iff_eq,decide_eq_true_eq];omega)))) (ah.rfl_) (rfl)
    constructor
    ·rintro S L' w46 hU hmo hme hI hM hC hS ⟨d1,d3,d5,d10,d11,d19,d27,-⟩;have hS0:S 29=false:=(ai hC (j:=29) rfl (by kernel_rfl) hS);have hM46:=hM.1 hS0;obtain ⟨v46_55,e55,h55⟩:=hI.get (i:=1) (.tail _ (.head _)) d1;obtain rfl:=h55;obtain ⟨v46_57,e57,h57⟩:=hI.get (i:=3) (gM 3 rfl) d3;obtain rfl:=h57;obtain ⟨v46_59,e59,h59⟩:=hI.get (i:=5) (gM 5 rfl) d5;obtain rfl:=h59;obtain ⟨v46_64,e64,h64⟩:=hI.get (i:=10) (gM 10 rfl) d10;obtain rfl:=h64;obtain ⟨v46_65,e65,h65⟩:=hI.get (i:=11) (gM 11 rfl) d11;obtain rfl:=h65;obtain ⟨v46_73,e73,h73⟩:=hI.get (i:=19) (gM 19 rfl) d19;obtain rfl:=h73;obtain ⟨v46_81,e81,h81⟩:=hI.get (i:=27) (gM 27 rfl) d27;obtain rfl:=h81;exact aE [(55,_),(57,_),(59,_),(64,_),(65,_),(73,_),(81,_)] hU hmo hme hI hM (gM 28 rfl) rfl rfl (by kernel_rfl) ⟨e55,e57,e59,e64,e65,e73,e81,trivial⟩ (cV (l:=[(0,.const (.int .i64 5)),(2,.tmp 55),(4,.tmp 57),(5,.tmp 59),(7,.tmp 64),(10,.tmp 65),(11,.tmp 73),(12,.tmp 81)]) (fM _ _ _ _ _ _ _)) ah.rfl_ (rfl)
    constructor
    ·rintro S L' w47 hU hmo hme hI hM hC hS ⟨d0,d28,-⟩;have hS0:S 29=false:=hS;have hM47:=hM.1 hS0;obtain ⟨v47_54,e54,h54⟩:=hI.get (i:=0) (.head _) d0;obtain rfl:=h54;obtain ⟨v47_82,e82,h82⟩:=hI.get (i:=28) (gM 28 rfl) d28;obtain rfl:=h82;refine gI (al:=[.tmp 54,.tmp 82]) [(54,_),(82,_)] hU hI (gM 29 rfl) (by kernel_rfl) ⟨e54,e82,trivial⟩ iY ((ke w0 Z T g p _ (h.from_ ((((ah.rfl_.next E4).only O1 (hg4)).next D16).next hM47)) tag _ O oc L (hs.from_ ((((ah.rfl_.next E4).only O1 (hg4)).next D16).next hM47)) (by omega) ({ zM with k:=5,t:=(k:Int)+1,ix:=p.s.b,lt:=p.s.t,rd:=p.s.round,a:=(na:Int),d:=p.s.snap.extract na (min (na+1024) p.s.snap.size),dn:=decide (min (na+1024) p.s.snap.size=p.s.snap.size) }:Msg) ⟨dH,Col.none⟩).mono ?_);rintro v9 w2 ⟨rfl,hS2⟩;exact ⟨⟨fun h0=>(by rw [ld] at h0;cases h0),fun _=>hS2⟩,rfl,⟨fun _ _ _ h=>h,fun _ _ _ h=>h,fun _ _ _ h=>h,fun _ _ _ h=>h,fun _ _ _ h=>h,fun _ _ _ h=>h,fun _ _ _ h=>h,fun _ _ _ h=>h,fun _ _ _ h=>h,fun _ _ _ h=>h,fun _ _ _ h=>h,fun _ _ _ h=>h,fun _ _ _ h=>h,fun _ _ _ h=>h,fun _ _ _ h=>h,fun _ _ _ h=>h,fun _ _ _ h=>h,fun _ _ _ h=>h,fun _ _ _ h=>h,fun _ _ _ h=>h,fun _ _ _ h=>h,fun _ _ _ h=>h,fun _ _ _ h=>h,fun _ _ _ h=>h,fun _ _ _ h=>h,fun _ _ _ h=>h,fun _ _ _ h=>h,fun _ _ _ h=>h,fun _ _ _ h=>h,fun _ _ _ h=>h,trivial⟩⟩
    exact trivial
   case hend=>
    intro w48 hM;obtain hS9:=hM.2 rfl;rintro v48_54 rfl v48_55 rfl v48_56 rfl v48_57 rfl v48_58 rfl v48_59 rfl v48_60 rfl v48_61 rfl v48_62 rfl v48_63 rfl v48_64 rfl v48_65 rfl v48_66 rfl v48_67 rfl v48_68 rfl v48_69 rfl v48_70 rfl v48_71 rfl v48_72 rfl v48_73 rfl v48_74 rfl v48_75 rfl v48_76 rfl v48_77 rfl v48_78 rfl v48_79 rfl v48_80 rfl v48_81 rfl v48_82 rfl v48_83 rfl;refine gy (ag (aB (aD (dV rfl ?_))))
    have e9:p.send ((k:Int)+1)=p.tell (pl ({ zM with k:=5,t:=(k:Int)+1,ix:=p.s.b,lt:=p.s.t,rd:=p.s.round,a:=(na:Int),d:=p.s.snap.extract na (min (na+1024) p.s.snap.size),dn:=decide (min (na+1024) p.s.snap.size=p.s.snap.size) }:Msg)):=by
     unfold Sp.send;rw [nX (by rw [hpn];omega) (by rw [hpx,hna])];rfl
    rw [if_neg (by omega),e9];exact ⟨rfl,hS9.from_ ah.rfl_⟩
  refine aM (ag (ak ?_));apply bQ 16 [(85,eqp _),(86,eqp _),(87,eqp _),(88,eqp _),(89,eqp _),(90,eqp _),(91,eqp _),(92,eqp _),(93,eqp (.int .i64 p.s.next[k])),(94,eqp _),(95,eqp _),(84,eqp _),(96,eqp _),(97,eqp _),(8,eqp _),(9,eqp _)] (by repeat first | exact cB | refine cA ?_ | refine bW ?_) (by kernel_rfl) (by kernel_rfl) ⟨aq _,aq _,aq _,aq _,aq _,aq _,aq _,aq _,aq _,aq _,aq _,aq _,aq _,aq _,aq _,aq _,trivial⟩
  case hop=>
   constructor
   ·rintro-w50 D50;exact au (aG (cs:=[.int .i64 p.s.b,.int .i64 p.s.t,.slice E p.s.es.length Ec]) dd cT rfl ((hP1.from_ ((ah.rfl_.next D16).next D50)).whole)) rfl
   constructor
   ·rintro-w51 D51;exact au (aH (v:=.pointer _) rfl) rfl
   constructor
   ·rintro-w52 D52;rintro _ rfl;exact au (av rfl) rfl
   constructor
   ·rintro-w53 D53;rintro _ rfl;exact au (ab aJ rfl) rfl
   constructor
   ·rintro-w54 D54;rintro _ rfl;exact au (ab bY rfl) rfl
   constructor
   ·rintro-w55 D55;rintro _ rfl;exact au (ar bc rfl (by exact (show _=some (Value.slice (some ⟨gX,0,none⟩) p.s.next.length Xc) from ct (hb.from_ ((((ah.rfl_.next E4).only O1 (hg4)).next D16).next D55)) 15 rfl))) rfl
   constructor
   ·rintro-w56 D56;exact au (aH (v:=.int _ _) rfl) rfl
   constructor
   ·rintro-w57 D57;rintro _ rfl _ rfl;exact au (da bj rfl rfl (by omega)) rfl
   constructor
   ·rintro-w58 D58;rintro _ rfl;exact au (ar ao rfl (by exact dP ((((ah.rfl_.next E4).only O1 (hg4)).next D16).next D58) hXc)) rfl
   constructor
   ·rintro-w59 D59;rintro v59_93 rfl;exact au (ef rfl rfl (by omega)) rfl
   constructor
   ·rintro-w60 D60;rintro _ rfl _ rfl;refine fJ o4 ((xg p.s (p.s.next[k]-1) E Ec _ (he.from_ ((((ah.rfl_.next E4).only O1 (hg4)).next D16).next D60)) hF.lg (by omega)).mono ?_);rintro v _ ⟨rfl,E60'⟩;exact ⟨E60',rfl⟩
   constructor
   ·rintro-w61 D61;rintro _ rfl;exact au (aH (v:=.tuple _) rfl) rfl
   constructor
   ·rintro-w62 D62;rintro _ rfl;exact au (aZ rfl rfl) rfl
   constructor
   ·rintro-w63 D63;rintro _ rfl;exact au (aZ rfl rfl) rfl
   constructor
   ·rintro-w64 D64;rintro _ rfl;exact au (dN (v:=.int _ _) rfl) rfl
   constructor
   ·rintro-w65 D65;rintro _ rfl;exact au (dN (v:=.bool _) rfl) rfl
   exact trivial
  case hend=>
   intro w66 D66;rintro _ rfl _ rfl _ rfl _ rfl _ rfl _ rfl _ rfl _ rfl v93 rfl _ rfl _ rfl _ rfl _ rfl _ rfl _ rfl _ rfl;show St ..;refine aj (ag ?_);apply kZ [(0,98,fun _ v _=>v=_),(1,99,fun _ v _=>v=_),(2,100,fun _ v _=>v=_),(3,101,fun _ v _=>v=_),(4,102,fun _ v _=>v=_),(5,103,fun _ v _=>v=_),(6,104,fun _ v _=>v=_),(7,105,fun _ v _=>v=_),(8,106,fun _ v _=>v=_),(9,107,fun _ v _=>v=_),(10,108,fun _ v _=>v=_),(11,109,fun _ v _=>v=_),(12,110,fun _ v _=>v=_),(13,111,fun _ v _=>v=_),(14,112,fun _ v _=>v=_),(15,113,fun _ v _=>v=_),(16,114,fun _ v _=>v=_),(17,115,fun _ v _=>v=_),(18,116,fun _ v _=>v=_),(19,117,fun _ v _=>v=_),(20,118,fun _ v _=>v=_),(21,119,fun _ v _=>v=_),(22,120,fun _ v _=>v=_),(23,121,fun _ v _=>v=_),(24,122,fun _ v _=>v=_),(25,123,fun _ v _=>v=_),(26,124,fun _ v _=>v=_),(27,125,fun _ v _=>v=_),(28,126,fun _ v _=>v=_),(29,127,fun _ v _=>v=_),(30,128,fun _ v _=>v=_),(31,129,fun S v w9=>S 33=false→(fun (v:Value) (w':World)=>∃ (A':Option Addr) (c':Nat),v=Value.slice A' ((p.s.es.drop (p.s.next[k]-p.s.b-1).toNat).take 16).length c'∧w'.ownsRow w.heap.size 99 3 (.slice A' ((p.s.es.drop (p.s.next[k]-p.s.b-1).toNat).take 16).length c') ((p.s.es.drop (p.s.next[k]-p.s.b-1).toNat).take 16).length (dF ((p.s.es.drop (p.s.next[k]-p.s.b-1).toNat).take 16))) v w9),(32,130,fun S v w9=>S 33=false→(fun (v:Value) (w':World)=>∃ (A':Option Addr) (c':Nat),v=Value.agg (bD ({ zM with k:=3,t:=(k:Int)+1,ix:=p.s.next[k]-1,lt:=dJ p.s.b p.s.t p.s.es (p.s.next[k]-1),cm:=p.s.commit,rd:=p.s.round,E:=A',c:=c',es:=(p.s.es.drop (p.s.next[k]-p.s.b-1).toNat).take 16 }:Msg)).toArray∧w'.ownsRow w.heap.size 99 3 (.slice A' ((p.s.es.drop (p.s.next[k]-p.s.b-1).toNat).take 16).length c') ((p.s.es.drop (p.s.next[k]-p.s.b-1).toNat).take 16).length (dF ((p.s.es.drop (p.s.next[k]-p.s.b-1).toNat).take 16))) v w9),(33,131,fun _ v _=>v=_)] [33] (fun S w'=>(S 33=false→ah w66 w')∧(S 33=true→∃ A' c',aQ w0 Z w' T g (p.tell (pl ({ zM with k:=3,t:=(k:Int)+1,ix:=p.s.next[k]-1,lt:=dJ p.s.b p.s.t p.s.es (p.s.next[k]-1),cm:=p.s.commit,rd:=p.s.round,E:=A',c:=c',es:=(p.s.es.drop (p.s.next[k]-p.s.b-1).toNat).take 16 }:Msg))))) (by kernel_rfl) (by kernel_rfl) rfl rfl ⟨fun _ _ _ _ _ _ _ h=>h,fun _ _ _ _ _ _ _ h=>h,fun _ _ _ _ _ _ _ h=>h,fun _ _ _ _ _ _ _ h=>h,fun _ _ _ _ _ _ _ h=>h,fun _ _ _ _ _ _ _ h=>h,fun _ _ _ _ _ _ _ h=>h,fun _ _ _ _ _ _ _ h=>h,fun _ _ _ _ _ _ _ h=>h,fun _ _ _ _ _ _ _ h=>h,fun _ _ _ _ _ _ _ h=>h,fun _ _ _ _ _ _ _ h=>h,fun _ _ _ _ _ _ _ h=>h,fun _ _ _ _ _ _ _ h=>h,fun _ _ _ _ _ _ _ h=>h,fun _ _ _ _ _ _ _ h=>h,fun _ _ _ _ _ _ _ h=>h,fun _ _ _ _ _ _ _ h=>h,fun _ _ _ _ _ _ _ h=>h,fun _ _ _ _ _ _ _ h=>h,fun _ _ _ _ _ _ _ h=>h,fun _ _ _ _ _ _ _ h=>h,fun _ _ _ _ _ _ _ h=>h,fun _ _ _ _ _ _ _ h=>h,fun _ _ _ _ _ _ _ h=>h,fun _ _ _ _ _ _ _ h=>h,fun _ _ _ _ _ _ _ h=>h,fun _ _ _ _ _ _ _ h=>h,fun _ _ _ _ _ _ _ h=>h,fun _ _ _ _ _ _ _ h=>h,fun _ _ _ _ _ _ _ h=>h,fun S i v w1 w2 hq hF h h0=>((fun _ _ _ hF ⟨a,b,h1,h2⟩=>⟨a,b,h1,h2.kept_from hF⟩)) v w1 w2 hF (h (lO h0)),fun S i v w1 w2 hq hF h h0=>((fun _ _ _ hF ⟨a,b,h1,h2⟩=>⟨a,b,h1,h2.kept_from hF⟩)) v w1 w2 hF (h (lO h0)),fun _ _ _ _ _ _ _ h=>h,trivial⟩ (fun S i w1 w2 hq hF h=>⟨fun h0=>(h.1 (lO h0)).next hF,fun h1=>(fun h=>h.imp fun _ h=>h.imp fun _ h=>h.from_ hF) (h.2 (nC (show 33≠i by rintro rfl;exact absurd hq (by decide)) h1))⟩) ⟨fun _=>ah.rfl_.d1,fun h=>by cases h⟩
   case hstep=>
    constructor
    ·rintro S L' w67 hU hmo hme hI hM hC hS ⟨-⟩;have hS0:S 33=false:=(ai hC (j:=33) rfl (by kernel_rfl) hS);have hM67:=hM.1 hS0;have e0:=hI.1 0 (ea rfl);exact aE [(0,_)] hU hmo hme hI hM (.head _) rfl rfl (by kernel_rfl) ⟨e0,trivial⟩ (aH (v:=.pointer _) rfl) ah.rfl_ (rfl)
    constructor
    ·rintro S L' w68 hU hmo hme hI hM hC hS ⟨-⟩;have hS0:S 33=false:=(ai hC (j:=33) rfl (by kernel_rfl) (ai hC (j:=32) rfl (by kernel_rfl) hS));have hM68:=hM.1 hS0;have e1:=hI.1 1 (ea rfl);exact aE [(1,_)] hU hmo hme hI hM (.tail _ (.head _)) rfl rfl (by kernel_rfl) ⟨e1,trivial⟩ (aH (v:=.int _ _) rfl) ah.rfl_ (rfl)
    constructor
    ·rintro S L' w69 hU hmo hme hI hM hC hS ⟨-⟩;have hS0:S 33=false:=(ai hC (j:=33) rfl (by kernel_rfl) (ai hC (j:=32) rfl (by kernel_rfl) (ai hC (j:=10) rfl (by kernel_rfl) (ai hC (j:=9) rfl (by kernel_rfl) (ai hC (j:=8) rfl (by kernel_rfl) (ai hC (j:=6) rfl (by kernel_rfl) (ai hC (j:=5) rfl (by kernel_rfl) (ai hC (j:=4) rfl (by kernel_rfl) (ai hC (j:=3) rfl (by kernel_rfl) hS)))))))));have hM69:=hM.1 hS0;have e0:=hI.1 0 (ea rfl);exact aE [(0,_)] hU hmo hme hI hM (gM 2 rfl) rfl rfl (by kernel_rfl) ⟨e0,trivial⟩ (aH (v:=.pointer _) rfl) ah.rfl_ (rfl)
    constructor
    ·rintro S L' w70 hU hmo hme hI hM hC hS ⟨d2,-⟩;have hS0:S 33=false:=(ai hC (j:=33) rfl (by kernel_rfl) (ai hC (j:=32) rfl (by kernel_rfl) (ai hC (j:=10) rfl (by kernel_rfl) (ai hC (j:=9) rfl (by kernel_rfl) (ai hC (j:=8) rfl (by kernel_rfl) (ai hC (j:=6) rfl (by kernel_rfl) (ai hC (j:=5) rfl (by kernel_rfl) (ai hC (j:=4) rfl (by kernel_rfl) hS))))))));have hM70:=hM.1 hS0;obtain ⟨v70_100,e100,h100⟩:=hI.get (i:=2) (gM 2 rfl) d2;obtain rfl:=h100;exact aE [(100,_)] hU hmo hme hI hM (gM 3 rfl) rfl rfl (by kernel_rfl) ⟨e100,trivial⟩ (av rfl) ah.rfl_ (rfl)
    constructor
    ·rintro S L' w71 hU hmo hme hI hM hC hS ⟨d3,-⟩;have hS0:S 33=false:=(ai hC (j:=33) rfl (by kernel_rfl) (ai hC (j:=32) rfl (by kernel_rfl) (ai hC (j:=10) rfl (by kernel_rfl) (ai hC (j:=9) rfl (by kernel_rfl) (ai hC (j:=8) rfl (by kernel_rfl) (ai hC (j:=6) rfl (by kernel_rfl) (ai hC (j:=5) rfl (by kernel_rfl) hS)))))));have hM71:=hM.1 hS0;obtain ⟨v71_101,e101,h101⟩:=hI.get (i:=3) (gM 3 rfl) d3;obtain rfl:=h101;exact aE [(101,_)] hU hmo hme hI hM (gM 4 rfl) rfl rfl (by kernel_rfl) ⟨e101,trivial⟩ (ab aJ rfl) ah.rfl_ (rfl)
    constructor
    ·rintro S L' w72 hU hmo hme hI hM hC hS ⟨d4,-⟩;have hS0:S 33=false:=(ai hC (j:=33) rfl (by kernel_rfl) (ai hC (j:=32) rfl (by kernel_rfl) (ai hC (j:=10) rfl (by kernel_rfl) (ai hC (j:=9) rfl (by kernel_rfl) (ai hC (j:=8) rfl (by kernel_rfl) (ai hC (j:=6) rfl (by kernel_rfl) hS))))));have hM72:=hM.1 hS0;obtain ⟨v72_102,e102,h102⟩:=hI.get (i:=4) (gM 4 rfl) d4;obtain rfl:=h102;exact aE [(102,_)] hU hmo hme hI hM (gM 5 rfl) rfl rfl (by kernel_rfl) ⟨e102,trivial⟩ (ab bY rfl) ah.rfl_ (rfl)
    constructor
    ·rintro S L' w73 hU hmo hme hI hM hC hS ⟨d5,-⟩;have hS0:S 33=false:=(ai hC (j:=33) rfl (by kernel_rfl) (ai hC (j:=32) rfl (by kernel_rfl) (ai hC (j:=10) rfl (by kernel_rfl) (ai hC (j:=9) rfl (by kernel_rfl) (ai hC (j:=8) rfl (by kernel_rfl) hS)))));have hM73:=hM.1 hS0;obtain ⟨v73_103,e103,h103⟩:=hI.get (i:=5) (gM 5 rfl) d5;obtain rfl:=h103;exact aE [(103,_)] hU hmo hme hI hM (gM 6 rfl) rfl rfl (by kernel_rfl) ⟨e103,trivial⟩ (ar bc rfl (by exact (show _=some (Value.slice (some ⟨gX,0,none⟩) p.s.next.length Xc) from ct (hb.from_ (((((ah.rfl_.next E4).only O1 (hg4)).next D16).next D66).next hM73)) 15 rfl))) ah.rfl_ (rfl)
    constructor
    ·rintro S L' w74 hU hmo hme hI hM hC hS ⟨-⟩;have hS0:S 33=false:=(ai hC (j:=33) rfl (by kernel_rfl) (ai hC (j:=32) rfl (by kernel_rfl) (ai hC (j:=10) rfl (by kernel_rfl) (ai hC (j:=9) rfl (by kernel_rfl) (ai hC (j:=8) rfl (by kernel_rfl) hS)))));have hM74:=hM.1 hS0;have e5:=hI.1 5 (ea rfl);exact aE [(5,_)] hU hmo hme hI hM (gM 7 rfl) rfl rfl (by kernel_rfl) ⟨e5,trivial⟩ (aH (v:=.int _ _) rfl) ah.rfl_ (rfl)
    constructor
    ·rintro S L' w75 hU hmo hme hI hM hC hS ⟨d6,d7,-⟩;have hS0:S 33=false:=(ai hC (j:=33) rfl (by kernel_rfl) (ai hC (j:=32) rfl (by kernel_rfl) (ai hC (j:=10) rfl (by kernel_rfl) (ai hC (j:=9) rfl (by kernel_rfl) hS))));have hM75:=hM.1 hS0;obtain ⟨v75_104,e104,h104⟩:=hI.get (i:=6) (gM 6 rfl) d6;obtain rfl:=h104;obtain ⟨v75_105,e105,h105⟩:=hI.get (i:=7) (gM 7 rfl) d7;obtain rfl:=h105;exact aE [(104,_),(105,_)] hU hmo hme hI hM (gM 8 rfl) rfl rfl (by kernel_rfl) ⟨e104,e105,trivial⟩ (da bj rfl rfl (by omega)) ah.rfl_ (rfl)
    constructor
    ·rintro S L' w76 hU hmo hme hI hM hC hS ⟨d8,-⟩;have hS0:S 33=false:=(ai hC (j:=33) rfl (by kernel_rfl) (ai hC (j:=32) rfl (by kernel_rfl) (ai hC (j:=10) rfl (by kernel_rfl) hS)));have hM76:=hM.1 hS0;obtain ⟨v76_106,e106,h106⟩:=hI.get (i:=8) (gM 8 rfl) d8;obtain rfl:=h106;exact aE [(106,_)] hU hmo hme hI hM (gM 9 rfl) rfl rfl (by kernel_rfl) ⟨e106,trivial⟩ (ar ao rfl (by exact dP (((((ah.rfl_.next E4).only O1 (hg4)).next D16).next D66).next hM76) hXc)) ah.rfl_ (rfl)
    constructor
    ·rintro S L' w77 hU hmo hme hI hM hC hS ⟨d9,-⟩;have hS0:S 33=false:=(ai hC (j:=33) rfl (by kernel_rfl) (ai hC (j:=32) rfl (by kernel_rfl) hS));have hM77:=hM.1 hS0;obtain ⟨v77_107,e107,h107⟩:=hI.get (i:=9) (gM 9 rfl) d9;obtain rfl:=h107;exact aE [(107,_)] hU hmo hme hI hM (gM 10 rfl) rfl rfl (by kernel_rfl) ⟨e107,trivial⟩ (ef rfl rfl (by omega)) ah.rfl_ (rfl)
    constructor
    ·rintro S L' w78 hU hmo hme hI hM hC hS ⟨-⟩;have hS0:S 33=false:=(ai hC (j:=33) rfl (by kernel_rfl) (ai hC (j:=32) rfl (by kernel_rfl) hS));have hM78:=hM.1 hS0;have e8:=hI.1 8 (ea rfl);exact aE [(8,_)] hU hmo hme hI hM (gM 11 rfl) rfl rfl (by kernel_rfl) ⟨e8,trivial⟩ (aH (v:=.int _ _) rfl) ah.rfl_ (rfl)
    constructor
    ·rintro S L' w79 hU hmo hme hI hM hC hS ⟨-⟩;have hS0:S 33=false:=(ai hC (j:=33) rfl (by kernel_rfl) (ai hC (j:=32) rfl (by kernel_rfl) (ai hC (j:=16) rfl (by kernel_rfl) (ai hC (j:=15) rfl (by kernel_rfl) (ai hC (j:=14) rfl (by kernel_rfl) (ai hC (j:=13) rfl (by kernel_rfl) hS))))));have hM79:=hM.1 hS0;have e0:=hI.1 0 (ea rfl);exact aE [(0,_)] hU hmo hme hI hM (gM 12 rfl) rfl rfl (by kernel_rfl) ⟨e0,trivial⟩ (aH (v:=.pointer _) rfl) ah.rfl_ (rfl)
    constructor
    ·rintro S L' w80 hU hmo hme hI hM hC hS ⟨d12,-⟩;have hS0:S 33=false:=(ai hC (j:=33) rfl (by kernel_rfl) (ai hC (j:=32) rfl (by kernel_rfl) (ai hC (j:=16) rfl (by kernel_rfl) (ai hC (j:=15) rfl (by kernel_rfl) (ai hC (j:=14) rfl (by kernel_rfl) hS)))));have hM80:=hM.1 hS0;obtain ⟨v80_110,e110,h110⟩:=hI.get (i:=12) (gM 12 rfl) d12;obtain rfl:=h110;exact aE [(110,_)] hU hmo hme hI hM (gM 13 rfl) rfl rfl (by kernel_rfl) ⟨e110,trivial⟩ (av rfl) ah.rfl_ (rfl)
    constructor
    ·rintro S L' w81 hU hmo hme hI hM hC hS ⟨d13,-⟩;have hS0:S 33=false:=(ai hC (j:=33) rfl (by kernel_rfl) (ai hC (j:=32) rfl (by kernel_rfl) (ai hC (j:=16) rfl (by kernel_rfl) (ai hC (j:=15) rfl (by kernel_rfl) hS))));have hM81:=hM.1 hS0;obtain ⟨v81_111,e111,h111⟩:=hI.get (i:=13) (gM 13 rfl) d13;obtain rfl:=h111;exact aE [(111,_)] hU hmo hme hI hM (gM 14 rfl) rfl rfl (by kernel_rfl) ⟨e111,trivial⟩ (ab aJ rfl) ah.rfl_ (rfl)
    constructor
    ·rintro S L' w82 hU hmo hme hI hM hC hS ⟨d14,-⟩;have hS0:S 33=false:=(ai hC (j:=33) rfl (by kernel_rfl) (ai hC (j:=32) rfl (by kernel_rfl) (ai hC (j:=16) rfl (by kernel_rfl) hS)));have hM82:=hM.1 hS0;obtain ⟨v82_112,e112,h112⟩:=hI.get (i:=14) (gM 14 rfl) d14;obtain rfl:=h112;exact aE [(112,_)] hU hmo hme hI hM (gM 15 rfl) rfl rfl (by kernel_rfl) ⟨e112,trivial⟩ (ab dh rfl) ah.rfl_ (rfl)
    constructor
    ·rintro S L' w83 hU hmo hme hI hM hC hS ⟨d15,-⟩;have hS0:S 33=false:=(ai hC (j:=33) rfl (by kernel_rfl) (ai hC (j:=32) rfl (by kernel_rfl) hS));have hM83:=hM.1 hS0;obtain ⟨v83_113,e113,h113⟩:=hI.get (i:=15) (gM 15 rfl) d15;obtain rfl:=h113;exact aE [(113,_)] hU hmo hme hI hM (gM 16 rfl) rfl rfl (by kernel_rfl) ⟨e113,trivial⟩ (ar ao rfl (by exact (show _=some (Value.int .i64 p.s.commit) from ct (hb.from_ (((((ah.rfl_.next E4).only O1 (hg4)).next D16).next D66).next hM83)) 10 rfl))) ah.rfl_ (rfl)
    constructor
    ·rintro S L' w84 hU hmo hme hI hM hC hS ⟨-⟩;have hS0:S 33=false:=(ai hC (j:=33) rfl (by kernel_rfl) (ai hC (j:=32) rfl (by kernel_rfl) (ai hC (j:=21) rfl (by kernel_rfl) (ai hC (j:=20) rfl (by kernel_rfl) (ai hC (j:=19) rfl (by kernel_rfl) (ai hC (j:=18) rfl (by kernel_rfl) hS))))));have hM84:=hM.1 hS0;have e0:=hI.1 0 (ea rfl);exact aE [(0,_)] hU hmo hme hI hM (gM 17 rfl) rfl rfl (by kernel_rfl) ⟨e0,trivial⟩ (aH (v:=.pointer _) rfl) ah.rfl_ (rfl)
    constructor
    ·rintro S L' w85 hU hmo hme hI hM hC hS ⟨d17,-⟩;have hS0:S 33=false:=(ai hC (j:=33) rfl (by kernel_rfl) (ai hC (j:=32) rfl (by kernel_rfl) (ai hC (j:=21) rfl (by kernel_rfl) (ai hC (j:=20) rfl (by kernel_rfl) (ai hC (j:=19) rfl (by kernel_rfl) hS)))));have hM85:=hM.1 hS0;obtain ⟨v85_115,e115,h115⟩:=hI.get (i:=17) (gM 17 rfl) d17;obtain rfl:=h115;exact aE [(115,_)] hU hmo hme hI hM (gM 18 rfl) rfl rfl (by kernel_rfl) ⟨e115,trivial⟩ (av rfl) ah.rfl_ (rfl)
    constructor
    ·rintro S L' w86 hU hmo hme hI hM hC hS ⟨d18,-⟩;have hS0:S 33=false:=(ai hC (j:=33) rfl (by kernel_rfl) (ai hC (j:=32) rfl (by kernel_rfl) (ai hC (j:=21) rfl (by kernel_rfl) (ai hC (j:=20) rfl (by kernel_rfl) hS))));have hM86:=hM.1 hS0;obtain ⟨v86_116,e116,h116⟩:=hI.get (i:=18) (gM 18 rfl) d18;obtain rfl:=h116;exact aE [(116,_)] hU hmo hme hI hM (gM 19 rfl) rfl rfl (by kernel_rfl) ⟨e116,trivial⟩ (ab aJ rfl) ah.rfl_ (rfl)
    constructor
    ·rintro S L' w87 hU hmo hme hI hM hC hS ⟨d19,-⟩;have hS0:S 33=false:=(ai hC (j:=33) rfl (by kernel_rfl) (ai hC (j:=32) rfl (by kernel_rfl) (ai hC (j:=21) rfl (by kernel_rfl) hS)));have hM87:=hM.1 hS0;obtain ⟨v87_117,e117,h117⟩:=hI.get (i:=19) (gM 19 rfl) d19;obtain rfl:=h117;exact aE [(117,_)] hU hmo hme hI hM (gM 20 rfl) rfl rfl (by kernel_rfl) ⟨e117,trivial⟩ (ab dp rfl) ah.rfl_ (rfl)
    constructor
    ·rintro S L' w88 hU hmo hme hI hM hC hS ⟨d20,-⟩;have hS0:S 33=false:=(ai hC (j:=33) rfl (by kernel_rfl) (ai hC (j:=32) rfl (by kernel_rfl) hS));have hM88:=hM.1 hS0;obtain ⟨v88_118,e118,h118⟩:=hI.get (i:=20) (gM 20 rfl) d20;obtain rfl:=h118;exact aE [(118,_)] hU hmo hme hI hM (gM 21 rfl) rfl rfl (by kernel_rfl) ⟨e118,trivial⟩ (ar ao rfl (by exact (show _=some (Value.int .i64 p.s.round) from ct (hb.from_ (((((ah.rfl_.next E4).only O1 (hg4)).next D16).next D66).next hM88)) 18 rfl))) ah.rfl_ (rfl)
    constructor
    ·rintro S L' w89 hU hmo hme hI hM hC hS ⟨-⟩;have hS0:S 33=false:=(ai hC (j:=33) rfl (by kernel_rfl) (ai hC (j:=32) rfl (by kernel_rfl) (ai hC (j:=31) rfl (by kernel_rfl) hS)));have hM89:=hM.1 hS0;have e4:=hI.1 4 (ea rfl);exact aE [(4,_)] hU hmo hme hI hM (gM 22 rfl) rfl rfl (by kernel_rfl) ⟨e4,trivial⟩ (aG (cs:=[.int .i64 p.s.b,.int .i64 p.s.t,.slice E p.s.es.length Ec]) dd cT rfl ((hP1.from_ (((ah.rfl_.next D16).next D66).next hM89)).whole)) ah.rfl_ (rfl)
    constructor
    ·rintro S L' w90 hU hmo hme hI hM hC hS ⟨-⟩;have hS0:S 33=false:=(ai hC (j:=33) rfl (by kernel_rfl) (ai hC (j:=32) rfl (by kernel_rfl) (ai hC (j:=31) rfl (by kernel_rfl) (ai hC (j:=30) rfl (by kernel_rfl) (ai hC (j:=29) rfl (by kernel_rfl) (ai hC (j:=27) rfl (by kernel_rfl) (ai hC (j:=26) rfl (by kernel_rfl) (ai hC (j:=25) rfl (by kernel_rfl) (ai hC (j:=24) rfl (by kernel_rfl) hS)))))))));have hM90:=hM.1 hS0;have e0:=hI.1 0 (ea rfl);exact aE [(0,_)] hU hmo hme hI hM (gM 23 rfl) rfl rfl (by kernel_rfl) ⟨e0,trivial⟩ (aH (v:=.pointer _) rfl) ah.rfl_ (rfl)
    constructor
    ·rintro S L' w91 hU hmo hme hI hM hC hS ⟨d23,-⟩;have hS0:S 33=false:=(ai hC (j:=33) rfl (by kernel_rfl) (ai hC (j:=32) rfl (by kernel_rfl) (ai hC (j:=31) rfl (by kernel_rfl) (ai hC (j:=30) rfl (by kernel_rfl) (ai hC (j:=29) rfl (by kernel_rfl) (ai hC (j:=27) rfl (by kernel_rfl) (ai hC (j:=26) rfl (by kernel_rfl) (ai hC (j:=25) rfl (by kernel_rfl) hS))))))));have hM91:=hM.1 hS0;obtain ⟨v91_121,e121,h121⟩:=hI.get (i:=23) (gM 23 rfl) d23;obtain rfl:=h121;exact aE [(121,_)] hU hmo hme hI hM (gM 24 rfl) rfl rfl (by kernel_rfl) ⟨e121,trivial⟩ (av rfl) ah.rfl_ (rfl)
    constructor
    ·rintro S L' w92 hU hmo hme hI hM hC hS ⟨d24,-⟩;have hS0:S 33=false:=(ai hC (j:=33) rfl (by kernel_rfl) (ai hC (j:=32) rfl (by kernel_rfl) (ai hC (j:=31) rfl (by kernel_rfl) (ai hC (j:=30) rfl (by kernel_rfl) (ai hC (j:=29) rfl (by kernel_rfl) (ai hC (j:=27) rfl (by kernel_rfl) (ai hC (j:=26) rfl (by kernel_rfl) hS)))))));have hM92:=hM.1 hS0;obtain ⟨v92_122,e122,h122⟩:=hI.get (i:=24) (gM 24 rfl) d24;obtain rfl:=h122;exact aE [(122,_)] hU hmo hme hI hM (gM 25 rfl) rfl rfl (by kernel_rfl) ⟨e122,trivial⟩ (ab aJ rfl) ah.rfl_ (rfl)
    constructor
    ·rintro S L' w93 hU hmo hme hI hM hC hS ⟨d25,-⟩;have hS0:S 33=false:=(ai hC (j:=33) rfl (by kernel_rfl) (ai hC (j:=32) rfl (by kernel_rfl) (ai hC (j:=31) rfl (by kernel_rfl) (ai hC (j:=30) rfl (by kernel_rfl) (ai hC (j:=29) rfl (by kernel_rfl) (ai hC (j:=27) rfl (by kernel_rfl) hS))))));have hM93:=hM.1 hS0;obtain ⟨v93_123,e123,h123⟩:=hI.get (i:=25) (gM 25 rfl) d25;obtain rfl:=h123;exact aE [(123,_)] hU hmo hme hI hM (gM 26 rfl) rfl rfl (by kernel_rfl) ⟨e123,trivial⟩ (ab bY rfl) ah.rfl_ (rfl)
    constructor
    ·rintro S L' w94 hU hmo hme hI hM hC hS ⟨d26,-⟩;have hS0:S 33=false:=(ai hC (j:=33) rfl (by kernel_rfl) (ai hC (j:=32) rfl (by kernel_rfl) (ai hC (j:=31) rfl (by kernel_rfl) (ai hC (j:=30) rfl (by kernel_rfl) (ai hC (j:=29) rfl (by kernel_rfl) hS)))));have hM94:=hM.1 hS0;obtain ⟨v94_124,e124,h124⟩:=hI.get (i:=26) (gM 26 rfl) d26;obtain rfl:=h124;exact aE [(124,_)] hU hmo hme hI hM (gM 27 rfl) rfl rfl (by kernel_rfl) ⟨e124,trivial⟩ (ar bc rfl (by exact (show _=some (Value.slice (some ⟨gX,0,none⟩) p.s.next.length Xc) from ct (hb.from_ (((((ah.rfl_.next E4).only O1 (hg4)).next D16).next D66).next hM94)) 15 rfl))) ah.rfl_ (rfl)
    constructor
    ·rintro S L' w95 hU hmo hme hI hM hC hS ⟨-⟩;have hS0:S 33=false:=(ai hC (j:=33) rfl (by kernel_rfl) (ai hC (j:=32) rfl (by kernel_rfl) (ai hC (j:=31) rfl (by kernel_rfl) (ai hC (j:=30) rfl (by kernel_rfl) (ai hC (j:=29) rfl (by kernel_rfl) hS)))));have hM95:=hM.1 hS0;have e5:=hI.1 5 (ea rfl);exact aE [(5,_)] hU hmo hme hI hM (gM 28 rfl) rfl rfl (by kernel_rfl) ⟨e5,trivial⟩ (aH (v:=.int _ _) rfl) ah.rfl_ (rfl)
    constructor
    ·rintro S L' w96 hU hmo hme hI hM hC hS ⟨d27,d28,-⟩;have hS0:S 33=false:=(ai hC (j:=33) rfl (by kernel_rfl) (ai hC (j:=32) rfl (by kernel_rfl) (ai hC (j:=31) rfl (by kernel_rfl) (ai hC (j:=30) rfl (by kernel_rfl) hS))));have hM96:=hM.1 hS0;obtain ⟨v96_125,e125,h125⟩:=hI.get (i:=27) (gM 27 rfl) d27;obtain rfl:=h125;obtain ⟨v96_126,e126,h126⟩:=hI.get (i:=28) (gM 28 rfl) d28;obtain rfl:=h126;exact aE [(125,_),(126,_)] hU hmo hme hI hM (gM 29 rfl) rfl rfl (by kernel_rfl) ⟨e125,e126,trivial⟩ (da bj rfl rfl (by omega)) ah.rfl_ (rfl)
    constructor
    ·rintro S L' w97 hU hmo hme hI hM hC hS ⟨d29,-⟩;have hS0:S 33=false:=(ai hC (j:=33) rfl (by kernel_rfl) (ai hC (j:=32) rfl (by kernel_rfl) (ai hC (j:=31) rfl (by kernel_rfl) hS)));have hM97:=hM.1 hS0;obtain ⟨v97_127,e127,h127⟩:=hI.get (i:=29) (gM 29 rfl) d29;obtain rfl:=h127;exact aE [(127,_)] hU hmo hme hI hM (gM 30 rfl) rfl rfl (by kernel_rfl) ⟨e127,trivial⟩ (ar ao rfl (by exact dP (((((ah.rfl_.next E4).only O1 (hg4)).next D16).next D66).next hM97) hXc)) ah.rfl_ (rfl)
    constructor
    ·rintro S L' w98 hU hmo hme hI hM hC hS ⟨d22,d30,-⟩;have hS0:S 33=false:=(ai hC (j:=33) rfl (by kernel_rfl) hS);have hM98:=hM.1 hS0;obtain ⟨v98_120,e120,h120⟩:=hI.get (i:=22) (gM 22 rfl) d22;obtain rfl:=h120;obtain ⟨v98_128,e128,h128⟩:=hI.get (i:=30) (gM 30 rfl) d30;obtain rfl:=h128;refine iK (al:=[.tmp 120,.tmp 128,.const (.int .i64 16)]) [(120,_),(128,_)] hU hmo hme hI hM (gM 31 rfl) rfl (by kernel_rfl) ⟨e120,e128,trivial⟩ sQ ((vL p.s p.s.next[k] E Ec _ (he.from_ (((((ah.rfl_.next E4).only O1 (hg4)).next D16).next D66).next hM98)) hF.lg (by omega)).mono ?_);rintro v w2 ⟨⟨a,b,rfl,h⟩,hF⟩;exact ⟨hF,fun _=>⟨a,b,rfl,ei h ((((((ah.rfl_.next E4).only O1 (hg4)).next D16).next D66).next hM98)).size⟩⟩
    constructor
    ·rintro S L' w99 hU hmo hme hI hM hC hS ⟨d1,d10,d11,d16,d21,d31,-⟩;have hS0:S 33=false:=(ai hC (j:=33) rfl (by kernel_rfl) hS);have hM99:=hM.1 hS0;obtain ⟨v99_99,e99,h99⟩:=hI.get (i:=1) (.tail _ (.head _)) d1;obtain rfl:=h99;obtain ⟨v99_108,e108,h108⟩:=hI.get (i:=10) (gM 10 rfl) d10;obtain rfl:=h108;obtain ⟨v99_109,e109,h109⟩:=hI.get (i:=11) (gM 11 rfl) d11;obtain rfl:=h109;obtain ⟨v99_114,e114,h114⟩:=hI.get (i:=16) (gM 16 rfl) d16;obtain rfl:=h114;obtain ⟨v99_119,e119,h119⟩:=hI.get (i:=21) (gM 21 rfl) d21;obtain rfl:=h119;obtain ⟨v99_129,e129,h129⟩:=hI.get (i:=31) (gM 31 rfl) d31;obtain ⟨A129,c129,rfl,ho129⟩:=h129 hS0;exact aE [(99,_),(108,_),(109,_),(114,_),(119,_),(129,_)] hU hmo hme hI hM (gM 32 rfl) rfl rfl (by kernel_rfl) ⟨e99,e108,e109,e114,e119,e129,trivial⟩ ((cV (l:=[(0,.const (.int .i64 3)),(2,.tmp 99),(4,.tmp 108),(5,.tmp 109),(6,.tmp 114),(7,.tmp 119),(9,.tmp 129)]) (gA _ _ _ _ _ _ _ _))) (ah.rfl_) (fun _=>⟨A129,c129,rfl,ho129⟩)
    constructor
    ·rintro S L' w100 hU hmo hme hI hM hC hS ⟨d0,d32,d31,-⟩;have hS0:S 33=false:=hS;have hM100:=hM.1 hS0;obtain ⟨v100_98,e98,h98⟩:=hI.get (i:=0) (.head _) d0;obtain rfl:=h98;obtain ⟨v100_130,e130,h130⟩:=hI.get (i:=32) (gM 32 rfl) d32;obtain ⟨A130,c130,rfl,ho130⟩:=h130 hS0;refine gI (al:=[.tmp 98,.tmp 130]) [(98,_),(130,_)] hU hI (gM 33 rfl) (by kernel_rfl) ⟨e98,e130,trivial⟩ iY ((ke w0 Z T g p _ (h.from_ (((((ah.rfl_.next E4).only O1 (hg4)).next D16).next D66).next hM100)) _ _ O oc L (hs.new hzw (((((ah.rfl_.next E4).only O1 (hg4)).next D16).next D66).next hM100) (1000+2*L.length)) (by omega) ({ zM with k:=3,t:=(k:Int)+1,ix:=p.s.next[k]-1,lt:=dJ p.s.b p.s.t p.s.es (p.s.next[k]-1),cm:=p.s.commit,rd:=p.s.round,E:=A130,c:=c130,es:=(p.s.es.drop (p.s.next[k]-p.s.b-1).toNat).take 16 }:Msg) ⟨ei (base':=0) (ho130.kept_from ah.rfl_) (Nat.zero_le _),fun q hq=>dB (d_ ho130 q hq).1⟩).mono ?_);rintro v9 w2 ⟨rfl,hS2⟩;exact ⟨⟨fun h0=>(by rw [ld] at h0;cases h0),fun _=>⟨_,_,hS2⟩⟩,rfl,⟨fun _ _ _ h=>h,fun _ _ _ h=>h,fun _ _ _ h=>h,fun _ _ _ h=>h,fun _ _ _ h=>h,fun _ _ _ h=>h,fun _ _ _ h=>h,fun _ _ _ h=>h,fun _ _ _ h=>h,fun _ _ _ h=>h,fun _ _ _ h=>h,fun _ _ _ h=>h,fun _ _ _ h=>h,fun _ _ _ h=>h,fun _ _ _ h=>h,fun _ _ _ h=>h,fun _ _ _ h=>h,fun _ _ _ h=>h,fun _ _ _ h=>h,fun _ _ _ h=>h,fun _ _ _ h=>h,fun _ _ _ h=>h,fun _ _ _ h=>h,fun _ _ _ h=>h,fun _ _ _ h=>h,fun _ _ _ h=>h,fun _ _ _ h=>h,fun _ _ _ h=>h,fun _ _ _ h=>h,fun _ _ _ h=>h,fun _ _ _ h=>h,fun _ _ _ _ h0=>(by rw [ld] at h0;cases h0),fun _ _ _ _ h0=>(by rw [ld] at h0;cases h0),fun _ _ _ h=>h,trivial⟩⟩
    exact trivial
   case hend=>
    intro w101 hM;obtain ⟨A9,c9,hS9⟩:=hM.2 rfl;rintro v101_98 rfl v101_99 rfl v101_100 rfl v101_101 rfl v101_102 rfl v101_103 rfl v101_104 rfl v101_105 rfl v101_106 rfl v101_107 rfl v101_108 rfl v101_109 rfl v101_110 rfl v101_111 rfl v101_112 rfl v101_113 rfl v101_114 rfl v101_115 rfl v101_116 rfl v101_117 rfl v101_118 rfl v101_119 rfl v101_120 rfl v101_121 rfl v101_122 rfl v101_123 rfl v101_124 rfl v101_125 rfl v101_126 rfl v101_127 rfl v101_128 rfl v101_129-v101_130-v101_131 rfl;refine gy (cC (dV rfl ?_))
    have e9:p.send ((k:Int)+1)=p.tell (pl ({ zM with k:=3,t:=(k:Int)+1,ix:=p.s.next[k]-1,lt:=dJ p.s.b p.s.t p.s.es (p.s.next[k]-1),cm:=p.s.commit,rd:=p.s.round,E:=A9,c:=c9,es:=(p.s.es.drop (p.s.next[k]-p.s.b-1).toNat).take 16 }:Msg)):=by
     unfold Sp.send;rw [pG (by rw [hpn];omega),hpn];rfl
    rw [if_neg (by omega),e9];exact ⟨rfl,hS9.from_ ah.rfl_⟩
theorem ux:aO prog 106=true:=by kernel_rfl
theorem mW:aO prog 61=true:=by kernel_rfl
theorem eJ:aO prog 62=true:=by kernel_rfl
theorem wg:aO prog 63=true:=by kernel_rfl
theorem mV:aO prog 64=true:=by kernel_rfl
theorem mU:aO prog 66=true:=by kernel_rfl
theorem AU (n:Int) (w:World) :
 Rt prog 61 [.int .i64 n] w (fun v w'=>v=.bool (decide (1≤n∧n≤7))∧w=w'):=by
 refine enter (n:=9) Tryz.func61 rfl rfl rfl (ak (af (asb rfl (aj (ag (ak (af (mvi rfl (aa (jr rfl rfl) (mvb rfl (AL (t:=5) rfl (fun Q1=>?_) (fun Q1=>?_))))))))))))
 ·refine ae rfl (mvi rfl (ae rfl (aa (gp rfl rfl) (aa (aL (v:=.bool _) rfl rfl) (asb rfl (aj (ag (aB (bn (v:=.bool _) rfl rfl (⟨congrArg Value.bool ?_,rfl⟩))))))))))
  first
   |exact (decide_eq_true (by omega)).symm
   |exact (decide_eq_false (by omega)).symm
   |(rw [decide_eq_decide];omega)
 refine an rfl rfl (an rfl rfl (aa (aw (v:=.bool _) rfl rfl) (asb rfl (aj (ag (aB (bn (v:=.bool _) rfl rfl (⟨congrArg Value.bool ?_,rfl⟩))))))))
 first
  |exact (decide_eq_true (by omega)).symm
  |exact (decide_eq_false (by omega)).symm
  |(rw [decide_eq_decide];omega)
theorem tB (n:Int) (w:World) :
 Rt prog 62 [.int .i64 n] w (fun v w'=>v=.bool (decide (0≤n∧n≤1099511627775))∧w=w'):=by
 refine enter (n:=9) Tryz.func62 rfl rfl rfl (ak (af (asb rfl (aj (ag (ak (af (mvi rfl (aa (jr rfl rfl) (mvb rfl (AL (t:=5) rfl (fun Q1=>?_) (fun Q1=>?_))))))))))))
 ·refine ae rfl (mvi rfl (ae rfl (aa (bM rfl rfl) (aa (aL (v:=.bool _) rfl rfl) (asb rfl (aj (ag (aB (bn (v:=.bool _) rfl rfl (⟨congrArg Value.bool ?_,rfl⟩))))))))))
  first
   |exact (decide_eq_true (by omega)).symm
   |exact (decide_eq_false (by omega)).symm
   |(rw [decide_eq_decide];omega)
 refine an rfl rfl (an rfl rfl (aa (aw (v:=.bool _) rfl rfl) (asb rfl (aj (ag (aB (bn (v:=.bool _) rfl rfl (⟨congrArg Value.bool ?_,rfl⟩))))))))
 first
  |exact (decide_eq_true (by omega)).symm
  |exact (decide_eq_false (by omega)).symm
  |(rw [decide_eq_decide];omega)
theorem Bw (s:Rf) (E:Option Addr) (n c:Nat) (w:World) (h:cz w (.slice E n c) s.es):Rt prog 63 [.agg #[.int .i64 s.b,.int .i64 s.t,.slice E n c]] w fun v w'=>v=.bool (cJ s.b s.t s.es)∧ah w w':=
 (Rt.of (y8 s.b s.t _ s.es w h)).mono fun _ _ h=>h
def eU (l:List Int) (n lo hi:Int):Prop:=(l.length:Int)=n∧eE lo hi l
instance (l:List Int) (n lo hi:Int):Decidable (eU l n lo hi):=by unfold eU;exact inferInstance
theorem Af (A:Option Addr) (c:Nat) (l:List Int) (w:World) (hr:dE iV w A l) (hl:l.length≤1000000) :
 Rt prog 106 [.slice A l.length c] w (fun v w'=>v=.bool (fS l)∧ah w w'):=by
 refine enter (n:=20) Tryz.func106 rfl rfl rfl (ak (af (asb rfl (aj (ag (ak (ak (af (asi rfl (aj (ag (aU (cM (G:=Nat) [2,4,5,6,7,8,9,10,11,12,13,14,15,16,17,18,19] (fun k=>[(3,.int .i64 (k:Nat))]) (fun k w'=>1≤k∧(k≤l.length∨k=1)∧(∀ j (h:j+1<l.length),j+1<k→l[j]<l[j+1])∧ah w w') (fun k=>l.length-k) (1) ⟨rfl,trivial⟩ ?_ ?_)))))))))))))
 ·exact ⟨Nat.le_refl _,.inr rfl,fun j _ h=>absurd h (by omega),ah.rfl_⟩
 rintro k ρ1 w1 ⟨hk0,hk,h2,hB⟩;refine ak (ak (af (mvi rfl (mvs rfl (aa (bH bI rfl) (aa (bM rfl rfl) (aj (ag (Bk rfl (fun Q2=>?_) (fun Q2=>?_))))))))))
 ·have hkx:k<l.length:=by omega
  obtain ⟨ba,oa,rfl,hca⟩:=hr (by omega);refine aM (ag (ak (aU (ak ?_))));apply bQ 10 [(10,eqp _),(11,eqp _),(12,eqp _),(13,eqp (.int .i64 l[k])),(14,eqp _),(15,eqp _),(16,eqp (.int .i64 ((k-1:Nat):Int))),(17,eqp _),(18,eqp (.int .i64 l[k-1])),(19,eqp _)] (by repeat first | exact cB | refine cA ?_ | refine bW ?_) (by kernel_rfl) (by kernel_rfl) ⟨aq _,aq _,aq _,aq _,aq _,aq _,aq _,aq _,aq _,aq _,trivial⟩
  case hop=>
   constructor
   ·rintro-w4 D4;exact au (aH (v:=.slice _ _ _) rfl) rfl
   constructor
   ·rintro-w5 D5;exact au (aH (v:=.int _ _) rfl) rfl
   constructor
   ·rintro-w6 D6;rintro _ rfl _ rfl;exact au (bX bj rfl rfl (by omega)) rfl
   constructor
   ·rintro-w7 D7;rintro _ rfl;exact au (ar ao rfl (by exact dP (hB.next D7) (hca k hkx))) rfl
   constructor
   ·rintro-w8 D8;exact au (aH (v:=.slice _ _ _) rfl) rfl
   constructor
   ·rintro-w9 D9;exact au (aH (v:=.int _ _) rfl) rfl
   constructor
   ·rintro-w10 D10;rintro _ rfl;exact au (fT (ef rfl rfl (by omega)) (br (by omega))) rfl
   constructor
   ·rintro-w11 D11;rintro _ rfl v11_16 rfl;exact au (bX bj rfl rfl (by omega)) rfl
   constructor
   ·rintro-w12 D12;rintro _ rfl;exact au (ar ao rfl (by exact dP (hB.next D12) (hca (k-1) (by omega)))) rfl
   constructor
   ·rintro-w13 D13;rintro v13_13 rfl v13_18 rfl;exact au (gp rfl rfl) rfl
   exact trivial
  case hend=>
   intro w14 D14;rintro _ rfl _ rfl _ rfl v13 rfl _ rfl _ rfl v16 rfl _ rfl v18 rfl _ rfl;show St ..;refine aj (ag (Bk rfl (fun Q15=>?_) (fun Q15=>?_)))
   ·refine ak (af (asb rfl (aj (ag (aB (bC (aD (aD (bC (aD (bn (v:=.bool _) rfl rfl (⟨congrArg Value.bool ?_,(hB.next D14)⟩))))))))))));rw [eq_comm,←Bool.not_eq_true,iM];intro h4;obtain ⟨j,rfl⟩:∃ j,k=j+1:=⟨k-1,by omega⟩;have h6:=h4 j hkx
    (try simp only [Nat.add_sub_cancel] at*)
    omega
   refine aM (bo (ag (af (mvi rfl (aa (b0 rfl rfl (by omega)) (asi rfl (aj ?_)))))));refine cp (k+1) ⟨(by first | rfl | (refine br ?_;omega)),trivial⟩ (by (iterate 35 refine bA rfl ?_);exact bN) ⟨?_,?_⟩
   ·refine ⟨by omega,.inl (by omega),fun j h hj=>?_,(hB.next D14)⟩;rcases Nat.lt_or_ge (j+1) k with e | e
    ·exact h2 j h e
    ·obtain rfl:k=j+1:=by omega
     (try simp only [Nat.add_sub_cancel] at*)
     omega
   ·omega
 refine b_ (bf (bf (bL (ag (ak (af (asb rfl (aj (ag (aB (bn (v:=.bool _) rfl rfl (⟨congrArg Value.bool ?_,hB⟩))))))))))));rw [eq_comm,iM];exact fun j hj=>h2 j hj (by omega)
theorem tD (A:Option Addr) (c:Nat) (l:List Int) (n:Int) (w:World) (hr:dE iV w A l) (hl:l.length≤1000000) :
 Rt prog 64 [.slice A l.length c,.int .i64 n] w (fun v w'=>v=.bool (fj l n)∧ah w w'):=by
 refine enter (n:=27) Tryz.func64 rfl rfl rfl (ak (af (asb rfl (aj (ag (ak (ak (af (asi rfl (aj (ag (aU (cM (G:=Nat) [4,6,7,8,9,10,11,12,13,14,15,16,17,18,19,20,21,22,23,24] (fun k=>[(5,.int .i64 (k:Nat))]) (fun k w'=>k≤l.length∧(∀ j (h:j<l.length),j<k→1≤l[j]∧l[j]≤n)∧ah w w') (fun k=>l.length-k) (0) ⟨rfl,trivial⟩ ?_ ?_)))))))))))))
 ·exact ⟨Nat.zero_le _,fun j _ h=>absurd h (by omega),ah.rfl_⟩
 rintro k ρ1 w1 ⟨hk,h1,hB⟩;refine ak (ak (af (mvi rfl (mvs rfl (aa (bH bI rfl) (aa (bM rfl rfl) (aj (ag (Bk rfl (fun Q2=>?_) (fun Q2=>?_))))))))))
 ·have hkx:k<l.length:=by omega
  obtain ⟨ba,oa,rfl,hca⟩:=hr (by omega);refine aM (ag (ak (aU (ak (af (mvs rfl (mvi rfl (aa (bX bj rfl rfl (by omega)) (aa (ar ao rfl (by exact dP hB (hca k hkx))) ?_)))))))));refine aa (bM rfl rfl) (mvb rfl (AL (t:=17) rfl (fun Q3=>?_) (fun Q3=>?_)))
  ·refine bw rfl (aj (ag (aS rfl (ak (af (asb rfl (aj (ag (aB (bC (aD (aD (bC (aD (bn (v:=.bool _) rfl rfl (⟨congrArg Value.bool ?_,hB⟩))))))))))))))));rw [eq_comm,←Bool.not_eq_true,gK];rintro ⟨h3,h4⟩;have h5:=h3 _ (List.getElem_mem hkx);omega
  refine ae rfl (mvs rfl (ae rfl (mvi rfl (ae rfl (aa (bX bj rfl rfl (by omega)) (ae rfl (aa (ar ao rfl (by exact dP hB (hca k hkx))) ?_)))))));refine ae rfl (mvi rfl (ae rfl (aa (cn rfl rfl) (aa (aw (v:=.bool _) rfl rfl) (aj (ag (Bk rfl (fun Q4=>?_) (fun Q4=>?_))))))))
  ·refine ak (af (asb rfl (aj (ag (aB (bC (aD (aD (bC (aD (bn (v:=.bool _) rfl rfl (⟨congrArg Value.bool ?_,hB⟩))))))))))));rw [eq_comm,←Bool.not_eq_true,gK];rintro ⟨h3,h4⟩;have h5:=h3 _ (List.getElem_mem hkx);omega
  refine aM (bo (ag (af (mvi rfl (aa (b0 rfl rfl (by omega)) (asi rfl (aj ?_)))))));refine cp (k+1) ⟨(by first | rfl | (refine br ?_;omega)),trivial⟩ (by (iterate 42 refine bA rfl ?_);exact bN) ⟨?_,?_⟩
  ·refine ⟨by omega,fun j h hj=>?_,hB⟩;rcases Nat.lt_or_ge j k with e | e
   ·exact h1 j h e
   ·obtain rfl:j=k:=by omega
    omega
  ·omega
 refine b_ (bf (bf (bL (ag (ak (af (mvs rfl (ay ux (Af A c l _ (hr.from_ hB) hl) ?_))))))));rintro v26 w5 ⟨rfl,E26⟩;refine asb rfl (aj (ag (aB (bn (v:=.bool _) rfl rfl (⟨congrArg Value.bool ?_,(hB.next E26)⟩)))));obtain rfl:k=l.length:=by omega
 rw [Bool.eq_iff_iff,gK,iM];exact ⟨fun h=>⟨fun x hx=>by obtain ⟨j,hj,rfl⟩:=List.getElem_of_mem hx;exact h1 j hj hj,h⟩,fun h=>h.2⟩
theorem yb (A:Option Addr) (c:Nat) (l:List Int) (n lo hi:Int) (w:World) (hr:dE iV w A l) (hl:l.length≤1000000) :
 Rt prog 66 [.slice A l.length c,.int .i64 n,.int .i64 lo,.int .i64 hi] w (fun v w'=>v=.bool (decide (eU l n lo hi))∧ah w w'):=by
 refine enter (n:=34) Tryz.func66 rfl rfl rfl (ak (af (asb rfl (aj (ag (ak (ak (af (asi rfl (aj (ag (aU (cM (G:=Nat) [8,10,11,12,13,14,15,16,17,18,19,20,21,22,23,24,25,26,27,28,29] (fun k=>[(9,.int .i64 (k:Nat))]) (fun k w'=>k≤l.length∧(∀ j (h:j<l.length),j<k→lo≤l[j]∧l[j]≤hi)∧ah w w') (fun k=>l.length-k) (0) ⟨rfl,trivial⟩ ?_ ?_)))))))))))))
 ·exact ⟨Nat.zero_le _,fun j _ h=>absurd h (by omega),ah.rfl_⟩
 rintro k ρ1 w1 ⟨hk,h1,hB⟩;refine ak (ak (af (mvi rfl (mvs rfl (aa (bH bI rfl) (aa (bM rfl rfl) (aj (ag (Bk rfl (fun Q2=>?_) (fun Q2=>?_))))))))))
 ·have hkx:k<l.length:=by omega
  obtain ⟨ba,oa,rfl,hca⟩:=hr (by omega);refine aM (ag (ak (aU (ak (af (mvs rfl (mvi rfl (aa (bX bj rfl rfl (by omega)) (aa (ar ao rfl (by exact dP hB (hca k hkx))) ?_)))))))));refine mvi rfl (aa (bM rfl rfl) (mvb rfl (AL (t:=22) rfl (fun Q3=>?_) (fun Q3=>?_))))
  ·refine bw rfl (aj (ag (aS rfl (ak (af (asb rfl (aj (ag (aB (bC (aD (aD (bC (aD (bn (v:=.bool _) rfl rfl (⟨congrArg Value.bool ?_,hB⟩))))))))))))))));rw [eq_comm,decide_eq_false_iff_not];rintro ⟨h3,h4⟩;have h5:=h4 _ (List.getElem_mem hkx);omega
  refine ae rfl (mvs rfl (ae rfl (mvi rfl (ae rfl (aa (bX bj rfl rfl (by omega)) (ae rfl (aa (ar ao rfl (by exact dP hB (hca k hkx))) ?_)))))));refine ae rfl (mvi rfl (ae rfl (aa (cn rfl rfl) (aa (aw (v:=.bool _) rfl rfl) (aj (ag (Bk rfl (fun Q4=>?_) (fun Q4=>?_))))))))
  ·refine ak (af (asb rfl (aj (ag (aB (bC (aD (aD (bC (aD (bn (v:=.bool _) rfl rfl (⟨congrArg Value.bool ?_,hB⟩))))))))))));rw [eq_comm,decide_eq_false_iff_not];rintro ⟨h3,h4⟩;have h5:=h4 _ (List.getElem_mem hkx);omega
  refine aM (bo (ag (af (mvi rfl (aa (b0 rfl rfl (by omega)) (asi rfl (aj ?_)))))));refine cp (k+1) ⟨(by first | rfl | (refine br ?_;omega)),trivial⟩ (by (iterate 44 refine bA rfl ?_);exact bN) ⟨?_,?_⟩
  ·refine ⟨by omega,fun j h hj=>?_,hB⟩;rcases Nat.lt_or_ge j k with e | e
   ·exact h1 j h e
   ·obtain rfl:j=k:=by omega
    omega
  ·omega
 refine b_ (bf (bf (bL (ag (ak (af (mvs rfl (aa (bH bI rfl) (mvi rfl (aa (bg rfl rfl) (asb rfl (aj (ag (aB (bn (v:=.bool _) rfl rfl ?_)))))))))))))));refine ⟨congrArg Value.bool ?_,hB⟩;obtain rfl:k=l.length:=by omega
 rw [Bool.eq_iff_iff,beq_iff_eq,decide_eq_true_eq];exact ⟨fun h=>⟨h,fun x hx=>by obtain ⟨j,hj,rfl⟩:=List.getElem_of_mem hx;exact h1 j hj hj⟩,fun h=>h.1⟩
theorem Bl (s:ByteArray):(!(s.toList==(⟨#[]⟩:ByteArray).toList))=decide (s.size≠0):=by
 rw [zv,Bool.eq_iff_iff];simp
theorem yQ (s:Rf) (a:Ra) (w:World) (hrd:eM w s a) (hl:s.votes.length≤1000000∧s.next.length≤1000000∧s.mtch.length≤1000000∧s.sent.length≤1000000∧s.reads.length≤1000000∧∀ q∈s.reads,q.acks.length≤1000000) :
 Rt prog 30 [.agg (rfV s a).toArray] w (fun v w'=>v=.bool (gZ s)∧ah w w'):=by
 obtain ⟨E,Ec,V,Vc,X,Xc,M,Mc,Sn,Sc,Q,Qc,LL⟩:=a;have hrL:LL.map (fun q=>q.1)=s.reads:=hrd.r;have hrk:∀ q∈LL,IR w q.2.1 q.2.2 q.1.acks:=hrd.k;obtain ⟨hl1,hl2,hl3,hl4,hl5,hl6⟩:=hl;have hrl:LL.length=s.reads.length:=by rw [←hrL,List.length_map]
 obtain ⟨nn,hnn⟩:∃ nn:Int,(s.role=2→nn=s.nodes)∧(s.role≠2→nn=0):=by
  by_cases h:s.role=2
  ·exact ⟨s.nodes,fun _=>rfl,fun e=>absurd h e⟩
  ·exact ⟨0,fun e=>absurd e h,fun _=>rfl⟩
 refine enter (n:=259) Tryz.func30 rfl rfl rfl (ak (af (bK (v:=.agg _) rfl ?_)));intro b1 w1 E1 hb1 hk1;refine asb rfl (aj (ag (oO (G:=Unit) [2,8,9,10,11,12,13,14,15,16,17,18,19,20,21,22,23,24,25,26,27,28,29,30,31,32,33,34,35,36,37,38,39,40,41,42,43,44,45,46,47,48,49,50,51,52,53,54,55,56,57,58,59,60,61,62,63,64,65,66,67,68,69,70,71,72,73,74,75,76,77,78,79,80,81,82,83,84,85,86,87,88,89,90,91,92,93,94,95,96,97,98,99,100,101,102,103,104,105,106,107,108,109,110,111,112] (fun _=>[]) (fun _ w'=>((1≤s.nodes∧s.nodes≤7)∧(1≤s.id∧s.id≤s.nodes)∧(0≤s.role∧s.role≤2)∧(0≤s.term∧s.term≤1099511627775)∧(0≤s.vote∧s.vote≤s.nodes)∧(0≤s.leader∧s.leader≤s.nodes)∧cJ s.b s.t s.es=true∧s.snap.size≤524288∧(s.b≠0∨s.snap.size=0)∧(0≤s.elapsed∧s.elapsed≤1099511627775)∧(0≤s.timeout∧s.timeout≤1099511627775)∧(0≤s.round∧s.round≤1099511627775)∧fj s.votes s.nodes=true)∧Blk w' b1 29 (rfV s (⟨E,Ec,V,Vc,X,Xc,M,Mc,Sn,Sc,Q,Qc,LL⟩:Ra)).toArray∧ah w w') ?_ ?_)))
 ·refine ak (af (aa (ab bJ rfl) (aa (ar ao rfl (by exact (hk1.from_ ah.rfl_).rd 1 rfl)) ?_)));refine ay mW (AU s.nodes _) ?_;rintro v10 w2 ⟨rfl,rfl⟩;refine aa (cd rfl) (mvb rfl (aK (t:=12) rfl (fun Q3=>?_) (fun Q3=>?_)))
  ·with_reducible (replace Q3:=dK Q3;replace Q3:=dF_ Q3)
   (try simp only [bs9] at Q3)
   refine bw rfl (aj (ag (aS rfl (ak (af (asb rfl (aj (ag (aB (aD (bn (v:=.bool _) rfl rfl (⟨congrArg Value.bool ?_,(ah.rfl_.next E1)⟩))))))))))));rw [eq_comm,←Bool.not_eq_true,bR];rintro ⟨⟨n1,n2,n3,⟨n4,n5⟩,n6,n7,n8,n9⟩,⟨g1,g2,g3,g4,g5⟩,v1,l1,⟨p1,p2,p3⟩⟩
   first
    |omega
    |(simp_all;done)
    |(simp_all;omega)
  with_reducible (replace Q3:=dL Q3;replace Q3:=dT_ Q3)
  (try simp only [bs9] at Q3)
  refine ae rfl (aa (ab bZ rfl) (ae rfl (aa (ar ao rfl (by exact (hk1.from_ ah.rfl_).rd 0 rfl)) ?_)));refine ae rfl (aa (bM rfl rfl) (aa (aw (v:=.bool _) rfl rfl) (mvb rfl (AL (t:=17) rfl (fun Q4=>?_) (fun Q4=>?_)))))
  ·(try simp only [bs9] at Q4)
   refine bw rfl (aj (ag (aS rfl (ak (af (asb rfl (aj (ag (aB (aD (bn (v:=.bool _) rfl rfl (⟨congrArg Value.bool ?_,(ah.rfl_.next E1)⟩))))))))))));rw [eq_comm,←Bool.not_eq_true,bR];rintro ⟨⟨n1,n2,n3,⟨n4,n5⟩,n6,n7,n8,n9⟩,⟨g1,g2,g3,g4,g5⟩,v1,l1,⟨p1,p2,p3⟩⟩
   first
    |omega
    |(simp_all;done)
    |(simp_all;omega)
  (try simp only [bs9] at Q4)
  refine ae rfl (aa (ab bZ rfl) (ae rfl (aa (ar ao rfl (by exact (hk1.from_ ah.rfl_).rd 0 rfl)) ?_)));refine ae rfl (aa (ab bJ rfl) (ae rfl (aa (ar ao rfl (by exact (hk1.from_ ah.rfl_).rd 1 rfl)) ?_)));refine ae rfl (aa (cn rfl rfl) (aa (aw (v:=.bool _) rfl rfl) (mvb rfl (AL (t:=24) rfl (fun Q5=>?_) (fun Q5=>?_)))))
  ·(try simp only [bs9] at Q5)
   refine bw rfl (aj (ag (aS rfl (ak (af (asb rfl (aj (ag (aB (aD (bn (v:=.bool _) rfl rfl (⟨congrArg Value.bool ?_,(ah.rfl_.next E1)⟩))))))))))));rw [eq_comm,←Bool.not_eq_true,bR];rintro ⟨⟨n1,n2,n3,⟨n4,n5⟩,n6,n7,n8,n9⟩,⟨g1,g2,g3,g4,g5⟩,v1,l1,⟨p1,p2,p3⟩⟩
   first
    |omega
    |(simp_all;done)
    |(simp_all;omega)
  (try simp only [bs9] at Q5)
  refine ae rfl (aa (ab cG rfl) (ae rfl (aa (ar ao rfl (by exact (hk1.from_ ah.rfl_).rd 2 rfl)) ?_)));refine ae rfl (aa (bM rfl rfl) (aa (aw (v:=.bool _) rfl rfl) (mvb rfl (AL (t:=29) rfl (fun Q6=>?_) (fun Q6=>?_)))))
  ·(try simp only [bs9] at Q6)
   refine bw rfl (aj (ag (aS rfl (ak (af (asb rfl (aj (ag (aB (aD (bn (v:=.bool _) rfl rfl (⟨congrArg Value.bool ?_,(ah.rfl_.next E1)⟩))))))))))));rw [eq_comm,←Bool.not_eq_true,bR];rintro ⟨⟨n1,n2,n3,⟨n4,n5⟩,n6,n7,n8,n9⟩,⟨g1,g2,g3,g4,g5⟩,v1,l1,⟨p1,p2,p3⟩⟩
   first
    |omega
    |(simp_all;done)
    |(simp_all;omega)
  (try simp only [bs9] at Q6)
  refine ae rfl (aa (ab cG rfl) (ae rfl (aa (ar ao rfl (by exact (hk1.from_ ah.rfl_).rd 2 rfl)) ?_)));refine ae rfl (aa (cn rfl rfl) (aa (aw (v:=.bool _) rfl rfl) (mvb rfl (AL (t:=34) rfl (fun Q7=>?_) (fun Q7=>?_)))))
  ·(try simp only [bs9] at Q7)
   refine bw rfl (aj (ag (aS rfl (ak (af (asb rfl (aj (ag (aB (aD (bn (v:=.bool _) rfl rfl (⟨congrArg Value.bool ?_,(ah.rfl_.next E1)⟩))))))))))));rw [eq_comm,←Bool.not_eq_true,bR];rintro ⟨⟨n1,n2,n3,⟨n4,n5⟩,n6,n7,n8,n9⟩,⟨g1,g2,g3,g4,g5⟩,v1,l1,⟨p1,p2,p3⟩⟩
   first
    |omega
    |(simp_all;done)
    |(simp_all;omega)
  (try simp only [bs9] at Q7)
  refine ae rfl (aa (ab bm rfl) (ae rfl (aa (ar ao rfl (by exact (hk1.from_ ah.rfl_).rd 3 rfl)) ?_)));refine ae rfl (ay eJ (tB s.term _) ?_);rintro v37 w8 ⟨rfl,rfl⟩;refine ae rfl (aa (cd rfl) (aa (aw (v:=.bool _) rfl rfl) (mvb rfl (aK (t:=40) rfl (fun Q9=>?_) (fun Q9=>?_)))))
  ·with_reducible (replace Q9:=dK Q9;replace Q9:=dF_ Q9)
   (try simp only [bs9] at Q9)
   refine bw rfl (aj (ag (aS rfl (ak (af (asb rfl (aj (ag (aB (aD (bn (v:=.bool _) rfl rfl (⟨congrArg Value.bool ?_,(ah.rfl_.next E1)⟩))))))))))));rw [eq_comm,←Bool.not_eq_true,bR];rintro ⟨⟨n1,n2,n3,⟨n4,n5⟩,n6,n7,n8,n9⟩,⟨g1,g2,g3,g4,g5⟩,v1,l1,⟨p1,p2,p3⟩⟩
   first
    |omega
    |(simp_all;done)
    |(simp_all;omega)
  with_reducible (replace Q9:=dL Q9;replace Q9:=dT_ Q9)
  (try simp only [bs9] at Q9)
  refine ae rfl (aa (ab eQ rfl) (ae rfl (aa (ar ao rfl (by exact (hk1.from_ ah.rfl_).rd 4 rfl)) ?_)));refine ae rfl (aa (bM rfl rfl) (aa (aw (v:=.bool _) rfl rfl) (mvb rfl (AL (t:=45) rfl (fun Q10=>?_) (fun Q10=>?_)))))
  ·(try simp only [bs9] at Q10)
   refine bw rfl (aj (ag (aS rfl (ak (af (asb rfl (aj (ag (aB (aD (bn (v:=.bool _) rfl rfl (⟨congrArg Value.bool ?_,(ah.rfl_.next E1)⟩))))))))))));rw [eq_comm,←Bool.not_eq_true,bR];rintro ⟨⟨n1,n2,n3,⟨n4,n5⟩,n6,n7,n8,n9⟩,⟨g1,g2,g3,g4,g5⟩,v1,l1,⟨p1,p2,p3⟩⟩
   first
    |omega
    |(simp_all;done)
    |(simp_all;omega)
  (try simp only [bs9] at Q10)
  refine ae rfl (aa (ab eQ rfl) (ae rfl (aa (ar ao rfl (by exact (hk1.from_ ah.rfl_).rd 4 rfl)) ?_)));refine ae rfl (aa (ab bJ rfl) (ae rfl (aa (ar ao rfl (by exact (hk1.from_ ah.rfl_).rd 1 rfl)) ?_)));refine ae rfl (aa (cn rfl rfl) (aa (aw (v:=.bool _) rfl rfl) (mvb rfl (AL (t:=52) rfl (fun Q11=>?_) (fun Q11=>?_)))))
  ·(try simp only [bs9] at Q11)
   refine bw rfl (aj (ag (aS rfl (ak (af (asb rfl (aj (ag (aB (aD (bn (v:=.bool _) rfl rfl (⟨congrArg Value.bool ?_,(ah.rfl_.next E1)⟩))))))))))));rw [eq_comm,←Bool.not_eq_true,bR];rintro ⟨⟨n1,n2,n3,⟨n4,n5⟩,n6,n7,n8,n9⟩,⟨g1,g2,g3,g4,g5⟩,v1,l1,⟨p1,p2,p3⟩⟩
   first
    |omega
    |(simp_all;done)
    |(simp_all;omega)
  (try simp only [bs9] at Q11)
  refine ae rfl (aa (ab ek rfl) (ae rfl (aa (ar ao rfl (by exact (hk1.from_ ah.rfl_).rd 5 rfl)) ?_)));refine ae rfl (aa (bM rfl rfl) (aa (aw (v:=.bool _) rfl rfl) (mvb rfl (AL (t:=57) rfl (fun Q12=>?_) (fun Q12=>?_)))))
  ·(try simp only [bs9] at Q12)
   refine bw rfl (aj (ag (aS rfl (ak (af (asb rfl (aj (ag (aB (aD (bn (v:=.bool _) rfl rfl (⟨congrArg Value.bool ?_,(ah.rfl_.next E1)⟩))))))))))));rw [eq_comm,←Bool.not_eq_true,bR];rintro ⟨⟨n1,n2,n3,⟨n4,n5⟩,n6,n7,n8,n9⟩,⟨g1,g2,g3,g4,g5⟩,v1,l1,⟨p1,p2,p3⟩⟩
   first
    |omega
    |(simp_all;done)
    |(simp_all;omega)
  (try simp only [bs9] at Q12)
  refine ae rfl (aa (ab ek rfl) (ae rfl (aa (ar ao rfl (by exact (hk1.from_ ah.rfl_).rd 5 rfl)) ?_)));refine ae rfl (aa (ab bJ rfl) (ae rfl (aa (ar ao rfl (by exact (hk1.from_ ah.rfl_).rd 1 rfl)) ?_)));refine ae rfl (aa (cn rfl rfl) (aa (aw (v:=.bool _) rfl rfl) (mvb rfl (AL (t:=64) rfl (fun Q13=>?_) (fun Q13=>?_)))))
  ·(try simp only [bs9] at Q13)
   refine bw rfl (aj (ag (aS rfl (ak (af (asb rfl (aj (ag (aB (aD (bn (v:=.bool _) rfl rfl (⟨congrArg Value.bool ?_,(ah.rfl_.next E1)⟩))))))))))));rw [eq_comm,←Bool.not_eq_true,bR];rintro ⟨⟨n1,n2,n3,⟨n4,n5⟩,n6,n7,n8,n9⟩,⟨g1,g2,g3,g4,g5⟩,v1,l1,⟨p1,p2,p3⟩⟩
   first
    |omega
    |(simp_all;done)
    |(simp_all;omega)
  (try simp only [bs9] at Q13)
  refine ae rfl (aa (ab bq rfl) (ae rfl (aa (aG (cs:=[.int .i64 s.b,.int .i64 s.t,.slice E s.es.length Ec]) dd cT rfl (qp (hk1.from_ ah.rfl_))) (ae rfl (ay wg (Bw s E s.es.length Ec _ (hrd.e.from_ (ah.rfl_.next E1))) ?_)))));rintro v67 w14 ⟨rfl,E67⟩;refine ae rfl (aa (cd rfl) (aa (aw (v:=.bool _) rfl rfl) (mvb rfl (AJ (t:=70) rfl (fun Q15=>?_) (fun Q15=>?_)))))
  ·(try simp only [bs9] at Q15)
   refine bw rfl (aj (ag (aS rfl (ak (af (asb rfl (aj (ag (aB (aD (bn (v:=.bool _) rfl rfl (⟨congrArg Value.bool ?_,((ah.rfl_.next E1).next E67)⟩))))))))))));rw [eq_comm,←Bool.not_eq_true,bR];rintro ⟨⟨n1,n2,n3,⟨n4,n5⟩,n6,n7,n8,n9⟩,⟨g1,g2,g3,g4,g5⟩,v1,l1,⟨p1,p2,p3⟩⟩
   first
    |omega
    |(simp_all;done)
    |(simp_all;omega)
  (try simp only [bs9] at Q15)
  refine ae rfl (aa (ab di rfl) (ae rfl (aa (ar cS rfl (by exact (hk1.from_ (ah.rfl_.next E67)).rd 9 rfl)) ?_)));refine ae rfl (aa (eY (by kernel_rfl) rfl) (ae rfl (aa (cn rfl rfl) (aa (aw (v:=.bool _) rfl rfl) (mvb rfl (AL (t:=76) rfl (fun Q16=>?_) (fun Q16=>?_)))))))
  ·(try simp only [bs9] at Q16)
   refine bw rfl (aj (ag (aS rfl (ak (af (asb rfl (aj (ag (aB (aD (bn (v:=.bool _) rfl rfl (⟨congrArg Value.bool ?_,((ah.rfl_.next E1).next E67)⟩))))))))))));rw [eq_comm,←Bool.not_eq_true,bR];rintro ⟨⟨n1,n2,n3,⟨n4,n5⟩,n6,n7,n8,n9⟩,⟨g1,g2,g3,g4,g5⟩,v1,l1,⟨p1,p2,p3⟩⟩
   first
    |omega
    |(simp_all;done)
    |(simp_all;omega)
  (try simp only [bs9] at Q16)
  refine ae rfl (aa (ab bq rfl) (ae rfl (aa (ab dI rfl) (ae rfl (aa (ar ao rfl (by exact (hk1.from_ (ah.rfl_.next E67)).rd 6 rfl)) ?_)))));refine ae rfl (aa (bg rfl rfl) (ae rfl (mvb rfl (AL (t:=81) rfl (fun Q17=>?_) (fun Q17=>?_)))))
  ·(try simp only [bs9] at Q17)
   refine ae rfl (aa (ab di rfl) (ae rfl (aa (ar cS rfl (by exact (hk1.from_ (ah.rfl_.next E67)).rd 9 rfl)) ?_)));refine ae rfl (aa (fT (uO rfl rfl) (congrArg Value.bool (Bl s.snap))) (ae rfl (aa (aL (v:=.bool _) rfl rfl) (aa (aw (v:=.bool _) rfl rfl) (mvb rfl (AL (t:=87) rfl (fun Q18=>?_) (fun Q18=>?_)))))))
   ·(try simp only [bs9] at Q18)
    refine bw rfl (aj (ag (aS rfl (ak (af (asb rfl (aj (ag (aB (aD (bn (v:=.bool _) rfl rfl (⟨congrArg Value.bool ?_,((ah.rfl_.next E1).next E67)⟩))))))))))));rw [eq_comm,←Bool.not_eq_true,bR];rintro ⟨⟨n1,n2,n3,⟨n4,n5⟩,n6,n7,n8,n9⟩,⟨g1,g2,g3,g4,g5⟩,v1,l1,⟨p1,p2,p3⟩⟩
    first
     |omega
     |(simp_all;done)
     |(simp_all;omega)
   (try simp only [bs9] at Q18)
   refine ae rfl (aa (ab dq rfl) (ae rfl (aa (ar ao rfl (by exact (hk1.from_ (ah.rfl_.next E67)).rd 11 rfl)) ?_)));refine ae rfl (ay eJ (tB s.elapsed _) ?_);rintro v90 w19 ⟨rfl,rfl⟩;refine ae rfl (aa (cd rfl) (aa (aw (v:=.bool _) rfl rfl) (mvb rfl (aK (t:=93) rfl (fun Q20=>?_) (fun Q20=>?_)))))
   ·with_reducible (replace Q20:=dK Q20;replace Q20:=dF_ Q20)
    (try simp only [bs9] at Q20)
    refine bw rfl (aj (ag (aS rfl (ak (af (asb rfl (aj (ag (aB (aD (bn (v:=.bool _) rfl rfl (⟨congrArg Value.bool ?_,((ah.rfl_.next E1).next E67)⟩))))))))))));rw [eq_comm,←Bool.not_eq_true,bR];rintro ⟨⟨n1,n2,n3,⟨n4,n5⟩,n6,n7,n8,n9⟩,⟨g1,g2,g3,g4,g5⟩,v1,l1,⟨p1,p2,p3⟩⟩
    first
     |omega
     |(simp_all;done)
     |(simp_all;omega)
   with_reducible (replace Q20:=dL Q20;replace Q20:=dT_ Q20)
   (try simp only [bs9] at Q20)
   refine ae rfl (aa (ab eN rfl) (ae rfl (aa (ar ao rfl (by exact (hk1.from_ (ah.rfl_.next E67)).rd 12 rfl)) ?_)));refine ae rfl (ay eJ (tB s.timeout _) ?_);rintro v96 w21 ⟨rfl,rfl⟩;refine ae rfl (aa (cd rfl) (aa (aw (v:=.bool _) rfl rfl) (mvb rfl (aK (t:=99) rfl (fun Q22=>?_) (fun Q22=>?_)))))
   ·with_reducible (replace Q22:=dK Q22;replace Q22:=dF_ Q22)
    (try simp only [bs9] at Q22)
    refine bw rfl (aj (ag (aS rfl (ak (af (asb rfl (aj (ag (aB (aD (bn (v:=.bool _) rfl rfl (⟨congrArg Value.bool ?_,((ah.rfl_.next E1).next E67)⟩))))))))))));rw [eq_comm,←Bool.not_eq_true,bR];rintro ⟨⟨n1,n2,n3,⟨n4,n5⟩,n6,n7,n8,n9⟩,⟨g1,g2,g3,g4,g5⟩,v1,l1,⟨p1,p2,p3⟩⟩
    first
     |omega
     |(simp_all;done)
     |(simp_all;omega)
   with_reducible (replace Q22:=dL Q22;replace Q22:=dT_ Q22)
   (try simp only [bs9] at Q22)
   refine ae rfl (aa (ab dp rfl) (ae rfl (aa (ar ao rfl (by exact (hk1.from_ (ah.rfl_.next E67)).rd 18 rfl)) ?_)));refine ae rfl (ay eJ (tB s.round _) ?_);rintro v102 w23 ⟨rfl,rfl⟩;refine ae rfl (aa (cd rfl) (aa (aw (v:=.bool _) rfl rfl) (mvb rfl (aK (t:=105) rfl (fun Q24=>?_) (fun Q24=>?_)))))
   ·with_reducible (replace Q24:=dK Q24;replace Q24:=dF_ Q24)
    (try simp only [bs9] at Q24)
    refine bw rfl (aj (ag (aS rfl (ak (af (asb rfl (aj (ag (aB (aD (bn (v:=.bool _) rfl rfl (⟨congrArg Value.bool ?_,((ah.rfl_.next E1).next E67)⟩))))))))))));rw [eq_comm,←Bool.not_eq_true,bR];rintro ⟨⟨n1,n2,n3,⟨n4,n5⟩,n6,n7,n8,n9⟩,⟨g1,g2,g3,g4,g5⟩,v1,l1,⟨p1,p2,p3⟩⟩
    first
     |omega
     |(simp_all;done)
     |(simp_all;omega)
   with_reducible (replace Q24:=dL Q24;replace Q24:=dT_ Q24)
   (try simp only [bs9] at Q24)
   refine ae rfl (aa (ab cf rfl) (ae rfl (aa (ar bc rfl (by exact (show _=some (Value.slice V s.votes.length Vc) from (hk1.from_ (ah.rfl_.next E67)).rd 14 rfl))) ?_)));refine ae rfl (aa (ab bJ rfl) (ae rfl (aa (ar ao rfl (by exact (hk1.from_ (ah.rfl_.next E67)).rd 1 rfl)) ?_)));refine ae rfl (ay mV (tD V Vc s.votes s.nodes _ (hrd.v.1.from_ ((ah.rfl_.next E1).next E67)) hl1) ?_);rintro v110 w25 ⟨rfl,E110⟩;refine ae rfl (aa (cd rfl) (aa (aw (v:=.bool _) rfl rfl) (aj (ag (Bi rfl (fun Q26=>?_) (fun Q26=>?_))))))
   ·(try simp only [bs9] at Q26)
    refine ak (af (asb rfl (aj (ag (aB (aD (bn (v:=.bool _) rfl rfl (⟨congrArg Value.bool ?_,(((ah.rfl_.next E1).next E67).next E110)⟩))))))));rw [eq_comm,←Bool.not_eq_true,bR];rintro ⟨⟨n1,n2,n3,⟨n4,n5⟩,n6,n7,n8,n9⟩,⟨g1,g2,g3,g4,g5⟩,v1,l1,⟨p1,p2,p3⟩⟩
    first
     |omega
     |(simp_all;done)
     |(simp_all;omega)
   (try simp only [bs9] at Q26)
   refine aM ?_;refine cp (()) trivial (by (iterate 122 refine bA rfl ?_);exact bN) ?_;exact ⟨⟨by omega,by omega,by omega,by omega,by omega,by omega,by first | assumption | simp_all,by omega,by omega,by omega,by omega,by omega,by first | assumption | simp_all⟩,hk1.from_ ((ah.rfl_.next E67).next E110),(((ah.rfl_.next E1).next E67).next E110)⟩
  (try simp only [bs9] at Q17)
  refine an rfl rfl (an rfl rfl (an rfl rfl (ae rfl (aa (aw (v:=.bool _) rfl rfl) (aa (aw (v:=.bool _) rfl rfl) (mvb rfl (ae rfl (aa (ab dq rfl) ?_))))))));refine ae rfl (aa (ar ao rfl (by exact (hk1.from_ (ah.rfl_.next E67)).rd 11 rfl)) ?_);refine ae rfl (ay eJ (tB s.elapsed _) ?_);rintro v90 w27 ⟨rfl,rfl⟩;refine ae rfl (aa (cd rfl) (aa (aw (v:=.bool _) rfl rfl) (mvb rfl (aK (t:=93) rfl (fun Q28=>?_) (fun Q28=>?_)))))
  ·with_reducible (replace Q28:=dK Q28;replace Q28:=dF_ Q28)
   (try simp only [bs9] at Q28)
   refine bw rfl (aj (ag (aS rfl (ak (af (asb rfl (aj (ag (aB (aD (bn (v:=.bool _) rfl rfl (⟨congrArg Value.bool ?_,((ah.rfl_.next E1).next E67)⟩))))))))))));rw [eq_comm,←Bool.not_eq_true,bR];rintro ⟨⟨n1,n2,n3,⟨n4,n5⟩,n6,n7,n8,n9⟩,⟨g1,g2,g3,g4,g5⟩,v1,l1,⟨p1,p2,p3⟩⟩
   first
    |omega
    |(simp_all;done)
    |(simp_all;omega)
  with_reducible (replace Q28:=dL Q28;replace Q28:=dT_ Q28)
  (try simp only [bs9] at Q28)
  refine ae rfl (aa (ab eN rfl) (ae rfl (aa (ar ao rfl (by exact (hk1.from_ (ah.rfl_.next E67)).rd 12 rfl)) ?_)));refine ae rfl (ay eJ (tB s.timeout _) ?_);rintro v96 w29 ⟨rfl,rfl⟩;refine ae rfl (aa (cd rfl) (aa (aw (v:=.bool _) rfl rfl) (mvb rfl (aK (t:=99) rfl (fun Q30=>?_) (fun Q30=>?_)))))
  ·with_reducible (replace Q30:=dK Q30;replace Q30:=dF_ Q30)
   (try simp only [bs9] at Q30)
   refine bw rfl (aj (ag (aS rfl (ak (af (asb rfl (aj (ag (aB (aD (bn (v:=.bool _) rfl rfl (⟨congrArg Value.bool ?_,((ah.rfl_.next E1).next E67)⟩))))))))))));rw [eq_comm,←Bool.not_eq_true,bR];rintro ⟨⟨n1,n2,n3,⟨n4,n5⟩,n6,n7,n8,n9⟩,⟨g1,g2,g3,g4,g5⟩,v1,l1,⟨p1,p2,p3⟩⟩
   first
    |omega
    |(simp_all;done)
    |(simp_all;omega)
  with_reducible (replace Q30:=dL Q30;replace Q30:=dT_ Q30)
  (try simp only [bs9] at Q30)
  refine ae rfl (aa (ab dp rfl) (ae rfl (aa (ar ao rfl (by exact (hk1.from_ (ah.rfl_.next E67)).rd 18 rfl)) ?_)));refine ae rfl (ay eJ (tB s.round _) ?_);rintro v102 w31 ⟨rfl,rfl⟩;refine ae rfl (aa (cd rfl) (aa (aw (v:=.bool _) rfl rfl) (mvb rfl (aK (t:=105) rfl (fun Q32=>?_) (fun Q32=>?_)))))
  ·with_reducible (replace Q32:=dK Q32;replace Q32:=dF_ Q32)
   (try simp only [bs9] at Q32)
   refine bw rfl (aj (ag (aS rfl (ak (af (asb rfl (aj (ag (aB (aD (bn (v:=.bool _) rfl rfl (⟨congrArg Value.bool ?_,((ah.rfl_.next E1).next E67)⟩))))))))))));rw [eq_comm,←Bool.not_eq_true,bR];rintro ⟨⟨n1,n2,n3,⟨n4,n5⟩,n6,n7,n8,n9⟩,⟨g1,g2,g3,g4,g5⟩,v1,l1,⟨p1,p2,p3⟩⟩
   first
    |omega
    |(simp_all;done)
    |(simp_all;omega)
  with_reducible (replace Q32:=dL Q32;replace Q32:=dT_ Q32)
  (try simp only [bs9] at Q32)
  refine ae rfl (aa (ab cf rfl) (ae rfl (aa (ar bc rfl (by exact (show _=some (Value.slice V s.votes.length Vc) from (hk1.from_ (ah.rfl_.next E67)).rd 14 rfl))) ?_)));refine ae rfl (aa (ab bJ rfl) (ae rfl (aa (ar ao rfl (by exact (hk1.from_ (ah.rfl_.next E67)).rd 1 rfl)) ?_)));refine ae rfl (ay mV (tD V Vc s.votes s.nodes _ (hrd.v.1.from_ ((ah.rfl_.next E1).next E67)) hl1) ?_);rintro v110 w33 ⟨rfl,E110⟩;refine ae rfl (aa (cd rfl) (aa (aw (v:=.bool _) rfl rfl) (aj (ag (Bi rfl (fun Q34=>?_) (fun Q34=>?_))))))
  ·(try simp only [bs9] at Q34)
   refine ak (af (asb rfl (aj (ag (aB (aD (bn (v:=.bool _) rfl rfl (⟨congrArg Value.bool ?_,(((ah.rfl_.next E1).next E67).next E110)⟩))))))));rw [eq_comm,←Bool.not_eq_true,bR];rintro ⟨⟨n1,n2,n3,⟨n4,n5⟩,n6,n7,n8,n9⟩,⟨g1,g2,g3,g4,g5⟩,v1,l1,⟨p1,p2,p3⟩⟩
   first
    |omega
    |(simp_all;done)
    |(simp_all;omega)
  (try simp only [bs9] at Q34)
  refine aM ?_;refine cp (()) trivial (by (iterate 121 refine bA rfl ?_);exact bN) ?_;exact ⟨⟨by omega,by omega,by omega,by omega,by omega,by omega,by first | assumption | simp_all,by omega,by omega,by omega,by omega,by omega,by first | assumption | simp_all⟩,hk1.from_ ((ah.rfl_.next E67).next E110),(((ah.rfl_.next E1).next E67).next E110)⟩
 rintro ⟨⟩ ρ35 w35 ⟨⟨f1,f2,f3,f4,f5,f6,f7,f8,f9,fa,fb,fc,fd⟩,hk1,hB⟩;refine ak (af (aa (ab bq rfl) (aa (aG (cs:=[.int .i64 s.b,.int .i64 s.t,.slice E s.es.length Ec]) dd cT rfl (qp (hk1.from_ ah.rfl_))) ?_)));have hm1:cJ s.b s.t s.es=true:=by first | assumption | simp_all
 have hbl:=eP hm1;have hlr:a_ s=s.b+s.es.length:=hbl.1;refine ay jZ (lU s E s.es.length Ec _ (hrd.e.from_ hB) hm1) ?_;rintro v116 w36 ⟨rfl,E116⟩;refine mvt rfl (aa (aZ rfl rfl) (aa (aZ rfl rfl) (asi rfl (asi rfl (aj (ag (ak (ak (af (mvi rfl (aa (ab bm rfl) (aa (ar ao rfl (by exact (hk1.from_ (ah.rfl_.next E116)).rd 3 rfl)) ?_))))))))))));refine aa (cn rfl rfl) (aj (ag (Bk rfl (fun Q37=>?_) (fun Q37=>?_))))
 ·refine ak (af (asb rfl (aj (ag (aB (aD (bn (v:=.bool _) rfl rfl (⟨congrArg Value.bool ?_,(hB.next E116)⟩))))))));rw [eq_comm,←Bool.not_eq_true,bR];rintro ⟨⟨n1,n2,n3,⟨n4,n5⟩,n6,n7,n8,n9⟩,⟨g1,g2,g3,g4,g5⟩,v1,l1,⟨p1,p2,p3⟩⟩
  first
   |omega
   |(simp_all;done)
   |(simp_all;omega)
 refine aM (ag (oO (G:=Unit) [2,123,124,125,126,127,128,129,130,131,132,133,134,135,136,137,138,139,140,141,142,143,144,145,146,147,148,149,150,151,152,153,154,155,156,157,158,159,160] (fun _=>[]) (fun _ w'=>(de s.t s.es≤s.term∧(s.b≤s.commit∧s.commit≤a_ s)∧s.part.size≤524288∧(0≤s.partOf∧s.partOf≤1099511625728)∧(s.partOf≠0∨s.part.size=0))∧Blk w' b1 29 (rfV s (⟨E,Ec,V,Vc,X,Xc,M,Mc,Sn,Sc,Q,Qc,LL⟩:Ra)).toArray∧ah w w') ?_ ?_))
 ·refine ak (af (aa (ab dh rfl) (aa (ar ao rfl (by exact (hk1.from_ (ah.rfl_.next E116)).rd 10 rfl)) ?_)));refine aa (ab bq rfl) (aa (ab dI rfl) (aa (ar ao rfl (by exact (hk1.from_ (ah.rfl_.next E116)).rd 6 rfl)) ?_));refine aa (bM rfl rfl) (mvb rfl (AL (t:=129) rfl (fun Q38=>?_) (fun Q38=>?_)))
  ·(try simp only [bs9] at Q38)
   refine bw rfl (aj (ag (aS rfl (ak (af (asb rfl (aj (ag (aB (aD (bn (v:=.bool _) rfl rfl (⟨congrArg Value.bool ?_,(hB.next E116)⟩))))))))))));rw [eq_comm,←Bool.not_eq_true,bR];rintro ⟨⟨n1,n2,n3,⟨n4,n5⟩,n6,n7,n8,n9⟩,⟨g1,g2,g3,g4,g5⟩,v1,l1,⟨p1,p2,p3⟩⟩
   first
    |omega
    |(simp_all;done)
    |(simp_all;omega)
  (try simp only [bs9] at Q38)
  refine ae rfl (aa (ab dh rfl) (ae rfl (aa (ar ao rfl (by exact (hk1.from_ (ah.rfl_.next E116)).rd 10 rfl)) ?_)));refine ae rfl (mvi rfl (ae rfl (aa (cn rfl rfl) (aa (aw (v:=.bool _) rfl rfl) (mvb rfl (AL (t:=135) rfl (fun Q39=>?_) (fun Q39=>?_)))))))
  ·(try simp only [bs9] at Q39)
   refine bw rfl (aj (ag (aS rfl (ak (af (asb rfl (aj (ag (aB (aD (bn (v:=.bool _) rfl rfl (⟨congrArg Value.bool ?_,(hB.next E116)⟩))))))))))));rw [eq_comm,←Bool.not_eq_true,bR];rintro ⟨⟨n1,n2,n3,⟨n4,n5⟩,n6,n7,n8,n9⟩,⟨g1,g2,g3,g4,g5⟩,v1,l1,⟨p1,p2,p3⟩⟩
   first
    |omega
    |(simp_all;done)
    |(simp_all;omega)
  (try simp only [bs9] at Q39)
  refine ae rfl (aa (ab dX rfl) (ae rfl (aa (ar cS rfl (by exact (hk1.from_ (ah.rfl_.next E116)).rd 20 rfl)) ?_)));refine ae rfl (aa (eY (by kernel_rfl) rfl) (ae rfl (aa (cn rfl rfl) (aa (aw (v:=.bool _) rfl rfl) (mvb rfl (AL (t:=141) rfl (fun Q40=>?_) (fun Q40=>?_)))))))
  ·(try simp only [bs9] at Q40)
   refine bw rfl (aj (ag (aS rfl (ak (af (asb rfl (aj (ag (aB (aD (bn (v:=.bool _) rfl rfl (⟨congrArg Value.bool ?_,(hB.next E116)⟩))))))))))));rw [eq_comm,←Bool.not_eq_true,bR];rintro ⟨⟨n1,n2,n3,⟨n4,n5⟩,n6,n7,n8,n9⟩,⟨g1,g2,g3,g4,g5⟩,v1,l1,⟨p1,p2,p3⟩⟩
   first
    |omega
    |(simp_all;done)
    |(simp_all;omega)
  (try simp only [bs9] at Q40)
  refine ae rfl (aa (ab dW rfl) (ae rfl (aa (ar ao rfl (by exact (hk1.from_ (ah.rfl_.next E116)).rd 21 rfl)) ?_)));refine ae rfl (aa (bM rfl rfl) (aa (aw (v:=.bool _) rfl rfl) (mvb rfl (AL (t:=146) rfl (fun Q41=>?_) (fun Q41=>?_)))))
  ·(try simp only [bs9] at Q41)
   refine bw rfl (aj (ag (aS rfl (ak (af (asb rfl (aj (ag (aB (aD (bn (v:=.bool _) rfl rfl (⟨congrArg Value.bool ?_,(hB.next E116)⟩))))))))))));rw [eq_comm,←Bool.not_eq_true,bR];rintro ⟨⟨n1,n2,n3,⟨n4,n5⟩,n6,n7,n8,n9⟩,⟨g1,g2,g3,g4,g5⟩,v1,l1,⟨p1,p2,p3⟩⟩
   first
    |omega
    |(simp_all;done)
    |(simp_all;omega)
  (try simp only [bs9] at Q41)
  refine ae rfl (aa (ab dW rfl) (ae rfl (aa (ar ao rfl (by exact (hk1.from_ (ah.rfl_.next E116)).rd 21 rfl)) ?_)));refine ae rfl (aa (cn rfl rfl) (aa (aw (v:=.bool _) rfl rfl) (mvb rfl (AL (t:=151) rfl (fun Q42=>?_) (fun Q42=>?_)))))
  ·(try simp only [bs9] at Q42)
   refine bw rfl (aj (ag (aS rfl (ak (af (asb rfl (aj (ag (aB (aD (bn (v:=.bool _) rfl rfl (⟨congrArg Value.bool ?_,(hB.next E116)⟩))))))))))));rw [eq_comm,←Bool.not_eq_true,bR];rintro ⟨⟨n1,n2,n3,⟨n4,n5⟩,n6,n7,n8,n9⟩,⟨g1,g2,g3,g4,g5⟩,v1,l1,⟨p1,p2,p3⟩⟩
   first
    |omega
    |(simp_all;done)
    |(simp_all;omega)
  (try simp only [bs9] at Q42)
  refine ae rfl (aa (ab dW rfl) (ae rfl (aa (ar ao rfl (by exact (hk1.from_ (ah.rfl_.next E116)).rd 21 rfl)) ?_)));refine ae rfl (aa (bg rfl rfl) (ae rfl (mvb rfl (AL (t:=155) rfl (fun Q43=>?_) (fun Q43=>?_)))))
  ·(try simp only [bs9] at Q43)
   refine ae rfl (aa (ab dX rfl) (ae rfl (aa (ar cS rfl (by exact (hk1.from_ (ah.rfl_.next E116)).rd 20 rfl)) ?_)));refine ae rfl (aa (fT (uO rfl rfl) (congrArg Value.bool (Bl s.part))) (ae rfl (aa (aL (v:=.bool _) rfl rfl) (aa (aw (v:=.bool _) rfl rfl) (aj (ag (Bk rfl (fun Q44=>?_) (fun Q44=>?_))))))))
   ·(try simp only [bs9] at Q44)
    refine ak (af (asb rfl (aj (ag (aB (aD (bn (v:=.bool _) rfl rfl (⟨congrArg Value.bool ?_,(hB.next E116)⟩))))))));rw [eq_comm,←Bool.not_eq_true,bR];rintro ⟨⟨n1,n2,n3,⟨n4,n5⟩,n6,n7,n8,n9⟩,⟨g1,g2,g3,g4,g5⟩,v1,l1,⟨p1,p2,p3⟩⟩
    first
     |omega
     |(simp_all;done)
     |(simp_all;omega)
   (try simp only [bs9] at Q44)
   refine aM ?_;refine cp (()) trivial (by (iterate 44 refine bA rfl ?_);exact bN) ?_;exact ⟨⟨by omega,by omega,by omega,by omega,by omega⟩,hk1.from_ (ah.rfl_.next E116),(hB.next E116)⟩
  (try simp only [bs9] at Q43)
  refine an rfl rfl (an rfl rfl (an rfl rfl (ae rfl (aa (aw (v:=.bool _) rfl rfl) (aa (aw (v:=.bool _) rfl rfl) (aj (ag (bd rfl (aM ?_)))))))));refine cp (()) trivial (by (iterate 44 refine bA rfl ?_);exact bN) ?_;exact ⟨⟨by omega,by omega,by omega,by omega,by omega⟩,hk1.from_ (ah.rfl_.next E116),(hB.next E116)⟩
 rintro ⟨⟩ ρ45 w45 ⟨⟨fe,ff,fg,fh,fi⟩,hk1,hB⟩;refine ak (af (asi rfl (aj (ag (oO (G:=Unit) [161,162,163,164,165] (fun _=>[(5,.int .i64 nn)]) (fun _ w'=>Blk w' b1 29 (rfV s (⟨E,Ec,V,Vc,X,Xc,M,Mc,Sn,Sc,Q,Qc,LL⟩:Ra)).toArray∧ah w w') ?_ ?_)))))
 ·refine ak (af (aa (ab cG rfl) (aa (ar ao rfl (by exact (hk1.from_ ah.rfl_).rd 2 rfl)) ?_)));refine aa (bg rfl rfl) (aj (ag (Bk rfl (fun Q46=>?_) (fun Q46=>?_))))
  ·refine af (aa (ab bJ rfl) (aa (ar ao rfl (by exact (hk1.from_ ah.rfl_).rd 1 rfl)) ?_));refine asi rfl (aj ?_);refine cp (()) ⟨(br (by first | exact (hnn.1 (by omega)).symm | exact (hnn.2 (by omega)).symm)),trivial⟩ (by (iterate 6 refine bA rfl ?_);exact bN) ?_;exact ⟨hk1.from_ ah.rfl_,hB⟩
  refine aM ?_;refine cp (()) ⟨(br (by first | exact (hnn.1 (by omega)).symm | exact (hnn.2 (by omega)).symm)),trivial⟩ (by (iterate 3 refine bA rfl ?_);exact bN) ?_;exact ⟨hk1.from_ ah.rfl_,hB⟩
 rintro ⟨⟩ ρ47 w47 ⟨hk1,hB⟩;refine oO (G:=Unit) [2,166,167,168,169,170,171,172,173,174,175,176,177,178,179,180,181,182,183,184,185,186,187,188,189,190,191,192,193,194,195,196,197,198,199,200,201,202,203,204,205,206] (fun _=>[]) (fun _ w'=>eU s.next nn 1 (a_ s+1)∧eU s.mtch nn 0 (a_ s)∧eU s.sent nn 0 (s.snap.size:Nat)∧LL.length≤32∧(nn≠0∨LL.length=0)∧Blk w' b1 29 (rfV s (⟨E,Ec,V,Vc,X,Xc,M,Mc,Sn,Sc,Q,Qc,LL⟩:Ra)).toArray∧ah w w') ?_ ?_
 ·refine ak (af (aa (ab bY rfl) (aa (ar bc rfl (by exact (show _=some (Value.slice X s.next.length Xc) from (hk1.from_ ah.rfl_).rd 15 rfl))) ?_)));refine mvi rfl (mvi rfl (aa (b0 rfl rfl (by omega)) (ay mU (yb X Xc s.next _ 1 (a_ s+1) _ (hrd.x.1.from_ hB) hl2) ?_)));rintro v171 w48 ⟨rfl,E171⟩;refine aa (cd rfl) (mvb rfl (aK (t:=173) rfl (fun Q49=>?_) (fun Q49=>?_)))
  ·with_reducible (replace Q49:=dK Q49;replace Q49:=dF_ Q49)
   (try simp only [bs9] at Q49)
   refine bw rfl (aj (ag (aS rfl (ak (af (asb rfl (aj (ag (aB (aD (bn (v:=.bool _) rfl rfl (⟨congrArg Value.bool ?_,(hB.next E171)⟩))))))))))));rw [eq_comm,←Bool.not_eq_true,bR];rintro ⟨⟨n1,n2,n3,⟨n4,n5⟩,n6,n7,n8,n9⟩,⟨g1,g2,g3,g4,g5⟩,v1,l1,⟨p1,p2,p3⟩⟩;by_cases hro:s.role=2
   ·rw [cF hro] at l1;obtain rfl:nn=s.nodes:=hnn.1 hro;obtain ⟨⟨l2,l3,l4,l5⟩,⟨l6,l7,l8⟩,l9⟩:=l1
    first
     |omega
     |(rename_i q9;exact q9 ⟨by omega,by assumption⟩)
     |(simp_all [eU];done)
     |(simp_all [eU];omega)
   ·rw [dS hro] at l1;obtain rfl:nn=0:=hnn.2 hro;have e1:s.next=[]:=List.eq_nil_of_length_eq_zero (by omega);have e2:s.mtch=[]:=List.eq_nil_of_length_eq_zero (by omega);have e3:s.sent=[]:=List.eq_nil_of_length_eq_zero (by omega)
    first
     |omega
     |(simp_all [eU,eE];done)
     |(simp_all [eU,eE];omega)
  with_reducible (replace Q49:=dL Q49;replace Q49:=dT_ Q49)
  (try simp only [bs9] at Q49)
  refine ae rfl (aa (ab cu rfl) (ae rfl (aa (ar bc rfl (by exact (show _=some (Value.slice M s.mtch.length Mc) from (hk1.from_ (ah.rfl_.next E171)).rd 16 rfl))) ?_)));refine ae rfl (mvi rfl (ae rfl (mvi rfl (ae rfl (ay mU (yb M Mc s.mtch _ 0 (a_ s) _ (hrd.m.1.from_ (hB.next E171)) hl3) ?_)))));rintro v178 w50 ⟨rfl,E178⟩;refine ae rfl (aa (cd rfl) (aa (aw (v:=.bool _) rfl rfl) (mvb rfl (aK (t:=181) rfl (fun Q51=>?_) (fun Q51=>?_)))))
  ·with_reducible (replace Q51:=dK Q51;replace Q51:=dF_ Q51)
   (try simp only [bs9] at Q51)
   refine bw rfl (aj (ag (aS rfl (ak (af (asb rfl (aj (ag (aB (aD (bn (v:=.bool _) rfl rfl (⟨congrArg Value.bool ?_,((hB.next E171).next E178)⟩))))))))))));rw [eq_comm,←Bool.not_eq_true,bR];rintro ⟨⟨n1,n2,n3,⟨n4,n5⟩,n6,n7,n8,n9⟩,⟨g1,g2,g3,g4,g5⟩,v1,l1,⟨p1,p2,p3⟩⟩;by_cases hro:s.role=2
   ·rw [cF hro] at l1;obtain rfl:nn=s.nodes:=hnn.1 hro;obtain ⟨⟨l2,l3,l4,l5⟩,⟨l6,l7,l8⟩,l9⟩:=l1
    first
     |omega
     |(rename_i q9;exact q9 ⟨by omega,by assumption⟩)
     |(simp_all [eU];done)
     |(simp_all [eU];omega)
   ·rw [dS hro] at l1;obtain rfl:nn=0:=hnn.2 hro;have e1:s.next=[]:=List.eq_nil_of_length_eq_zero (by omega);have e2:s.mtch=[]:=List.eq_nil_of_length_eq_zero (by omega);have e3:s.sent=[]:=List.eq_nil_of_length_eq_zero (by omega)
    first
     |omega
     |(simp_all [eU,eE];done)
     |(simp_all [eU,eE];omega)
  with_reducible (replace Q51:=dL Q51;replace Q51:=dT_ Q51)
  (try simp only [bs9] at Q51)
  refine ae rfl (aa (ab cN rfl) (ae rfl (aa (ar bc rfl (by exact (show _=some (Value.slice Sn s.sent.length Sc) from (hk1.from_ ((ah.rfl_.next E171).next E178)).rd 17 rfl))) ?_)));refine ae rfl (mvi rfl (ae rfl (aa (ab di rfl) (ae rfl (aa (ar cS rfl (by exact (hk1.from_ ((ah.rfl_.next E171).next E178)).rd 9 rfl)) ?_)))));refine ae rfl (aa (eY (by kernel_rfl) rfl) (ae rfl (ay mU (yb Sn Sc s.sent _ 0 (s.snap.size:Nat) _ (hrd.n.1.from_ ((hB.next E171).next E178)) hl4) ?_)));rintro v188 w52 ⟨rfl,E188⟩;refine ae rfl (aa (cd rfl) (aa (aw (v:=.bool _) rfl rfl) (mvb rfl (aK (t:=191) rfl (fun Q53=>?_) (fun Q53=>?_)))))
  ·with_reducible (replace Q53:=dK Q53;replace Q53:=dF_ Q53)
   (try simp only [bs9] at Q53)
   refine bw rfl (aj (ag (aS rfl (ak (af (asb rfl (aj (ag (aB (aD (bn (v:=.bool _) rfl rfl (⟨congrArg Value.bool ?_,(((hB.next E171).next E178).next E188)⟩))))))))))));rw [eq_comm,←Bool.not_eq_true,bR];rintro ⟨⟨n1,n2,n3,⟨n4,n5⟩,n6,n7,n8,n9⟩,⟨g1,g2,g3,g4,g5⟩,v1,l1,⟨p1,p2,p3⟩⟩;by_cases hro:s.role=2
   ·rw [cF hro] at l1;obtain rfl:nn=s.nodes:=hnn.1 hro;obtain ⟨⟨l2,l3,l4,l5⟩,⟨l6,l7,l8⟩,l9⟩:=l1
    first
     |omega
     |(rename_i q9;exact q9 ⟨by omega,by assumption⟩)
     |(simp_all [eU];done)
     |(simp_all [eU];omega)
   ·rw [dS hro] at l1;obtain rfl:nn=0:=hnn.2 hro;have e1:s.next=[]:=List.eq_nil_of_length_eq_zero (by omega);have e2:s.mtch=[]:=List.eq_nil_of_length_eq_zero (by omega);have e3:s.sent=[]:=List.eq_nil_of_length_eq_zero (by omega)
    first
     |omega
     |(simp_all [eU,eE];done)
     |(simp_all [eU,eE];omega)
  with_reducible (replace Q53:=dL Q53;replace Q53:=dT_ Q53)
  (try simp only [bs9] at Q53)
  refine ae rfl (aa (ab bU rfl) (ae rfl (aa (ar dR rfl (by exact (show _=some (Value.slice Q LL.length Qc) from (hk1.from_ (((ah.rfl_.next E171).next E178).next E188)).rd 19 rfl))) ?_)));refine ae rfl (aa (bH eS rfl) (ae rfl (aa (cn rfl rfl) (aa (aw (v:=.bool _) rfl rfl) (mvb rfl (AL (t:=197) rfl (fun Q54=>?_) (fun Q54=>?_)))))))
  ·(try simp only [bs9] at Q54)
   refine bw rfl (aj (ag (aS rfl (ak (af (asb rfl (aj (ag (aB (aD (bn (v:=.bool _) rfl rfl (⟨congrArg Value.bool ?_,(((hB.next E171).next E178).next E188)⟩))))))))))));rw [eq_comm,←Bool.not_eq_true,bR];rintro ⟨⟨n1,n2,n3,⟨n4,n5⟩,n6,n7,n8,n9⟩,⟨g1,g2,g3,g4,g5⟩,v1,l1,⟨p1,p2,p3⟩⟩;by_cases hro:s.role=2
   ·rw [cF hro] at l1;obtain rfl:nn=s.nodes:=hnn.1 hro;obtain ⟨⟨l2,l3,l4,l5⟩,⟨l6,l7,l8⟩,l9⟩:=l1
    first
     |omega
     |(rename_i q9;exact q9 ⟨by omega,by assumption⟩)
     |(simp_all [eU];done)
     |(simp_all [eU];omega)
   ·rw [dS hro] at l1;obtain rfl:nn=0:=hnn.2 hro;have e1:s.next=[]:=List.eq_nil_of_length_eq_zero (by omega);have e2:s.mtch=[]:=List.eq_nil_of_length_eq_zero (by omega);have e3:s.sent=[]:=List.eq_nil_of_length_eq_zero (by omega)
    first
     |omega
     |(simp_all [eU,eE];done)
     |(simp_all [eU,eE];omega)
  (try simp only [bs9] at Q54)
  refine ae rfl (mvi rfl (ae rfl (aa (bg rfl rfl) (ae rfl (mvb rfl (AL (t:=200) rfl (fun Q55=>?_) (fun Q55=>?_)))))))
  ·(try simp only [bs9] at Q55)
   refine ae rfl (aa (ab bU rfl) (ae rfl (aa (ar dR rfl (by exact (show _=some (Value.slice Q LL.length Qc) from (hk1.from_ (((ah.rfl_.next E171).next E178).next E188)).rd 19 rfl))) ?_)));refine ae rfl (aa (bH eS rfl) (ae rfl (aa (cn rfl rfl) (ae rfl (aa (aL (v:=.bool _) rfl rfl) (aa (aw (v:=.bool _) rfl rfl) (aj (ag (Bk rfl (fun Q56=>?_) (fun Q56=>?_))))))))))
   ·(try simp only [bs9] at Q56)
    refine ak (af (asb rfl (aj (ag (aB (aD (bn (v:=.bool _) rfl rfl (⟨congrArg Value.bool ?_,(((hB.next E171).next E178).next E188)⟩))))))));rw [eq_comm,←Bool.not_eq_true,bR];rintro ⟨⟨n1,n2,n3,⟨n4,n5⟩,n6,n7,n8,n9⟩,⟨g1,g2,g3,g4,g5⟩,v1,l1,⟨p1,p2,p3⟩⟩;by_cases hro:s.role=2
    ·rw [cF hro] at l1;obtain rfl:nn=s.nodes:=hnn.1 hro;obtain ⟨⟨l2,l3,l4,l5⟩,⟨l6,l7,l8⟩,l9⟩:=l1
     first
      |omega
      |(rename_i q9;exact q9 ⟨by omega,by assumption⟩)
      |(simp_all [eU];done)
      |(simp_all [eU];omega)
    ·rw [dS hro] at l1;obtain rfl:nn=0:=hnn.2 hro;have e1:s.next=[]:=List.eq_nil_of_length_eq_zero (by omega);have e2:s.mtch=[]:=List.eq_nil_of_length_eq_zero (by omega);have e3:s.sent=[]:=List.eq_nil_of_length_eq_zero (by omega)
     first
      |omega
      |(simp_all [eU,eE];done)
      |(simp_all [eU,eE];omega)
   (try simp only [bs9] at Q56)
   refine aM ?_;refine cp (()) trivial (by (iterate 46 refine bA rfl ?_);exact bN) ?_;exact ⟨by first | assumption | simp_all,by first | assumption | simp_all,by first | assumption | simp_all,by omega,by omega,hk1.from_ (((ah.rfl_.next E171).next E178).next E188),(((hB.next E171).next E178).next E188)⟩
  (try simp only [bs9] at Q55)
  refine an rfl rfl (an rfl rfl (an rfl rfl (an rfl rfl (ae rfl (aa (aw (v:=.bool _) rfl rfl) (aa (aw (v:=.bool _) rfl rfl) (aj (ag (bd rfl ?_)))))))));refine aM ?_;refine cp (()) trivial (by (iterate 46 refine bA rfl ?_);exact bN) ?_;exact ⟨by first | assumption | simp_all,by first | assumption | simp_all,by first | assumption | simp_all,by omega,by omega,hk1.from_ (((ah.rfl_.next E171).next E178).next E188),(((hB.next E171).next E178).next E188)⟩
 rintro ⟨⟩ ρ57 w57 ⟨hx9,hm9,hs9,hl9,hn9,hk1,hB⟩;refine ak (ak (af (asi rfl (aj (ag (aU (cM (G:=Nat) [2,7,207,208,209,210,211,212,213,214,215,216,217,218,219,220,221,222,223,224,225,226,227,228,229,230,231,232,233,234,235,236,237,238,239,240,241,242,243,244,245,246,247,248,249,250,251,252,253,254,255,256,257,258] (fun k=>[(6,.int .i64 (k:Nat))]) (fun k w'=>k≤LL.length∧(∀ j (h:j<LL.length),j<k→gF s LL[j].1=true)∧Blk w' b1 29 (rfV s (⟨E,Ec,V,Vc,X,Xc,M,Mc,Sn,Sc,Q,Qc,LL⟩:Ra)).toArray∧ah w w') (fun k=>LL.length-k) (0) ⟨rfl,trivial⟩ ?_ ?_)))))))
 ·exact ⟨Nat.zero_le _,fun j _ h=>absurd h (by omega),hk1.from_ ah.rfl_,hB⟩
 rintro k ρ58 w58 ⟨hk,h1,hk1,hB⟩;refine ak (ak (af (mvi rfl (aa (ab bU rfl) (aa (ar dR rfl (by exact (show _=some (Value.slice Q LL.length Qc) from (hk1.from_ ah.rfl_).rd 19 rfl))) ?_)))));refine aa (bH eS rfl) (aa (bM rfl rfl) (aj (ag (Bk rfl (fun Q59=>?_) (fun Q59=>?_)))))
 ·have hkL:k<LL.length:=by omega
  have hqm:LL[k].1∈s.reads:=by rw [←hrL];exact List.mem_map_of_mem (List.getElem_mem hkL)
  obtain ⟨ba,oa,rfl,hcs⟩:∃ b o,Q=some ⟨b,o,none⟩∧∀ i (hi:i<LL.length),w.rangeAt b (o+i*4) (rdV LL[i]):=hrd.q (by show 0<LL.length;omega);refine aM (ag (ak (aU (ak (af (aa (ab bU rfl) (aa (ar dR rfl (by exact (show _=some (Value.slice (some ⟨ba,oa,none⟩) LL.length Qc) from (hk1.from_ ah.rfl_).rd 19 rfl))) ?_)))))));refine mvi rfl (aa (bT fV rfl rfl (by omega)) (aa (aG (cs:=rdV LL[k]) il fm rfl (eZ hB (hcs k hkL))) (bP jn ?_)));intro b7 w60 E7 hb7 hk7;have hg7:w.heap.size≤b7:=by rw [hb7];exact (hB).size
  have hk1L:=hk1.from_ (ah.rfl_.next E7);have hn7:b1≠b7:=by have:=hk1.lt;have:=((ah.rfl_.next E7)).size;omega
  refine cg (vs:=[_,_,_,_]) fm rfl rfl (by simp [Value.oneCell']) (hk7) rfl ?_;intro w61 O16 P16;replace hk1:=hk1L.only O16 hn7;refine aj (ag (ak (af (aa (ab ja rfl) (aa (ar ao rfl (by exact (show _=some (Value.int .i64 LL[k].1.id) from (P16.from_ ah.rfl_).rd 0 rfl))) ?_)))));refine aa (bM rfl rfl) (mvb rfl (AL (t:=222) rfl (fun Q62=>?_) (fun Q62=>?_)))
  ·(try simp only [bs9] at Q62)
   refine bw rfl (aj (ag (aS rfl (ak (af (asb rfl (aj (ag (aB (bC (aD (aD (bC (aD (bn (v:=.bool _) rfl rfl (⟨congrArg Value.bool ?_,((hB.next E7).only O16 (hg7))⟩))))))))))))))));rw [eq_comm,←Bool.not_eq_true,bR];rintro ⟨_,_,_,l1,_⟩;by_cases hro:s.role=2
   ·rw [cF hro] at l1;have g5:=ey.1 (l1.2.2 _ hqm)
    first
     |omega
     |(simp_all;done)
   ·rw [dS hro] at l1;omega
  (try simp only [bs9] at Q62)
  refine ae rfl (aa (ab ja rfl) (ae rfl (aa (ar ao rfl (by exact (show _=some (Value.int .i64 LL[k].1.id) from (P16.from_ ah.rfl_).rd 0 rfl))) ?_)));refine ae rfl (aa (cn rfl rfl) (aa (aw (v:=.bool _) rfl rfl) (mvb rfl (AL (t:=227) rfl (fun Q63=>?_) (fun Q63=>?_)))))
  ·(try simp only [bs9] at Q63)
   refine bw rfl (aj (ag (aS rfl (ak (af (asb rfl (aj (ag (aB (bC (aD (aD (bC (aD (bn (v:=.bool _) rfl rfl (⟨congrArg Value.bool ?_,((hB.next E7).only O16 (hg7))⟩))))))))))))))));rw [eq_comm,←Bool.not_eq_true,bR];rintro ⟨_,_,_,l1,_⟩;by_cases hro:s.role=2
   ·rw [cF hro] at l1;have g5:=ey.1 (l1.2.2 _ hqm)
    first
     |omega
     |(simp_all;done)
   ·rw [dS hro] at l1;omega
  (try simp only [bs9] at Q63)
  refine ae rfl (aa (ab i_ rfl) (ae rfl (aa (ar ao rfl (by exact (show _=some (Value.int .i64 LL[k].1.ix) from (P16.from_ ah.rfl_).rd 1 rfl))) ?_)));refine ae rfl (aa (bM rfl rfl) (aa (aw (v:=.bool _) rfl rfl) (mvb rfl (AL (t:=232) rfl (fun Q64=>?_) (fun Q64=>?_)))))
  ·(try simp only [bs9] at Q64)
   refine bw rfl (aj (ag (aS rfl (ak (af (asb rfl (aj (ag (aB (bC (aD (aD (bC (aD (bn (v:=.bool _) rfl rfl (⟨congrArg Value.bool ?_,((hB.next E7).only O16 (hg7))⟩))))))))))))))));rw [eq_comm,←Bool.not_eq_true,bR];rintro ⟨_,_,_,l1,_⟩;by_cases hro:s.role=2
   ·rw [cF hro] at l1;have g5:=ey.1 (l1.2.2 _ hqm)
    first
     |omega
     |(simp_all;done)
   ·rw [dS hro] at l1;omega
  (try simp only [bs9] at Q64)
  refine ae rfl (aa (ab i_ rfl) (ae rfl (aa (ar ao rfl (by exact (show _=some (Value.int .i64 LL[k].1.ix) from (P16.from_ ah.rfl_).rd 1 rfl))) ?_)));refine ae rfl (aa (ab dh rfl) (ae rfl (aa (ar ao rfl (by exact (hk1.from_ ah.rfl_).rd 10 rfl)) ?_)));refine ae rfl (aa (cn rfl rfl) (aa (aw (v:=.bool _) rfl rfl) (mvb rfl (AL (t:=239) rfl (fun Q65=>?_) (fun Q65=>?_)))))
  ·(try simp only [bs9] at Q65)
   refine bw rfl (aj (ag (aS rfl (ak (af (asb rfl (aj (ag (aB (bC (aD (aD (bC (aD (bn (v:=.bool _) rfl rfl (⟨congrArg Value.bool ?_,((hB.next E7).only O16 (hg7))⟩))))))))))))))));rw [eq_comm,←Bool.not_eq_true,bR];rintro ⟨_,_,_,l1,_⟩;by_cases hro:s.role=2
   ·rw [cF hro] at l1;have g5:=ey.1 (l1.2.2 _ hqm)
    first
     |omega
     |(simp_all;done)
   ·rw [dS hro] at l1;omega
  (try simp only [bs9] at Q65)
  refine ae rfl (aa (ab iZ rfl) (ae rfl (aa (ar ao rfl (by exact (show _=some (Value.int .i64 LL[k].1.rn) from (P16.from_ ah.rfl_).rd 2 rfl))) ?_)));refine ae rfl (aa (bM rfl rfl) (aa (aw (v:=.bool _) rfl rfl) (mvb rfl (AL (t:=244) rfl (fun Q66=>?_) (fun Q66=>?_)))))
  ·(try simp only [bs9] at Q66)
   refine bw rfl (aj (ag (aS rfl (ak (af (asb rfl (aj (ag (aB (bC (aD (aD (bC (aD (bn (v:=.bool _) rfl rfl (⟨congrArg Value.bool ?_,((hB.next E7).only O16 (hg7))⟩))))))))))))))));rw [eq_comm,←Bool.not_eq_true,bR];rintro ⟨_,_,_,l1,_⟩;by_cases hro:s.role=2
   ·rw [cF hro] at l1;have g5:=ey.1 (l1.2.2 _ hqm)
    first
     |omega
     |(simp_all;done)
   ·rw [dS hro] at l1;omega
  (try simp only [bs9] at Q66)
  refine ae rfl (aa (ab iZ rfl) (ae rfl (aa (ar ao rfl (by exact (show _=some (Value.int .i64 LL[k].1.rn) from (P16.from_ ah.rfl_).rd 2 rfl))) ?_)));refine ae rfl (aa (ab dp rfl) (ae rfl (aa (ar ao rfl (by exact (hk1.from_ ah.rfl_).rd 18 rfl)) ?_)));refine ae rfl (aa (cn rfl rfl) (aa (aw (v:=.bool _) rfl rfl) (mvb rfl (AL (t:=251) rfl (fun Q67=>?_) (fun Q67=>?_)))))
  ·(try simp only [bs9] at Q67)
   refine bw rfl (aj (ag (aS rfl (ak (af (asb rfl (aj (ag (aB (bC (aD (aD (bC (aD (bn (v:=.bool _) rfl rfl (⟨congrArg Value.bool ?_,((hB.next E7).only O16 (hg7))⟩))))))))))))))));rw [eq_comm,←Bool.not_eq_true,bR];rintro ⟨_,_,_,l1,_⟩;by_cases hro:s.role=2
   ·rw [cF hro] at l1;have g5:=ey.1 (l1.2.2 _ hqm)
    first
     |omega
     |(simp_all;done)
   ·rw [dS hro] at l1;omega
  (try simp only [bs9] at Q67)
  refine ae rfl (aa (ab eX rfl) (ae rfl (aa (ar bc rfl (by exact (show _=some (Value.slice LL[k].2.1 LL[k].1.acks.length LL[k].2.2) from (P16.from_ ah.rfl_).rd 3 rfl))) ?_)));refine ae rfl (aa (ab bJ rfl) (ae rfl (aa (ar ao rfl (by exact (hk1.from_ ah.rfl_).rd 1 rfl)) ?_)));refine ae rfl (ay mV (tD LL[k].2.1 LL[k].2.2 LL[k].1.acks s.nodes _ ((hrk _ (List.getElem_mem hkL)).1.from_ ((hB.next E7).only O16 (hg7))) (hl6 _ hqm)) ?_);rintro v256 w68 ⟨rfl,E256⟩;refine ae rfl (aa (cd rfl) (aa (aw (v:=.bool _) rfl rfl) (aj (ag (Bi rfl (fun Q69=>?_) (fun Q69=>?_))))))
  ·(try simp only [bs9] at Q69)
   refine ak (af (asb rfl (aj (ag (aB (bC (aD (aD (bC (aD (bn (v:=.bool _) rfl rfl (⟨congrArg Value.bool ?_,(((hB.next E7).only O16 (hg7)).next E256)⟩))))))))))));rw [eq_comm,←Bool.not_eq_true,bR];rintro ⟨_,_,_,l1,_⟩;by_cases hro:s.role=2
   ·rw [cF hro] at l1;have g5:=ey.1 (l1.2.2 _ hqm)
    first
     |omega
     |(simp_all;done)
   ·rw [dS hro] at l1;omega
  (try simp only [bs9] at Q69)
  refine aM (bo (ag (af (mvi rfl (aa (b0 rfl rfl (by omega)) (asi rfl (aj ?_)))))));refine cp (k+1) ⟨(by first | rfl | (refine br ?_;omega)),trivial⟩ (by (iterate 115 refine bA rfl ?_);exact bN) ⟨?_,?_⟩
  ·refine ⟨by omega,fun j h hj=>?_,hk1.from_ (ah.rfl_.next E256),(((hB.next E7).only O16 (hg7)).next E256)⟩;rcases Nat.lt_or_ge j k with e | e
   ·exact h1 j h e
   ·obtain rfl:j=k:=by omega
    rw [ey];exact ⟨by omega,by omega,by omega,by first | assumption | simp_all⟩
  ·omega
 refine b_ (bf (bf (bL (ag (ak (af (asb rfl (aj (ag (aB (bn (v:=.bool _) rfl rfl (⟨congrArg Value.bool ?_,hB⟩))))))))))));rw [eq_comm,bR]
 have hrd9:∀ q∈s.reads,gF s q=true:=fun q hq=>by
  rw [←hrL] at hq;obtain ⟨y,hy,rfl⟩:=List.mem_map.1 hq;obtain ⟨i,hi,rfl⟩:=List.getElem_of_mem hy;exact h1 i hi (by omega)
 refine ⟨⟨by omega,by omega,by omega,⟨by omega,by omega⟩,by omega,by omega,by omega,by omega⟩,⟨by simp_all,by omega,by omega,by omega,by omega⟩,by simp_all,?_,⟨by omega,by omega,by omega⟩⟩;by_cases hro:s.role=2
 ·rw [cF hro];obtain rfl:nn=s.nodes:=hnn.1 hro;refine ⟨⟨?_,?_,?_,?_⟩,⟨?_,?_,?_⟩,hrd9⟩ <;> first | omega | (simp_all [eU];done) | (simp_all [eU];omega)
 ·rw [dS hro];obtain rfl:nn=0:=hnn.2 hro
  simp_all [eU]
theorem du:j4 prog 39=some (.agg #[.int .i64 0,.int .i64 0,.int .i64 0,.int .i64 0,.int .i64 0,.int .i64 0,.int .i64 0,.int .i64 0,.bool false,.slice none 0 0,.int .i64 0,.string ⟨#[]⟩,.bool false]):=by kernel_rfl
theorem lA:dZ prog 22=some 1:=by kernel_rfl
theorem zX {s:ByteArray}:⟨#[]⟩=s↔s.size=0:=by
 constructor
 ·intro h;subst h;rfl
 ·intro h;obtain ⟨⟨l⟩⟩:=s;have h9:l.length=0:=h;rw [List.eq_nil_of_length_eq_zero h9]
theorem yY {k f t tm ix lt cm rd:Int} {ok:Bool} {es:List Ent} {a:Int} {d:ByteArray} {dn:Bool} (h1:jw k f t tm ix lt cm rd a) (h2:uF k ix lt es) (h3:pq k ix a d):OkR k f t tm ix lt cm rd ok es a d dn↔ExR k ix lt cm rd ok es.length a d dn:=
 ⟨fun h=>h.2.1,fun h=>⟨h1,h,h2,h3⟩⟩
theorem xA (n:Int) (w:World) :
 Rt prog 61 [.int .i64 n] w (fun v w'=>v=.bool (decide (1≤n∧n≤7))∧w=w'):=by
 refine enter (n:=9) Tryz.func61 rfl rfl rfl (ak (af (asb rfl (aj (ag (ak (af (mvi rfl (aa (jr rfl rfl) (mvb rfl (AL (t:=5) rfl (fun Q1=>?_) (fun Q1=>?_))))))))))))
 ·refine ae rfl (mvi rfl (ae rfl (aa (gp rfl rfl) (aa (aL (v:=.bool _) rfl rfl) (asb rfl (aj (ag (aB (bn (v:=.bool _) rfl rfl (⟨congrArg Value.bool ?_,rfl⟩))))))))))
  first
   |(rw [eq_comm,decide_eq_false_iff_not];omega)
   |(rw [decide_eq_decide];omega)
 refine an rfl rfl (an rfl rfl (aa (aw (v:=.bool _) rfl rfl) (asb rfl (aj (ag (aB (bn (v:=.bool _) rfl rfl (⟨congrArg Value.bool ?_,rfl⟩))))))))
 first
  |(rw [eq_comm,decide_eq_false_iff_not];omega)
  |(rw [decide_eq_decide];omega)
theorem pT (n:Int) (w:World) :
 Rt prog 62 [.int .i64 n] w (fun v w'=>v=.bool (decide (0≤n∧n<1099511627776))∧w=w'):=by
 refine enter (n:=9) Tryz.func62 rfl rfl rfl (ak (af (asb rfl (aj (ag (ak (af (mvi rfl (aa (jr rfl rfl) (mvb rfl (AL (t:=5) rfl (fun Q1=>?_) (fun Q1=>?_))))))))))))
 ·refine ae rfl (mvi rfl (ae rfl (aa (bM rfl rfl) (aa (aL (v:=.bool _) rfl rfl) (asb rfl (aj (ag (aB (bn (v:=.bool _) rfl rfl (⟨congrArg Value.bool ?_,rfl⟩))))))))))
  first
   |(rw [eq_comm,decide_eq_false_iff_not];omega)
   |(rw [decide_eq_decide];omega)
 refine an rfl rfl (an rfl rfl (aa (aw (v:=.bool _) rfl rfl) (asb rfl (aj (ag (aB (bn (v:=.bool _) rfl rfl (⟨congrArg Value.bool ?_,rfl⟩))))))))
 first
  |(rw [eq_comm,decide_eq_false_iff_not];omega)
  |(rw [decide_eq_decide];omega)
theorem tT {es:List Ent} {k:Nat} (h:k<es.length):dF (es.take k)++[.int .i64 es[k].i,.int .i64 es[k].t,.string es[k].d]=dF (es.take (k+1)):=by
 rw [List.take_succ_eq_append_getElem h,kx];rfl
theorem ye (E:Option Addr) (n c:Nat) (es:List Ent) (w:World) (hn:n=es.length) (he:cz w (.slice E n c) es) (hl:es.length≤1000000000) :
 Rt prog 59 [.slice E n c] w (fun v w'=>(∃ A' c',v=.slice A' es.length c'∧w'.ownsRow w.heap.size 99 3 (.slice A' es.length c') es.length (dF es))∧ah w w'):=by
 refine enter (n:=19) Tryz.func59 rfl rfl rfl (ak (af (ass rfl (aj (ag (ak (af (ass rfl (aj (ag (ak (ak (af (asi rfl (aj (ag (aU (cM (G:=Nat×Option Addr×Nat) [5,6,7,8,9,10,11,12,13,14,15,16,17] (fun (k,A3,c3)=>[(3,.slice A3 k c3),(4,.int .i64 (k:Nat))]) (fun (k,A3,c3) w'=>k≤es.length∧w'.ownsRow w.heap.size 99 3 (.slice A3 k c3) k (dF (es.take k))∧ah w w') (fun (k,_,_)=>es.length-k) ((0,none,0)) ⟨rfl,rfl,trivial⟩ ?_ ?_))))))))))))))))))
 ·exact ⟨Nat.zero_le _,World.ownsRow_nil _ _ _ _,ah.rfl_⟩
 rintro ⟨k,A3,c3⟩ ρ1 w1 ⟨hk,ho3,hB⟩;refine ak (ak (af (mvi rfl (mvs rfl (aa (bH cU rfl) (aa (bM rfl rfl) (aj (ag (Bk rfl (fun Q2=>?_) (fun Q2=>?_))))))))))
 ·have hkl:k<es.length:=by omega
  obtain ⟨ba,oa,hA,hcs⟩:=kW he (by omega);subst hA;refine aM (ag (ak (aU (af (mvs rfl (mvs rfl (mvi rfl (aa (iz eT rfl rfl (by omega)) (aa (aG (cs:=[.int .i64 (es[k]'hkl).i,.int .i64 (es[k]'hkl).t,.string (es[k]'hkl).d]) jL gm rfl (eZ hB (hcs k hkl))) ?_)))))))));refine jq (l:=[(0,.tmp 15)]) (cells:=[.int .i64 (es[k]'hkl).i,.int .i64 (es[k]'hkl).t,.string (es[k]'hkl).d].toArray) f_ rfl rfl (by show Instr.fill _ _ [(0,Value.agg [.int .i64 (es[k]'hkl).i,.int .i64 (es[k]'hkl).t,.string (es[k]'hkl).d].toArray)]=_;kernel_rfl) ?_;intro b16 w3 E16 hb16 hk16;refine kQ (a0:=w) (news:=[.int .i64 (es[k]'hkl).i,.int .i64 (es[k]'hkl).t,.string (es[k]'hkl).d]) f_ rfl (by decide) rfl (ho3.kept_from (ah.rfl_.next E16)) (hB.next E16) rfl rfl (fun _=>⟨b16,0,rfl,hk16.whole⟩) (fun h=>by cases h) (by simp [Value.oneCell']) (by omega) (by omega) ?_;intro A17 c17 w4 ho17 B17 hg17;refine ass rfl (aj (bo (ag (af (mvi rfl (aa (b0 rfl rfl (by omega)) (asi rfl (aj ?_))))))));refine cp ((k+1,A17,c17)) ⟨(by first | rfl | (refine br ?_;omega)),(by first | rfl | (refine br ?_;omega)),trivial⟩ (by (iterate 30 refine bA rfl ?_);exact bN) ⟨?_,?_⟩
  ·exact ⟨by omega,by rw [←tT hkl];exact ho17,B17⟩
  ·show es.length-(k+1)<es.length-k;omega
 refine b_ (bf (bf (bL (ag (ak (af (mvs rfl (ass rfl (aj (ag (aB (bn (v:=.slice _ _ _) rfl rfl ?_))))))))))));obtain rfl:k=es.length:=by omega
 rw [List.take_length] at ho3;exact ⟨⟨A3,c3,rfl,ho3⟩,hB⟩
theorem iS (x:Msg) (w:World) (he:cz w (.slice x.E x.es.length x.c) x.es) (hl:x.es.length≤1000000000) :
 Rt prog 47 [.agg (bD x).toArray] w (fun v w'=>(∃ A' c',v=.agg (bD { x with E:=A',c:=c' }).toArray∧w'.ownsRow w.heap.size 99 3 (.slice A' x.es.length c') x.es.length (dF x.es))∧ah w w'):=by
 refine enter (n:=10) Tryz.func47 rfl rfl rfl (ak (af (bK (v:=.agg _) rfl ?_)));intro b1 w1 E1 hb1 hk1;refine bP du ?_;intro b2 w2 E2 hb2 hk2;have hg2:w.heap.size≤b2:=by rw [hb2];exact ((ah.rfl_.next E1)).size
 replace hk1:=hk1.from_ E2;refine aj (ag (ak (af (aa (aG (cs:=bD x) bk aY rfl hk1.whole) (bP du ?_)))));intro b3 w3 E3 hb3 hk3;have hg3:w.heap.size≤b3:=by rw [hb3];exact (((ah.rfl_.next E1).next E2)).size
 have h23:b2≠b3:=by have:=hk2.lt;omega
 have h13:b1≠b3:=by have:=hk1.lt;omega
 replace hk1:=hk1.from_ E3;replace hk2:=hk2.from_ E3;refine cg (vs:=[_,_,_,_,_,_,_,_,_,_,_,_,_]) aY rfl rfl (by simp [Value.oneCell']) (hk3) rfl ?_;intro w4 O1 P1;replace hk1:=hk1.only O1 h13;replace hk2:=hk2.only O1 h23;have hz1:=(((((ah.rfl_.next E1).next E2).next E3).only O1 (hg3))).size;refine aj (ag (ak (af (aa (ab eI rfl) (aa (ar cI rfl (by exact hk1.rd 9 rfl)) ?_)))));refine ay mq (ye x.E x.es.length x.c x.es _ rfl (he.from_ ((((ah.rfl_.next E1).next E2).next E3).only O1 (hg3))) hl) ?_;rintro v7 w5 ⟨⟨A7,c7,rfl,ho7⟩,E7⟩;refine aa (ab eI rfl) (fR (v:=.slice _ _ _) lA rfl rfl rfl ((P1.from_ (ah.rfl_.next E7))) (by show 0+9<13;decide) ?_);intro w6 O2 P2;replace hk2:=(hk2.from_ E7).only O2 h23;replace ho7:=gi ho7 O2 (kU ho7 (P1.from_ E7) (by decide));refine aj (ag (ak (af (aa (aG (cs:=bD { x with E:=A7,c:=c7 }) bk aY rfl P2.whole) (cg (vs:=[_,_,_,_,_,_,_,_,_,_,_,_,_]) aY rfl rfl (by simp [Value.oneCell']) (hk2) rfl ?_)))));intro w7 O3 P3;replace ho7:=gi ho7 O3 (kU ho7 hk2 (by decide));refine aj (ag (aB (lR rfl (dM (cs:=[_,_,_,_,_,_,_,_,_,_,_,_,_]) bk aY rfl (by exact P3.whole)) ?_)));exact ⟨⟨A7,c7,rfl,ei ho7 hz1⟩,(((((((ah.rfl_.next E1).next E2).next E3).only O1 (hg3)).next E7).only O2 (hg3)).only O3 (hg2))⟩
end Go.Proofs.YtkpooenofjdpmaaGreat
namespace Go.Proofs.YtkpooenofjdpmaaGreat
open Go.Proofs.Tryz (prog)
open Go.RowKit
open Go.ChangeShapes Go.WideShapes Go.ChangeAt
open Go.RowKit
theorem oh:∀ (l:List Int),fS l=true→l.Pairwise (·<·)
 |[],_=>List.Pairwise.nil
 |_::r,h=>List.Pairwise.cons (pO h) (oh r (nb h))
theorem rR:∀ (l:List Int),l.Pairwise (·<·)→fS l=true
 |[],_=>rfl
 |[_],_=>rfl
 |a::b::r,h=>by
  cases h with
  |cons h1 h2=>
   show (decide (a<b)&&fS (b::r))=true;rw [rR (b::r) h2,decide_eq_true (h1 b List.mem_cons_self)];rfl
theorem vf {l:List Int} {x y:Int} (h:y∈c8 l x):y∈l∨y=x:=by
 unfold c8 at h;split at h
 ·exact .inl h
 ·rcases List.mem_append.1 h with e | e
  ·exact .inl ((List.takeWhile_sublist _).mem e)
  ·rcases List.mem_cons.1 e with e | e
   ·exact .inr e
   ·exact .inl ((List.dropWhile_sublist _).mem e)
theorem oK:∀ {l:List Int} {x:Int},l.Pairwise (·<·)→∀ y∈l.dropWhile (fun y=>decide (y<x)),x≤y
 |[],_,_,y,hy=>by cases hy
 |a::r,x,h,y,hy=>by
  cases h with
  |cons h1 h2=>
   by_cases hax:a<x
   ·rw [List.dropWhile_cons,if_pos (by simpa using hax)] at hy;exact oK h2 y hy
   ·rw [List.dropWhile_cons,if_neg (by simpa using hax)] at hy;rcases List.mem_cons.1 hy with e | e
    ·omega
    ·have:=h1 y e;omega
theorem ry:∀ {l:List Int} {x:Int},∀ y∈l.takeWhile (fun y=>decide (y<x)),y<x
 |[],_,y,hy=>by cases hy
 |a::r,x,y,hy=>by
  by_cases hax:a<x
  ·rw [List.takeWhile_cons,if_pos (by simpa using hax)] at hy;rcases List.mem_cons.1 hy with e | e
   ·omega
   ·exact ry y e
  ·rw [List.takeWhile_cons,if_neg (by simpa using hax)] at hy;cases hy
theorem wx {l:List Int} {x:Int} (h:l.Pairwise (·<·)):(c8 l x).Pairwise (·<·):=by
 unfold c8;split
 ·exact h
 ·rename_i hx;have hx':x ∉ l:=by simpa using hx
  rw [List.pairwise_append];refine ⟨h.sublist (List.takeWhile_sublist _),List.Pairwise.cons (fun y hy=>?_) (h.sublist (List.dropWhile_sublist _)),fun y hy z hz=>?_⟩
  ·have h1:=oK h y hy;have h2:y≠x:=fun e=>hx' (e ▸ (List.dropWhile_sublist _).mem hy)
   omega
  ·have h1:=ry y hy;rcases List.mem_cons.1 hz with e | e
   ·omega
   ·have:=oK h z e;omega
theorem rj {l:List Int} {n x:Int} (h:fj l n=true) (hx:1≤x∧x≤n):fj (c8 l x) n=true:=by
 have h1:=kq h;unfold fj;rw [rR _ (wx (oh _ h1.2)),Bool.and_true,List.all_eq_true];intro y hy
 have h2:1≤y∧y≤n:=by
  rcases vf hy with e | e
  ·exact h1.1 y e
  ·rw [e];exact hx
 simp only [Bool.and_eq_true,decide_eq_true_eq];exact h2
theorem vP {l:List Int} {n:Int} (h:fj l n=true) (hn:n≤7):l.length≤7:=by
 have h1:=kq h;have h2:=kT l 0 n h1.2 fun x hx=>⟨by have:=(h1.1 x hx).1;omega,(h1.1 x hx).2⟩
 omega
theorem RfF.voted {s:Rf} (h:RfF s) {x:Int} (hx:1≤x∧x≤s.nodes):RfF { s with votes:=c8 s.votes x }:={ h with vs:=rj h.vs hx }
theorem AF {s:Rf} {q:Rd} (h:gF s q=true) {x rn:Int} (hx:1≤x∧x≤s.nodes):gF s (if q.rn≤rn then { q with acks:=c8 q.acks x } else q)=true:=by
 split
 ·unfold gF at h ⊢;simp only [Bool.and_eq_true] at h ⊢;exact ⟨h.1,rj h.2 hx⟩
 ·exact h
theorem zD {s:Rf} (h:RfF s) {x rn:Int} (hx:1≤x∧x≤s.nodes):∀ q∈(yo s x rn).reads,gF s q=true:=fun q hq=>by
 obtain ⟨y,hy,rfl⟩:=List.mem_map.1 hq;exact AF (h.rd y hy) hx
theorem u_ {s:Rf} {x rn:Int}:(yo s x rn).reads.length=s.reads.length:=List.length_map _
theorem RfF.ack {s:Rf} (h:RfF s) {x rn:Int} (hx:1≤x∧x≤s.nodes):RfF (yo s x rn):=
 { h with rl:=(by rw [u_];exact h.rl),r0:=h.r0.imp id (fun e=>by rw [u_];exact e),rd:=zD h hx }
theorem RfF.hear {s:Rf} (h:RfF s) {v:Int} (hv:0≤v∧v≤s.nodes):RfF { s with leader:=v,elapsed:=0 }:={ h with le:=hv,el:=⟨Int.le_refl _,z40⟩ }
theorem nf {B T:Int} {xs:List Ent}:∀ (zs:List Ent) (p t:Int),eC zs p t=true→B≤p→p≤B+xs.length→gv B T xs zs=[]∨∃ e r,gv B T xs zs=e::r∧B+1≤e.i∧e.i≤B+xs.length+1∧¬ (e.i≤B+xs.length∧dJ B T xs e.i=e.t)
 |[],_,_,_,_,_=>.inl rfl
 |e::r,p,t,h,h1,h2=>by
  have h3:=vu h;by_cases hc:e.i≤B+xs.length∧dJ B T xs e.i=e.t
  ·rw [vQ hc];exact nf r (p+1) e.t h3.2 (by omega) (by omega)
  ·exact .inr ⟨e,r,rY hc,by omega,by omega,hc⟩
def BF (es es':List Ent) (c:Nat):Prop:=c≤es'.length∧∀ i (h:i<es.length) (h':i<es'.length),i<c→es'[i].t=es[i].t
theorem xJ {s:Rf} (h:RfF s) {m:Msg} {es':List Ent} (hr:lu s.b s.t m.ix m.lt s.es m.es=(0,false,es')):es'=s.es.take (uU s.b s.es (gv s.b s.t s.es (ng s.b m.ix m.es)))++gv s.b s.t s.es (ng s.b m.ix m.es)∧cJ s.b s.t es'=true∧(gv s.b s.t s.es (ng s.b m.ix m.es)=[]∨∃ e r,gv s.b s.t s.es (ng s.b m.ix m.es)=e::r∧s.b+1≤e.i∧e.i≤a_ s+1∧¬ (e.i≤a_ s∧dJ s.b s.t s.es e.i=e.t)):=by
 have hl:=h.last;unfold lu at hr;split at hr
 ·rename_i h1;split at hr
  ·cases hr
  ·rename_i h2;unfold mg2 at hr;split at hr
   ·cases hr
   ·split at hr
    ·rename_i h4;cases hr;refine ⟨rfl,h4,?_⟩;obtain ⟨t,hrun⟩:=wP (B:=s.b) hl.2.1 h1.2.2.2 h1.2.2.1;have hP:s.b≤mgP s.b m.ix∧mgP s.b m.ix≤s.b+s.es.length:=⟨by unfold mgP;split <;> omega,by omega⟩;rw [hl.1];exact nf _ _ t hrun hP.1 hP.2
    ·cases hr
 ·cases hr
end Go.Proofs.YtkpooenofjdpmaaGreat
namespace Go.Proofs.YtkpooenofjdpmaaGreat
open Go.Proofs.Tryz (prog)
open Go.RowKit
open Go.ChangeShapes Go.WideShapes Go.ChangeAt
theorem uw:aO prog 73=true:=by kernel_rfl
theorem o3:aO prog 70=true:=by kernel_rfl
theorem sP:aO prog 110=true:=by kernel_rfl
theorem vK (s:Rf) (i:Int) (E:Option Addr) (c:Nat) (w:World) (h:cz w (.slice E s.es.length c) s.es) (hm:cJ s.b s.t s.es=true):Rt prog 82 [.agg #[.int .i64 s.b,.int .i64 s.t,.slice E s.es.length c],.int .i64 i] w fun v w'=>(∃ (tt:Int) (bb:Bool),v=.tuple #[.int .i64 tt,.bool bb]∧((s.b≤i∧i≤a_ s)→bb=true∧tt=dJ s.b s.t s.es i))∧ah w w':=
 (Rt.of (nc s.b s.t i (.slice E s.es.length c) s.es w h hm)).mono fun v w' h9=>⟨by
  rw [h9.1];unfold lT;by_cases hi:s.b≤i∧i≤df s.b s.es
  ·rw [if_pos hi];exact ⟨_,_,rfl,fun _=>⟨rfl,rfl⟩⟩
  ·rw [if_neg hi];exact ⟨_,_,rfl,fun h=>absurd h hi⟩,h9.2⟩
theorem vM (p:Sp) (k:Nat):p.sends (gY p.s.id (k+1))=if ((k:Int)+1)=p.s.id then p.sends (gY p.s.id k) else (p.sends (gY p.s.id k)).send ((k:Int)+1):=by
 rw [mH];by_cases h:((k:Int)+1)=p.s.id
 ·rw [if_pos (show ((k+1:Nat):Int)=p.s.id by omega),if_pos h]
 ·rw [if_neg (show ¬ ((k+1:Nat):Int)=p.s.id by omega),if_neg h,mA];rfl
theorem yS (w0:World) (Z:Nat→Prop) (T g:Nat) (p:Sp) (w:World) (h:aQ w0 Z w T g p) (hF:RfF p.s) (hr:p.s.role=2) (hl:p.out.length≤800) :
 Rt prog 67 [.pointer (some ⟨g,0,none⟩)] w (fun v w'=>v=.tuple #[]∧aQ w0 Z w' T g p.all):=by
 have hnn:=hF.n
 have hcell:∀ {w1:World} {q:Sp},aQ w0 Z w1 T g q→q.s.nodes=p.s.nodes→∀ w9,ah w1 w9→w9.cell? ⟨g,1,none⟩=some (.int .i64 p.s.nodes):=fun {w1 q} hq he w9 h9=>by
  obtain ⟨tg,a,O,oc,L,hs⟩:=hq.ex;have h1:=ct (hs.b.from_ h9) 1 rfl;rw [he] at h1;exact h1
 refine enter (n:=15) Tryz.func67 rfl rfl rfl (ak (af (asi rfl (aj (ag (aU (cM (G:=Nat) [3,4,5,6,7,8,9,10,11,12,13,14] (fun k=>[(2,.int .i64 ((k:Int)+1))]) (fun k w'=>(k:Int)≤p.s.nodes∧aQ w0 Z w' T g (p.sends (gY p.s.id k))∧(∀ w9,ah w' w9→w9.cell? ⟨g,1,none⟩=some (.int .i64 p.s.nodes))) (fun k=>p.s.nodes.toNat-k) (0) ⟨rfl,trivial⟩ ?_ ?_)))))))
 ·exact ⟨by omega,h.from_ ah.rfl_,hcell h rfl⟩
 rintro k ρ1 w1 ⟨hk,h15,hn8⟩;refine ak (ak (af (mvi rfl (mvp rfl (aa (av rfl) (aa (ab aJ rfl) (aa (ab bJ rfl) (aa (ar ao rfl (by exact hn8 _ (ah.rfl_ (a:=w1)))) ?_))))))));refine aa (gp rfl rfl) (aj (ag (Bk rfl (fun Q2=>?_) (fun Q2=>?_))))
 ·refine aM (ag (ak (aU (af (mvp rfl (mvi rfl (ay uw (vC w0 Z T g (p.sends (gY p.s.id k)) _ (h15.from_ (ah.rfl_ (a:=w1))) (by rw [jh];exact hF) (by rw [jh];exact hr) (by rw [pF];have:=qv p.s.id k;omega) ((k:Int)+1) (by rw [jh];omega)) ?_)))))));rintro v14 w3 ⟨rfl,h16⟩
  have h17:aQ w0 Z w3 T g (p.sends (gY p.s.id (k+1))):=by
   rw [vM];rw [jh] at h16;exact h16
  refine aj (bo (ag (af (mvi rfl (aa (b0 rfl rfl (by omega)) (asi rfl (aj ?_)))))));refine cp (k+1) ⟨br (by omega),trivial⟩ (by (iterate 26 refine bA rfl ?_);exact bN) ⟨?_,?_⟩
  ·exact ⟨by omega,h17.from_ (ah.rfl_ (a:=w3)),fun w9 h9=>hcell h17 (by rw [jh]) _ (((ah.rfl_ (a:=w3))).next h9)⟩
  ·show p.s.nodes.toNat-(k+1)<p.s.nodes.toNat-k;omega
 refine b_ (bf (bf (bL (cC (dV rfl ?_)))));have hkn:k=p.s.nodes.toNat:=by omega
 rw [hkn] at h15;exact ⟨rfl,h15.from_ (ah.rfl_ (a:=w1))⟩
theorem tq (w0:World) (Z:Nat→Prop) (T g:Nat) (s:Rf) (out:List Msg) (w:World) (h:aQ w0 Z w T g ⟨s,out⟩) (tag:Nat→Nat) (a:Ra) (O:Option Addr) (oc:Nat) (L:List Msg) (hs:gn w Z T g tag ⟨s,out⟩ a O oc L) (hF:RfF s) (hr:s.role=2) :
 Rt prog 74 [.pointer (some ⟨g,0,none⟩)] w (fun v w'=>v=.tuple #[]∧aQ w0 Z w' T g ⟨ck s,out⟩∧∃ tag',gn w' Z T g tag' ⟨ck s,out⟩ a O oc L):=by
 obtain ⟨E,Ec,V,Vc,X,Xc,M,Mc,Sn,Sc,Q,Qc,LL⟩:=a;have hb:Blk w g T (rfV s (⟨E,Ec,V,Vc,X,Xc,M,Mc,Sn,Sc,Q,Qc,LL⟩:Ra)++[Value.slice O L.length oc]).toArray:=hs.b
 have hll:L.length=out.length:=by
  have h9:=congrArg List.length hs.m.l;rw [List.length_map] at h9;exact h9
 have hbl:=hF.last;have hlb:df s.b s.es=a_ s:=rfl;have he:cz w (.slice E s.es.length Ec) s.es:=hs.f.rd.e;have hnn:=hF.n;have hid:=hF.i;have hzw:=h.zw;obtain ⟨k,hk⟩:∃ k:Nat,s.id=(k:Int)+1:=⟨(s.id-1).toNat,by omega⟩;have hMl:s.mtch.length=s.nodes.toNat:=by rw [hF.ma.1,gx hr]
 have hkM:k<s.mtch.length:=by omega
 obtain ⟨gM,rfl⟩:∃ q,M=some ⟨q,0,none⟩:=eK (n:=s.mtch.length) (hs.f.m (by decide)).1 (by omega);have hMo:w.ownsRow 0 3 1 (.slice (some ⟨gM,0,none⟩) s.mtch.length Mc) s.mtch.length (s.mtch.map iV):=(hs.f.m (by decide)).1;have hMc:=gu (l:=s.mtch) hMo k hkM;have hFs:=hF.settle hr;have hp1:dc s.mtch s.id (a_ s)=s.mtch.set k (a_ s):=by unfold dc;rw [show (s.id-1).toNat=k by omega]
 have hfit:Fit (dc s.mtch s.id (a_ s)):=⟨by rw [eD];omega,by rw [eD];omega,fun x hx=>(hFs.ma.2 x hx).1⟩;have hmed:0≤med (dc s.mtch s.id (a_ s))∧med (dc s.mtch s.id (a_ s))≤a_ s:=hFs.ma.2 _ (lZ hfit.1);have hco:=hF.co;refine enter (n:=65) Tryz.func74 rfl rfl rfl (ak (af (mvp rfl (ay o3 (rN T g s _ _ _ (hb.from_ ah.rfl_) (he.from_ ah.rfl_) hF.lg) ?_))));rintro v9 w1 ⟨rfl,E9⟩;refine mvt rfl (aa (aZ rfl rfl) (aa (aZ rfl rfl) (asi rfl (asi rfl (aj (ag (ak ?_)))))));apply bQ 12 [(12,eqp _),(13,eqp _),(14,eqp _),(15,eqp _),(16,eqp _),(17,eqp _),(18,eqp _),(19,eqp _),(20,eqp _),(21,eqp _),(22,eqp (.int .i64 (k:Nat))),(23,eqp _)] (by repeat first | exact cB | refine cA ?_ | refine bW ?_) (by kernel_rfl) (by kernel_rfl) ⟨aq _,aq _,aq _,aq _,aq _,aq _,aq _,aq _,aq _,aq _,aq _,aq _,trivial⟩
 case hop=>
  constructor
  ·rintro-w3 D3;exact au (aH (v:=.pointer _) rfl) rfl
  constructor
  ·rintro-w4 D4;rintro _ rfl;exact au (av rfl) rfl
  constructor
  ·rintro-w5 D5;rintro _ rfl;exact au (ab aJ rfl) rfl
  constructor
  ·rintro-w6 D6;rintro _ rfl;exact au (ab cu rfl) rfl
  constructor
  ·rintro-w7 D7;rintro _ rfl;exact au (ar bc rfl (by exact (show _=some (Value.slice (some ⟨gM,0,none⟩) s.mtch.length Mc) from ct (hb.from_ ((ah.rfl_.next E9).next D7)) 16 rfl))) rfl
  constructor
  ·rintro-w8 D8;exact au (aH (v:=.pointer _) rfl) rfl
  constructor
  ·rintro-w9 D9;rintro _ rfl;exact au (av rfl) rfl
  constructor
  ·rintro-w10 D10;rintro _ rfl;exact au (ab aJ rfl) rfl
  constructor
  ·rintro-w11 D11;rintro _ rfl;exact au (ab bZ rfl) rfl
  constructor
  ·rintro-w12 D12;rintro _ rfl;exact au (ar ao rfl (by exact (show _=some (Value.int .i64 s.id) from ct (hb.from_ ((ah.rfl_.next E9).next D12)) 0 rfl))) rfl
  constructor
  ·rintro-w13 D13;rintro _ rfl;exact au (fT (ef rfl rfl (by omega)) (br (by omega))) rfl
  constructor
  ·rintro-w14 D14;exact au (aH (v:=.int _ _) rfl) rfl
  exact trivial
 case hend=>
  intro w15 D15;rintro _ rfl _ rfl _ rfl _ rfl _ rfl _ rfl _ rfl _ rfl _ rfl _ rfl v22 rfl _ rfl;show St ..;refine aa (da bj rfl rfl (by omega)) ?_;have hB0:ah w w15:=((ah.rfl_.next E9).next D15);refine kP (xs:=s.mtch.map iV) bF rfl rfl rfl (hMo.kept_from ((ah.rfl_.next E9).next D15)) (by omega) ?_;intro w16 O0 P0
  have hMo1:(w16).ownsRow 0 3 1 (.slice (some ⟨gM,0,none⟩) (dc s.mtch s.id (a_ s)).length Mc) (dc s.mtch s.id (a_ s)).length ((dc s.mtch s.id (a_ s)).map iV):=by
   rw [eD,hp1,←tp];exact P0
  have hgM7:tag gM=3:=(hs.f.m (by decide)).2 gM rfl;have hC1:Chg (fun k=>tag k=3) w w16:=(ah.toChg hB0).only O0 hgM7
  have hb1:Blk w16 g T (rfV ({ s with mtch:=dc s.mtch s.id (a_ s) }:Rf) (⟨E,Ec,V,Vc,X,Xc,some ⟨gM,0,none⟩,Mc,Sn,Sc,Q,Qc,LL⟩:Ra)++[Value.slice O L.length oc]).toArray:=by
   have h9:=(hb.from_ hB0).only O0 (fun e=>by have:=hs.gc;rw [e,hgM7] at this;cases this)
   have e9:rfV ({ s with mtch:=dc s.mtch s.id (a_ s) }:Rf) (⟨E,Ec,V,Vc,X,Xc,some ⟨gM,0,none⟩,Mc,Sn,Sc,Q,Qc,LL⟩:Ra)=rfV s (⟨E,Ec,V,Vc,X,Xc,some ⟨gM,0,none⟩,Mc,Sn,Sc,Q,Qc,LL⟩:Ra):=by
    unfold rfV;simp only [eD]
   rw [e9];exact h9
  have hf1:=(hs.f.but hC1).mtch (l:=dc s.mtch s.id (a_ s)) rfl hMo1 (fun q hq=>by cases hq;rw [cQ (dt hMo _ rfl)];exact hgM7);obtain ⟨hs1,h1⟩:=h.put hs hC1 (.inl (by decide)) hf1 (Chg.rfl_ (U:=fun k=>k=g)) hb1;have he1:cz w16 (.slice E s.es.length Ec) s.es:=hs1.f.rd.e;refine aj (ag (ak (af (mvp rfl (aa (av rfl) (aa (ab aJ rfl) (aa (ab cu rfl) (aa (ar bc rfl (by exact (show _=some (Value.slice (some ⟨gM,0,none⟩) (dc s.mtch s.id (a_ s)).length Mc) from ct (hb1.from_ (ah.rfl_ (a:=w16))) 16 rfl))) ?_))))))));refine ay sP (rQ (some ⟨gM,0,none⟩) Mc (dc s.mtch s.id (a_ s)) _ ((dE.own hMo1).2.from_ (ah.rfl_ (a:=w16))) hfit) ?_;rintro v30 w17 ⟨rfl,E30⟩;refine asi rfl (aj (ag (ak (af (mvp rfl (aa (av rfl) (aa (ab aJ rfl) (aa (ab bq rfl) (aa (aG (cs:=[.int .i64 s.b,.int .i64 s.t,.slice E s.es.length Ec]) dd cT rfl (js (hb1.from_ ((ah.rfl_ (a:=w16)).next E30)))) (mvi rfl (ay o4 (vK s (med (dc s.mtch s.id (a_ s))) E Ec _ (he1.from_ ((ah.rfl_ (a:=w16)).next E30)) hF.lg) ?_)))))))))));rintro v38 w18 ⟨⟨tt,bb,rfl,hib⟩,E38⟩;refine mvt rfl (aa (aZ rfl rfl) (aa (aZ rfl rfl) (asi rfl (asb rfl (aj (ag (ak (af (mvi rfl (mvp rfl (aa (av rfl) ?_)))))))))));refine aa (ab aJ rfl) (aa (ab dh rfl) (aa (ar ao rfl (by exact (show _=some (Value.int .i64 s.commit) from ct (hb1.from_ (((ah.rfl_ (a:=w16)).next E30).next E38)) 10 rfl))) ?_));refine aa (cn rfl rfl) (mvb rfl (AL (t:=48) rfl (fun Q19=>?_) (fun Q19=>?_)))
  ·refine ae rfl (mvb rfl (aa (aL (v:=.bool _) rfl rfl) (mvb rfl (aK (t:=51) rfl (fun Q20=>?_) (fun Q20=>?_)))))
   ·refine ae rfl (mvi rfl (ae rfl (mvp rfl (ae rfl (aa (av rfl) (ae rfl (aa (ab aJ rfl) (ae rfl ?_))))))));refine aa (ab bm rfl) (ae rfl (aa (ar ao rfl (by exact (show _=some (Value.int .i64 s.term) from ct (hb1.from_ (((ah.rfl_ (a:=w16)).next E30).next E38)) 3 rfl))) ?_));refine ae rfl (aa (bg rfl rfl) (aa (aL (v:=.bool _) rfl rfl) (aj (ag (Bk rfl (fun Q21=>?_) (fun Q21=>?_))))))
    ·refine af (mvp rfl (mvi rfl (aa (av rfl) (aa (ab aJ rfl) (aa (ab dh rfl) ?_)))));have hB3:ah _ w18:=(((ah.rfl_ (a:=w16)).next E30).next E38);refine cj (s':=({ s with mtch:=dc s.mtch s.id (a_ s),commit:=med (dc s.mtch s.id (a_ s)) }:Rf)) (a':=(⟨E,Ec,V,Vc,X,Xc,some ⟨gM,0,none⟩,Mc,Sn,Sc,Q,Qc,LL⟩:Ra)) (v:=.int _ _) bF rfl rfl rfl ((hb1.from_ (((ah.rfl_ (a:=w16)).next E30).next E38))) (by exact ⟨by decide,rfl⟩) ?_;intro w22 O5_0 P5_0;refine aj (cC (dV rfl ?_))
     first
      |(have e9:ck s=({ s with mtch:=dc s.mtch s.id (a_ s),commit:=med (dc s.mtch s.id (a_ s)) }:Rf):=by unfold ck;simp only;rw [if_pos ⟨by omega,by have h8:=(hib ⟨by omega,by omega⟩).2;omega⟩]
        rw [e9];obtain ⟨hs2,h2⟩:=h1.set (s':=({ s with mtch:=dc s.mtch s.id (a_ s),commit:=med (dc s.mtch s.id (a_ s)) }:Rf)) (a':=(⟨E,Ec,V,Vc,X,Xc,some ⟨gM,0,none⟩,Mc,Sn,Sc,Q,Qc,LL⟩:Ra)) hs1 ((ah.toChg hB3).only O5_0 rfl) (bh.same hs1.f rfl rfl rfl rfl rfl rfl) P5_0;exact ⟨rfl,h2,_,hs2⟩)
      |(have e9:ck s=({ s with mtch:=dc s.mtch s.id (a_ s) }:Rf):=by unfold ck;simp only;rw [if_neg (fun e=>by first | omega | (obtain ⟨h7,h8⟩:=hib ⟨by omega,by omega⟩;first | omega | simp_all))]
        rw [e9];exact ⟨rfl,h1.from_ (ah.rfl_ (a:=w22)),_,hs1.from_ (ah.rfl_ (a:=w22))⟩)
    refine aM (cC (dV rfl ?_))
    first
     |(have e9:ck s=({ s with mtch:=dc s.mtch s.id (a_ s),commit:=med (dc s.mtch s.id (a_ s)) }:Rf):=by unfold ck;simp only;rw [if_pos ⟨by omega,by have h8:=(hib ⟨by omega,by omega⟩).2;omega⟩]
       rw [e9];obtain ⟨hs2,h2⟩:=h1.set (s':=({ s with mtch:=dc s.mtch s.id (a_ s),commit:=med (dc s.mtch s.id (a_ s)) }:Rf)) (a':=(⟨E,Ec,V,Vc,X,Xc,some ⟨gM,0,none⟩,Mc,Sn,Sc,Q,Qc,LL⟩:Ra)) hs1 ((ah.toChg hB3).only O5_0 rfl) (bh.same hs1.f rfl rfl rfl rfl rfl rfl) P5_0;exact ⟨rfl,h2,_,hs2⟩)
     |(have e9:ck s=({ s with mtch:=dc s.mtch s.id (a_ s) }:Rf):=by unfold ck;simp only;rw [if_neg (fun e=>by first | omega | (obtain ⟨h7,h8⟩:=hib ⟨by omega,by omega⟩;first | omega | simp_all))]
       rw [e9];exact ⟨rfl,h1.from_ (((ah.rfl_ (a:=w16)).next E30).next E38),_,hs1.from_ (((ah.rfl_ (a:=w16)).next E30).next E38)⟩)
   refine an rfl rfl (an rfl rfl (an rfl rfl (an rfl rfl (an rfl rfl (an rfl rfl (an rfl rfl (aa (aw (v:=.bool _) rfl rfl) (aj (ag ?_)))))))));refine bd rfl (aM (cC (dV rfl ?_)))
   first
    |(have e9:ck s=({ s with mtch:=dc s.mtch s.id (a_ s),commit:=med (dc s.mtch s.id (a_ s)) }:Rf):=by unfold ck;simp only;rw [if_pos ⟨by omega,by have h8:=(hib ⟨by omega,by omega⟩).2;omega⟩]
      rw [e9];obtain ⟨hs2,h2⟩:=h1.set (s':=({ s with mtch:=dc s.mtch s.id (a_ s),commit:=med (dc s.mtch s.id (a_ s)) }:Rf)) (a':=(⟨E,Ec,V,Vc,X,Xc,some ⟨gM,0,none⟩,Mc,Sn,Sc,Q,Qc,LL⟩:Ra)) hs1 ((ah.toChg hB3).only O5_0 rfl) (bh.same hs1.f rfl rfl rfl rfl rfl rfl) P5_0;exact ⟨rfl,h2,_,hs2⟩)
    |(have e9:ck s=({ s with mtch:=dc s.mtch s.id (a_ s) }:Rf):=by unfold ck;simp only;rw [if_neg (fun e=>by first | omega | (obtain ⟨h7,h8⟩:=hib ⟨by omega,by omega⟩;first | omega | simp_all))]
      rw [e9];exact ⟨rfl,h1.from_ (((ah.rfl_ (a:=w16)).next E30).next E38),_,hs1.from_ (((ah.rfl_ (a:=w16)).next E30).next E38)⟩)
  refine an rfl rfl (aa (aw (v:=.bool _) rfl rfl) (mvb rfl (an rfl rfl (an rfl rfl (an rfl rfl (an rfl rfl (an rfl rfl (an rfl rfl ?_))))))));refine an rfl rfl (aa (aw (v:=.bool _) rfl rfl) (aj (ag (bd rfl (aM (cC (dV rfl ?_)))))))
  first
   |(have e9:ck s=({ s with mtch:=dc s.mtch s.id (a_ s),commit:=med (dc s.mtch s.id (a_ s)) }:Rf):=by unfold ck;simp only;rw [if_pos ⟨by omega,by have h8:=(hib ⟨by omega,by omega⟩).2;omega⟩]
     rw [e9];obtain ⟨hs2,h2⟩:=h1.set (s':=({ s with mtch:=dc s.mtch s.id (a_ s),commit:=med (dc s.mtch s.id (a_ s)) }:Rf)) (a':=(⟨E,Ec,V,Vc,X,Xc,some ⟨gM,0,none⟩,Mc,Sn,Sc,Q,Qc,LL⟩:Ra)) hs1 ((ah.toChg hB3).only O5_0 rfl) (bh.same hs1.f rfl rfl rfl rfl rfl rfl) P5_0;exact ⟨rfl,h2,_,hs2⟩)
   |(have e9:ck s=({ s with mtch:=dc s.mtch s.id (a_ s) }:Rf):=by unfold ck;simp only;rw [if_neg (fun e=>by first | omega | (obtain ⟨h7,h8⟩:=hib ⟨by omega,by omega⟩;first | omega | simp_all))]
     rw [e9];exact ⟨rfl,h1.from_ (((ah.rfl_ (a:=w16)).next E30).next E38),_,hs1.from_ (((ah.rfl_ (a:=w16)).next E30).next E38)⟩)
theorem jl:aO prog 124=true:=by kernel_rfl
theorem o0:∀ (a0:Int) (a1:Int),prog.built 99 [(0,.int .i64 a0),(1,.int .i64 a1)]=some #[.int .i64 a0,.int .i64 a1,.string ⟨#[]⟩]:=by intros;kernel_rfl
theorem uv:aO prog 67=true:=by kernel_rfl
theorem uu:aO prog 74=true:=by kernel_rfl
theorem qq (k:Nat) (v:Int):(List.replicate k v).map iV++[iV v]=(List.replicate (k+1) v).map iV:=by rw [List.replicate_succ',List.map_append];rfl
theorem ov {w:World} {A:Option Addr} {c k n:Nat} {v:Int} {xs:List Int} (h:w.ownsRow 0 3 1 (.slice A n c) n (xs.map iV)) (hx:xs=List.replicate k v) (hn:n=xs.length):w.ownsRow 0 3 1 (.slice A k c) k ((List.replicate k v).map iV):=by
 subst hx;rw [List.length_replicate] at hn;subst hn;exact h
theorem qz {w1 w:World} {A A':Option Addr} (hL:A'.map (·.block)=A.map (·.block)∨A'.map (·.block)=some w1.heap.size) (hz:w.heap.size≤w1.heap.size):∀ k,A'.map (·.block)=some k→A.map (·.block)=some k∨w.heap.size≤k:=fun k hk=>by
 rcases hL with e | e
 ·exact .inl (e ▸ hk)
 ·rw [e] at hk;cases hk;exact .inr hz
theorem vH (w0:World) (Z:Nat→Prop) (T g:Nat) (p:Sp) (w:World) (h:aQ w0 Z w T g p) (hF:RfF p.s) (hl:p.out.length≤700) :
 Rt prog 108 [.pointer (some ⟨g,0,none⟩)] w (fun v w'=>v=.tuple #[]∧aQ w0 Z w' T g (j5 p)):=by
 obtain ⟨s,out⟩:=p;obtain ⟨tag,a,O,oc,L,hs⟩:=h.ex;obtain ⟨E,Ec,V,Vc,X,Xc,M,Mc,Sn,Sc,Q,Qc,LL⟩:=a;have hb:Blk w g T (rfV s (⟨E,Ec,V,Vc,X,Xc,M,Mc,Sn,Sc,Q,Qc,LL⟩:Ra)++[Value.slice O L.length oc]).toArray:=hs.b
 have hll:L.length=out.length:=by
  have h9:=congrArg List.length hs.m.l;rw [List.length_map] at h9;exact h9
 have hF:RfF s:=hF;have hl:out.length≤700:=hl;have hbl:=hF.last;have hlb:df s.b s.es=a_ s:=rfl;have he:cz w (.slice E s.es.length Ec) s.es:=hs.f.rd.e;have hnn:=hF.n;have hid:=hF.i;have hzw:=h.zw;obtain ⟨n,hn0⟩:∃ n,n=s.nodes.toNat:=⟨_,rfl⟩;have hn:s.nodes=((n:Nat):Int):=by omega
 have hcell:∀ {w1:World} {q:Sp},aQ w0 Z w1 T g q→q.s.nodes=s.nodes→∀ w9,ah w1 w9→w9.cell? ⟨g,1,none⟩=some (.int .i64 (n:Nat)):=fun {w1 q} hq he w9 h9=>by
  obtain ⟨tg,a,O,oc,L,hs⟩:=hq.ex;have h1:=ct (hs.b.from_ h9) 1 rfl;rw [he,hn] at h1;exact h1
 refine enter (n:=117) Tryz.func108 rfl rfl rfl (ak (af (mvp rfl (ay o3 (rN T g s _ _ _ (hb.from_ ah.rfl_) (he.from_ ah.rfl_) hF.lg) ?_))));rintro v7 w1 ⟨rfl,E7⟩;refine mvt rfl (aa (aZ rfl rfl) (aa (aZ rfl rfl) (asi rfl (asi rfl (aj (ag (ak (ak (af (mvp rfl (aa (av rfl) (aa (ab aJ rfl) ?_))))))))))));refine aa (ab bq rfl) (aa (ab cW rfl) (aa (ar cI rfl (by exact (show _=some (Value.slice E s.es.length Ec) from ct (hb.from_ (ah.rfl_.next E7)) 8 rfl))) ?_));refine aa (bH cU rfl) (aa (bg rfl rfl) (mvb rfl (AL (t:=18) rfl (fun Q2=>?_) (fun Q2=>?_))))
 ·refine an rfl rfl (an rfl rfl (aa (aL (v:=.bool _) rfl rfl) (aj (ag (aS rfl (ak (af (mvp rfl (mvp rfl (aa (av rfl) ?_))))))))));refine aa (ab aJ rfl) (aa (ab bm rfl) (aa (ar ao rfl (by exact (show _=some (Value.int .i64 s.term) from ct (hb.from_ (ah.rfl_.next E7)) 3 rfl))) ?_));refine ay jl (mf w0 Z T g ⟨s,out⟩ _ (h.from_ (ah.rfl_.next E7)) s.term) ?_;rintro v28 w3 ⟨rfl,h28⟩;refine aj (ag (aB (aD (dV rfl ?_))))
  have h8t:fA s=true:=by
   unfold fA;simp only [Bool.or_eq_true,decide_eq_true_eq];omega
  unfold j5;rw [if_pos h8t];exact ⟨rfl,h28.from_ (ah.rfl_ (a:=w3))⟩
 refine ae rfl (mvi rfl (ae rfl (aa (bg rfl rfl) (aa (aw (v:=.bool _) rfl rfl) (aj (ag (Bk rfl (fun Q4=>?_) (fun Q4=>?_))))))))
 ·have h8t:fA s=true:=by
   unfold fA;simp only [Bool.or_eq_true,decide_eq_true_eq];omega
  exfalso;omega
 have h8:fA s=false:=by
  unfold fA;simp only [Bool.or_eq_false_iff,decide_eq_false_iff_not];omega
 refine aM (ag (ak (af (mvp rfl (ay o5 (sr w0 Z T g ⟨s,out⟩ _ (h.from_ (ah.rfl_.next E7))) ?_)))));rintro v30 w6 ⟨rfl,h4⟩;obtain ⟨tag4,a4,O4,oc4,L4,hs4⟩:=h4.ex;refine aj (ag (ak (af (mvp rfl (aa (av rfl) (aa (ab aJ rfl) (aa (ab cG rfl) ?_)))))));have hB4:ah _ w6:=(ah.rfl_ (a:=w6));refine cj (s':=({ dA s with role:=2 }:Rf)) (a':=a4) (v:=.int _ _) bF rfl rfl rfl ((hs4.b.from_ (ah.rfl_ (a:=w6)))) (by exact ⟨by decide,rfl⟩) ?_;intro w7 O4_0 P4_0;have hC4:Chg (fun k=>k=g) _ w7:=(ah.toChg hB4).only O4_0 rfl;refine aj (ag (ak (af (mvp rfl (mvp rfl (aa (av rfl) (aa (ab aJ rfl) (aa (ab bZ rfl) (aa (ar ao rfl (by exact (show _=some (Value.int .i64 s.id) from ct (P4_0.from_ (ah.rfl_ (a:=w7))) 0 rfl))) ?_)))))))));refine aa (av rfl) (aa (ab aJ rfl) (aa (ab ek rfl) ?_));have hB5:ah _ w7:=(ah.rfl_ (a:=w7));refine cj (s':=({ dA s with role:=2,leader:=s.id }:Rf)) (a':=a4) (v:=.int _ _) bF rfl rfl rfl ((P4_0.from_ (ah.rfl_ (a:=w7)))) (by exact ⟨by decide,rfl⟩) ?_;intro w8 O5_0 P5_0;have hC5:=(hC4.next (ah.toChg hB5)).only O5_0 rfl;refine aj (ag (ak (af (mvp rfl (aa (av rfl) (aa (ab aJ rfl) (aa (ab dq rfl) ?_)))))));have hB6:ah _ w8:=(ah.rfl_ (a:=w8));refine cj (s':=({ dA s with role:=2,leader:=s.id,elapsed:=0 }:Rf)) (a':=a4) (v:=.int _ _) bF rfl rfl rfl ((P5_0.from_ (ah.rfl_ (a:=w8)))) (by exact ⟨by decide,rfl⟩) ?_;intro w9 O6_0 P6_0;have hC6:=(hC5.next (ah.toChg hB6)).only O6_0 rfl;have h6:=(h4.set (s':=({ dA s with role:=2,leader:=s.id,elapsed:=0 }:Rf)) (a':=a4) hs4 hC6 (bh.same hs4.f rfl rfl rfl rfl rfl rfl) P6_0).2;refine aj (ag (ak (ak (af (asi rfl (aj (ag (aU (cM (G:=Nat) [48,49,50,51,52,53,54,55,56,57,58,59,60,61,62,63,64,65,66,67,68,69,70,71,72,73,74,75,76,77,78,79,80,81,82,83,84,85,86,87,88,89,90,91] (fun k=>[(4,.int .i64 (k:Nat))]) (fun k w'=>k≤n∧aQ w0 Z w' T g (⟨{ dA s with role:=2,leader:=s.id,elapsed:=0,next:=List.replicate k (a_ s+1),mtch:=List.replicate k 0,sent:=List.replicate k 0 },out⟩:Sp)∧(∀ w9,ah w' w9→w9.cell? ⟨g,1,none⟩=some (.int .i64 (n:Nat)))) (fun k=>n-k) (0) ⟨rfl,trivial⟩ ?_ ?_)))))))))
 ·exact ⟨Nat.zero_le _,h6.from_ (ah.rfl_ (a:=w9)),hcell h6 rfl⟩
 rintro k ρ10 w10 ⟨hk,h10,hn8⟩;refine ak (ak (af (mvi rfl (mvp rfl (aa (av rfl) (aa (ab aJ rfl) (aa (ab bJ rfl) (aa (ar ao rfl (by exact hn8 _ ah.rfl_)) ?_))))))));refine aa (bM rfl rfl) (aj (ag (Bk rfl (fun Q11=>?_) (fun Q11=>?_))))
 ·refine aM (ag (ak (aU (ak (af ?_)))));obtain ⟨tg10,a10,O10,oc10,L10,hs10⟩:=h10.ex
  have hw10:∀ w9,ah w10 w9→w9.cell? ⟨g,15,none⟩=some (.slice a10.X k a10.Xc):=fun w9 hF9=>by
   have h9:=ct (hs10.b.from_ hF9) 15 rfl;rw [show ((⟨{ dA s with role:=2,leader:=s.id,elapsed:=0,next:=List.replicate k (a_ s+1),mtch:=List.replicate k 0,sent:=List.replicate k 0 },out⟩:Sp)).s.next.length=k from List.length_replicate] at h9;exact h9
  have hr10:=ov (k:=k) (hs10.f.x (by decide)).1 rfl rfl;refine mvp rfl (mvp rfl (aa (av rfl) (aa (ab aJ rfl) (aa (ab bY rfl) (aa (ar bc rfl (by exact hw10 _ ah.rfl_)) ?_)))));refine mvi rfl (aa (b0 rfl rfl (by omega)) (eO (v:=.int _ _) bB rfl rfl rfl ?_));intro b65 w12 E65 hb65 hk65;have hB10:ah _ w12:=(ah.rfl_.next E65);refine fW (news:=[iV (a_ s+1)]) bB rfl (by decide) rfl (hr10.kept_from (ah.rfl_.next E65)) (Nat.zero_le _) rfl rfl ⟨b65,0,rfl,hk65.whole⟩ (by simp [iV,Value.oneCell']) (by omega) (by omega) ?_;intro A66 c66 w13 ho66 hg66 hL66;rw [qq] at ho66;have hC10:Chg (fun q=>tg10 q=2) _ w13:=(ah.toChg hB10).next (Chg.of_grown hg66 fun q hq=>(hs10.f.x (by decide)).2 q hq);have hf10:=cD.next (bh.but (c:=2) hs10.f hC10) (l:=List.replicate (k+1) (a_ s+1)) List.length_replicate.symm ho66 ((hs10.f.x (by decide)).2.new (dt (hs10.f.x (by decide)).1) (qz hL66 hB10.size));have hb10:=hs10.b.chg hC10 (fun e=>by have h8:=hs10.gc;rw [e] at h8;cases h8);refine aa (av rfl) (aa (ab aJ rfl) (aa (ab bY rfl) ?_));have hD10:ah _ w13:=(ah.rfl_ (a:=w13));refine cj (s':=(⟨{ dA s with role:=2,leader:=s.id,elapsed:=0,next:=List.replicate (k+1) (a_ s+1),mtch:=List.replicate k 0,sent:=List.replicate k 0 },out⟩:Sp).s) (a':={ a10 with X:=A66,Xc:=c66 }) cy rfl rfl rfl (hb10.from_ (ah.rfl_ (a:=w13))) ⟨by decide,by unfold rfV;simp only [List.length_replicate];rfl⟩ ?_;intro w14 Os10 Ps10;have h11:=(h10.put (s':=(⟨{ dA s with role:=2,leader:=s.id,elapsed:=0,next:=List.replicate (k+1) (a_ s+1),mtch:=List.replicate k 0,sent:=List.replicate k 0 },out⟩:Sp).s) (a':={ a10 with X:=A66,Xc:=c66 }) hs10 hC10 (.inl (by decide)) hf10 ((ah.toChg hD10).only Os10 rfl) Ps10).2;refine aj (ag (ak (af ?_)));obtain ⟨tg11,a11,O11,oc11,L11,hs11⟩:=h11.ex
  have hw11:∀ w9,ah w14 w9→w9.cell? ⟨g,16,none⟩=some (.slice a11.M k a11.Mc):=fun w9 hF9=>by
   have h9:=ct (hs11.b.from_ hF9) 16 rfl;rw [show ((⟨{ dA s with role:=2,leader:=s.id,elapsed:=0,next:=List.replicate (k+1) (a_ s+1),mtch:=List.replicate k 0,sent:=List.replicate k 0 },out⟩:Sp)).s.mtch.length=k from List.length_replicate] at h9;exact h9
  have hr11:=ov (k:=k) (hs11.f.m (by decide)).1 rfl rfl;refine mvp rfl (mvp rfl (aa (av rfl) (aa (ab aJ rfl) (aa (ab cu rfl) (aa (ar bc rfl (by exact hw11 _ (ah.rfl_ (a:=w14)))) ?_)))));refine eO (v:=.int _ _) bB rfl rfl rfl ?_;intro b76 w15 E76 hb76 hk76;have hB11:ah _ w15:=((ah.rfl_ (a:=w14)).next E76);refine fW (news:=[iV 0]) bB rfl (by decide) rfl (hr11.kept_from ((ah.rfl_ (a:=w14)).next E76)) (Nat.zero_le _) rfl rfl ⟨b76,0,rfl,hk76.whole⟩ (by simp [iV,Value.oneCell']) (by omega) (by omega) ?_;intro A77 c77 w16 ho77 hg77 hL77;rw [qq] at ho77;have hC11:Chg (fun q=>tg11 q=3) _ w16:=(ah.toChg hB11).next (Chg.of_grown hg77 fun q hq=>(hs11.f.m (by decide)).2 q hq);have hf11:=cD.mtch (bh.but (c:=3) hs11.f hC11) (l:=List.replicate (k+1) 0) List.length_replicate.symm ho77 ((hs11.f.m (by decide)).2.new (dt (hs11.f.m (by decide)).1) (qz hL77 hB11.size));have hb11:=hs11.b.chg hC11 (fun e=>by have h8:=hs11.gc;rw [e] at h8;cases h8);refine aa (av rfl) (aa (ab aJ rfl) (aa (ab cu rfl) ?_));have hD11:ah _ w16:=(ah.rfl_ (a:=w16));refine cj (s':=(⟨{ dA s with role:=2,leader:=s.id,elapsed:=0,next:=List.replicate (k+1) (a_ s+1),mtch:=List.replicate (k+1) 0,sent:=List.replicate k 0 },out⟩:Sp).s) (a':={ a11 with M:=A77,Mc:=c77 }) cy rfl rfl rfl (hb11.from_ (ah.rfl_ (a:=w16))) ⟨by decide,by unfold rfV;simp only [List.length_replicate];rfl⟩ ?_;intro w17 Os11 Ps11;have h12:=(h11.put (s':=(⟨{ dA s with role:=2,leader:=s.id,elapsed:=0,next:=List.replicate (k+1) (a_ s+1),mtch:=List.replicate (k+1) 0,sent:=List.replicate k 0 },out⟩:Sp).s) (a':={ a11 with M:=A77,Mc:=c77 }) hs11 hC11 (.inl (by decide)) hf11 ((ah.toChg hD11).only Os11 rfl) Ps11).2;refine aj (ag (af ?_));obtain ⟨tg12,a12,O12,oc12,L12,hs12⟩:=h12.ex
  have hw12:∀ w9,ah w17 w9→w9.cell? ⟨g,17,none⟩=some (.slice a12.S k a12.Sc):=fun w9 hF9=>by
   have h9:=ct (hs12.b.from_ hF9) 17 rfl;rw [show ((⟨{ dA s with role:=2,leader:=s.id,elapsed:=0,next:=List.replicate (k+1) (a_ s+1),mtch:=List.replicate (k+1) 0,sent:=List.replicate k 0 },out⟩:Sp)).s.sent.length=k from List.length_replicate] at h9;exact h9
  have hr12:=ov (k:=k) (hs12.f.n (by decide)).1 rfl rfl;refine mvp rfl (mvp rfl (aa (av rfl) (aa (ab aJ rfl) (aa (ab cN rfl) (aa (ar bc rfl (by exact hw12 _ (ah.rfl_ (a:=w17)))) ?_)))));refine eO (v:=.int _ _) bB rfl rfl rfl ?_;intro b87 w18 E87 hb87 hk87;have hB12:ah _ w18:=((ah.rfl_ (a:=w17)).next E87);refine fW (news:=[iV 0]) bB rfl (by decide) rfl (hr12.kept_from ((ah.rfl_ (a:=w17)).next E87)) (Nat.zero_le _) rfl rfl ⟨b87,0,rfl,hk87.whole⟩ (by simp [iV,Value.oneCell']) (by omega) (by omega) ?_;intro A88 c88 w19 ho88 hg88 hL88;rw [qq] at ho88;have hC12:Chg (fun q=>tg12 q=4) _ w19:=(ah.toChg hB12).next (Chg.of_grown hg88 fun q hq=>(hs12.f.n (by decide)).2 q hq);have hf12:=cD.sent (bh.but (c:=4) hs12.f hC12) (l:=List.replicate (k+1) 0) List.length_replicate.symm ho88 ((hs12.f.n (by decide)).2.new (dt (hs12.f.n (by decide)).1) (qz hL88 hB12.size));have hb12:=hs12.b.chg hC12 (fun e=>by have h8:=hs12.gc;rw [e] at h8;cases h8);refine aa (av rfl) (aa (ab aJ rfl) (aa (ab cN rfl) ?_));have hD12:ah _ w19:=(ah.rfl_ (a:=w19));refine cj (s':=(⟨{ dA s with role:=2,leader:=s.id,elapsed:=0,next:=List.replicate (k+1) (a_ s+1),mtch:=List.replicate (k+1) 0,sent:=List.replicate (k+1) 0 },out⟩:Sp).s) (a':={ a12 with S:=A88,Sc:=c88 }) cy rfl rfl rfl (hb12.from_ (ah.rfl_ (a:=w19))) ⟨by decide,by unfold rfV;simp only [List.length_replicate];rfl⟩ ?_;intro w20 Os12 Ps12;have h13:=(h12.put (s':=(⟨{ dA s with role:=2,leader:=s.id,elapsed:=0,next:=List.replicate (k+1) (a_ s+1),mtch:=List.replicate (k+1) 0,sent:=List.replicate (k+1) 0 },out⟩:Sp).s) (a':={ a12 with S:=A88,Sc:=c88 }) hs12 hC12 (.inl (by decide)) hf12 ((ah.toChg hD12).only Os12 rfl) Ps12).2;refine aj (bo (ag (af (mvi rfl (aa (cl (b:=1) rfl rfl (by omega)) (asi rfl (aj ?_)))))));refine cp (k+1) ⟨(by first | rfl | (refine br ?_;omega)),trivial⟩ (by (iterate 90 refine bA rfl ?_);exact bN) ⟨?_,?_⟩
  ·exact ⟨by omega,h13.from_ (ah.rfl_ (a:=w20)),fun w9 h9=>hcell h13 rfl _ (((ah.rfl_ (a:=w20))).next h9)⟩
  ·omega
 have hkn:k=n:=by omega
 rw [hkn,hn0] at h10;have h10:aQ w0 Z _ T g ⟨(c_ s),out⟩:=h10;obtain ⟨tag9,a9,O9,oc9,L9,hs9⟩:=h10.ex;have hr13:(w10).ownsRow 0 99 3 (.slice a9.E s.es.length a9.Ec) s.es.length (dF s.es):=(hs9.f.e (by decide)).1;refine b_ (bf (bf (bL (ag (ak ?_)))));apply qH 17 16 [107] [(92,eqp _),(93,eqp _),(94,eqp _),(95,eqp _),(96,eqp _),(97,eqp _),(98,eqp (.slice a9.E s.es.length a9.Ec)),(99,eqp _),(100,eqp _),(101,eqp _),(102,eqp _),(103,eqp _),(104,eqp _),(105,eqp (.int .i64 s.term)),(106,eqp (.agg #[.int .i64 (a_ s+1),.int .i64 s.term,.string ⟨#[]⟩])),(107,fun v w'=>∃ q,v=.slice (some ⟨q,0,none⟩) 1 1∧Blk w' q 99 #[.int .i64 (a_ s+1),.int .i64 s.term,.string ⟨#[]⟩]),(108,fun (v:Value) (w':World)=>∃ (A2:Option Addr) (c2:Nat),v=Value.slice A2 (s.es.length+1) c2∧w'.ownsRow 0 99 3 (.slice A2 (s.es.length+1) c2) (s.es.length+1) (dF (ec (c_ s) ⟨#[]⟩).es)∧(∀ k,A2.map (·.block)=some k→a9.E.map (·.block)=some k∨(w10).heap.size≤k))] (fun w'=>ah w10 w') (fun w'=>(w10).grownBy w' (a9.E.map (·.block))) (by repeat first | exact cB | refine cA ?_ | refine bW ?_) (by kernel_rfl) (by kernel_rfl) (by kernel_rfl) ⟨aq _,aq _,aq _,aq _,aq _,aq _,aq _,aq _,aq _,aq _,aq _,aq _,aq _,aq _,aq _,(fun _ _ _ hF ⟨q,h1,h2⟩=>⟨q,h1,h2.from_ hF⟩),(fun _ _ _ hF ⟨A2,c2,h1,h2,h3⟩=>⟨A2,c2,h1,h2.kept_from hF,h3⟩),trivial⟩ (ah.rfl_.d1) (ah.rfl_.d1.grown _) (fun _ _ hF h=>h.next hF) (fun _ _ hF h=>cY h (hF.grown _))
 case hop=>
  constructor
  ·rintro-w22 hG22;exact au (aH (v:=.pointer _) rfl) rfl
  constructor
  ·rintro-w23 hG23;exact au (aH (v:=.pointer _) rfl) rfl
  constructor
  ·rintro-w24 hG24;rintro _ rfl;exact au (av rfl) rfl
  constructor
  ·rintro-w25 D25;rintro _ rfl;exact au (ab aJ rfl) rfl
  constructor
  ·rintro-w26 D26;rintro _ rfl;exact au (ab bq rfl) rfl
  constructor
  ·rintro-w27 D27;rintro _ rfl;exact au (ab cW rfl) rfl
  constructor
  ·rintro-w28 D28;rintro _ rfl;exact au (ar cI rfl (show _=some (Value.slice a9.E s.es.length a9.Ec) from ct (hs9.b.from_ D28) 8 rfl)) rfl
  constructor
  ·rintro-w29 D29;exact au (aH (v:=.int _ _) rfl) rfl
  constructor
  ·rintro-w30 D30;rintro _ rfl;exact au (b0 rfl rfl (by omega)) rfl
  constructor
  ·rintro-w31 hG31;exact au (aH (v:=.pointer _) rfl) rfl
  constructor
  ·rintro-w32 hG32;rintro _ rfl;exact au (av rfl) rfl
  constructor
  ·rintro-w33 hG33;rintro _ rfl;exact au (ab aJ rfl) rfl
  constructor
  ·rintro-w34 D34;rintro _ rfl;exact au (ab bm rfl) rfl
  constructor
  ·rintro-w35 D35;rintro _ rfl;exact au (ar ao rfl (show _=some (Value.int .i64 s.term) from ct (hs9.b.from_ D35) 3 rfl)) rfl
  constructor
  ·rintro-w36 D36;rintro _ rfl v36_105 rfl;exact au (cV (l:=[(0,.tmp 100),(1,.tmp 105)]) (o0 _ _)) rfl
  constructor
  ·rintro-w37 D37;rintro v37_106 rfl;exact mJ (od (l:=[(0,.tmp 106)]) (cells:=#[.int .i64 (a_ s+1),.int .i64 s.term,.string ⟨#[]⟩]) f_ rfl rfl (by show Instr.fill _ _ [(0,Value.agg #[.int .i64 (a_ s+1),.int .i64 s.term,.string ⟨#[]⟩])]=_;kernel_rfl)) (ah.rfl_.new _) ⟨_,rfl,Blk.new _ _ _⟩
  constructor
  ·intro h;cases h
  exact trivial
 case hmu=>
  rintro w39 D39;rintro v39_98 rfl v39_107 ⟨q39,rfl,hq39⟩;show rf ..;refine lr (news:=[Value.int .i64 (a_ s+1),.int .i64 s.term,.string ⟨#[]⟩]) f_ rfl (by decide) rfl (hr13.kept_from D39) (Nat.zero_le _) rfl rfl ⟨_,_,rfl,hq39.whole⟩ (by simp [Value.oneCell']) (by omega) (by omega) ?_;intro A3 c3 w3 ho3 hg3 hl3;exact ⟨cY (D39.grown _) hg3,⟨A3,c3,rfl,by rw [show (ec (c_ s) ⟨#[]⟩).es=s.es++[⟨a_ s+1,s.term,⟨#[]⟩⟩] from rfl,kx];exact ho3,fun k hk=>(hl3 k hk).imp id fun e=>Nat.le_trans D39.size e⟩,fun t u ht h=>kr (by repeat first | exact trivial | refine ⟨.inl rfl,?_⟩ | refine ⟨.inr (fun _ h=>h),?_⟩) t u ht h⟩
 case hend=>
  rintro w40 hG40;rintro _ rfl _ rfl _ rfl _ rfl _ rfl _ rfl v98 rfl _ rfl _ rfl _ rfl _ rfl _ rfl _ rfl v105 rfl v106 rfl v107 _ v108 ⟨A108,c108,rfl,ho108,hL108⟩;show St ..;have hgD:=hG40;have hC9:Chg (fun q=>tag9 q=0) _ w40:=Chg.of_grown hgD (fun q hq=>(hs9.f.e (by decide)).2 q hq);have hb9:=hs9.b.chg hC9 (fun e=>by have h8:=hs9.gc;rw [e] at h8;cases h8);have hf9:=cD.log (bh.but (c:=0) hs9.f hC9) s.b s.t (l:=(ec (c_ s) ⟨#[]⟩).es) (by show _=(s.es++[_]).length;rw [List.length_append];rfl) ho108 ((hs9.f.e (by decide)).2.new (dt (hs9.f.e (by decide)).1) hL108);refine aa (av rfl) (aa (ab aJ rfl) (aa (ab bq rfl) (aa (ab cW rfl) ?_)));refine cj (s':=ec (c_ s) ⟨#[]⟩) (a':={ a9 with E:=A108,Ec:=c108 }) lA rfl rfl rfl hb9 ⟨by decide,by unfold rfV ec;simp only [List.length_append,List.length_singleton];rfl⟩ ?_;intro w41 O13 P13;have h9:=(h10.put (s':=ec (c_ s) ⟨#[]⟩) (a':={ a9 with E:=A108,Ec:=c108 }) hs9 hC9 (.inl (by decide)) hf9 (O13.toChg rfl) P13).2;refine aj (ag (ak (af (mvp rfl (ay uv (yS w0 Z T g ⟨ec (c_ s) ⟨#[]⟩,out⟩ _ (h9.from_ (ah.rfl_ (a:=w41))) (hF.lead h8) rfl (show out.length≤800 by omega)) ?_)))));rintro v114 w42 ⟨rfl,h14⟩;refine aj (ag (af (mvp rfl ?_)))
  have h15:aQ w0 Z w42 T g ⟨ec (c_ s) ⟨#[]⟩,((⟨ec (c_ s) ⟨#[]⟩,out⟩:Sp).all).out⟩:=by
   have e9:(⟨ec (c_ s) ⟨#[]⟩,out⟩:Sp).all=⟨ec (c_ s) ⟨#[]⟩,((⟨ec (c_ s) ⟨#[]⟩,out⟩:Sp).all).out⟩:=by rw [kA]
   rw [←e9];exact h14.from_ (ah.rfl_ (a:=w42))
  obtain ⟨tag15,a15,O15,oc15,L15,hs15⟩:=h15.ex;refine ay uu (tq w0 Z T g (ec (c_ s) ⟨#[]⟩) ((⟨ec (c_ s) ⟨#[]⟩,out⟩:Sp).all).out _ (h15.from_ (ah.rfl_ (a:=w42))) _ _ _ _ _ (hs15.from_ (ah.rfl_ (a:=w42))) (hF.lead h8) rfl) ?_;rintro v116 w43 ⟨rfl,h16,_⟩;refine aj (cC (dV rfl ?_));unfold j5;rw [if_neg (by show ¬ fA s=true;rw [h8];decide)];refine ⟨rfl,?_⟩;show aQ w0 Z _ T g ⟨ck (Sp.all ⟨ec (c_ s) ⟨#[]⟩,out⟩).s,(Sp.all ⟨ec (c_ s) ⟨#[]⟩,out⟩).out⟩;rw [show (Sp.all ⟨ec (c_ s) ⟨#[]⟩,out⟩).s=ec (c_ s) ⟨#[]⟩ by rw [kA]];exact h16.from_ (ah.rfl_ (a:=w43))
theorem sY:prog.underlying 26=some (.slice 3):=by kernel_rfl
theorem jo:jF prog 27=some (54,4,48,(.agg #[.int .i64 0,.int .i64 0,.int .i64 0,.slice none 0 0])):=by kernel_rfl
theorem sX:prog.underlying 27=some (.slice 54):=by kernel_rfl
theorem s3:jc prog 91=some true:=by kernel_rfl
theorem kK:dZ prog 91=some 22:=by kernel_rfl
theorem ny:j4 prog 91=some (.agg #[.int .i64 0,.int .i64 0,.int .i64 0,.int .i64 0,.int .i64 0,.int .i64 0,.int .i64 0,.int .i64 0,.slice none 0 0,.string ⟨#[]⟩,.int .i64 0,.int .i64 0,.int .i64 0,.int .u64 0,.slice none 0 0,.slice none 0 0,.slice none 0 0,.slice none 0 0,.int .i64 0,.slice none 0 0,.string ⟨#[]⟩,.int .i64 0]):=by kernel_rfl
theorem rb:aO prog 120=true:=by kernel_rfl
theorem gD:aO prog 136=true:=by kernel_rfl
theorem ra:aO prog 137=true:=by kernel_rfl
theorem pw:∀ (a0:Int) (a1:Int) (a2:Int) (a3:Int) (a4:Int) (a5:Int) (a6:Int) (a7:Int) (a8:Option Addr) (a9 a10:Nat) (a11:ByteArray) (a12:Int) (a13:Int) (a14:Int) (a15:Int) (a16:Option Addr) (a17 a18:Nat) (a19:Option Addr) (a20 a21:Nat) (a22:Option Addr) (a23 a24:Nat) (a25:Option Addr) (a26 a27:Nat) (a28:Int) (a29:Option Addr) (a30 a31:Nat) (a32:ByteArray) (a33:Int),prog.built 91 [(0,.agg #[.int .i64 a0,.int .i64 a1,.int .i64 a2,.int .i64 a3,.int .i64 a4,.int .i64 a5,.int .i64 a6,.int .i64 a7,.slice a8 a9 a10,.string a11,.int .i64 a12,.int .i64 a13,.int .i64 a14,.int .u64 a15,.slice a16 a17 a18,.slice a19 a20 a21,.slice a22 a23 a24,.slice a25 a26 a27,.int .i64 a28,.slice a29 a30 a31,.string a32,.int .i64 a33])]=some #[.int .i64 a0,.int .i64 a1,.int .i64 a2,.int .i64 a3,.int .i64 a4,.int .i64 a5,.int .i64 a6,.int .i64 a7,.slice a8 a9 a10,.string a11,.int .i64 a12,.int .i64 a13,.int .i64 a14,.int .u64 a15,.slice a16 a17 a18,.slice a19 a20 a21,.slice a22 a23 a24,.slice a25 a26 a27,.int .i64 a28,.slice a29 a30 a31,.string a32,.int .i64 a33]:=by intros;kernel_rfl
theorem nz:aO prog 95=true:=by kernel_rfl
theorem sZ:aO prog 96=true:=by kernel_rfl
theorem pt:∀ (a0:Int) (a1:Int) (a2:Int) (a3:Int) (a4:Int) (a5:Int) (a6:Int) (a7:Int) (a8:Option Addr) (a9 a10:Nat) (a11:ByteArray) (a12:Int) (a13:Int) (a14:Int) (a15:Int) (a16:Option Addr) (a17 a18:Nat) (a19:Option Addr) (a20 a21:Nat) (a22:Option Addr) (a23 a24:Nat) (a25:Option Addr) (a26 a27:Nat) (a28:Int) (a29:Option Addr) (a30 a31:Nat) (a32:ByteArray) (a33:Int),prog.built 96 [(0,.agg #[.int .i64 a0,.int .i64 a1,.int .i64 a2,.int .i64 a3,.int .i64 a4,.int .i64 a5,.int .i64 a6,.int .i64 a7,.slice a8 a9 a10,.string a11,.int .i64 a12,.int .i64 a13,.int .i64 a14,.int .u64 a15,.slice a16 a17 a18,.slice a19 a20 a21,.slice a22 a23 a24,.slice a25 a26 a27,.int .i64 a28,.slice a29 a30 a31,.string a32,.int .i64 a33])]=some #[.int .i64 a0,.int .i64 a1,.int .i64 a2,.int .i64 a3,.int .i64 a4,.int .i64 a5,.int .i64 a6,.int .i64 a7,.slice a8 a9 a10,.string a11,.int .i64 a12,.int .i64 a13,.int .i64 a14,.int .u64 a15,.slice a16 a17 a18,.slice a19 a20 a21,.slice a22 a23 a24,.slice a25 a26 a27,.int .i64 a28,.slice a29 a30 a31,.string a32,.int .i64 a33,.slice none 0 0]:=by intros;kernel_rfl
theorem et (A:Option Addr) (c n:Nat) (xs:List Value) (w:World) (hx:xs.length=n*1) (hr:0<n→∃ b o,A=some ⟨b,o,none⟩∧w.rangeAt b o xs) (hn0:A=none→n=0∧c=0) (h1:∀ u∈xs,u.oneCell'=true) (hl:n≤100000000000) :
 Rt prog 136 [.slice A n c] w (fun v w'=>(∃ A' c',v=.slice A' n c'∧w'.ownsRow w.heap.size 3 1 (.slice A' n c') n xs)∧ah w w'):=by
 refine enter (n:=8) Tryz.func136 rfl rfl rfl (ak (af (ass rfl (aj (ag (ak (ak (af (mvs rfl (aa (oe sY rfl rfl) (aj (ag (aR rfl (fun Q1=>?_) (fun Q1=>?_))))))))))))))
 ·(try first | (replace Q1 := dK Q1; trace "@MK N et:c4+ 1.1") | (replace Q1 := dL Q1; trace "@MK N et:c4+ 1.2"))
  (try first | (replace Q1 := jt Q1; trace "@MK N et:c4+ 2.1") | (replace Q1 := ju Q1; trace "@MK N et:c4+ 2.2") | (replace Q1 := eG Q1; trace "@MK N et:c4+ 2.3") | (replace Q1 := eH Q1; trace "@MK N et:c4+ 2.4") | (replace Q1 := dT_ Q1; trace "@MK N et:c4+ 2.5") | (replace Q1 := dF_ Q1; trace "@MK N et:c4+ 2.6"))
  obtain rfl:A=none:=Option.isNone_iff_eq_none.1 Q1;obtain ⟨rfl,rfl⟩:=hn0 rfl;obtain rfl:xs=[]:=List.eq_nil_of_length_eq_zero (by omega);refine ak (af (ass rfl (aj (ag (aB (aD (bn (v:=.slice _ _ _) rfl rfl (⟨⟨none,0,rfl,World.ownsRow_nil _ _ _ _⟩,ah.rfl_⟩))))))))
 (try first | (replace Q1 := dK Q1; trace "@MK N et:c4- 1.1") | (replace Q1 := dL Q1; trace "@MK N et:c4- 1.2"))
 (try first | (replace Q1 := jt Q1; trace "@MK N et:c4- 2.1") | (replace Q1 := ju Q1; trace "@MK N et:c4- 2.2") | (replace Q1 := eG Q1; trace "@MK N et:c4- 2.3") | (replace Q1 := eH Q1; trace "@MK N et:c4- 2.4") | (replace Q1 := dT_ Q1; trace "@MK N et:c4- 2.5") | (replace Q1 := dF_ Q1; trace "@MK N et:c4- 2.6"))
 have hA4:A=none→c=0:=fun h=>by rw [h] at Q1;cases Q1
 refine aM (ag (ak (af (uL bB _ (ah.rfl_.size) ?_))));intro b5 w2 E5 hb5 ho5;refine mvs rfl ?_;refine kQ (a0:=w) bB rfl (by decide) rfl ho5 (ah.rfl_.next E5) rfl hx (fun h=>(let ⟨b,o,hA,hc⟩:=hr h;⟨b,o,hA,eZ (ah.rfl_.next E5) hc⟩)) hA4 h1 (by omega) (by omega) ?_;intro A7 c7 w3 ho7 B7 hg7;refine ass rfl (aj (ag (aB (bn (v:=.slice _ _ _) rfl rfl (⟨⟨A7,c7,by rw [Nat.zero_add],by simpa using ho7⟩,B7⟩)))))
theorem er (A:Option Addr) (c n:Nat) (xs:List Value) (w:World) (hx:xs.length=n*4) (hr:0<n→∃ b o,A=some ⟨b,o,none⟩∧w.rangeAt b o xs) (hn0:A=none→n=0∧c=0) (h1:∀ u∈xs,u.oneCell'=true) (hl:n≤100000000000) :
 Rt prog 137 [.slice A n c] w (fun v w'=>(∃ A' c',v=.slice A' n c'∧w'.ownsRow w.heap.size 54 4 (.slice A' n c') n xs)∧ah w w'):=by
 refine enter (n:=8) Tryz.func137 rfl rfl rfl (ak (af (ass rfl (aj (ag (ak (ak (af (mvs rfl (aa (oe sX rfl rfl) (aj (ag (aR rfl (fun Q1=>?_) (fun Q1=>?_))))))))))))))
 ·(try first | (replace Q1 := dK Q1; trace "@MK N er:c4+ 1.1") | (replace Q1 := dL Q1; trace "@MK N er:c4+ 1.2"))
  (try first | (replace Q1 := jt Q1; trace "@MK N er:c4+ 2.1") | (replace Q1 := ju Q1; trace "@MK N er:c4+ 2.2") | (replace Q1 := eG Q1; trace "@MK N er:c4+ 2.3") | (replace Q1 := eH Q1; trace "@MK N er:c4+ 2.4") | (replace Q1 := dT_ Q1; trace "@MK N er:c4+ 2.5") | (replace Q1 := dF_ Q1; trace "@MK N er:c4+ 2.6"))
  obtain rfl:A=none:=Option.isNone_iff_eq_none.1 Q1;obtain ⟨rfl,rfl⟩:=hn0 rfl;obtain rfl:xs=[]:=List.eq_nil_of_length_eq_zero (by omega);refine ak (af (ass rfl (aj (ag (aB (aD (bn (v:=.slice _ _ _) rfl rfl (⟨⟨none,0,rfl,World.ownsRow_nil _ _ _ _⟩,ah.rfl_⟩))))))))
 (try first | (replace Q1 := dK Q1; trace "@MK N er:c4- 1.1") | (replace Q1 := dL Q1; trace "@MK N er:c4- 1.2"))
 (try first | (replace Q1 := jt Q1; trace "@MK N er:c4- 2.1") | (replace Q1 := ju Q1; trace "@MK N er:c4- 2.2") | (replace Q1 := eG Q1; trace "@MK N er:c4- 2.3") | (replace Q1 := eH Q1; trace "@MK N er:c4- 2.4") | (replace Q1 := dT_ Q1; trace "@MK N er:c4- 2.5") | (replace Q1 := dF_ Q1; trace "@MK N er:c4- 2.6"))
 have hA4:A=none→c=0:=fun h=>by rw [h] at Q1;cases Q1
 refine aM (ag (ak (af (uL jo _ (ah.rfl_.size) ?_))));intro b5 w2 E5 hb5 ho5;refine mvs rfl ?_;refine kQ (a0:=w) jo rfl (by decide) rfl ho5 (ah.rfl_.next E5) rfl hx (fun h=>(let ⟨b,o,hA,hc⟩:=hr h;⟨b,o,hA,eZ (ah.rfl_.next E5) hc⟩)) hA4 h1 (by omega) (by omega) ?_;intro A7 c7 w3 ho7 B7 hg7;refine ass rfl (aj (ag (aB (bn (v:=.slice _ _ _) rfl rfl (⟨⟨A7,c7,by rw [Nat.zero_add],by simpa using ho7⟩,B7⟩)))))
theorem jH (A:Option Addr) (c:Nat) (l:List Int) (w:World) (h:IR w A c l) (hl:l.length≤1000000):Rt prog 136 [.slice A l.length c] w fun v w'=>(∃ A' c',v=.slice A' l.length c'∧w'.ownsRow w.heap.size 3 1 (.slice A' l.length c') l.length (l.map iV))∧ah w w':=
 et A c l.length (l.map iV) w (by simp) (fun h0=>by
  obtain ⟨b,o,hA,hc⟩:=h.1 h0;refine ⟨b,o,hA,fun j v hv=>?_⟩;rw [List.getElem?_map] at hv;cases hj:l[j]? with
  |none=>rw [hj] at hv;cases hv
  |some x=>
   obtain ⟨hjl,rfl⟩:=List.getElem?_eq_some_iff.1 hj;rw [hj] at hv;cases hv;exact hc j hjl) h.2.2.2 (fun u hu=>by obtain ⟨x,_,rfl⟩:=List.mem_map.1 hu;rfl) (by omega)
theorem vY (A:Option Addr) (c:Nat) (L:List (Rd×Option Addr×Nat)) (w:World) (h:g_ 4 rdV w A L) (hn:A=none→L.length=0∧c=0) (hl:L.length≤1000000):Rt prog 137 [.slice A L.length c] w fun v w'=>(∃ A' c',v=.slice A' L.length c'∧w'.ownsRow w.heap.size 54 4 (.slice A' L.length c') L.length (L.flatMap rdV))∧ah w w':=
 er A c L.length (L.flatMap rdV) w (me jj L) (fun h0=>g_.flat jj h h0) hn (yR L) (by omega)
def mL (N O:List (Rd×Option Addr×Nat)):List (Rd×Option Addr×Nat):=N++O.drop N.length
def zS (s:Rf):Rf:={ s with es:=[],votes:=[],next:=[],mtch:=[],sent:=[],reads:=[] }
theorem iO {w w':World} {tag:Nat→Nat} {g d base e s n cc:Nat} {A:Option Addr} {xs:List Value} (hC:Chg (fun k=>k=g) w w') (hg:tag g=8) (hd:d≠8) (h:w.ownsRow base e s (.slice A n cc) n xs∧Col tag d A):w'.ownsRow base e s (.slice A n cc) n xs∧Col tag d A:=
 ⟨ew h.1 hC (fun k hk e=>hd ((h.2 k hk).symm.trans (by rw [show k=g from e];exact hg))),h.2⟩
theorem cD.chg8 {w w':World} {y g:Nat} {tag:Nat→Nat} {s:Rf} {a:Ra} (h:cD y w tag s a) (hC:Chg (fun k=>k=g) w w') (hg:tag g=8):cD y w' tag s a:=
 ⟨fun hx=>iO hC hg (by decide) (h.e hx),fun hx=>iO hC hg (by decide) (h.v hx),fun hx=>iO hC hg (by decide) (h.x hx),fun hx=>iO hC hg (by decide) (h.m hx),fun hx=>iO hC hg (by decide) (h.n hx),h.r,fun hx=>iO hC hg (by decide) (h.q hx),fun i hi hx=>iO hC hg (by omega) (h.k i hi hx)⟩
theorem p5:∀ (N O:List (Rd×Option Addr×Nat)) (x:Rd×Option Addr×Nat) (A:Option Addr) (c:Nat),((N++x::O).flatMap rdV).set (N.length*4+3) (.slice A x.1.acks.length c)=((N++(x.1,A,c)::O).flatMap rdV)
 |[],O,x,A,c=>rfl
 |y::N,O,x,A,c=>by
  have ih:=p5 N O x A c;show (rdV y++(N++x::O).flatMap rdV).set ((N.length+1)*4+3) _=rdV y++(N++(x.1,A,c)::O).flatMap rdV;rw [List.set_append_right _ _ (by rw [jj];omega),jj,show (N.length+1)*4+3-4=N.length*4+3 by omega,ih]
theorem y6 {N O:List (Rd×Option Addr×Nat)} (h:N.length<O.length):mL N O=N++O[N.length]::O.drop (N.length+1):=by
 unfold mL;rw [List.drop_eq_getElem_cons h]
theorem xH {N O:List (Rd×Option Addr×Nat)} (h:N.length<O.length) (A:Option Addr) (c:Nat):((mL N O).flatMap rdV).set (N.length*4+3) (.slice A O[N.length].1.acks.length c)=(mL (N++[(O[N.length].1,A,c)]) O).flatMap rdV:=by
 rw [y6 h,p5];unfold mL;rw [List.length_append,List.length_singleton,List.append_assoc];rfl
theorem xI {N O:List (Rd×Option Addr×Nat)} (h:N.length=O.length):mL N O=N:=by unfold mL;rw [h,List.drop_length,List.append_nil]
theorem oA {N O:List (Rd×Option Addr×Nat)} (h:N.length≤O.length):(mL N O).length=O.length:=by unfold mL;rw [List.length_append,List.length_drop];omega
theorem vX (s:Rf) (a:Ra) (w:World) (hrd:eM w s a) (hl:s.votes.length≤1000000∧s.next.length≤1000000∧s.mtch.length≤1000000∧s.sent.length≤1000000∧s.reads.length≤1000000∧∀ q∈s.reads,q.acks.length≤1000000) (hel:s.es.length≤1000000) :
 Rt prog 96 [.agg (rfV s a).toArray] w (fun v w'=>(∃ tag a',v=.agg (rfV s a').toArray∧bh w' tag s a'∧∀ k,k<w.heap.size→tag k=8)∧ah w w'):=by
 obtain ⟨E,Ec,V,Vc,X,Xc,M,Mc,Sn,Sc,Q,Qc,LL⟩:=a;obtain ⟨hl1,hl2,hl3,hl4,hl5,hl6⟩:=hl;have hrL:LL.map (fun q=>q.1)=s.reads:=hrd.r;have hrk:∀ q∈LL,IR w q.2.1 q.2.2 q.1.acks:=hrd.k;have hrq:g_ 4 rdV w Q LL:=hrd.q;have hqn:Q=none→LL.length=0∧Qc=0:=hrd.qc.2.2;have hLl:LL.length=s.reads.length:=by rw [←hrL,List.length_map]
 have hqm:LL.length≤1000000:=by omega
 refine enter (n:=51) Tryz.func96 rfl rfl rfl (ak (af (bK (v:=.agg _) rfl ?_)));intro b1 w1 E1 hb1 hk1;refine bP ny ?_;intro b2 w2 E2 hb2 hk2;have hg1:w.heap.size≤b1:=Nat.le_of_eq hb1.symm;have h12:b1<b2:=by have:=hk1.lt;omega
 have hg2:w.heap.size≤b2:=by omega
 have hk2z:Blk w2 b2 91 ((.agg #[.int .i64 0,.int .i64 0,.int .i64 0,.int .i64 0,.int .i64 0,.int .i64 0,.int .i64 0,.int .i64 0,.slice none 0 0,.string ⟨#[]⟩,.int .i64 0,.int .i64 0,.int .i64 0,.int .u64 0,.slice none 0 0,.slice none 0 0,.slice none 0 0,.slice none 0 0,.int .i64 0,.slice none 0 0,.string ⟨#[]⟩,.int .i64 0]):Value).cells:=hk2;have ht0:∀ k,k≤b2→(fun _:Nat=>8) k=8:=fun _ _=>rfl
 refine aj (ag (ak (af (aa (ab bq rfl) (aa (ab cW rfl) (aa (ar cI rfl (by exact (show _=some (Value.slice E s.es.length Ec) from (hk1.from_ (ah.rfl_.next E2)).rd 8 rfl))) ?_))))));have hN7:ah _ w2:=(ah.rfl_.next E2);have hk2c:=hk2z.from_ (ah.rfl_ (a:=w2));have hlt7:=hk2c.lt;have hf0:bh w2 (fun _=>8) ({ s with es:=[],votes:=[],next:=[],mtch:=[],sent:=[],reads:=[] }:Rf) a0:=bh.same bh.zero rfl rfl rfl rfl rfl rfl;refine ay rb (yg E s.es.length Ec s.es _ (hrd.e.from_ ((ah.rfl_.next E1).next E2)) (by omega)) ?_;rintro v7 w3 ⟨A7,c7,rfl,ho7,E7⟩;obtain ⟨tag1,hf1,ht1⟩:∃ t,bh w3 t ({ s with es:=s.es,votes:=[],next:=[],mtch:=[],sent:=[],reads:=[] }:Rf) (⟨A7,c7,none,0,none,0,none,0,none,0,none,0,[]⟩:Ra)∧(∀ k,k≤b2→t k=8):=⟨_,cD.log (bh.but (c:=0) hf0 (ah.toChg E7)) s.b s.t rfl (ei ho7 (Nat.zero_le _)) (fun k hk=>dB (d_ ho7 k hk).1),fun k hk=>(cQ (by omega)).trans (ht0 k hk)⟩;refine aa (ab bq rfl) (aa (ab cW rfl) ?_);have hS1:ah _ w3:=ah.rfl_;refine cj (s':=s) (a':=(⟨A7,c7,V,Vc,X,Xc,M,Mc,Sn,Sc,Q,Qc,LL⟩:Ra)) (v:=.slice _ _ _) lA rfl rfl rfl ((hk1.from_ ((hN7.next E7).next ah.rfl_))) (by exact ⟨by decide,rfl⟩) ?_;intro w4 O1_0 P1_0;replace hf1:=(hf1.from_ hS1).chg8 (O1_0.toChg rfl) (ht1 b1 (by omega));replace hk2z:=(hk2c.from_ (E7.next hS1)).only O1_0 (by omega);refine aj (ag (ak (af (aa (ab cf rfl) (aa (ar bc rfl (by exact (show _=some (Value.slice V s.votes.length Vc) from (P1_0.from_ ah.rfl_).rd 14 rfl))) ?_)))));have hN12:ah _ w4:=ah.rfl_;have hk2c:=hk2z.from_ ah.rfl_;have hlt12:=hk2c.lt;have hf1n:=hf1.from_ ah.rfl_;refine ay gD (jH V Vc s.votes _ (IR.from_ hrd.v ((((ah.rfl_.next E1).next E2).next E7).only O1_0 (hg1))) hl1) ?_;rintro v12 w5 ⟨⟨A12,c12,rfl,ho12⟩,E12⟩;obtain ⟨tag2,hf2,ht2⟩:∃ t,bh w5 t ({ s with es:=s.es,votes:=s.votes,next:=[],mtch:=[],sent:=[],reads:=[] }:Rf) (⟨A7,c7,A12,c12,none,0,none,0,none,0,none,0,[]⟩:Ra)∧(∀ k,k≤b2→t k=8):=⟨_,cD.votes (bh.but (c:=1) hf1n (ah.toChg E12)) rfl (ei ho12 (Nat.zero_le _)) (fun k hk=>dB (d_ ho12 k hk).1),fun k hk=>(cQ (by omega)).trans (ht1 k hk)⟩;refine aa (ab cf rfl) ?_;have hS2:ah _ w5:=ah.rfl_;refine cj (s':=s) (a':=(⟨A7,c7,A12,c12,X,Xc,M,Mc,Sn,Sc,Q,Qc,LL⟩:Ra)) (v:=.slice _ _ _) cy rfl rfl rfl ((P1_0.from_ ((hN12.next E12).next ah.rfl_))) (by exact ⟨by decide,rfl⟩) ?_;intro w6 O2_0 P2_0;replace hf2:=(hf2.from_ hS2).chg8 (O2_0.toChg rfl) (ht2 b1 (by omega));replace hk2z:=(hk2c.from_ (E12.next hS2)).only O2_0 (by omega);refine aj (ag (ak (af (aa (ab bY rfl) (aa (ar bc rfl (by exact (show _=some (Value.slice X s.next.length Xc) from (P2_0.from_ ah.rfl_).rd 15 rfl))) ?_)))));have hN16:ah _ w6:=ah.rfl_;have hk2c:=hk2z.from_ ah.rfl_;have hlt16:=hk2c.lt;have hf2n:=hf2.from_ ah.rfl_;refine ay gD (jH X Xc s.next _ (IR.from_ hrd.x ((((((ah.rfl_.next E1).next E2).next E7).only O1_0 (hg1)).next E12).only O2_0 (hg1))) hl2) ?_;rintro v16 w7 ⟨⟨A16,c16,rfl,ho16⟩,E16⟩;obtain ⟨tag3,hf3,ht3⟩:∃ t,bh w7 t ({ s with es:=s.es,votes:=s.votes,next:=s.next,mtch:=[],sent:=[],reads:=[] }:Rf) (⟨A7,c7,A12,c12,A16,c16,none,0,none,0,none,0,[]⟩:Ra)∧(∀ k,k≤b2→t k=8):=⟨_,cD.next (bh.but (c:=2) hf2n (ah.toChg E16)) rfl (ei ho16 (Nat.zero_le _)) (fun k hk=>dB (d_ ho16 k hk).1),fun k hk=>(cQ (by omega)).trans (ht2 k hk)⟩;refine aa (ab bY rfl) ?_;have hS3:ah _ w7:=ah.rfl_;refine cj (s':=s) (a':=(⟨A7,c7,A12,c12,A16,c16,M,Mc,Sn,Sc,Q,Qc,LL⟩:Ra)) (v:=.slice _ _ _) cy rfl rfl rfl ((P2_0.from_ ((hN16.next E16).next ah.rfl_))) (by exact ⟨by decide,rfl⟩) ?_;intro w8 O3_0 P3_0;replace hf3:=(hf3.from_ hS3).chg8 (O3_0.toChg rfl) (ht3 b1 (by omega));replace hk2z:=(hk2c.from_ (E16.next hS3)).only O3_0 (by omega);refine aj (ag (ak (af (aa (ab cu rfl) (aa (ar bc rfl (by exact (show _=some (Value.slice M s.mtch.length Mc) from (P3_0.from_ ah.rfl_).rd 16 rfl))) ?_)))));have hN20:ah _ w8:=ah.rfl_;have hk2c:=hk2z.from_ ah.rfl_;have hlt20:=hk2c.lt;have hf3n:=hf3.from_ ah.rfl_;refine ay gD (jH M Mc s.mtch _ (IR.from_ hrd.m ((((((((ah.rfl_.next E1).next E2).next E7).only O1_0 (hg1)).next E12).only O2_0 (hg1)).next E16).only O3_0 (hg1))) hl3) ?_;rintro v20 w9 ⟨⟨A20,c20,rfl,ho20⟩,E20⟩;obtain ⟨tag4,hf4,ht4⟩:∃ t,bh w9 t ({ s with es:=s.es,votes:=s.votes,next:=s.next,mtch:=s.mtch,sent:=[],reads:=[] }:Rf) (⟨A7,c7,A12,c12,A16,c16,A20,c20,none,0,none,0,[]⟩:Ra)∧(∀ k,k≤b2→t k=8):=⟨_,cD.mtch (bh.but (c:=3) hf3n (ah.toChg E20)) rfl (ei ho20 (Nat.zero_le _)) (fun k hk=>dB (d_ ho20 k hk).1),fun k hk=>(cQ (by omega)).trans (ht3 k hk)⟩;refine aa (ab cu rfl) ?_;have hS4:ah _ w9:=ah.rfl_;refine cj (s':=s) (a':=(⟨A7,c7,A12,c12,A16,c16,A20,c20,Sn,Sc,Q,Qc,LL⟩:Ra)) (v:=.slice _ _ _) cy rfl rfl rfl ((P3_0.from_ ((hN20.next E20).next ah.rfl_))) (by exact ⟨by decide,rfl⟩) ?_;intro w10 O4_0 P4_0;replace hf4:=(hf4.from_ hS4).chg8 (O4_0.toChg rfl) (ht4 b1 (by omega));replace hk2z:=(hk2c.from_ (E20.next hS4)).only O4_0 (by omega);refine aj (ag (ak (af (aa (ab cN rfl) (aa (ar bc rfl (by exact (show _=some (Value.slice Sn s.sent.length Sc) from (P4_0.from_ ah.rfl_).rd 17 rfl))) ?_)))));have hN24:ah _ w10:=ah.rfl_;have hk2c:=hk2z.from_ ah.rfl_;have hlt24:=hk2c.lt;have hf4n:=hf4.from_ ah.rfl_;refine ay gD (jH Sn Sc s.sent _ (IR.from_ hrd.n ((((((((((ah.rfl_.next E1).next E2).next E7).only O1_0 (hg1)).next E12).only O2_0 (hg1)).next E16).only O3_0 (hg1)).next E20).only O4_0 (hg1))) hl4) ?_;rintro v24 w11 ⟨⟨A24,c24,rfl,ho24⟩,E24⟩;obtain ⟨tag5,hf5,ht5⟩:∃ t,bh w11 t ({ s with es:=s.es,votes:=s.votes,next:=s.next,mtch:=s.mtch,sent:=s.sent,reads:=[] }:Rf) (⟨A7,c7,A12,c12,A16,c16,A20,c20,A24,c24,none,0,[]⟩:Ra)∧(∀ k,k≤b2→t k=8):=⟨_,cD.sent (bh.but (c:=4) hf4n (ah.toChg E24)) rfl (ei ho24 (Nat.zero_le _)) (fun k hk=>dB (d_ ho24 k hk).1),fun k hk=>(cQ (by omega)).trans (ht4 k hk)⟩;refine aa (ab cN rfl) ?_;have hS5:ah _ w11:=ah.rfl_;refine cj (s':=s) (a':=(⟨A7,c7,A12,c12,A16,c16,A20,c20,A24,c24,Q,Qc,LL⟩:Ra)) (v:=.slice _ _ _) cy rfl rfl rfl ((P4_0.from_ ((hN24.next E24).next ah.rfl_))) (by exact ⟨by decide,rfl⟩) ?_;intro w12 O5_0 P5_0;replace hf5:=(hf5.from_ hS5).chg8 (O5_0.toChg rfl) (ht5 b1 (by omega));replace hk2z:=(hk2c.from_ (E24.next hS5)).only O5_0 (by omega);refine aj (ag (ak (af (aa (ab bU rfl) (aa (ar dR rfl (by exact (show _=some (Value.slice Q LL.length Qc) from (P5_0.from_ ah.rfl_).rd 19 rfl))) ?_)))));have hN28:ah _ w12:=ah.rfl_;have hk2c:=hk2z.from_ ah.rfl_;have hlt28:=hk2c.lt;have hf5n:=hf5.from_ ah.rfl_;refine ay ra (vY Q Qc LL _ (hrq.from_ ((((((((((((ah.rfl_.next E1).next E2).next E7).only O1_0 (hg1)).next E12).only O2_0 (hg1)).next E16).only O3_0 (hg1)).next E20).only O4_0 (hg1)).next E24).only O5_0 (hg1))) hqn hqm) ?_;rintro v28 w13 ⟨⟨A28,c28,rfl,ho28⟩,E28⟩;obtain ⟨tag6,hg6,ht6,hc6⟩:∃ t,cD 5 w13 t ({ s with es:=s.es,votes:=s.votes,next:=s.next,mtch:=s.mtch,sent:=s.sent,reads:=[] }:Rf) (⟨A7,c7,A12,c12,A16,c16,A20,c20,A24,c24,none,0,[]⟩:Ra)∧(∀ k,k≤b2→t k=8)∧Col t 5 A28:=⟨_,bh.but (c:=5) hf5n (ah.toChg E28),fun k hk=>(cQ (by omega)).trans (ht5 k hk),fun k hk=>dB (d_ ho28 k hk).1⟩;refine aa (ab bU rfl) ?_;have hS6:ah _ w13:=ah.rfl_;refine cj (s':=s) (a':=(⟨A7,c7,A12,c12,A16,c16,A20,c20,A24,c24,A28,c28,LL⟩:Ra)) (v:=.slice _ _ _) iW rfl rfl rfl ((P5_0.from_ ((hN28.next E28).next ah.rfl_))) (by exact ⟨by decide,rfl⟩) ?_;intro w14 O6_0 P6_0;replace hg6:=(hg6.from_ hS6).chg8 (O6_0.toChg rfl) (ht6 b1 (by omega));have hr6:=gi (ei (base':=0) (ho28.kept_from hS6) (Nat.zero_le _)) O6_0 (fun k hk e=>by have:=hc6 k hk;rw [e,ht6 b1 (by omega)] at this;cases this);replace hk2z:=(hk2c.from_ (E28.next hS6)).only O6_0 (by omega);refine aj (ag (ak (ak (af (aa (ab bU rfl) (aa (ar dR rfl (by exact (show _=some (Value.slice A28 LL.length c28) from (P6_0.from_ ah.rfl_).rd 19 rfl))) ?_))))));refine aa (bH eS rfl) (mvi rfl (aj (ag (aU (cM (G:=List (Rd×Option Addr×Nat)×(Nat→Nat)) [3,34,35,36,37,38,39,40,41,42,43,44,45,46,47,48] (fun (N,tg)=>[(33,.int .i64 (N.length:Nat))]) (fun (N,tg) w'=>N.length≤LL.length∧(∀ i (h:i<N.length) (h2:i<LL.length),N[i].1=LL[i].1)∧cD 5 w' tg ({ s with es:=s.es,votes:=s.votes,next:=s.next,mtch:=s.mtch,sent:=s.sent,reads:=[] }:Rf) (⟨A7,c7,A12,c12,A16,c16,A20,c20,A24,c24,none,0,N⟩:Ra)∧(∀ k,k≤b2→tg k=8)∧Col tg 5 A28∧w'.ownsRow 0 54 4 (.slice A28 LL.length c28) LL.length ((mL N LL).flatMap rdV)∧Blk w' b1 29 (rfV s (⟨A7,c7,A12,c12,A16,c16,A20,c20,A24,c24,A28,c28,LL⟩:Ra)).toArray∧Blk w' b2 91 ((.agg #[.int .i64 0,.int .i64 0,.int .i64 0,.int .i64 0,.int .i64 0,.int .i64 0,.int .i64 0,.int .i64 0,.slice none 0 0,.string ⟨#[]⟩,.int .i64 0,.int .i64 0,.int .i64 0,.int .u64 0,.slice none 0 0,.slice none 0 0,.slice none 0 0,.slice none 0 0,.int .i64 0,.slice none 0 0,.string ⟨#[]⟩,.int .i64 0]):Value).cells∧ah w w') (fun (N,_)=>LL.length-N.length) (([],tag6)) ⟨rfl,trivial⟩ ?_ ?_)))))
 ·exact ⟨Nat.zero_le _,fun i h=>absurd h (Nat.not_lt_zero _),hg6.from_ ah.rfl_,ht6,hc6,hr6.kept_from ah.rfl_,P6_0.from_ ah.rfl_,hk2z.from_ ah.rfl_,((((((((((((((ah.rfl_.next E1).next E2).next E7).only O1_0 (hg1)).next E12).only O2_0 (hg1)).next E16).only O3_0 (hg1)).next E20).only O4_0 (hg1)).next E24).only O5_0 (hg1)).next E28).only O6_0 (hg1))⟩
 rintro ⟨N,tg⟩ ρ15 w15 ⟨hNl,hNe,hgN,htN,hcN,hrN,hbN,hk2N,hBN⟩;refine ak (af (aa (bM rfl rfl) (aj (ag (ak (Bk rfl (fun Q16=>?_) (fun Q16=>?_)))))))
 ·have hNL:N.length<LL.length:=by omega
  have hqk:LL[N.length].1∈s.reads:=by rw [←hrL];exact List.mem_map_of_mem (List.getElem_mem hNL)
  obtain ⟨g28,rfl⟩:=eK hrN (by omega);obtain ⟨z9,hz9⟩:∃ z,z=(w15).heap.size:=⟨_,rfl⟩
  have hc44:(w15).cell? ⟨g28,0+N.length*4+3,none⟩=some (.slice LL[N.length].2.1 LL[N.length].1.acks.length LL[N.length].2.2):=by
   obtain ⟨b9,o9,he9,hcs⟩:=(g_.own jj (by decide) hrN).2 (by rw [oA hNl];omega);cases he9;have h9:=hcs N.length (by rw [oA hNl];omega)
   have hm9:(mL N LL)[N.length]'(by rw [oA hNl];omega)=LL[N.length]:=by
    unfold mL;rw [List.getElem_append_right (Nat.le_refl _)];simp
   rw [hm9] at h9;exact h9 3 _ rfl
  have htg28:tg g28=5:=hcN g28 rfl
  have hg28:b2<g28:=by
   rcases Nat.lt_or_ge b2 g28 with e | e
   ·exact e
   ·have:=htN g28 e;omega
  refine aM (ag (ak (aU (ak (af (mvi rfl (asi rfl (aj (ag ?_)))))))));apply bQ 12 [(36,eqp _),(37,eqp (.slice (some ⟨g28,0,none⟩) LL.length c28)),(38,eqp _),(39,eqp _),(40,eqp (.slice (some ⟨g28,0,none⟩) LL.length c28)),(41,eqp _),(42,eqp _),(43,eqp _),(44,eqp (.slice LL[N.length].2.1 LL[N.length].1.acks.length LL[N.length].2.2)),(45,fun v w'=>∃ A' c',v=.slice A' LL[N.length].1.acks.length c'∧w'.ownsRow z9 3 1 (.slice A' LL[N.length].1.acks.length c') LL[N.length].1.acks.length (LL[N.length].1.acks.map iV)),(46,eqp _),(47,eqp _)] (by repeat first | exact cB | refine cA ?_ | refine bW ?_) (by kernel_rfl) (by kernel_rfl) ⟨aq _,aq _,aq _,aq _,aq _,aq _,aq _,aq _,aq _,(fun _ _ _ hF ⟨a,b,h1,h2⟩=>⟨a,b,h1,h2.kept_from hF⟩),aq _,aq _,trivial⟩
  case hop=>
   constructor
   ·rintro-w18 D18;exact au (ab bU rfl) rfl
   constructor
   ·rintro-w19 D19;rintro _ rfl;exact au (ar dR rfl (by exact (show _=some (Value.slice (some ⟨g28,0,none⟩) LL.length c28) from (hbN.from_ (ah.rfl_.next D19)).rd 19 rfl))) rfl
   constructor
   ·rintro-w20 D20;exact au (aH (v:=.int _ _) rfl) rfl
   constructor
   ·rintro-w21 D21;exact au (ab bU rfl) rfl
   constructor
   ·rintro-w22 D22;rintro _ rfl;exact au (ar dR rfl (by exact (show _=some (Value.slice (some ⟨g28,0,none⟩) LL.length c28) from (hbN.from_ (ah.rfl_.next D22)).rd 19 rfl))) rfl
   constructor
   ·rintro-w23 D23;exact au (aH (v:=.int _ _) rfl) rfl
   constructor
   ·rintro-w24 D24;rintro v24_40 rfl _ rfl;exact au (bT fV rfl rfl (by omega)) rfl
   constructor
   ·rintro-w25 D25;rintro _ rfl;exact au (ab eX rfl) rfl
   constructor
   ·rintro-w26 D26;rintro _ rfl;exact au (ar bc rfl (by exact dP (ah.rfl_.next D26) hc44)) rfl
   constructor
   ·rintro-w27 D27;rintro v27_44 rfl;refine fJ gD ((jH LL[N.length].2.1 LL[N.length].2.2 LL[N.length].1.acks _ ((hrk _ (List.getElem_mem hNL)).from_ (hBN.next D27)) (hl6 _ hqk)).mono ?_);rintro v w9 ⟨⟨a,b,rfl,ho⟩,hF9⟩;exact ⟨hF9,a,b,rfl,ei ho (by rw [hz9];exact ((ah.rfl_.next D27)).size)⟩
   constructor
   ·rintro-w28 D28;rintro v28_37 rfl _ rfl;exact au (bT fV rfl rfl (by omega)) rfl
   constructor
   ·rintro-w29 D29;rintro _ rfl;exact au (ab eX rfl) rfl
   exact trivial
  case hend=>
   intro w30 D30;rintro _ rfl v37 rfl _ rfl _ rfl v40 rfl _ rfl _ rfl _ rfl v44 rfl v45 ⟨A45,c45,rfl,ho45⟩ _ rfl _ rfl;show St ..;have hM10:ah _ w30:=(ah.rfl_.next D30);refine tk (o:=N.length*4+3) cy (by show Value.pointer (some ⟨g28,0+N.length*4+3,none⟩)=_;rw [Nat.zero_add]) rfl rfl (hrN.kept_from (ah.rfl_.next D30)) (by omega) ?_;intro w31 O10 P10;have hlt9:=hrN.lt g28 rfl;obtain ⟨tg2,hg2n,ht2n,hc2n⟩:∃ t,cD 5 w31 t ({ s with es:=s.es,votes:=s.votes,next:=s.next,mtch:=s.mtch,sent:=s.sent,reads:=[] }:Rf) (⟨A7,c7,A12,c12,A16,c16,A20,c20,A24,c24,none,0,(N++[(LL[N.length].1,A45,c45)])⟩:Ra)∧(∀ k,k≤b2→t k=8)∧Col t 5 (some ⟨g28,0,none⟩):=⟨_,cD.five (cD.ack (q:=LL[N.length].1) (A:=A45) (c:=c45) hgN hM10 (by rw [←hz9];exact ho45)) O10 ((cQ hlt9.2).trans htg28),fun k hk=>(cQ (by omega)).trans (htN k hk),fun k hk=>by cases hk;exact (cQ hlt9.2).trans htg28⟩
   have hr2n:(w31).ownsRow 0 54 4 (.slice (some ⟨g28,0,none⟩) LL.length c28) LL.length ((mL (N++[(LL[N.length].1,A45,c45)]) LL).flatMap rdV):=by
    rw [←xH hNL];exact P10
   have hb2n:=(hbN.from_ hM10).only O10 (by omega);have hk2n:=(hk2N.from_ hM10).only O10 (by omega);refine aj (bo (ag (af (aa (b0 rfl rfl (by omega)) (mvi rfl (aj ?_))))));refine cp (((N++[(LL[N.length].1,A45,c45)]),tg2)) ⟨br (by rw [List.length_append,List.length_singleton];omega),trivial⟩ (by (iterate 34 refine bA rfl ?_);exact bN) ⟨?_,?_⟩
   ·refine ⟨by rw [List.length_append,List.length_singleton];omega,fun i h h2=>?_,hg2n.from_ ah.rfl_,ht2n,hc2n,hr2n.kept_from ah.rfl_,hb2n.from_ ah.rfl_,hk2n.from_ ah.rfl_,((hBN.next D30).only O10 (by omega))⟩;rcases Nat.lt_or_ge i N.length with e | e
    ·rw [List.getElem_append_left e];exact hNe i e h2
    ·obtain rfl:i=N.length:=by rw [List.length_append,List.length_singleton] at h;omega
     simp only [List.getElem_append_right (Nat.le_refl _),Nat.sub_self,List.getElem_singleton]
   ·show LL.length-(N++[_]).length<LL.length-N.length;rw [List.length_append,List.length_singleton];omega
 refine b_ (bf (bf (bL (ag (ak (af (aa (aG (cs:=rfV s (⟨A7,c7,A12,c12,A16,c16,A20,c20,A24,c24,A28,c28,LL⟩:Ra)) aP aF rfl ((hbN.from_ ah.rfl_).whole)) (aa (cV (l:=[(0,.tmp 49)]) (pw _ _ _ _ _ _ _ _ _ _ _ _ _ _ _ _ _ _ _ _ _ _ _ _ _ _ _ _ _ _ _ _ _ _)) ?_))))))));have hM12:ah _ w15:=ah.rfl_;refine cg (vs:=[_,_,_,_,_,_,_,_,_,_,_,_,_,_,_,_,_,_,_,_,_,_]) kK rfl rfl (by simp [Value.oneCell']) ((hk2N.from_ ah.rfl_)) rfl ?_;intro w32 O12 P12;refine aj (ag (aB (lR rfl (dM (cs:=[_,_,_,_,_,_,_,_,_,_,_,_,_,_,_,_,_,_,_,_,_,_]) s3 kK rfl (by exact P12.whole)) ?_)));have hNf:N.length=LL.length:=by omega
 have e9:N.map (fun q=>q.1)=s.reads:=by
  rw [←hrL];refine List.ext_getElem (by simp [hNf]) fun i h1 h2=>?_
  simp only [List.getElem_map];exact hNe i (by simpa using h1) (by simpa using h2)
 have hfin:=cD.reads hgN (A:=A28) (c:=c28) (n:=LL.length) hNf.symm (by rw [xI hNf] at hrN;exact hrN) hcN;rw [show ((⟨A7,c7,A12,c12,A16,c16,A20,c20,A24,c24,none,0,N⟩:Ra)).L=N from rfl,e9] at hfin;exact ⟨⟨tg,(⟨A7,c7,A12,c12,A16,c16,A20,c20,A24,c24,A28,c28,N⟩:Ra),(by show Value.agg (rfV s (⟨A7,c7,A12,c12,A16,c16,A20,c20,A24,c24,A28,c28,LL⟩:Ra)).toArray=Value.agg (rfV s (⟨A7,c7,A12,c12,A16,c16,A20,c20,A24,c24,A28,c28,N⟩:Ra)).toArray;unfold rfV;simp only [hNf]),cD.chg8 (cD.from_ hfin hM12) (O12.toChg rfl) (htN b2 (Nat.le_refl _)),fun k hk=>htN k (by omega)⟩,(hBN.only O12 (hg2))⟩
theorem rA {w w1 w':World} {g T:Nat} {tag:Nat→Nat} {s:Rf} {a:Ra} (hF:ah w w1) (hf:bh w1 tag s a) (ht:∀ k,k<w.heap.size→tag k=8) (hE:ah w1 w') (hg:g=w1.heap.size) (hb:Blk w' g T (rfV s a++[Value.slice none 0 0]).toArray):aQ w (fun k=>k<w.heap.size) w' T g ⟨s,[]⟩:=by
 subst hg;have hz:=hF.size;refine ⟨⟨fv w1.heap.size 7 tag,a,none,0,[],⟨hb,(hf.re 7).from_ hE,⟨World.ownsRow_nil _ _ _ _,rfl,fun j hj=>absurd hj (Nat.not_lt_zero _),Col.none⟩,dB (Nat.le_refl _),fun k hk=>(cQ (Nat.lt_of_lt_of_le hk hz)).trans (ht k hk)⟩⟩,fun k hk=>hk,(hF.next hE).toChg⟩
theorem yk (s:Rf) (a:Ra) (w:World) (hrd:eM w s a) (hl:s.votes.length≤1000000∧s.next.length≤1000000∧s.mtch.length≤1000000∧s.sent.length≤1000000∧s.reads.length≤1000000∧∀ q∈s.reads,q.acks.length≤1000000) (_:s.es.length≤1000000) (hm:gZ s=false) :
 Rt prog 55 [.agg (rfV s a).toArray] w (fun v w'=>v=.tuple #[.pointer none,.int .i64 1]∧ah w w'):=by
 refine enter (n:=11) Tryz.func55 rfl rfl rfl (ak (af (bK (v:=.agg _) rfl ?_)));intro b1 w1 E1 hb1 hk1;refine asp rfl (asi rfl (aj (ag (ak (ak (af (aa (aG (cs:=rfV s a) aP aF rfl ((hk1.from_ ah.rfl_).whole)) (ay nz (sj s a _ (hrd.from_ (ah.rfl_.next E1)) hl) ?_))))))));rintro v5 w2 ⟨rfl,E5⟩;refine aa (c6 (dk rfl rfl) (by rw [hm];rfl)) ?_;refine aj (ag (aS rfl (ak (af (asp rfl (asi rfl (aj (ag (aB (aD (lS (v:=.pointer _) (v':=.int _ _) rfl rfl rfl (⟨rfl,((ah.rfl_.next E1).next E5)⟩))))))))))))
theorem oQ (s:Rf) (a:Ra) (w:World) (hrd:eM w s a) (hl:s.votes.length≤1000000∧s.next.length≤1000000∧s.mtch.length≤1000000∧s.sent.length≤1000000∧s.reads.length≤1000000∧∀ q∈s.reads,q.acks.length≤1000000) (hel:s.es.length≤1000000) (hm:gZ s=true) :
 Rt prog 55 [.agg (rfV s a).toArray] w (fun v w'=>(∃ g,v=.tuple #[.pointer (some ⟨g,0,none⟩),.int .i64 0]∧aQ w (fun k=>k<w.heap.size) w' 96 g ⟨s,[]⟩)):=by
 refine enter (n:=11) Tryz.func55 rfl rfl rfl (ak (af (bK (v:=.agg _) rfl ?_)));intro b1 w1 E1 hb1 hk1;refine asp rfl (asi rfl (aj (ag (ak (ak (af (aa (aG (cs:=rfV s a) aP aF rfl ((hk1.from_ ah.rfl_).whole)) (ay nz (sj s a _ (hrd.from_ (ah.rfl_.next E1)) hl) ?_))))))));rintro v5 w2 ⟨rfl,E5⟩;refine aa (ch (dk rfl rfl) (by rw [hm];rfl)) ?_;refine aj (ag (bd rfl (aM (ag (ak (af (aa (aG (cs:=rfV s a) aP aF rfl ((hk1.from_ (ah.rfl_.next E5)).whole)) ?_)))))));have hz8:=(((ah.rfl_.next E1).next E5)).size;refine ay sZ (vX s a _ (hrd.from_ ((ah.rfl_.next E1).next E5)) hl hel) ?_;rintro v8 w3 ⟨⟨tag,a',rfl,hf8,ht8⟩,E8⟩;have hB8:ah w w3:=(((ah.rfl_.next E1).next E5).next E8);refine aa (cV (l:=[(0,.tmp 8)]) (pt _ _ _ _ _ _ _ _ _ _ _ _ _ _ _ _ _ _ _ _ _ _ _ _ _ _ _ _ _ _ _ _ _ _)) (bK (v:=.agg _) rfl ?_);intro b10 w4 E10 hb10 hk10;have hb10e:=hb10;have hb10:Blk w4 b10 96 (rfV s a'++[Value.slice none 0 0]).toArray:=hk10;refine asp rfl (asi rfl (aj (ag (aB (lS (v:=.pointer _) (v':=.int _ _) rfl rfl rfl (⟨b10,rfl,rA hB8 hf8 (fun k hk=>ht8 k (Nat.lt_of_lt_of_le hk hz8)) E10 hb10e hb10⟩))))))
end Go.Proofs.YtkpooenofjdpmaaGreat
