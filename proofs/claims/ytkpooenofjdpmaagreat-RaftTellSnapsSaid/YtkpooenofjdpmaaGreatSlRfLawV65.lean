/- texts that the claim stands on. -/
import Derived.Test.YtkpooenofjdpmaaGreatSlRfLawV64

set_option maxRecDepth 100000
set_option maxHeartbeats 4000000
namespace Go.Proofs.YtkpooenofjdpmaaGreat
open Go.Proofs.Tryz (prog)
open Go.RowKit
open Go.ChangeShapes Go.WideShapes Go.ChangeAt
theorem aO:cL prog 111 0=some 0:=by kernel_rfl
theorem ki:aP prog 65=true:=by kernel_rfl
theorem uC:aP prog 69=true:=by kernel_rfl
theorem jG:cL prog 111 1=some 22:=by kernel_rfl
theorem jm:aP prog 71=true:=by kernel_rfl
theorem fZ:∀ (a0:Int) (a1:Int) (a2:Int) (a3:Int) (a4:Int) (a5:ByteArray) (a6:Bool),prog.built 39 [(0,.int .i64 5),(2,.int .i64 a0),(4,.int .i64 a1),(5,.int .i64 a2),(7,.int .i64 a3),(10,.int .i64 a4),(11,.string a5),(12,.bool a6)]=some #[.int .i64 5,.int .i64 0,.int .i64 a0,.int .i64 0,.int .i64 a1,.int .i64 a2,.int .i64 0,.int .i64 a3,.bool false,.slice none 0 0,.int .i64 a4,.string a5,.bool a6]:=by intros;kernel_rfl
theorem pe:aP prog 82=true:=by kernel_rfl
theorem sZ:aP prog 109=true:=by kernel_rfl
theorem gG:∀ (a0:Int) (a1:Int) (a2:Int) (a3:Int) (a4:Int) (a5:Option Addr) (a6 a7:Nat),prog.built 39 [(0,.int .i64 3),(2,.int .i64 a0),(4,.int .i64 a1),(5,.int .i64 a2),(6,.int .i64 a3),(7,.int .i64 a4),(9,.slice a5 a6 a7)]=some #[.int .i64 3,.int .i64 0,.int .i64 a0,.int .i64 0,.int .i64 a1,.int .i64 a2,.int .i64 a3,.int .i64 a4,.bool false,.slice a5 a6 a7,.int .i64 0,.string ⟨#[]⟩,.bool false]:=by intros;kernel_rfl
theorem lZ (s:Rf) (E:Option Addr) (n c:Nat) (w:World) (h:cH w (.slice E n c) s.es) (_:cK s.b s.t s.es=true):Rt prog 65 [.agg #[.int .i64 s.b,.int .i64 s.t,.slice E n c]] w fun v w'=>v=.tuple #[.int .i64 (bd s),.int .i64 (dq s.t s.es)]∧ai w w':=
 (Rt.of (np s.b s.t _ s.es w h)).mono fun _ _ h=>h
theorem rV (T g:Nat) (s:Rf) (a:Ra) (R:List Value) (w:World) (hb:Blk w g T (rfV s a++R).toArray) (he:cH w (.slice a.E s.es.length a.Ec) s.es) (hm:cK s.b s.t s.es=true) :
 Rt prog 70 [.pointer (some ⟨g,0,none⟩)] w (fun v w'=>v=.tuple #[.int .i64 (bd s),.int .i64 (dq s.t s.es)]∧ai w w'):=by
 refine enter (n:=12) Tryz.func70 rfl rfl rfl (an (af (asi rfl (asi rfl (ak (ag (an (af (mvp rfl (ab (av rfl) (ab (aa aO rfl) (ab (aa bg rfl) ?_))))))))))));refine ab (aK (cs:=[.int .i64 s.b,.int .i64 s.t,.slice a.E s.es.length a.Ec]) dm cX rfl (jD (hb.from_ ai.rfl_))) (aC ki (lZ s a.E s.es.length a.Ec _ (he.from_ ai.rfl_) hm) ?_);rintro v9 w1 ⟨rfl,E9⟩;refine ab (aY rfl rfl) (ab (aY rfl rfl) (asi rfl (asi rfl (ak (ag (aE (lX (v:=.int _ _) (v':=.int _ _) rfl rfl rfl (⟨rfl,(ai.rfl_.next E9)⟩))))))))
theorem yx (w0:World) (Z:Nat→Prop) (T g:Nat) (p:Sp) (w:World) (h:aQ w0 Z w T g p) :
 Rt prog 69 [.pointer (some ⟨g,0,none⟩)] w (fun v w'=>v=.tuple #[]∧aQ w0 Z w' T g ⟨fA p.s,p.out⟩):=by
 obtain ⟨s,out⟩:=p;obtain ⟨tag,a,O,oc,L,hs⟩:=h.ex;obtain ⟨E,Ec,V,Vc,X,Xc,M,Mc,Sn,Sc,Q,Qc,LL⟩:=a;have hb:Blk w g T (rfV s (⟨E,Ec,V,Vc,X,Xc,M,Mc,Sn,Sc,Q,Qc,LL⟩:Ra)++[Value.slice O L.length oc]).toArray:=hs.b
 have hll:L.length=out.length:=by
  have h9:=congrArg List.length hs.m.l;rw [List.length_map] at h9;exact h9
 have hB0:ai w w:=ai.rfl_;refine enter (n:=22) Tryz.func69 rfl rfl rfl (an (af (mvp rfl (ab (av rfl) (ab (aa aO rfl) (ab (aa dc rfl) ?_))))));have hB0:ai _ w:=ai.rfl_;refine cQ (s':=({ s with votes:=[] }:Rf)) (a':=(⟨E,Ec,none,0,X,Xc,M,Mc,Sn,Sc,Q,Qc,LL⟩:Ra)) (v:=.slice _ _ _) cV rfl rfl rfl ((hb.from_ ai.rfl_)) (by exact ⟨by decide,rfl⟩) ?_;intro w1 O0_0 P0_0;have hC1:Chg (fun k=>k=g) w w1:=(ai.toChg hB0).only O0_0 rfl;refine ak (ag (an (af (mvp rfl (ab (av rfl) (ab (aa aO rfl) (ab (aa bw rfl) ?_)))))));have hB1:ai _ w1:=(ai.rfl_ (a:=w1));refine cQ (s':=({ s with votes:=[],next:=[] }:Rf)) (a':=(⟨E,Ec,none,0,none,0,M,Mc,Sn,Sc,Q,Qc,LL⟩:Ra)) (v:=.slice _ _ _) cV rfl rfl rfl ((P0_0.from_ (ai.rfl_ (a:=w1)))) (by exact ⟨by decide,rfl⟩) ?_;intro w2 O1_0 P1_0;replace hC1:=(hC1.next (ai.toChg hB1)).only O1_0 rfl;refine ak (ag (an (af (mvp rfl (ab (av rfl) (ab (aa aO rfl) (ab (aa cf rfl) ?_)))))));have hB2:ai _ w2:=(ai.rfl_ (a:=w2));refine cQ (s':=({ s with votes:=[],next:=[],mtch:=[] }:Rf)) (a':=(⟨E,Ec,none,0,none,0,none,0,Sn,Sc,Q,Qc,LL⟩:Ra)) (v:=.slice _ _ _) cV rfl rfl rfl ((P1_0.from_ (ai.rfl_ (a:=w2)))) (by exact ⟨by decide,rfl⟩) ?_;intro w3 O2_0 P2_0;replace hC1:=(hC1.next (ai.toChg hB2)).only O2_0 rfl;refine ak (ag (an (af (mvp rfl (ab (av rfl) (ab (aa aO rfl) (ab (aa ct rfl) ?_)))))));have hB3:ai _ w3:=(ai.rfl_ (a:=w3));refine cQ (s':=({ s with votes:=[],next:=[],mtch:=[],sent:=[] }:Rf)) (a':=(⟨E,Ec,none,0,none,0,none,0,none,0,Q,Qc,LL⟩:Ra)) (v:=.slice _ _ _) cV rfl rfl rfl ((P2_0.from_ (ai.rfl_ (a:=w3)))) (by exact ⟨by decide,rfl⟩) ?_;intro w4 O3_0 P3_0;replace hC1:=(hC1.next (ai.toChg hB3)).only O3_0 rfl;refine ak (ag (af (mvp rfl (ab (av rfl) (ab (aa aO rfl) (ab (aa bH rfl) ?_))))));have hB4:ai _ w4:=(ai.rfl_ (a:=w4));refine cQ (s':=({ s with votes:=[],next:=[],mtch:=[],sent:=[],reads:=[] }:Rf)) (a':=(⟨E,Ec,none,0,none,0,none,0,none,0,none,0,[]⟩:Ra)) (v:=.slice _ _ _) jj rfl rfl rfl ((P3_0.from_ (ai.rfl_ (a:=w4)))) (by exact ⟨by decide,rfl⟩) ?_;intro w5 O4_0 P4_0;replace hC1:=(hC1.next (ai.toChg hB4)).only O4_0 rfl;refine ak (cB (dN rfl (⟨rfl,(h.set (s':=fA s) (a':=(⟨E,Ec,none,0,none,0,none,0,none,0,none,0,[]⟩:Ra)) hs hC1 (bm.same hs.f.alone rfl rfl rfl rfl rfl rfl) P4_0).2⟩)))
theorem x_ (w0:World) (Z:Nat→Prop) (T g:Nat) (p:Sp) (w:World) (h:aQ w0 Z w T g p) (tm:Int) :
 Rt prog 124 [.pointer (some ⟨g,0,none⟩),.int .i64 tm] w (fun v w'=>v=.tuple #[]∧aQ w0 Z w' T g ⟨dh p.s tm,p.out⟩):=by
 obtain ⟨s,out⟩:=p;obtain ⟨tag,a,O,oc,L,hs⟩:=h.ex;obtain ⟨E,Ec,V,Vc,X,Xc,M,Mc,Sn,Sc,Q,Qc,LL⟩:=a;have hb:Blk w g T (rfV s (⟨E,Ec,V,Vc,X,Xc,M,Mc,Sn,Sc,Q,Qc,LL⟩:Ra)++[Value.slice O L.length oc]).toArray:=hs.b
 have hll:L.length=out.length:=by
  have h9:=congrArg List.length hs.m.l;rw [List.length_map] at h9;exact h9
 have hB0:ai w w:=ai.rfl_;refine enter (n:=38) Tryz.func124 rfl rfl rfl (an (af (mvp rfl (ab (av rfl) (ab (aa aO rfl) (ab (aa cT rfl) ?_))))));have hB0:ai w w:=ai.rfl_;refine cQ (s':=({ s with role:=0 }:Rf)) (a':=(⟨E,Ec,V,Vc,X,Xc,M,Mc,Sn,Sc,Q,Qc,LL⟩:Ra)) (v:=.int _ _) bj rfl rfl rfl (hb) (by exact ⟨by decide,rfl⟩) ?_;intro w1 O0_0 P0_0;have hC1:Chg (fun k=>k=g) w w1:=(ai.toChg hB0).only O0_0 rfl;refine ak (ag (an (af (mvp rfl (ab (av rfl) (ab (aa aO rfl) (ab (aa eM rfl) ?_)))))));have hB1:ai _ w1:=(ai.rfl_ (a:=w1));refine cQ (s':=({ s with role:=0,leader:=0 }:Rf)) (a':=(⟨E,Ec,V,Vc,X,Xc,M,Mc,Sn,Sc,Q,Qc,LL⟩:Ra)) (v:=.int _ _) bj rfl rfl rfl ((P0_0.from_ (ai.rfl_ (a:=w1)))) (by exact ⟨by decide,rfl⟩) ?_;intro w2 O1_0 P1_0;have hC2:=(hC1.next (ai.toChg hB1)).only O1_0 rfl;obtain ⟨hs3,h3⟩:=h.set (s':=({ s with role:=0,leader:=0 }:Rf)) (a':=(⟨E,Ec,V,Vc,X,Xc,M,Mc,Sn,Sc,Q,Qc,LL⟩:Ra)) hs hC2 (bm.same hs.f rfl rfl rfl rfl rfl rfl) P1_0;refine ak (ag (an (af (mvp rfl (aC uC (yx w0 Z T g ⟨({ s with role:=0,leader:=0 }:Rf),out⟩ _ (h3.from_ (ai.rfl_ (a:=w2)))) ?_)))));rintro v13 w3 ⟨rfl,h13⟩;have h13:aQ w0 Z w3 T g ⟨({ fA s with role:=0,leader:=0 }:Rf),out⟩:=h13;obtain ⟨tag9,a9,O9,oc9,L9,hs9⟩:=h13.ex;have hb9:=hs9.b;refine ak (ag (an (af (mvi rfl (mvp rfl (ab (av rfl) (ab (aa aO rfl) (ab (aa bJ rfl) (ab (au ao rfl (by exact (show _=some (Value.int .i64 s.term) from ch (hb9.from_ (ai.rfl_ (a:=w3))) 3 rfl))) ?_)))))))));refine ab (cy rfl rfl) (ak (ag (Bu rfl (fun Q4=>?_) (fun Q4=>?_))))
 ·refine an (af (mvp rfl (mvi rfl (ab (av rfl) (ab (aa aO rfl) (ab (aa bJ rfl) ?_))))));have hB4:ai _ w3:=(ai.rfl_ (a:=w3));refine cQ (s':=({ fA s with role:=0,leader:=0,term:=tm }:Rf)) (a':=a9) (v:=.int _ _) bj rfl rfl rfl ((hb9.from_ (ai.rfl_ (a:=w3)))) (by exact ⟨by decide,rfl⟩) ?_;intro w5 O4_0 P4_0;have hC4:Chg (fun k=>k=g) _ w5:=(ai.toChg hB4).only O4_0 rfl;refine ak (ag (an (af (mvp rfl (ab (av rfl) (ab (aa aO rfl) (ab (aa eZ rfl) ?_)))))));have hB5:ai _ w5:=(ai.rfl_ (a:=w5));refine cQ (s':=({ fA s with role:=0,leader:=0,term:=tm,vote:=0 }:Rf)) (a':=a9) (v:=.int _ _) bj rfl rfl rfl ((P4_0.from_ (ai.rfl_ (a:=w5)))) (by exact ⟨by decide,rfl⟩) ?_;intro w6 O5_0 P5_0;have hC5:=(hC4.next (ai.toChg hB5)).only O5_0 rfl;refine ak (ag (an (af (mvp rfl (ab (av rfl) (ab (aa aO rfl) (ab (aa eb rfl) ?_)))))));have hB6:ai _ w6:=(ai.rfl_ (a:=w6));refine cQ (s':=({ fA s with role:=0,leader:=0,term:=tm,vote:=0,part:=⟨#[]⟩ }:Rf)) (a':=a9) (v:=.string _) nb rfl rfl rfl ((P5_0.from_ (ai.rfl_ (a:=w6)))) (by exact ⟨by decide,rfl⟩) ?_;intro w7 O6_0 P6_0;have hC6:=(hC5.next (ai.toChg hB6)).only O6_0 rfl;refine ak (ag (af (mvp rfl (ab (av rfl) (ab (aa aO rfl) (ab (aa ea rfl) ?_))))));have hB7:ai _ w7:=(ai.rfl_ (a:=w7));refine cQ (s':=({ fA s with role:=0,leader:=0,term:=tm,vote:=0,part:=⟨#[]⟩,partOf:=0 }:Rf)) (a':=a9) (v:=.int _ _) bj rfl rfl rfl ((P6_0.from_ (ai.rfl_ (a:=w7)))) (by exact ⟨by decide,rfl⟩) ?_;intro w8 O7_0 P7_0;have hC7:=(hC6.next (ai.toChg hB7)).only O7_0 rfl;refine ak (cB (dN rfl (⟨rfl,?_⟩)));show aQ w0 Z _ T g ⟨dh s tm,out⟩;unfold dh;simp only
  first
   |(rw [if_pos (show s.term<tm by omega)];exact (h13.set (s':=({ fA s with role:=0,leader:=0,term:=tm,vote:=0,part:=⟨#[]⟩,partOf:=0 }:Rf)) (a':=a9) hs9 hC7 (bm.same hs9.f rfl rfl rfl rfl rfl rfl) P7_0).2)
   |(rw [if_neg (show ¬ s.term<tm by omega)];exact h13.from_ (ai.rfl_ (a:=w8)))
 refine aN (cB (dN rfl (⟨rfl,?_⟩)));show aQ w0 Z _ T g ⟨dh s tm,out⟩;unfold dh;simp only
 first
  |(rw [if_pos (show s.term<tm by omega)];exact (h13.set (s':=({ fA s with role:=0,leader:=0,term:=tm,vote:=0,part:=⟨#[]⟩,partOf:=0 }:Rf)) (a':=a9) hs9 hC7 (bm.same hs9.f rfl rfl rfl rfl rfl rfl) P7_0).2)
  |(rw [if_neg (show ¬ s.term<tm by omega)];exact h13.from_ (ai.rfl_ (a:=w3)))
theorem ku (w0:World) (Z:Nat→Prop) (T g:Nat) (p:Sp) (w:World) (h:aQ w0 Z w T g p) (tag:Nat→Nat) (a:Ra) (O:Option Addr) (oc:Nat) (L:List Msg) (hs:eX w Z T g tag p a O oc L) (hl:L.length≤1000) (m:Msg) (hE:w.ownsRow 0 99 3 (.slice m.E m.es.length m.c) m.es.length (dR m.es)∧Col tag (1000+2*L.length) m.E) :
 Rt prog 71 [.pointer (some ⟨g,0,none⟩),.agg (bC m).toArray] w (fun v w'=>v=.tuple #[]∧aQ w0 Z w' T g (p.tell (pl m))):=by
 refine enter (n:=26) Tryz.func71 rfl rfl rfl (an (af (bQ (v:=.agg _) rfl ?_)));intro b3 w1 E3 hb3 hk3;have hgb:=hs.b.lt;have h5:g≠b3:=by omega
 have hg3:w.heap.size≤b3:=Nat.le_of_eq hb3.symm;have hgA:=hs.b.from_ (ai.rfl_.next E3);refine ak (ag (an (af (mvp rfl (ab (av rfl) (ab (aa aO rfl) (ab (aa cu rfl) (ab (au ao rfl (by exact ch (hgA.from_ ai.rfl_) 0 rfl)) ?_))))))));refine ab (aa br rfl) ?_;have hM1:ai _ w1:=ai.rfl_;refine fp (v:=.int _ _) bj rfl rfl rfl ((hk3.from_ ai.rfl_)) (by show _<13;decide) ?_;intro w2 O1 P1;have hgB0:=(hgA.from_ hM1).only O1 h5;refine ak (ag (an (af (mvp rfl (ab (av rfl) (ab (aa aO rfl) (ab (aa bJ rfl) (ab (au ao rfl (by exact ch (hgB0.from_ ai.rfl_) 3 rfl)) ?_))))))));refine ab (aa cd rfl) ?_;have hM2:ai _ w2:=ai.rfl_;refine fp (v:=.int _ _) bj rfl rfl rfl ((P1.from_ ai.rfl_)) (by show _<13;decide) ?_;intro w3 O2 P2;have hgB:=(hgB0.from_ hM2).only O2 h5;have hB:ai w w3:=(((ai.rfl_.next E3).only O1 (hg3)).only O2 (hg3));have hX:Blk w3 b3 39 (bC { m with f:=p.s.id,tm:=p.s.term }).toArray:=P2;refine ak (ag ?_);apply uj 8 7 [22] [(16,eqp _),(17,eqp _),(18,eqp _),(19,eqp _),(20,eqp (.slice O L.length oc)),(21,eqp (.agg (bC { m with f:=p.s.id,tm:=p.s.term }).toArray)),(22,fun v w'=>∃ q,v=.slice (some ⟨q,0,none⟩) 1 1∧Blk w' q 39 (bC { m with f:=p.s.id,tm:=p.s.term }).toArray),(23,fun v w'=>∃ A2 c2,v=.slice A2 (L.length+1) c2∧w'.ownsRow 0 39 13 (.slice A2 (L.length+1) c2) (L.length+1) (L.flatMap bC++bC { m with f:=p.s.id,tm:=p.s.term })∧(∀ k,A2.map (·.block)=some k→O.map (·.block)=some k∨(w3).heap.size≤k))] (fun w'=>ai w3 w') (fun w'=>(w3).grownBy w' (O.map (·.block))) (by repeat first | exact cl | refine ck ?_ | refine bM ?_) (by kernel_rfl) (by kernel_rfl) (by kernel_rfl) ⟨ah _,ah _,ah _,ah _,ah _,ah _,(fun _ _ _ hF ⟨q,h1,h2⟩=>⟨q,h1,h2.from_ hF⟩),(fun _ _ _ hF ⟨A2,c2,h1,h2,h3⟩=>⟨A2,c2,h1,h2.kept_from hF,h3⟩),trivial⟩ (ai.rfl_.d1) (ai.rfl_.d1.grown _) (fun _ _ hF h=>h.next hF) (fun _ _ hF h=>dk h (hF.grown _))
 case hop=>
  constructor
  ·rintro-w5 hG5;exact aq (aB (v:=.pointer _) rfl) rfl
  constructor
  ·rintro-w6 D6;exact aq (aB (v:=.pointer _) rfl) rfl
  constructor
  ·rintro-w7 D7;rintro _ rfl;exact aq (av rfl) rfl
  constructor
  ·rintro-w8 D8;rintro _ rfl;exact aq (aa jG rfl) rfl
  constructor
  ·rintro-w9 D9;rintro _ rfl;exact aq (au jl rfl (show _=some (Value.slice O L.length oc) from (hgB.from_ D9).rd 22 rfl)) rfl
  constructor
  ·rintro-w10 D10;exact aq (aK (cs:=bC { m with f:=p.s.id,tm:=p.s.term }) bn aZ rfl ((hX.from_ D10).whole)) rfl
  constructor
  ·rintro-w11 D11;rintro v11_21 rfl;exact oF (qA (l:=[(0,.tmp 21)]) (cells:=(bC { m with f:=p.s.id,tm:=p.s.term }).toArray) g_ rfl rfl (by show Instr.fill _ _ [(0,Value.agg (bC { m with f:=p.s.id,tm:=p.s.term }).toArray)]=_;kernel_rfl)) (ai.rfl_.new _) ⟨_,rfl,Blk.new _ _ _⟩
  constructor
  ·intro h;cases h
  exact trivial
 case hmu=>
  rintro w13 D13;rintro v13_20 rfl v13_22 ⟨q13,rfl,hq13⟩;show tp ..;refine oG (news:=bC { m with f:=p.s.id,tm:=p.s.term }) g_ rfl (by decide) rfl ((hs.m.o.kept_from hB).kept_from D13) (Nat.zero_le _) rfl rfl ⟨_,_,rfl,hq13.whole⟩ (by simp [bC,Value.oneCell']) (by omega) (by omega) ?_;intro A3 c3 w3 ho3 hg3 hl3;exact ⟨dk (D13.grown _) hg3,⟨A3,c3,rfl,ho3,fun k hk=>(hl3 k hk).imp id fun e=>Nat.le_trans D13.size e⟩,fun t u ht h=>mi (by repeat first | exact trivial | refine ⟨.inl rfl,?_⟩ | refine ⟨.inr (fun _ h=>h),?_⟩) t u ht h⟩
 case hend=>
  rintro w14 hG14;rintro _ rfl _ rfl _ rfl _ rfl v20 rfl v21 rfl v22 _ v23 ⟨A23,c23,rfl,ho23,hL23⟩;show St ..;have hgD:=hG14;have hgC:=hgB.chg (Chg.of_grown (U:=fun k=>tag k=6) hgD (fun k hk=>hs.m.c k hk)) (fun e=>by rw [hs.gc] at e;cases e);refine ab (av rfl) (ab (aa jG rfl) (fp (v:=.slice _ _ _) pb rfl rfl rfl (hgC) (by show _<23;decide) ?_));intro w15 O3 P3;refine ak (cB (dN rfl (⟨rfl,h.push hs (x:={ m with f:=p.s.id,tm:=p.s.term }) hE hB hgD ho23 rfl (fun k hk=>(hL23 k hk).imp id fun e=>Nat.le_trans hB.size e) O3 P3⟩)))
theorem xr (s:Rf) (i:Int) (E:Option Addr) (c:Nat) (w:World) (h:cH w (.slice E s.es.length c) s.es) (hm:cK s.b s.t s.es=true) (hi:s.b≤i∧i≤bd s):Rt prog 82 [.agg #[.int .i64 s.b,.int .i64 s.t,.slice E s.es.length c],.int .i64 i] w fun v w'=>v=.tuple #[.int .i64 (dV s.b s.t s.es i),.bool true]∧ai w w':=
 tG s.b s.t i E s.es.length c s.es w h hm ⟨hi.1,by have:=(eY hm).1;have h2:bd s=s.b+s.es.length:=this;omega⟩
theorem vM (s:Rf) (i:Int) (E:Option Addr) (c:Nat) (w:World) (h:cH w (.slice E s.es.length c) s.es) (hm:cK s.b s.t s.es=true) (hi:s.b+1≤i∧i≤bd s+1):Rt prog 109 [.agg #[.int .i64 s.b,.int .i64 s.t,.slice E s.es.length c],.int .i64 i,.int .i64 16] w fun v w'=>(∃ A' c',v=.slice A' ((s.es.drop (i-s.b-1).toNat).take 16).length c'∧w'.ownsRow w.heap.size 99 3 (.slice A' ((s.es.drop (i-s.b-1).toNat).take 16).length c') ((s.es.drop (i-s.b-1).toNat).take 16).length (dR ((s.es.drop (i-s.b-1).toNat).take 16)))∧ai w w':=
 (rX s.b s.t i 16 E c s.es w h hm ⟨hi.1,by have:=(eY hm).1;have h2:bd s=s.b+s.es.length:=this;omega⟩ (by decide)).mono fun v w' ⟨A',k',c',hv,ho,hF⟩=>by
  have hk:k'=((s.es.drop (i-s.b-1).toNat).take 16).length:=by
   have h1:=ho.1;rw [kF] at h1;have:(16:Int).toNat=16:=rfl;rw [this] at h1;omega
  subst hk;exact ⟨⟨A',c',hv,ho⟩,hF⟩
theorem mK (w0:World) (Z:Nat→Prop) (T g:Nat) (p:Sp) (w:World) (h:aQ w0 Z w T g p) (hF:RfF p.s) (hr:p.s.role=2) (hl:p.out.length≤900) (to:Int) (hto:1≤to∧to≤p.s.nodes) :
 Rt prog 73 [.pointer (some ⟨g,0,none⟩),.int .i64 to] w (fun v w'=>v=.tuple #[]∧aQ w0 Z w' T g (if to=p.s.id then p else p.send to)):=by
 obtain ⟨tag,a,O,oc,L,hs⟩:=h.ex;obtain ⟨E,Ec,V,Vc,X,Xc,M,Mc,Sn,Sc,Q,Qc,LL⟩:=a;have hb:=hs.b;have hll:L.length=p.out.length:=by rw [←hs.m.l,List.length_map]
 obtain ⟨k,rfl⟩:∃ k:Nat,to=(k:Int)+1:=⟨(to-1).toNat,by omega⟩;have hXl:p.s.next.length=p.s.nodes.toNat:=by rw [hF.nx.1,dO hr]
 have hSl:p.s.sent.length=p.s.nodes.toNat:=by rw [hF.se.1,dO hr]
 have hkX:k<p.s.next.length:=by omega
 have hkS:k<p.s.sent.length:=by omega
 have hnx:=hF.nx.2 _ (List.getElem_mem hkX);have hse:=hF.se.2 _ (List.getElem_mem hkS);obtain ⟨gX,rfl⟩:∃ q,X=some ⟨q,0,none⟩:=c8 (hs.f.x (by decide)).1 (by omega);have hXo:w.ownsRow 0 3 1 (.slice (some ⟨gX,0,none⟩) p.s.next.length Xc) p.s.next.length (p.s.next.map iV):=(hs.f.x (by decide)).1;have hXc:=gk (l:=p.s.next) hXo k hkX;obtain ⟨gS,rfl⟩:∃ q,Sn=some ⟨q,0,none⟩:=c8 (hs.f.n (by decide)).1 (by omega);have hSo:w.ownsRow 0 3 1 (.slice (some ⟨gS,0,none⟩) p.s.sent.length Sc) p.s.sent.length (p.s.sent.map iV):=(hs.f.n (by decide)).1;have hSc:=gk (l:=p.s.sent) hSo k hkS;obtain ⟨na,hna⟩:∃ na:Nat,p.s.sent[k]=(na:Int):=⟨p.s.sent[k].toNat,by omega⟩;have he:cH w (.slice E p.s.es.length Ec) p.s.es:=hs.f.rd.e;have hzw:=h.zw;have hnn:=hF.n;have hsn:=hF.sn;have hbl:=hF.last;have hlb:dr p.s.b p.s.es=bd p.s:=rfl;have hpn:=oY hkX;have hpx:=oY hkS;have hid:=hF.i;refine enter (n:=132) Tryz.func73 rfl rfl rfl (an (an (af (mvi rfl (mvp rfl (ab (av rfl) (ab (aa aO rfl) (ab (aa cu rfl) (ab (au ao rfl (by exact (show _=some (Value.int .i64 p.s.id) from ch (hb.from_ ai.rfl_) 0 rfl))) ?_)))))))));refine ab (bh rfl rfl) (ak (ag (Bt rfl (fun Q1=>?_) (fun Q1=>?_))))
 ·refine aE (aG (dN rfl ?_));rw [if_pos (by omega)];exact ⟨rfl,h.from_ ai.rfl_⟩
 refine aN (ag (an (af (mvp rfl (ab (av rfl) (ab (aa aO rfl) (ab (aa bg rfl) (ab (aK (cs:=[.int .i64 p.s.b,.int .i64 p.s.t,.slice E p.s.es.length Ec]) dm cX rfl (jD (hb.from_ ai.rfl_))) (bU o7 ?_)))))))));intro b4 w2 E4 hb4 hk4;have hg4:w.heap.size≤b4:=by rw [hb4];exact (ai.rfl_).size
 refine cq (vs:=[_,_,_]) cX rfl rfl (by simp [Value.oneCell']) (hk4) rfl ?_;intro w3 O1 P1;have hP1:Blk w3 b4 24 #[.int .i64 p.s.b,.int .i64 p.s.t,.slice E p.s.es.length Ec]:=P1;refine ak (ag (an (af (mvi rfl (ab (cY rfl rfl (by omega)) (dX (t:=23) (v:=.int _ _) (v':=.int .i64 (k:Nat)) rfl (by exact bo (by omega)) ?_))))));refine asi rfl (ak (ag (an (an ?_))));apply bD 11 [(24,eqp _),(25,eqp _),(26,eqp _),(27,eqp _),(28,eqp _),(29,eqp _),(30,eqp _),(31,eqp (.int .i64 p.s.next[k])),(32,eqp _),(33,eqp (.int .i64 p.s.b)),(34,eqp _)] (by repeat first | exact cl | refine ck ?_ | refine bM ?_) (by kernel_rfl) (by kernel_rfl) ⟨ah _,ah _,ah _,ah _,ah _,ah _,ah _,ah _,ah _,ah _,ah _,trivial⟩
 case hop=>
  constructor
  ·rintro-w5 D5;exact aq (aB (v:=.pointer _) rfl) rfl
  constructor
  ·rintro-w6 D6;rintro _ rfl;exact aq (av rfl) rfl
  constructor
  ·rintro-w7 D7;rintro _ rfl;exact aq (aa aO rfl) rfl
  constructor
  ·rintro-w8 D8;rintro _ rfl;exact aq (aa bw rfl) rfl
  constructor
  ·rintro-w9 D9;rintro _ rfl;exact aq (au aR rfl (by exact (show _=some (Value.slice (some ⟨gX,0,none⟩) p.s.next.length Xc) from ch (hb.from_ (((ai.rfl_.next E4).only O1 (hg4)).next D9)) 15 rfl))) rfl
  constructor
  ·rintro-w10 D10;exact aq (aB (v:=.int _ _) rfl) rfl
  constructor
  ·rintro-w11 D11;rintro _ rfl _ rfl;exact aq (bp aV rfl rfl (by omega)) rfl
  constructor
  ·rintro-w12 D12;rintro _ rfl;exact aq (au ao rfl (by exact dg (((ai.rfl_.next E4).only O1 (hg4)).next D12) hXc)) rfl
  constructor
  ·rintro-w13 D13;exact aq (aa bT rfl) rfl
  constructor
  ·rintro-w14 D14;rintro _ rfl;exact aq (au ao rfl (by exact (hP1.from_ (ai.rfl_.next D14)).rd 0 rfl)) rfl
  constructor
  ·rintro-w15 D15;rintro v15_31 rfl v15_33 rfl;exact aq (eW rfl rfl) rfl
  exact trivial
 case hend=>
  intro w16 D16;rintro _ rfl _ rfl _ rfl _ rfl _ rfl _ rfl _ rfl v31 rfl _ rfl v33 rfl _ rfl;show St ..;refine ak (ag (Bu rfl (fun Q17=>?_) (fun Q17=>?_)))
  ·refine an (af (mvp rfl (ab (av rfl) (ab (aa aO rfl) (ab (aa ct rfl) (ab (au aR rfl (by exact (show _=some (Value.slice (some ⟨gS,0,none⟩) p.s.sent.length Sc) from ch (hb.from_ (((ai.rfl_.next E4).only O1 (hg4)).next D16)) 17 rfl))) ?_))))));refine mvi rfl (ab (bp aV rfl rfl (by omega)) (ab (au ao rfl (by exact dg (((ai.rfl_.next E4).only O1 (hg4)).next D16) hSc)) ?_));refine dX (t:=42) (v:=.int _ _) (v':=.int .i64 (na:Nat)) rfl (by exact congrArg (Value.int .i64) hna) ?_;refine asi rfl (ak (ag (an (af (mvi rfl (mvp rfl (ab (av rfl) (ab (aa aO rfl) (ab (aa cO rfl) (ab (au cD rfl (by exact (show _=some (Value.string p.s.snap) from ch (hb.from_ (((ai.rfl_.next E4).only O1 (hg4)).next D16)) 9 rfl))) ?_))))))))));refine ab (en (by kernel_rfl) rfl) (mvi rfl (ab (cY rfl rfl (by omega)) (ab (iE rfl rfl) (ab (b0 rfl rfl (by omega)) (dX (t:=53) (v:=.int _ _) (v':=.int .i64 ((min (na+1024) p.s.snap.size:Nat):Int)) rfl (by exact bo (by omega)) ?_)))));refine asi rfl (ak (ag (an ?_)));apply ig [(0,54,fun _ v _=>v=_),(1,55,fun _ v _=>v=_),(2,56,fun _ v _=>v=_),(3,57,fun _ v _=>v=_),(4,58,fun _ v _=>v=_),(5,59,fun _ v _=>v=_),(6,60,fun _ v _=>v=_),(7,61,fun _ v _=>v=_),(8,62,fun _ v _=>v=_),(9,63,fun _ v _=>v=_),(10,64,fun _ v _=>v=_),(11,65,fun _ v _=>v=_),(12,66,fun _ v _=>v=_),(13,67,fun _ v _=>v=_),(14,68,fun _ v _=>v=_),(15,69,fun _ v _=>v=_),(16,70,fun _ v _=>v=_),(17,71,fun _ v _=>v=_),(18,72,fun _ v _=>v=_),(19,73,fun _ v _=>v=_),(20,74,fun _ v _=>v=_),(21,75,fun _ v _=>v=_),(22,76,fun _ v _=>v=_),(23,77,fun _ v _=>v=_),(24,78,fun _ v _=>v=_),(25,79,fun _ v _=>v=_),(26,80,fun _ v _=>v=_),(27,81,fun _ v _=>v=_),(28,82,fun _ v _=>v=_),(29,83,fun _ v _=>v=_)] [29] (fun S w'=>(S 29=false→ai w16 w')∧(S 29=true→aQ w0 Z w' T g (p.tell (pl ({ zM with k:=5,t:=(k:Int)+1,ix:=p.s.b,lt:=p.s.t,rd:=p.s.round,a:=(na:Int),d:=p.s.snap.extract na (min (na+1024) p.s.snap.size),dn:=decide (min (na+1024) p.s.snap.size=p.s.snap.size) }:Msg))))) (by kernel_rfl) (by kernel_rfl) rfl rfl ⟨fun _ _ _ _ _ _ _ h=>h,fun _ _ _ _ _ _ _ h=>h,fun _ _ _ _ _ _ _ h=>h,fun _ _ _ _ _ _ _ h=>h,fun _ _ _ _ _ _ _ h=>h,fun _ _ _ _ _ _ _ h=>h,fun _ _ _ _ _ _ _ h=>h,fun _ _ _ _ _ _ _ h=>h,fun _ _ _ _ _ _ _ h=>h,fun _ _ _ _ _ _ _ h=>h,fun _ _ _ _ _ _ _ h=>h,fun _ _ _ _ _ _ _ h=>h,fun _ _ _ _ _ _ _ h=>h,fun _ _ _ _ _ _ _ h=>h,fun _ _ _ _ _ _ _ h=>h,fun _ _ _ _ _ _ _ h=>h,fun _ _ _ _ _ _ _ h=>h,fun _ _ _ _ _ _ _ h=>h,fun _ _ _ _ _ _ _ h=>h,fun _ _ _ _ _ _ _ h=>h,fun _ _ _ _ _ _ _ h=>h,fun _ _ _ _ _ _ _ h=>h,fun _ _ _ _ _ _ _ h=>h,fun _ _ _ _ _ _ _ h=>h,fun _ _ _ _ _ _ _ h=>h,fun _ _ _ _ _ _ _ h=>h,fun _ _ _ _ _ _ _ h=>h,fun _ _ _ _ _ _ _ h=>h,fun _ _ _ _ _ _ _ h=>h,fun _ _ _ _ _ _ _ h=>h,trivial⟩ (fun S i w1 w2 hq hF h=>⟨fun h0=>(h.1 (im h0)).next hF,fun h1=>(fun h=>h.from_ hF) (h.2 (ll (show 29≠i by rintro rfl;exact absurd hq (by decide)) h1))⟩) ⟨fun _=>ai.rfl_.d1,fun h=>by cases h⟩
   case hstep=>
    constructor
    ·rintro S L' w18 hU hmo hme hI hM hC hS ⟨-⟩;have hS0:S 29=false:=(aj hC (j:=29) rfl (by kernel_rfl) hS);have hM18:=hM.1 hS0;have e0:=hI.1 0 (dI rfl);exact aD [(0,_)] hU hmo hme hI hM (.head _) rfl rfl (by kernel_rfl) ⟨e0,trivial⟩ (aB (v:=.pointer _) rfl) ai.rfl_ (rfl)
    constructor
    ·rintro S L' w19 hU hmo hme hI hM hC hS ⟨-⟩;have hS0:S 29=false:=(aj hC (j:=29) rfl (by kernel_rfl) (aj hC (j:=28) rfl (by kernel_rfl) hS));have hM19:=hM.1 hS0;have e1:=hI.1 1 (dI rfl);exact aD [(1,_)] hU hmo hme hI hM (.tail _ (.head _)) rfl rfl (by kernel_rfl) ⟨e1,trivial⟩ (aB (v:=.int _ _) rfl) ai.rfl_ (rfl)
    constructor
    ·rintro S L' w20 hU hmo hme hI hM hC hS ⟨-⟩;have hS0:S 29=false:=(aj hC (j:=29) rfl (by kernel_rfl) (aj hC (j:=28) rfl (by kernel_rfl) (aj hC (j:=3) rfl (by kernel_rfl) hS)));have hM20:=hM.1 hS0;have e4:=hI.1 4 (dI rfl);exact aD [(4,_)] hU hmo hme hI hM (gM 2 rfl) rfl rfl (by kernel_rfl) ⟨e4,trivial⟩ (aa bT rfl) ai.rfl_ (rfl)
    constructor
    ·rintro S L' w21 hU hmo hme hI hM hC hS ⟨d2,-⟩;have hS0:S 29=false:=(aj hC (j:=29) rfl (by kernel_rfl) (aj hC (j:=28) rfl (by kernel_rfl) hS));have hM21:=hM.1 hS0;obtain ⟨v21_56,e56,h56⟩:=hI.get (i:=2) (gM 2 rfl) d2;obtain rfl:=h56;exact aD [(56,_)] hU hmo hme hI hM (gM 3 rfl) rfl rfl (by kernel_rfl) ⟨e56,trivial⟩ (au ao rfl (by exact (hP1.from_ ((ai.rfl_.next D16).next hM21)).rd 0 rfl)) ai.rfl_ (rfl)
    constructor
    ·rintro S L' w22 hU hmo hme hI hM hC hS ⟨-⟩;have hS0:S 29=false:=(aj hC (j:=29) rfl (by kernel_rfl) (aj hC (j:=28) rfl (by kernel_rfl) (aj hC (j:=5) rfl (by kernel_rfl) hS)));have hM22:=hM.1 hS0;have e4:=hI.1 4 (dI rfl);exact aD [(4,_)] hU hmo hme hI hM (gM 4 rfl) rfl rfl (by kernel_rfl) ⟨e4,trivial⟩ (aa my rfl) ai.rfl_ (rfl)
    constructor
    ·rintro S L' w23 hU hmo hme hI hM hC hS ⟨d4,-⟩;have hS0:S 29=false:=(aj hC (j:=29) rfl (by kernel_rfl) (aj hC (j:=28) rfl (by kernel_rfl) hS));have hM23:=hM.1 hS0;obtain ⟨v23_58,e58,h58⟩:=hI.get (i:=4) (gM 4 rfl) d4;obtain rfl:=h58;exact aD [(58,_)] hU hmo hme hI hM (gM 5 rfl) rfl rfl (by kernel_rfl) ⟨e58,trivial⟩ (au ao rfl (by exact (hP1.from_ ((ai.rfl_.next D16).next hM23)).rd 1 rfl)) ai.rfl_ (rfl)
    constructor
    ·rintro S L' w24 hU hmo hme hI hM hC hS ⟨-⟩;have hS0:S 29=false:=(aj hC (j:=29) rfl (by kernel_rfl) (aj hC (j:=28) rfl (by kernel_rfl) (aj hC (j:=10) rfl (by kernel_rfl) (aj hC (j:=9) rfl (by kernel_rfl) (aj hC (j:=8) rfl (by kernel_rfl) (aj hC (j:=7) rfl (by kernel_rfl) hS))))));have hM24:=hM.1 hS0;have e0:=hI.1 0 (dI rfl);exact aD [(0,_)] hU hmo hme hI hM (gM 6 rfl) rfl rfl (by kernel_rfl) ⟨e0,trivial⟩ (aB (v:=.pointer _) rfl) ai.rfl_ (rfl)
    constructor
    ·rintro S L' w25 hU hmo hme hI hM hC hS ⟨d6,-⟩;have hS0:S 29=false:=(aj hC (j:=29) rfl (by kernel_rfl) (aj hC (j:=28) rfl (by kernel_rfl) (aj hC (j:=10) rfl (by kernel_rfl) (aj hC (j:=9) rfl (by kernel_rfl) (aj hC (j:=8) rfl (by kernel_rfl) hS)))));have hM25:=hM.1 hS0;obtain ⟨v25_60,e60,h60⟩:=hI.get (i:=6) (gM 6 rfl) d6;obtain rfl:=h60;exact aD [(60,_)] hU hmo hme hI hM (gM 7 rfl) rfl rfl (by kernel_rfl) ⟨e60,trivial⟩ (av rfl) ai.rfl_ (rfl)
    constructor
    ·rintro S L' w26 hU hmo hme hI hM hC hS ⟨d7,-⟩;have hS0:S 29=false:=(aj hC (j:=29) rfl (by kernel_rfl) (aj hC (j:=28) rfl (by kernel_rfl) (aj hC (j:=10) rfl (by kernel_rfl) (aj hC (j:=9) rfl (by kernel_rfl) hS))));have hM26:=hM.1 hS0;obtain ⟨v26_61,e61,h61⟩:=hI.get (i:=7) (gM 7 rfl) d7;obtain rfl:=h61;exact aD [(61,_)] hU hmo hme hI hM (gM 8 rfl) rfl rfl (by kernel_rfl) ⟨e61,trivial⟩ (aa aO rfl) ai.rfl_ (rfl)
    constructor
    ·rintro S L' w27 hU hmo hme hI hM hC hS ⟨d8,-⟩;have hS0:S 29=false:=(aj hC (j:=29) rfl (by kernel_rfl) (aj hC (j:=28) rfl (by kernel_rfl) (aj hC (j:=10) rfl (by kernel_rfl) hS)));have hM27:=hM.1 hS0;obtain ⟨v27_62,e62,h62⟩:=hI.get (i:=8) (gM 8 rfl) d8;obtain rfl:=h62;exact aD [(62,_)] hU hmo hme hI hM (gM 9 rfl) rfl rfl (by kernel_rfl) ⟨e62,trivial⟩ (aa dz rfl) ai.rfl_ (rfl)
    constructor
    ·rintro S L' w28 hU hmo hme hI hM hC hS ⟨d9,-⟩;have hS0:S 29=false:=(aj hC (j:=29) rfl (by kernel_rfl) (aj hC (j:=28) rfl (by kernel_rfl) hS));have hM28:=hM.1 hS0;obtain ⟨v28_63,e63,h63⟩:=hI.get (i:=9) (gM 9 rfl) d9;obtain rfl:=h63;exact aD [(63,_)] hU hmo hme hI hM (gM 10 rfl) rfl rfl (by kernel_rfl) ⟨e63,trivial⟩ (au ao rfl (by exact (show _=some (Value.int .i64 p.s.round) from ch (hb.from_ ((((ai.rfl_.next E4).only O1 (hg4)).next D16).next hM28)) 18 rfl))) ai.rfl_ (rfl)
    constructor
    ·rintro S L' w29 hU hmo hme hI hM hC hS ⟨-⟩;have hS0:S 29=false:=(aj hC (j:=29) rfl (by kernel_rfl) (aj hC (j:=28) rfl (by kernel_rfl) hS));have hM29:=hM.1 hS0;have e6:=hI.1 6 (dI rfl);exact aD [(6,_)] hU hmo hme hI hM (gM 11 rfl) rfl rfl (by kernel_rfl) ⟨e6,trivial⟩ (aB (v:=.int _ _) rfl) ai.rfl_ (rfl)
    constructor
    ·rintro S L' w30 hU hmo hme hI hM hC hS ⟨-⟩;have hS0:S 29=false:=(aj hC (j:=29) rfl (by kernel_rfl) (aj hC (j:=28) rfl (by kernel_rfl) (aj hC (j:=19) rfl (by kernel_rfl) (aj hC (j:=16) rfl (by kernel_rfl) (aj hC (j:=15) rfl (by kernel_rfl) (aj hC (j:=14) rfl (by kernel_rfl) (aj hC (j:=13) rfl (by kernel_rfl) hS)))))));have hM30:=hM.1 hS0;have e0:=hI.1 0 (dI rfl);exact aD [(0,_)] hU hmo hme hI hM (gM 12 rfl) rfl rfl (by kernel_rfl) ⟨e0,trivial⟩ (aB (v:=.pointer _) rfl) ai.rfl_ (rfl)
    constructor
    ·rintro S L' w31 hU hmo hme hI hM hC hS ⟨d12,-⟩;have hS0:S 29=false:=(aj hC (j:=29) rfl (by kernel_rfl) (aj hC (j:=28) rfl (by kernel_rfl) (aj hC (j:=19) rfl (by kernel_rfl) (aj hC (j:=16) rfl (by kernel_rfl) (aj hC (j:=15) rfl (by kernel_rfl) (aj hC (j:=14) rfl (by kernel_rfl) hS))))));have hM31:=hM.1 hS0;obtain ⟨v31_66,e66,h66⟩:=hI.get (i:=12) (gM 12 rfl) d12;obtain rfl:=h66;exact aD [(66,_)] hU hmo hme hI hM (gM 13 rfl) rfl rfl (by kernel_rfl) ⟨e66,trivial⟩ (av rfl) ai.rfl_ (rfl)
    constructor
    ·rintro S L' w32 hU hmo hme hI hM hC hS ⟨d13,-⟩;have hS0:S 29=false:=(aj hC (j:=29) rfl (by kernel_rfl) (aj hC (j:=28) rfl (by kernel_rfl) (aj hC (j:=19) rfl (by kernel_rfl) (aj hC (j:=16) rfl (by kernel_rfl) (aj hC (j:=15) rfl (by kernel_rfl) hS)))));have hM32:=hM.1 hS0;obtain ⟨v32_67,e67,h67⟩:=hI.get (i:=13) (gM 13 rfl) d13;obtain rfl:=h67;exact aD [(67,_)] hU hmo hme hI hM (gM 14 rfl) rfl rfl (by kernel_rfl) ⟨e67,trivial⟩ (aa aO rfl) ai.rfl_ (rfl)
    constructor
    ·rintro S L' w33 hU hmo hme hI hM hC hS ⟨d14,-⟩;have hS0:S 29=false:=(aj hC (j:=29) rfl (by kernel_rfl) (aj hC (j:=28) rfl (by kernel_rfl) (aj hC (j:=19) rfl (by kernel_rfl) (aj hC (j:=16) rfl (by kernel_rfl) hS))));have hM33:=hM.1 hS0;obtain ⟨v33_68,e68,h68⟩:=hI.get (i:=14) (gM 14 rfl) d14;obtain rfl:=h68;exact aD [(68,_)] hU hmo hme hI hM (gM 15 rfl) rfl rfl (by kernel_rfl) ⟨e68,trivial⟩ (aa cO rfl) ai.rfl_ (rfl)
    constructor
    ·rintro S L' w34 hU hmo hme hI hM hC hS ⟨d15,-⟩;have hS0:S 29=false:=(aj hC (j:=29) rfl (by kernel_rfl) (aj hC (j:=28) rfl (by kernel_rfl) (aj hC (j:=19) rfl (by kernel_rfl) hS)));have hM34:=hM.1 hS0;obtain ⟨v34_69,e69,h69⟩:=hI.get (i:=15) (gM 15 rfl) d15;obtain rfl:=h69;exact aD [(69,_)] hU hmo hme hI hM (gM 16 rfl) rfl rfl (by kernel_rfl) ⟨e69,trivial⟩ (au cD rfl (by exact (show _=some (Value.string p.s.snap) from ch (hb.from_ ((((ai.rfl_.next E4).only O1 (hg4)).next D16).next hM34)) 9 rfl))) ai.rfl_ (rfl)
    constructor
    ·rintro S L' w35 hU hmo hme hI hM hC hS ⟨-⟩;have hS0:S 29=false:=(aj hC (j:=29) rfl (by kernel_rfl) (aj hC (j:=28) rfl (by kernel_rfl) (aj hC (j:=19) rfl (by kernel_rfl) hS)));have hM35:=hM.1 hS0;have e6:=hI.1 6 (dI rfl);exact aD [(6,_)] hU hmo hme hI hM (gM 17 rfl) rfl rfl (by kernel_rfl) ⟨e6,trivial⟩ (aB (v:=.int _ _) rfl) ai.rfl_ (rfl)
    constructor
    ·rintro S L' w36 hU hmo hme hI hM hC hS ⟨-⟩;have hS0:S 29=false:=(aj hC (j:=29) rfl (by kernel_rfl) (aj hC (j:=28) rfl (by kernel_rfl) (aj hC (j:=19) rfl (by kernel_rfl) hS)));have hM36:=hM.1 hS0;have e7:=hI.1 7 (dI rfl);exact aD [(7,_)] hU hmo hme hI hM (gM 18 rfl) rfl rfl (by kernel_rfl) ⟨e7,trivial⟩ (aB (v:=.int _ _) rfl) ai.rfl_ (rfl)
    constructor
    ·rintro S L' w37 hU hmo hme hI hM hC hS ⟨d16,d17,d18,-⟩;have hS0:S 29=false:=(aj hC (j:=29) rfl (by kernel_rfl) (aj hC (j:=28) rfl (by kernel_rfl) hS));have hM37:=hM.1 hS0;obtain ⟨v37_70,e70,h70⟩:=hI.get (i:=16) (gM 16 rfl) d16;obtain rfl:=h70;obtain ⟨v37_71,e71,h71⟩:=hI.get (i:=17) (gM 17 rfl) d17;obtain rfl:=h71;obtain ⟨v37_72,e72,h72⟩:=hI.get (i:=18) (gM 18 rfl) d18;obtain rfl:=h72;exact aD [(70,_),(71,_),(72,_)] hU hmo hme hI hM (gM 19 rfl) rfl rfl (by kernel_rfl) ⟨e70,e71,e72,trivial⟩ ((oq (l:=na) (h:=min (na+1024) p.s.snap.size) qm rfl rfl rfl (by omega) (by omega) rfl)) (ai.rfl_) (rfl)
    constructor
    ·rintro S L' w38 hU hmo hme hI hM hC hS ⟨-⟩;have hS0:S 29=false:=(aj hC (j:=29) rfl (by kernel_rfl) (aj hC (j:=28) rfl (by kernel_rfl) (aj hC (j:=27) rfl (by kernel_rfl) hS)));have hM38:=hM.1 hS0;have e7:=hI.1 7 (dI rfl);exact aD [(7,_)] hU hmo hme hI hM (gM 20 rfl) rfl rfl (by kernel_rfl) ⟨e7,trivial⟩ (aB (v:=.int _ _) rfl) ai.rfl_ (rfl)
    constructor
    ·rintro S L' w39 hU hmo hme hI hM hC hS ⟨-⟩;have hS0:S 29=false:=(aj hC (j:=29) rfl (by kernel_rfl) (aj hC (j:=28) rfl (by kernel_rfl) (aj hC (j:=27) rfl (by kernel_rfl) (aj hC (j:=26) rfl (by kernel_rfl) (aj hC (j:=25) rfl (by kernel_rfl) (aj hC (j:=24) rfl (by kernel_rfl) (aj hC (j:=23) rfl (by kernel_rfl) (aj hC (j:=22) rfl (by kernel_rfl) hS))))))));have hM39:=hM.1 hS0;have e0:=hI.1 0 (dI rfl);exact aD [(0,_)] hU hmo hme hI hM (gM 21 rfl) rfl rfl (by kernel_rfl) ⟨e0,trivial⟩ (aB (v:=.pointer _) rfl) ai.rfl_ (rfl)
    constructor
    ·rintro S L' w40 hU hmo hme hI hM hC hS ⟨d21,-⟩;have hS0:S 29=false:=(aj hC (j:=29) rfl (by kernel_rfl) (aj hC (j:=28) rfl (by kernel_rfl) (aj hC (j:=27) rfl (by kernel_rfl) (aj hC (j:=26) rfl (by kernel_rfl) (aj hC (j:=25) rfl (by kernel_rfl) (aj hC (j:=24) rfl (by kernel_rfl) (aj hC (j:=23) rfl (by kernel_rfl) hS)))))));have hM40:=hM.1 hS0;obtain ⟨v40_75,e75,h75⟩:=hI.get (i:=21) (gM 21 rfl) d21;obtain rfl:=h75;exact aD [(75,_)] hU hmo hme hI hM (gM 22 rfl) rfl rfl (by kernel_rfl) ⟨e75,trivial⟩ (av rfl) ai.rfl_ (rfl)
    constructor
    ·rintro S L' w41 hU hmo hme hI hM hC hS ⟨d22,-⟩;have hS0:S 29=false:=(aj hC (j:=29) rfl (by kernel_rfl) (aj hC (j:=28) rfl (by kernel_rfl) (aj hC (j:=27) rfl (by kernel_rfl) (aj hC (j:=26) rfl (by kernel_rfl) (aj hC (j:=25) rfl (by kernel_rfl) (aj hC (j:=24) rfl (by kernel_rfl) hS))))));have hM41:=hM.1 hS0;obtain ⟨v41_76,e76,h76⟩:=hI.get (i:=22) (gM 22 rfl) d22;obtain rfl:=h76;exact aD [(76,_)] hU hmo hme hI hM (gM 23 rfl) rfl rfl (by kernel_rfl) ⟨e76,trivial⟩ (aa aO rfl) ai.rfl_ (rfl)
    constructor
    ·rintro S L' w42 hU hmo hme hI hM hC hS ⟨d23,-⟩;have hS0:S 29=false:=(aj hC (j:=29) rfl (by kernel_rfl) (aj hC (j:=28) rfl (by kernel_rfl) (aj hC (j:=27) rfl (by kernel_rfl) (aj hC (j:=26) rfl (by kernel_rfl) (aj hC (j:=25) rfl (by kernel_rfl) hS)))));have hM42:=hM.1 hS0;obtain ⟨v42_77,e77,h77⟩:=hI.get (i:=23) (gM 23 rfl) d23;obtain rfl:=h77;exact aD [(77,_)] hU hmo hme hI hM (gM 24 rfl) rfl rfl (by kernel_rfl) ⟨e77,trivial⟩ (aa cO rfl) ai.rfl_ (rfl)
    constructor
    ·rintro S L' w43 hU hmo hme hI hM hC hS ⟨d24,-⟩;have hS0:S 29=false:=(aj hC (j:=29) rfl (by kernel_rfl) (aj hC (j:=28) rfl (by kernel_rfl) (aj hC (j:=27) rfl (by kernel_rfl) (aj hC (j:=26) rfl (by kernel_rfl) hS))));have hM43:=hM.1 hS0;obtain ⟨v43_78,e78,h78⟩:=hI.get (i:=24) (gM 24 rfl) d24;obtain rfl:=h78;exact aD [(78,_)] hU hmo hme hI hM (gM 25 rfl) rfl rfl (by kernel_rfl) ⟨e78,trivial⟩ (au cD rfl (by exact (show _=some (Value.string p.s.snap) from ch (hb.from_ ((((ai.rfl_.next E4).only O1 (hg4)).next D16).next hM43)) 9 rfl))) ai.rfl_ (rfl)
    constructor
    ·rintro S L' w44 hU hmo hme hI hM hC hS ⟨d25,-⟩;have hS0:S 29=false:=(aj hC (j:=29) rfl (by kernel_rfl) (aj hC (j:=28) rfl (by kernel_rfl) (aj hC (j:=27) rfl (by kernel_rfl) hS)));have hM44:=hM.1 hS0;obtain ⟨v44_79,e79,h79⟩:=hI.get (i:=25) (gM 25 rfl) d25;obtain rfl:=h79;exact aD [(79,_)] hU hmo hme hI hM (gM 26 rfl) rfl rfl (by kernel_rfl) ⟨e79,trivial⟩ (en (by kernel_rfl) rfl) ai.rfl_ (rfl)
    constructor
    ·rintro S L' w45 hU hmo hme hI hM hC hS ⟨d20,d26,-⟩;have hS0:S 29=false:=(aj hC (j:=29) rfl (by kernel_rfl) (aj hC (j:=28) rfl (by kernel_rfl) hS));have hM45:=hM.1 hS0;obtain ⟨v45_74,e74,h74⟩:=hI.get (i:=20) (gM 20 rfl) d20;obtain rfl:=h74;obtain ⟨v45_80,e80,h80⟩:=hI.get (i:=26) (gM 26 rfl) d26;obtain rfl:=h80;exact aD [(74,_),(80,_)] hU hmo hme hI hM (gM 27 rfl) rfl rfl (by kernel_rfl) ⟨e74,e80,trivial⟩ ((eI (bh rfl rfl) (congrArg Value.bool (show (((min (na+1024) p.s.snap.size:Nat):Int)==((p.s.snap.size:Nat):Int))=decide (min (na+1024) p.s.snap.size=p.s.snap.size) by rw [Bool.eq_iff_iff,beq_iff_eq,decide_eq_true_eq];omega)))) (ai.rfl_) (rfl)
    constructor
    ·rintro S L' w46 hU hmo hme hI hM hC hS ⟨d1,d3,d5,d10,d11,d19,d27,-⟩;have hS0:S 29=false:=(aj hC (j:=29) rfl (by kernel_rfl) hS);have hM46:=hM.1 hS0;obtain ⟨v46_55,e55,h55⟩:=hI.get (i:=1) (.tail _ (.head _)) d1;obtain rfl:=h55;obtain ⟨v46_57,e57,h57⟩:=hI.get (i:=3) (gM 3 rfl) d3;obtain rfl:=h57;obtain ⟨v46_59,e59,h59⟩:=hI.get (i:=5) (gM 5 rfl) d5;obtain rfl:=h59;obtain ⟨v46_64,e64,h64⟩:=hI.get (i:=10) (gM 10 rfl) d10;obtain rfl:=h64;obtain ⟨v46_65,e65,h65⟩:=hI.get (i:=11) (gM 11 rfl) d11;obtain rfl:=h65;obtain ⟨v46_73,e73,h73⟩:=hI.get (i:=19) (gM 19 rfl) d19;obtain rfl:=h73;obtain ⟨v46_81,e81,h81⟩:=hI.get (i:=27) (gM 27 rfl) d27;obtain rfl:=h81;exact aD [(55,_),(57,_),(59,_),(64,_),(65,_),(73,_),(81,_)] hU hmo hme hI hM (gM 28 rfl) rfl rfl (by kernel_rfl) ⟨e55,e57,e59,e64,e65,e73,e81,trivial⟩ (c6 (l:=[(0,.const (.int .i64 5)),(2,.tmp 55),(4,.tmp 57),(5,.tmp 59),(7,.tmp 64),(10,.tmp 65),(11,.tmp 73),(12,.tmp 81)]) (fZ _ _ _ _ _ _ _)) ai.rfl_ (rfl)
    constructor
    ·rintro S L' w47 hU hmo hme hI hM hC hS ⟨d0,d28,-⟩;have hS0:S 29=false:=hS;have hM47:=hM.1 hS0;obtain ⟨v47_54,e54,h54⟩:=hI.get (i:=0) (.head _) d0;obtain rfl:=h54;obtain ⟨v47_82,e82,h82⟩:=hI.get (i:=28) (gM 28 rfl) d28;obtain rfl:=h82;refine fo (al:=[.tmp 54,.tmp 82]) [(54,_),(82,_)] hU hI (gM 29 rfl) (by kernel_rfl) ⟨e54,e82,trivial⟩ jm ((ku w0 Z T g p _ (h.from_ ((((ai.rfl_.next E4).only O1 (hg4)).next D16).next hM47)) tag _ O oc L (hs.from_ ((((ai.rfl_.next E4).only O1 (hg4)).next D16).next hM47)) (by omega) ({ zM with k:=5,t:=(k:Int)+1,ix:=p.s.b,lt:=p.s.t,rd:=p.s.round,a:=(na:Int),d:=p.s.snap.extract na (min (na+1024) p.s.snap.size),dn:=decide (min (na+1024) p.s.snap.size=p.s.snap.size) }:Msg) ⟨dQ,Col.none⟩).mono ?_);rintro v9 w2 ⟨rfl,hS2⟩;exact ⟨⟨fun h0=>(by rw [gL] at h0;cases h0),fun _=>hS2⟩,rfl,⟨fun _ _ _ h=>h,fun _ _ _ h=>h,fun _ _ _ h=>h,fun _ _ _ h=>h,fun _ _ _ h=>h,fun _ _ _ h=>h,fun _ _ _ h=>h,fun _ _ _ h=>h,fun _ _ _ h=>h,fun _ _ _ h=>h,fun _ _ _ h=>h,fun _ _ _ h=>h,fun _ _ _ h=>h,fun _ _ _ h=>h,fun _ _ _ h=>h,fun _ _ _ h=>h,fun _ _ _ h=>h,fun _ _ _ h=>h,fun _ _ _ h=>h,fun _ _ _ h=>h,fun _ _ _ h=>h,fun _ _ _ h=>h,fun _ _ _ h=>h,fun _ _ _ h=>h,fun _ _ _ h=>h,fun _ _ _ h=>h,fun _ _ _ h=>h,fun _ _ _ h=>h,fun _ _ _ h=>h,fun _ _ _ h=>h,trivial⟩⟩
    exact trivial
   case hend=>
    intro w48 hM;obtain hS9:=hM.2 rfl;rintro v48_54 rfl v48_55 rfl v48_56 rfl v48_57 rfl v48_58 rfl v48_59 rfl v48_60 rfl v48_61 rfl v48_62 rfl v48_63 rfl v48_64 rfl v48_65 rfl v48_66 rfl v48_67 rfl v48_68 rfl v48_69 rfl v48_70 rfl v48_71 rfl v48_72 rfl v48_73 rfl v48_74 rfl v48_75 rfl v48_76 rfl v48_77 rfl v48_78 rfl v48_79 rfl v48_80 rfl v48_81 rfl v48_82 rfl v48_83 rfl;refine fB (ag (aE (aG (dN rfl ?_))))
    have e9:p.send ((k:Int)+1)=p.tell (pl ({ zM with k:=5,t:=(k:Int)+1,ix:=p.s.b,lt:=p.s.t,rd:=p.s.round,a:=(na:Int),d:=p.s.snap.extract na (min (na+1024) p.s.snap.size),dn:=decide (min (na+1024) p.s.snap.size=p.s.snap.size) }:Msg)):=by
     unfold Sp.send;rw [oh (by rw [hpn];omega) (by rw [hpx,hna])];rfl
    rw [if_neg (by omega),e9];exact ⟨rfl,hS9.from_ ai.rfl_⟩
  refine aN (ag (an ?_));apply bD 16 [(85,eqp _),(86,eqp _),(87,eqp _),(88,eqp _),(89,eqp _),(90,eqp _),(91,eqp _),(92,eqp _),(93,eqp (.int .i64 p.s.next[k])),(94,eqp _),(95,eqp _),(84,eqp _),(96,eqp _),(97,eqp _),(8,eqp _),(9,eqp _)] (by repeat first | exact cl | refine ck ?_ | refine bM ?_) (by kernel_rfl) (by kernel_rfl) ⟨ah _,ah _,ah _,ah _,ah _,ah _,ah _,ah _,ah _,ah _,ah _,ah _,ah _,ah _,ah _,ah _,trivial⟩
  case hop=>
   constructor
   ·rintro-w50 D50;exact aq (aK (cs:=[.int .i64 p.s.b,.int .i64 p.s.t,.slice E p.s.es.length Ec]) dm cX rfl ((hP1.from_ ((ai.rfl_.next D16).next D50)).whole)) rfl
   constructor
   ·rintro-w51 D51;exact aq (aB (v:=.pointer _) rfl) rfl
   constructor
   ·rintro-w52 D52;rintro _ rfl;exact aq (av rfl) rfl
   constructor
   ·rintro-w53 D53;rintro _ rfl;exact aq (aa aO rfl) rfl
   constructor
   ·rintro-w54 D54;rintro _ rfl;exact aq (aa bw rfl) rfl
   constructor
   ·rintro-w55 D55;rintro _ rfl;exact aq (au aR rfl (by exact (show _=some (Value.slice (some ⟨gX,0,none⟩) p.s.next.length Xc) from ch (hb.from_ ((((ai.rfl_.next E4).only O1 (hg4)).next D16).next D55)) 15 rfl))) rfl
   constructor
   ·rintro-w56 D56;exact aq (aB (v:=.int _ _) rfl) rfl
   constructor
   ·rintro-w57 D57;rintro _ rfl _ rfl;exact aq (bp aV rfl rfl (by omega)) rfl
   constructor
   ·rintro-w58 D58;rintro _ rfl;exact aq (au ao rfl (by exact dg ((((ai.rfl_.next E4).only O1 (hg4)).next D16).next D58) hXc)) rfl
   constructor
   ·rintro-w59 D59;rintro v59_93 rfl;exact aq (cY rfl rfl (by omega)) rfl
   constructor
   ·rintro-w60 D60;rintro _ rfl _ rfl;refine gD pe ((xr p.s (p.s.next[k]-1) E Ec _ (he.from_ ((((ai.rfl_.next E4).only O1 (hg4)).next D16).next D60)) hF.lg (by omega)).mono ?_);rintro v _ ⟨rfl,E60'⟩;exact ⟨E60',rfl⟩
   constructor
   ·rintro-w61 D61;rintro _ rfl;exact aq (aB (v:=.tuple _) rfl) rfl
   constructor
   ·rintro-w62 D62;rintro _ rfl;exact aq (aY rfl rfl) rfl
   constructor
   ·rintro-w63 D63;rintro _ rfl;exact aq (aY rfl rfl) rfl
   constructor
   ·rintro-w64 D64;rintro _ rfl;exact aq (dp (v:=.int _ _) rfl) rfl
   constructor
   ·rintro-w65 D65;rintro _ rfl;exact aq (dp (v:=.bool _) rfl) rfl
   exact trivial
  case hend=>
   intro w66 D66;rintro _ rfl _ rfl _ rfl _ rfl _ rfl _ rfl _ rfl _ rfl v93 rfl _ rfl _ rfl _ rfl _ rfl _ rfl _ rfl _ rfl;show St ..;refine ak (ag ?_);apply ig [(0,98,fun _ v _=>v=_),(1,99,fun _ v _=>v=_),(2,100,fun _ v _=>v=_),(3,101,fun _ v _=>v=_),(4,102,fun _ v _=>v=_),(5,103,fun _ v _=>v=_),(6,104,fun _ v _=>v=_),(7,105,fun _ v _=>v=_),(8,106,fun _ v _=>v=_),(9,107,fun _ v _=>v=_),(10,108,fun _ v _=>v=_),(11,109,fun _ v _=>v=_),(12,110,fun _ v _=>v=_),(13,111,fun _ v _=>v=_),(14,112,fun _ v _=>v=_),(15,113,fun _ v _=>v=_),(16,114,fun _ v _=>v=_),(17,115,fun _ v _=>v=_),(18,116,fun _ v _=>v=_),(19,117,fun _ v _=>v=_),(20,118,fun _ v _=>v=_),(21,119,fun _ v _=>v=_),(22,120,fun _ v _=>v=_),(23,121,fun _ v _=>v=_),(24,122,fun _ v _=>v=_),(25,123,fun _ v _=>v=_),(26,124,fun _ v _=>v=_),(27,125,fun _ v _=>v=_),(28,126,fun _ v _=>v=_),(29,127,fun _ v _=>v=_),(30,128,fun _ v _=>v=_),(31,129,fun S v w9=>S 33=false→(fun (v:Value) (w':World)=>∃ (A':Option Addr) (c':Nat),v=Value.slice A' ((p.s.es.drop (p.s.next[k]-p.s.b-1).toNat).take 16).length c'∧w'.ownsRow w.heap.size 99 3 (.slice A' ((p.s.es.drop (p.s.next[k]-p.s.b-1).toNat).take 16).length c') ((p.s.es.drop (p.s.next[k]-p.s.b-1).toNat).take 16).length (dR ((p.s.es.drop (p.s.next[k]-p.s.b-1).toNat).take 16))) v w9),(32,130,fun S v w9=>S 33=false→(fun (v:Value) (w':World)=>∃ (A':Option Addr) (c':Nat),v=Value.agg (bC ({ zM with k:=3,t:=(k:Int)+1,ix:=p.s.next[k]-1,lt:=dV p.s.b p.s.t p.s.es (p.s.next[k]-1),cm:=p.s.commit,rd:=p.s.round,E:=A',c:=c',es:=(p.s.es.drop (p.s.next[k]-p.s.b-1).toNat).take 16 }:Msg)).toArray∧w'.ownsRow w.heap.size 99 3 (.slice A' ((p.s.es.drop (p.s.next[k]-p.s.b-1).toNat).take 16).length c') ((p.s.es.drop (p.s.next[k]-p.s.b-1).toNat).take 16).length (dR ((p.s.es.drop (p.s.next[k]-p.s.b-1).toNat).take 16))) v w9),(33,131,fun _ v _=>v=_)] [33] (fun S w'=>(S 33=false→ai w66 w')∧(S 33=true→∃ A' c',aQ w0 Z w' T g (p.tell (pl ({ zM with k:=3,t:=(k:Int)+1,ix:=p.s.next[k]-1,lt:=dV p.s.b p.s.t p.s.es (p.s.next[k]-1),cm:=p.s.commit,rd:=p.s.round,E:=A',c:=c',es:=(p.s.es.drop (p.s.next[k]-p.s.b-1).toNat).take 16 }:Msg))))) (by kernel_rfl) (by kernel_rfl) rfl rfl ⟨fun _ _ _ _ _ _ _ h=>h,fun _ _ _ _ _ _ _ h=>h,fun _ _ _ _ _ _ _ h=>h,fun _ _ _ _ _ _ _ h=>h,fun _ _ _ _ _ _ _ h=>h,fun _ _ _ _ _ _ _ h=>h,fun _ _ _ _ _ _ _ h=>h,fun _ _ _ _ _ _ _ h=>h,fun _ _ _ _ _ _ _ h=>h,fun _ _ _ _ _ _ _ h=>h,fun _ _ _ _ _ _ _ h=>h,fun _ _ _ _ _ _ _ h=>h,fun _ _ _ _ _ _ _ h=>h,fun _ _ _ _ _ _ _ h=>h,fun _ _ _ _ _ _ _ h=>h,fun _ _ _ _ _ _ _ h=>h,fun _ _ _ _ _ _ _ h=>h,fun _ _ _ _ _ _ _ h=>h,fun _ _ _ _ _ _ _ h=>h,fun _ _ _ _ _ _ _ h=>h,fun _ _ _ _ _ _ _ h=>h,fun _ _ _ _ _ _ _ h=>h,fun _ _ _ _ _ _ _ h=>h,fun _ _ _ _ _ _ _ h=>h,fun _ _ _ _ _ _ _ h=>h,fun _ _ _ _ _ _ _ h=>h,fun _ _ _ _ _ _ _ h=>h,fun _ _ _ _ _ _ _ h=>h,fun _ _ _ _ _ _ _ h=>h,fun _ _ _ _ _ _ _ h=>h,fun _ _ _ _ _ _ _ h=>h,fun S i v w1 w2 hq hF h h0=>((fun _ _ _ hF ⟨a,b,h1,h2⟩=>⟨a,b,h1,h2.kept_from hF⟩)) v w1 w2 hF (h (im h0)),fun S i v w1 w2 hq hF h h0=>((fun _ _ _ hF ⟨a,b,h1,h2⟩=>⟨a,b,h1,h2.kept_from hF⟩)) v w1 w2 hF (h (im h0)),fun _ _ _ _ _ _ _ h=>h,trivial⟩ (fun S i w1 w2 hq hF h=>⟨fun h0=>(h.1 (im h0)).next hF,fun h1=>(fun h=>h.imp fun _ h=>h.imp fun _ h=>h.from_ hF) (h.2 (ll (show 33≠i by rintro rfl;exact absurd hq (by decide)) h1))⟩) ⟨fun _=>ai.rfl_.d1,fun h=>by cases h⟩
   case hstep=>
    constructor
    ·rintro S L' w67 hU hmo hme hI hM hC hS ⟨-⟩;have hS0:S 33=false:=(aj hC (j:=33) rfl (by kernel_rfl) hS);have hM67:=hM.1 hS0;have e0:=hI.1 0 (dI rfl);exact aD [(0,_)] hU hmo hme hI hM (.head _) rfl rfl (by kernel_rfl) ⟨e0,trivial⟩ (aB (v:=.pointer _) rfl) ai.rfl_ (rfl)
    constructor
    ·rintro S L' w68 hU hmo hme hI hM hC hS ⟨-⟩;have hS0:S 33=false:=(aj hC (j:=33) rfl (by kernel_rfl) (aj hC (j:=32) rfl (by kernel_rfl) hS));have hM68:=hM.1 hS0;have e1:=hI.1 1 (dI rfl);exact aD [(1,_)] hU hmo hme hI hM (.tail _ (.head _)) rfl rfl (by kernel_rfl) ⟨e1,trivial⟩ (aB (v:=.int _ _) rfl) ai.rfl_ (rfl)
    constructor
    ·rintro S L' w69 hU hmo hme hI hM hC hS ⟨-⟩;have hS0:S 33=false:=(aj hC (j:=33) rfl (by kernel_rfl) (aj hC (j:=32) rfl (by kernel_rfl) (aj hC (j:=10) rfl (by kernel_rfl) (aj hC (j:=9) rfl (by kernel_rfl) (aj hC (j:=8) rfl (by kernel_rfl) (aj hC (j:=6) rfl (by kernel_rfl) (aj hC (j:=5) rfl (by kernel_rfl) (aj hC (j:=4) rfl (by kernel_rfl) (aj hC (j:=3) rfl (by kernel_rfl) hS)))))))));have hM69:=hM.1 hS0;have e0:=hI.1 0 (dI rfl);exact aD [(0,_)] hU hmo hme hI hM (gM 2 rfl) rfl rfl (by kernel_rfl) ⟨e0,trivial⟩ (aB (v:=.pointer _) rfl) ai.rfl_ (rfl)
    constructor
    ·rintro S L' w70 hU hmo hme hI hM hC hS ⟨d2,-⟩;have hS0:S 33=false:=(aj hC (j:=33) rfl (by kernel_rfl) (aj hC (j:=32) rfl (by kernel_rfl) (aj hC (j:=10) rfl (by kernel_rfl) (aj hC (j:=9) rfl (by kernel_rfl) (aj hC (j:=8) rfl (by kernel_rfl) (aj hC (j:=6) rfl (by kernel_rfl) (aj hC (j:=5) rfl (by kernel_rfl) (aj hC (j:=4) rfl (by kernel_rfl) hS))))))));have hM70:=hM.1 hS0;obtain ⟨v70_100,e100,h100⟩:=hI.get (i:=2) (gM 2 rfl) d2;obtain rfl:=h100;exact aD [(100,_)] hU hmo hme hI hM (gM 3 rfl) rfl rfl (by kernel_rfl) ⟨e100,trivial⟩ (av rfl) ai.rfl_ (rfl)
    constructor
    ·rintro S L' w71 hU hmo hme hI hM hC hS ⟨d3,-⟩;have hS0:S 33=false:=(aj hC (j:=33) rfl (by kernel_rfl) (aj hC (j:=32) rfl (by kernel_rfl) (aj hC (j:=10) rfl (by kernel_rfl) (aj hC (j:=9) rfl (by kernel_rfl) (aj hC (j:=8) rfl (by kernel_rfl) (aj hC (j:=6) rfl (by kernel_rfl) (aj hC (j:=5) rfl (by kernel_rfl) hS)))))));have hM71:=hM.1 hS0;obtain ⟨v71_101,e101,h101⟩:=hI.get (i:=3) (gM 3 rfl) d3;obtain rfl:=h101;exact aD [(101,_)] hU hmo hme hI hM (gM 4 rfl) rfl rfl (by kernel_rfl) ⟨e101,trivial⟩ (aa aO rfl) ai.rfl_ (rfl)
    constructor
    ·rintro S L' w72 hU hmo hme hI hM hC hS ⟨d4,-⟩;have hS0:S 33=false:=(aj hC (j:=33) rfl (by kernel_rfl) (aj hC (j:=32) rfl (by kernel_rfl) (aj hC (j:=10) rfl (by kernel_rfl) (aj hC (j:=9) rfl (by kernel_rfl) (aj hC (j:=8) rfl (by kernel_rfl) (aj hC (j:=6) rfl (by kernel_rfl) hS))))));have hM72:=hM.1 hS0;obtain ⟨v72_102,e102,h102⟩:=hI.get (i:=4) (gM 4 rfl) d4;obtain rfl:=h102;exact aD [(102,_)] hU hmo hme hI hM (gM 5 rfl) rfl rfl (by kernel_rfl) ⟨e102,trivial⟩ (aa bw rfl) ai.rfl_ (rfl)
    constructor
    ·rintro S L' w73 hU hmo hme hI hM hC hS ⟨d5,-⟩;have hS0:S 33=false:=(aj hC (j:=33) rfl (by kernel_rfl) (aj hC (j:=32) rfl (by kernel_rfl) (aj hC (j:=10) rfl (by kernel_rfl) (aj hC (j:=9) rfl (by kernel_rfl) (aj hC (j:=8) rfl (by kernel_rfl) hS)))));have hM73:=hM.1 hS0;obtain ⟨v73_103,e103,h103⟩:=hI.get (i:=5) (gM 5 rfl) d5;obtain rfl:=h103;exact aD [(103,_)] hU hmo hme hI hM (gM 6 rfl) rfl rfl (by kernel_rfl) ⟨e103,trivial⟩ (au aR rfl (by exact (show _=some (Value.slice (some ⟨gX,0,none⟩) p.s.next.length Xc) from ch (hb.from_ (((((ai.rfl_.next E4).only O1 (hg4)).next D16).next D66).next hM73)) 15 rfl))) ai.rfl_ (rfl)
    constructor
    ·rintro S L' w74 hU hmo hme hI hM hC hS ⟨-⟩;have hS0:S 33=false:=(aj hC (j:=33) rfl (by kernel_rfl) (aj hC (j:=32) rfl (by kernel_rfl) (aj hC (j:=10) rfl (by kernel_rfl) (aj hC (j:=9) rfl (by kernel_rfl) (aj hC (j:=8) rfl (by kernel_rfl) hS)))));have hM74:=hM.1 hS0;have e5:=hI.1 5 (dI rfl);exact aD [(5,_)] hU hmo hme hI hM (gM 7 rfl) rfl rfl (by kernel_rfl) ⟨e5,trivial⟩ (aB (v:=.int _ _) rfl) ai.rfl_ (rfl)
    constructor
    ·rintro S L' w75 hU hmo hme hI hM hC hS ⟨d6,d7,-⟩;have hS0:S 33=false:=(aj hC (j:=33) rfl (by kernel_rfl) (aj hC (j:=32) rfl (by kernel_rfl) (aj hC (j:=10) rfl (by kernel_rfl) (aj hC (j:=9) rfl (by kernel_rfl) hS))));have hM75:=hM.1 hS0;obtain ⟨v75_104,e104,h104⟩:=hI.get (i:=6) (gM 6 rfl) d6;obtain rfl:=h104;obtain ⟨v75_105,e105,h105⟩:=hI.get (i:=7) (gM 7 rfl) d7;obtain rfl:=h105;exact aD [(104,_),(105,_)] hU hmo hme hI hM (gM 8 rfl) rfl rfl (by kernel_rfl) ⟨e104,e105,trivial⟩ (bp aV rfl rfl (by omega)) ai.rfl_ (rfl)
    constructor
    ·rintro S L' w76 hU hmo hme hI hM hC hS ⟨d8,-⟩;have hS0:S 33=false:=(aj hC (j:=33) rfl (by kernel_rfl) (aj hC (j:=32) rfl (by kernel_rfl) (aj hC (j:=10) rfl (by kernel_rfl) hS)));have hM76:=hM.1 hS0;obtain ⟨v76_106,e106,h106⟩:=hI.get (i:=8) (gM 8 rfl) d8;obtain rfl:=h106;exact aD [(106,_)] hU hmo hme hI hM (gM 9 rfl) rfl rfl (by kernel_rfl) ⟨e106,trivial⟩ (au ao rfl (by exact dg (((((ai.rfl_.next E4).only O1 (hg4)).next D16).next D66).next hM76) hXc)) ai.rfl_ (rfl)
    constructor
    ·rintro S L' w77 hU hmo hme hI hM hC hS ⟨d9,-⟩;have hS0:S 33=false:=(aj hC (j:=33) rfl (by kernel_rfl) (aj hC (j:=32) rfl (by kernel_rfl) hS));have hM77:=hM.1 hS0;obtain ⟨v77_107,e107,h107⟩:=hI.get (i:=9) (gM 9 rfl) d9;obtain rfl:=h107;exact aD [(107,_)] hU hmo hme hI hM (gM 10 rfl) rfl rfl (by kernel_rfl) ⟨e107,trivial⟩ (cY rfl rfl (by omega)) ai.rfl_ (rfl)
    constructor
    ·rintro S L' w78 hU hmo hme hI hM hC hS ⟨-⟩;have hS0:S 33=false:=(aj hC (j:=33) rfl (by kernel_rfl) (aj hC (j:=32) rfl (by kernel_rfl) hS));have hM78:=hM.1 hS0;have e8:=hI.1 8 (dI rfl);exact aD [(8,_)] hU hmo hme hI hM (gM 11 rfl) rfl rfl (by kernel_rfl) ⟨e8,trivial⟩ (aB (v:=.int _ _) rfl) ai.rfl_ (rfl)
    constructor
    ·rintro S L' w79 hU hmo hme hI hM hC hS ⟨-⟩;have hS0:S 33=false:=(aj hC (j:=33) rfl (by kernel_rfl) (aj hC (j:=32) rfl (by kernel_rfl) (aj hC (j:=16) rfl (by kernel_rfl) (aj hC (j:=15) rfl (by kernel_rfl) (aj hC (j:=14) rfl (by kernel_rfl) (aj hC (j:=13) rfl (by kernel_rfl) hS))))));have hM79:=hM.1 hS0;have e0:=hI.1 0 (dI rfl);exact aD [(0,_)] hU hmo hme hI hM (gM 12 rfl) rfl rfl (by kernel_rfl) ⟨e0,trivial⟩ (aB (v:=.pointer _) rfl) ai.rfl_ (rfl)
    constructor
    ·rintro S L' w80 hU hmo hme hI hM hC hS ⟨d12,-⟩;have hS0:S 33=false:=(aj hC (j:=33) rfl (by kernel_rfl) (aj hC (j:=32) rfl (by kernel_rfl) (aj hC (j:=16) rfl (by kernel_rfl) (aj hC (j:=15) rfl (by kernel_rfl) (aj hC (j:=14) rfl (by kernel_rfl) hS)))));have hM80:=hM.1 hS0;obtain ⟨v80_110,e110,h110⟩:=hI.get (i:=12) (gM 12 rfl) d12;obtain rfl:=h110;exact aD [(110,_)] hU hmo hme hI hM (gM 13 rfl) rfl rfl (by kernel_rfl) ⟨e110,trivial⟩ (av rfl) ai.rfl_ (rfl)
    constructor
    ·rintro S L' w81 hU hmo hme hI hM hC hS ⟨d13,-⟩;have hS0:S 33=false:=(aj hC (j:=33) rfl (by kernel_rfl) (aj hC (j:=32) rfl (by kernel_rfl) (aj hC (j:=16) rfl (by kernel_rfl) (aj hC (j:=15) rfl (by kernel_rfl) hS))));have hM81:=hM.1 hS0;obtain ⟨v81_111,e111,h111⟩:=hI.get (i:=13) (gM 13 rfl) d13;obtain rfl:=h111;exact aD [(111,_)] hU hmo hme hI hM (gM 14 rfl) rfl rfl (by kernel_rfl) ⟨e111,trivial⟩ (aa aO rfl) ai.rfl_ (rfl)
    constructor
    ·rintro S L' w82 hU hmo hme hI hM hC hS ⟨d14,-⟩;have hS0:S 33=false:=(aj hC (j:=33) rfl (by kernel_rfl) (aj hC (j:=32) rfl (by kernel_rfl) (aj hC (j:=16) rfl (by kernel_rfl) hS)));have hM82:=hM.1 hS0;obtain ⟨v82_112,e112,h112⟩:=hI.get (i:=14) (gM 14 rfl) d14;obtain rfl:=h112;exact aD [(112,_)] hU hmo hme hI hM (gM 15 rfl) rfl rfl (by kernel_rfl) ⟨e112,trivial⟩ (aa dv rfl) ai.rfl_ (rfl)
    constructor
    ·rintro S L' w83 hU hmo hme hI hM hC hS ⟨d15,-⟩;have hS0:S 33=false:=(aj hC (j:=33) rfl (by kernel_rfl) (aj hC (j:=32) rfl (by kernel_rfl) hS));have hM83:=hM.1 hS0;obtain ⟨v83_113,e113,h113⟩:=hI.get (i:=15) (gM 15 rfl) d15;obtain rfl:=h113;exact aD [(113,_)] hU hmo hme hI hM (gM 16 rfl) rfl rfl (by kernel_rfl) ⟨e113,trivial⟩ (au ao rfl (by exact (show _=some (Value.int .i64 p.s.commit) from ch (hb.from_ (((((ai.rfl_.next E4).only O1 (hg4)).next D16).next D66).next hM83)) 10 rfl))) ai.rfl_ (rfl)
    constructor
    ·rintro S L' w84 hU hmo hme hI hM hC hS ⟨-⟩;have hS0:S 33=false:=(aj hC (j:=33) rfl (by kernel_rfl) (aj hC (j:=32) rfl (by kernel_rfl) (aj hC (j:=21) rfl (by kernel_rfl) (aj hC (j:=20) rfl (by kernel_rfl) (aj hC (j:=19) rfl (by kernel_rfl) (aj hC (j:=18) rfl (by kernel_rfl) hS))))));have hM84:=hM.1 hS0;have e0:=hI.1 0 (dI rfl);exact aD [(0,_)] hU hmo hme hI hM (gM 17 rfl) rfl rfl (by kernel_rfl) ⟨e0,trivial⟩ (aB (v:=.pointer _) rfl) ai.rfl_ (rfl)
    constructor
    ·rintro S L' w85 hU hmo hme hI hM hC hS ⟨d17,-⟩;have hS0:S 33=false:=(aj hC (j:=33) rfl (by kernel_rfl) (aj hC (j:=32) rfl (by kernel_rfl) (aj hC (j:=21) rfl (by kernel_rfl) (aj hC (j:=20) rfl (by kernel_rfl) (aj hC (j:=19) rfl (by kernel_rfl) hS)))));have hM85:=hM.1 hS0;obtain ⟨v85_115,e115,h115⟩:=hI.get (i:=17) (gM 17 rfl) d17;obtain rfl:=h115;exact aD [(115,_)] hU hmo hme hI hM (gM 18 rfl) rfl rfl (by kernel_rfl) ⟨e115,trivial⟩ (av rfl) ai.rfl_ (rfl)
    constructor
    ·rintro S L' w86 hU hmo hme hI hM hC hS ⟨d18,-⟩;have hS0:S 33=false:=(aj hC (j:=33) rfl (by kernel_rfl) (aj hC (j:=32) rfl (by kernel_rfl) (aj hC (j:=21) rfl (by kernel_rfl) (aj hC (j:=20) rfl (by kernel_rfl) hS))));have hM86:=hM.1 hS0;obtain ⟨v86_116,e116,h116⟩:=hI.get (i:=18) (gM 18 rfl) d18;obtain rfl:=h116;exact aD [(116,_)] hU hmo hme hI hM (gM 19 rfl) rfl rfl (by kernel_rfl) ⟨e116,trivial⟩ (aa aO rfl) ai.rfl_ (rfl)
    constructor
    ·rintro S L' w87 hU hmo hme hI hM hC hS ⟨d19,-⟩;have hS0:S 33=false:=(aj hC (j:=33) rfl (by kernel_rfl) (aj hC (j:=32) rfl (by kernel_rfl) (aj hC (j:=21) rfl (by kernel_rfl) hS)));have hM87:=hM.1 hS0;obtain ⟨v87_117,e117,h117⟩:=hI.get (i:=19) (gM 19 rfl) d19;obtain rfl:=h117;exact aD [(117,_)] hU hmo hme hI hM (gM 20 rfl) rfl rfl (by kernel_rfl) ⟨e117,trivial⟩ (aa dz rfl) ai.rfl_ (rfl)
    constructor
    ·rintro S L' w88 hU hmo hme hI hM hC hS ⟨d20,-⟩;have hS0:S 33=false:=(aj hC (j:=33) rfl (by kernel_rfl) (aj hC (j:=32) rfl (by kernel_rfl) hS));have hM88:=hM.1 hS0;obtain ⟨v88_118,e118,h118⟩:=hI.get (i:=20) (gM 20 rfl) d20;obtain rfl:=h118;exact aD [(118,_)] hU hmo hme hI hM (gM 21 rfl) rfl rfl (by kernel_rfl) ⟨e118,trivial⟩ (au ao rfl (by exact (show _=some (Value.int .i64 p.s.round) from ch (hb.from_ (((((ai.rfl_.next E4).only O1 (hg4)).next D16).next D66).next hM88)) 18 rfl))) ai.rfl_ (rfl)
    constructor
    ·rintro S L' w89 hU hmo hme hI hM hC hS ⟨-⟩;have hS0:S 33=false:=(aj hC (j:=33) rfl (by kernel_rfl) (aj hC (j:=32) rfl (by kernel_rfl) (aj hC (j:=31) rfl (by kernel_rfl) hS)));have hM89:=hM.1 hS0;have e4:=hI.1 4 (dI rfl);exact aD [(4,_)] hU hmo hme hI hM (gM 22 rfl) rfl rfl (by kernel_rfl) ⟨e4,trivial⟩ (aK (cs:=[.int .i64 p.s.b,.int .i64 p.s.t,.slice E p.s.es.length Ec]) dm cX rfl ((hP1.from_ (((ai.rfl_.next D16).next D66).next hM89)).whole)) ai.rfl_ (rfl)
    constructor
    ·rintro S L' w90 hU hmo hme hI hM hC hS ⟨-⟩;have hS0:S 33=false:=(aj hC (j:=33) rfl (by kernel_rfl) (aj hC (j:=32) rfl (by kernel_rfl) (aj hC (j:=31) rfl (by kernel_rfl) (aj hC (j:=30) rfl (by kernel_rfl) (aj hC (j:=29) rfl (by kernel_rfl) (aj hC (j:=27) rfl (by kernel_rfl) (aj hC (j:=26) rfl (by kernel_rfl) (aj hC (j:=25) rfl (by kernel_rfl) (aj hC (j:=24) rfl (by kernel_rfl) hS)))))))));have hM90:=hM.1 hS0;have e0:=hI.1 0 (dI rfl);exact aD [(0,_)] hU hmo hme hI hM (gM 23 rfl) rfl rfl (by kernel_rfl) ⟨e0,trivial⟩ (aB (v:=.pointer _) rfl) ai.rfl_ (rfl)
    constructor
    ·rintro S L' w91 hU hmo hme hI hM hC hS ⟨d23,-⟩;have hS0:S 33=false:=(aj hC (j:=33) rfl (by kernel_rfl) (aj hC (j:=32) rfl (by kernel_rfl) (aj hC (j:=31) rfl (by kernel_rfl) (aj hC (j:=30) rfl (by kernel_rfl) (aj hC (j:=29) rfl (by kernel_rfl) (aj hC (j:=27) rfl (by kernel_rfl) (aj hC (j:=26) rfl (by kernel_rfl) (aj hC (j:=25) rfl (by kernel_rfl) hS))))))));have hM91:=hM.1 hS0;obtain ⟨v91_121,e121,h121⟩:=hI.get (i:=23) (gM 23 rfl) d23;obtain rfl:=h121;exact aD [(121,_)] hU hmo hme hI hM (gM 24 rfl) rfl rfl (by kernel_rfl) ⟨e121,trivial⟩ (av rfl) ai.rfl_ (rfl)
    constructor
    ·rintro S L' w92 hU hmo hme hI hM hC hS ⟨d24,-⟩;have hS0:S 33=false:=(aj hC (j:=33) rfl (by kernel_rfl) (aj hC (j:=32) rfl (by kernel_rfl) (aj hC (j:=31) rfl (by kernel_rfl) (aj hC (j:=30) rfl (by kernel_rfl) (aj hC (j:=29) rfl (by kernel_rfl) (aj hC (j:=27) rfl (by kernel_rfl) (aj hC (j:=26) rfl (by kernel_rfl) hS)))))));have hM92:=hM.1 hS0;obtain ⟨v92_122,e122,h122⟩:=hI.get (i:=24) (gM 24 rfl) d24;obtain rfl:=h122;exact aD [(122,_)] hU hmo hme hI hM (gM 25 rfl) rfl rfl (by kernel_rfl) ⟨e122,trivial⟩ (aa aO rfl) ai.rfl_ (rfl)
    constructor
    ·rintro S L' w93 hU hmo hme hI hM hC hS ⟨d25,-⟩;have hS0:S 33=false:=(aj hC (j:=33) rfl (by kernel_rfl) (aj hC (j:=32) rfl (by kernel_rfl) (aj hC (j:=31) rfl (by kernel_rfl) (aj hC (j:=30) rfl (by kernel_rfl) (aj hC (j:=29) rfl (by kernel_rfl) (aj hC (j:=27) rfl (by kernel_rfl) hS))))));have hM93:=hM.1 hS0;obtain ⟨v93_123,e123,h123⟩:=hI.get (i:=25) (gM 25 rfl) d25;obtain rfl:=h123;exact aD [(123,_)] hU hmo hme hI hM (gM 26 rfl) rfl rfl (by kernel_rfl) ⟨e123,trivial⟩ (aa bw rfl) ai.rfl_ (rfl)
    constructor
    ·rintro S L' w94 hU hmo hme hI hM hC hS ⟨d26,-⟩;have hS0:S 33=false:=(aj hC (j:=33) rfl (by kernel_rfl) (aj hC (j:=32) rfl (by kernel_rfl) (aj hC (j:=31) rfl (by kernel_rfl) (aj hC (j:=30) rfl (by kernel_rfl) (aj hC (j:=29) rfl (by kernel_rfl) hS)))));have hM94:=hM.1 hS0;obtain ⟨v94_124,e124,h124⟩:=hI.get (i:=26) (gM 26 rfl) d26;obtain rfl:=h124;exact aD [(124,_)] hU hmo hme hI hM (gM 27 rfl) rfl rfl (by kernel_rfl) ⟨e124,trivial⟩ (au aR rfl (by exact (show _=some (Value.slice (some ⟨gX,0,none⟩) p.s.next.length Xc) from ch (hb.from_ (((((ai.rfl_.next E4).only O1 (hg4)).next D16).next D66).next hM94)) 15 rfl))) ai.rfl_ (rfl)
    constructor
    ·rintro S L' w95 hU hmo hme hI hM hC hS ⟨-⟩;have hS0:S 33=false:=(aj hC (j:=33) rfl (by kernel_rfl) (aj hC (j:=32) rfl (by kernel_rfl) (aj hC (j:=31) rfl (by kernel_rfl) (aj hC (j:=30) rfl (by kernel_rfl) (aj hC (j:=29) rfl (by kernel_rfl) hS)))));have hM95:=hM.1 hS0;have e5:=hI.1 5 (dI rfl);exact aD [(5,_)] hU hmo hme hI hM (gM 28 rfl) rfl rfl (by kernel_rfl) ⟨e5,trivial⟩ (aB (v:=.int _ _) rfl) ai.rfl_ (rfl)
    constructor
    ·rintro S L' w96 hU hmo hme hI hM hC hS ⟨d27,d28,-⟩;have hS0:S 33=false:=(aj hC (j:=33) rfl (by kernel_rfl) (aj hC (j:=32) rfl (by kernel_rfl) (aj hC (j:=31) rfl (by kernel_rfl) (aj hC (j:=30) rfl (by kernel_rfl) hS))));have hM96:=hM.1 hS0;obtain ⟨v96_125,e125,h125⟩:=hI.get (i:=27) (gM 27 rfl) d27;obtain rfl:=h125;obtain ⟨v96_126,e126,h126⟩:=hI.get (i:=28) (gM 28 rfl) d28;obtain rfl:=h126;exact aD [(125,_),(126,_)] hU hmo hme hI hM (gM 29 rfl) rfl rfl (by kernel_rfl) ⟨e125,e126,trivial⟩ (bp aV rfl rfl (by omega)) ai.rfl_ (rfl)
    constructor
    ·rintro S L' w97 hU hmo hme hI hM hC hS ⟨d29,-⟩;have hS0:S 33=false:=(aj hC (j:=33) rfl (by kernel_rfl) (aj hC (j:=32) rfl (by kernel_rfl) (aj hC (j:=31) rfl (by kernel_rfl) hS)));have hM97:=hM.1 hS0;obtain ⟨v97_127,e127,h127⟩:=hI.get (i:=29) (gM 29 rfl) d29;obtain rfl:=h127;exact aD [(127,_)] hU hmo hme hI hM (gM 30 rfl) rfl rfl (by kernel_rfl) ⟨e127,trivial⟩ (au ao rfl (by exact dg (((((ai.rfl_.next E4).only O1 (hg4)).next D16).next D66).next hM97) hXc)) ai.rfl_ (rfl)
    constructor
    ·rintro S L' w98 hU hmo hme hI hM hC hS ⟨d22,d30,-⟩;have hS0:S 33=false:=(aj hC (j:=33) rfl (by kernel_rfl) hS);have hM98:=hM.1 hS0;obtain ⟨v98_120,e120,h120⟩:=hI.get (i:=22) (gM 22 rfl) d22;obtain rfl:=h120;obtain ⟨v98_128,e128,h128⟩:=hI.get (i:=30) (gM 30 rfl) d30;obtain rfl:=h128;refine iY (al:=[.tmp 120,.tmp 128,.const (.int .i64 16)]) [(120,_),(128,_)] hU hmo hme hI hM (gM 31 rfl) rfl (by kernel_rfl) ⟨e120,e128,trivial⟩ sZ ((vM p.s p.s.next[k] E Ec _ (he.from_ (((((ai.rfl_.next E4).only O1 (hg4)).next D16).next D66).next hM98)) hF.lg (by omega)).mono ?_);rintro v w2 ⟨⟨a,b,rfl,h⟩,hF⟩;exact ⟨hF,fun _=>⟨a,b,rfl,er h ((((((ai.rfl_.next E4).only O1 (hg4)).next D16).next D66).next hM98)).size⟩⟩
    constructor
    ·rintro S L' w99 hU hmo hme hI hM hC hS ⟨d1,d10,d11,d16,d21,d31,-⟩;have hS0:S 33=false:=(aj hC (j:=33) rfl (by kernel_rfl) hS);have hM99:=hM.1 hS0;obtain ⟨v99_99,e99,h99⟩:=hI.get (i:=1) (.tail _ (.head _)) d1;obtain rfl:=h99;obtain ⟨v99_108,e108,h108⟩:=hI.get (i:=10) (gM 10 rfl) d10;obtain rfl:=h108;obtain ⟨v99_109,e109,h109⟩:=hI.get (i:=11) (gM 11 rfl) d11;obtain rfl:=h109;obtain ⟨v99_114,e114,h114⟩:=hI.get (i:=16) (gM 16 rfl) d16;obtain rfl:=h114;obtain ⟨v99_119,e119,h119⟩:=hI.get (i:=21) (gM 21 rfl) d21;obtain rfl:=h119;obtain ⟨v99_129,e129,h129⟩:=hI.get (i:=31) (gM 31 rfl) d31;obtain ⟨A129,c129,rfl,ho129⟩:=h129 hS0;exact aD [(99,_),(108,_),(109,_),(114,_),(119,_),(129,_)] hU hmo hme hI hM (gM 32 rfl) rfl rfl (by kernel_rfl) ⟨e99,e108,e109,e114,e119,e129,trivial⟩ ((c6 (l:=[(0,.const (.int .i64 3)),(2,.tmp 99),(4,.tmp 108),(5,.tmp 109),(6,.tmp 114),(7,.tmp 119),(9,.tmp 129)]) (gG _ _ _ _ _ _ _ _))) (ai.rfl_) (fun _=>⟨A129,c129,rfl,ho129⟩)
    constructor
    ·rintro S L' w100 hU hmo hme hI hM hC hS ⟨d0,d32,d31,-⟩;have hS0:S 33=false:=hS;have hM100:=hM.1 hS0;obtain ⟨v100_98,e98,h98⟩:=hI.get (i:=0) (.head _) d0;obtain rfl:=h98;obtain ⟨v100_130,e130,h130⟩:=hI.get (i:=32) (gM 32 rfl) d32;obtain ⟨A130,c130,rfl,ho130⟩:=h130 hS0;refine fo (al:=[.tmp 98,.tmp 130]) [(98,_),(130,_)] hU hI (gM 33 rfl) (by kernel_rfl) ⟨e98,e130,trivial⟩ jm ((ku w0 Z T g p _ (h.from_ (((((ai.rfl_.next E4).only O1 (hg4)).next D16).next D66).next hM100)) _ _ O oc L (hs.new hzw (((((ai.rfl_.next E4).only O1 (hg4)).next D16).next D66).next hM100) (1000+2*L.length)) (by omega) ({ zM with k:=3,t:=(k:Int)+1,ix:=p.s.next[k]-1,lt:=dV p.s.b p.s.t p.s.es (p.s.next[k]-1),cm:=p.s.commit,rd:=p.s.round,E:=A130,c:=c130,es:=(p.s.es.drop (p.s.next[k]-p.s.b-1).toNat).take 16 }:Msg) ⟨er (base':=0) (ho130.kept_from ai.rfl_) (Nat.zero_le _),fun q hq=>dH (ee ho130 q hq).1⟩).mono ?_);rintro v9 w2 ⟨rfl,hS2⟩;exact ⟨⟨fun h0=>(by rw [gL] at h0;cases h0),fun _=>⟨_,_,hS2⟩⟩,rfl,⟨fun _ _ _ h=>h,fun _ _ _ h=>h,fun _ _ _ h=>h,fun _ _ _ h=>h,fun _ _ _ h=>h,fun _ _ _ h=>h,fun _ _ _ h=>h,fun _ _ _ h=>h,fun _ _ _ h=>h,fun _ _ _ h=>h,fun _ _ _ h=>h,fun _ _ _ h=>h,fun _ _ _ h=>h,fun _ _ _ h=>h,fun _ _ _ h=>h,fun _ _ _ h=>h,fun _ _ _ h=>h,fun _ _ _ h=>h,fun _ _ _ h=>h,fun _ _ _ h=>h,fun _ _ _ h=>h,fun _ _ _ h=>h,fun _ _ _ h=>h,fun _ _ _ h=>h,fun _ _ _ h=>h,fun _ _ _ h=>h,fun _ _ _ h=>h,fun _ _ _ h=>h,fun _ _ _ h=>h,fun _ _ _ h=>h,fun _ _ _ h=>h,fun _ _ _ _ h0=>(by rw [gL] at h0;cases h0),fun _ _ _ _ h0=>(by rw [gL] at h0;cases h0),fun _ _ _ h=>h,trivial⟩⟩
    exact trivial
   case hend=>
    intro w101 hM;obtain ⟨A9,c9,hS9⟩:=hM.2 rfl;rintro v101_98 rfl v101_99 rfl v101_100 rfl v101_101 rfl v101_102 rfl v101_103 rfl v101_104 rfl v101_105 rfl v101_106 rfl v101_107 rfl v101_108 rfl v101_109 rfl v101_110 rfl v101_111 rfl v101_112 rfl v101_113 rfl v101_114 rfl v101_115 rfl v101_116 rfl v101_117 rfl v101_118 rfl v101_119 rfl v101_120 rfl v101_121 rfl v101_122 rfl v101_123 rfl v101_124 rfl v101_125 rfl v101_126 rfl v101_127 rfl v101_128 rfl v101_129-v101_130-v101_131 rfl;refine fB (cB (dN rfl ?_))
    have e9:p.send ((k:Int)+1)=p.tell (pl ({ zM with k:=3,t:=(k:Int)+1,ix:=p.s.next[k]-1,lt:=dV p.s.b p.s.t p.s.es (p.s.next[k]-1),cm:=p.s.commit,rd:=p.s.round,E:=A9,c:=c9,es:=(p.s.es.drop (p.s.next[k]-p.s.b-1).toNat).take 16 }:Msg)):=by
     unfold Sp.send;rw [pO (by rw [hpn];omega),hpn];rfl
    rw [if_neg (by omega),e9];exact ⟨rfl,hS9.from_ ai.rfl_⟩
theorem uD:aP prog 106=true:=by kernel_rfl
theorem ng:aP prog 61=true:=by kernel_rfl
theorem eO:aP prog 62=true:=by kernel_rfl
theorem wg:aP prog 63=true:=by kernel_rfl
theorem nf:aP prog 64=true:=by kernel_rfl
theorem nd:aP prog 66=true:=by kernel_rfl
theorem A_ (n:Int) (w:World) :
 Rt prog 61 [.int .i64 n] w (fun v w'=>v=.bool (decide (1≤n∧n≤7))∧w=w'):=by
 refine enter (n:=9) Tryz.func61 rfl rfl rfl (an (af (asb rfl (ak (ag (an (af (mvi rfl (ab (j5 rfl rfl) (mvb rfl (AU (t:=5) rfl (fun Q1=>?_) (fun Q1=>?_))))))))))))
 ·refine ae rfl (mvi rfl (ae rfl (ab (eW rfl rfl) (ab (aL (v:=.bool _) rfl rfl) (asb rfl (ak (ag (aE (bt (v:=.bool _) rfl rfl (⟨congrArg Value.bool ?_,rfl⟩))))))))))
  first
   |exact (decide_eq_true (by omega)).symm
   |exact (decide_eq_false (by omega)).symm
   |(rw [decide_eq_decide];omega)
 refine ar rfl rfl (ar rfl rfl (ab (ay (v:=.bool _) rfl rfl) (asb rfl (ak (ag (aE (bt (v:=.bool _) rfl rfl (⟨congrArg Value.bool ?_,rfl⟩))))))))
 first
  |exact (decide_eq_true (by omega)).symm
  |exact (decide_eq_false (by omega)).symm
  |(rw [decide_eq_decide];omega)
theorem tL (n:Int) (w:World) :
 Rt prog 62 [.int .i64 n] w (fun v w'=>v=.bool (decide (0≤n∧n≤1099511627775))∧w=w'):=by
 refine enter (n:=9) Tryz.func62 rfl rfl rfl (an (af (asb rfl (ak (ag (an (af (mvi rfl (ab (j5 rfl rfl) (mvb rfl (AU (t:=5) rfl (fun Q1=>?_) (fun Q1=>?_))))))))))))
 ·refine ae rfl (mvi rfl (ae rfl (ab (bZ rfl rfl) (ab (aL (v:=.bool _) rfl rfl) (asb rfl (ak (ag (aE (bt (v:=.bool _) rfl rfl (⟨congrArg Value.bool ?_,rfl⟩))))))))))
  first
   |exact (decide_eq_true (by omega)).symm
   |exact (decide_eq_false (by omega)).symm
   |(rw [decide_eq_decide];omega)
 refine ar rfl rfl (ar rfl rfl (ab (ay (v:=.bool _) rfl rfl) (asb rfl (ak (ag (aE (bt (v:=.bool _) rfl rfl (⟨congrArg Value.bool ?_,rfl⟩))))))))
 first
  |exact (decide_eq_true (by omega)).symm
  |exact (decide_eq_false (by omega)).symm
  |(rw [decide_eq_decide];omega)
theorem BF (s:Rf) (E:Option Addr) (n c:Nat) (w:World) (h:cH w (.slice E n c) s.es):Rt prog 63 [.agg #[.int .i64 s.b,.int .i64 s.t,.slice E n c]] w fun v w'=>v=.bool (cK s.b s.t s.es)∧ai w w':=
 (Rt.of (zc s.b s.t _ s.es w h)).mono fun _ _ h=>h
def fm (l:List Int) (n lo hi:Int):Prop:=(l.length:Int)=n∧eJ lo hi l
instance (l:List Int) (n lo hi:Int):Decidable (fm l n lo hi):=by unfold fm;exact inferInstance
theorem Ao (A:Option Addr) (c:Nat) (l:List Int) (w:World) (hr:dW iV w A l) (hl:l.length≤1000000) :
 Rt prog 106 [.slice A l.length c] w (fun v w'=>v=.bool (gi l)∧ai w w'):=by
 refine enter (n:=20) Tryz.func106 rfl rfl rfl (an (af (asb rfl (ak (ag (an (an (af (asi rfl (ak (ag (bf (cS (G:=Nat) [2,4,5,6,7,8,9,10,11,12,13,14,15,16,17,18,19] (fun k=>[(3,.int .i64 (k:Nat))]) (fun k w'=>1≤k∧(k≤l.length∨k=1)∧(∀ j (h:j+1<l.length),j+1<k→l[j]<l[j+1])∧ai w w') (fun k=>l.length-k) (1) ⟨rfl,trivial⟩ ?_ ?_)))))))))))))
 ·exact ⟨Nat.le_refl _,.inr rfl,fun j _ h=>absurd h (by omega),ai.rfl_⟩
 rintro k ρ1 w1 ⟨hk0,hk,h2,hB⟩;refine an (an (af (mvi rfl (mvs rfl (ab (bL bP rfl) (ab (bZ rfl rfl) (ak (ag (Bu rfl (fun Q2=>?_) (fun Q2=>?_))))))))))
 ·have hkx:k<l.length:=by omega
  obtain ⟨ba,oa,rfl,hca⟩:=hr (by omega);refine aN (ag (an (bf (an ?_))));apply bD 10 [(10,eqp _),(11,eqp _),(12,eqp _),(13,eqp (.int .i64 l[k])),(14,eqp _),(15,eqp _),(16,eqp (.int .i64 ((k-1:Nat):Int))),(17,eqp _),(18,eqp (.int .i64 l[k-1])),(19,eqp _)] (by repeat first | exact cl | refine ck ?_ | refine bM ?_) (by kernel_rfl) (by kernel_rfl) ⟨ah _,ah _,ah _,ah _,ah _,ah _,ah _,ah _,ah _,ah _,trivial⟩
  case hop=>
   constructor
   ·rintro-w4 D4;exact aq (aB (v:=.slice _ _ _) rfl) rfl
   constructor
   ·rintro-w5 D5;exact aq (aB (v:=.int _ _) rfl) rfl
   constructor
   ·rintro-w6 D6;rintro _ rfl _ rfl;exact aq (cr aV rfl rfl (by omega)) rfl
   constructor
   ·rintro-w7 D7;rintro _ rfl;exact aq (au ao rfl (by exact dg (hB.next D7) (hca k hkx))) rfl
   constructor
   ·rintro-w8 D8;exact aq (aB (v:=.slice _ _ _) rfl) rfl
   constructor
   ·rintro-w9 D9;exact aq (aB (v:=.int _ _) rfl) rfl
   constructor
   ·rintro-w10 D10;rintro _ rfl;exact aq (eI (cY rfl rfl (by omega)) (bo (by omega))) rfl
   constructor
   ·rintro-w11 D11;rintro _ rfl v11_16 rfl;exact aq (cr aV rfl rfl (by omega)) rfl
   constructor
   ·rintro-w12 D12;rintro _ rfl;exact aq (au ao rfl (by exact dg (hB.next D12) (hca (k-1) (by omega)))) rfl
   constructor
   ·rintro-w13 D13;rintro v13_13 rfl v13_18 rfl;exact aq (eW rfl rfl) rfl
   exact trivial
  case hend=>
   intro w14 D14;rintro _ rfl _ rfl _ rfl v13 rfl _ rfl _ rfl v16 rfl _ rfl v18 rfl _ rfl;show St ..;refine ak (ag (Bu rfl (fun Q15=>?_) (fun Q15=>?_)))
   ·refine an (af (asb rfl (ak (ag (aE (bG (aG (aG (bG (aG (bt (v:=.bool _) rfl rfl (⟨congrArg Value.bool ?_,(hB.next D14)⟩))))))))))));rw [eq_comm,←Bool.not_eq_true,i_];intro h4;obtain ⟨j,rfl⟩:∃ j,k=j+1:=⟨k-1,by omega⟩;have h6:=h4 j hkx
    (try simp only [Nat.add_sub_cancel] at*)
    omega
   refine aN (bq (ag (af (mvi rfl (ab (b0 rfl rfl (by omega)) (asi rfl (ak ?_)))))));refine cG (k+1) ⟨(by first | rfl | (refine bo ?_;omega)),trivial⟩ (by (iterate 35 refine bE rfl ?_);exact bX) ⟨?_,?_⟩
   ·refine ⟨by omega,.inl (by omega),fun j h hj=>?_,(hB.next D14)⟩;rcases Nat.lt_or_ge (j+1) k with e | e
    ·exact h2 j h e
    ·obtain rfl:k=j+1:=by omega
     (try simp only [Nat.add_sub_cancel] at*)
     omega
   ·omega
 refine cz (bk (bk (bW (ag (an (af (asb rfl (ak (ag (aE (bt (v:=.bool _) rfl rfl (⟨congrArg Value.bool ?_,hB⟩))))))))))));rw [eq_comm,i_];exact fun j hj=>h2 j hj (by omega)
theorem tN (A:Option Addr) (c:Nat) (l:List Int) (n:Int) (w:World) (hr:dW iV w A l) (hl:l.length≤1000000) :
 Rt prog 64 [.slice A l.length c,.int .i64 n] w (fun v w'=>v=.bool (fu l n)∧ai w w'):=by
 refine enter (n:=27) Tryz.func64 rfl rfl rfl (an (af (asb rfl (ak (ag (an (an (af (asi rfl (ak (ag (bf (cS (G:=Nat) [4,6,7,8,9,10,11,12,13,14,15,16,17,18,19,20,21,22,23,24] (fun k=>[(5,.int .i64 (k:Nat))]) (fun k w'=>k≤l.length∧(∀ j (h:j<l.length),j<k→1≤l[j]∧l[j]≤n)∧ai w w') (fun k=>l.length-k) (0) ⟨rfl,trivial⟩ ?_ ?_)))))))))))))
 ·exact ⟨Nat.zero_le _,fun j _ h=>absurd h (by omega),ai.rfl_⟩
 rintro k ρ1 w1 ⟨hk,h1,hB⟩;refine an (an (af (mvi rfl (mvs rfl (ab (bL bP rfl) (ab (bZ rfl rfl) (ak (ag (Bu rfl (fun Q2=>?_) (fun Q2=>?_))))))))))
 ·have hkx:k<l.length:=by omega
  obtain ⟨ba,oa,rfl,hca⟩:=hr (by omega);refine aN (ag (an (bf (an (af (mvs rfl (mvi rfl (ab (cr aV rfl rfl (by omega)) (ab (au ao rfl (by exact dg hB (hca k hkx))) ?_)))))))));refine ab (bZ rfl rfl) (mvb rfl (AU (t:=17) rfl (fun Q3=>?_) (fun Q3=>?_)))
  ·refine bB rfl (ak (ag (a_ rfl (an (af (asb rfl (ak (ag (aE (bG (aG (aG (bG (aG (bt (v:=.bool _) rfl rfl (⟨congrArg Value.bool ?_,hB⟩))))))))))))))));rw [eq_comm,←Bool.not_eq_true,gV];rintro ⟨h3,h4⟩;have h5:=h3 _ (List.getElem_mem hkx);omega
  refine ae rfl (mvs rfl (ae rfl (mvi rfl (ae rfl (ab (cr aV rfl rfl (by omega)) (ae rfl (ab (au ao rfl (by exact dg hB (hca k hkx))) ?_)))))));refine ae rfl (mvi rfl (ae rfl (ab (cy rfl rfl) (ab (ay (v:=.bool _) rfl rfl) (ak (ag (Bu rfl (fun Q4=>?_) (fun Q4=>?_))))))))
  ·refine an (af (asb rfl (ak (ag (aE (bG (aG (aG (bG (aG (bt (v:=.bool _) rfl rfl (⟨congrArg Value.bool ?_,hB⟩))))))))))));rw [eq_comm,←Bool.not_eq_true,gV];rintro ⟨h3,h4⟩;have h5:=h3 _ (List.getElem_mem hkx);omega
  refine aN (bq (ag (af (mvi rfl (ab (b0 rfl rfl (by omega)) (asi rfl (ak ?_)))))));refine cG (k+1) ⟨(by first | rfl | (refine bo ?_;omega)),trivial⟩ (by (iterate 42 refine bE rfl ?_);exact bX) ⟨?_,?_⟩
  ·refine ⟨by omega,fun j h hj=>?_,hB⟩;rcases Nat.lt_or_ge j k with e | e
   ·exact h1 j h e
   ·obtain rfl:j=k:=by omega
    omega
  ·omega
 refine cz (bk (bk (bW (ag (an (af (mvs rfl (aC uD (Ao A c l _ (hr.from_ hB) hl) ?_))))))));rintro v26 w5 ⟨rfl,E26⟩;refine asb rfl (ak (ag (aE (bt (v:=.bool _) rfl rfl (⟨congrArg Value.bool ?_,(hB.next E26)⟩)))));obtain rfl:k=l.length:=by omega
 rw [Bool.eq_iff_iff,gV,i_];exact ⟨fun h=>⟨fun x hx=>by obtain ⟨j,hj,rfl⟩:=List.getElem_of_mem hx;exact h1 j hj hj,h⟩,fun h=>h.2⟩
theorem yh (A:Option Addr) (c:Nat) (l:List Int) (n lo hi:Int) (w:World) (hr:dW iV w A l) (hl:l.length≤1000000) :
 Rt prog 66 [.slice A l.length c,.int .i64 n,.int .i64 lo,.int .i64 hi] w (fun v w'=>v=.bool (decide (fm l n lo hi))∧ai w w'):=by
 refine enter (n:=34) Tryz.func66 rfl rfl rfl (an (af (asb rfl (ak (ag (an (an (af (asi rfl (ak (ag (bf (cS (G:=Nat) [8,10,11,12,13,14,15,16,17,18,19,20,21,22,23,24,25,26,27,28,29] (fun k=>[(9,.int .i64 (k:Nat))]) (fun k w'=>k≤l.length∧(∀ j (h:j<l.length),j<k→lo≤l[j]∧l[j]≤hi)∧ai w w') (fun k=>l.length-k) (0) ⟨rfl,trivial⟩ ?_ ?_)))))))))))))
 ·exact ⟨Nat.zero_le _,fun j _ h=>absurd h (by omega),ai.rfl_⟩
 rintro k ρ1 w1 ⟨hk,h1,hB⟩;refine an (an (af (mvi rfl (mvs rfl (ab (bL bP rfl) (ab (bZ rfl rfl) (ak (ag (Bu rfl (fun Q2=>?_) (fun Q2=>?_))))))))))
 ·have hkx:k<l.length:=by omega
  obtain ⟨ba,oa,rfl,hca⟩:=hr (by omega);refine aN (ag (an (bf (an (af (mvs rfl (mvi rfl (ab (cr aV rfl rfl (by omega)) (ab (au ao rfl (by exact dg hB (hca k hkx))) ?_)))))))));refine mvi rfl (ab (bZ rfl rfl) (mvb rfl (AU (t:=22) rfl (fun Q3=>?_) (fun Q3=>?_))))
  ·refine bB rfl (ak (ag (a_ rfl (an (af (asb rfl (ak (ag (aE (bG (aG (aG (bG (aG (bt (v:=.bool _) rfl rfl (⟨congrArg Value.bool ?_,hB⟩))))))))))))))));rw [eq_comm,decide_eq_false_iff_not];rintro ⟨h3,h4⟩;have h5:=h4 _ (List.getElem_mem hkx);omega
  refine ae rfl (mvs rfl (ae rfl (mvi rfl (ae rfl (ab (cr aV rfl rfl (by omega)) (ae rfl (ab (au ao rfl (by exact dg hB (hca k hkx))) ?_)))))));refine ae rfl (mvi rfl (ae rfl (ab (cy rfl rfl) (ab (ay (v:=.bool _) rfl rfl) (ak (ag (Bu rfl (fun Q4=>?_) (fun Q4=>?_))))))))
  ·refine an (af (asb rfl (ak (ag (aE (bG (aG (aG (bG (aG (bt (v:=.bool _) rfl rfl (⟨congrArg Value.bool ?_,hB⟩))))))))))));rw [eq_comm,decide_eq_false_iff_not];rintro ⟨h3,h4⟩;have h5:=h4 _ (List.getElem_mem hkx);omega
  refine aN (bq (ag (af (mvi rfl (ab (b0 rfl rfl (by omega)) (asi rfl (ak ?_)))))));refine cG (k+1) ⟨(by first | rfl | (refine bo ?_;omega)),trivial⟩ (by (iterate 44 refine bE rfl ?_);exact bX) ⟨?_,?_⟩
  ·refine ⟨by omega,fun j h hj=>?_,hB⟩;rcases Nat.lt_or_ge j k with e | e
   ·exact h1 j h e
   ·obtain rfl:j=k:=by omega
    omega
  ·omega
 refine cz (bk (bk (bW (ag (an (af (mvs rfl (ab (bL bP rfl) (mvi rfl (ab (bh rfl rfl) (asb rfl (ak (ag (aE (bt (v:=.bool _) rfl rfl ?_)))))))))))))));refine ⟨congrArg Value.bool ?_,hB⟩;obtain rfl:k=l.length:=by omega
 rw [Bool.eq_iff_iff,beq_iff_eq,decide_eq_true_eq];exact ⟨fun h=>⟨h,fun x hx=>by obtain ⟨j,hj,rfl⟩:=List.getElem_of_mem hx;exact h1 j hj hj⟩,fun h=>h.1⟩
theorem Bv (s:ByteArray):(!(s.toList==(⟨#[]⟩:ByteArray).toList))=decide (s.size≠0):=by
 rw [zB,Bool.eq_iff_iff];simp
theorem yW (s:Rf) (a:Ra) (w:World) (hrd:eQ w s a) (hl:s.votes.length≤1000000∧s.next.length≤1000000∧s.mtch.length≤1000000∧s.sent.length≤1000000∧s.reads.length≤1000000∧∀ q∈s.reads,q.acks.length≤1000000) :
 Rt prog 30 [.agg (rfV s a).toArray] w (fun v w'=>v=.bool (iq s)∧ai w w'):=by
 obtain ⟨E,Ec,V,Vc,X,Xc,M,Mc,Sn,Sc,Q,Qc,LL⟩:=a;have hrL:LL.map (fun q=>q.1)=s.reads:=hrd.r;have hrk:∀ q∈LL,IR w q.2.1 q.2.2 q.1.acks:=hrd.k;obtain ⟨hl1,hl2,hl3,hl4,hl5,hl6⟩:=hl;have hrl:LL.length=s.reads.length:=by rw [←hrL,List.length_map]
 obtain ⟨nn,hnn⟩:∃ nn:Int,(s.role=2→nn=s.nodes)∧(s.role≠2→nn=0):=by
  by_cases h:s.role=2
  ·exact ⟨s.nodes,fun _=>rfl,fun e=>absurd h e⟩
  ·exact ⟨0,fun e=>absurd e h,fun _=>rfl⟩
 refine enter (n:=259) Tryz.func30 rfl rfl rfl (an (af (bQ (v:=.agg _) rfl ?_)));intro b1 w1 E1 hb1 hk1;refine asb rfl (ak (ag (oV (G:=Unit) [2,8,9,10,11,12,13,14,15,16,17,18,19,20,21,22,23,24,25,26,27,28,29,30,31,32,33,34,35,36,37,38,39,40,41,42,43,44,45,46,47,48,49,50,51,52,53,54,55,56,57,58,59,60,61,62,63,64,65,66,67,68,69,70,71,72,73,74,75,76,77,78,79,80,81,82,83,84,85,86,87,88,89,90,91,92,93,94,95,96,97,98,99,100,101,102,103,104,105,106,107,108,109,110,111,112] (fun _=>[]) (fun _ w'=>((1≤s.nodes∧s.nodes≤7)∧(1≤s.id∧s.id≤s.nodes)∧(0≤s.role∧s.role≤2)∧(0≤s.term∧s.term≤1099511627775)∧(0≤s.vote∧s.vote≤s.nodes)∧(0≤s.leader∧s.leader≤s.nodes)∧cK s.b s.t s.es=true∧s.snap.size≤524288∧(s.b≠0∨s.snap.size=0)∧(0≤s.elapsed∧s.elapsed≤1099511627775)∧(0≤s.timeout∧s.timeout≤1099511627775)∧(0≤s.round∧s.round≤1099511627775)∧fu s.votes s.nodes=true)∧Blk w' b1 29 (rfV s (⟨E,Ec,V,Vc,X,Xc,M,Mc,Sn,Sc,Q,Qc,LL⟩:Ra)).toArray∧ai w w') ?_ ?_)))
 ·refine an (af (ab (aa cg rfl) (ab (au ao rfl (by exact (hk1.from_ ai.rfl_).rd 1 rfl)) ?_)));refine aC ng (A_ s.nodes _) ?_;rintro v10 w2 ⟨rfl,rfl⟩;refine ab (cp rfl) (mvb rfl (aM (t:=12) rfl (fun Q3=>?_) (fun Q3=>?_)))
  ·with_reducible (replace Q3:=dS Q3;replace Q3:=dF_ Q3)
   (try simp only [bs9] at Q3)
   refine bB rfl (ak (ag (a_ rfl (an (af (asb rfl (ak (ag (aE (aG (bt (v:=.bool _) rfl rfl (⟨congrArg Value.bool ?_,(ai.rfl_.next E1)⟩))))))))))));rw [eq_comm,←Bool.not_eq_true,b_];rintro ⟨⟨n1,n2,n3,⟨n4,n5⟩,n6,n7,n8,n9⟩,⟨g1,g2,g3,g4,g5⟩,v1,l1,⟨p1,p2,p3⟩⟩
   first
    |omega
    |(simp_all;done)
    |(simp_all;omega)
  with_reducible (replace Q3:=dU Q3;replace Q3:=dT_ Q3)
  (try simp only [bs9] at Q3)
  refine ae rfl (ab (aa cu rfl) (ae rfl (ab (au ao rfl (by exact (hk1.from_ ai.rfl_).rd 0 rfl)) ?_)));refine ae rfl (ab (bZ rfl rfl) (ab (ay (v:=.bool _) rfl rfl) (mvb rfl (AU (t:=17) rfl (fun Q4=>?_) (fun Q4=>?_)))))
  ·(try simp only [bs9] at Q4)
   refine bB rfl (ak (ag (a_ rfl (an (af (asb rfl (ak (ag (aE (aG (bt (v:=.bool _) rfl rfl (⟨congrArg Value.bool ?_,(ai.rfl_.next E1)⟩))))))))))));rw [eq_comm,←Bool.not_eq_true,b_];rintro ⟨⟨n1,n2,n3,⟨n4,n5⟩,n6,n7,n8,n9⟩,⟨g1,g2,g3,g4,g5⟩,v1,l1,⟨p1,p2,p3⟩⟩
   first
    |omega
    |(simp_all;done)
    |(simp_all;omega)
  (try simp only [bs9] at Q4)
  refine ae rfl (ab (aa cu rfl) (ae rfl (ab (au ao rfl (by exact (hk1.from_ ai.rfl_).rd 0 rfl)) ?_)));refine ae rfl (ab (aa cg rfl) (ae rfl (ab (au ao rfl (by exact (hk1.from_ ai.rfl_).rd 1 rfl)) ?_)));refine ae rfl (ab (cy rfl rfl) (ab (ay (v:=.bool _) rfl rfl) (mvb rfl (AU (t:=24) rfl (fun Q5=>?_) (fun Q5=>?_)))))
  ·(try simp only [bs9] at Q5)
   refine bB rfl (ak (ag (a_ rfl (an (af (asb rfl (ak (ag (aE (aG (bt (v:=.bool _) rfl rfl (⟨congrArg Value.bool ?_,(ai.rfl_.next E1)⟩))))))))))));rw [eq_comm,←Bool.not_eq_true,b_];rintro ⟨⟨n1,n2,n3,⟨n4,n5⟩,n6,n7,n8,n9⟩,⟨g1,g2,g3,g4,g5⟩,v1,l1,⟨p1,p2,p3⟩⟩
   first
    |omega
    |(simp_all;done)
    |(simp_all;omega)
  (try simp only [bs9] at Q5)
  refine ae rfl (ab (aa cT rfl) (ae rfl (ab (au ao rfl (by exact (hk1.from_ ai.rfl_).rd 2 rfl)) ?_)));refine ae rfl (ab (bZ rfl rfl) (ab (ay (v:=.bool _) rfl rfl) (mvb rfl (AU (t:=29) rfl (fun Q6=>?_) (fun Q6=>?_)))))
  ·(try simp only [bs9] at Q6)
   refine bB rfl (ak (ag (a_ rfl (an (af (asb rfl (ak (ag (aE (aG (bt (v:=.bool _) rfl rfl (⟨congrArg Value.bool ?_,(ai.rfl_.next E1)⟩))))))))))));rw [eq_comm,←Bool.not_eq_true,b_];rintro ⟨⟨n1,n2,n3,⟨n4,n5⟩,n6,n7,n8,n9⟩,⟨g1,g2,g3,g4,g5⟩,v1,l1,⟨p1,p2,p3⟩⟩
   first
    |omega
    |(simp_all;done)
    |(simp_all;omega)
  (try simp only [bs9] at Q6)
  refine ae rfl (ab (aa cT rfl) (ae rfl (ab (au ao rfl (by exact (hk1.from_ ai.rfl_).rd 2 rfl)) ?_)));refine ae rfl (ab (cy rfl rfl) (ab (ay (v:=.bool _) rfl rfl) (mvb rfl (AU (t:=34) rfl (fun Q7=>?_) (fun Q7=>?_)))))
  ·(try simp only [bs9] at Q7)
   refine bB rfl (ak (ag (a_ rfl (an (af (asb rfl (ak (ag (aE (aG (bt (v:=.bool _) rfl rfl (⟨congrArg Value.bool ?_,(ai.rfl_.next E1)⟩))))))))))));rw [eq_comm,←Bool.not_eq_true,b_];rintro ⟨⟨n1,n2,n3,⟨n4,n5⟩,n6,n7,n8,n9⟩,⟨g1,g2,g3,g4,g5⟩,v1,l1,⟨p1,p2,p3⟩⟩
   first
    |omega
    |(simp_all;done)
    |(simp_all;omega)
  (try simp only [bs9] at Q7)
  refine ae rfl (ab (aa bJ rfl) (ae rfl (ab (au ao rfl (by exact (hk1.from_ ai.rfl_).rd 3 rfl)) ?_)));refine ae rfl (aC eO (tL s.term _) ?_);rintro v37 w8 ⟨rfl,rfl⟩;refine ae rfl (ab (cp rfl) (ab (ay (v:=.bool _) rfl rfl) (mvb rfl (aM (t:=40) rfl (fun Q9=>?_) (fun Q9=>?_)))))
  ·with_reducible (replace Q9:=dS Q9;replace Q9:=dF_ Q9)
   (try simp only [bs9] at Q9)
   refine bB rfl (ak (ag (a_ rfl (an (af (asb rfl (ak (ag (aE (aG (bt (v:=.bool _) rfl rfl (⟨congrArg Value.bool ?_,(ai.rfl_.next E1)⟩))))))))))));rw [eq_comm,←Bool.not_eq_true,b_];rintro ⟨⟨n1,n2,n3,⟨n4,n5⟩,n6,n7,n8,n9⟩,⟨g1,g2,g3,g4,g5⟩,v1,l1,⟨p1,p2,p3⟩⟩
   first
    |omega
    |(simp_all;done)
    |(simp_all;omega)
  with_reducible (replace Q9:=dU Q9;replace Q9:=dT_ Q9)
  (try simp only [bs9] at Q9)
  refine ae rfl (ab (aa eZ rfl) (ae rfl (ab (au ao rfl (by exact (hk1.from_ ai.rfl_).rd 4 rfl)) ?_)));refine ae rfl (ab (bZ rfl rfl) (ab (ay (v:=.bool _) rfl rfl) (mvb rfl (AU (t:=45) rfl (fun Q10=>?_) (fun Q10=>?_)))))
  ·(try simp only [bs9] at Q10)
   refine bB rfl (ak (ag (a_ rfl (an (af (asb rfl (ak (ag (aE (aG (bt (v:=.bool _) rfl rfl (⟨congrArg Value.bool ?_,(ai.rfl_.next E1)⟩))))))))))));rw [eq_comm,←Bool.not_eq_true,b_];rintro ⟨⟨n1,n2,n3,⟨n4,n5⟩,n6,n7,n8,n9⟩,⟨g1,g2,g3,g4,g5⟩,v1,l1,⟨p1,p2,p3⟩⟩
   first
    |omega
    |(simp_all;done)
    |(simp_all;omega)
  (try simp only [bs9] at Q10)
  refine ae rfl (ab (aa eZ rfl) (ae rfl (ab (au ao rfl (by exact (hk1.from_ ai.rfl_).rd 4 rfl)) ?_)));refine ae rfl (ab (aa cg rfl) (ae rfl (ab (au ao rfl (by exact (hk1.from_ ai.rfl_).rd 1 rfl)) ?_)));refine ae rfl (ab (cy rfl rfl) (ab (ay (v:=.bool _) rfl rfl) (mvb rfl (AU (t:=52) rfl (fun Q11=>?_) (fun Q11=>?_)))))
  ·(try simp only [bs9] at Q11)
   refine bB rfl (ak (ag (a_ rfl (an (af (asb rfl (ak (ag (aE (aG (bt (v:=.bool _) rfl rfl (⟨congrArg Value.bool ?_,(ai.rfl_.next E1)⟩))))))))))));rw [eq_comm,←Bool.not_eq_true,b_];rintro ⟨⟨n1,n2,n3,⟨n4,n5⟩,n6,n7,n8,n9⟩,⟨g1,g2,g3,g4,g5⟩,v1,l1,⟨p1,p2,p3⟩⟩
   first
    |omega
    |(simp_all;done)
    |(simp_all;omega)
  (try simp only [bs9] at Q11)
  refine ae rfl (ab (aa eM rfl) (ae rfl (ab (au ao rfl (by exact (hk1.from_ ai.rfl_).rd 5 rfl)) ?_)));refine ae rfl (ab (bZ rfl rfl) (ab (ay (v:=.bool _) rfl rfl) (mvb rfl (AU (t:=57) rfl (fun Q12=>?_) (fun Q12=>?_)))))
  ·(try simp only [bs9] at Q12)
   refine bB rfl (ak (ag (a_ rfl (an (af (asb rfl (ak (ag (aE (aG (bt (v:=.bool _) rfl rfl (⟨congrArg Value.bool ?_,(ai.rfl_.next E1)⟩))))))))))));rw [eq_comm,←Bool.not_eq_true,b_];rintro ⟨⟨n1,n2,n3,⟨n4,n5⟩,n6,n7,n8,n9⟩,⟨g1,g2,g3,g4,g5⟩,v1,l1,⟨p1,p2,p3⟩⟩
   first
    |omega
    |(simp_all;done)
    |(simp_all;omega)
  (try simp only [bs9] at Q12)
  refine ae rfl (ab (aa eM rfl) (ae rfl (ab (au ao rfl (by exact (hk1.from_ ai.rfl_).rd 5 rfl)) ?_)));refine ae rfl (ab (aa cg rfl) (ae rfl (ab (au ao rfl (by exact (hk1.from_ ai.rfl_).rd 1 rfl)) ?_)));refine ae rfl (ab (cy rfl rfl) (ab (ay (v:=.bool _) rfl rfl) (mvb rfl (AU (t:=64) rfl (fun Q13=>?_) (fun Q13=>?_)))))
  ·(try simp only [bs9] at Q13)
   refine bB rfl (ak (ag (a_ rfl (an (af (asb rfl (ak (ag (aE (aG (bt (v:=.bool _) rfl rfl (⟨congrArg Value.bool ?_,(ai.rfl_.next E1)⟩))))))))))));rw [eq_comm,←Bool.not_eq_true,b_];rintro ⟨⟨n1,n2,n3,⟨n4,n5⟩,n6,n7,n8,n9⟩,⟨g1,g2,g3,g4,g5⟩,v1,l1,⟨p1,p2,p3⟩⟩
   first
    |omega
    |(simp_all;done)
    |(simp_all;omega)
  (try simp only [bs9] at Q13)
  refine ae rfl (ab (aa bg rfl) (ae rfl (ab (aK (cs:=[.int .i64 s.b,.int .i64 s.t,.slice E s.es.length Ec]) dm cX rfl (qB (hk1.from_ ai.rfl_))) (ae rfl (aC wg (BF s E s.es.length Ec _ (hrd.e.from_ (ai.rfl_.next E1))) ?_)))));rintro v67 w14 ⟨rfl,E67⟩;refine ae rfl (ab (cp rfl) (ab (ay (v:=.bool _) rfl rfl) (mvb rfl (AS (t:=70) rfl (fun Q15=>?_) (fun Q15=>?_)))))
  ·(try simp only [bs9] at Q15)
   refine bB rfl (ak (ag (a_ rfl (an (af (asb rfl (ak (ag (aE (aG (bt (v:=.bool _) rfl rfl (⟨congrArg Value.bool ?_,((ai.rfl_.next E1).next E67)⟩))))))))))));rw [eq_comm,←Bool.not_eq_true,b_];rintro ⟨⟨n1,n2,n3,⟨n4,n5⟩,n6,n7,n8,n9⟩,⟨g1,g2,g3,g4,g5⟩,v1,l1,⟨p1,p2,p3⟩⟩
   first
    |omega
    |(simp_all;done)
    |(simp_all;omega)
  (try simp only [bs9] at Q15)
  refine ae rfl (ab (aa cO rfl) (ae rfl (ab (au cD rfl (by exact (hk1.from_ (ai.rfl_.next E67)).rd 9 rfl)) ?_)));refine ae rfl (ab (en (by kernel_rfl) rfl) (ae rfl (ab (cy rfl rfl) (ab (ay (v:=.bool _) rfl rfl) (mvb rfl (AU (t:=76) rfl (fun Q16=>?_) (fun Q16=>?_)))))))
  ·(try simp only [bs9] at Q16)
   refine bB rfl (ak (ag (a_ rfl (an (af (asb rfl (ak (ag (aE (aG (bt (v:=.bool _) rfl rfl (⟨congrArg Value.bool ?_,((ai.rfl_.next E1).next E67)⟩))))))))))));rw [eq_comm,←Bool.not_eq_true,b_];rintro ⟨⟨n1,n2,n3,⟨n4,n5⟩,n6,n7,n8,n9⟩,⟨g1,g2,g3,g4,g5⟩,v1,l1,⟨p1,p2,p3⟩⟩
   first
    |omega
    |(simp_all;done)
    |(simp_all;omega)
  (try simp only [bs9] at Q16)
  refine ae rfl (ab (aa bg rfl) (ae rfl (ab (aa bT rfl) (ae rfl (ab (au ao rfl (by exact (hk1.from_ (ai.rfl_.next E67)).rd 6 rfl)) ?_)))));refine ae rfl (ab (bh rfl rfl) (ae rfl (mvb rfl (AU (t:=81) rfl (fun Q17=>?_) (fun Q17=>?_)))))
  ·(try simp only [bs9] at Q17)
   refine ae rfl (ab (aa cO rfl) (ae rfl (ab (au cD rfl (by exact (hk1.from_ (ai.rfl_.next E67)).rd 9 rfl)) ?_)));refine ae rfl (ab (eI (uT rfl rfl) (congrArg Value.bool (Bv s.snap))) (ae rfl (ab (aL (v:=.bool _) rfl rfl) (ab (ay (v:=.bool _) rfl rfl) (mvb rfl (AU (t:=87) rfl (fun Q18=>?_) (fun Q18=>?_)))))))
   ·(try simp only [bs9] at Q18)
    refine bB rfl (ak (ag (a_ rfl (an (af (asb rfl (ak (ag (aE (aG (bt (v:=.bool _) rfl rfl (⟨congrArg Value.bool ?_,((ai.rfl_.next E1).next E67)⟩))))))))))));rw [eq_comm,←Bool.not_eq_true,b_];rintro ⟨⟨n1,n2,n3,⟨n4,n5⟩,n6,n7,n8,n9⟩,⟨g1,g2,g3,g4,g5⟩,v1,l1,⟨p1,p2,p3⟩⟩
    first
     |omega
     |(simp_all;done)
     |(simp_all;omega)
   (try simp only [bs9] at Q18)
   refine ae rfl (ab (aa dK rfl) (ae rfl (ab (au ao rfl (by exact (hk1.from_ (ai.rfl_.next E67)).rd 11 rfl)) ?_)));refine ae rfl (aC eO (tL s.elapsed _) ?_);rintro v90 w19 ⟨rfl,rfl⟩;refine ae rfl (ab (cp rfl) (ab (ay (v:=.bool _) rfl rfl) (mvb rfl (aM (t:=93) rfl (fun Q20=>?_) (fun Q20=>?_)))))
   ·with_reducible (replace Q20:=dS Q20;replace Q20:=dF_ Q20)
    (try simp only [bs9] at Q20)
    refine bB rfl (ak (ag (a_ rfl (an (af (asb rfl (ak (ag (aE (aG (bt (v:=.bool _) rfl rfl (⟨congrArg Value.bool ?_,((ai.rfl_.next E1).next E67)⟩))))))))))));rw [eq_comm,←Bool.not_eq_true,b_];rintro ⟨⟨n1,n2,n3,⟨n4,n5⟩,n6,n7,n8,n9⟩,⟨g1,g2,g3,g4,g5⟩,v1,l1,⟨p1,p2,p3⟩⟩
    first
     |omega
     |(simp_all;done)
     |(simp_all;omega)
   with_reducible (replace Q20:=dU Q20;replace Q20:=dT_ Q20)
   (try simp only [bs9] at Q20)
   refine ae rfl (ab (aa eR rfl) (ae rfl (ab (au ao rfl (by exact (hk1.from_ (ai.rfl_.next E67)).rd 12 rfl)) ?_)));refine ae rfl (aC eO (tL s.timeout _) ?_);rintro v96 w21 ⟨rfl,rfl⟩;refine ae rfl (ab (cp rfl) (ab (ay (v:=.bool _) rfl rfl) (mvb rfl (aM (t:=99) rfl (fun Q22=>?_) (fun Q22=>?_)))))
   ·with_reducible (replace Q22:=dS Q22;replace Q22:=dF_ Q22)
    (try simp only [bs9] at Q22)
    refine bB rfl (ak (ag (a_ rfl (an (af (asb rfl (ak (ag (aE (aG (bt (v:=.bool _) rfl rfl (⟨congrArg Value.bool ?_,((ai.rfl_.next E1).next E67)⟩))))))))))));rw [eq_comm,←Bool.not_eq_true,b_];rintro ⟨⟨n1,n2,n3,⟨n4,n5⟩,n6,n7,n8,n9⟩,⟨g1,g2,g3,g4,g5⟩,v1,l1,⟨p1,p2,p3⟩⟩
    first
     |omega
     |(simp_all;done)
     |(simp_all;omega)
   with_reducible (replace Q22:=dU Q22;replace Q22:=dT_ Q22)
   (try simp only [bs9] at Q22)
   refine ae rfl (ab (aa dz rfl) (ae rfl (ab (au ao rfl (by exact (hk1.from_ (ai.rfl_.next E67)).rd 18 rfl)) ?_)));refine ae rfl (aC eO (tL s.round _) ?_);rintro v102 w23 ⟨rfl,rfl⟩;refine ae rfl (ab (cp rfl) (ab (ay (v:=.bool _) rfl rfl) (mvb rfl (aM (t:=105) rfl (fun Q24=>?_) (fun Q24=>?_)))))
   ·with_reducible (replace Q24:=dS Q24;replace Q24:=dF_ Q24)
    (try simp only [bs9] at Q24)
    refine bB rfl (ak (ag (a_ rfl (an (af (asb rfl (ak (ag (aE (aG (bt (v:=.bool _) rfl rfl (⟨congrArg Value.bool ?_,((ai.rfl_.next E1).next E67)⟩))))))))))));rw [eq_comm,←Bool.not_eq_true,b_];rintro ⟨⟨n1,n2,n3,⟨n4,n5⟩,n6,n7,n8,n9⟩,⟨g1,g2,g3,g4,g5⟩,v1,l1,⟨p1,p2,p3⟩⟩
    first
     |omega
     |(simp_all;done)
     |(simp_all;omega)
   with_reducible (replace Q24:=dU Q24;replace Q24:=dT_ Q24)
   (try simp only [bs9] at Q24)
   refine ae rfl (ab (aa dc rfl) (ae rfl (ab (au aR rfl (by exact (show _=some (Value.slice V s.votes.length Vc) from (hk1.from_ (ai.rfl_.next E67)).rd 14 rfl))) ?_)));refine ae rfl (ab (aa cg rfl) (ae rfl (ab (au ao rfl (by exact (hk1.from_ (ai.rfl_.next E67)).rd 1 rfl)) ?_)));refine ae rfl (aC nf (tN V Vc s.votes s.nodes _ (hrd.v.1.from_ ((ai.rfl_.next E1).next E67)) hl1) ?_);rintro v110 w25 ⟨rfl,E110⟩;refine ae rfl (ab (cp rfl) (ab (ay (v:=.bool _) rfl rfl) (ak (ag (Br rfl (fun Q26=>?_) (fun Q26=>?_))))))
   ·(try simp only [bs9] at Q26)
    refine an (af (asb rfl (ak (ag (aE (aG (bt (v:=.bool _) rfl rfl (⟨congrArg Value.bool ?_,(((ai.rfl_.next E1).next E67).next E110)⟩))))))));rw [eq_comm,←Bool.not_eq_true,b_];rintro ⟨⟨n1,n2,n3,⟨n4,n5⟩,n6,n7,n8,n9⟩,⟨g1,g2,g3,g4,g5⟩,v1,l1,⟨p1,p2,p3⟩⟩
    first
     |omega
     |(simp_all;done)
     |(simp_all;omega)
   (try simp only [bs9] at Q26)
   refine aN ?_;refine cG (()) trivial (by (iterate 122 refine bE rfl ?_);exact bX) ?_;exact ⟨⟨by omega,by omega,by omega,by omega,by omega,by omega,by first | assumption | simp_all,by omega,by omega,by omega,by omega,by omega,by first | assumption | simp_all⟩,hk1.from_ ((ai.rfl_.next E67).next E110),(((ai.rfl_.next E1).next E67).next E110)⟩
  (try simp only [bs9] at Q17)
  refine ar rfl rfl (ar rfl rfl (ar rfl rfl (ae rfl (ab (ay (v:=.bool _) rfl rfl) (ab (ay (v:=.bool _) rfl rfl) (mvb rfl (ae rfl (ab (aa dK rfl) ?_))))))));refine ae rfl (ab (au ao rfl (by exact (hk1.from_ (ai.rfl_.next E67)).rd 11 rfl)) ?_);refine ae rfl (aC eO (tL s.elapsed _) ?_);rintro v90 w27 ⟨rfl,rfl⟩;refine ae rfl (ab (cp rfl) (ab (ay (v:=.bool _) rfl rfl) (mvb rfl (aM (t:=93) rfl (fun Q28=>?_) (fun Q28=>?_)))))
  ·with_reducible (replace Q28:=dS Q28;replace Q28:=dF_ Q28)
   (try simp only [bs9] at Q28)
   refine bB rfl (ak (ag (a_ rfl (an (af (asb rfl (ak (ag (aE (aG (bt (v:=.bool _) rfl rfl (⟨congrArg Value.bool ?_,((ai.rfl_.next E1).next E67)⟩))))))))))));rw [eq_comm,←Bool.not_eq_true,b_];rintro ⟨⟨n1,n2,n3,⟨n4,n5⟩,n6,n7,n8,n9⟩,⟨g1,g2,g3,g4,g5⟩,v1,l1,⟨p1,p2,p3⟩⟩
   first
    |omega
    |(simp_all;done)
    |(simp_all;omega)
  with_reducible (replace Q28:=dU Q28;replace Q28:=dT_ Q28)
  (try simp only [bs9] at Q28)
  refine ae rfl (ab (aa eR rfl) (ae rfl (ab (au ao rfl (by exact (hk1.from_ (ai.rfl_.next E67)).rd 12 rfl)) ?_)));refine ae rfl (aC eO (tL s.timeout _) ?_);rintro v96 w29 ⟨rfl,rfl⟩;refine ae rfl (ab (cp rfl) (ab (ay (v:=.bool _) rfl rfl) (mvb rfl (aM (t:=99) rfl (fun Q30=>?_) (fun Q30=>?_)))))
  ·with_reducible (replace Q30:=dS Q30;replace Q30:=dF_ Q30)
   (try simp only [bs9] at Q30)
   refine bB rfl (ak (ag (a_ rfl (an (af (asb rfl (ak (ag (aE (aG (bt (v:=.bool _) rfl rfl (⟨congrArg Value.bool ?_,((ai.rfl_.next E1).next E67)⟩))))))))))));rw [eq_comm,←Bool.not_eq_true,b_];rintro ⟨⟨n1,n2,n3,⟨n4,n5⟩,n6,n7,n8,n9⟩,⟨g1,g2,g3,g4,g5⟩,v1,l1,⟨p1,p2,p3⟩⟩
   first
    |omega
    |(simp_all;done)
    |(simp_all;omega)
  with_reducible (replace Q30:=dU Q30;replace Q30:=dT_ Q30)
  (try simp only [bs9] at Q30)
  refine ae rfl (ab (aa dz rfl) (ae rfl (ab (au ao rfl (by exact (hk1.from_ (ai.rfl_.next E67)).rd 18 rfl)) ?_)));refine ae rfl (aC eO (tL s.round _) ?_);rintro v102 w31 ⟨rfl,rfl⟩;refine ae rfl (ab (cp rfl) (ab (ay (v:=.bool _) rfl rfl) (mvb rfl (aM (t:=105) rfl (fun Q32=>?_) (fun Q32=>?_)))))
  ·with_reducible (replace Q32:=dS Q32;replace Q32:=dF_ Q32)
   (try simp only [bs9] at Q32)
   refine bB rfl (ak (ag (a_ rfl (an (af (asb rfl (ak (ag (aE (aG (bt (v:=.bool _) rfl rfl (⟨congrArg Value.bool ?_,((ai.rfl_.next E1).next E67)⟩))))))))))));rw [eq_comm,←Bool.not_eq_true,b_];rintro ⟨⟨n1,n2,n3,⟨n4,n5⟩,n6,n7,n8,n9⟩,⟨g1,g2,g3,g4,g5⟩,v1,l1,⟨p1,p2,p3⟩⟩
   first
    |omega
    |(simp_all;done)
    |(simp_all;omega)
  with_reducible (replace Q32:=dU Q32;replace Q32:=dT_ Q32)
  (try simp only [bs9] at Q32)
  refine ae rfl (ab (aa dc rfl) (ae rfl (ab (au aR rfl (by exact (show _=some (Value.slice V s.votes.length Vc) from (hk1.from_ (ai.rfl_.next E67)).rd 14 rfl))) ?_)));refine ae rfl (ab (aa cg rfl) (ae rfl (ab (au ao rfl (by exact (hk1.from_ (ai.rfl_.next E67)).rd 1 rfl)) ?_)));refine ae rfl (aC nf (tN V Vc s.votes s.nodes _ (hrd.v.1.from_ ((ai.rfl_.next E1).next E67)) hl1) ?_);rintro v110 w33 ⟨rfl,E110⟩;refine ae rfl (ab (cp rfl) (ab (ay (v:=.bool _) rfl rfl) (ak (ag (Br rfl (fun Q34=>?_) (fun Q34=>?_))))))
  ·(try simp only [bs9] at Q34)
   refine an (af (asb rfl (ak (ag (aE (aG (bt (v:=.bool _) rfl rfl (⟨congrArg Value.bool ?_,(((ai.rfl_.next E1).next E67).next E110)⟩))))))));rw [eq_comm,←Bool.not_eq_true,b_];rintro ⟨⟨n1,n2,n3,⟨n4,n5⟩,n6,n7,n8,n9⟩,⟨g1,g2,g3,g4,g5⟩,v1,l1,⟨p1,p2,p3⟩⟩
   first
    |omega
    |(simp_all;done)
    |(simp_all;omega)
  (try simp only [bs9] at Q34)
  refine aN ?_;refine cG (()) trivial (by (iterate 121 refine bE rfl ?_);exact bX) ?_;exact ⟨⟨by omega,by omega,by omega,by omega,by omega,by omega,by first | assumption | simp_all,by omega,by omega,by omega,by omega,by omega,by first | assumption | simp_all⟩,hk1.from_ ((ai.rfl_.next E67).next E110),(((ai.rfl_.next E1).next E67).next E110)⟩
 rintro ⟨⟩ ρ35 w35 ⟨⟨f1,f2,f3,f4,f5,f6,f7,f8,f9,fa,fb,fc,fd⟩,hk1,hB⟩;refine an (af (ab (aa bg rfl) (ab (aK (cs:=[.int .i64 s.b,.int .i64 s.t,.slice E s.es.length Ec]) dm cX rfl (qB (hk1.from_ ai.rfl_))) ?_)));have hm1:cK s.b s.t s.es=true:=by first | assumption | simp_all
 have hbl:=eY hm1;have hlr:bd s=s.b+s.es.length:=hbl.1;refine aC ki (lZ s E s.es.length Ec _ (hrd.e.from_ hB) hm1) ?_;rintro v116 w36 ⟨rfl,E116⟩;refine mvt rfl (ab (aY rfl rfl) (ab (aY rfl rfl) (asi rfl (asi rfl (ak (ag (an (an (af (mvi rfl (ab (aa bJ rfl) (ab (au ao rfl (by exact (hk1.from_ (ai.rfl_.next E116)).rd 3 rfl)) ?_))))))))))));refine ab (cy rfl rfl) (ak (ag (Bu rfl (fun Q37=>?_) (fun Q37=>?_))))
 ·refine an (af (asb rfl (ak (ag (aE (aG (bt (v:=.bool _) rfl rfl (⟨congrArg Value.bool ?_,(hB.next E116)⟩))))))));rw [eq_comm,←Bool.not_eq_true,b_];rintro ⟨⟨n1,n2,n3,⟨n4,n5⟩,n6,n7,n8,n9⟩,⟨g1,g2,g3,g4,g5⟩,v1,l1,⟨p1,p2,p3⟩⟩
  first
   |omega
   |(simp_all;done)
   |(simp_all;omega)
 refine aN (ag (oV (G:=Unit) [2,123,124,125,126,127,128,129,130,131,132,133,134,135,136,137,138,139,140,141,142,143,144,145,146,147,148,149,150,151,152,153,154,155,156,157,158,159,160] (fun _=>[]) (fun _ w'=>(dq s.t s.es≤s.term∧(s.b≤s.commit∧s.commit≤bd s)∧s.part.size≤524288∧(0≤s.partOf∧s.partOf≤1099511625728)∧(s.partOf≠0∨s.part.size=0))∧Blk w' b1 29 (rfV s (⟨E,Ec,V,Vc,X,Xc,M,Mc,Sn,Sc,Q,Qc,LL⟩:Ra)).toArray∧ai w w') ?_ ?_))
 ·refine an (af (ab (aa dv rfl) (ab (au ao rfl (by exact (hk1.from_ (ai.rfl_.next E116)).rd 10 rfl)) ?_)));refine ab (aa bg rfl) (ab (aa bT rfl) (ab (au ao rfl (by exact (hk1.from_ (ai.rfl_.next E116)).rd 6 rfl)) ?_));refine ab (bZ rfl rfl) (mvb rfl (AU (t:=129) rfl (fun Q38=>?_) (fun Q38=>?_)))
  ·(try simp only [bs9] at Q38)
   refine bB rfl (ak (ag (a_ rfl (an (af (asb rfl (ak (ag (aE (aG (bt (v:=.bool _) rfl rfl (⟨congrArg Value.bool ?_,(hB.next E116)⟩))))))))))));rw [eq_comm,←Bool.not_eq_true,b_];rintro ⟨⟨n1,n2,n3,⟨n4,n5⟩,n6,n7,n8,n9⟩,⟨g1,g2,g3,g4,g5⟩,v1,l1,⟨p1,p2,p3⟩⟩
   first
    |omega
    |(simp_all;done)
    |(simp_all;omega)
  (try simp only [bs9] at Q38)
  refine ae rfl (ab (aa dv rfl) (ae rfl (ab (au ao rfl (by exact (hk1.from_ (ai.rfl_.next E116)).rd 10 rfl)) ?_)));refine ae rfl (mvi rfl (ae rfl (ab (cy rfl rfl) (ab (ay (v:=.bool _) rfl rfl) (mvb rfl (AU (t:=135) rfl (fun Q39=>?_) (fun Q39=>?_)))))))
  ·(try simp only [bs9] at Q39)
   refine bB rfl (ak (ag (a_ rfl (an (af (asb rfl (ak (ag (aE (aG (bt (v:=.bool _) rfl rfl (⟨congrArg Value.bool ?_,(hB.next E116)⟩))))))))))));rw [eq_comm,←Bool.not_eq_true,b_];rintro ⟨⟨n1,n2,n3,⟨n4,n5⟩,n6,n7,n8,n9⟩,⟨g1,g2,g3,g4,g5⟩,v1,l1,⟨p1,p2,p3⟩⟩
   first
    |omega
    |(simp_all;done)
    |(simp_all;omega)
  (try simp only [bs9] at Q39)
  refine ae rfl (ab (aa eb rfl) (ae rfl (ab (au cD rfl (by exact (hk1.from_ (ai.rfl_.next E116)).rd 20 rfl)) ?_)));refine ae rfl (ab (en (by kernel_rfl) rfl) (ae rfl (ab (cy rfl rfl) (ab (ay (v:=.bool _) rfl rfl) (mvb rfl (AU (t:=141) rfl (fun Q40=>?_) (fun Q40=>?_)))))))
  ·(try simp only [bs9] at Q40)
   refine bB rfl (ak (ag (a_ rfl (an (af (asb rfl (ak (ag (aE (aG (bt (v:=.bool _) rfl rfl (⟨congrArg Value.bool ?_,(hB.next E116)⟩))))))))))));rw [eq_comm,←Bool.not_eq_true,b_];rintro ⟨⟨n1,n2,n3,⟨n4,n5⟩,n6,n7,n8,n9⟩,⟨g1,g2,g3,g4,g5⟩,v1,l1,⟨p1,p2,p3⟩⟩
   first
    |omega
    |(simp_all;done)
    |(simp_all;omega)
  (try simp only [bs9] at Q40)
  refine ae rfl (ab (aa ea rfl) (ae rfl (ab (au ao rfl (by exact (hk1.from_ (ai.rfl_.next E116)).rd 21 rfl)) ?_)));refine ae rfl (ab (bZ rfl rfl) (ab (ay (v:=.bool _) rfl rfl) (mvb rfl (AU (t:=146) rfl (fun Q41=>?_) (fun Q41=>?_)))))
  ·(try simp only [bs9] at Q41)
   refine bB rfl (ak (ag (a_ rfl (an (af (asb rfl (ak (ag (aE (aG (bt (v:=.bool _) rfl rfl (⟨congrArg Value.bool ?_,(hB.next E116)⟩))))))))))));rw [eq_comm,←Bool.not_eq_true,b_];rintro ⟨⟨n1,n2,n3,⟨n4,n5⟩,n6,n7,n8,n9⟩,⟨g1,g2,g3,g4,g5⟩,v1,l1,⟨p1,p2,p3⟩⟩
   first
    |omega
    |(simp_all;done)
    |(simp_all;omega)
  (try simp only [bs9] at Q41)
  refine ae rfl (ab (aa ea rfl) (ae rfl (ab (au ao rfl (by exact (hk1.from_ (ai.rfl_.next E116)).rd 21 rfl)) ?_)));refine ae rfl (ab (cy rfl rfl) (ab (ay (v:=.bool _) rfl rfl) (mvb rfl (AU (t:=151) rfl (fun Q42=>?_) (fun Q42=>?_)))))
  ·(try simp only [bs9] at Q42)
   refine bB rfl (ak (ag (a_ rfl (an (af (asb rfl (ak (ag (aE (aG (bt (v:=.bool _) rfl rfl (⟨congrArg Value.bool ?_,(hB.next E116)⟩))))))))))));rw [eq_comm,←Bool.not_eq_true,b_];rintro ⟨⟨n1,n2,n3,⟨n4,n5⟩,n6,n7,n8,n9⟩,⟨g1,g2,g3,g4,g5⟩,v1,l1,⟨p1,p2,p3⟩⟩
   first
    |omega
    |(simp_all;done)
    |(simp_all;omega)
  (try simp only [bs9] at Q42)
  refine ae rfl (ab (aa ea rfl) (ae rfl (ab (au ao rfl (by exact (hk1.from_ (ai.rfl_.next E116)).rd 21 rfl)) ?_)));refine ae rfl (ab (bh rfl rfl) (ae rfl (mvb rfl (AU (t:=155) rfl (fun Q43=>?_) (fun Q43=>?_)))))
  ·(try simp only [bs9] at Q43)
   refine ae rfl (ab (aa eb rfl) (ae rfl (ab (au cD rfl (by exact (hk1.from_ (ai.rfl_.next E116)).rd 20 rfl)) ?_)));refine ae rfl (ab (eI (uT rfl rfl) (congrArg Value.bool (Bv s.part))) (ae rfl (ab (aL (v:=.bool _) rfl rfl) (ab (ay (v:=.bool _) rfl rfl) (ak (ag (Bu rfl (fun Q44=>?_) (fun Q44=>?_))))))))
   ·(try simp only [bs9] at Q44)
    refine an (af (asb rfl (ak (ag (aE (aG (bt (v:=.bool _) rfl rfl (⟨congrArg Value.bool ?_,(hB.next E116)⟩))))))));rw [eq_comm,←Bool.not_eq_true,b_];rintro ⟨⟨n1,n2,n3,⟨n4,n5⟩,n6,n7,n8,n9⟩,⟨g1,g2,g3,g4,g5⟩,v1,l1,⟨p1,p2,p3⟩⟩
    first
     |omega
     |(simp_all;done)
     |(simp_all;omega)
   (try simp only [bs9] at Q44)
   refine aN ?_;refine cG (()) trivial (by (iterate 44 refine bE rfl ?_);exact bX) ?_;exact ⟨⟨by omega,by omega,by omega,by omega,by omega⟩,hk1.from_ (ai.rfl_.next E116),(hB.next E116)⟩
  (try simp only [bs9] at Q43)
  refine ar rfl rfl (ar rfl rfl (ar rfl rfl (ae rfl (ab (ay (v:=.bool _) rfl rfl) (ab (ay (v:=.bool _) rfl rfl) (ak (ag (bc rfl (aN ?_)))))))));refine cG (()) trivial (by (iterate 44 refine bE rfl ?_);exact bX) ?_;exact ⟨⟨by omega,by omega,by omega,by omega,by omega⟩,hk1.from_ (ai.rfl_.next E116),(hB.next E116)⟩
 rintro ⟨⟩ ρ45 w45 ⟨⟨fe,ff,fg,fh,fi⟩,hk1,hB⟩;refine an (af (asi rfl (ak (ag (oV (G:=Unit) [161,162,163,164,165] (fun _=>[(5,.int .i64 nn)]) (fun _ w'=>Blk w' b1 29 (rfV s (⟨E,Ec,V,Vc,X,Xc,M,Mc,Sn,Sc,Q,Qc,LL⟩:Ra)).toArray∧ai w w') ?_ ?_)))))
 ·refine an (af (ab (aa cT rfl) (ab (au ao rfl (by exact (hk1.from_ ai.rfl_).rd 2 rfl)) ?_)));refine ab (bh rfl rfl) (ak (ag (Bu rfl (fun Q46=>?_) (fun Q46=>?_))))
  ·refine af (ab (aa cg rfl) (ab (au ao rfl (by exact (hk1.from_ ai.rfl_).rd 1 rfl)) ?_));refine asi rfl (ak ?_);refine cG (()) ⟨(bo (by first | exact (hnn.1 (by omega)).symm | exact (hnn.2 (by omega)).symm)),trivial⟩ (by (iterate 6 refine bE rfl ?_);exact bX) ?_;exact ⟨hk1.from_ ai.rfl_,hB⟩
  refine aN ?_;refine cG (()) ⟨(bo (by first | exact (hnn.1 (by omega)).symm | exact (hnn.2 (by omega)).symm)),trivial⟩ (by (iterate 3 refine bE rfl ?_);exact bX) ?_;exact ⟨hk1.from_ ai.rfl_,hB⟩
 rintro ⟨⟩ ρ47 w47 ⟨hk1,hB⟩;refine oV (G:=Unit) [2,166,167,168,169,170,171,172,173,174,175,176,177,178,179,180,181,182,183,184,185,186,187,188,189,190,191,192,193,194,195,196,197,198,199,200,201,202,203,204,205,206] (fun _=>[]) (fun _ w'=>fm s.next nn 1 (bd s+1)∧fm s.mtch nn 0 (bd s)∧fm s.sent nn 0 (s.snap.size:Nat)∧LL.length≤32∧(nn≠0∨LL.length=0)∧Blk w' b1 29 (rfV s (⟨E,Ec,V,Vc,X,Xc,M,Mc,Sn,Sc,Q,Qc,LL⟩:Ra)).toArray∧ai w w') ?_ ?_
 ·refine an (af (ab (aa bw rfl) (ab (au aR rfl (by exact (show _=some (Value.slice X s.next.length Xc) from (hk1.from_ ai.rfl_).rd 15 rfl))) ?_)));refine mvi rfl (mvi rfl (ab (b0 rfl rfl (by omega)) (aC nd (yh X Xc s.next _ 1 (bd s+1) _ (hrd.x.1.from_ hB) hl2) ?_)));rintro v171 w48 ⟨rfl,E171⟩;refine ab (cp rfl) (mvb rfl (aM (t:=173) rfl (fun Q49=>?_) (fun Q49=>?_)))
  ·with_reducible (replace Q49:=dS Q49;replace Q49:=dF_ Q49)
   (try simp only [bs9] at Q49)
   refine bB rfl (ak (ag (a_ rfl (an (af (asb rfl (ak (ag (aE (aG (bt (v:=.bool _) rfl rfl (⟨congrArg Value.bool ?_,(hB.next E171)⟩))))))))))));rw [eq_comm,←Bool.not_eq_true,b_];rintro ⟨⟨n1,n2,n3,⟨n4,n5⟩,n6,n7,n8,n9⟩,⟨g1,g2,g3,g4,g5⟩,v1,l1,⟨p1,p2,p3⟩⟩;by_cases hro:s.role=2
   ·rw [cJ hro] at l1;obtain rfl:nn=s.nodes:=hnn.1 hro;obtain ⟨⟨l2,l3,l4,l5⟩,⟨l6,l7,l8⟩,l9⟩:=l1
    first
     |omega
     |(rename_i q9;exact q9 ⟨by omega,by assumption⟩)
     |(simp_all [fm];done)
     |(simp_all [fm];omega)
   ·rw [dZ hro] at l1;obtain rfl:nn=0:=hnn.2 hro;have e1:s.next=[]:=List.eq_nil_of_length_eq_zero (by omega);have e2:s.mtch=[]:=List.eq_nil_of_length_eq_zero (by omega);have e3:s.sent=[]:=List.eq_nil_of_length_eq_zero (by omega)
    first
     |omega
     |(simp_all [fm,eJ];done)
     |(simp_all [fm,eJ];omega)
  with_reducible (replace Q49:=dU Q49;replace Q49:=dT_ Q49)
  (try simp only [bs9] at Q49)
  refine ae rfl (ab (aa cf rfl) (ae rfl (ab (au aR rfl (by exact (show _=some (Value.slice M s.mtch.length Mc) from (hk1.from_ (ai.rfl_.next E171)).rd 16 rfl))) ?_)));refine ae rfl (mvi rfl (ae rfl (mvi rfl (ae rfl (aC nd (yh M Mc s.mtch _ 0 (bd s) _ (hrd.m.1.from_ (hB.next E171)) hl3) ?_)))));rintro v178 w50 ⟨rfl,E178⟩;refine ae rfl (ab (cp rfl) (ab (ay (v:=.bool _) rfl rfl) (mvb rfl (aM (t:=181) rfl (fun Q51=>?_) (fun Q51=>?_)))))
  ·with_reducible (replace Q51:=dS Q51;replace Q51:=dF_ Q51)
   (try simp only [bs9] at Q51)
   refine bB rfl (ak (ag (a_ rfl (an (af (asb rfl (ak (ag (aE (aG (bt (v:=.bool _) rfl rfl (⟨congrArg Value.bool ?_,((hB.next E171).next E178)⟩))))))))))));rw [eq_comm,←Bool.not_eq_true,b_];rintro ⟨⟨n1,n2,n3,⟨n4,n5⟩,n6,n7,n8,n9⟩,⟨g1,g2,g3,g4,g5⟩,v1,l1,⟨p1,p2,p3⟩⟩;by_cases hro:s.role=2
   ·rw [cJ hro] at l1;obtain rfl:nn=s.nodes:=hnn.1 hro;obtain ⟨⟨l2,l3,l4,l5⟩,⟨l6,l7,l8⟩,l9⟩:=l1
    first
     |omega
     |(rename_i q9;exact q9 ⟨by omega,by assumption⟩)
     |(simp_all [fm];done)
     |(simp_all [fm];omega)
   ·rw [dZ hro] at l1;obtain rfl:nn=0:=hnn.2 hro;have e1:s.next=[]:=List.eq_nil_of_length_eq_zero (by omega);have e2:s.mtch=[]:=List.eq_nil_of_length_eq_zero (by omega);have e3:s.sent=[]:=List.eq_nil_of_length_eq_zero (by omega)
    first
     |omega
     |(simp_all [fm,eJ];done)
     |(simp_all [fm,eJ];omega)
  with_reducible (replace Q51:=dU Q51;replace Q51:=dT_ Q51)
  (try simp only [bs9] at Q51)
  refine ae rfl (ab (aa ct rfl) (ae rfl (ab (au aR rfl (by exact (show _=some (Value.slice Sn s.sent.length Sc) from (hk1.from_ ((ai.rfl_.next E171).next E178)).rd 17 rfl))) ?_)));refine ae rfl (mvi rfl (ae rfl (ab (aa cO rfl) (ae rfl (ab (au cD rfl (by exact (hk1.from_ ((ai.rfl_.next E171).next E178)).rd 9 rfl)) ?_)))));refine ae rfl (ab (en (by kernel_rfl) rfl) (ae rfl (aC nd (yh Sn Sc s.sent _ 0 (s.snap.size:Nat) _ (hrd.n.1.from_ ((hB.next E171).next E178)) hl4) ?_)));rintro v188 w52 ⟨rfl,E188⟩;refine ae rfl (ab (cp rfl) (ab (ay (v:=.bool _) rfl rfl) (mvb rfl (aM (t:=191) rfl (fun Q53=>?_) (fun Q53=>?_)))))
  ·with_reducible (replace Q53:=dS Q53;replace Q53:=dF_ Q53)
   (try simp only [bs9] at Q53)
   refine bB rfl (ak (ag (a_ rfl (an (af (asb rfl (ak (ag (aE (aG (bt (v:=.bool _) rfl rfl (⟨congrArg Value.bool ?_,(((hB.next E171).next E178).next E188)⟩))))))))))));rw [eq_comm,←Bool.not_eq_true,b_];rintro ⟨⟨n1,n2,n3,⟨n4,n5⟩,n6,n7,n8,n9⟩,⟨g1,g2,g3,g4,g5⟩,v1,l1,⟨p1,p2,p3⟩⟩;by_cases hro:s.role=2
   ·rw [cJ hro] at l1;obtain rfl:nn=s.nodes:=hnn.1 hro;obtain ⟨⟨l2,l3,l4,l5⟩,⟨l6,l7,l8⟩,l9⟩:=l1
    first
     |omega
     |(rename_i q9;exact q9 ⟨by omega,by assumption⟩)
     |(simp_all [fm];done)
     |(simp_all [fm];omega)
   ·rw [dZ hro] at l1;obtain rfl:nn=0:=hnn.2 hro;have e1:s.next=[]:=List.eq_nil_of_length_eq_zero (by omega);have e2:s.mtch=[]:=List.eq_nil_of_length_eq_zero (by omega);have e3:s.sent=[]:=List.eq_nil_of_length_eq_zero (by omega)
    first
     |omega
     |(simp_all [fm,eJ];done)
     |(simp_all [fm,eJ];omega)
  with_reducible (replace Q53:=dU Q53;replace Q53:=dT_ Q53)
  (try simp only [bs9] at Q53)
  refine ae rfl (ab (aa bH rfl) (ae rfl (ab (au du rfl (by exact (show _=some (Value.slice Q LL.length Qc) from (hk1.from_ (((ai.rfl_.next E171).next E178).next E188)).rd 19 rfl))) ?_)));refine ae rfl (ab (bL eK rfl) (ae rfl (ab (cy rfl rfl) (ab (ay (v:=.bool _) rfl rfl) (mvb rfl (AU (t:=197) rfl (fun Q54=>?_) (fun Q54=>?_)))))))
  ·(try simp only [bs9] at Q54)
   refine bB rfl (ak (ag (a_ rfl (an (af (asb rfl (ak (ag (aE (aG (bt (v:=.bool _) rfl rfl (⟨congrArg Value.bool ?_,(((hB.next E171).next E178).next E188)⟩))))))))))));rw [eq_comm,←Bool.not_eq_true,b_];rintro ⟨⟨n1,n2,n3,⟨n4,n5⟩,n6,n7,n8,n9⟩,⟨g1,g2,g3,g4,g5⟩,v1,l1,⟨p1,p2,p3⟩⟩;by_cases hro:s.role=2
   ·rw [cJ hro] at l1;obtain rfl:nn=s.nodes:=hnn.1 hro;obtain ⟨⟨l2,l3,l4,l5⟩,⟨l6,l7,l8⟩,l9⟩:=l1
    first
     |omega
     |(rename_i q9;exact q9 ⟨by omega,by assumption⟩)
     |(simp_all [fm];done)
     |(simp_all [fm];omega)
   ·rw [dZ hro] at l1;obtain rfl:nn=0:=hnn.2 hro;have e1:s.next=[]:=List.eq_nil_of_length_eq_zero (by omega);have e2:s.mtch=[]:=List.eq_nil_of_length_eq_zero (by omega);have e3:s.sent=[]:=List.eq_nil_of_length_eq_zero (by omega)
    first
     |omega
     |(simp_all [fm,eJ];done)
     |(simp_all [fm,eJ];omega)
  (try simp only [bs9] at Q54)
  refine ae rfl (mvi rfl (ae rfl (ab (bh rfl rfl) (ae rfl (mvb rfl (AU (t:=200) rfl (fun Q55=>?_) (fun Q55=>?_)))))))
  ·(try simp only [bs9] at Q55)
   refine ae rfl (ab (aa bH rfl) (ae rfl (ab (au du rfl (by exact (show _=some (Value.slice Q LL.length Qc) from (hk1.from_ (((ai.rfl_.next E171).next E178).next E188)).rd 19 rfl))) ?_)));refine ae rfl (ab (bL eK rfl) (ae rfl (ab (cy rfl rfl) (ae rfl (ab (aL (v:=.bool _) rfl rfl) (ab (ay (v:=.bool _) rfl rfl) (ak (ag (Bu rfl (fun Q56=>?_) (fun Q56=>?_))))))))))
   ·(try simp only [bs9] at Q56)
    refine an (af (asb rfl (ak (ag (aE (aG (bt (v:=.bool _) rfl rfl (⟨congrArg Value.bool ?_,(((hB.next E171).next E178).next E188)⟩))))))));rw [eq_comm,←Bool.not_eq_true,b_];rintro ⟨⟨n1,n2,n3,⟨n4,n5⟩,n6,n7,n8,n9⟩,⟨g1,g2,g3,g4,g5⟩,v1,l1,⟨p1,p2,p3⟩⟩;by_cases hro:s.role=2
    ·rw [cJ hro] at l1;obtain rfl:nn=s.nodes:=hnn.1 hro;obtain ⟨⟨l2,l3,l4,l5⟩,⟨l6,l7,l8⟩,l9⟩:=l1
     first
      |omega
      |(rename_i q9;exact q9 ⟨by omega,by assumption⟩)
      |(simp_all [fm];done)
      |(simp_all [fm];omega)
    ·rw [dZ hro] at l1;obtain rfl:nn=0:=hnn.2 hro;have e1:s.next=[]:=List.eq_nil_of_length_eq_zero (by omega);have e2:s.mtch=[]:=List.eq_nil_of_length_eq_zero (by omega);have e3:s.sent=[]:=List.eq_nil_of_length_eq_zero (by omega)
     first
      |omega
      |(simp_all [fm,eJ];done)
      |(simp_all [fm,eJ];omega)
   (try simp only [bs9] at Q56)
   refine aN ?_;refine cG (()) trivial (by (iterate 46 refine bE rfl ?_);exact bX) ?_;exact ⟨by first | assumption | simp_all,by first | assumption | simp_all,by first | assumption | simp_all,by omega,by omega,hk1.from_ (((ai.rfl_.next E171).next E178).next E188),(((hB.next E171).next E178).next E188)⟩
  (try simp only [bs9] at Q55)
  refine ar rfl rfl (ar rfl rfl (ar rfl rfl (ar rfl rfl (ae rfl (ab (ay (v:=.bool _) rfl rfl) (ab (ay (v:=.bool _) rfl rfl) (ak (ag (bc rfl ?_)))))))));refine aN ?_;refine cG (()) trivial (by (iterate 46 refine bE rfl ?_);exact bX) ?_;exact ⟨by first | assumption | simp_all,by first | assumption | simp_all,by first | assumption | simp_all,by omega,by omega,hk1.from_ (((ai.rfl_.next E171).next E178).next E188),(((hB.next E171).next E178).next E188)⟩
 rintro ⟨⟩ ρ57 w57 ⟨hx9,hm9,hs9,hl9,hn9,hk1,hB⟩;refine an (an (af (asi rfl (ak (ag (bf (cS (G:=Nat) [2,7,207,208,209,210,211,212,213,214,215,216,217,218,219,220,221,222,223,224,225,226,227,228,229,230,231,232,233,234,235,236,237,238,239,240,241,242,243,244,245,246,247,248,249,250,251,252,253,254,255,256,257,258] (fun k=>[(6,.int .i64 (k:Nat))]) (fun k w'=>k≤LL.length∧(∀ j (h:j<LL.length),j<k→gO s LL[j].1=true)∧Blk w' b1 29 (rfV s (⟨E,Ec,V,Vc,X,Xc,M,Mc,Sn,Sc,Q,Qc,LL⟩:Ra)).toArray∧ai w w') (fun k=>LL.length-k) (0) ⟨rfl,trivial⟩ ?_ ?_)))))))
 ·exact ⟨Nat.zero_le _,fun j _ h=>absurd h (by omega),hk1.from_ ai.rfl_,hB⟩
 rintro k ρ58 w58 ⟨hk,h1,hk1,hB⟩;refine an (an (af (mvi rfl (ab (aa bH rfl) (ab (au du rfl (by exact (show _=some (Value.slice Q LL.length Qc) from (hk1.from_ ai.rfl_).rd 19 rfl))) ?_)))));refine ab (bL eK rfl) (ab (bZ rfl rfl) (ak (ag (Bu rfl (fun Q59=>?_) (fun Q59=>?_)))))
 ·have hkL:k<LL.length:=by omega
  have hqm:LL[k].1∈s.reads:=by rw [←hrL];exact List.mem_map_of_mem (List.getElem_mem hkL)
  obtain ⟨ba,oa,rfl,hcs⟩:∃ b o,Q=some ⟨b,o,none⟩∧∀ i (hi:i<LL.length),w.rangeAt b (o+i*4) (rdV LL[i]):=hrd.q (by show 0<LL.length;omega);refine aN (ag (an (bf (an (af (ab (aa bH rfl) (ab (au du rfl (by exact (show _=some (Value.slice (some ⟨ba,oa,none⟩) LL.length Qc) from (hk1.from_ ai.rfl_).rd 19 rfl))) ?_)))))));refine mvi rfl (ab (bN eT rfl rfl (by omega)) (ab (aK (cs:=rdV LL[k]) gI eS rfl (ft hB (hcs k hkL))) (bU iD ?_)));intro b7 w60 E7 hb7 hk7;have hg7:w.heap.size≤b7:=by rw [hb7];exact (hB).size
  have hk1L:=hk1.from_ (ai.rfl_.next E7);have hn7:b1≠b7:=by have:=hk1.lt;have:=((ai.rfl_.next E7)).size;omega
  refine cq (vs:=[_,_,_,_]) eS rfl rfl (by simp [Value.oneCell']) (hk7) rfl ?_;intro w61 O16 P16;replace hk1:=hk1L.only O16 hn7;refine ak (ag (an (af (ab (aa jq rfl) (ab (au ao rfl (by exact (show _=some (Value.int .i64 LL[k].1.id) from (P16.from_ ai.rfl_).rd 0 rfl))) ?_)))));refine ab (bZ rfl rfl) (mvb rfl (AU (t:=222) rfl (fun Q62=>?_) (fun Q62=>?_)))
  ·(try simp only [bs9] at Q62)
   refine bB rfl (ak (ag (a_ rfl (an (af (asb rfl (ak (ag (aE (bG (aG (aG (bG (aG (bt (v:=.bool _) rfl rfl (⟨congrArg Value.bool ?_,((hB.next E7).only O16 (hg7))⟩))))))))))))))));rw [eq_comm,←Bool.not_eq_true,b_];rintro ⟨_,_,_,l1,_⟩;by_cases hro:s.role=2
   ·rw [cJ hro] at l1;have g5:=et.1 (l1.2.2 _ hqm)
    first
     |omega
     |(simp_all;done)
   ·rw [dZ hro] at l1;omega
  (try simp only [bs9] at Q62)
  refine ae rfl (ab (aa jq rfl) (ae rfl (ab (au ao rfl (by exact (show _=some (Value.int .i64 LL[k].1.id) from (P16.from_ ai.rfl_).rd 0 rfl))) ?_)));refine ae rfl (ab (cy rfl rfl) (ab (ay (v:=.bool _) rfl rfl) (mvb rfl (AU (t:=227) rfl (fun Q63=>?_) (fun Q63=>?_)))))
  ·(try simp only [bs9] at Q63)
   refine bB rfl (ak (ag (a_ rfl (an (af (asb rfl (ak (ag (aE (bG (aG (aG (bG (aG (bt (v:=.bool _) rfl rfl (⟨congrArg Value.bool ?_,((hB.next E7).only O16 (hg7))⟩))))))))))))))));rw [eq_comm,←Bool.not_eq_true,b_];rintro ⟨_,_,_,l1,_⟩;by_cases hro:s.role=2
   ·rw [cJ hro] at l1;have g5:=et.1 (l1.2.2 _ hqm)
    first
     |omega
     |(simp_all;done)
   ·rw [dZ hro] at l1;omega
  (try simp only [bs9] at Q63)
  refine ae rfl (ab (aa jo rfl) (ae rfl (ab (au ao rfl (by exact (show _=some (Value.int .i64 LL[k].1.ix) from (P16.from_ ai.rfl_).rd 1 rfl))) ?_)));refine ae rfl (ab (bZ rfl rfl) (ab (ay (v:=.bool _) rfl rfl) (mvb rfl (AU (t:=232) rfl (fun Q64=>?_) (fun Q64=>?_)))))
  ·(try simp only [bs9] at Q64)
   refine bB rfl (ak (ag (a_ rfl (an (af (asb rfl (ak (ag (aE (bG (aG (aG (bG (aG (bt (v:=.bool _) rfl rfl (⟨congrArg Value.bool ?_,((hB.next E7).only O16 (hg7))⟩))))))))))))))));rw [eq_comm,←Bool.not_eq_true,b_];rintro ⟨_,_,_,l1,_⟩;by_cases hro:s.role=2
   ·rw [cJ hro] at l1;have g5:=et.1 (l1.2.2 _ hqm)
    first
     |omega
     |(simp_all;done)
   ·rw [dZ hro] at l1;omega
  (try simp only [bs9] at Q64)
  refine ae rfl (ab (aa jo rfl) (ae rfl (ab (au ao rfl (by exact (show _=some (Value.int .i64 LL[k].1.ix) from (P16.from_ ai.rfl_).rd 1 rfl))) ?_)));refine ae rfl (ab (aa dv rfl) (ae rfl (ab (au ao rfl (by exact (hk1.from_ ai.rfl_).rd 10 rfl)) ?_)));refine ae rfl (ab (cy rfl rfl) (ab (ay (v:=.bool _) rfl rfl) (mvb rfl (AU (t:=239) rfl (fun Q65=>?_) (fun Q65=>?_)))))
  ·(try simp only [bs9] at Q65)
   refine bB rfl (ak (ag (a_ rfl (an (af (asb rfl (ak (ag (aE (bG (aG (aG (bG (aG (bt (v:=.bool _) rfl rfl (⟨congrArg Value.bool ?_,((hB.next E7).only O16 (hg7))⟩))))))))))))))));rw [eq_comm,←Bool.not_eq_true,b_];rintro ⟨_,_,_,l1,_⟩;by_cases hro:s.role=2
   ·rw [cJ hro] at l1;have g5:=et.1 (l1.2.2 _ hqm)
    first
     |omega
     |(simp_all;done)
   ·rw [dZ hro] at l1;omega
  (try simp only [bs9] at Q65)
  refine ae rfl (ab (aa gu rfl) (ae rfl (ab (au ao rfl (by exact (show _=some (Value.int .i64 LL[k].1.rn) from (P16.from_ ai.rfl_).rd 2 rfl))) ?_)));refine ae rfl (ab (bZ rfl rfl) (ab (ay (v:=.bool _) rfl rfl) (mvb rfl (AU (t:=244) rfl (fun Q66=>?_) (fun Q66=>?_)))))
  ·(try simp only [bs9] at Q66)
   refine bB rfl (ak (ag (a_ rfl (an (af (asb rfl (ak (ag (aE (bG (aG (aG (bG (aG (bt (v:=.bool _) rfl rfl (⟨congrArg Value.bool ?_,((hB.next E7).only O16 (hg7))⟩))))))))))))))));rw [eq_comm,←Bool.not_eq_true,b_];rintro ⟨_,_,_,l1,_⟩;by_cases hro:s.role=2
   ·rw [cJ hro] at l1;have g5:=et.1 (l1.2.2 _ hqm)
    first
     |omega
     |(simp_all;done)
   ·rw [dZ hro] at l1;omega
  (try simp only [bs9] at Q66)
  refine ae rfl (ab (aa gu rfl) (ae rfl (ab (au ao rfl (by exact (show _=some (Value.int .i64 LL[k].1.rn) from (P16.from_ ai.rfl_).rd 2 rfl))) ?_)));refine ae rfl (ab (aa dz rfl) (ae rfl (ab (au ao rfl (by exact (hk1.from_ ai.rfl_).rd 18 rfl)) ?_)));refine ae rfl (ab (cy rfl rfl) (ab (ay (v:=.bool _) rfl rfl) (mvb rfl (AU (t:=251) rfl (fun Q67=>?_) (fun Q67=>?_)))))
  ·(try simp only [bs9] at Q67)
   refine bB rfl (ak (ag (a_ rfl (an (af (asb rfl (ak (ag (aE (bG (aG (aG (bG (aG (bt (v:=.bool _) rfl rfl (⟨congrArg Value.bool ?_,((hB.next E7).only O16 (hg7))⟩))))))))))))))));rw [eq_comm,←Bool.not_eq_true,b_];rintro ⟨_,_,_,l1,_⟩;by_cases hro:s.role=2
   ·rw [cJ hro] at l1;have g5:=et.1 (l1.2.2 _ hqm)
    first
     |omega
     |(simp_all;done)
   ·rw [dZ hro] at l1;omega
  (try simp only [bs9] at Q67)
  refine ae rfl (ab (aa ef rfl) (ae rfl (ab (au aR rfl (by exact (show _=some (Value.slice LL[k].2.1 LL[k].1.acks.length LL[k].2.2) from (P16.from_ ai.rfl_).rd 3 rfl))) ?_)));refine ae rfl (ab (aa cg rfl) (ae rfl (ab (au ao rfl (by exact (hk1.from_ ai.rfl_).rd 1 rfl)) ?_)));refine ae rfl (aC nf (tN LL[k].2.1 LL[k].2.2 LL[k].1.acks s.nodes _ ((hrk _ (List.getElem_mem hkL)).1.from_ ((hB.next E7).only O16 (hg7))) (hl6 _ hqm)) ?_);rintro v256 w68 ⟨rfl,E256⟩;refine ae rfl (ab (cp rfl) (ab (ay (v:=.bool _) rfl rfl) (ak (ag (Br rfl (fun Q69=>?_) (fun Q69=>?_))))))
  ·(try simp only [bs9] at Q69)
   refine an (af (asb rfl (ak (ag (aE (bG (aG (aG (bG (aG (bt (v:=.bool _) rfl rfl (⟨congrArg Value.bool ?_,(((hB.next E7).only O16 (hg7)).next E256)⟩))))))))))));rw [eq_comm,←Bool.not_eq_true,b_];rintro ⟨_,_,_,l1,_⟩;by_cases hro:s.role=2
   ·rw [cJ hro] at l1;have g5:=et.1 (l1.2.2 _ hqm)
    first
     |omega
     |(simp_all;done)
   ·rw [dZ hro] at l1;omega
  (try simp only [bs9] at Q69)
  refine aN (bq (ag (af (mvi rfl (ab (b0 rfl rfl (by omega)) (asi rfl (ak ?_)))))));refine cG (k+1) ⟨(by first | rfl | (refine bo ?_;omega)),trivial⟩ (by (iterate 115 refine bE rfl ?_);exact bX) ⟨?_,?_⟩
  ·refine ⟨by omega,fun j h hj=>?_,hk1.from_ (ai.rfl_.next E256),(((hB.next E7).only O16 (hg7)).next E256)⟩;rcases Nat.lt_or_ge j k with e | e
   ·exact h1 j h e
   ·obtain rfl:j=k:=by omega
    rw [et];exact ⟨by omega,by omega,by omega,by first | assumption | simp_all⟩
  ·omega
 refine cz (bk (bk (bW (ag (an (af (asb rfl (ak (ag (aE (bt (v:=.bool _) rfl rfl (⟨congrArg Value.bool ?_,hB⟩))))))))))));rw [eq_comm,b_]
 have hrd9:∀ q∈s.reads,gO s q=true:=fun q hq=>by
  rw [←hrL] at hq;obtain ⟨y,hy,rfl⟩:=List.mem_map.1 hq;obtain ⟨i,hi,rfl⟩:=List.getElem_of_mem hy;exact h1 i hi (by omega)
 refine ⟨⟨by omega,by omega,by omega,⟨by omega,by omega⟩,by omega,by omega,by omega,by omega⟩,⟨by simp_all,by omega,by omega,by omega,by omega⟩,by simp_all,?_,⟨by omega,by omega,by omega⟩⟩;by_cases hro:s.role=2
 ·rw [cJ hro];obtain rfl:nn=s.nodes:=hnn.1 hro;refine ⟨⟨?_,?_,?_,?_⟩,⟨?_,?_,?_⟩,hrd9⟩ <;> first | omega | (simp_all [fm];done) | (simp_all [fm];omega)
 ·rw [dZ hro];obtain rfl:nn=0:=hnn.2 hro
  simp_all [fm]
theorem dC:kj prog 39=some (.agg #[.int .i64 0,.int .i64 0,.int .i64 0,.int .i64 0,.int .i64 0,.int .i64 0,.int .i64 0,.int .i64 0,.bool false,.slice none 0 0,.int .i64 0,.string ⟨#[]⟩,.bool false]):=by kernel_rfl
theorem pf:ec prog 22=some 1:=by kernel_rfl
theorem Ag {s:ByteArray}:⟨#[]⟩=s↔s.size=0:=by
 constructor
 ·intro h;subst h;rfl
 ·intro h;obtain ⟨⟨l⟩⟩:=s;have h9:l.length=0:=h;rw [List.eq_nil_of_length_eq_zero h9]
theorem y6 {k f t tm ix lt cm rd:Int} {ok:Bool} {es:List Ent} {a:Int} {d:ByteArray} {dn:Bool} (h1:gK k f t tm ix lt cm rd a) (h2:pF k ix lt es) (h3:mY k ix a d):OkR k f t tm ix lt cm rd ok es a d dn↔ExR k ix lt cm rd ok es.length a d dn:=
 ⟨fun h=>h.2.1,fun h=>⟨h1,h,h2,h3⟩⟩
theorem xF (n:Int) (w:World) :
 Rt prog 61 [.int .i64 n] w (fun v w'=>v=.bool (decide (1≤n∧n≤7))∧w=w'):=by
 refine enter (n:=9) Tryz.func61 rfl rfl rfl (an (af (asb rfl (ak (ag (an (af (mvi rfl (ab (j5 rfl rfl) (mvb rfl (AU (t:=5) rfl (fun Q1=>?_) (fun Q1=>?_))))))))))))
 ·refine ae rfl (mvi rfl (ae rfl (ab (eW rfl rfl) (ab (aL (v:=.bool _) rfl rfl) (asb rfl (ak (ag (aE (bt (v:=.bool _) rfl rfl (⟨congrArg Value.bool ?_,rfl⟩))))))))))
  first
   |(rw [eq_comm,decide_eq_false_iff_not];omega)
   |(rw [decide_eq_decide];omega)
 refine ar rfl rfl (ar rfl rfl (ab (ay (v:=.bool _) rfl rfl) (asb rfl (ak (ag (aE (bt (v:=.bool _) rfl rfl (⟨congrArg Value.bool ?_,rfl⟩))))))))
 first
  |(rw [eq_comm,decide_eq_false_iff_not];omega)
  |(rw [decide_eq_decide];omega)
theorem p5 (n:Int) (w:World) :
 Rt prog 62 [.int .i64 n] w (fun v w'=>v=.bool (decide (0≤n∧n<1099511627776))∧w=w'):=by
 refine enter (n:=9) Tryz.func62 rfl rfl rfl (an (af (asb rfl (ak (ag (an (af (mvi rfl (ab (j5 rfl rfl) (mvb rfl (AU (t:=5) rfl (fun Q1=>?_) (fun Q1=>?_))))))))))))
 ·refine ae rfl (mvi rfl (ae rfl (ab (bZ rfl rfl) (ab (aL (v:=.bool _) rfl rfl) (asb rfl (ak (ag (aE (bt (v:=.bool _) rfl rfl (⟨congrArg Value.bool ?_,rfl⟩))))))))))
  first
   |(rw [eq_comm,decide_eq_false_iff_not];omega)
   |(rw [decide_eq_decide];omega)
 refine ar rfl rfl (ar rfl rfl (ab (ay (v:=.bool _) rfl rfl) (asb rfl (ak (ag (aE (bt (v:=.bool _) rfl rfl (⟨congrArg Value.bool ?_,rfl⟩))))))))
 first
  |(rw [eq_comm,decide_eq_false_iff_not];omega)
  |(rw [decide_eq_decide];omega)
theorem ub {es:List Ent} {k:Nat} (h:k<es.length):dR (es.take k)++[.int .i64 es[k].i,.int .i64 es[k].t,.string es[k].d]=dR (es.take (k+1)):=by
 rw [List.take_succ_eq_append_getElem h,nt];rfl
theorem yl (E:Option Addr) (n c:Nat) (es:List Ent) (w:World) (hn:n=es.length) (he:cH w (.slice E n c) es) (hl:es.length≤1000000000) :
 Rt prog 59 [.slice E n c] w (fun v w'=>(∃ A' c',v=.slice A' es.length c'∧w'.ownsRow w.heap.size 99 3 (.slice A' es.length c') es.length (dR es))∧ai w w'):=by
 refine enter (n:=19) Tryz.func59 rfl rfl rfl (an (af (ass rfl (ak (ag (an (af (ass rfl (ak (ag (an (an (af (asi rfl (ak (ag (bf (cS (G:=Nat×Option Addr×Nat) [5,6,7,8,9,10,11,12,13,14,15,16,17] (fun (k,A3,c3)=>[(3,.slice A3 k c3),(4,.int .i64 (k:Nat))]) (fun (k,A3,c3) w'=>k≤es.length∧w'.ownsRow w.heap.size 99 3 (.slice A3 k c3) k (dR (es.take k))∧ai w w') (fun (k,_,_)=>es.length-k) ((0,none,0)) ⟨rfl,rfl,trivial⟩ ?_ ?_))))))))))))))))))
 ·exact ⟨Nat.zero_le _,World.ownsRow_nil _ _ _ _,ai.rfl_⟩
 rintro ⟨k,A3,c3⟩ ρ1 w1 ⟨hk,ho3,hB⟩;refine an (an (af (mvi rfl (mvs rfl (ab (bL db rfl) (ab (bZ rfl rfl) (ak (ag (Bu rfl (fun Q2=>?_) (fun Q2=>?_))))))))))
 ·have hkl:k<es.length:=by omega
  obtain ⟨ba,oa,hA,hcs⟩:=k9 he (by omega);subst hA;refine aN (ag (an (bf (af (mvs rfl (mvs rfl (mvi rfl (ab (iL fk rfl rfl (by omega)) (ab (aK (cs:=[.int .i64 (es[k]'hkl).i,.int .i64 (es[k]'hkl).t,.string (es[k]'hkl).d]) jW gB rfl (ft hB (hcs k hkl))) ?_)))))))));refine jC (l:=[(0,.tmp 15)]) (cells:=[.int .i64 (es[k]'hkl).i,.int .i64 (es[k]'hkl).t,.string (es[k]'hkl).d].toArray) jk rfl rfl (by show Instr.fill _ _ [(0,Value.agg [.int .i64 (es[k]'hkl).i,.int .i64 (es[k]'hkl).t,.string (es[k]'hkl).d].toArray)]=_;kernel_rfl) ?_;intro b16 w3 E16 hb16 hk16;refine kW (a0:=w) (news:=[.int .i64 (es[k]'hkl).i,.int .i64 (es[k]'hkl).t,.string (es[k]'hkl).d]) jk rfl (by decide) rfl (ho3.kept_from (ai.rfl_.next E16)) (hB.next E16) rfl rfl (fun _=>⟨b16,0,rfl,hk16.whole⟩) (fun h=>by cases h) (by simp [Value.oneCell']) (by omega) (by omega) ?_;intro A17 c17 w4 ho17 B17 hg17;refine ass rfl (ak (bq (ag (af (mvi rfl (ab (b0 rfl rfl (by omega)) (asi rfl (ak ?_))))))));refine cG ((k+1,A17,c17)) ⟨(by first | rfl | (refine bo ?_;omega)),(by first | rfl | (refine bo ?_;omega)),trivial⟩ (by (iterate 30 refine bE rfl ?_);exact bX) ⟨?_,?_⟩
  ·exact ⟨by omega,by rw [←ub hkl];exact ho17,B17⟩
  ·show es.length-(k+1)<es.length-k;omega
 refine cz (bk (bk (bW (ag (an (af (mvs rfl (ass rfl (ak (ag (aE (bt (v:=.slice _ _ _) rfl rfl ?_))))))))))));obtain rfl:k=es.length:=by omega
 rw [List.take_length] at ho3;exact ⟨⟨A3,c3,rfl,ho3⟩,hB⟩
theorem jg (x:Msg) (w:World) (he:cH w (.slice x.E x.es.length x.c) x.es) (hl:x.es.length≤1000000000) :
 Rt prog 47 [.agg (bC x).toArray] w (fun v w'=>(∃ A' c',v=.agg (bC { x with E:=A',c:=c' }).toArray∧w'.ownsRow w.heap.size 99 3 (.slice A' x.es.length c') x.es.length (dR x.es))∧ai w w'):=by
 refine enter (n:=10) Tryz.func47 rfl rfl rfl (an (af (bQ (v:=.agg _) rfl ?_)));intro b1 w1 E1 hb1 hk1;refine bU dC ?_;intro b2 w2 E2 hb2 hk2;have hg2:w.heap.size≤b2:=by rw [hb2];exact ((ai.rfl_.next E1)).size
 replace hk1:=hk1.from_ E2;refine ak (ag (an (af (ab (aK (cs:=bC x) bn aZ rfl hk1.whole) (bU dC ?_)))));intro b3 w3 E3 hb3 hk3;have hg3:w.heap.size≤b3:=by rw [hb3];exact (((ai.rfl_.next E1).next E2)).size
 have h23:b2≠b3:=by have:=hk2.lt;omega
 have h13:b1≠b3:=by have:=hk1.lt;omega
 replace hk1:=hk1.from_ E3;replace hk2:=hk2.from_ E3;refine cq (vs:=[_,_,_,_,_,_,_,_,_,_,_,_,_]) aZ rfl rfl (by simp [Value.oneCell']) (hk3) rfl ?_;intro w4 O1 P1;replace hk1:=hk1.only O1 h13;replace hk2:=hk2.only O1 h23;have hz1:=(((((ai.rfl_.next E1).next E2).next E3).only O1 (hg3))).size;refine ak (ag (an (af (ab (aa eN rfl) (ab (au cU rfl (by exact hk1.rd 9 rfl)) ?_)))));refine aC mC (yl x.E x.es.length x.c x.es _ rfl (he.from_ ((((ai.rfl_.next E1).next E2).next E3).only O1 (hg3))) hl) ?_;rintro v7 w5 ⟨⟨A7,c7,rfl,ho7⟩,E7⟩;refine ab (aa eN rfl) (fp (v:=.slice _ _ _) pf rfl rfl rfl ((P1.from_ (ai.rfl_.next E7))) (by show 0+9<13;decide) ?_);intro w6 O2 P2;replace hk2:=(hk2.from_ E7).only O2 h23;replace ho7:=fx ho7 O2 (k7 ho7 (P1.from_ E7) (by decide));refine ak (ag (an (af (ab (aK (cs:=bC { x with E:=A7,c:=c7 }) bn aZ rfl P2.whole) (cq (vs:=[_,_,_,_,_,_,_,_,_,_,_,_,_]) aZ rfl rfl (by simp [Value.oneCell']) (hk2) rfl ?_)))));intro w7 O3 P3;replace ho7:=fx ho7 O3 (k7 ho7 hk2 (by decide));refine ak (ag (aE (lW rfl (dY (cs:=[_,_,_,_,_,_,_,_,_,_,_,_,_]) bn aZ rfl (by exact P3.whole)) ?_)));exact ⟨⟨A7,c7,rfl,er ho7 hz1⟩,(((((((ai.rfl_.next E1).next E2).next E3).only O1 (hg3)).next E7).only O2 (hg3)).only O3 (hg2))⟩
end Go.Proofs.YtkpooenofjdpmaaGreat
namespace Go.Proofs.YtkpooenofjdpmaaGreat
open Go.Proofs.Tryz (prog)
open Go.RowKit
open Go.ChangeShapes Go.WideShapes Go.ChangeAt
open Go.RowKit
theorem ov:∀ (l:List Int),gi l=true→l.Pairwise (·<·)
 |[],_=>List.Pairwise.nil
 |_::r,h=>List.Pairwise.cons (pW h) (ov r (nk h))
theorem rZ:∀ (l:List Int),l.Pairwise (·<·)→gi l=true
 |[],_=>rfl
 |[_],_=>rfl
 |a::b::r,h=>by
  cases h with
  |cons h1 h2=>
   show (decide (a<b)&&gi (b::r))=true;rw [rZ (b::r) h2,decide_eq_true (h1 b List.mem_cons_self)];rfl
theorem vq {l:List Int} {x y:Int} (h:y∈dM l x):y∈l∨y=x:=by
 unfold dM at h;split at h
 ·exact .inl h
 ·rcases List.mem_append.1 h with e | e
  ·exact .inl ((List.takeWhile_sublist _).mem e)
  ·rcases List.mem_cons.1 e with e | e
   ·exact .inr e
   ·exact .inl ((List.dropWhile_sublist _).mem e)
theorem oR:∀ {l:List Int} {x:Int},l.Pairwise (·<·)→∀ y∈l.dropWhile (fun y=>decide (y<x)),x≤y
 |[],_,_,y,hy=>by cases hy
 |a::r,x,h,y,hy=>by
  cases h with
  |cons h1 h2=>
   by_cases hax:a<x
   ·rw [List.dropWhile_cons,if_pos (by simpa using hax)] at hy;exact oR h2 y hy
   ·rw [List.dropWhile_cons,if_neg (by simpa using hax)] at hy;rcases List.mem_cons.1 hy with e | e
    ·omega
    ·have:=h1 y e;omega
theorem rI:∀ {l:List Int} {x:Int},∀ y∈l.takeWhile (fun y=>decide (y<x)),y<x
 |[],_,y,hy=>by cases hy
 |a::r,x,y,hy=>by
  by_cases hax:a<x
  ·rw [List.takeWhile_cons,if_pos (by simpa using hax)] at hy;rcases List.mem_cons.1 hy with e | e
   ·omega
   ·exact rI y e
  ·rw [List.takeWhile_cons,if_neg (by simpa using hax)] at hy;cases hy
theorem wx {l:List Int} {x:Int} (h:l.Pairwise (·<·)):(dM l x).Pairwise (·<·):=by
 unfold dM;split
 ·exact h
 ·rename_i hx;have hx':x ∉ l:=by simpa using hx
  rw [List.pairwise_append];refine ⟨h.sublist (List.takeWhile_sublist _),List.Pairwise.cons (fun y hy=>?_) (h.sublist (List.dropWhile_sublist _)),fun y hy z hz=>?_⟩
  ·have h1:=oR h y hy;have h2:y≠x:=fun e=>hx' (e ▸ (List.dropWhile_sublist _).mem hy)
   omega
  ·have h1:=rI y hy;rcases List.mem_cons.1 hz with e | e
   ·omega
   ·have:=oR h z e;omega
theorem rz {l:List Int} {n x:Int} (h:fu l n=true) (hx:1≤x∧x≤n):fu (dM l x) n=true:=by
 have h1:=kB h;unfold fu;rw [rZ _ (wx (ov _ h1.2)),Bool.and_true,List.all_eq_true];intro y hy
 have h2:1≤y∧y≤n:=by
  rcases vq hy with e | e
  ·exact h1.1 y e
  ·rw [e];exact hx
 simp only [Bool.and_eq_true,decide_eq_true_eq];exact h2
theorem vP {l:List Int} {n:Int} (h:fu l n=true) (hn:n≤7):l.length≤7:=by
 have h1:=kB h;have h2:=jL l 0 n h1.2 fun x hx=>⟨by have:=(h1.1 x hx).1;omega,(h1.1 x hx).2⟩
 omega
theorem RfF.voted {s:Rf} (h:RfF s) {x:Int} (hx:1≤x∧x≤s.nodes):RfF { s with votes:=dM s.votes x }:={ h with vs:=rz h.vs hx }
theorem AO {s:Rf} {q:Rd} (h:gO s q=true) {x rn:Int} (hx:1≤x∧x≤s.nodes):gO s (if q.rn≤rn then { q with acks:=dM q.acks x } else q)=true:=by
 split
 ·unfold gO at h ⊢;simp only [Bool.and_eq_true] at h ⊢;exact ⟨h.1,rz h.2 hx⟩
 ·exact h
theorem zI {s:Rf} (h:RfF s) {x rn:Int} (hx:1≤x∧x≤s.nodes):∀ q∈(js s x rn).reads,gO s q=true:=fun q hq=>by
 obtain ⟨y,hy,rfl⟩:=List.mem_map.1 hq;exact AO (h.rd y hy) hx
theorem vj {s:Rf} {x rn:Int}:(js s x rn).reads.length=s.reads.length:=List.length_map _
theorem RfF.ack {s:Rf} (h:RfF s) {x rn:Int} (hx:1≤x∧x≤s.nodes):RfF (js s x rn):=
 { h with rl:=(by rw [vj];exact h.rl),r0:=h.r0.imp id (fun e=>by rw [vj];exact e),rd:=zI h hx }
theorem RfF.sentPut {s:Rf} (h:RfF s) {k v:Int} (hv:0≤v∧v≤(s.snap.size:Int)):RfF { s with sent:=bK s.sent k v }:=
 { h with se:=⟨(by rw [cZ];exact h.se.1),fun x hx=>(me hx).elim (fun e=>h.se.2 x e) (fun e=>e ▸ hv)⟩ }
theorem RfF.nextPut {s:Rf} (h:RfF s) {k v:Int} (hv:1≤v∧v≤bd s+1):RfF { s with next:=bK s.next k v }:=
 { h with nx:=⟨(by rw [cZ];exact h.nx.1),fun x hx=>(me hx).elim (fun e=>h.nx.2 x e) (fun e=>e ▸ hv)⟩ }
theorem RfF.matchPut {s:Rf} (h:RfF s) {k v:Int} (hv:0≤v∧v≤bd s):RfF { s with mtch:=bK s.mtch k v }:=
 { h with ma:=⟨(by rw [cZ];exact h.ma.1),fun x hx=>(me hx).elim (fun e=>h.ma.2 x e) (fun e=>e ▸ hv)⟩ }
theorem RfF.hear {s:Rf} (h:RfF s) {v:Int} (hv:0≤v∧v≤s.nodes):RfF { s with leader:=v,elapsed:=0 }:={ h with le:=hv,el:=⟨Int.le_refl _,z40⟩ }
theorem nq {B T:Int} {xs:List Ent}:∀ (zs:List Ent) (p t:Int),eH zs p t=true→B≤p→p≤B+xs.length→gF B T xs zs=[]∨∃ e r,gF B T xs zs=e::r∧B+1≤e.i∧e.i≤B+xs.length+1∧¬ (e.i≤B+xs.length∧dV B T xs e.i=e.t)
 |[],_,_,_,_,_=>.inl rfl
 |e::r,p,t,h,h1,h2=>by
  have h3:=vD h;by_cases hc:e.i≤B+xs.length∧dV B T xs e.i=e.t
  ·rw [vQ hc];exact nq r (p+1) e.t h3.2 (by omega) (by omega)
  ·exact .inr ⟨e,r,r9 hc,by omega,by omega,hc⟩
def BO (es es':List Ent) (c:Nat):Prop:=c≤es'.length∧∀ i (h:i<es.length) (h':i<es'.length),i<c→es'[i].t=es[i].t
theorem xN {s:Rf} (h:RfF s) {m:Msg} {es':List Ent} (hr:lE s.b s.t m.ix m.lt s.es m.es=(0,false,es')):es'=s.es.take (u2 s.b s.es (gF s.b s.t s.es (nr s.b m.ix m.es)))++gF s.b s.t s.es (nr s.b m.ix m.es)∧cK s.b s.t es'=true∧(gF s.b s.t s.es (nr s.b m.ix m.es)=[]∨∃ e r,gF s.b s.t s.es (nr s.b m.ix m.es)=e::r∧s.b+1≤e.i∧e.i≤bd s+1∧¬ (e.i≤bd s∧dV s.b s.t s.es e.i=e.t)):=by
 have hl:=h.last;unfold lE at hr;split at hr
 ·rename_i h1;split at hr
  ·cases hr
  ·rename_i h2;unfold mg2 at hr;split at hr
   ·cases hr
   ·split at hr
    ·rename_i h4;cases hr;refine ⟨rfl,h4,?_⟩;obtain ⟨t,hrun⟩:=wR (B:=s.b) hl.2.1 h1.2.2.2 h1.2.2.1;have hP:s.b≤mgP s.b m.ix∧mgP s.b m.ix≤s.b+s.es.length:=⟨by unfold mgP;split <;> omega,by omega⟩;rw [hl.1];exact nq _ _ t hrun hP.1 hP.2
    ·cases hr
 ·cases hr
end Go.Proofs.YtkpooenofjdpmaaGreat
namespace Go.Proofs.YtkpooenofjdpmaaGreat
open Go.Proofs.Tryz (prog)
open Go.RowKit
open Go.ChangeShapes Go.WideShapes Go.ChangeAt
theorem pd:aP prog 70=true:=by kernel_rfl
theorem sY:aP prog 110=true:=by kernel_rfl
theorem vL (s:Rf) (i:Int) (E:Option Addr) (c:Nat) (w:World) (h:cH w (.slice E s.es.length c) s.es) (hm:cK s.b s.t s.es=true):Rt prog 82 [.agg #[.int .i64 s.b,.int .i64 s.t,.slice E s.es.length c],.int .i64 i] w fun v w'=>(∃ (tt:Int) (bb:Bool),v=.tuple #[.int .i64 tt,.bool bb]∧((s.b≤i∧i≤bd s)→bb=true∧tt=dV s.b s.t s.es i))∧ai w w':=
 (Rt.of (nm s.b s.t i (.slice E s.es.length c) s.es w h hm)).mono fun v w' h9=>⟨by
  rw [h9.1];unfold lY;by_cases hi:s.b≤i∧i≤dr s.b s.es
  ·rw [if_pos hi];exact ⟨_,_,rfl,fun _=>⟨rfl,rfl⟩⟩
  ·rw [if_neg hi];exact ⟨_,_,rfl,fun h=>absurd h hi⟩,h9.2⟩
theorem tD (w0:World) (Z:Nat→Prop) (T g:Nat) (s:Rf) (out:List Msg) (w:World) (h:aQ w0 Z w T g ⟨s,out⟩) (tag:Nat→Nat) (a:Ra) (O:Option Addr) (oc:Nat) (L:List Msg) (hs:eX w Z T g tag ⟨s,out⟩ a O oc L) (hF:RfF s) (hr:s.role=2) :
 Rt prog 74 [.pointer (some ⟨g,0,none⟩)] w (fun v w'=>v=.tuple #[]∧aQ w0 Z w' T g ⟨cn s,out⟩∧∃ tag',eX w' Z T g tag' ⟨cn s,out⟩ a O oc L):=by
 obtain ⟨E,Ec,V,Vc,X,Xc,M,Mc,Sn,Sc,Q,Qc,LL⟩:=a;have hb:Blk w g T (rfV s (⟨E,Ec,V,Vc,X,Xc,M,Mc,Sn,Sc,Q,Qc,LL⟩:Ra)++[Value.slice O L.length oc]).toArray:=hs.b
 have hll:L.length=out.length:=by
  have h9:=congrArg List.length hs.m.l;rw [List.length_map] at h9;exact h9
 have hbl:=hF.last;have hlb:dr s.b s.es=bd s:=rfl;have he:cH w (.slice E s.es.length Ec) s.es:=hs.f.rd.e;have hnn:=hF.n;have hid:=hF.i;have hzw:=h.zw;obtain ⟨k,hk⟩:∃ k:Nat,s.id=(k:Int)+1:=⟨(s.id-1).toNat,by omega⟩;have hMl:s.mtch.length=s.nodes.toNat:=by rw [hF.ma.1,dO hr]
 have hkM:k<s.mtch.length:=by omega
 obtain ⟨gM,rfl⟩:∃ q,M=some ⟨q,0,none⟩:=c8 (n:=s.mtch.length) (hs.f.m (by decide)).1 (by omega);have hMo:w.ownsRow 0 3 1 (.slice (some ⟨gM,0,none⟩) s.mtch.length Mc) s.mtch.length (s.mtch.map iV):=(hs.f.m (by decide)).1;have hMc:=gk (l:=s.mtch) hMo k hkM;have hFs:=hF.settle hr;have hp1:bK s.mtch s.id (bd s)=s.mtch.set k (bd s):=by unfold bK;rw [show (s.id-1).toNat=k by omega]
 have hfit:Fit (bK s.mtch s.id (bd s)):=⟨by rw [cZ];omega,by rw [cZ];omega,fun x hx=>(hFs.ma.2 x hx).1⟩;have hmed:0≤med (bK s.mtch s.id (bd s))∧med (bK s.mtch s.id (bd s))≤bd s:=hFs.ma.2 _ (mj hfit.1);have hco:=hF.co;refine enter (n:=65) Tryz.func74 rfl rfl rfl (an (af (mvp rfl (aC pd (rV T g s _ _ _ (hb.from_ ai.rfl_) (he.from_ ai.rfl_) hF.lg) ?_))));rintro v9 w1 ⟨rfl,E9⟩;refine mvt rfl (ab (aY rfl rfl) (ab (aY rfl rfl) (asi rfl (asi rfl (ak (ag (an ?_)))))));apply bD 12 [(12,eqp _),(13,eqp _),(14,eqp _),(15,eqp _),(16,eqp _),(17,eqp _),(18,eqp _),(19,eqp _),(20,eqp _),(21,eqp _),(22,eqp (.int .i64 (k:Nat))),(23,eqp _)] (by repeat first | exact cl | refine ck ?_ | refine bM ?_) (by kernel_rfl) (by kernel_rfl) ⟨ah _,ah _,ah _,ah _,ah _,ah _,ah _,ah _,ah _,ah _,ah _,ah _,trivial⟩
 case hop=>
  constructor
  ·rintro-w3 D3;exact aq (aB (v:=.pointer _) rfl) rfl
  constructor
  ·rintro-w4 D4;rintro _ rfl;exact aq (av rfl) rfl
  constructor
  ·rintro-w5 D5;rintro _ rfl;exact aq (aa aO rfl) rfl
  constructor
  ·rintro-w6 D6;rintro _ rfl;exact aq (aa cf rfl) rfl
  constructor
  ·rintro-w7 D7;rintro _ rfl;exact aq (au aR rfl (by exact (show _=some (Value.slice (some ⟨gM,0,none⟩) s.mtch.length Mc) from ch (hb.from_ ((ai.rfl_.next E9).next D7)) 16 rfl))) rfl
  constructor
  ·rintro-w8 D8;exact aq (aB (v:=.pointer _) rfl) rfl
  constructor
  ·rintro-w9 D9;rintro _ rfl;exact aq (av rfl) rfl
  constructor
  ·rintro-w10 D10;rintro _ rfl;exact aq (aa aO rfl) rfl
  constructor
  ·rintro-w11 D11;rintro _ rfl;exact aq (aa cu rfl) rfl
  constructor
  ·rintro-w12 D12;rintro _ rfl;exact aq (au ao rfl (by exact (show _=some (Value.int .i64 s.id) from ch (hb.from_ ((ai.rfl_.next E9).next D12)) 0 rfl))) rfl
  constructor
  ·rintro-w13 D13;rintro _ rfl;exact aq (eI (cY rfl rfl (by omega)) (bo (by omega))) rfl
  constructor
  ·rintro-w14 D14;exact aq (aB (v:=.int _ _) rfl) rfl
  exact trivial
 case hend=>
  intro w15 D15;rintro _ rfl _ rfl _ rfl _ rfl _ rfl _ rfl _ rfl _ rfl _ rfl _ rfl v22 rfl _ rfl;show St ..;refine ab (bp aV rfl rfl (by omega)) ?_;have hB0:ai w w15:=((ai.rfl_.next E9).next D15);refine eg (xs:=s.mtch.map iV) bj rfl rfl rfl (hMo.kept_from ((ai.rfl_.next E9).next D15)) (by omega) ?_;intro w16 O0 P0
  have hMo1:(w16).ownsRow 0 3 1 (.slice (some ⟨gM,0,none⟩) (bK s.mtch s.id (bd s)).length Mc) (bK s.mtch s.id (bd s)).length ((bK s.mtch s.id (bd s)).map iV):=by
   rw [cZ,hp1,←mJ];exact P0
  have hgM7:tag gM=3:=(hs.f.m (by decide)).2 gM rfl;have hC1:Chg (fun k=>tag k=3) w w16:=(ai.toChg hB0).only O0 hgM7
  have hb1:Blk w16 g T (rfV ({ s with mtch:=bK s.mtch s.id (bd s) }:Rf) (⟨E,Ec,V,Vc,X,Xc,some ⟨gM,0,none⟩,Mc,Sn,Sc,Q,Qc,LL⟩:Ra)++[Value.slice O L.length oc]).toArray:=by
   have h9:=(hb.from_ hB0).only O0 (fun e=>by have:=hs.gc;rw [e,hgM7] at this;cases this)
   have e9:rfV ({ s with mtch:=bK s.mtch s.id (bd s) }:Rf) (⟨E,Ec,V,Vc,X,Xc,some ⟨gM,0,none⟩,Mc,Sn,Sc,Q,Qc,LL⟩:Ra)=rfV s (⟨E,Ec,V,Vc,X,Xc,some ⟨gM,0,none⟩,Mc,Sn,Sc,Q,Qc,LL⟩:Ra):=by
    unfold rfV;simp only [cZ]
   rw [e9];exact h9
  have hf1:=(hs.f.but hC1).mtch (l:=bK s.mtch s.id (bd s)) rfl hMo1 (fun q hq=>by cases hq;rw [cA (dG hMo _ rfl)];exact hgM7);obtain ⟨hs1,h1⟩:=h.put hs hC1 (.inl (by decide)) hf1 (Chg.rfl_ (U:=fun k=>k=g)) hb1;have he1:cH w16 (.slice E s.es.length Ec) s.es:=hs1.f.rd.e;refine ak (ag (an (af (mvp rfl (ab (av rfl) (ab (aa aO rfl) (ab (aa cf rfl) (ab (au aR rfl (by exact (show _=some (Value.slice (some ⟨gM,0,none⟩) (bK s.mtch s.id (bd s)).length Mc) from ch (hb1.from_ (ai.rfl_ (a:=w16))) 16 rfl))) ?_))))))));refine aC sY (rY (some ⟨gM,0,none⟩) Mc (bK s.mtch s.id (bd s)) _ ((dW.own hMo1).2.from_ (ai.rfl_ (a:=w16))) hfit) ?_;rintro v30 w17 ⟨rfl,E30⟩;refine asi rfl (ak (ag (an (af (mvp rfl (ab (av rfl) (ab (aa aO rfl) (ab (aa bg rfl) (ab (aK (cs:=[.int .i64 s.b,.int .i64 s.t,.slice E s.es.length Ec]) dm cX rfl (jD (hb1.from_ ((ai.rfl_ (a:=w16)).next E30)))) (mvi rfl (aC pe (vL s (med (bK s.mtch s.id (bd s))) E Ec _ (he1.from_ ((ai.rfl_ (a:=w16)).next E30)) hF.lg) ?_)))))))))));rintro v38 w18 ⟨⟨tt,bb,rfl,hib⟩,E38⟩;refine mvt rfl (ab (aY rfl rfl) (ab (aY rfl rfl) (asi rfl (asb rfl (ak (ag (an (af (mvi rfl (mvp rfl (ab (av rfl) ?_)))))))))));refine ab (aa aO rfl) (ab (aa dv rfl) (ab (au ao rfl (by exact (show _=some (Value.int .i64 s.commit) from ch (hb1.from_ (((ai.rfl_ (a:=w16)).next E30).next E38)) 10 rfl))) ?_));refine ab (cy rfl rfl) (mvb rfl (AU (t:=48) rfl (fun Q19=>?_) (fun Q19=>?_)))
  ·refine ae rfl (mvb rfl (ab (aL (v:=.bool _) rfl rfl) (mvb rfl (aM (t:=51) rfl (fun Q20=>?_) (fun Q20=>?_)))))
   ·refine ae rfl (mvi rfl (ae rfl (mvp rfl (ae rfl (ab (av rfl) (ae rfl (ab (aa aO rfl) (ae rfl ?_))))))));refine ab (aa bJ rfl) (ae rfl (ab (au ao rfl (by exact (show _=some (Value.int .i64 s.term) from ch (hb1.from_ (((ai.rfl_ (a:=w16)).next E30).next E38)) 3 rfl))) ?_));refine ae rfl (ab (bh rfl rfl) (ab (aL (v:=.bool _) rfl rfl) (ak (ag (Bu rfl (fun Q21=>?_) (fun Q21=>?_))))))
    ·refine af (mvp rfl (mvi rfl (ab (av rfl) (ab (aa aO rfl) (ab (aa dv rfl) ?_)))));have hB3:ai _ w18:=(((ai.rfl_ (a:=w16)).next E30).next E38);refine cQ (s':=({ s with mtch:=bK s.mtch s.id (bd s),commit:=med (bK s.mtch s.id (bd s)) }:Rf)) (a':=(⟨E,Ec,V,Vc,X,Xc,some ⟨gM,0,none⟩,Mc,Sn,Sc,Q,Qc,LL⟩:Ra)) (v:=.int _ _) bj rfl rfl rfl ((hb1.from_ (((ai.rfl_ (a:=w16)).next E30).next E38))) (by exact ⟨by decide,rfl⟩) ?_;intro w22 O5_0 P5_0;refine ak (cB (dN rfl ?_))
     first
      |(have e9:cn s=({ s with mtch:=bK s.mtch s.id (bd s),commit:=med (bK s.mtch s.id (bd s)) }:Rf):=by unfold cn;simp only;rw [if_pos ⟨by omega,by have h8:=(hib ⟨by omega,by omega⟩).2;omega⟩]
        rw [e9];obtain ⟨hs2,h2⟩:=h1.set (s':=({ s with mtch:=bK s.mtch s.id (bd s),commit:=med (bK s.mtch s.id (bd s)) }:Rf)) (a':=(⟨E,Ec,V,Vc,X,Xc,some ⟨gM,0,none⟩,Mc,Sn,Sc,Q,Qc,LL⟩:Ra)) hs1 ((ai.toChg hB3).only O5_0 rfl) (bm.same hs1.f rfl rfl rfl rfl rfl rfl) P5_0;exact ⟨rfl,h2,_,hs2⟩)
      |(have e9:cn s=({ s with mtch:=bK s.mtch s.id (bd s) }:Rf):=by unfold cn;simp only;rw [if_neg (fun e=>by first | omega | (obtain ⟨h7,h8⟩:=hib ⟨by omega,by omega⟩;first | omega | simp_all))]
        rw [e9];exact ⟨rfl,h1.from_ (ai.rfl_ (a:=w22)),_,hs1.from_ (ai.rfl_ (a:=w22))⟩)
    refine aN (cB (dN rfl ?_))
    first
     |(have e9:cn s=({ s with mtch:=bK s.mtch s.id (bd s),commit:=med (bK s.mtch s.id (bd s)) }:Rf):=by unfold cn;simp only;rw [if_pos ⟨by omega,by have h8:=(hib ⟨by omega,by omega⟩).2;omega⟩]
       rw [e9];obtain ⟨hs2,h2⟩:=h1.set (s':=({ s with mtch:=bK s.mtch s.id (bd s),commit:=med (bK s.mtch s.id (bd s)) }:Rf)) (a':=(⟨E,Ec,V,Vc,X,Xc,some ⟨gM,0,none⟩,Mc,Sn,Sc,Q,Qc,LL⟩:Ra)) hs1 ((ai.toChg hB3).only O5_0 rfl) (bm.same hs1.f rfl rfl rfl rfl rfl rfl) P5_0;exact ⟨rfl,h2,_,hs2⟩)
     |(have e9:cn s=({ s with mtch:=bK s.mtch s.id (bd s) }:Rf):=by unfold cn;simp only;rw [if_neg (fun e=>by first | omega | (obtain ⟨h7,h8⟩:=hib ⟨by omega,by omega⟩;first | omega | simp_all))]
       rw [e9];exact ⟨rfl,h1.from_ (((ai.rfl_ (a:=w16)).next E30).next E38),_,hs1.from_ (((ai.rfl_ (a:=w16)).next E30).next E38)⟩)
   refine ar rfl rfl (ar rfl rfl (ar rfl rfl (ar rfl rfl (ar rfl rfl (ar rfl rfl (ar rfl rfl (ab (ay (v:=.bool _) rfl rfl) (ak (ag ?_)))))))));refine bc rfl (aN (cB (dN rfl ?_)))
   first
    |(have e9:cn s=({ s with mtch:=bK s.mtch s.id (bd s),commit:=med (bK s.mtch s.id (bd s)) }:Rf):=by unfold cn;simp only;rw [if_pos ⟨by omega,by have h8:=(hib ⟨by omega,by omega⟩).2;omega⟩]
      rw [e9];obtain ⟨hs2,h2⟩:=h1.set (s':=({ s with mtch:=bK s.mtch s.id (bd s),commit:=med (bK s.mtch s.id (bd s)) }:Rf)) (a':=(⟨E,Ec,V,Vc,X,Xc,some ⟨gM,0,none⟩,Mc,Sn,Sc,Q,Qc,LL⟩:Ra)) hs1 ((ai.toChg hB3).only O5_0 rfl) (bm.same hs1.f rfl rfl rfl rfl rfl rfl) P5_0;exact ⟨rfl,h2,_,hs2⟩)
    |(have e9:cn s=({ s with mtch:=bK s.mtch s.id (bd s) }:Rf):=by unfold cn;simp only;rw [if_neg (fun e=>by first | omega | (obtain ⟨h7,h8⟩:=hib ⟨by omega,by omega⟩;first | omega | simp_all))]
      rw [e9];exact ⟨rfl,h1.from_ (((ai.rfl_ (a:=w16)).next E30).next E38),_,hs1.from_ (((ai.rfl_ (a:=w16)).next E30).next E38)⟩)
  refine ar rfl rfl (ab (ay (v:=.bool _) rfl rfl) (mvb rfl (ar rfl rfl (ar rfl rfl (ar rfl rfl (ar rfl rfl (ar rfl rfl (ar rfl rfl ?_))))))));refine ar rfl rfl (ab (ay (v:=.bool _) rfl rfl) (ak (ag (bc rfl (aN (cB (dN rfl ?_)))))))
  first
   |(have e9:cn s=({ s with mtch:=bK s.mtch s.id (bd s),commit:=med (bK s.mtch s.id (bd s)) }:Rf):=by unfold cn;simp only;rw [if_pos ⟨by omega,by have h8:=(hib ⟨by omega,by omega⟩).2;omega⟩]
     rw [e9];obtain ⟨hs2,h2⟩:=h1.set (s':=({ s with mtch:=bK s.mtch s.id (bd s),commit:=med (bK s.mtch s.id (bd s)) }:Rf)) (a':=(⟨E,Ec,V,Vc,X,Xc,some ⟨gM,0,none⟩,Mc,Sn,Sc,Q,Qc,LL⟩:Ra)) hs1 ((ai.toChg hB3).only O5_0 rfl) (bm.same hs1.f rfl rfl rfl rfl rfl rfl) P5_0;exact ⟨rfl,h2,_,hs2⟩)
   |(have e9:cn s=({ s with mtch:=bK s.mtch s.id (bd s) }:Rf):=by unfold cn;simp only;rw [if_neg (fun e=>by first | omega | (obtain ⟨h7,h8⟩:=hib ⟨by omega,by omega⟩;first | omega | simp_all))]
     rw [e9];exact ⟨rfl,h1.from_ (((ai.rfl_ (a:=w16)).next E30).next E38),_,hs1.from_ (((ai.rfl_ (a:=w16)).next E30).next E38)⟩)
theorem s9:prog.underlying 26=some (.slice 3):=by kernel_rfl
theorem jB:jR prog 27=some (54,4,48,(.agg #[.int .i64 0,.int .i64 0,.int .i64 0,.slice none 0 0])):=by kernel_rfl
theorem s8:prog.underlying 27=some (.slice 54):=by kernel_rfl
theorem ta:jr prog 91=some true:=by kernel_rfl
theorem kT:ec prog 91=some 22:=by kernel_rfl
theorem nG:kj prog 91=some (.agg #[.int .i64 0,.int .i64 0,.int .i64 0,.int .i64 0,.int .i64 0,.int .i64 0,.int .i64 0,.int .i64 0,.slice none 0 0,.string ⟨#[]⟩,.int .i64 0,.int .i64 0,.int .i64 0,.int .u64 0,.slice none 0 0,.slice none 0 0,.slice none 0 0,.slice none 0 0,.int .i64 0,.slice none 0 0,.string ⟨#[]⟩,.int .i64 0]):=by kernel_rfl
theorem ru:aP prog 120=true:=by kernel_rfl
theorem gJ:aP prog 136=true:=by kernel_rfl
theorem rr:aP prog 137=true:=by kernel_rfl
theorem pD:∀ (a0:Int) (a1:Int) (a2:Int) (a3:Int) (a4:Int) (a5:Int) (a6:Int) (a7:Int) (a8:Option Addr) (a9 a10:Nat) (a11:ByteArray) (a12:Int) (a13:Int) (a14:Int) (a15:Int) (a16:Option Addr) (a17 a18:Nat) (a19:Option Addr) (a20 a21:Nat) (a22:Option Addr) (a23 a24:Nat) (a25:Option Addr) (a26 a27:Nat) (a28:Int) (a29:Option Addr) (a30 a31:Nat) (a32:ByteArray) (a33:Int),prog.built 91 [(0,.agg #[.int .i64 a0,.int .i64 a1,.int .i64 a2,.int .i64 a3,.int .i64 a4,.int .i64 a5,.int .i64 a6,.int .i64 a7,.slice a8 a9 a10,.string a11,.int .i64 a12,.int .i64 a13,.int .i64 a14,.int .u64 a15,.slice a16 a17 a18,.slice a19 a20 a21,.slice a22 a23 a24,.slice a25 a26 a27,.int .i64 a28,.slice a29 a30 a31,.string a32,.int .i64 a33])]=some #[.int .i64 a0,.int .i64 a1,.int .i64 a2,.int .i64 a3,.int .i64 a4,.int .i64 a5,.int .i64 a6,.int .i64 a7,.slice a8 a9 a10,.string a11,.int .i64 a12,.int .i64 a13,.int .i64 a14,.int .u64 a15,.slice a16 a17 a18,.slice a19 a20 a21,.slice a22 a23 a24,.slice a25 a26 a27,.int .i64 a28,.slice a29 a30 a31,.string a32,.int .i64 a33]:=by intros;kernel_rfl
theorem nH:aP prog 95=true:=by kernel_rfl
theorem s_:aP prog 96=true:=by kernel_rfl
theorem pC:∀ (a0:Int) (a1:Int) (a2:Int) (a3:Int) (a4:Int) (a5:Int) (a6:Int) (a7:Int) (a8:Option Addr) (a9 a10:Nat) (a11:ByteArray) (a12:Int) (a13:Int) (a14:Int) (a15:Int) (a16:Option Addr) (a17 a18:Nat) (a19:Option Addr) (a20 a21:Nat) (a22:Option Addr) (a23 a24:Nat) (a25:Option Addr) (a26 a27:Nat) (a28:Int) (a29:Option Addr) (a30 a31:Nat) (a32:ByteArray) (a33:Int),prog.built 96 [(0,.agg #[.int .i64 a0,.int .i64 a1,.int .i64 a2,.int .i64 a3,.int .i64 a4,.int .i64 a5,.int .i64 a6,.int .i64 a7,.slice a8 a9 a10,.string a11,.int .i64 a12,.int .i64 a13,.int .i64 a14,.int .u64 a15,.slice a16 a17 a18,.slice a19 a20 a21,.slice a22 a23 a24,.slice a25 a26 a27,.int .i64 a28,.slice a29 a30 a31,.string a32,.int .i64 a33])]=some #[.int .i64 a0,.int .i64 a1,.int .i64 a2,.int .i64 a3,.int .i64 a4,.int .i64 a5,.int .i64 a6,.int .i64 a7,.slice a8 a9 a10,.string a11,.int .i64 a12,.int .i64 a13,.int .i64 a14,.int .u64 a15,.slice a16 a17 a18,.slice a19 a20 a21,.slice a22 a23 a24,.slice a25 a26 a27,.int .i64 a28,.slice a29 a30 a31,.string a32,.int .i64 a33,.slice none 0 0]:=by intros;kernel_rfl
theorem eB (A:Option Addr) (c n:Nat) (xs:List Value) (w:World) (hx:xs.length=n*1) (hr:0<n→∃ b o,A=some ⟨b,o,none⟩∧w.rangeAt b o xs) (hn0:A=none→n=0∧c=0) (h1:∀ u∈xs,u.oneCell'=true) (hl:n≤100000000000) :
 Rt prog 136 [.slice A n c] w (fun v w'=>(∃ A' c',v=.slice A' n c'∧w'.ownsRow w.heap.size 3 1 (.slice A' n c') n xs)∧ai w w'):=by
 refine enter (n:=8) Tryz.func136 rfl rfl rfl (an (af (ass rfl (ak (ag (an (an (af (mvs rfl (ab (ot s9 rfl rfl) (ak (ag (aU rfl (fun Q1=>?_) (fun Q1=>?_))))))))))))))
 ·(try first | (replace Q1 := dS Q1; trace "@MK N eB:c4+ 1.1") | (replace Q1 := dU Q1; trace "@MK N eB:c4+ 1.2"))
  (try first | (replace Q1 := jE Q1; trace "@MK N eB:c4+ 2.1") | (replace Q1 := jF Q1; trace "@MK N eB:c4+ 2.2") | (replace Q1 := eh Q1; trace "@MK N eB:c4+ 2.3") | (replace Q1 := ei Q1; trace "@MK N eB:c4+ 2.4") | (replace Q1 := dT_ Q1; trace "@MK N eB:c4+ 2.5") | (replace Q1 := dF_ Q1; trace "@MK N eB:c4+ 2.6"))
  obtain rfl:A=none:=Option.isNone_iff_eq_none.1 Q1;obtain ⟨rfl,rfl⟩:=hn0 rfl;obtain rfl:xs=[]:=List.eq_nil_of_length_eq_zero (by omega);refine an (af (ass rfl (ak (ag (aE (aG (bt (v:=.slice _ _ _) rfl rfl (⟨⟨none,0,rfl,World.ownsRow_nil _ _ _ _⟩,ai.rfl_⟩))))))))
 (try first | (replace Q1 := dS Q1; trace "@MK N eB:c4- 1.1") | (replace Q1 := dU Q1; trace "@MK N eB:c4- 1.2"))
 (try first | (replace Q1 := jE Q1; trace "@MK N eB:c4- 2.1") | (replace Q1 := jF Q1; trace "@MK N eB:c4- 2.2") | (replace Q1 := eh Q1; trace "@MK N eB:c4- 2.3") | (replace Q1 := ei Q1; trace "@MK N eB:c4- 2.4") | (replace Q1 := dT_ Q1; trace "@MK N eB:c4- 2.5") | (replace Q1 := dF_ Q1; trace "@MK N eB:c4- 2.6"))
 have hA4:A=none→c=0:=fun h=>by rw [h] at Q1;cases Q1
 refine aN (ag (an (af (uQ bS _ (ai.rfl_.size) ?_))));intro b5 w2 E5 hb5 ho5;refine mvs rfl ?_;refine kW (a0:=w) bS rfl (by decide) rfl ho5 (ai.rfl_.next E5) rfl hx (fun h=>(let ⟨b,o,hA,hc⟩:=hr h;⟨b,o,hA,ft (ai.rfl_.next E5) hc⟩)) hA4 h1 (by omega) (by omega) ?_;intro A7 c7 w3 ho7 B7 hg7;refine ass rfl (ak (ag (aE (bt (v:=.slice _ _ _) rfl rfl (⟨⟨A7,c7,by rw [Nat.zero_add],by simpa using ho7⟩,B7⟩)))))
theorem eA (A:Option Addr) (c n:Nat) (xs:List Value) (w:World) (hx:xs.length=n*4) (hr:0<n→∃ b o,A=some ⟨b,o,none⟩∧w.rangeAt b o xs) (hn0:A=none→n=0∧c=0) (h1:∀ u∈xs,u.oneCell'=true) (hl:n≤100000000000) :
 Rt prog 137 [.slice A n c] w (fun v w'=>(∃ A' c',v=.slice A' n c'∧w'.ownsRow w.heap.size 54 4 (.slice A' n c') n xs)∧ai w w'):=by
 refine enter (n:=8) Tryz.func137 rfl rfl rfl (an (af (ass rfl (ak (ag (an (an (af (mvs rfl (ab (ot s8 rfl rfl) (ak (ag (aU rfl (fun Q1=>?_) (fun Q1=>?_))))))))))))))
 ·(try first | (replace Q1 := dS Q1; trace "@MK N eA:c4+ 1.1") | (replace Q1 := dU Q1; trace "@MK N eA:c4+ 1.2"))
  (try first | (replace Q1 := jE Q1; trace "@MK N eA:c4+ 2.1") | (replace Q1 := jF Q1; trace "@MK N eA:c4+ 2.2") | (replace Q1 := eh Q1; trace "@MK N eA:c4+ 2.3") | (replace Q1 := ei Q1; trace "@MK N eA:c4+ 2.4") | (replace Q1 := dT_ Q1; trace "@MK N eA:c4+ 2.5") | (replace Q1 := dF_ Q1; trace "@MK N eA:c4+ 2.6"))
  obtain rfl:A=none:=Option.isNone_iff_eq_none.1 Q1;obtain ⟨rfl,rfl⟩:=hn0 rfl;obtain rfl:xs=[]:=List.eq_nil_of_length_eq_zero (by omega);refine an (af (ass rfl (ak (ag (aE (aG (bt (v:=.slice _ _ _) rfl rfl (⟨⟨none,0,rfl,World.ownsRow_nil _ _ _ _⟩,ai.rfl_⟩))))))))
 (try first | (replace Q1 := dS Q1; trace "@MK N eA:c4- 1.1") | (replace Q1 := dU Q1; trace "@MK N eA:c4- 1.2"))
 (try first | (replace Q1 := jE Q1; trace "@MK N eA:c4- 2.1") | (replace Q1 := jF Q1; trace "@MK N eA:c4- 2.2") | (replace Q1 := eh Q1; trace "@MK N eA:c4- 2.3") | (replace Q1 := ei Q1; trace "@MK N eA:c4- 2.4") | (replace Q1 := dT_ Q1; trace "@MK N eA:c4- 2.5") | (replace Q1 := dF_ Q1; trace "@MK N eA:c4- 2.6"))
 have hA4:A=none→c=0:=fun h=>by rw [h] at Q1;cases Q1
 refine aN (ag (an (af (uQ jB _ (ai.rfl_.size) ?_))));intro b5 w2 E5 hb5 ho5;refine mvs rfl ?_;refine kW (a0:=w) jB rfl (by decide) rfl ho5 (ai.rfl_.next E5) rfl hx (fun h=>(let ⟨b,o,hA,hc⟩:=hr h;⟨b,o,hA,ft (ai.rfl_.next E5) hc⟩)) hA4 h1 (by omega) (by omega) ?_;intro A7 c7 w3 ho7 B7 hg7;refine ass rfl (ak (ag (aE (bt (v:=.slice _ _ _) rfl rfl (⟨⟨A7,c7,by rw [Nat.zero_add],by simpa using ho7⟩,B7⟩)))))
theorem jT (A:Option Addr) (c:Nat) (l:List Int) (w:World) (h:IR w A c l) (hl:l.length≤1000000):Rt prog 136 [.slice A l.length c] w fun v w'=>(∃ A' c',v=.slice A' l.length c'∧w'.ownsRow w.heap.size 3 1 (.slice A' l.length c') l.length (l.map iV))∧ai w w':=
 eB A c l.length (l.map iV) w (by simp) (fun h0=>by
  obtain ⟨b,o,hA,hc⟩:=h.1 h0;refine ⟨b,o,hA,fun j v hv=>?_⟩;rw [List.getElem?_map] at hv;cases hj:l[j]? with
  |none=>rw [hj] at hv;cases hv
  |some x=>
   obtain ⟨hjl,rfl⟩:=List.getElem?_eq_some_iff.1 hj;rw [hj] at hv;cases hv;exact hc j hjl) h.2.2.2 (fun u hu=>by obtain ⟨x,_,rfl⟩:=List.mem_map.1 hu;rfl) (by omega)
theorem vY (A:Option Addr) (c:Nat) (L:List (Rd×Option Addr×Nat)) (w:World) (h:iv 4 rdV w A L) (hn:A=none→L.length=0∧c=0) (hl:L.length≤1000000):Rt prog 137 [.slice A L.length c] w fun v w'=>(∃ A' c',v=.slice A' L.length c'∧w'.ownsRow w.heap.size 54 4 (.slice A' L.length c') L.length (L.flatMap rdV))∧ai w w':=
 eA A c L.length (L.flatMap rdV) w (mq ib L) (fun h0=>iv.flat ib h h0) hn (yX L) (by omega)
def mR (N O:List (Rd×Option Addr×Nat)):List (Rd×Option Addr×Nat):=N++O.drop N.length
def zS (s:Rf):Rf:={ s with es:=[],votes:=[],next:=[],mtch:=[],sent:=[],reads:=[] }
theorem jc {w w':World} {tag:Nat→Nat} {g d base e s n cc:Nat} {A:Option Addr} {xs:List Value} (hC:Chg (fun k=>k=g) w w') (hg:tag g=8) (hd:d≠8) (h:w.ownsRow base e s (.slice A n cc) n xs∧Col tag d A):w'.ownsRow base e s (.slice A n cc) n xs∧Col tag d A:=
 ⟨ew h.1 hC (fun k hk e=>hd ((h.2 k hk).symm.trans (by rw [show k=g from e];exact hg))),h.2⟩
theorem cN.chg8 {w w':World} {y g:Nat} {tag:Nat→Nat} {s:Rf} {a:Ra} (h:cN y w tag s a) (hC:Chg (fun k=>k=g) w w') (hg:tag g=8):cN y w' tag s a:=
 ⟨fun hx=>jc hC hg (by decide) (h.e hx),fun hx=>jc hC hg (by decide) (h.v hx),fun hx=>jc hC hg (by decide) (h.x hx),fun hx=>jc hC hg (by decide) (h.m hx),fun hx=>jc hC hg (by decide) (h.n hx),h.r,fun hx=>jc hC hg (by decide) (h.q hx),fun i hi hx=>jc hC hg (by omega) (h.k i hi hx)⟩
theorem qe:∀ (N O:List (Rd×Option Addr×Nat)) (x:Rd×Option Addr×Nat) (A:Option Addr) (c:Nat),((N++x::O).flatMap rdV).set (N.length*4+3) (.slice A x.1.acks.length c)=((N++(x.1,A,c)::O).flatMap rdV)
 |[],O,x,A,c=>rfl
 |y::N,O,x,A,c=>by
  have ih:=qe N O x A c;show (rdV y++(N++x::O).flatMap rdV).set ((N.length+1)*4+3) _=rdV y++(N++(x.1,A,c)::O).flatMap rdV;rw [List.set_append_right _ _ (by rw [ib];omega),ib,show (N.length+1)*4+3-4=N.length*4+3 by omega,ih]
theorem za {N O:List (Rd×Option Addr×Nat)} (h:N.length<O.length):mR N O=N++O[N.length]::O.drop (N.length+1):=by
 unfold mR;rw [List.drop_eq_getElem_cons h]
theorem xL {N O:List (Rd×Option Addr×Nat)} (h:N.length<O.length) (A:Option Addr) (c:Nat):((mR N O).flatMap rdV).set (N.length*4+3) (.slice A O[N.length].1.acks.length c)=(mR (N++[(O[N.length].1,A,c)]) O).flatMap rdV:=by
 rw [za h,qe];unfold mR;rw [List.length_append,List.length_singleton,List.append_assoc];rfl
theorem xM {N O:List (Rd×Option Addr×Nat)} (h:N.length=O.length):mR N O=N:=by unfold mR;rw [h,List.drop_length,List.append_nil]
theorem oH {N O:List (Rd×Option Addr×Nat)} (h:N.length≤O.length):(mR N O).length=O.length:=by unfold mR;rw [List.length_append,List.length_drop];omega
theorem vX (s:Rf) (a:Ra) (w:World) (hrd:eQ w s a) (hl:s.votes.length≤1000000∧s.next.length≤1000000∧s.mtch.length≤1000000∧s.sent.length≤1000000∧s.reads.length≤1000000∧∀ q∈s.reads,q.acks.length≤1000000) (hel:s.es.length≤1000000) :
 Rt prog 96 [.agg (rfV s a).toArray] w (fun v w'=>(∃ tag a',v=.agg (rfV s a').toArray∧bm w' tag s a'∧∀ k,k<w.heap.size→tag k=8)∧ai w w'):=by
 obtain ⟨E,Ec,V,Vc,X,Xc,M,Mc,Sn,Sc,Q,Qc,LL⟩:=a;obtain ⟨hl1,hl2,hl3,hl4,hl5,hl6⟩:=hl;have hrL:LL.map (fun q=>q.1)=s.reads:=hrd.r;have hrk:∀ q∈LL,IR w q.2.1 q.2.2 q.1.acks:=hrd.k;have hrq:iv 4 rdV w Q LL:=hrd.q;have hqn:Q=none→LL.length=0∧Qc=0:=hrd.qc.2.2;have hLl:LL.length=s.reads.length:=by rw [←hrL,List.length_map]
 have hqm:LL.length≤1000000:=by omega
 refine enter (n:=51) Tryz.func96 rfl rfl rfl (an (af (bQ (v:=.agg _) rfl ?_)));intro b1 w1 E1 hb1 hk1;refine bU nG ?_;intro b2 w2 E2 hb2 hk2;have hg1:w.heap.size≤b1:=Nat.le_of_eq hb1.symm;have h12:b1<b2:=by have:=hk1.lt;omega
 have hg2:w.heap.size≤b2:=by omega
 have hk2z:Blk w2 b2 91 ((.agg #[.int .i64 0,.int .i64 0,.int .i64 0,.int .i64 0,.int .i64 0,.int .i64 0,.int .i64 0,.int .i64 0,.slice none 0 0,.string ⟨#[]⟩,.int .i64 0,.int .i64 0,.int .i64 0,.int .u64 0,.slice none 0 0,.slice none 0 0,.slice none 0 0,.slice none 0 0,.int .i64 0,.slice none 0 0,.string ⟨#[]⟩,.int .i64 0]):Value).cells:=hk2;have ht0:∀ k,k≤b2→(fun _:Nat=>8) k=8:=fun _ _=>rfl
 refine ak (ag (an (af (ab (aa bg rfl) (ab (aa dy rfl) (ab (au cU rfl (by exact (show _=some (Value.slice E s.es.length Ec) from (hk1.from_ (ai.rfl_.next E2)).rd 8 rfl))) ?_))))));have hN7:ai _ w2:=(ai.rfl_.next E2);have hk2c:=hk2z.from_ (ai.rfl_ (a:=w2));have hlt7:=hk2c.lt;have hf0:bm w2 (fun _=>8) ({ s with es:=[],votes:=[],next:=[],mtch:=[],sent:=[],reads:=[] }:Rf) a0:=bm.same bm.zero rfl rfl rfl rfl rfl rfl;refine aC ru (yn E s.es.length Ec s.es _ (hrd.e.from_ ((ai.rfl_.next E1).next E2)) (by omega)) ?_;rintro v7 w3 ⟨A7,c7,rfl,ho7,E7⟩;obtain ⟨tag1,hf1,ht1⟩:∃ t,bm w3 t ({ s with es:=s.es,votes:=[],next:=[],mtch:=[],sent:=[],reads:=[] }:Rf) (⟨A7,c7,none,0,none,0,none,0,none,0,none,0,[]⟩:Ra)∧(∀ k,k≤b2→t k=8):=⟨_,cN.log (bm.but (c:=0) hf0 (ai.toChg E7)) s.b s.t rfl (er ho7 (Nat.zero_le _)) (fun k hk=>dH (ee ho7 k hk).1),fun k hk=>(cA (by omega)).trans (ht0 k hk)⟩;refine ab (aa bg rfl) (ab (aa dy rfl) ?_);have hS1:ai _ w3:=ai.rfl_;refine cQ (s':=s) (a':=(⟨A7,c7,V,Vc,X,Xc,M,Mc,Sn,Sc,Q,Qc,LL⟩:Ra)) (v:=.slice _ _ _) pf rfl rfl rfl ((hk1.from_ ((hN7.next E7).next ai.rfl_))) (by exact ⟨by decide,rfl⟩) ?_;intro w4 O1_0 P1_0;replace hf1:=(hf1.from_ hS1).chg8 (O1_0.toChg rfl) (ht1 b1 (by omega));replace hk2z:=(hk2c.from_ (E7.next hS1)).only O1_0 (by omega);refine ak (ag (an (af (ab (aa dc rfl) (ab (au aR rfl (by exact (show _=some (Value.slice V s.votes.length Vc) from (P1_0.from_ ai.rfl_).rd 14 rfl))) ?_)))));have hN12:ai _ w4:=ai.rfl_;have hk2c:=hk2z.from_ ai.rfl_;have hlt12:=hk2c.lt;have hf1n:=hf1.from_ ai.rfl_;refine aC gJ (jT V Vc s.votes _ (IR.from_ hrd.v ((((ai.rfl_.next E1).next E2).next E7).only O1_0 (hg1))) hl1) ?_;rintro v12 w5 ⟨⟨A12,c12,rfl,ho12⟩,E12⟩;obtain ⟨tag2,hf2,ht2⟩:∃ t,bm w5 t ({ s with es:=s.es,votes:=s.votes,next:=[],mtch:=[],sent:=[],reads:=[] }:Rf) (⟨A7,c7,A12,c12,none,0,none,0,none,0,none,0,[]⟩:Ra)∧(∀ k,k≤b2→t k=8):=⟨_,cN.votes (bm.but (c:=1) hf1n (ai.toChg E12)) rfl (er ho12 (Nat.zero_le _)) (fun k hk=>dH (ee ho12 k hk).1),fun k hk=>(cA (by omega)).trans (ht1 k hk)⟩;refine ab (aa dc rfl) ?_;have hS2:ai _ w5:=ai.rfl_;refine cQ (s':=s) (a':=(⟨A7,c7,A12,c12,X,Xc,M,Mc,Sn,Sc,Q,Qc,LL⟩:Ra)) (v:=.slice _ _ _) cV rfl rfl rfl ((P1_0.from_ ((hN12.next E12).next ai.rfl_))) (by exact ⟨by decide,rfl⟩) ?_;intro w6 O2_0 P2_0;replace hf2:=(hf2.from_ hS2).chg8 (O2_0.toChg rfl) (ht2 b1 (by omega));replace hk2z:=(hk2c.from_ (E12.next hS2)).only O2_0 (by omega);refine ak (ag (an (af (ab (aa bw rfl) (ab (au aR rfl (by exact (show _=some (Value.slice X s.next.length Xc) from (P2_0.from_ ai.rfl_).rd 15 rfl))) ?_)))));have hN16:ai _ w6:=ai.rfl_;have hk2c:=hk2z.from_ ai.rfl_;have hlt16:=hk2c.lt;have hf2n:=hf2.from_ ai.rfl_;refine aC gJ (jT X Xc s.next _ (IR.from_ hrd.x ((((((ai.rfl_.next E1).next E2).next E7).only O1_0 (hg1)).next E12).only O2_0 (hg1))) hl2) ?_;rintro v16 w7 ⟨⟨A16,c16,rfl,ho16⟩,E16⟩;obtain ⟨tag3,hf3,ht3⟩:∃ t,bm w7 t ({ s with es:=s.es,votes:=s.votes,next:=s.next,mtch:=[],sent:=[],reads:=[] }:Rf) (⟨A7,c7,A12,c12,A16,c16,none,0,none,0,none,0,[]⟩:Ra)∧(∀ k,k≤b2→t k=8):=⟨_,cN.next (bm.but (c:=2) hf2n (ai.toChg E16)) rfl (er ho16 (Nat.zero_le _)) (fun k hk=>dH (ee ho16 k hk).1),fun k hk=>(cA (by omega)).trans (ht2 k hk)⟩;refine ab (aa bw rfl) ?_;have hS3:ai _ w7:=ai.rfl_;refine cQ (s':=s) (a':=(⟨A7,c7,A12,c12,A16,c16,M,Mc,Sn,Sc,Q,Qc,LL⟩:Ra)) (v:=.slice _ _ _) cV rfl rfl rfl ((P2_0.from_ ((hN16.next E16).next ai.rfl_))) (by exact ⟨by decide,rfl⟩) ?_;intro w8 O3_0 P3_0;replace hf3:=(hf3.from_ hS3).chg8 (O3_0.toChg rfl) (ht3 b1 (by omega));replace hk2z:=(hk2c.from_ (E16.next hS3)).only O3_0 (by omega);refine ak (ag (an (af (ab (aa cf rfl) (ab (au aR rfl (by exact (show _=some (Value.slice M s.mtch.length Mc) from (P3_0.from_ ai.rfl_).rd 16 rfl))) ?_)))));have hN20:ai _ w8:=ai.rfl_;have hk2c:=hk2z.from_ ai.rfl_;have hlt20:=hk2c.lt;have hf3n:=hf3.from_ ai.rfl_;refine aC gJ (jT M Mc s.mtch _ (IR.from_ hrd.m ((((((((ai.rfl_.next E1).next E2).next E7).only O1_0 (hg1)).next E12).only O2_0 (hg1)).next E16).only O3_0 (hg1))) hl3) ?_;rintro v20 w9 ⟨⟨A20,c20,rfl,ho20⟩,E20⟩;obtain ⟨tag4,hf4,ht4⟩:∃ t,bm w9 t ({ s with es:=s.es,votes:=s.votes,next:=s.next,mtch:=s.mtch,sent:=[],reads:=[] }:Rf) (⟨A7,c7,A12,c12,A16,c16,A20,c20,none,0,none,0,[]⟩:Ra)∧(∀ k,k≤b2→t k=8):=⟨_,cN.mtch (bm.but (c:=3) hf3n (ai.toChg E20)) rfl (er ho20 (Nat.zero_le _)) (fun k hk=>dH (ee ho20 k hk).1),fun k hk=>(cA (by omega)).trans (ht3 k hk)⟩;refine ab (aa cf rfl) ?_;have hS4:ai _ w9:=ai.rfl_;refine cQ (s':=s) (a':=(⟨A7,c7,A12,c12,A16,c16,A20,c20,Sn,Sc,Q,Qc,LL⟩:Ra)) (v:=.slice _ _ _) cV rfl rfl rfl ((P3_0.from_ ((hN20.next E20).next ai.rfl_))) (by exact ⟨by decide,rfl⟩) ?_;intro w10 O4_0 P4_0;replace hf4:=(hf4.from_ hS4).chg8 (O4_0.toChg rfl) (ht4 b1 (by omega));replace hk2z:=(hk2c.from_ (E20.next hS4)).only O4_0 (by omega);refine ak (ag (an (af (ab (aa ct rfl) (ab (au aR rfl (by exact (show _=some (Value.slice Sn s.sent.length Sc) from (P4_0.from_ ai.rfl_).rd 17 rfl))) ?_)))));have hN24:ai _ w10:=ai.rfl_;have hk2c:=hk2z.from_ ai.rfl_;have hlt24:=hk2c.lt;have hf4n:=hf4.from_ ai.rfl_;refine aC gJ (jT Sn Sc s.sent _ (IR.from_ hrd.n ((((((((((ai.rfl_.next E1).next E2).next E7).only O1_0 (hg1)).next E12).only O2_0 (hg1)).next E16).only O3_0 (hg1)).next E20).only O4_0 (hg1))) hl4) ?_;rintro v24 w11 ⟨⟨A24,c24,rfl,ho24⟩,E24⟩;obtain ⟨tag5,hf5,ht5⟩:∃ t,bm w11 t ({ s with es:=s.es,votes:=s.votes,next:=s.next,mtch:=s.mtch,sent:=s.sent,reads:=[] }:Rf) (⟨A7,c7,A12,c12,A16,c16,A20,c20,A24,c24,none,0,[]⟩:Ra)∧(∀ k,k≤b2→t k=8):=⟨_,cN.sent (bm.but (c:=4) hf4n (ai.toChg E24)) rfl (er ho24 (Nat.zero_le _)) (fun k hk=>dH (ee ho24 k hk).1),fun k hk=>(cA (by omega)).trans (ht4 k hk)⟩;refine ab (aa ct rfl) ?_;have hS5:ai _ w11:=ai.rfl_;refine cQ (s':=s) (a':=(⟨A7,c7,A12,c12,A16,c16,A20,c20,A24,c24,Q,Qc,LL⟩:Ra)) (v:=.slice _ _ _) cV rfl rfl rfl ((P4_0.from_ ((hN24.next E24).next ai.rfl_))) (by exact ⟨by decide,rfl⟩) ?_;intro w12 O5_0 P5_0;replace hf5:=(hf5.from_ hS5).chg8 (O5_0.toChg rfl) (ht5 b1 (by omega));replace hk2z:=(hk2c.from_ (E24.next hS5)).only O5_0 (by omega);refine ak (ag (an (af (ab (aa bH rfl) (ab (au du rfl (by exact (show _=some (Value.slice Q LL.length Qc) from (P5_0.from_ ai.rfl_).rd 19 rfl))) ?_)))));have hN28:ai _ w12:=ai.rfl_;have hk2c:=hk2z.from_ ai.rfl_;have hlt28:=hk2c.lt;have hf5n:=hf5.from_ ai.rfl_;refine aC rr (vY Q Qc LL _ (hrq.from_ ((((((((((((ai.rfl_.next E1).next E2).next E7).only O1_0 (hg1)).next E12).only O2_0 (hg1)).next E16).only O3_0 (hg1)).next E20).only O4_0 (hg1)).next E24).only O5_0 (hg1))) hqn hqm) ?_;rintro v28 w13 ⟨⟨A28,c28,rfl,ho28⟩,E28⟩;obtain ⟨tag6,hg6,ht6,hc6⟩:∃ t,cN 5 w13 t ({ s with es:=s.es,votes:=s.votes,next:=s.next,mtch:=s.mtch,sent:=s.sent,reads:=[] }:Rf) (⟨A7,c7,A12,c12,A16,c16,A20,c20,A24,c24,none,0,[]⟩:Ra)∧(∀ k,k≤b2→t k=8)∧Col t 5 A28:=⟨_,bm.but (c:=5) hf5n (ai.toChg E28),fun k hk=>(cA (by omega)).trans (ht5 k hk),fun k hk=>dH (ee ho28 k hk).1⟩;refine ab (aa bH rfl) ?_;have hS6:ai _ w13:=ai.rfl_;refine cQ (s':=s) (a':=(⟨A7,c7,A12,c12,A16,c16,A20,c20,A24,c24,A28,c28,LL⟩:Ra)) (v:=.slice _ _ _) jj rfl rfl rfl ((P5_0.from_ ((hN28.next E28).next ai.rfl_))) (by exact ⟨by decide,rfl⟩) ?_;intro w14 O6_0 P6_0;replace hg6:=(hg6.from_ hS6).chg8 (O6_0.toChg rfl) (ht6 b1 (by omega));have hr6:=fx (er (base':=0) (ho28.kept_from hS6) (Nat.zero_le _)) O6_0 (fun k hk e=>by have:=hc6 k hk;rw [e,ht6 b1 (by omega)] at this;cases this);replace hk2z:=(hk2c.from_ (E28.next hS6)).only O6_0 (by omega);refine ak (ag (an (an (af (ab (aa bH rfl) (ab (au du rfl (by exact (show _=some (Value.slice A28 LL.length c28) from (P6_0.from_ ai.rfl_).rd 19 rfl))) ?_))))));refine ab (bL eK rfl) (mvi rfl (ak (ag (bf (cS (G:=List (Rd×Option Addr×Nat)×(Nat→Nat)) [3,34,35,36,37,38,39,40,41,42,43,44,45,46,47,48] (fun (N,tg)=>[(33,.int .i64 (N.length:Nat))]) (fun (N,tg) w'=>N.length≤LL.length∧(∀ i (h:i<N.length) (h2:i<LL.length),N[i].1=LL[i].1)∧cN 5 w' tg ({ s with es:=s.es,votes:=s.votes,next:=s.next,mtch:=s.mtch,sent:=s.sent,reads:=[] }:Rf) (⟨A7,c7,A12,c12,A16,c16,A20,c20,A24,c24,none,0,N⟩:Ra)∧(∀ k,k≤b2→tg k=8)∧Col tg 5 A28∧w'.ownsRow 0 54 4 (.slice A28 LL.length c28) LL.length ((mR N LL).flatMap rdV)∧Blk w' b1 29 (rfV s (⟨A7,c7,A12,c12,A16,c16,A20,c20,A24,c24,A28,c28,LL⟩:Ra)).toArray∧Blk w' b2 91 ((.agg #[.int .i64 0,.int .i64 0,.int .i64 0,.int .i64 0,.int .i64 0,.int .i64 0,.int .i64 0,.int .i64 0,.slice none 0 0,.string ⟨#[]⟩,.int .i64 0,.int .i64 0,.int .i64 0,.int .u64 0,.slice none 0 0,.slice none 0 0,.slice none 0 0,.slice none 0 0,.int .i64 0,.slice none 0 0,.string ⟨#[]⟩,.int .i64 0]):Value).cells∧ai w w') (fun (N,_)=>LL.length-N.length) (([],tag6)) ⟨rfl,trivial⟩ ?_ ?_)))))
 ·exact ⟨Nat.zero_le _,fun i h=>absurd h (Nat.not_lt_zero _),hg6.from_ ai.rfl_,ht6,hc6,hr6.kept_from ai.rfl_,P6_0.from_ ai.rfl_,hk2z.from_ ai.rfl_,((((((((((((((ai.rfl_.next E1).next E2).next E7).only O1_0 (hg1)).next E12).only O2_0 (hg1)).next E16).only O3_0 (hg1)).next E20).only O4_0 (hg1)).next E24).only O5_0 (hg1)).next E28).only O6_0 (hg1))⟩
 rintro ⟨N,tg⟩ ρ15 w15 ⟨hNl,hNe,hgN,htN,hcN,hrN,hbN,hk2N,hBN⟩;refine an (af (ab (bZ rfl rfl) (ak (ag (an (Bu rfl (fun Q16=>?_) (fun Q16=>?_)))))))
 ·have hNL:N.length<LL.length:=by omega
  have hqk:LL[N.length].1∈s.reads:=by rw [←hrL];exact List.mem_map_of_mem (List.getElem_mem hNL)
  obtain ⟨g28,rfl⟩:=c8 hrN (by omega);obtain ⟨z9,hz9⟩:∃ z,z=(w15).heap.size:=⟨_,rfl⟩
  have hc44:(w15).cell? ⟨g28,0+N.length*4+3,none⟩=some (.slice LL[N.length].2.1 LL[N.length].1.acks.length LL[N.length].2.2):=by
   obtain ⟨b9,o9,he9,hcs⟩:=(iv.own ib (by decide) hrN).2 (by rw [oH hNl];omega);cases he9;have h9:=hcs N.length (by rw [oH hNl];omega)
   have hm9:(mR N LL)[N.length]'(by rw [oH hNl];omega)=LL[N.length]:=by
    unfold mR;rw [List.getElem_append_right (Nat.le_refl _)];simp
   rw [hm9] at h9;exact h9 3 _ rfl
  have htg28:tg g28=5:=hcN g28 rfl
  have hg28:b2<g28:=by
   rcases Nat.lt_or_ge b2 g28 with e | e
   ·exact e
   ·have:=htN g28 e;omega
  refine aN (ag (an (bf (an (af (mvi rfl (asi rfl (ak (ag ?_)))))))));apply bD 12 [(36,eqp _),(37,eqp (.slice (some ⟨g28,0,none⟩) LL.length c28)),(38,eqp _),(39,eqp _),(40,eqp (.slice (some ⟨g28,0,none⟩) LL.length c28)),(41,eqp _),(42,eqp _),(43,eqp _),(44,eqp (.slice LL[N.length].2.1 LL[N.length].1.acks.length LL[N.length].2.2)),(45,fun v w'=>∃ A' c',v=.slice A' LL[N.length].1.acks.length c'∧w'.ownsRow z9 3 1 (.slice A' LL[N.length].1.acks.length c') LL[N.length].1.acks.length (LL[N.length].1.acks.map iV)),(46,eqp _),(47,eqp _)] (by repeat first | exact cl | refine ck ?_ | refine bM ?_) (by kernel_rfl) (by kernel_rfl) ⟨ah _,ah _,ah _,ah _,ah _,ah _,ah _,ah _,ah _,(fun _ _ _ hF ⟨a,b,h1,h2⟩=>⟨a,b,h1,h2.kept_from hF⟩),ah _,ah _,trivial⟩
  case hop=>
   constructor
   ·rintro-w18 D18;exact aq (aa bH rfl) rfl
   constructor
   ·rintro-w19 D19;rintro _ rfl;exact aq (au du rfl (by exact (show _=some (Value.slice (some ⟨g28,0,none⟩) LL.length c28) from (hbN.from_ (ai.rfl_.next D19)).rd 19 rfl))) rfl
   constructor
   ·rintro-w20 D20;exact aq (aB (v:=.int _ _) rfl) rfl
   constructor
   ·rintro-w21 D21;exact aq (aa bH rfl) rfl
   constructor
   ·rintro-w22 D22;rintro _ rfl;exact aq (au du rfl (by exact (show _=some (Value.slice (some ⟨g28,0,none⟩) LL.length c28) from (hbN.from_ (ai.rfl_.next D22)).rd 19 rfl))) rfl
   constructor
   ·rintro-w23 D23;exact aq (aB (v:=.int _ _) rfl) rfl
   constructor
   ·rintro-w24 D24;rintro v24_40 rfl _ rfl;exact aq (bN eT rfl rfl (by omega)) rfl
   constructor
   ·rintro-w25 D25;rintro _ rfl;exact aq (aa ef rfl) rfl
   constructor
   ·rintro-w26 D26;rintro _ rfl;exact aq (au aR rfl (by exact dg (ai.rfl_.next D26) hc44)) rfl
   constructor
   ·rintro-w27 D27;rintro v27_44 rfl;refine gD gJ ((jT LL[N.length].2.1 LL[N.length].2.2 LL[N.length].1.acks _ ((hrk _ (List.getElem_mem hNL)).from_ (hBN.next D27)) (hl6 _ hqk)).mono ?_);rintro v w9 ⟨⟨a,b,rfl,ho⟩,hF9⟩;exact ⟨hF9,a,b,rfl,er ho (by rw [hz9];exact ((ai.rfl_.next D27)).size)⟩
   constructor
   ·rintro-w28 D28;rintro v28_37 rfl _ rfl;exact aq (bN eT rfl rfl (by omega)) rfl
   constructor
   ·rintro-w29 D29;rintro _ rfl;exact aq (aa ef rfl) rfl
   exact trivial
  case hend=>
   intro w30 D30;rintro _ rfl v37 rfl _ rfl _ rfl v40 rfl _ rfl _ rfl _ rfl v44 rfl v45 ⟨A45,c45,rfl,ho45⟩ _ rfl _ rfl;show St ..;have hM10:ai _ w30:=(ai.rfl_.next D30);refine lz (o:=N.length*4+3) cV (by show Value.pointer (some ⟨g28,0+N.length*4+3,none⟩)=_;rw [Nat.zero_add]) rfl rfl (hrN.kept_from (ai.rfl_.next D30)) (by omega) ?_;intro w31 O10 P10;have hlt9:=hrN.lt g28 rfl;obtain ⟨tg2,hg2n,ht2n,hc2n⟩:∃ t,cN 5 w31 t ({ s with es:=s.es,votes:=s.votes,next:=s.next,mtch:=s.mtch,sent:=s.sent,reads:=[] }:Rf) (⟨A7,c7,A12,c12,A16,c16,A20,c20,A24,c24,none,0,(N++[(LL[N.length].1,A45,c45)])⟩:Ra)∧(∀ k,k≤b2→t k=8)∧Col t 5 (some ⟨g28,0,none⟩):=⟨_,cN.five (cN.ack (q:=LL[N.length].1) (A:=A45) (c:=c45) hgN hM10 (by rw [←hz9];exact ho45)) O10 ((cA hlt9.2).trans htg28),fun k hk=>(cA (by omega)).trans (htN k hk),fun k hk=>by cases hk;exact (cA hlt9.2).trans htg28⟩
   have hr2n:(w31).ownsRow 0 54 4 (.slice (some ⟨g28,0,none⟩) LL.length c28) LL.length ((mR (N++[(LL[N.length].1,A45,c45)]) LL).flatMap rdV):=by
    rw [←xL hNL];exact P10
   have hb2n:=(hbN.from_ hM10).only O10 (by omega);have hk2n:=(hk2N.from_ hM10).only O10 (by omega);refine ak (bq (ag (af (ab (b0 rfl rfl (by omega)) (mvi rfl (ak ?_))))));refine cG (((N++[(LL[N.length].1,A45,c45)]),tg2)) ⟨bo (by rw [List.length_append,List.length_singleton];omega),trivial⟩ (by (iterate 34 refine bE rfl ?_);exact bX) ⟨?_,?_⟩
   ·refine ⟨by rw [List.length_append,List.length_singleton];omega,fun i h h2=>?_,hg2n.from_ ai.rfl_,ht2n,hc2n,hr2n.kept_from ai.rfl_,hb2n.from_ ai.rfl_,hk2n.from_ ai.rfl_,((hBN.next D30).only O10 (by omega))⟩;rcases Nat.lt_or_ge i N.length with e | e
    ·rw [List.getElem_append_left e];exact hNe i e h2
    ·obtain rfl:i=N.length:=by rw [List.length_append,List.length_singleton] at h;omega
     simp only [List.getElem_append_right (Nat.le_refl _),Nat.sub_self,List.getElem_singleton]
   ·show LL.length-(N++[_]).length<LL.length-N.length;rw [List.length_append,List.length_singleton];omega
 refine cz (bk (bk (bW (ag (an (af (ab (aK (cs:=rfV s (⟨A7,c7,A12,c12,A16,c16,A20,c20,A24,c24,A28,c28,LL⟩:Ra)) aS aJ rfl ((hbN.from_ ai.rfl_).whole)) (ab (c6 (l:=[(0,.tmp 49)]) (pD _ _ _ _ _ _ _ _ _ _ _ _ _ _ _ _ _ _ _ _ _ _ _ _ _ _ _ _ _ _ _ _ _ _)) ?_))))))));have hM12:ai _ w15:=ai.rfl_;refine cq (vs:=[_,_,_,_,_,_,_,_,_,_,_,_,_,_,_,_,_,_,_,_,_,_]) kT rfl rfl (by simp [Value.oneCell']) ((hk2N.from_ ai.rfl_)) rfl ?_;intro w32 O12 P12;refine ak (ag (aE (lW rfl (dY (cs:=[_,_,_,_,_,_,_,_,_,_,_,_,_,_,_,_,_,_,_,_,_,_]) ta kT rfl (by exact P12.whole)) ?_)));have hNf:N.length=LL.length:=by omega
 have e9:N.map (fun q=>q.1)=s.reads:=by
  rw [←hrL];refine List.ext_getElem (by simp [hNf]) fun i h1 h2=>?_
  simp only [List.getElem_map];exact hNe i (by simpa using h1) (by simpa using h2)
 have hfin:=cN.reads hgN (A:=A28) (c:=c28) (n:=LL.length) hNf.symm (by rw [xM hNf] at hrN;exact hrN) hcN;rw [show ((⟨A7,c7,A12,c12,A16,c16,A20,c20,A24,c24,none,0,N⟩:Ra)).L=N from rfl,e9] at hfin;exact ⟨⟨tg,(⟨A7,c7,A12,c12,A16,c16,A20,c20,A24,c24,A28,c28,N⟩:Ra),(by show Value.agg (rfV s (⟨A7,c7,A12,c12,A16,c16,A20,c20,A24,c24,A28,c28,LL⟩:Ra)).toArray=Value.agg (rfV s (⟨A7,c7,A12,c12,A16,c16,A20,c20,A24,c24,A28,c28,N⟩:Ra)).toArray;unfold rfV;simp only [hNf]),cN.chg8 (cN.from_ hfin hM12) (O12.toChg rfl) (htN b2 (Nat.le_refl _)),fun k hk=>htN k (by omega)⟩,(hBN.only O12 (hg2))⟩
theorem rK {w w1 w':World} {g T:Nat} {tag:Nat→Nat} {s:Rf} {a:Ra} (hF:ai w w1) (hf:bm w1 tag s a) (ht:∀ k,k<w.heap.size→tag k=8) (hE:ai w1 w') (hg:g=w1.heap.size) (hb:Blk w' g T (rfV s a++[Value.slice none 0 0]).toArray):aQ w (fun k=>k<w.heap.size) w' T g ⟨s,[]⟩:=by
 subst hg;have hz:=hF.size;refine ⟨⟨ez w1.heap.size 7 tag,a,none,0,[],⟨hb,(hf.re 7).from_ hE,⟨World.ownsRow_nil _ _ _ _,rfl,fun j hj=>absurd hj (Nat.not_lt_zero _),Col.none⟩,dH (Nat.le_refl _),fun k hk=>(cA (Nat.lt_of_lt_of_le hk hz)).trans (ht k hk)⟩⟩,fun k hk=>hk,(hF.next hE).toChg⟩
theorem yr (s:Rf) (a:Ra) (w:World) (hrd:eQ w s a) (hl:s.votes.length≤1000000∧s.next.length≤1000000∧s.mtch.length≤1000000∧s.sent.length≤1000000∧s.reads.length≤1000000∧∀ q∈s.reads,q.acks.length≤1000000) (_:s.es.length≤1000000) (hm:iq s=false) :
 Rt prog 55 [.agg (rfV s a).toArray] w (fun v w'=>v=.tuple #[.pointer none,.int .i64 1]∧ai w w'):=by
 refine enter (n:=11) Tryz.func55 rfl rfl rfl (an (af (bQ (v:=.agg _) rfl ?_)));intro b1 w1 E1 hb1 hk1;refine asp rfl (asi rfl (ak (ag (an (an (af (ab (aK (cs:=rfV s a) aS aJ rfl ((hk1.from_ ai.rfl_).whole)) (aC nH (su s a _ (hrd.from_ (ai.rfl_.next E1)) hl) ?_))))))));rintro v5 w2 ⟨rfl,E5⟩;refine ab (dd (de rfl rfl) (by rw [hm];rfl)) ?_;refine ak (ag (a_ rfl (an (af (asp rfl (asi rfl (ak (ag (aE (aG (lX (v:=.pointer _) (v':=.int _ _) rfl rfl rfl (⟨rfl,((ai.rfl_.next E1).next E5)⟩))))))))))))
theorem oX (s:Rf) (a:Ra) (w:World) (hrd:eQ w s a) (hl:s.votes.length≤1000000∧s.next.length≤1000000∧s.mtch.length≤1000000∧s.sent.length≤1000000∧s.reads.length≤1000000∧∀ q∈s.reads,q.acks.length≤1000000) (hel:s.es.length≤1000000) (hm:iq s=true) :
 Rt prog 55 [.agg (rfV s a).toArray] w (fun v w'=>(∃ g,v=.tuple #[.pointer (some ⟨g,0,none⟩),.int .i64 0]∧aQ w (fun k=>k<w.heap.size) w' 96 g ⟨s,[]⟩)):=by
 refine enter (n:=11) Tryz.func55 rfl rfl rfl (an (af (bQ (v:=.agg _) rfl ?_)));intro b1 w1 E1 hb1 hk1;refine asp rfl (asi rfl (ak (ag (an (an (af (ab (aK (cs:=rfV s a) aS aJ rfl ((hk1.from_ ai.rfl_).whole)) (aC nH (su s a _ (hrd.from_ (ai.rfl_.next E1)) hl) ?_))))))));rintro v5 w2 ⟨rfl,E5⟩;refine ab (bY (de rfl rfl) (by rw [hm];rfl)) ?_;refine ak (ag (bc rfl (aN (ag (an (af (ab (aK (cs:=rfV s a) aS aJ rfl ((hk1.from_ (ai.rfl_.next E5)).whole)) ?_)))))));have hz8:=(((ai.rfl_.next E1).next E5)).size;refine aC s_ (vX s a _ (hrd.from_ ((ai.rfl_.next E1).next E5)) hl hel) ?_;rintro v8 w3 ⟨⟨tag,a',rfl,hf8,ht8⟩,E8⟩;have hB8:ai w w3:=(((ai.rfl_.next E1).next E5).next E8);refine ab (c6 (l:=[(0,.tmp 8)]) (pC _ _ _ _ _ _ _ _ _ _ _ _ _ _ _ _ _ _ _ _ _ _ _ _ _ _ _ _ _ _ _ _ _ _)) (bQ (v:=.agg _) rfl ?_);intro b10 w4 E10 hb10 hk10;have hb10e:=hb10;have hb10:Blk w4 b10 96 (rfV s a'++[Value.slice none 0 0]).toArray:=hk10;refine asp rfl (asi rfl (ak (ag (aE (lX (v:=.pointer _) (v':=.int _ _) rfl rfl rfl (⟨b10,rfl,rK hB8 hf8 (fun k hk=>ht8 k (Nat.lt_of_lt_of_le hk hz8)) E10 hb10e hb10⟩))))))
theorem gv:aP prog 28=true:=by kernel_rfl
theorem uG:aP prog 60=true:=by kernel_rfl
theorem df:kj prog 29=some (.agg #[.int .i64 0,.int .i64 0,.int .i64 0,.int .i64 0,.int .i64 0,.int .i64 0,.int .i64 0,.int .i64 0,.slice none 0 0,.string ⟨#[]⟩,.int .i64 0,.int .i64 0,.int .i64 0,.int .u64 0,.slice none 0 0,.slice none 0 0,.slice none 0 0,.slice none 0 0,.int .i64 0,.slice none 0 0,.string ⟨#[]⟩,.int .i64 0]):=by kernel_rfl
theorem uI:aP prog 27=true:=by kernel_rfl
theorem uH:aP prog 29=true:=by kernel_rfl
theorem zv (A:Option Addr) (c:Nat) (l:List Int) (w:World) (hr:dW iV w A l) (hl:l.length*8≤140737488351232) :
 Rt prog 28 [.slice A l.length c] w (fun v w'=>∃ A' c',v=.slice A' l.length c'∧w'.ownsRow w.heap.size 3 1 v l.length (l.map iV)∧ai w w'):=by
 refine enter (n:=19) Tryz.func28 rfl rfl rfl (an (af (ass rfl (ak (ag (an (af (ass rfl (ak (ag (an (an (af (asi rfl (ak (ag (bf (cS (G:=Nat×Option Addr×Nat) [5,6,7,8,9,10,11,12,13,14,15,16,17] (fun g=>[(3,.slice g.2.1 g.1 g.2.2),(4,.int .i64 (g.1:Nat))]) (fun g w'=>g.1≤l.length∧w'.ownsRow w.heap.size 3 1 (.slice g.2.1 g.1 g.2.2) g.1 ((l.take g.1).map iV)∧ai w w') (fun g=>l.length-g.1) ((0,none,0)) ⟨rfl,rfl,trivial⟩ ?_ ?_))))))))))))))))))
 ·exact ⟨Nat.zero_le _,World.ownsRow_nil _ _ _ _,ai.rfl_⟩
 rintro ⟨k,A3,c3⟩ ρ1 w1 ⟨hk,ho,hB⟩;simp only at hk ho;refine an (an (af (mvi rfl (mvs rfl (ab (bL bP rfl) (ab (bZ rfl rfl) (ak (ag (Bu rfl (fun Q2=>?_) (fun Q2=>?_))))))))))
 ·obtain ⟨ba,oa,rfl,ca⟩:=hr (by omega);refine aN (ag (an (bf (af (mvs rfl (mvs rfl (mvi rfl (ab (cr aV rfl rfl (by omega)) (ab (au ao rfl (by first | (exact dg hB (ca k (by omega))))) ?_)))))))));refine fD (v:=.int _ _) bS rfl rfl rfl ?_;intro b16 w3 E16 hb16 hk16;refine rM (a0:=w) bS rfl rfl (ho.kept_from E16) (hB.next E16) rfl hk16 rfl (by omega) (by omega) ?_;intro A17 c17 w4 ho17 B17 hg17;refine ass rfl (ak (bq (ag (af (mvi rfl (ab (b0 rfl rfl (by omega)) (asi rfl (ak ?_))))))));refine cG ((k+1,A17,c17)) ⟨(by first | rfl | (refine bo ?_;omega)),(by first | rfl | (refine bo ?_;omega)),trivial⟩ (by (iterate 30 refine bE rfl ?_);exact bX) ⟨?_,?_⟩
  ·exact ⟨by simp only;omega,by rw [pz iV (by omega)];exact ho17,B17⟩
  ·simp only;omega
 refine cz (bk (bk (bW (ag (an (af (mvs rfl (ass rfl (ak (ag (aE (bt (v:=.slice _ _ _) rfl rfl ?_))))))))))));obtain rfl:k=l.length:=by omega
 exact ⟨A3,c3,rfl,by rwa [List.take_length] at ho,hB⟩
theorem jh (A:Option Addr) (c:Nat) (l:List Int) (w:World) (h:IR w A c l) (hl:l.length≤1000000):Rt prog 28 [.slice A l.length c] w fun v w'=>(∃ A' c',v=.slice A' l.length c'∧w'.ownsRow w.heap.size 3 1 (.slice A' l.length c') l.length (l.map iV))∧ai w w':=
 (zv A c l w h.1 (by omega)).mono fun v w' ⟨A',c',hv,ho,hF⟩=>⟨⟨A',c',hv,hv ▸ ho⟩,hF⟩
theorem cN.grow5 {w w':World} {tag:Nat→Nat} {s:Rf} {a:Ra} (h:cN 5 w tag s a) (hC:Chg (fun k=>tag k=5) w w'):cN 5 w' (ez w.heap.size 5 tag) s a:=
 ⟨fun _=>ed hC (by decide) (h.e (by decide)),fun _=>ed hC (by decide) (h.v (by decide)),fun _=>ed hC (by decide) (h.x (by decide)),fun _=>ed hC (by decide) (h.m (by decide)),fun _=>ed hC (by decide) (h.n (by decide)),fun e=>absurd rfl e,fun e=>absurd rfl e,fun i hi _=>ed hC (by omega) (h.k i hi (by omega))⟩
theorem sq (q:Rd) (A:Option Addr) (c:Nat) (w:World) (h:IR w A c q.acks) (hl:q.acks.length≤1000000) :
 Rt prog 60 [.agg (rdV (q,A,c)).toArray] w (fun v w'=>(∃ A' c',v=.agg (rdV (q,A',c')).toArray∧w'.ownsRow w.heap.size 3 1 (.slice A' q.acks.length c') q.acks.length (q.acks.map iV))∧ai w w'):=by
 refine enter (n:=10) Tryz.func60 rfl rfl rfl (an (af (bQ (v:=.agg _) rfl ?_)));intro b1 w1 E1 hb1 hk1;refine bU iD ?_;intro b2 w2 E2 hb2 hk2;have hg2:w.heap.size≤b2:=by rw [hb2];exact ((ai.rfl_.next E1)).size
 have h12:b1≠b2:=by have:=hk1.lt;omega
 replace hk1:=hk1.from_ E2;refine ak (ag (an (af (ab (aK (cs:=rdV (q,A,c)) gI eS rfl ((hk1.from_ ai.rfl_).whole)) ?_))));have hM3a:ai _ w2:=ai.rfl_;have hk1p:=hk1.from_ hM3a;have hk2p:=hk2.from_ hM3a;refine bU iD ?_;intro b3 w3 E3 hb3 hk3;have hg3:w.heap.size≤b3:=by rw [hb3];exact (((ai.rfl_.next E1).next E2)).size
 have hM3:=hM3a.next E3;replace hk1:=hk1.from_ hM3;replace hk2:=hk2.from_ hM3;have h13:b1≠b3:=fun e=>by have h9:=hk1p.lt;omega
 have h23:b2≠b3:=fun e=>by have h9:=hk2p.lt;omega
 refine cq (vs:=[_,_,_,_]) eS rfl rfl (by simp [Value.oneCell']) (hk3) rfl ?_;intro w4 O1 P1;replace hk1:=hk1.only O1 h13;replace hk2:=hk2.only O1 h23;refine ak (ag (an (af (ab (aa ef rfl) (ab (au aR rfl (by exact (show _=some (Value.slice A q.acks.length c) from (hk1.from_ ai.rfl_).rd 3 rfl))) ?_)))));have hz7:=(((((ai.rfl_.next E1).next E2).next E3).only O1 (hg3))).size;refine aC gv (jh A c q.acks _ (h.from_ ((((ai.rfl_.next E1).next E2).next E3).only O1 (hg3))) hl) ?_;rintro v7 w5 ⟨⟨A7,c7,rfl,ho7⟩,E7⟩;refine ab (aa ef rfl) ?_;have hM8:ai _ w5:=(ai.rfl_.next E7);refine fp (v:=.slice _ _ _) cV rfl rfl rfl ((P1.from_ (ai.rfl_.next E7))) (by show _<4;decide) ?_;intro w6 O2 P2;replace hk2:=(hk2.from_ hM8).only O2 h23;replace ho7:=fx ho7 O2 (k7 ho7 (P1.from_ hM8) (by decide));refine ak (ag (an (af (ab (aK (cs:=rdV (q,A7,c7)) gI eS rfl ((P2.from_ ai.rfl_).whole)) ?_))));have hM9:ai _ w6:=ai.rfl_;refine cq (vs:=[_,_,_,_]) eS rfl rfl (by simp [Value.oneCell']) ((hk2.from_ ai.rfl_)) rfl ?_;intro w7 O3 P3;replace ho7:=fx (ho7.kept_from hM9) O3 (k7 (ho7.kept_from hM9) (hk2.from_ hM9) (by decide));refine ak (ag (aE (lW rfl (dY (cs:=[_,_,_,_]) gI eS rfl (by exact P3.whole)) ?_)));exact ⟨⟨A7,c7,rfl,er ho7 hz7⟩,(((((((ai.rfl_.next E1).next E2).next E3).only O1 (hg3)).next E7).only O2 (hg3)).only O3 (hg2))⟩
theorem BH {A A':Option Addr} {n:Nat} (hL:A'.map (·.block)=A.map (·.block)∨A'.map (·.block)=some n):∀ k,A'.map (·.block)=some k→A.map (·.block)=some k∨n≤k:=fun k hk=>by
 rcases hL with e | e
 ·exact .inl (e ▸ hk)
 ·rw [e] at hk;cases hk;exact .inr (Nat.le_refl _)
theorem qM (x:Rd×Option Addr×Nat) (w:World) (h:IR w x.2.1 x.2.2 x.1.acks) (hl:x.1.acks.length≤1000000):Rt prog 60 [.agg (rdV x).toArray] w fun v w'=>(∃ A' c',v=.agg (rdV (x.1,A',c')).toArray∧w'.ownsRow w.heap.size 3 1 (.slice A' x.1.acks.length c') x.1.acks.length (x.1.acks.map iV))∧ai w w':=
 sq x.1 x.2.1 x.2.2 w h hl
theorem qL (s:Rf) (a:Ra) (tag:Nat→Nat) (Q:Option Addr) (Qc:Nat) (LL:List (Rd×Option Addr×Nat)) (w:World) (hg:cN 5 w tag s a) (ha:a.L=[]) (hq:iv 4 rdV w Q LL) (hk:∀ x∈LL,IR w x.2.1 x.2.2 x.1.acks) (hle:∀ x∈LL,x.1.acks.length≤1000000) (hn:LL.length≤1000000) :
 Rt prog 29 [.slice Q LL.length Qc] w (fun v w'=>(∃ tag' Q' c' N,v=.slice Q' LL.length c'∧N.map (fun q=>q.1)=LL.map (fun q=>q.1)∧cN 5 w' tag' s { a with L:=N }∧(∀ k,k<w.heap.size→tag' k=tag k)∧Col tag' 5 Q'∧w'.ownsRow 0 54 4 (.slice Q' LL.length c') LL.length (N.flatMap rdV))∧ai w w'):=by
 refine enter (n:=20) Tryz.func29 rfl rfl rfl (an (af (ass rfl (ak (ag (an (af (ass rfl (ak (ag (an (an (af (asi rfl (ak (ag (bf (cS (G:=List (Rd×Option Addr×Nat)×(Nat→Nat)×Option Addr×Nat) [5,6,7,8,9,10,11,12,13,14,15,16,17,18] (fun (N,tg,A3,c3)=>[(3,.slice A3 N.length c3),(4,.int .i64 (N.length:Nat))]) (fun (N,tg,A3,c3) w'=>N.length≤LL.length∧(∀ i (h:i<N.length) (h2:i<LL.length),N[i].1=LL[i].1)∧cN 5 w' tg s { a with L:=N }∧(∀ k,k<w.heap.size→tg k=tag k)∧Col tg 5 A3∧w'.ownsRow w.heap.size 54 4 (.slice A3 N.length c3) N.length (N.flatMap rdV)∧ai w w') (fun (N,_)=>LL.length-N.length) (([],tag,none,0)) ⟨rfl,rfl,trivial⟩ ?_ ?_))))))))))))))))))
 ·exact ⟨Nat.zero_le _,fun i h=>absurd h (Nat.not_lt_zero _),(by rw [←ha];exact hg.from_ ai.rfl_),fun _ _=>rfl,Col.none,World.ownsRow_nil _ _ _ _,ai.rfl_⟩
 rintro ⟨N,tg,A3,c3⟩ ρ1 w1 ⟨hNl,hNe,hgN,htN,hcN,hrN,hBN⟩;refine an (an (af (mvi rfl (mvs rfl (ab (bL eK rfl) (ab (bZ rfl rfl) (ak (ag (Bu rfl (fun Q2=>?_) (fun Q2=>?_))))))))))
 ·have hNL:N.length<LL.length:=by omega
  obtain ⟨ba,oa,rfl,hca⟩:=hq (by omega);have hkN:=hk _ (List.getElem_mem hNL);have hlN:=hle _ (List.getElem_mem hNL);refine aN (ag (an (bf (af (mvs rfl (mvs rfl (mvi rfl (ab (iL eT rfl rfl (by omega)) (ab (aK (cs:=rdV LL[N.length]) gI eS rfl (ft hBN (hca N.length hNL))) ?_)))))))));have hgN9:=hgN.from_ ai.rfl_;have hz16:=(hBN).size;have hrN9:=hrN.kept_from ai.rfl_;refine aC uG (qM LL[N.length] _ (hkN.from_ hBN) hlN) ?_;rintro v16 w3 ⟨⟨A16,c16,rfl,ho16⟩,E16⟩;obtain ⟨t16,hg16,ht16,hc16⟩:∃ t,cN 5 w3 t s { a with L:=(N++[(LL[N.length].1,A16,c16)]) }∧(∀ k,k<w.heap.size→t k=tag k)∧Col t 5 A3:=⟨_,hgN9.ack E16 (q:=LL[N.length].1) ho16,fun k hk=>(cA (Nat.lt_of_lt_of_le hk hz16)).trans (htN k hk),hcN.re (fun k hk=>(ee hrN9 k hk).2)⟩;refine jC (l:=[(0,.tmp 16)]) (cells:=(rdV (LL[N.length].1,A16,c16)).toArray) jB rfl rfl (by show Instr.fill _ _ [(0,Value.agg (rdV (LL[N.length].1,A16,c16)).toArray)]=_;kernel_rfl) ?_;intro b17 w4 E17 hb17 hk17;have hM18:ai _ w4:=((ai.rfl_.next E16).next E17);have hB18:ai w w4:=((hBN.next E16).next E17);have hM18:ai _ w4:=((ai.rfl_.next E16).next E17);have hB18:ai w w4:=((hBN.next E16).next E17);have hr18:=hrN.kept_from hM18;refine jX (news:=rdV (LL[N.length].1,A16,c16)) jB rfl (by decide) rfl hr18 hB18.size rfl rfl ⟨b17,0,rfl,hk17.whole⟩ (by simp [rdV,Value.oneCell']) (by omega) (by omega) ?_;intro A18 c18 w5 ho18 hgr18 hL18;obtain ⟨t18,hg18,ht18,hc18⟩:∃ t,cN 5 w5 t s { a with L:=(N++[(LL[N.length].1,A16,c16)]) }∧(∀ k,k<w.heap.size→t k=tag k)∧Col t 5 A18:=⟨_,(hg16.from_ (ai.rfl_.next E17)).grow5 (Chg.of_grown hgr18 (fun q hq=>hc16 q hq)),fun k hk=>(cA (Nat.lt_of_lt_of_le hk hB18.size)).trans (ht16 k hk),hc16.new (fun k hk=>(ee hr18 k hk).2) (BH hL18)⟩;have hF18:ai w w5:=hB18.grew hgr18 (fun k hk=>(ee hr18 k hk).1);refine ass rfl (ak (bq (ag (af (mvi rfl (ab (b0 rfl rfl (by omega)) (asi rfl (ak ?_))))))));refine cG (((N++[(LL[N.length].1,A16,c16)]),t18,A18,c18)) ⟨(show Value.slice A18 (N.length+1) c18=Value.slice A18 (N++[(LL[N.length].1,A16,c16)]).length c18 by rw [List.length_append];rfl),bo (by rw [List.length_append,List.length_singleton];omega),trivial⟩ (by (iterate 32 refine bE rfl ?_);exact bX) ⟨?_,?_⟩
  ·have e18:(N++[(LL[N.length].1,A16,c16)]).length=N.length+1:=by rw [List.length_append];rfl
   refine ⟨by omega,fun i h h2=>?_,hg18.from_ ai.rfl_,ht18,hc18,?_,hF18⟩
   ·rcases Nat.lt_or_ge i N.length with e | e
    ·rw [List.getElem_append_left e];exact hNe i e h2
    ·obtain rfl:i=N.length:=by omega
     simp only [List.getElem_append_right (Nat.le_refl _),Nat.sub_self,List.getElem_singleton]
   ·have h9:=ho18.kept_from ai.rfl_;show World.ownsRow _ _ _ _ (.slice A18 (N++[(LL[N.length].1,A16,c16)]).length c18) (N++[(LL[N.length].1,A16,c16)]).length ((N++[(LL[N.length].1,A16,c16)]).flatMap rdV);rw [e18,List.flatMap_append,show [(LL[N.length].1,A16,c16)].flatMap rdV=rdV (LL[N.length].1,A16,c16) from List.append_nil _];exact h9
  ·show LL.length-(N++[_]).length<LL.length-N.length;rw [List.length_append,List.length_singleton];omega
 refine cz (bk (bk (bW (ag (an (af (mvs rfl (ass rfl (ak (ag (aE (bt (v:=.slice _ _ _) rfl rfl ?_))))))))))));have hNf:N.length=LL.length:=by omega
 rw [hNf] at hrN;refine ⟨⟨tg,A3,c3,N,by rw [hNf],?_,hgN.from_ ai.rfl_,htN,hcN,er (hrN.kept_from ai.rfl_) (Nat.zero_le _)⟩,hBN⟩;refine List.ext_getElem (by simp [hNf]) fun i h1 h2=>?_
 simp only [List.getElem_map];exact hNe i (by simpa using h1) (by simpa using h2)
theorem jy (s:Rf) (a:Ra) (w:World) (hrd:eQ w s a) (hl:s.votes.length≤1000000∧s.next.length≤1000000∧s.mtch.length≤1000000∧s.sent.length≤1000000∧s.reads.length≤1000000∧∀ q∈s.reads,q.acks.length≤1000000) (hel:s.es.length≤1000000) :
 Rt prog 16 [.agg (rfV s a).toArray] w (fun v w'=>(∃ tag a',v=.agg (rfV s a').toArray∧bm w' tag s a'∧∀ k,k<w.heap.size→tag k=8)∧ai w w'):=by
 obtain ⟨E,Ec,V,Vc,X,Xc,M,Mc,Sn,Sc,Q,Qc,LL⟩:=a;obtain ⟨hl1,hl2,hl3,hl4,hl5,hl6⟩:=hl;have hrL:LL.map (fun q=>q.1)=s.reads:=hrd.r;have hrk:∀ q∈LL,IR w q.2.1 q.2.2 q.1.acks:=hrd.k;have hrq:iv 4 rdV w Q LL:=hrd.q;have hLl:LL.length=s.reads.length:=by rw [←hrL,List.length_map]
 have hqm:LL.length≤1000000:=by omega
 refine enter (n:=30) Tryz.func16 rfl rfl rfl (an (af (bQ (v:=.agg _) rfl ?_)));intro b1 w1 E1 hb1 hk1;refine bU df ?_;intro b2 w2 E2 hb2 hk2;have hg2:w.heap.size≤b2:=by rw [hb2];exact ((ai.rfl_.next E1)).size
 have hlt1:=hk1.lt;replace hk1:=hk1.from_ E2;refine ak (ag (an (af (ab (aK (cs:=rfV s (⟨E,Ec,V,Vc,X,Xc,M,Mc,Sn,Sc,Q,Qc,LL⟩:Ra)) aS aJ rfl (hk1.whole)) (bU df ?_)))));intro b3 w3 E3 hb3 hk3;have hg3:w.heap.size≤b3:=by rw [hb3];exact (((ai.rfl_.next E1).next E2)).size
 have hlt2:=hk2.lt;have hlt1b:=hk1.lt;replace hk1:=hk1.from_ E3;replace hk2:=hk2.from_ E3;have h13:b1≠b3:=by omega
 have h23:b2≠b3:=by omega
 have ht0:∀ k,k≤b3→(fun _:Nat=>8) k=8:=fun _ _=>rfl
 refine cq (vs:=[_,_,_,_,_,_,_,_,_,_,_,_,_,_,_,_,_,_,_,_,_,_]) aJ rfl rfl (by simp [Value.oneCell']) (hk3) rfl ?_;intro w4 O1 P1;replace hk1:=hk1.only O1 h13;replace hk2:=hk2.only O1 h23;have hx1:Blk w4 b3 29 (rfV s (⟨E,Ec,V,Vc,X,Xc,M,Mc,Sn,Sc,Q,Qc,LL⟩:Ra)++[]).toArray:=P1;refine ak (ag (an (af (ab (aa bg rfl) (ab (aK (cs:=[.int .i64 s.b,.int .i64 s.t,.slice E s.es.length Ec]) dm cX rfl (jD (show Blk _ b1 29 (rfV s (⟨E,Ec,V,Vc,X,Xc,M,Mc,Sn,Sc,Q,Qc,LL⟩:Ra)++[]).toArray from hk1.from_ ai.rfl_))) ?_)))));have hN7:ai _ w4:=ai.rfl_;have hx1n:=hx1.from_ hN7;have hlt7:=hx1n.lt;replace hk1:=hk1.from_ ai.rfl_;replace hk2:=hk2.from_ ai.rfl_;have hf0n:bm w4 (fun _=>8) ({ s with es:=[],votes:=[],next:=[],mtch:=[],sent:=[],reads:=[] }:Rf) a0:=bm.same bm.zero rfl rfl rfl rfl rfl rfl;refine aC uI (uf s.b s.t E s.es.length Ec s.es _ (hrd.e.from_ ((((ai.rfl_.next E1).next E2).next E3).only O1 (hg3))) (by omega)) ?_;rintro v7 w5 ⟨A7,c7,rfl,ho7,_,E7⟩;obtain ⟨tag1,hf1,ht1⟩:∃ t,bm w5 t ({ s with es:=s.es,votes:=[],next:=[],mtch:=[],sent:=[],reads:=[] }:Rf) (⟨A7,c7,none,0,none,0,none,0,none,0,none,0,[]⟩:Ra)∧(∀ k,k≤b3→t k=8):=⟨_,cN.log (bm.but (c:=0) hf0n (ai.toChg E7)) s.b s.t rfl (er ho7 (Nat.zero_le _)) (fun k hk=>dH (ee ho7 k hk).1),fun k hk=>(cA (by omega)).trans (ht0 k hk)⟩;replace hx1n:=hx1n.from_ E7;replace hk1:=hk1.from_ E7;replace hk2:=hk2.from_ E7;refine ab (aa bg rfl) ?_;have hS1:ai _ w5:=ai.rfl_;have hB1:ai w w5:=(((((ai.rfl_.next E1).next E2).next E3).only O1 (hg3)).next E7);refine pK (s:=s) (a:=(⟨E,Ec,V,Vc,X,Xc,M,Mc,Sn,Sc,Q,Qc,LL⟩:Ra)) (R:=[]) (b:=s.b) (t9:=s.t) (es:=s.es) rfl cX rfl rfl (hx1n.from_ hS1) ?_;intro w6 O1_0 P1_0;have hx2:Blk w6 b3 29 (rfV s (⟨A7,c7,V,Vc,X,Xc,M,Mc,Sn,Sc,Q,Qc,LL⟩:Ra)++[]).toArray:=P1_0;replace hf1:=(hf1.from_ hS1).chg8 (O1_0.toChg rfl) (ht1 b3 (Nat.le_refl _));replace hk1:=(hk1.from_ hS1).only O1_0 h13;replace hk2:=(hk2.from_ hS1).only O1_0 h23;refine ak (ag (an (af (ab (aa dc rfl) (ab (au aR rfl (by exact (show _=some (Value.slice V s.votes.length Vc) from (hk1.from_ ai.rfl_).rd 14 rfl))) ?_)))));have hN11:ai _ w6:=ai.rfl_;have hx2n:=hx2.from_ hN11;have hlt11:=hx2n.lt;replace hk1:=hk1.from_ ai.rfl_;replace hk2:=hk2.from_ ai.rfl_;have hf1n:=hf1.from_ hN11;refine aC gv (jh V Vc s.votes _ (IR.from_ hrd.v (hB1.only O1_0 hg3)) hl1) ?_;rintro v11 w7 ⟨⟨A11,c11,rfl,ho11⟩,E11⟩;obtain ⟨tag2,hf2,ht2⟩:∃ t,bm w7 t ({ s with es:=s.es,votes:=s.votes,next:=[],mtch:=[],sent:=[],reads:=[] }:Rf) (⟨A7,c7,A11,c11,none,0,none,0,none,0,none,0,[]⟩:Ra)∧(∀ k,k≤b3→t k=8):=⟨_,cN.votes (bm.but (c:=1) hf1n (ai.toChg E11)) rfl (er ho11 (Nat.zero_le _)) (fun k hk=>dH (ee ho11 k hk).1),fun k hk=>(cA (by omega)).trans (ht1 k hk)⟩;replace hx2n:=hx2n.from_ E11;replace hk1:=hk1.from_ E11;replace hk2:=hk2.from_ E11;refine ab (aa dc rfl) ?_;have hS2:ai _ w7:=ai.rfl_;refine cQ (s':=s) (a':=(⟨A7,c7,A11,c11,X,Xc,M,Mc,Sn,Sc,Q,Qc,LL⟩:Ra)) (v:=.slice _ _ _) cV rfl rfl rfl ((hx2n.from_ hS2)) (by exact ⟨by decide,rfl⟩) ?_;intro w8 O2_0 P2_0;have hx3:Blk w8 b3 29 (rfV s (⟨A7,c7,A11,c11,X,Xc,M,Mc,Sn,Sc,Q,Qc,LL⟩:Ra)++[]).toArray:=P2_0;replace hf2:=(hf2.from_ hS2).chg8 (O2_0.toChg rfl) (ht2 b3 (Nat.le_refl _));replace hk1:=(hk1.from_ hS2).only O2_0 h13;replace hk2:=(hk2.from_ hS2).only O2_0 h23;refine ak (ag (an (af (ab (aa bw rfl) (ab (au aR rfl (by exact (show _=some (Value.slice X s.next.length Xc) from (hk1.from_ ai.rfl_).rd 15 rfl))) ?_)))));have hN15:ai _ w8:=ai.rfl_;have hx3n:=hx3.from_ hN15;have hlt15:=hx3n.lt;replace hk1:=hk1.from_ ai.rfl_;replace hk2:=hk2.from_ ai.rfl_;have hf2n:=hf2.from_ hN15;refine aC gv (jh X Xc s.next _ (IR.from_ hrd.x (((hB1.only O1_0 hg3).next E11).only O2_0 (hg3))) hl2) ?_;rintro v15 w9 ⟨⟨A15,c15,rfl,ho15⟩,E15⟩;obtain ⟨tag3,hf3,ht3⟩:∃ t,bm w9 t ({ s with es:=s.es,votes:=s.votes,next:=s.next,mtch:=[],sent:=[],reads:=[] }:Rf) (⟨A7,c7,A11,c11,A15,c15,none,0,none,0,none,0,[]⟩:Ra)∧(∀ k,k≤b3→t k=8):=⟨_,cN.next (bm.but (c:=2) hf2n (ai.toChg E15)) rfl (er ho15 (Nat.zero_le _)) (fun k hk=>dH (ee ho15 k hk).1),fun k hk=>(cA (by omega)).trans (ht2 k hk)⟩;replace hx3n:=hx3n.from_ E15;replace hk1:=hk1.from_ E15;replace hk2:=hk2.from_ E15;refine ab (aa bw rfl) ?_;have hS3:ai _ w9:=ai.rfl_;refine cQ (s':=s) (a':=(⟨A7,c7,A11,c11,A15,c15,M,Mc,Sn,Sc,Q,Qc,LL⟩:Ra)) (v:=.slice _ _ _) cV rfl rfl rfl ((hx3n.from_ hS3)) (by exact ⟨by decide,rfl⟩) ?_;intro w10 O3_0 P3_0;have hx4:Blk w10 b3 29 (rfV s (⟨A7,c7,A11,c11,A15,c15,M,Mc,Sn,Sc,Q,Qc,LL⟩:Ra)++[]).toArray:=P3_0;replace hf3:=(hf3.from_ hS3).chg8 (O3_0.toChg rfl) (ht3 b3 (Nat.le_refl _));replace hk1:=(hk1.from_ hS3).only O3_0 h13;replace hk2:=(hk2.from_ hS3).only O3_0 h23;refine ak (ag (an (af (ab (aa cf rfl) (ab (au aR rfl (by exact (show _=some (Value.slice M s.mtch.length Mc) from (hk1.from_ ai.rfl_).rd 16 rfl))) ?_)))));have hN19:ai _ w10:=ai.rfl_;have hx4n:=hx4.from_ hN19;have hlt19:=hx4n.lt;replace hk1:=hk1.from_ ai.rfl_;replace hk2:=hk2.from_ ai.rfl_;have hf3n:=hf3.from_ hN19;refine aC gv (jh M Mc s.mtch _ (IR.from_ hrd.m (((((hB1.only O1_0 hg3).next E11).only O2_0 (hg3)).next E15).only O3_0 (hg3))) hl3) ?_;rintro v19 w11 ⟨⟨A19,c19,rfl,ho19⟩,E19⟩;obtain ⟨tag4,hf4,ht4⟩:∃ t,bm w11 t ({ s with es:=s.es,votes:=s.votes,next:=s.next,mtch:=s.mtch,sent:=[],reads:=[] }:Rf) (⟨A7,c7,A11,c11,A15,c15,A19,c19,none,0,none,0,[]⟩:Ra)∧(∀ k,k≤b3→t k=8):=⟨_,cN.mtch (bm.but (c:=3) hf3n (ai.toChg E19)) rfl (er ho19 (Nat.zero_le _)) (fun k hk=>dH (ee ho19 k hk).1),fun k hk=>(cA (by omega)).trans (ht3 k hk)⟩;replace hx4n:=hx4n.from_ E19;replace hk1:=hk1.from_ E19;replace hk2:=hk2.from_ E19;refine ab (aa cf rfl) ?_;have hS4:ai _ w11:=ai.rfl_;refine cQ (s':=s) (a':=(⟨A7,c7,A11,c11,A15,c15,A19,c19,Sn,Sc,Q,Qc,LL⟩:Ra)) (v:=.slice _ _ _) cV rfl rfl rfl ((hx4n.from_ hS4)) (by exact ⟨by decide,rfl⟩) ?_;intro w12 O4_0 P4_0;have hx5:Blk w12 b3 29 (rfV s (⟨A7,c7,A11,c11,A15,c15,A19,c19,Sn,Sc,Q,Qc,LL⟩:Ra)++[]).toArray:=P4_0;replace hf4:=(hf4.from_ hS4).chg8 (O4_0.toChg rfl) (ht4 b3 (Nat.le_refl _));replace hk1:=(hk1.from_ hS4).only O4_0 h13;replace hk2:=(hk2.from_ hS4).only O4_0 h23;refine ak (ag (an (af (ab (aa ct rfl) (ab (au aR rfl (by exact (show _=some (Value.slice Sn s.sent.length Sc) from (hk1.from_ ai.rfl_).rd 17 rfl))) ?_)))));have hN23:ai _ w12:=ai.rfl_;have hx5n:=hx5.from_ hN23;have hlt23:=hx5n.lt;replace hk1:=hk1.from_ ai.rfl_;replace hk2:=hk2.from_ ai.rfl_;have hf4n:=hf4.from_ hN23;refine aC gv (jh Sn Sc s.sent _ (IR.from_ hrd.n (((((((hB1.only O1_0 hg3).next E11).only O2_0 (hg3)).next E15).only O3_0 (hg3)).next E19).only O4_0 (hg3))) hl4) ?_;rintro v23 w13 ⟨⟨A23,c23,rfl,ho23⟩,E23⟩;obtain ⟨tag5,hf5,ht5⟩:∃ t,bm w13 t ({ s with es:=s.es,votes:=s.votes,next:=s.next,mtch:=s.mtch,sent:=s.sent,reads:=[] }:Rf) (⟨A7,c7,A11,c11,A15,c15,A19,c19,A23,c23,none,0,[]⟩:Ra)∧(∀ k,k≤b3→t k=8):=⟨_,cN.sent (bm.but (c:=4) hf4n (ai.toChg E23)) rfl (er ho23 (Nat.zero_le _)) (fun k hk=>dH (ee ho23 k hk).1),fun k hk=>(cA (by omega)).trans (ht4 k hk)⟩;replace hx5n:=hx5n.from_ E23;replace hk1:=hk1.from_ E23;replace hk2:=hk2.from_ E23;refine ab (aa ct rfl) ?_;have hS5:ai _ w13:=ai.rfl_;refine cQ (s':=s) (a':=(⟨A7,c7,A11,c11,A15,c15,A19,c19,A23,c23,Q,Qc,LL⟩:Ra)) (v:=.slice _ _ _) cV rfl rfl rfl ((hx5n.from_ hS5)) (by exact ⟨by decide,rfl⟩) ?_;intro w14 O5_0 P5_0;have hx6:Blk w14 b3 29 (rfV s (⟨A7,c7,A11,c11,A15,c15,A19,c19,A23,c23,Q,Qc,LL⟩:Ra)++[]).toArray:=P5_0;replace hf5:=(hf5.from_ hS5).chg8 (O5_0.toChg rfl) (ht5 b3 (Nat.le_refl _));replace hk1:=(hk1.from_ hS5).only O5_0 h13;replace hk2:=(hk2.from_ hS5).only O5_0 h23;refine ak (ag (an (af (ab (aa bH rfl) (ab (au du rfl (by exact (show _=some (Value.slice Q LL.length Qc) from (hk1.from_ ai.rfl_).rd 19 rfl))) ?_)))));have hN27:ai _ w14:=ai.rfl_;have hx6n:=hx6.from_ hN27;have hlt27:=hx6n.lt;replace hk1:=hk1.from_ ai.rfl_;replace hk2:=hk2.from_ ai.rfl_;have hf5n:=bm.but (c:=5) (hf5.from_ hN27) ai.rfl_.toChg;refine aC uH (qL ({ s with es:=s.es,votes:=s.votes,next:=s.next,mtch:=s.mtch,sent:=s.sent,reads:=[] }:Rf) (⟨A7,c7,A11,c11,A15,c15,A19,c19,A23,c23,none,0,[]⟩:Ra) _ Q Qc LL _ hf5n rfl (hrq.from_ (((((((((hB1.only O1_0 hg3).next E11).only O2_0 (hg3)).next E15).only O3_0 (hg3)).next E19).only O4_0 (hg3)).next E23).only O5_0 (hg3))) (fun x hx=>(hrk x hx).from_ (((((((((hB1.only O1_0 hg3).next E11).only O2_0 (hg3)).next E15).only O3_0 (hg3)).next E19).only O4_0 (hg3)).next E23).only O5_0 (hg3))) (fun x hx=>hl6 _ (by rw [←hrL];exact List.mem_map_of_mem hx)) hqm) ?_;rintro v27 w15 ⟨⟨tag6,A27,c27,N,rfl,hNe,hg6,ht6a,hc6,hr6⟩,E27⟩;have ht6:∀ k,k≤b3→tag6 k=8:=fun k hk=>(ht6a k (by omega)).trans ((cA (by omega)).trans (ht5 k hk))
 replace hx6n:=hx6n.from_ E27;replace hk2:=hk2.from_ E27;have hfin:=cN.reads hg6 (A:=A27) (c:=c27) (n:=LL.length) (by have h9:=congrArg List.length hNe;rw [List.length_map,List.length_map] at h9;exact h9.symm) hr6 hc6;rw [show ({ (⟨A7,c7,A11,c11,A15,c15,A19,c19,A23,c23,none,0,[]⟩:Ra) with L:=N }:Ra).L=N from rfl,hNe,hrL] at hfin;refine ab (aa bH rfl) ?_;have hS6:ai _ w15:=ai.rfl_;refine cQ (s':=s) (a':=(⟨A7,c7,A11,c11,A15,c15,A19,c19,A23,c23,A27,c27,LL⟩:Ra)) (v:=.slice _ _ _) jj rfl rfl rfl ((hx6n.from_ hS6)) (by exact ⟨by decide,rfl⟩) ?_;intro w16 O6_0 P6_0;have hx7:Blk w16 b3 29 (rfV s (⟨A7,c7,A11,c11,A15,c15,A19,c19,A23,c23,A27,c27,LL⟩:Ra)++[]).toArray:=P6_0;replace hfin:=(hfin.from_ hS6).chg8 (O6_0.toChg rfl) (ht6 b3 (Nat.le_refl _));replace hk2:=(hk2.from_ hS6).only O6_0 h23;refine ak (ag (an (af (ab (aK (cs:=rfV s (⟨A7,c7,A11,c11,A15,c15,A19,c19,A23,c23,A27,c27,LL⟩:Ra)) aS aJ rfl (mN (hx7.from_ ai.rfl_))) ?_))));have hM8:ai _ w16:=ai.rfl_;refine cq (vs:=[_,_,_,_,_,_,_,_,_,_,_,_,_,_,_,_,_,_,_,_,_,_]) aJ rfl rfl (by simp [Value.oneCell']) ((hk2.from_ ai.rfl_)) rfl ?_;intro w17 O8 P8;refine ak (ag (aE (lW rfl (dY (cs:=[_,_,_,_,_,_,_,_,_,_,_,_,_,_,_,_,_,_,_,_,_,_]) aS aJ rfl (by exact P8.whole)) ?_)));refine ⟨⟨tag6,(⟨A7,c7,A11,c11,A15,c15,A19,c19,A23,c23,A27,c27,N⟩:Ra),?_,(hfin.from_ hM8).chg8 (O8.toChg rfl) (ht6 b2 (by omega)),fun k hk=>ht6 k (by omega)⟩,((((((((((((hB1.only O1_0 hg3).next E11).only O2_0 (hg3)).next E15).only O3_0 (hg3)).next E19).only O4_0 (hg3)).next E23).only O5_0 (hg3)).next E27).only O6_0 (hg3)).only O8 (hg2))⟩;show Value.agg (rfV s (⟨A7,c7,A11,c11,A15,c15,A19,c19,A23,c23,A27,c27,LL⟩:Ra)).toArray=Value.agg (rfV s (⟨A7,c7,A11,c11,A15,c15,A19,c19,A23,c23,A27,c27,N⟩:Ra)).toArray;have h9:=congrArg List.length hNe;rw [List.length_map,List.length_map] at h9;unfold rfV;simp only [h9]
end Go.Proofs.YtkpooenofjdpmaaGreat
