/- texts that the claim stands on. -/
import Derived.Test.YtkpooenofjdpmaaGreatSlRfLawT4

set_option maxRecDepth 100000
set_option maxHeartbeats 4000000
namespace Go.Proofs.YtkpooenofjdpmaaGreat
open Go.Proofs.Tryz (prog)
open Go.RowKit
open Go.ChangeShapes Go.WideShapes Go.ChangeAt
theorem oA:ec prog 22=some 1:=by kernel_rfl
theorem rI:aV prog 124=true:=by kernel_rfl
theorem oC:∀ (a0:Int) (a1:Int),prog.built 99 [(0,.int .i64 a0),(1,.int .i64 a1)]=some #[.int .i64 a0,.int .i64 a1,.string ⟨#[]⟩]:=by intros;kernel_rfl
theorem oB:aV prog 67=true:=by kernel_rfl
theorem sL:aV prog 74=true:=by kernel_rfl
theorem pQ (k:Nat) (v:Int):(List.replicate k v).map iV++[iV v]=(List.replicate (k+1) v).map iV:=by rw [List.replicate_succ',List.map_append];rfl
theorem nK {w:World} {A:Option Addr} {c k n:Nat} {v:Int} {xs:List Int} (h:w.ownsRow 0 3 1 (.slice A n c) n (xs.map iV)) (hx:xs=List.replicate k v) (hn:n=xs.length):w.ownsRow 0 3 1 (.slice A k c) k ((List.replicate k v).map iV):=by
 subst hx;rw [List.length_replicate] at hn;subst hn;exact h
theorem pZ {w1 w:World} {A A':Option Addr} (hL:A'.map (·.block)=A.map (·.block)∨A'.map (·.block)=some w1.heap.size) (hz:w.heap.size≤w1.heap.size):∀ k,A'.map (·.block)=some k→A.map (·.block)=some k∨w.heap.size≤k:=fun k hk=>by
 rcases hL with e | e
 ·exact .inl (e ▸ hk)
 ·rw [e] at hk;cases hk;exact .inr hz
theorem tS (w0:World) (Z:Nat→Prop) (T g:Nat) (p:Sp) (w:World) (h:bn w0 Z w T g p) (hF:RfF p.s) (hl:p.out.length≤700) :
 Rt prog 108 [.pointer (some ⟨g,0,none⟩)] w (fun v w'=>v=.tuple #[]∧bn w0 Z w' T g (jL p)):=by
 obtain ⟨s,out⟩:=p;obtain ⟨tag,a,O,oc,L,hs⟩:=h.ex;obtain ⟨E,Ec,V,Vc,X,Xc,M,Mc,Sn,Sc,Q,Qc,LL⟩:=a;have hb:Blk w g T (rfV s (⟨E,Ec,V,Vc,X,Xc,M,Mc,Sn,Sc,Q,Qc,LL⟩:Ra)++[Value.slice O L.length oc]).toArray:=hs.b
 have hll:L.length=out.length:=by
  have h9:=congrArg List.length hs.m.l;rw [List.length_map] at h9;exact h9
 have hF:RfF s:=hF;have hl:out.length≤700:=hl;have hbl:=hF.last;have hlb:dh s.b s.es=a_ s:=rfl;have he:cK w (.slice E s.es.length Ec) s.es:=hs.f.rd.e;have hnn:=hF.n;have hid:=hF.i;have hzw:=h.zw;obtain ⟨n,hn0⟩:∃ n,n=s.nodes.toNat:=⟨_,rfl⟩;have hn:s.nodes=((n:Nat):Int):=by omega
 have hcell:∀ {w1:World} {q:Sp},bn w0 Z w1 T g q→q.s.nodes=s.nodes→∀ w9,ai w1 w9→w9.cell? ⟨g,1,none⟩=some (.int .i64 (n:Nat)):=fun {w1 q} hq he w9 h9=>by
  obtain ⟨tg,a,O,oc,L,hs⟩:=hq.ex;have h1:=cr (hs.b.from_ h9) 1 rfl;rw [he,hn] at h1;exact h1
 refine enter (n:=117) Tryz.func108 rfl rfl rfl (an (ag (mvp rfl (aA kM (nB T g s _ _ _ (hb.from_ ai.rfl_) (he.from_ ai.rfl_) hF.lg) ?_))));rintro v7 w1 ⟨rfl,E7⟩;refine mvt rfl (aa (aN rfl rfl) (aa (aN rfl rfl) (asi rfl (asi rfl (ak (ah (an (an (ag (mvp rfl (aa (aw rfl) (aa (ae aK rfl) ?_))))))))))));refine aa (ae bk rfl) (aa (ae bt rfl) (aa (ar bD rfl (by exact (show _=some (Value.slice E s.es.length Ec) from cr (hb.from_ (ai.rfl_.next E7)) 8 rfl))) ?_));refine aa (bu dt rfl) (aa (bB rfl rfl) (mvb rfl (yo (t:=18) rfl (fun Q2=>?_) (fun Q2=>?_))))
 ·refine ab rfl rfl (ab rfl rfl (aa (aq (v:=.bool _) rfl rfl) (ak (ah (aL rfl (an (ag (mvp rfl (mvp rfl (aa (aw rfl) ?_))))))))));refine aa (ae aK rfl) (aa (ae cl rfl) (aa (ar ao rfl (by exact (show _=some (Value.int .i64 s.term) from cr (hb.from_ (ai.rfl_.next E7)) 3 rfl))) ?_));refine aA rI (vu w0 Z T g ⟨s,out⟩ _ (h.from_ (ai.rfl_.next E7)) s.term) ?_;rintro v28 w3 ⟨rfl,h28⟩;refine ak (ah (aD (aC (eX rfl ?_))))
  have h8t:fq s=true:=by
   unfold fq;simp only [Bool.or_eq_true,decide_eq_true_eq];omega
  unfold jL;rw [if_pos h8t];exact ⟨rfl,h28.from_ (ai.rfl_ (a:=w3))⟩
 refine af rfl (mvi rfl (af rfl (aa (bB rfl rfl) (aa (ay (v:=.bool _) rfl rfl) (ak (ah (yS rfl (fun Q4=>?_) (fun Q4=>?_))))))))
 ·have h8t:fq s=true:=by
   unfold fq;simp only [Bool.or_eq_true,decide_eq_true_eq];omega
  exfalso;omega
 have h8:fq s=false:=by
  unfold fq;simp only [Bool.or_eq_false_iff,decide_eq_false_iff_not];omega
 refine aO (ah (an (ag (mvp rfl (aA kO (oq w0 Z T g ⟨s,out⟩ _ (h.from_ (ai.rfl_.next E7))) ?_)))));rintro v30 w6 ⟨rfl,h4⟩;obtain ⟨tag4,a4,O4,oc4,L4,hs4⟩:=h4.ex;refine ak (ah (an (ag (mvp rfl (aa (aw rfl) (aa (ae aK rfl) (aa (ae cV rfl) ?_)))))));have hB4:ai _ w6:=(ai.rfl_ (a:=w6));refine cj (s':=({ dk s with role:=2 }:Rf)) (a':=a4) (v:=.int _ _) bp rfl rfl rfl ((hs4.b.from_ (ai.rfl_ (a:=w6)))) (by exact ⟨by decide,rfl⟩) ?_;intro w7 O4_0 P4_0;have hC4:Chg (fun k=>k=g) _ w7:=(ai.toChg hB4).only O4_0 rfl;refine ak (ah (an (ag (mvp rfl (mvp rfl (aa (aw rfl) (aa (ae aK rfl) (aa (ae cR rfl) (aa (ar ao rfl (by exact (show _=some (Value.int .i64 s.id) from cr (P4_0.from_ (ai.rfl_ (a:=w7))) 0 rfl))) ?_)))))))));refine aa (aw rfl) (aa (ae aK rfl) (aa (ae ed rfl) ?_));have hB5:ai _ w7:=(ai.rfl_ (a:=w7));refine cj (s':=({ dk s with role:=2,leader:=s.id }:Rf)) (a':=a4) (v:=.int _ _) bp rfl rfl rfl ((P4_0.from_ (ai.rfl_ (a:=w7)))) (by exact ⟨by decide,rfl⟩) ?_;intro w8 O5_0 P5_0;have hC5:=(hC4.next (ai.toChg hB5)).only O5_0 rfl;refine ak (ah (an (ag (mvp rfl (aa (aw rfl) (aa (ae aK rfl) (aa (ae cM rfl) ?_)))))));have hB6:ai _ w8:=(ai.rfl_ (a:=w8));refine cj (s':=({ dk s with role:=2,leader:=s.id,elapsed:=0 }:Rf)) (a':=a4) (v:=.int _ _) bp rfl rfl rfl ((P5_0.from_ (ai.rfl_ (a:=w8)))) (by exact ⟨by decide,rfl⟩) ?_;intro w9 O6_0 P6_0;have hC6:=(hC5.next (ai.toChg hB6)).only O6_0 rfl;have h6:=(h4.set (s':=({ dk s with role:=2,leader:=s.id,elapsed:=0 }:Rf)) (a':=a4) hs4 hC6 (aR.same hs4.f rfl rfl rfl rfl rfl rfl) P6_0).2;refine ak (ah (an (an (ag (asi rfl (ak (ah (aZ (ct (G:=Nat) [48,49,50,51,52,53,54,55,56,57,58,59,60,61,62,63,64,65,66,67,68,69,70,71,72,73,74,75,76,77,78,79,80,81,82,83,84,85,86,87,88,89,90,91] (fun k=>[(4,.int .i64 (k:Nat))]) (fun k w'=>k≤n∧bn w0 Z w' T g (⟨{ dk s with role:=2,leader:=s.id,elapsed:=0,next:=List.replicate k (a_ s+1),mtch:=List.replicate k 0,sent:=List.replicate k 0 },out⟩:Sp)∧(∀ w9,ai w' w9→w9.cell? ⟨g,1,none⟩=some (.int .i64 (n:Nat)))) (fun k=>n-k) (0) ⟨rfl,trivial⟩ ?_ ?_)))))))))
 ·exact ⟨Nat.zero_le _,h6.from_ (ai.rfl_ (a:=w9)),hcell h6 rfl⟩
 rintro k ρ10 w10 ⟨hk,h10,hn8⟩;refine an (an (ag (mvi rfl (mvp rfl (aa (aw rfl) (aa (ae aK rfl) (aa (ae bA rfl) (aa (ar ao rfl (by exact hn8 _ ai.rfl_)) ?_))))))));refine aa (bU rfl rfl) (ak (ah (yS rfl (fun Q11=>?_) (fun Q11=>?_))))
 ·refine aO (ah (an (aZ (an (ag ?_)))));obtain ⟨tg10,a10,O10,oc10,L10,hs10⟩:=h10.ex
  have hw10:∀ w9,ai w10 w9→w9.cell? ⟨g,15,none⟩=some (.slice a10.X k a10.Xc):=fun w9 hF9=>by
   have h9:=cr (hs10.b.from_ hF9) 15 rfl;rw [show ((⟨{ dk s with role:=2,leader:=s.id,elapsed:=0,next:=List.replicate k (a_ s+1),mtch:=List.replicate k 0,sent:=List.replicate k 0 },out⟩:Sp)).s.next.length=k from List.length_replicate] at h9;exact h9
  have hr10:=nK (k:=k) (hs10.f.x (by decide)).1 rfl rfl;refine mvp rfl (mvp rfl (aa (aw rfl) (aa (ae aK rfl) (aa (ae bN rfl) (aa (ar aP rfl (by exact hw10 _ ai.rfl_)) ?_)))));refine mvi rfl (aa (bE rfl rfl (by omega)) (eJ (v:=.int _ _) aX rfl rfl rfl ?_));intro b65 w12 E65 hb65 hk65;have hB10:ai _ w12:=(ai.rfl_.next E65);refine fv (news:=[iV (a_ s+1)]) aX rfl (by decide) rfl (hr10.kept_from (ai.rfl_.next E65)) (Nat.zero_le _) rfl rfl ⟨b65,0,rfl,hk65.whole⟩ (by simp [iV,Value.oneCell']) (by omega) (by omega) ?_;intro A66 c66 w13 ho66 hg66 hL66;rw [pQ] at ho66;have hC10:Chg (fun q=>tg10 q=2) _ w13:=(ai.toChg hB10).next (Chg.of_grown hg66 fun q hq=>(hs10.f.x (by decide)).2 q hq);have hf10:=bF.next (aR.but (c:=2) hs10.f hC10) (l:=List.replicate (k+1) (a_ s+1)) List.length_replicate.symm ho66 ((hs10.f.x (by decide)).2.new (cU (hs10.f.x (by decide)).1) (pZ hL66 hB10.size));have hb10:=hs10.b.chg hC10 (fun e=>by have h8:=hs10.gc;rw [e] at h8;cases h8);refine aa (aw rfl) (aa (ae aK rfl) (aa (ae bN rfl) ?_));have hD10:ai _ w13:=(ai.rfl_ (a:=w13));refine cj (s':=(⟨{ dk s with role:=2,leader:=s.id,elapsed:=0,next:=List.replicate (k+1) (a_ s+1),mtch:=List.replicate k 0,sent:=List.replicate k 0 },out⟩:Sp).s) (a':={ a10 with X:=A66,Xc:=c66 }) cH rfl rfl rfl (hb10.from_ (ai.rfl_ (a:=w13))) ⟨by decide,by unfold rfV;simp only [List.length_replicate];rfl⟩ ?_;intro w14 Os10 Ps10;have h11:=(h10.put (s':=(⟨{ dk s with role:=2,leader:=s.id,elapsed:=0,next:=List.replicate (k+1) (a_ s+1),mtch:=List.replicate k 0,sent:=List.replicate k 0 },out⟩:Sp).s) (a':={ a10 with X:=A66,Xc:=c66 }) hs10 hC10 (.inl (by decide)) hf10 ((ai.toChg hD10).only Os10 rfl) Ps10).2;refine ak (ah (an (ag ?_)));obtain ⟨tg11,a11,O11,oc11,L11,hs11⟩:=h11.ex
  have hw11:∀ w9,ai w14 w9→w9.cell? ⟨g,16,none⟩=some (.slice a11.M k a11.Mc):=fun w9 hF9=>by
   have h9:=cr (hs11.b.from_ hF9) 16 rfl;rw [show ((⟨{ dk s with role:=2,leader:=s.id,elapsed:=0,next:=List.replicate (k+1) (a_ s+1),mtch:=List.replicate k 0,sent:=List.replicate k 0 },out⟩:Sp)).s.mtch.length=k from List.length_replicate] at h9;exact h9
  have hr11:=nK (k:=k) (hs11.f.m (by decide)).1 rfl rfl;refine mvp rfl (mvp rfl (aa (aw rfl) (aa (ae aK rfl) (aa (ae bX rfl) (aa (ar aP rfl (by exact hw11 _ (ai.rfl_ (a:=w14)))) ?_)))));refine eJ (v:=.int _ _) aX rfl rfl rfl ?_;intro b76 w15 E76 hb76 hk76;have hB11:ai _ w15:=((ai.rfl_ (a:=w14)).next E76);refine fv (news:=[iV 0]) aX rfl (by decide) rfl (hr11.kept_from ((ai.rfl_ (a:=w14)).next E76)) (Nat.zero_le _) rfl rfl ⟨b76,0,rfl,hk76.whole⟩ (by simp [iV,Value.oneCell']) (by omega) (by omega) ?_;intro A77 c77 w16 ho77 hg77 hL77;rw [pQ] at ho77;have hC11:Chg (fun q=>tg11 q=3) _ w16:=(ai.toChg hB11).next (Chg.of_grown hg77 fun q hq=>(hs11.f.m (by decide)).2 q hq);have hf11:=bF.mtch (aR.but (c:=3) hs11.f hC11) (l:=List.replicate (k+1) 0) List.length_replicate.symm ho77 ((hs11.f.m (by decide)).2.new (cU (hs11.f.m (by decide)).1) (pZ hL77 hB11.size));have hb11:=hs11.b.chg hC11 (fun e=>by have h8:=hs11.gc;rw [e] at h8;cases h8);refine aa (aw rfl) (aa (ae aK rfl) (aa (ae bX rfl) ?_));have hD11:ai _ w16:=(ai.rfl_ (a:=w16));refine cj (s':=(⟨{ dk s with role:=2,leader:=s.id,elapsed:=0,next:=List.replicate (k+1) (a_ s+1),mtch:=List.replicate (k+1) 0,sent:=List.replicate k 0 },out⟩:Sp).s) (a':={ a11 with M:=A77,Mc:=c77 }) cH rfl rfl rfl (hb11.from_ (ai.rfl_ (a:=w16))) ⟨by decide,by unfold rfV;simp only [List.length_replicate];rfl⟩ ?_;intro w17 Os11 Ps11;have h12:=(h11.put (s':=(⟨{ dk s with role:=2,leader:=s.id,elapsed:=0,next:=List.replicate (k+1) (a_ s+1),mtch:=List.replicate (k+1) 0,sent:=List.replicate k 0 },out⟩:Sp).s) (a':={ a11 with M:=A77,Mc:=c77 }) hs11 hC11 (.inl (by decide)) hf11 ((ai.toChg hD11).only Os11 rfl) Ps11).2;refine ak (ah (ag ?_));obtain ⟨tg12,a12,O12,oc12,L12,hs12⟩:=h12.ex
  have hw12:∀ w9,ai w17 w9→w9.cell? ⟨g,17,none⟩=some (.slice a12.S k a12.Sc):=fun w9 hF9=>by
   have h9:=cr (hs12.b.from_ hF9) 17 rfl;rw [show ((⟨{ dk s with role:=2,leader:=s.id,elapsed:=0,next:=List.replicate (k+1) (a_ s+1),mtch:=List.replicate (k+1) 0,sent:=List.replicate k 0 },out⟩:Sp)).s.sent.length=k from List.length_replicate] at h9;exact h9
  have hr12:=nK (k:=k) (hs12.f.n (by decide)).1 rfl rfl;refine mvp rfl (mvp rfl (aa (aw rfl) (aa (ae aK rfl) (aa (ae bS rfl) (aa (ar aP rfl (by exact hw12 _ (ai.rfl_ (a:=w17)))) ?_)))));refine eJ (v:=.int _ _) aX rfl rfl rfl ?_;intro b87 w18 E87 hb87 hk87;have hB12:ai _ w18:=((ai.rfl_ (a:=w17)).next E87);refine fv (news:=[iV 0]) aX rfl (by decide) rfl (hr12.kept_from ((ai.rfl_ (a:=w17)).next E87)) (Nat.zero_le _) rfl rfl ⟨b87,0,rfl,hk87.whole⟩ (by simp [iV,Value.oneCell']) (by omega) (by omega) ?_;intro A88 c88 w19 ho88 hg88 hL88;rw [pQ] at ho88;have hC12:Chg (fun q=>tg12 q=4) _ w19:=(ai.toChg hB12).next (Chg.of_grown hg88 fun q hq=>(hs12.f.n (by decide)).2 q hq);have hf12:=bF.sent (aR.but (c:=4) hs12.f hC12) (l:=List.replicate (k+1) 0) List.length_replicate.symm ho88 ((hs12.f.n (by decide)).2.new (cU (hs12.f.n (by decide)).1) (pZ hL88 hB12.size));have hb12:=hs12.b.chg hC12 (fun e=>by have h8:=hs12.gc;rw [e] at h8;cases h8);refine aa (aw rfl) (aa (ae aK rfl) (aa (ae bS rfl) ?_));have hD12:ai _ w19:=(ai.rfl_ (a:=w19));refine cj (s':=(⟨{ dk s with role:=2,leader:=s.id,elapsed:=0,next:=List.replicate (k+1) (a_ s+1),mtch:=List.replicate (k+1) 0,sent:=List.replicate (k+1) 0 },out⟩:Sp).s) (a':={ a12 with S:=A88,Sc:=c88 }) cH rfl rfl rfl (hb12.from_ (ai.rfl_ (a:=w19))) ⟨by decide,by unfold rfV;simp only [List.length_replicate];rfl⟩ ?_;intro w20 Os12 Ps12;have h13:=(h12.put (s':=(⟨{ dk s with role:=2,leader:=s.id,elapsed:=0,next:=List.replicate (k+1) (a_ s+1),mtch:=List.replicate (k+1) 0,sent:=List.replicate (k+1) 0 },out⟩:Sp).s) (a':={ a12 with S:=A88,Sc:=c88 }) hs12 hC12 (.inl (by decide)) hf12 ((ai.toChg hD12).only Os12 rfl) Ps12).2;refine ak (bH (ah (ag (mvi rfl (aa (cT (b:=1) rfl rfl (by omega)) (asi rfl (ak ?_)))))));refine cG (k+1) ⟨(by first | rfl | (refine br ?_;omega)),trivial⟩ (by (iterate 90 refine bQ rfl ?_);exact cf) ⟨?_,?_⟩
  ·exact ⟨by omega,h13.from_ (ai.rfl_ (a:=w20)),fun w9 h9=>hcell h13 rfl _ (((ai.rfl_ (a:=w20))).next h9)⟩
  ·omega
 have hkn:k=n:=by omega
 rw [hkn,hn0] at h10;have h10:bn w0 Z _ T g ⟨(db s),out⟩:=h10;obtain ⟨tag9,a9,O9,oc9,L9,hs9⟩:=h10.ex;have hr13:(w10).ownsRow 0 99 3 (.slice a9.E s.es.length a9.Ec) s.es.length (dX s.es):=(hs9.f.e (by decide)).1;refine cd (bd (bd (bL (ah (an ?_)))));apply sC 17 16 [107] [(92,eqp _),(93,eqp _),(94,eqp _),(95,eqp _),(96,eqp _),(97,eqp _),(98,eqp (.slice a9.E s.es.length a9.Ec)),(99,eqp _),(100,eqp _),(101,eqp _),(102,eqp _),(103,eqp _),(104,eqp _),(105,eqp (.int .i64 s.term)),(106,eqp (.agg #[.int .i64 (a_ s+1),.int .i64 s.term,.string ⟨#[]⟩])),(107,fun v w'=>∃ q,v=.slice (some ⟨q,0,none⟩) 1 1∧Blk w' q 99 #[.int .i64 (a_ s+1),.int .i64 s.term,.string ⟨#[]⟩]),(108,fun (v:Value) (w':World)=>∃ (A2:Option Addr) (c2:Nat),v=Value.slice A2 (s.es.length+1) c2∧w'.ownsRow 0 99 3 (.slice A2 (s.es.length+1) c2) (s.es.length+1) (dX (ef (db s) ⟨#[]⟩).es)∧(∀ k,A2.map (·.block)=some k→a9.E.map (·.block)=some k∨(w10).heap.size≤k))] (fun w'=>ai w10 w') (fun w'=>(w10).grownBy w' (a9.E.map (·.block))) (by repeat first | exact ep | refine en ?_ | refine dS ?_) (by kernel_rfl) (by kernel_rfl) (by kernel_rfl) ⟨av _,av _,av _,av _,av _,av _,av _,av _,av _,av _,av _,av _,av _,av _,av _,(fun _ _ _ hF ⟨q,h1,h2⟩=>⟨q,h1,h2.from_ hF⟩),(fun _ _ _ hF ⟨A2,c2,h1,h2,h3⟩=>⟨A2,c2,h1,h2.kept_from hF,h3⟩),trivial⟩ (ai.rfl_.d1) (ai.rfl_.d1.grown _) (fun _ _ hF h=>h.next hF) (fun _ _ hF h=>eg h (hF.grown _))
 case hop=>
  constructor
  ·rintro-w22 hG22;exact az (aM (v:=.pointer _) rfl) rfl
  constructor
  ·rintro-w23 hG23;exact az (aM (v:=.pointer _) rfl) rfl
  constructor
  ·rintro-w24 hG24;rintro _ rfl;exact az (aw rfl) rfl
  constructor
  ·rintro-w25 D25;rintro _ rfl;exact az (ae aK rfl) rfl
  constructor
  ·rintro-w26 D26;rintro _ rfl;exact az (ae bk rfl) rfl
  constructor
  ·rintro-w27 D27;rintro _ rfl;exact az (ae bt rfl) rfl
  constructor
  ·rintro-w28 D28;rintro _ rfl;exact az (ar bD rfl (show _=some (Value.slice a9.E s.es.length a9.Ec) from cr (hs9.b.from_ D28) 8 rfl)) rfl
  constructor
  ·rintro-w29 D29;exact az (aM (v:=.int _ _) rfl) rfl
  constructor
  ·rintro-w30 D30;rintro _ rfl;exact az (bE rfl rfl (by omega)) rfl
  constructor
  ·rintro-w31 hG31;exact az (aM (v:=.pointer _) rfl) rfl
  constructor
  ·rintro-w32 hG32;rintro _ rfl;exact az (aw rfl) rfl
  constructor
  ·rintro-w33 hG33;rintro _ rfl;exact az (ae aK rfl) rfl
  constructor
  ·rintro-w34 D34;rintro _ rfl;exact az (ae cl rfl) rfl
  constructor
  ·rintro-w35 D35;rintro _ rfl;exact az (ar ao rfl (show _=some (Value.int .i64 s.term) from cr (hs9.b.from_ D35) 3 rfl)) rfl
  constructor
  ·rintro-w36 D36;rintro _ rfl v36_105 rfl;exact az (cp (l:=[(0,.tmp 100),(1,.tmp 105)]) (oC _ _)) rfl
  constructor
  ·rintro-w37 D37;rintro v37_106 rfl;exact lS (ny (l:=[(0,.tmp 106)]) (cells:=#[.int .i64 (a_ s+1),.int .i64 s.term,.string ⟨#[]⟩]) iO rfl rfl (by show Instr.fill _ _ [(0,Value.agg #[.int .i64 (a_ s+1),.int .i64 s.term,.string ⟨#[]⟩])]=_;kernel_rfl)) (ai.rfl_.new _) ⟨_,rfl,Blk.new _ _ _⟩
  constructor
  ·intro h;cases h
  exact trivial
 case hmu=>
  rintro w39 D39;rintro v39_98 rfl v39_107 ⟨q39,rfl,hq39⟩;show sZ ..;refine kI (news:=[Value.int .i64 (a_ s+1),.int .i64 s.term,.string ⟨#[]⟩]) iO rfl (by decide) rfl (hr13.kept_from D39) (Nat.zero_le _) rfl rfl ⟨_,_,rfl,hq39.whole⟩ (by simp [Value.oneCell']) (by omega) (by omega) ?_;intro A3 c3 w3 ho3 hg3 hl3;exact ⟨eg (D39.grown _) hg3,⟨A3,c3,rfl,by rw [show (ef (db s) ⟨#[]⟩).es=s.es++[⟨a_ s+1,s.term,⟨#[]⟩⟩] from rfl,mn];exact ho3,fun k hk=>(hl3 k hk).imp id fun e=>Nat.le_trans D39.size e⟩,fun t u ht h=>lj (by repeat first | exact trivial | refine ⟨.inl rfl,?_⟩ | refine ⟨.inr (fun _ h=>h),?_⟩) t u ht h⟩
 case hend=>
  rintro w40 hG40;rintro _ rfl _ rfl _ rfl _ rfl _ rfl _ rfl v98 rfl _ rfl _ rfl _ rfl _ rfl _ rfl _ rfl v105 rfl v106 rfl v107 _ v108 ⟨A108,c108,rfl,ho108,hL108⟩;show St ..;have hgD:=hG40;have hC9:Chg (fun q=>tag9 q=0) _ w40:=Chg.of_grown hgD (fun q hq=>(hs9.f.e (by decide)).2 q hq);have hb9:=hs9.b.chg hC9 (fun e=>by have h8:=hs9.gc;rw [e] at h8;cases h8);have hf9:=bF.log (aR.but (c:=0) hs9.f hC9) s.b s.t (l:=(ef (db s) ⟨#[]⟩).es) (by show _=(s.es++[_]).length;rw [List.length_append];rfl) ho108 ((hs9.f.e (by decide)).2.new (cU (hs9.f.e (by decide)).1) hL108);refine aa (aw rfl) (aa (ae aK rfl) (aa (ae bk rfl) (aa (ae bt rfl) ?_)));refine cj (s':=ef (db s) ⟨#[]⟩) (a':={ a9 with E:=A108,Ec:=c108 }) oA rfl rfl rfl hb9 ⟨by decide,by unfold rfV ef;simp only [List.length_append,List.length_singleton];rfl⟩ ?_;intro w41 O13 P13;have h9:=(h10.put (s':=ef (db s) ⟨#[]⟩) (a':={ a9 with E:=A108,Ec:=c108 }) hs9 hC9 (.inl (by decide)) hf9 (O13.toChg rfl) P13).2;refine ak (ah (an (ag (mvp rfl (aA oB (tc w0 Z T g ⟨ef (db s) ⟨#[]⟩,out⟩ _ (h9.from_ (ai.rfl_ (a:=w41))) (hF.lead h8) rfl (show out.length≤800 by omega)) ?_)))));rintro v114 w42 ⟨rfl,h14⟩;refine ak (ah (ag (mvp rfl ?_)))
  have h15:bn w0 Z w42 T g ⟨ef (db s) ⟨#[]⟩,((⟨ef (db s) ⟨#[]⟩,out⟩:Sp).all).out⟩:=by
   have e9:(⟨ef (db s) ⟨#[]⟩,out⟩:Sp).all=⟨ef (db s) ⟨#[]⟩,((⟨ef (db s) ⟨#[]⟩,out⟩:Sp).all).out⟩:=by rw [jD]
   rw [←e9];exact h14.from_ (ai.rfl_ (a:=w42))
  obtain ⟨tag15,a15,O15,oc15,L15,hs15⟩:=h15.ex;refine aA sL (r9 w0 Z T g (ef (db s) ⟨#[]⟩) ((⟨ef (db s) ⟨#[]⟩,out⟩:Sp).all).out _ (h15.from_ (ai.rfl_ (a:=w42))) _ _ _ _ _ (hs15.from_ (ai.rfl_ (a:=w42))) (hF.lead h8) rfl) ?_;rintro v116 w43 ⟨rfl,h16,_⟩;refine ak (df (eX rfl ?_));unfold jL;rw [if_neg (by show ¬ fq s=true;rw [h8];decide)];refine ⟨rfl,?_⟩;show bn w0 Z _ T g ⟨cA (Sp.all ⟨ef (db s) ⟨#[]⟩,out⟩).s,(Sp.all ⟨ef (db s) ⟨#[]⟩,out⟩).out⟩;rw [show (Sp.all ⟨ef (db s) ⟨#[]⟩,out⟩).s=ef (db s) ⟨#[]⟩ by rw [jD]];exact h16.from_ (ai.rfl_ (a:=w43))
def cg (lo hi:Int) (xs:List Int):Prop:=∀ x∈xs,lo≤x∧x≤hi
instance (lo hi:Int) (xs:List Int):Decidable (cg lo hi xs):=by unfold cg;exact inferInstance
theorem bT {lo hi:Int}:cg lo hi []↔True:=by simp [cg]
theorem bG {lo hi x:Int} {l:List Int}:cg lo hi (x::l)↔(lo≤x∧x≤hi)∧cg lo hi l:=by simp [cg]
theorem sG {lo hi x:Int} {l:List Int}:cg lo hi (l++[x])↔cg lo hi l∧(lo≤x∧x≤hi):=by
 simp only [cg,List.mem_append,List.mem_singleton];exact ⟨fun h=>⟨fun y hy=>h y (.inl hy),h x (.inr rfl)⟩,fun h y hy=>hy.elim (h.1 y) (fun e=>e ▸ h.2)⟩
theorem ya (d:ByteArray):(d.toList==(⟨#[]⟩:ByteArray).toList)=decide (d.size=0):=by
 obtain ⟨⟨l⟩⟩:=d;rw [ByteArray.toList_eq,ByteArray.toList_eq];cases l with
 |nil=>rfl
 |cons a r=>rfl
def ExR (k ix lt cm rd:Int) (ok:Bool) (n:Nat) (a:Int) (d:ByteArray) (dn:Bool):Prop:=
 if k=1 then cm=0∧rd=0∧ok.toNat=0∧n=0∧a=0∧d.size=0∧dn.toNat=0
 else if k=2 then ix=0∧lt=0∧cm=0∧rd=0∧n=0∧a=0∧d.size=0∧dn.toNat=0
 else if k=3 then ok.toNat=0∧a=0∧d.size=0∧dn.toNat=0
 else if k=4 then lt=0∧cm=0∧n=0∧a=0∧d.size=0∧dn.toNat=0
 else if k=5 then cm=0∧ok.toNat=0∧n=0
 else if k=6 then lt=0∧cm=0∧ok.toNat=0∧n=0∧d.size=0∧dn.toNat=0
 else ix=0∧lt=0∧cm=0∧rd=0∧ok.toNat=0∧n=0∧a=0∧d.size=0∧dn.toNat=0
instance (k ix lt cm rd:Int) (ok:Bool) (n:Nat) (a:Int) (d:ByteArray) (dn:Bool):Decidable (ExR k ix lt cm rd ok n a d dn):=by unfold ExR;exact inferInstance
def yh (k f t tm ix lt cm rd a:Int):Prop:=(1≤k∧k≤6)∧(1≤f∧f≤7)∧(1≤t∧t≤7)∧(0≤tm∧tm≤1099511627775)∧(0≤ix∧ix≤1099511627775)∧(0≤lt∧lt≤1099511627775)∧(0≤cm∧cm≤1099511627775)∧(0≤rd∧rd≤1099511627775)∧(0≤a∧a≤1099511627775)
instance (k f t tm ix lt cm rd a:Int):Decidable (yh k f t tm ix lt cm rd a):=by unfold yh;exact inferInstance
def yk (k ix lt:Int) (es:List Ent):Prop:=k=3→es.length≤16∧ff es ix lt=true
instance (k ix lt:Int) (es:List Ent):Decidable (yk k ix lt es):=by unfold yk;exact inferInstance
def yg (k ix a:Int) (d:ByteArray):Prop:=k=5→(1≤ix∧ix≤1099511625728)∧a≤524288∧d.size≤1024
instance (k ix a:Int) (d:ByteArray):Decidable (yg k ix a d):=by unfold yg;exact inferInstance
def OkR (k f t tm ix lt cm rd:Int) (ok:Bool) (es:List Ent) (a:Int) (d:ByteArray) (dn:Bool):Prop:=
 yh k f t tm ix lt cm rd a∧ExR k ix lt cm rd ok es.length a d dn∧yk k ix lt es∧yg k ix a d
instance (k f t tm ix lt cm rd:Int) (ok:Bool) (es:List Ent) (a:Int) (d:ByteArray) (dn:Bool):Decidable (OkR k f t tm ix lt cm rd ok es a d dn):=by unfold OkR;exact inferInstance
theorem dG:aV prog 53=true:=by kernel_rfl
theorem dH:iR prog 54=some true:=by kernel_rfl
theorem cD:ec prog 54=some 4:=by kernel_rfl
theorem bo:iR prog 27=some false:=by kernel_rfl
theorem bW:(gC prog 27).isSome=true:=by kernel_rfl
theorem de:gC prog 27=some (54,4):=by kernel_rfl
theorem fa:kx prog 54=some (.agg #[.int .i64 0,.int .i64 0,.int .i64 0,.slice none 0 0]):=by kernel_rfl
theorem d_:cL prog 54 0=some 0:=by kernel_rfl
theorem dZ:cL prog 54 1=some 1:=by kernel_rfl
theorem dY:cL prog 54 2=some 2:=by kernel_rfl
theorem cZ:cL prog 54 3=some 3:=by kernel_rfl
theorem lB:aV prog 133=true:=by kernel_rfl
theorem aB:iR prog 29=some true:=by kernel_rfl
theorem au:ec prog 29=some 22:=by kernel_rfl
theorem qs:aV prog 131=true:=by kernel_rfl
theorem qq:aV prog 132=true:=by kernel_rfl
theorem qp:aV prog 134=true:=by kernel_rfl
theorem qo:aV prog 135=true:=by kernel_rfl
def ir (s:Rf):Prop:=(1≤s.nodes∧s.nodes≤7)∧(1≤s.id∧s.id≤s.nodes)∧(0≤s.role∧s.role≤2)∧((0≤s.vote∧s.vote≤s.nodes)∧(0≤s.leader∧s.leader≤s.nodes))∧(0≤s.term∧s.term≤1099511627775)∧(0≤s.elapsed∧s.elapsed≤1099511627775)∧(0≤s.timeout∧s.timeout≤1099511627775)∧(0≤s.round∧s.round≤1099511627775)
instance (s:Rf):Decidable (ir s):=by unfold ir;exact inferInstance
def fW (s:Rf):Prop:=cB s.b s.t s.es=true∧dV s.t s.es≤s.term∧(s.b≤s.commit∧s.commit≤a_ s)∧s.snap.size≤524288∧(0<s.b∨s.snap.size=0)
instance (s:Rf):Decidable (fW s):=by unfold fW;exact inferInstance
def gF (s:Rf):Prop:=s.part.size≤524288∧(0≤s.partOf∧s.partOf≤1099511625728)∧(0<s.partOf∨s.part.size=0)
instance (s:Rf):Decidable (gF s):=by unfold gF;exact inferInstance
def kD (s:Rf):Prop:=if s.role=2 then ((s.next.length:Int)=s.nodes∧(s.mtch.length:Int)=s.nodes∧(s.sent.length:Int)=s.nodes∧s.reads.length≤32)∧(cg 1 (a_ s+1) s.next∧cg 0 (a_ s) s.mtch∧cg 0 s.snap.size s.sent)∧(∀ q∈s.reads,eY s q=true) else s.next.length+s.mtch.length+s.sent.length+s.reads.length=0
instance (s:Rf):Decidable (kD s):=by unfold kD;exact inferInstance
theorem yH (s:Rf) (E:Option Addr) (n c:Nat) (w:World) (h:cK w (.slice E n c) s.es):Rt prog 152 [.agg #[.int .i64 s.b,.int .i64 s.t,.slice E n c]] w fun v w'=>(∃ X Y Z:Int,v=.tuple #[.int .i64 X,.int .i64 Y,.int .i64 Z]∧((cB s.b s.t s.es=true∧Z=0∧X=a_ s∧Y=dV s.t s.es)∨(cB s.b s.t s.es=false∧Z=1)))∧ai w w':=
 (Rt.of (qW s.b s.t _ s.es w h)).mono fun v w' h=>by
  refine ⟨?_,h.2⟩;rw [h.1];unfold tj;cases hm:cB s.b s.t s.es with
  |true=>rw [if_pos rfl];exact ⟨_,_,_,rfl,.inl ⟨rfl,rfl,rfl,rfl⟩⟩
  |false=>rw [if_neg (by decide)];exact ⟨_,_,_,rfl,.inr ⟨rfl,rfl⟩⟩
theorem iF:∀ (l:List Int),gI l=true↔∀ j (h:j+1<l.length),l[j]<l[j+1]
 |[]=>⟨fun _ j h=>absurd h (by simp),fun _=>rfl⟩
 |[a]=>⟨fun _ j h=>absurd h (by simp),fun _=>rfl⟩
 |a::b::r=>by
  have ih:=iF (b::r);show (decide (a<b)&&gI (b::r))=true↔_;rw [Bool.and_eq_true,decide_eq_true_eq,ih];constructor
  ·rintro ⟨h1,h2⟩ j h;cases j with
   |zero=>exact h1
   |succ j=>exact h2 j (by simpa using h)
  ·intro h;exact ⟨h 0 (by simp),fun j hj=>h (j+1) (by simpa using hj)⟩
theorem gK {l:List Int} {n:Int}:fT l n=true↔cg 1 n l∧∀ j (h:j+1<l.length),l[j]<l[j+1]:=by
 unfold fT cg;rw [Bool.and_eq_true,iF,List.all_eq_true];simp only [Bool.and_eq_true,decide_eq_true_eq]
theorem eG (lo hi:Int) (A:Option Addr) (c:Nat) (xs:List Int) (w:World) (hr:eb iV w A xs) (hl:xs.length≤1000000) :
 Rt prog 53 [.int .i64 lo,.int .i64 hi,.slice A xs.length c] w (fun v w'=>v=.bool (decide (cg lo hi xs))∧w=w'):=by
 refine enter (n:=24) Tryz.func53 rfl rfl rfl (an (ag (asb rfl (ak (ah (an (an (ag (mvs rfl (aa (bu b_ rfl) (mvi rfl (ak (ah (aZ (ct (G:=Nat) [6,8,12,13,14,15,16,17,18,19,20,21,22,23] (fun k=>[(11,.int .i64 (k:Nat))]) (fun k w'=>k≤xs.length∧cg lo hi (xs.take k)∧w=w') (fun k=>xs.length-k) (0) ⟨rfl,trivial⟩ ?_ ?_)))))))))))))))
 ·exact ⟨Nat.zero_le _,bT.2 trivial,rfl⟩
 rintro k ρ1 w1 ⟨hk,ha,rfl⟩;refine an (ag (aa (bU rfl rfl) (ak (ah (an (yS rfl (fun Q2=>?_) (fun Q2=>?_)))))))
 ·have hkx:k<xs.length:=by omega
  obtain ⟨ba,oa,rfl,hca⟩:=hr (by omega);refine aO (ah (an (aZ (an (ag (aa (cF ch rfl rfl (by omega)) (aa (ar ao rfl (by exact hca k hkx)) ?_)))))));refine asi rfl (ak (ah (an (ag (mvi rfl (mvi rfl (aa (bU rfl rfl) (mvb rfl (yo (t:=18) rfl (fun Q3=>?_) (fun Q3=>?_))))))))))
  ·refine ab rfl rfl (ab rfl rfl (ab rfl rfl (aa (aq (v:=.bool _) rfl rfl) (ak (ah (aL rfl (an (ag (asb rfl (ak (ah (aD (bf (aC (aC (bf (aC ?_)))))))))))))))));refine bm (v:=.bool _) rfl rfl (⟨congrArg Value.bool ?_,rfl⟩);rw [eq_comm,decide_eq_false_iff_not];intro h;have:=h _ (List.getElem_mem hkx);omega
  refine af rfl (mvi rfl (af rfl (mvi rfl (af rfl (aa (b0 rfl rfl) (aa (ay (v:=.bool _) rfl rfl) (ak (ah (yS rfl (fun Q4=>?_) (fun Q4=>?_))))))))))
  ·refine an (ag (asb rfl (ak (ah (aD (bf (aC (aC (bf (aC (bm (v:=.bool _) rfl rfl (⟨congrArg Value.bool ?_,rfl⟩))))))))))));rw [eq_comm,decide_eq_false_iff_not];intro h;have:=h _ (List.getElem_mem hkx);omega
  refine aO (bH (ah (ag (aa (cT (b:=1) rfl rfl (by omega)) (mvi rfl (ak ?_))))));refine cG (k+1) ⟨(by first | rfl | (refine br ?_;omega)),trivial⟩ (by (iterate 30 refine bQ rfl ?_);exact cf) ⟨?_,?_⟩
  ·exact ⟨by omega,by rw [List.take_succ_eq_append_getElem hkx];exact sG.2 ⟨ha,by omega⟩,rfl⟩
  ·omega
 obtain rfl:k=xs.length:=by omega
 rw [List.take_length] at ha;refine cd (bd (bd (bL (ah (an (ag (asb rfl (ak (ah (aD (bm (v:=.bool _) rfl rfl (⟨congrArg Value.bool (decide_eq_true ha).symm,rfl⟩))))))))))))
theorem fI {w:World} {b:Nat} {xs:List Int} (h:Blk w b 3 (xs.map iV).toArray):eb iV w (some ⟨b,0,none⟩) xs:=eb.blk h fun i hi=>by simp [hi]
theorem mO (s:Rf) (a:Ra) (w:World) :
 Rt prog 131 [.agg (rfV s a).toArray] w (fun v w'=>v=.bool (decide (ir s))∧ai w w'):=by
 refine enter (n:=43) Tryz.func131 rfl rfl rfl (an (ag (cE (v:=.agg _) rfl ?_)));intro b1 w1 E1 hb1 hk1;refine asb rfl (ak (ah (an (ag (aa (ae bA rfl) (aa (ar ao rfl (by exact (hk1.from_ ai.rfl_).rd 1 rfl)) ?_))))));refine eJ (v:=.int _ _) aX rfl rfl rfl ?_;intro b5 w2 E5 hb5 hk5;refine aA dG (eG 1 7 (some ⟨b5,0,none⟩) 1 [s.nodes] _ (fI hk5) (by simp)) ?_;rintro v6 w3 ⟨rfl,rfl⟩;refine mvb rfl (yo (t:=7) rfl (fun Q4=>?_) (fun Q4=>?_))
 ·(try simp only [bG,bT,and_true] at Q4)
  refine af rfl (aa (ae bA rfl) (af rfl (aa (ar ao rfl (by exact (hk1.from_ (ai.rfl_.next E5)).rd 1 rfl)) ?_)));refine af rfl (aa (ae cR rfl) (af rfl (aa (ar ao rfl (by exact (hk1.from_ (ai.rfl_.next E5)).rd 0 rfl)) ?_)));refine af rfl (eJ (v:=.int _ _) aX rfl rfl rfl ?_);intro b12 w5 E12 hb12 hk12;refine af rfl (aA dG (eG 1 s.nodes (some ⟨b12,0,none⟩) 1 [s.id] _ (fI hk12) (by simp)) ?_);rintro v13 w6 ⟨rfl,rfl⟩;refine aa (aq (v:=.bool _) rfl rfl) (mvb rfl (yo (t:=15) rfl (fun Q7=>?_) (fun Q7=>?_)))
  ·(try simp only [bG,bT,and_true] at Q7)
   refine af rfl (aa (ae cV rfl) (af rfl (aa (ar ao rfl (by exact (hk1.from_ ((ai.rfl_.next E5).next E12)).rd 2 rfl)) ?_)));refine af rfl (eJ (v:=.int _ _) aX rfl rfl rfl ?_);intro b18 w8 E18 hb18 hk18;refine af rfl (aA dG (eG 0 2 (some ⟨b18,0,none⟩) 1 [s.role] _ (fI hk18) (by simp)) ?_);rintro v19 w9 ⟨rfl,rfl⟩;refine aa (aq (v:=.bool _) rfl rfl) (mvb rfl (yo (t:=21) rfl (fun Q10=>?_) (fun Q10=>?_)))
   ·(try simp only [bG,bT,and_true] at Q10)
    refine af rfl (aa (ae bA rfl) (af rfl (aa (ar ao rfl (by exact (hk1.from_ (((ai.rfl_.next E5).next E12).next E18)).rd 1 rfl)) ?_)));refine af rfl (aa (ae eK rfl) (af rfl (aa (ar ao rfl (by exact (hk1.from_ (((ai.rfl_.next E5).next E12).next E18)).rd 4 rfl)) ?_)));refine af rfl (aa (ae ed rfl) (af rfl (aa (ar ao rfl (by exact (hk1.from_ (((ai.rfl_.next E5).next E12).next E18)).rd 5 rfl)) ?_)));refine af rfl (s8 [.tmp 25,.tmp 27] [.int _ _,.int _ _] aX rfl rfl rfl rfl (by simp [Value.cells]) ?_);intro b28 w11 E28 hb28 hk28;refine af rfl (aA dG (eG 0 s.nodes (some ⟨b28,0,none⟩) 2 [s.vote,s.leader] _ (fI hk28) (by simp)) ?_);rintro v29 w12 ⟨rfl,rfl⟩;refine aa (aq (v:=.bool _) rfl rfl) (mvb rfl (yo (t:=31) rfl (fun Q13=>?_) (fun Q13=>?_)))
    ·(try simp only [bG,bT,and_true] at Q13)
     refine af rfl (aa (ae cl rfl) (af rfl (aa (ar ao rfl (by exact (hk1.from_ ((((ai.rfl_.next E5).next E12).next E18).next E28)).rd 3 rfl)) ?_)));refine af rfl (aa (ae cM rfl) (af rfl (aa (ar ao rfl (by exact (hk1.from_ ((((ai.rfl_.next E5).next E12).next E18).next E28)).rd 11 rfl)) ?_)));refine af rfl (aa (ae ee rfl) (af rfl (aa (ar ao rfl (by exact (hk1.from_ ((((ai.rfl_.next E5).next E12).next E18).next E28)).rd 12 rfl)) ?_)));refine af rfl (aa (ae cQ rfl) (af rfl (aa (ar ao rfl (by exact (hk1.from_ ((((ai.rfl_.next E5).next E12).next E18).next E28)).rd 18 rfl)) ?_)));refine af rfl (s8 [.tmp 33,.tmp 35,.tmp 37,.tmp 39] [.int _ _,.int _ _,.int _ _,.int _ _] aX rfl rfl rfl rfl (by simp [Value.cells]) ?_);intro b40 w14 E40 hb40 hk40;refine af rfl (aA dG (eG 0 1099511627775 (some ⟨b40,0,none⟩) 4 [s.term,s.elapsed,s.timeout,s.round] _ (fI hk40) (by simp)) ?_);rintro v41 w15 ⟨rfl,rfl⟩;refine aa (aq (v:=.bool _) rfl rfl) (asb rfl (ak (ah (aD (bm (v:=.bool _) rfl rfl (⟨congrArg Value.bool ?_,((((((ai.rfl_.next E1).next E5).next E12).next E18).next E28).next E40)⟩))))))
     (try simp only [bG,bT,and_true])
     first
      |(rw [eq_comm,decide_eq_false_iff_not];unfold ir;omega)
      |(rw [decide_eq_decide];unfold ir;omega)
      |(rw [eq_comm,decide_eq_true_eq];unfold ir;omega)
    (try simp only [bG,bT,and_true] at Q13)
    refine ab rfl rfl (ab rfl rfl (ab rfl rfl (ab rfl rfl (ab rfl rfl (ab rfl rfl (ab rfl rfl (ab rfl rfl (ab rfl rfl ?_))))))));refine ab rfl rfl (aa (ay (v:=.bool _) rfl rfl) (asb rfl (ak (ah (aD (bm (v:=.bool _) rfl rfl (⟨congrArg Value.bool ?_,(((((ai.rfl_.next E1).next E5).next E12).next E18).next E28)⟩)))))))
    (try simp only [bG,bT,and_true])
    first
     |(rw [eq_comm,decide_eq_false_iff_not];unfold ir;omega)
     |(rw [decide_eq_decide];unfold ir;omega)
     |(rw [eq_comm,decide_eq_true_eq];unfold ir;omega)
   (try simp only [bG,bT,and_true] at Q10)
   refine ab rfl rfl (ab rfl rfl (ab rfl rfl (ab rfl rfl (ab rfl rfl (ab rfl rfl (ab rfl rfl (ab rfl rfl (aa (ay (v:=.bool _) rfl rfl) ?_))))))));refine mvb rfl (ab rfl rfl (ab rfl rfl (ab rfl rfl (ab rfl rfl (ab rfl rfl (ab rfl rfl (ab rfl rfl (ab rfl rfl ?_))))))));refine ab rfl rfl (ab rfl rfl (aa (ay (v:=.bool _) rfl rfl) (asb rfl (ak (ah (aD (bm (v:=.bool _) rfl rfl (⟨congrArg Value.bool ?_,((((ai.rfl_.next E1).next E5).next E12).next E18)⟩))))))))
   (try simp only [bG,bT,and_true])
   first
    |(rw [eq_comm,decide_eq_false_iff_not];unfold ir;omega)
    |(rw [decide_eq_decide];unfold ir;omega)
    |(rw [eq_comm,decide_eq_true_eq];unfold ir;omega)
  (try simp only [bG,bT,and_true] at Q7)
  refine ab rfl rfl (ab rfl rfl (ab rfl rfl (ab rfl rfl (aa (ay (v:=.bool _) rfl rfl) (mvb rfl (ab rfl rfl (ab rfl rfl (ab rfl rfl ?_))))))));refine ab rfl rfl (ab rfl rfl (ab rfl rfl (ab rfl rfl (ab rfl rfl (aa (ay (v:=.bool _) rfl rfl) (mvb rfl (ab rfl rfl (ab rfl rfl ?_))))))));refine ab rfl rfl (ab rfl rfl (ab rfl rfl (ab rfl rfl (ab rfl rfl (ab rfl rfl (ab rfl rfl (ab rfl rfl (aa (ay (v:=.bool _) rfl rfl) ?_))))))));refine asb rfl (ak (ah (aD (bm (v:=.bool _) rfl rfl (⟨congrArg Value.bool ?_,(((ai.rfl_.next E1).next E5).next E12)⟩)))))
  (try simp only [bG,bT,and_true])
  first
   |(rw [eq_comm,decide_eq_false_iff_not];unfold ir;omega)
   |(rw [decide_eq_decide];unfold ir;omega)
   |(rw [eq_comm,decide_eq_true_eq];unfold ir;omega)
 (try simp only [bG,bT,and_true] at Q4)
 refine ab rfl rfl (ab rfl rfl (ab rfl rfl (ab rfl rfl (ab rfl rfl (ab rfl rfl (aa (ay (v:=.bool _) rfl rfl) (mvb rfl (ab rfl rfl ?_))))))));refine ab rfl rfl (ab rfl rfl (ab rfl rfl (aa (ay (v:=.bool _) rfl rfl) (mvb rfl (ab rfl rfl (ab rfl rfl (ab rfl rfl (ab rfl rfl ?_))))))));refine ab rfl rfl (ab rfl rfl (ab rfl rfl (ab rfl rfl (aa (ay (v:=.bool _) rfl rfl) (mvb rfl (ab rfl rfl (ab rfl rfl (ab rfl rfl ?_))))))));refine ab rfl rfl (ab rfl rfl (ab rfl rfl (ab rfl rfl (ab rfl rfl (ab rfl rfl (ab rfl rfl (aa (ay (v:=.bool _) rfl rfl) (asb rfl ?_))))))));refine ak (ah (aD (bm (v:=.bool _) rfl rfl (⟨congrArg Value.bool ?_,((ai.rfl_.next E1).next E5)⟩))))
 (try simp only [bG,bT,and_true])
 first
  |(rw [eq_comm,decide_eq_false_iff_not];unfold ir;omega)
  |(rw [decide_eq_decide];unfold ir;omega)
  |(rw [eq_comm,decide_eq_true_eq];unfold ir;omega)
theorem m_ {s:Rf} {a:Ra} {w:World} {b T:Nat} (hb:Blk w b T (rfV s a).toArray):w.rangeAt b 6 [.int .i64 s.b,.int .i64 s.t,.slice a.E s.es.length a.Ec]:=hb.range 6 _ (fun j v hj=>by
 match j,hj with
 |0,hj=>exact hj
 |1,hj=>exact hj
 |2,hj=>exact hj
 |j+3,hj=>simp at hj)
theorem qw (s:Rf) (a:Ra) (w:World) (he:cK w (.slice a.E s.es.length a.Ec) s.es) :
 Rt prog 132 [.agg (rfV s a).toArray] w (fun v w'=>v=.bool (decide (fW s))∧ai w w'):=by
 refine enter (n:=48) Tryz.func132 rfl rfl rfl (an (ag (cE (v:=.agg _) rfl ?_)));intro b1 w1 E1 hb1 hk1;refine asb rfl (ak (ah (an (ag (aa (ae bk rfl) (aa (aJ (cs:=[.int .i64 s.b,.int .i64 s.t,.slice a.E s.es.length a.Ec]) bJ bj rfl (m_ (hk1.from_ ai.rfl_))) (aA ly (yH s a.E s.es.length a.Ec _ (he.from_ (ai.rfl_.next E1))) ?_)))))));rintro v9 w2 ⟨⟨X,Y,Z,rfl,hXYZ⟩,E9⟩;refine mvt rfl (aa (aN rfl rfl) (aa (aN rfl rfl) (aa (aN rfl rfl) (asi rfl (asi rfl (asi rfl (ak (ah (an (ag (mvi rfl ?_)))))))))));refine aa (bB rfl rfl) (mvb rfl (yn (t:=15) rfl (fun Q3=>?_) (fun Q3=>?_)))
 ·refine af rfl (mvi rfl (af rfl (aa (ae cl rfl) (af rfl (aa (ar ao rfl (by exact (hk1.from_ (ai.rfl_.next E9)).rd 3 rfl)) ?_)))));refine af rfl (aa (gd rfl rfl) (aa (aq (v:=.bool _) rfl rfl) (mvb rfl (yo (t:=21) rfl (fun Q4=>?_) (fun Q4=>?_)))))
  ·(try simp only [bG,bT,and_true] at Q4)
   refine af rfl (aa (ae bk rfl) (af rfl (aa (ae cu rfl) (af rfl (aa (ar ao rfl (by exact (hk1.from_ (ai.rfl_.next E9)).rd 6 rfl)) ?_)))));refine af rfl (mvi rfl (af rfl (aa (ae cC rfl) (af rfl (aa (ar ao rfl (by exact (hk1.from_ (ai.rfl_.next E9)).rd 10 rfl)) ?_)))));refine af rfl (eJ (v:=.int _ _) aX rfl rfl rfl ?_);intro b28 w5 E28 hb28 hk28;refine af rfl (aA dG (eG s.b X (some ⟨b28,0,none⟩) 1 [s.commit] _ (fI hk28) (by simp)) ?_);rintro v29 w6 ⟨rfl,rfl⟩;refine aa (aq (v:=.bool _) rfl rfl) (mvb rfl (yo (t:=31) rfl (fun Q7=>?_) (fun Q7=>?_)))
   ·(try simp only [bG,bT,and_true] at Q7)
    refine af rfl (aa (ae cy rfl) (af rfl (aa (ar bY rfl (by exact (hk1.from_ ((ai.rfl_.next E9).next E28)).rd 9 rfl)) ?_)));refine af rfl (aa (dQ (by kernel_rfl) rfl) (af rfl (aa (gd rfl rfl) (aa (aq (v:=.bool _) rfl rfl) (mvb rfl (yo (t:=37) rfl (fun Q8=>?_) (fun Q8=>?_)))))))
    ·refine af rfl (aa (ae bk rfl) (af rfl (aa (ae cu rfl) (af rfl (aa (ar ao rfl (by exact (hk1.from_ ((ai.rfl_.next E9).next E28)).rd 6 rfl)) ?_)))));refine af rfl (aa (b0 rfl rfl) (af rfl (mvb rfl (yo (t:=42) rfl (fun Q9=>?_) (fun Q9=>?_)))))
     ·refine ab rfl rfl (ab rfl rfl (ab rfl rfl (af rfl (aa (aq (v:=.bool _) rfl rfl) (aa (aq (v:=.bool _) rfl rfl) (asb rfl (ak (ah (aD (bm (v:=.bool _) rfl rfl ?_))))))))));refine ⟨congrArg Value.bool ?_,(((ai.rfl_.next E1).next E9).next E28)⟩
      (try simp only [bG,bT,and_true])
      rcases hXYZ with ⟨hm,hz,hx,hy⟩ | ⟨hm,hz⟩
      ·first
        |(rw [eq_comm,decide_eq_false_iff_not];unfold fW;simp only [hm,true_and];omega)
        |(rw [decide_eq_decide];unfold fW;simp only [hm,true_and];omega)
        |(rw [eq_comm,decide_eq_true_eq];unfold fW;simp only [hm,true_and];omega)
      ·first
        |(exfalso;omega)
        |(rw [eq_comm,decide_eq_false_iff_not];unfold fW;rw [hm];exact fun h=>Bool.noConfusion h.1)
     refine af rfl (aa (ae cy rfl) (af rfl (aa (ar bY rfl (by exact (hk1.from_ ((ai.rfl_.next E9).next E28)).rd 9 rfl)) ?_)));refine af rfl (aa (ia (k9 rfl rfl) (congrArg Value.bool (ya s.snap))) (af rfl (aa (ay (v:=.bool _) rfl rfl) (aa (aq (v:=.bool _) rfl rfl) (asb rfl (ak (ah (aD (bm (v:=.bool _) rfl rfl (⟨congrArg Value.bool ?_,(((ai.rfl_.next E1).next E9).next E28)⟩))))))))))
     (try simp only [bG,bT,and_true])
     rcases hXYZ with ⟨hm,hz,hx,hy⟩ | ⟨hm,hz⟩
     ·first
       |(rw [eq_comm,decide_eq_false_iff_not];unfold fW;simp only [hm,true_and];omega)
       |(rw [decide_eq_decide];unfold fW;simp only [hm,true_and];omega)
       |(rw [eq_comm,decide_eq_true_eq];unfold fW;simp only [hm,true_and];omega)
     ·first
       |(exfalso;omega)
       |(rw [eq_comm,decide_eq_false_iff_not];unfold fW;rw [hm];exact fun h=>Bool.noConfusion h.1)
    refine ab rfl rfl (ab rfl rfl (ab rfl rfl (ab rfl rfl (ab rfl rfl (aF rfl (aF rfl (aF rfl (ab rfl rfl ?_))))))));refine aa (ay (v:=.bool _) rfl rfl) (asb rfl (ak (ah (aD (bm (v:=.bool _) rfl rfl (⟨congrArg Value.bool ?_,(((ai.rfl_.next E1).next E9).next E28)⟩))))))
    (try simp only [bG,bT,and_true])
    rcases hXYZ with ⟨hm,hz,hx,hy⟩ | ⟨hm,hz⟩
    ·first
      |(rw [eq_comm,decide_eq_false_iff_not];unfold fW;simp only [hm,true_and];omega)
      |(rw [decide_eq_decide];unfold fW;simp only [hm,true_and];omega)
      |(rw [eq_comm,decide_eq_true_eq];unfold fW;simp only [hm,true_and];omega)
    ·first
      |(exfalso;omega)
      |(rw [eq_comm,decide_eq_false_iff_not];unfold fW;rw [hm];exact fun h=>Bool.noConfusion h.1)
   (try simp only [bG,bT,and_true] at Q7)
   refine ab rfl rfl (ab rfl rfl (ab rfl rfl (ab rfl rfl (aa (ay (v:=.bool _) rfl rfl) (mvb rfl (ab rfl rfl (ab rfl rfl (ab rfl rfl ?_))))))));refine ab rfl rfl (ab rfl rfl (aF rfl (aF rfl (aF rfl (ab rfl rfl (aa (ay (v:=.bool _) rfl rfl) (asb rfl (ak (ah (aD ?_))))))))));refine bm (v:=.bool _) rfl rfl (⟨congrArg Value.bool ?_,(((ai.rfl_.next E1).next E9).next E28)⟩)
   (try simp only [bG,bT,and_true])
   rcases hXYZ with ⟨hm,hz,hx,hy⟩ | ⟨hm,hz⟩
   ·first
     |(rw [eq_comm,decide_eq_false_iff_not];unfold fW;simp only [hm,true_and];omega)
     |(rw [decide_eq_decide];unfold fW;simp only [hm,true_and];omega)
     |(rw [eq_comm,decide_eq_true_eq];unfold fW;simp only [hm,true_and];omega)
   ·first
     |(exfalso;omega)
     |(rw [eq_comm,decide_eq_false_iff_not];unfold fW;rw [hm];exact fun h=>Bool.noConfusion h.1)
  (try simp only [bG,bT,and_true] at Q4)
  refine ab rfl rfl (ab rfl rfl (ab rfl rfl (ab rfl rfl (ab rfl rfl (ab rfl rfl (ab rfl rfl (ab rfl rfl (aa (ay (v:=.bool _) rfl rfl) ?_))))))));refine mvb rfl (ab rfl rfl (ab rfl rfl (ab rfl rfl (ab rfl rfl (aa (ay (v:=.bool _) rfl rfl) (mvb rfl (ab rfl rfl (ab rfl rfl ?_))))))));refine ab rfl rfl (ab rfl rfl (ab rfl rfl (aF rfl (aF rfl (aF rfl (ab rfl rfl (aa (ay (v:=.bool _) rfl rfl) (asb rfl ?_))))))));refine ak (ah (aD (bm (v:=.bool _) rfl rfl (⟨congrArg Value.bool ?_,((ai.rfl_.next E1).next E9)⟩))))
  (try simp only [bG,bT,and_true])
  rcases hXYZ with ⟨hm,hz,hx,hy⟩ | ⟨hm,hz⟩
  ·first
    |(rw [eq_comm,decide_eq_false_iff_not];unfold fW;simp only [hm,true_and];omega)
    |(rw [decide_eq_decide];unfold fW;simp only [hm,true_and];omega)
    |(rw [eq_comm,decide_eq_true_eq];unfold fW;simp only [hm,true_and];omega)
  ·first
    |(exfalso;omega)
    |(rw [eq_comm,decide_eq_false_iff_not];unfold fW;rw [hm];exact fun h=>Bool.noConfusion h.1)
 refine ab rfl rfl (ab rfl rfl (ab rfl rfl (ab rfl rfl (aa (ay (v:=.bool _) rfl rfl) (mvb rfl (ab rfl rfl (ab rfl rfl (ab rfl rfl ?_))))))));refine ab rfl rfl (ab rfl rfl (ab rfl rfl (ab rfl rfl (ab rfl rfl (aa (ay (v:=.bool _) rfl rfl) (mvb rfl (ab rfl rfl (ab rfl rfl ?_))))))));refine ab rfl rfl (ab rfl rfl (aa (ay (v:=.bool _) rfl rfl) (mvb rfl (ab rfl rfl (ab rfl rfl (ab rfl rfl (ab rfl rfl (ab rfl rfl ?_))))))));refine aF rfl (aF rfl (aF rfl (ab rfl rfl (aa (ay (v:=.bool _) rfl rfl) (asb rfl (ak (ah (aD (bm (v:=.bool _) rfl rfl (⟨congrArg Value.bool ?_,((ai.rfl_.next E1).next E9)⟩))))))))))
 (try simp only [bG,bT,and_true])
 rcases hXYZ with ⟨hm,hz,hx,hy⟩ | ⟨hm,hz⟩
 ·first
   |(rw [eq_comm,decide_eq_false_iff_not];unfold fW;simp only [hm,true_and];omega)
   |(rw [decide_eq_decide];unfold fW;simp only [hm,true_and];omega)
   |(rw [eq_comm,decide_eq_true_eq];unfold fW;simp only [hm,true_and];omega)
 ·first
   |(exfalso;omega)
   |(rw [eq_comm,decide_eq_false_iff_not];unfold fW;rw [hm];exact fun h=>Bool.noConfusion h.1)
theorem pF (s:Rf) (a:Ra) (w:World) :
 Rt prog 135 [.agg (rfV s a).toArray] w (fun v w'=>v=.bool (decide (gF s))∧ai w w'):=by
 refine enter (n:=23) Tryz.func135 rfl rfl rfl (an (ag (cE (v:=.agg _) rfl ?_)));intro b1 w1 E1 hb1 hk1;refine asb rfl (ak (ah (an (ag (aa (ae dF rfl) (aa (ar bY rfl (by exact (hk1.from_ ai.rfl_).rd 20 rfl)) ?_))))));refine aa (dQ (by kernel_rfl) rfl) (aa (gd rfl rfl) (mvb rfl (yo (t:=7) rfl (fun Q2=>?_) (fun Q2=>?_))))
 ·refine af rfl (aa (ae dm rfl) (af rfl (aa (ar ao rfl (by exact (hk1.from_ ai.rfl_).rd 21 rfl)) ?_)));refine af rfl (eJ (v:=.int _ _) aX rfl rfl rfl ?_);intro b10 w3 E10 hb10 hk10;refine af rfl (aA dG (eG 0 1099511625728 (some ⟨b10,0,none⟩) 1 [s.partOf] _ (fI hk10) (by simp)) ?_);rintro v11 w4 ⟨rfl,rfl⟩;refine aa (aq (v:=.bool _) rfl rfl) (mvb rfl (yo (t:=13) rfl (fun Q5=>?_) (fun Q5=>?_)))
  ·(try simp only [bG,bT,and_true] at Q5)
   refine af rfl (aa (ae dm rfl) (af rfl (aa (ar ao rfl (by exact (hk1.from_ (ai.rfl_.next E10)).rd 21 rfl)) ?_)));refine af rfl (aa (b0 rfl rfl) (af rfl (mvb rfl (yo (t:=17) rfl (fun Q6=>?_) (fun Q6=>?_)))))
   ·refine ab rfl rfl (ab rfl rfl (ab rfl rfl (af rfl (aa (aq (v:=.bool _) rfl rfl) (aa (aq (v:=.bool _) rfl rfl) (asb rfl (ak (ah (aD (bm (v:=.bool _) rfl rfl ?_))))))))));refine ⟨congrArg Value.bool ?_,((ai.rfl_.next E1).next E10)⟩
    (try simp only [bG,bT,and_true])
    first
     |(rw [eq_comm,decide_eq_false_iff_not];unfold gF;omega)
     |(rw [decide_eq_decide];unfold gF;omega)
     |(rw [eq_comm,decide_eq_true_eq];unfold gF;omega)
   refine af rfl (aa (ae dF rfl) (af rfl (aa (ar bY rfl (by exact (hk1.from_ (ai.rfl_.next E10)).rd 20 rfl)) ?_)));refine af rfl (aa (ia (k9 rfl rfl) (congrArg Value.bool (ya s.part))) (af rfl (aa (ay (v:=.bool _) rfl rfl) (aa (aq (v:=.bool _) rfl rfl) (asb rfl (ak (ah (aD (bm (v:=.bool _) rfl rfl (⟨congrArg Value.bool ?_,((ai.rfl_.next E1).next E10)⟩))))))))))
   (try simp only [bG,bT,and_true])
   first
    |(rw [eq_comm,decide_eq_false_iff_not];unfold gF;omega)
    |(rw [decide_eq_decide];unfold gF;omega)
    |(rw [eq_comm,decide_eq_true_eq];unfold gF;omega)
  (try simp only [bG,bT,and_true] at Q5)
  refine ab rfl rfl (ab rfl rfl (ab rfl rfl (ab rfl rfl (aF rfl (aF rfl (aF rfl (ab rfl rfl (aa (ay (v:=.bool _) rfl rfl) ?_))))))));refine asb rfl (ak (ah (aD (bm (v:=.bool _) rfl rfl (⟨congrArg Value.bool ?_,((ai.rfl_.next E1).next E10)⟩)))))
  (try simp only [bG,bT,and_true])
  first
   |(rw [eq_comm,decide_eq_false_iff_not];unfold gF;omega)
   |(rw [decide_eq_decide];unfold gF;omega)
   |(rw [eq_comm,decide_eq_true_eq];unfold gF;omega)
 refine ab rfl rfl (ab rfl rfl (ab rfl rfl (ab rfl rfl (aa (ay (v:=.bool _) rfl rfl) (mvb rfl (ab rfl rfl (ab rfl rfl (ab rfl rfl ?_))))))));refine ab rfl rfl (aF rfl (aF rfl (aF rfl (ab rfl rfl (aa (ay (v:=.bool _) rfl rfl) (asb rfl (ak (ah (aD (bm (v:=.bool _) rfl rfl ?_))))))))));refine ⟨congrArg Value.bool ?_,(ai.rfl_.next E1)⟩
 (try simp only [bG,bT,and_true])
 first
  |(rw [eq_comm,decide_eq_false_iff_not];unfold gF;omega)
  |(rw [decide_eq_decide];unfold gF;omega)
  |(rw [eq_comm,decide_eq_true_eq];unfold gF;omega)
theorem o6 (A:Option Addr) (c:Nat) (l:List Int) (n:Int) (w:World) (hr:eb iV w A l) (hl:l.length≤1000000) :
 Rt prog 133 [.slice A l.length c,.int .i64 n] w (fun v w'=>v=.bool (fT l n)∧ai w w'):=by
 refine enter (n:=33) Tryz.func133 rfl rfl rfl (an (ag (asb rfl (ak (ah (an (an (ag (mvs rfl (aa (bu b_ rfl) (mvi rfl (ak (ah (aZ (ct (G:=Nat) [4,5,6,10,11,12,13,14,15,16,17,18,19,20,21,22,23,24,25,26,27,28,29,30,31,32] (fun k=>[(9,.int .i64 (k:Nat))]) (fun k w'=>k≤l.length∧(∀ j (h:j<l.length),j<k→1≤l[j]∧l[j]≤n)∧(∀ j (h:j+1<l.length),j+1<k→l[j]<l[j+1])∧ai w w') (fun k=>l.length-k) (0) ⟨rfl,trivial⟩ ?_ ?_)))))))))))))))
 ·exact ⟨Nat.zero_le _,fun j _ h=>absurd h (by omega),fun j _ h=>absurd h (by omega),ai.rfl_⟩
 rintro k ρ1 w1 ⟨hk,h1,h2,hB⟩;refine an (ag (aa (bU rfl rfl) (ak (ah (an (yS rfl (fun Q2=>?_) (fun Q2=>?_)))))))
 ·have hkx:k<l.length:=by omega
  obtain ⟨ba,oa,rfl,hca⟩:=hr (by omega);refine aO (ah (an (aZ (an (ag (mvi rfl (aa (cF ch rfl rfl (by omega)) (aa (ar ao rfl (by exact ei hB (hca k hkx))) ?_))))))));refine asi rfl (asi rfl (ak (ah (an (ag (mvi rfl (mvi rfl (eJ (v:=.int _ _) aX rfl rfl rfl ?_))))))));intro b16 w3 E16 hb16 hk16;refine aA dG (eG 1 n (some ⟨b16,0,none⟩) 1 [l[k]] _ (fI hk16) (by simp)) ?_;rintro v17 w4 ⟨rfl,rfl⟩;refine aa (cz rfl) (mvb rfl (aH (t:=19) rfl (fun Q5=>?_) (fun Q5=>?_)))
  ·replace Q5:=dz Q5;replace Q5:=dF_ Q5
   (try simp only [bG,bT,and_true] at Q5)
   refine ab rfl rfl (ab rfl rfl (ab rfl rfl (aF rfl (aF rfl (aF rfl (aF rfl (aF rfl (aF rfl ?_))))))));refine aF rfl (ab rfl rfl (aa (aq (v:=.bool _) rfl rfl) (ak (ah (aL rfl (an (ag (asb rfl (ak (ah (aD (bf (aC (aC (bf (aC (bm (v:=.bool _) rfl rfl ?_)))))))))))))))));refine ⟨congrArg Value.bool ?_,(hB.next E16)⟩;rw [eq_comm,←Bool.not_eq_true,gK];rintro ⟨h3,h4⟩;have h5:=h3 _ (List.getElem_mem hkx)
   first
    |omega
    |(obtain ⟨j,rfl⟩:∃ j,k=j+1:=⟨k-1,by omega⟩
      have h6:=h4 j hkx
      (try simp only [Nat.add_sub_cancel] at*)
      omega)
  replace Q5:=dA Q5;replace Q5:=dT_ Q5
  (try simp only [bG,bT,and_true] at Q5)
  refine af rfl (mvi rfl (af rfl (aa (b0 rfl rfl) (af rfl (mvb rfl (yo (t:=22) rfl (fun Q6=>?_) (fun Q6=>?_)))))))
  ·refine af rfl (mvs rfl (af rfl (mvi rfl (af rfl (aa (et rfl rfl (by omega)) (ey (t:=25) (v:=.int _ _) (v':=.int .i64 ((k-1:Nat):Int)) rfl (by exact br (by omega)) ?_))))));refine af rfl (aa (cF ch rfl rfl (by omega)) (af rfl (aa (ar ao rfl (by exact ei (hB.next E16) (hca (k-1) (by omega)))) ?_)));refine af rfl (mvi rfl (af rfl (aa (j6 rfl rfl) (af rfl (aa (aq (v:=.bool _) rfl rfl) (aa (ay (v:=.bool _) rfl rfl) (ak (ah (yS rfl (fun Q7=>?_) (fun Q7=>?_))))))))))
   ·refine an (ag (asb rfl (ak (ah (aD (bf (aC (aC (bf (aC (bm (v:=.bool _) rfl rfl (⟨congrArg Value.bool ?_,(hB.next E16)⟩))))))))))));rw [eq_comm,←Bool.not_eq_true,gK];rintro ⟨h3,h4⟩;have h5:=h3 _ (List.getElem_mem hkx)
    first
     |omega
     |(obtain ⟨j,rfl⟩:∃ j,k=j+1:=⟨k-1,by omega⟩
       have h6:=h4 j hkx
       (try simp only [Nat.add_sub_cancel] at*)
       omega)
   refine aO (bH (ah (ag (aa (cT (b:=1) rfl rfl (by omega)) (mvi rfl (ak ?_))))));refine cG (k+1) ⟨(by first | rfl | (refine br ?_;omega)),trivial⟩ (by (iterate 56 refine bQ rfl ?_);exact cf) ⟨?_,?_⟩
   ·refine ⟨by omega,fun j h hj=>?_,fun j h hj=>?_,(hB.next E16)⟩
    ·rcases Nat.lt_or_ge j k with e | e
     ·exact h1 j h e
     ·obtain rfl:j=k:=by omega
      omega
    ·rcases Nat.lt_or_ge (j+1) k with e | e
     ·exact h2 j h e
     ·obtain rfl:k=j+1:=by omega
      (try simp only [Nat.add_sub_cancel] at*)
      omega
   ·omega
  refine ab rfl rfl (ab rfl rfl (ab rfl rfl (ab rfl rfl (ab rfl rfl (ab rfl rfl (ab rfl rfl (af rfl (aa (ay (v:=.bool _) rfl rfl) ?_))))))));refine aa (ay (v:=.bool _) rfl rfl) (ak (ah (bM rfl (aO (bH (ah (ag (aa (cT (b:=1) rfl rfl (by omega)) (mvi rfl (ak ?_))))))))));refine cG (k+1) ⟨(by first | rfl | (refine br ?_;omega)),trivial⟩ (by (iterate 55 refine bQ rfl ?_);exact cf) ⟨?_,?_⟩
  ·refine ⟨by omega,fun j h hj=>?_,fun j h hj=>?_,(hB.next E16)⟩
   ·rcases Nat.lt_or_ge j k with e | e
    ·exact h1 j h e
    ·obtain rfl:j=k:=by omega
     omega
   ·rcases Nat.lt_or_ge (j+1) k with e | e
    ·exact h2 j h e
    ·obtain rfl:k=j+1:=by omega
     (try simp only [Nat.add_sub_cancel] at*)
     omega
  ·omega
 refine cd (bd (bd (bL (ah (an (ag (asb rfl (ak (ah (aD (bm (v:=.bool _) rfl rfl (⟨congrArg Value.bool ?_,hB⟩))))))))))));obtain rfl:k=l.length:=by omega
 rw [eq_comm,gK];exact ⟨fun x hx=>by obtain ⟨j,hj,rfl⟩:=List.getElem_of_mem hx;exact h1 j hj hj,fun j hj=>h2 j hj hj⟩
theorem aT {s:Rf} (h:s.role=2):kD s↔((s.next.length:Int)=s.nodes∧(s.mtch.length:Int)=s.nodes∧(s.sent.length:Int)=s.nodes∧s.reads.length≤32)∧(cg 1 (a_ s+1) s.next∧cg 0 (a_ s) s.mtch∧cg 0 s.snap.size s.sent)∧(∀ q∈s.reads,eY s q=true):=by unfold kD;rw [if_pos h]
theorem bg {s:Rf} (h:s.role≠2):kD s↔s.next.length+s.mtch.length+s.sent.length+s.reads.length=0:=by unfold kD;rw [if_neg h]
theorem ck {s:Rf} {q:Rd}:eY s q=true↔(1≤q.id∧q.id≤1099511627776)∧(0≤q.ix∧q.ix≤s.commit)∧(0≤q.rn∧q.rn≤s.round)∧fT q.acks s.nodes=true:=by
 unfold eY inb;simp only [Bool.and_eq_true,decide_eq_true_eq];constructor
 ·rintro ⟨⟨⟨h1,h2⟩,h3⟩,h4⟩;exact ⟨h1,h2,h3,h4⟩
 ·rintro ⟨h1,h2,h3,h4⟩;exact ⟨⟨⟨h1,h2⟩,h3⟩,h4⟩
theorem oN (s:Rf) (a:Ra) (w:World) (hrd:eD w s a) (hN:ir s) (hL:fW s) (hl:s.next.length≤1000000∧s.mtch.length≤1000000∧s.sent.length≤1000000∧s.reads.length≤1000000∧∀ q∈s.reads,q.acks.length≤1000000) :
 Rt prog 134 [.agg (rfV s a).toArray] w (fun v w'=>v=.bool (decide (kD s))∧ai w w'):=by
 obtain ⟨E,Ec,V,Vc,X,Xc,M,Mc,Sn,Sc,Q,Qc,LL⟩:=a;have hrL:LL.map (fun q=>q.1)=s.reads:=hrd.r;have hrk:∀ q∈LL,IR w q.2.1 q.2.2 q.1.acks:=hrd.k;obtain ⟨hl1,hl2,hl3,hl4,hl5⟩:=hl;have hbl:=eI hL.1;have hlr:a_ s=s.b+s.es.length:=hbl.1;have hrl:LL.length=s.reads.length:=by rw [←hrL,List.length_map]
 have hN0:=hN.1;refine enter (n:=122) Tryz.func134 rfl rfl rfl (an (ag (cE (v:=.agg _) rfl ?_)));intro b1 w1 E1 hb1 hk1;refine asb rfl (ak (ah (an (an (ag (aa (ae cV rfl) (aa (ar ao rfl (by exact (hk1.from_ ai.rfl_).rd 2 rfl)) ?_)))))));refine aa (dp rfl rfl) (ak (ah (yP rfl (fun Q2=>?_) (fun Q2=>?_))))
 ·refine an (ag (aa (ae bN rfl) (aa (ar aP rfl (by exact (show _=some (Value.slice X s.next.length Xc) from (hk1.from_ ai.rfl_).rd 15 rfl))) ?_)));refine aa (bu b_ rfl) (aa (ae bX rfl) (aa (ar aP rfl (by exact (show _=some (Value.slice M s.mtch.length Mc) from (hk1.from_ ai.rfl_).rd 16 rfl))) ?_));refine aa (bu b_ rfl) (aa (cT rfl rfl (by omega)) (aa (ae bS rfl) (aa (ar aP rfl (by exact (show _=some (Value.slice Sn s.sent.length Sc) from (hk1.from_ ai.rfl_).rd 17 rfl))) ?_)));refine aa (bu b_ rfl) (aa (cT rfl rfl (by omega)) (aa (ae bc rfl) (aa (ar bo rfl (by exact (show _=some (Value.slice Q LL.length Qc) from (hk1.from_ ai.rfl_).rd 19 rfl))) ?_)));refine aa (bu bW rfl) (aa (cT rfl rfl (by omega)) (aa (bB rfl rfl) (asb rfl (ak (ah (aD (aC (bm (v:=.bool _) rfl rfl (⟨congrArg Value.bool ?_,(ai.rfl_.next E1)⟩)))))))));rw [Bool.eq_iff_iff,decide_eq_true_eq,bg (by omega),beq_iff_eq];omega
 refine aO (ah (an (ag (aa (ae bk rfl) (aa (ae cu rfl) (aa (ar ao rfl (by exact (hk1.from_ ai.rfl_).rd 6 rfl)) ?_))))));refine aa (ae bk rfl) (aa (ae bt rfl) (aa (ar bD rfl (by exact (hk1.from_ ai.rfl_).rd 8 rfl)) ?_));refine aa (bu dt rfl) (aa (bE rfl rfl (by omega)) (ey (t:=32) (v:=.int _ _) (v':=.int .i64 (a_ s)) rfl (by exact br hlr.symm) ?_));refine asi rfl (ak (ah (an (an (ag (aa (ae bN rfl) (aa (ar aP rfl (by exact (show _=some (Value.slice X s.next.length Xc) from (hk1.from_ ai.rfl_).rd 15 rfl))) ?_)))))));refine aa (bu b_ rfl) (aa (ae bA rfl) (aa (ar ao rfl (by exact (hk1.from_ ai.rfl_).rd 1 rfl)) ?_));refine aa (dp rfl rfl) (mvb rfl (yl (t:=39) rfl (fun Q3=>?_) (fun Q3=>?_)))
 ·refine ab rfl rfl (ab rfl rfl (ab rfl rfl (ab rfl rfl (ab rfl rfl (ab rfl rfl (aa (aq (v:=.bool _) rfl rfl) (mvb rfl (ab rfl rfl ?_))))))));refine ab rfl rfl (ab rfl rfl (ab rfl rfl (ab rfl rfl (ab rfl rfl (aa (aq (v:=.bool _) rfl rfl) (mvb rfl (ab rfl rfl (ab rfl rfl ?_))))))));refine ab rfl rfl (ab rfl rfl (aa (aq (v:=.bool _) rfl rfl) (ak (ah (aL rfl (an (ag (asb rfl (ak (ah (aD (aC (bm (v:=.bool _) rfl rfl ?_)))))))))))));refine ⟨congrArg Value.bool ?_,(ai.rfl_.next E1)⟩;rw [eq_comm,decide_eq_false_iff_not];rw [aT (by omega)];rintro ⟨⟨g1,g2,g3,g4⟩,_⟩;omega
 refine af rfl (aa (ae bX rfl) (af rfl (aa (ar aP rfl (by exact (show _=some (Value.slice M s.mtch.length Mc) from (hk1.from_ ai.rfl_).rd 16 rfl))) ?_)));refine af rfl (aa (bu b_ rfl) (af rfl (aa (ae bA rfl) (af rfl (aa (ar ao rfl (by exact (hk1.from_ ai.rfl_).rd 1 rfl)) ?_)))));refine af rfl (aa (dp rfl rfl) (aa (ay (v:=.bool _) rfl rfl) (mvb rfl (yl (t:=47) rfl (fun Q4=>?_) (fun Q4=>?_)))))
 ·refine ab rfl rfl (ab rfl rfl (ab rfl rfl (ab rfl rfl (ab rfl rfl (ab rfl rfl (aa (aq (v:=.bool _) rfl rfl) (mvb rfl (ab rfl rfl ?_))))))));refine ab rfl rfl (ab rfl rfl (ab rfl rfl (aa (aq (v:=.bool _) rfl rfl) (ak (ah (aL rfl (an (ag (asb rfl (ak (ah (aD (aC ?_)))))))))))));refine bm (v:=.bool _) rfl rfl (⟨congrArg Value.bool ?_,(ai.rfl_.next E1)⟩);rw [eq_comm,decide_eq_false_iff_not];rw [aT (by omega)];rintro ⟨⟨g1,g2,g3,g4⟩,_⟩;omega
 refine af rfl (aa (ae bS rfl) (af rfl (aa (ar aP rfl (by exact (show _=some (Value.slice Sn s.sent.length Sc) from (hk1.from_ ai.rfl_).rd 17 rfl))) ?_)));refine af rfl (aa (bu b_ rfl) (af rfl (aa (ae bA rfl) (af rfl (aa (ar ao rfl (by exact (hk1.from_ ai.rfl_).rd 1 rfl)) ?_)))));refine af rfl (aa (dp rfl rfl) (aa (ay (v:=.bool _) rfl rfl) (mvb rfl (yl (t:=55) rfl (fun Q5=>?_) (fun Q5=>?_)))))
 ·refine ab rfl rfl (ab rfl rfl (ab rfl rfl (ab rfl rfl (aa (aq (v:=.bool _) rfl rfl) (ak (ah (aL rfl (an (ag (asb rfl ?_))))))))));refine ak (ah (aD (aC (bm (v:=.bool _) rfl rfl (⟨congrArg Value.bool ?_,(ai.rfl_.next E1)⟩)))));rw [eq_comm,decide_eq_false_iff_not];rw [aT (by omega)];rintro ⟨⟨g1,g2,g3,g4⟩,_⟩;omega
 refine af rfl (aa (ae bc rfl) (af rfl (aa (ar bo rfl (by exact (show _=some (Value.slice Q LL.length Qc) from (hk1.from_ ai.rfl_).rd 19 rfl))) ?_)));refine af rfl (aa (bu bW rfl) (af rfl (aa (b0 rfl rfl) (aa (ay (v:=.bool _) rfl rfl) (ak (ah (yS rfl (fun Q6=>?_) (fun Q6=>?_))))))))
 ·refine an (ag (asb rfl (ak (ah (aD (aC (bm (v:=.bool _) rfl rfl (⟨congrArg Value.bool ?_,(ai.rfl_.next E1)⟩))))))));rw [eq_comm,decide_eq_false_iff_not];rw [aT (by omega)];rintro ⟨⟨g1,g2,g3,g4⟩,_⟩;omega
 refine aO (ah (an (an (ag (mvi rfl (aa (bE rfl rfl (by omega)) (aa (ae bN rfl) (aa (ar aP rfl (by exact (show _=some (Value.slice X s.next.length Xc) from (hk1.from_ ai.rfl_).rd 15 rfl))) ?_))))))));refine aA dG (eG 1 (a_ s+1) X Xc s.next _ (hrd.x.1.from_ (ai.rfl_.next E1)) hl1) ?_;rintro v65 w7 ⟨rfl,rfl⟩;refine aa (cz rfl) (mvb rfl (aH (t:=67) rfl (fun Q8=>?_) (fun Q8=>?_)))
 ·with_reducible (replace Q8:=dz Q8;replace Q8:=dF_ Q8)
  (try simp only [bG,bT,and_true] at Q8)
  refine ab rfl rfl (ab rfl rfl (ab rfl rfl (ab rfl rfl (ab rfl rfl (aa (aq (v:=.bool _) rfl rfl) (mvb rfl (ab rfl rfl (ab rfl rfl ?_))))))));refine ab rfl rfl (ab rfl rfl (ab rfl rfl (ab rfl rfl (ab rfl rfl (aa (aq (v:=.bool _) rfl rfl) (ak (ah (aL rfl (an (ag ?_))))))))));refine asb rfl (ak (ah (aD (aC (bm (v:=.bool _) rfl rfl (⟨congrArg Value.bool ?_,(ai.rfl_.next E1)⟩))))));rw [eq_comm,decide_eq_false_iff_not];rw [aT (by omega)];rintro ⟨_,⟨g1,g2,g3⟩,_⟩
  simp_all
 with_reducible (replace Q8:=dA Q8;replace Q8:=dT_ Q8)
 (try simp only [bG,bT,and_true] at Q8)
 refine af rfl (mvi rfl (af rfl (aa (ae bX rfl) (af rfl (aa (ar aP rfl (by exact (show _=some (Value.slice M s.mtch.length Mc) from (hk1.from_ ai.rfl_).rd 16 rfl))) ?_)))));refine af rfl (aA dG (eG 0 (a_ s) M Mc s.mtch _ (hrd.m.1.from_ (ai.rfl_.next E1)) hl2) ?_);rintro v71 w9 ⟨rfl,rfl⟩;refine af rfl (aa (cz rfl) (aa (ay (v:=.bool _) rfl rfl) (mvb rfl (aH (t:=74) rfl (fun Q10=>?_) (fun Q10=>?_)))))
 ·with_reducible (replace Q10:=dz Q10;replace Q10:=dF_ Q10)
  (try simp only [bG,bT,and_true] at Q10)
  refine ab rfl rfl (ab rfl rfl (ab rfl rfl (ab rfl rfl (ab rfl rfl (ab rfl rfl (ab rfl rfl (aa (aq (v:=.bool _) rfl rfl) (ak (ah ?_)))))))));refine aL rfl (an (ag (asb rfl (ak (ah (aD (aC (bm (v:=.bool _) rfl rfl (⟨congrArg Value.bool ?_,(ai.rfl_.next E1)⟩)))))))));rw [eq_comm,decide_eq_false_iff_not];rw [aT (by omega)];rintro ⟨_,⟨g1,g2,g3⟩,_⟩
  simp_all
 with_reducible (replace Q10:=dA Q10;replace Q10:=dT_ Q10)
 (try simp only [bG,bT,and_true] at Q10)
 refine af rfl (aa (ae cy rfl) (af rfl (aa (ar bY rfl (by exact (hk1.from_ ai.rfl_).rd 9 rfl)) ?_)));refine af rfl (aa (dQ (by kernel_rfl) rfl) (af rfl (aa (ae bS rfl) (af rfl (aa (ar aP rfl (by exact (show _=some (Value.slice Sn s.sent.length Sc) from (hk1.from_ ai.rfl_).rd 17 rfl))) ?_)))));refine af rfl (aA dG (eG 0 (s.snap.size:Nat) Sn Sc s.sent _ (hrd.n.1.from_ (ai.rfl_.next E1)) hl3) ?_);rintro v80 w11 ⟨rfl,rfl⟩;refine af rfl (aa (cz rfl) (aa (ay (v:=.bool _) rfl rfl) (ak (ah (aY rfl (fun Q12=>?_) (fun Q12=>?_))))))
 ·with_reducible (replace Q12:=dz Q12;replace Q12:=dF_ Q12)
  refine an (ag (asb rfl (ak (ah (aD (aC (bm (v:=.bool _) rfl rfl (⟨congrArg Value.bool ?_,(ai.rfl_.next E1)⟩))))))));rw [eq_comm,decide_eq_false_iff_not];rw [aT (by omega)];rintro ⟨_,⟨g1,g2,g3⟩,_⟩
  simp_all
 with_reducible (replace Q12:=dA Q12;replace Q12:=dT_ Q12)
 refine aO (ah (an (an (ag (aa (ae bc rfl) (aa (ar bo rfl (by exact (show _=some (Value.slice Q LL.length Qc) from (hk1.from_ ai.rfl_).rd 19 rfl))) ?_))))));refine aa (bu bW rfl) (mvi rfl (ak (ah (aZ (ct (G:=Nat) [2,5,87,88,89,90,91,92,93,94,95,96,97,98,99,100,101,102,103,104,105,106,107,108,109,110,111,112,113,114,115,116,117,118,119,120,121] (fun k=>[(86,.int .i64 (k:Nat))]) (fun k w'=>k≤LL.length∧(∀ j (h:j<LL.length),j<k→eY s LL[j].1=true)∧Blk w' b1 29 (rfV s (⟨E,Ec,V,Vc,X,Xc,M,Mc,Sn,Sc,Q,Qc,LL⟩:Ra)).toArray∧ai w w') (fun k=>LL.length-k) (0) ⟨rfl,trivial⟩ ?_ ?_)))))
 ·exact ⟨Nat.zero_le _,fun j _ h=>absurd h (by omega),hk1.from_ ai.rfl_,(ai.rfl_.next E1)⟩
 rintro k ρ13 w13 ⟨hk,h1,hk1,hB⟩;refine an (ag (aa (bU rfl rfl) (ak (ah (an (yS rfl (fun Q14=>?_) (fun Q14=>?_)))))))
 ·have hkL:k<LL.length:=by omega
  have hqm:LL[k].1∈s.reads:=by rw [←hrL];exact List.mem_map_of_mem (List.getElem_mem hkL)
  obtain ⟨ba,oa,rfl,hcs⟩:∃ b o,Q=some ⟨b,o,none⟩∧∀ i (hi:i<LL.length),w.rangeAt b (o+i*4) (rdV LL[i]):=hrd.q (by show 0<LL.length;omega);refine aO (ah (an (aZ (an (ag (aa (bR de rfl rfl (by omega)) (aa (aJ (cs:=rdV LL[k]) dH cD rfl (eS hB (hcs k hkL))) (bw fa ?_))))))));intro b5 w15 E5 hb5 hk5;have hg5:w.heap.size≤b5:=by rw [hb5];exact (hB).size
  have hk1L:=hk1.from_ (ai.rfl_.next E5);have hn5:b1≠b5:=by have:=hk1.lt;have:=((ai.rfl_.next E5)).size;omega
  refine bK (vs:=[_,_,_,_]) cD rfl rfl (by simp [Value.oneCell']) (hk5) rfl ?_;intro w16 O10 P10;replace hk1:=hk1L.only O10 hn5;refine ak (ah (an (ag (aa (ae d_ rfl) (aa (ar ao rfl (by exact (show _=some (Value.int .i64 LL[k].1.id) from (P10.from_ ai.rfl_).rd 0 rfl))) ?_)))));refine eJ (v:=.int _ _) aX rfl rfl rfl ?_;intro b92 w17 E92 hb92 hk92;refine aA dG (eG 1 1099511627776 (some ⟨b92,0,none⟩) 1 [LL[k].1.id] _ (fI hk92) (by simp)) ?_;rintro v93 w18 ⟨rfl,rfl⟩;refine aa (cz rfl) (mvb rfl (aH (t:=95) rfl (fun Q19=>?_) (fun Q19=>?_)))
  ·with_reducible (replace Q19:=dz Q19;replace Q19:=dF_ Q19)
   (try simp only [bG,bT,and_true] at Q19)
   refine ab rfl rfl (ab rfl rfl (ab rfl rfl (ab rfl rfl (ab rfl rfl (ab rfl rfl (ab rfl rfl (aa (aq (v:=.bool _) rfl rfl) (mvb rfl ?_))))))));refine ab rfl rfl (ab rfl rfl (ab rfl rfl (ab rfl rfl (ab rfl rfl (ab rfl rfl (ab rfl rfl (aa (aq (v:=.bool _) rfl rfl) (mvb rfl ?_))))))));refine ab rfl rfl (ab rfl rfl (ab rfl rfl (ab rfl rfl (ab rfl rfl (ab rfl rfl (aa (aq (v:=.bool _) rfl rfl) (ak (ah (aL rfl ?_)))))))));refine an (ag (asb rfl (ak (ah (aD (bf (aC (aC (bf (aC (bm (v:=.bool _) rfl rfl (⟨congrArg Value.bool ?_,(((hB.next E5).only O10 (hg5)).next E92)⟩))))))))))));rw [eq_comm,decide_eq_false_iff_not];rw [aT (by omega)];rintro ⟨_,_,g⟩;have g5:=ck.1 (g _ hqm)
   first
    |omega
    |simp_all
  with_reducible (replace Q19:=dA Q19;replace Q19:=dT_ Q19)
  (try simp only [bG,bT,and_true] at Q19)
  refine af rfl (aa (ae cC rfl) (af rfl (aa (ar ao rfl (by exact (hk1.from_ (ai.rfl_.next E92)).rd 10 rfl)) ?_)));refine af rfl (aa (ae dZ rfl) (af rfl (aa (ar ao rfl (by exact (show _=some (Value.int .i64 LL[k].1.ix) from (P10.from_ (ai.rfl_.next E92)).rd 1 rfl))) ?_)));refine af rfl (eJ (v:=.int _ _) aX rfl rfl rfl ?_);intro b100 w20 E100 hb100 hk100;refine af rfl (aA dG (eG 0 s.commit (some ⟨b100,0,none⟩) 1 [LL[k].1.ix] _ (fI hk100) (by simp)) ?_);rintro v101 w21 ⟨rfl,rfl⟩;refine af rfl (aa (cz rfl) (aa (ay (v:=.bool _) rfl rfl) (mvb rfl (aH (t:=104) rfl (fun Q22=>?_) (fun Q22=>?_)))))
  ·with_reducible (replace Q22:=dz Q22;replace Q22:=dF_ Q22)
   (try simp only [bG,bT,and_true] at Q22)
   refine ab rfl rfl (ab rfl rfl (ab rfl rfl (ab rfl rfl (ab rfl rfl (ab rfl rfl (ab rfl rfl (aa (aq (v:=.bool _) rfl rfl) (mvb rfl ?_))))))));refine ab rfl rfl (ab rfl rfl (ab rfl rfl (ab rfl rfl (ab rfl rfl (ab rfl rfl (aa (aq (v:=.bool _) rfl rfl) (ak (ah (aL rfl ?_)))))))));refine an (ag (asb rfl (ak (ah (aD (bf (aC (aC (bf (aC (bm (v:=.bool _) rfl rfl (⟨congrArg Value.bool ?_,((((hB.next E5).only O10 (hg5)).next E92).next E100)⟩))))))))))));rw [eq_comm,decide_eq_false_iff_not];rw [aT (by omega)];rintro ⟨_,_,g⟩;have g5:=ck.1 (g _ hqm)
   first
    |omega
    |simp_all
  with_reducible (replace Q22:=dA Q22;replace Q22:=dT_ Q22)
  (try simp only [bG,bT,and_true] at Q22)
  refine af rfl (aa (ae cQ rfl) (af rfl (aa (ar ao rfl (by exact (hk1.from_ ((ai.rfl_.next E92).next E100)).rd 18 rfl)) ?_)));refine af rfl (aa (ae dY rfl) (af rfl (aa (ar ao rfl (by exact (show _=some (Value.int .i64 LL[k].1.rn) from (P10.from_ ((ai.rfl_.next E92).next E100)).rd 2 rfl))) ?_)));refine af rfl (eJ (v:=.int _ _) aX rfl rfl rfl ?_);intro b109 w23 E109 hb109 hk109;refine af rfl (aA dG (eG 0 s.round (some ⟨b109,0,none⟩) 1 [LL[k].1.rn] _ (fI hk109) (by simp)) ?_);rintro v110 w24 ⟨rfl,rfl⟩;refine af rfl (aa (cz rfl) (aa (ay (v:=.bool _) rfl rfl) (mvb rfl (aH (t:=113) rfl (fun Q25=>?_) (fun Q25=>?_)))))
  ·with_reducible (replace Q25:=dz Q25;replace Q25:=dF_ Q25)
   (try simp only [bG,bT,and_true] at Q25)
   refine ab rfl rfl (ab rfl rfl (ab rfl rfl (ab rfl rfl (ab rfl rfl (ab rfl rfl (aa (aq (v:=.bool _) rfl rfl) (ak (ah (aL rfl ?_)))))))));refine an (ag (asb rfl (ak (ah (aD (bf (aC (aC (bf (aC (bm (v:=.bool _) rfl rfl (⟨congrArg Value.bool ?_,(((((hB.next E5).only O10 (hg5)).next E92).next E100).next E109)⟩))))))))))));rw [eq_comm,decide_eq_false_iff_not];rw [aT (by omega)];rintro ⟨_,_,g⟩;have g5:=ck.1 (g _ hqm)
   first
    |omega
    |simp_all
  with_reducible (replace Q25:=dA Q25;replace Q25:=dT_ Q25)
  (try simp only [bG,bT,and_true] at Q25)
  refine af rfl (aa (ae cZ rfl) (af rfl (aa (ar aP rfl (by exact (show _=some (Value.slice LL[k].2.1 LL[k].1.acks.length LL[k].2.2) from (P10.from_ (((ai.rfl_.next E92).next E100).next E109)).rd 3 rfl))) ?_)));refine af rfl (aa (ae bA rfl) (af rfl (aa (ar ao rfl (by exact (hk1.from_ (((ai.rfl_.next E92).next E100).next E109)).rd 1 rfl)) ?_)));refine af rfl (aA lB (o6 LL[k].2.1 LL[k].2.2 LL[k].1.acks s.nodes _ ((hrk _ (List.getElem_mem hkL)).1.from_ (((((hB.next E5).only O10 (hg5)).next E92).next E100).next E109)) (hl5 _ hqm)) ?_);rintro v118 w26 ⟨rfl,E118⟩;refine af rfl (aa (cz rfl) (aa (ay (v:=.bool _) rfl rfl) (ak (ah (yQ rfl (fun Q27=>?_) (fun Q27=>?_))))))
  ·refine an (ag (asb rfl (ak (ah (aD (bf (aC (aC (bf (aC (bm (v:=.bool _) rfl rfl (⟨congrArg Value.bool ?_,((((((hB.next E5).only O10 (hg5)).next E92).next E100).next E109).next E118)⟩))))))))))));rw [eq_comm,decide_eq_false_iff_not];rw [aT (by omega)];rintro ⟨_,_,g⟩;have g5:=ck.1 (g _ hqm)
   first
    |omega
    |simp_all
  refine aO (bH (ah (ag (aa (bE rfl rfl (by omega)) (mvi rfl (ak ?_))))));refine cG (k+1) ⟨(by first | rfl | (refine br ?_;omega)),trivial⟩ (by (iterate 78 refine bQ rfl ?_);exact cf) ⟨?_,?_⟩
  ·refine ⟨by omega,fun j h hj=>?_,hk1.from_ ((((ai.rfl_.next E92).next E100).next E109).next E118),((((((hB.next E5).only O10 (hg5)).next E92).next E100).next E109).next E118)⟩;rcases Nat.lt_or_ge j k with e | e
   ·exact h1 j h e
   ·obtain rfl:j=k:=by omega
    rw [ck];exact ⟨by omega,by omega,by omega,by first | assumption | simp_all⟩
  ·omega
 refine cd (bd (bd (bL (ah (an (ag (asb rfl (ak (ah (aD (bm (v:=.bool _) rfl rfl (⟨congrArg Value.bool ?_,hB⟩))))))))))));rw [eq_comm,decide_eq_true_eq];rw [aT (by omega)];refine ⟨⟨by omega,by omega,by omega,by omega⟩,⟨?_,?_,?_⟩,fun q hq=>?_⟩
 ·simp_all
 ·simp_all
 ·simp_all
 ·rw [←hrL] at hq;obtain ⟨y,hy,rfl⟩:=List.mem_map.1 hq;obtain ⟨i,hi,rfl⟩:=List.getElem_of_mem hy;exact h1 i hi (by omega)
theorem aU {s:Rf}:gb s=true↔ir s∧fW s∧fT s.votes s.nodes=true∧kD s∧gF s:=by
 constructor
 ·intro h;have F:=iJ h;have hl:=F.last;refine ⟨⟨F.n,F.i,F.ro,⟨F.vo,F.le⟩,F.te,F.el,F.ti,F.rn⟩,⟨F.lg,F.lt,F.co,F.sn,?_⟩,F.vs,?_,⟨F.pa,F.po,?_⟩⟩
  ·have:=F.sb;omega
  ·by_cases hr:s.role=2
   ·rw [aT hr];have hx:=F.nx;have hm:=F.ma;have hs:=F.se;rw [gp hr] at hx hm hs;have:=F.n;exact ⟨⟨by omega,by omega,by omega,F.rl⟩,⟨hx.2,hm.2,hs.2⟩,F.rd⟩
   ·rw [bg hr];obtain ⟨e1,e2,e3,e4⟩:=F.free hr;rw [e1,e2,e3,e4];rfl
  ·have:=F.pp;have:=F.po;omega
 ·rintro ⟨⟨n,i,ro,⟨vo,le⟩,te,el,ti,rn⟩,⟨lg,lt,co,sn,sb⟩,vs,ls,⟨pa,po,pp⟩⟩;have hbl:=eI lg
  have key:(s.next.length=fZ s∧∀ x∈s.next,1≤x∧x≤a_ s+1)∧(s.mtch.length=fZ s∧∀ x∈s.mtch,0≤x∧x≤a_ s)∧(s.sent.length=fZ s∧∀ x∈s.sent,0≤x∧x≤(s.snap.size:Int))∧s.reads.length≤32∧(fZ s≠0∨s.reads.length=0)∧∀ q∈s.reads,eY s q=true:=by
   by_cases hr:s.role=2
   ·rw [aT hr] at ls;obtain ⟨⟨l1,l2,l3,l4⟩,⟨g1,g2,g3⟩,g4⟩:=ls;rw [gp hr];exact ⟨⟨by omega,g1⟩,⟨by omega,g2⟩,⟨by omega,g3⟩,l4,.inl (by omega),g4⟩
   ·rw [bg hr] at ls;rw [nd hr];have e1:s.next=[]:=List.eq_nil_of_length_eq_zero (by omega);have e2:s.mtch=[]:=List.eq_nil_of_length_eq_zero (by omega);have e3:s.sent=[]:=List.eq_nil_of_length_eq_zero (by omega);have e4:s.reads=[]:=List.eq_nil_of_length_eq_zero (by omega);rw [e1,e2,e3,e4];exact ⟨⟨rfl,fun x hx=>by cases hx⟩,⟨rfl,fun x hx=>by cases hx⟩,⟨rfl,fun x hx=>by cases hx⟩,by decide,.inr rfl,fun x hx=>by cases hx⟩
  obtain ⟨k1,k2,k3,k4,k5,k6⟩:=key;unfold gb da pq;simp only [Bool.and_eq_true,Bool.or_eq_true,decide_eq_true_eq,List.all_eq_true];exact ⟨⟨⟨⟨⟨⟨⟨⟨⟨⟨⟨⟨⟨⟨⟨⟨⟨⟨⟨⟨⟨⟨⟨⟨n.1,n.2⟩,eZ i⟩,eZ ro⟩,eZ te⟩,eZ vo⟩,eZ le⟩,lg⟩,sn⟩,by omega⟩,eZ el⟩,eZ ti⟩,eZ rn⟩,vs⟩,lt⟩,eZ co⟩,pa⟩,eZ po⟩,by omega⟩,k1⟩,k2⟩,k3⟩,k4⟩,k5⟩,k6⟩
theorem rr (s:Rf) (a:Ra) (w:World) (hrd:eD w s a) (hl:s.votes.length≤1000000∧s.next.length≤1000000∧s.mtch.length≤1000000∧s.sent.length≤1000000∧s.reads.length≤1000000∧∀ q∈s.reads,q.acks.length≤1000000) :
 Rt prog 95 [.agg (rfV s a).toArray] w (fun v w'=>v=.int .i64 (if gb s=true then 0 else 1)∧ai w w'):=by
 refine enter (n:=29) Tryz.func95 rfl rfl rfl (an (ag (cE (v:=.agg _) rfl ?_)));intro b1 w1 E1 hb1 hk1;refine asi rfl (ak (ah (an (an (ag (aa (aJ (cs:=rfV s a) aB au rfl ((hk1.from_ ai.rfl_).whole)) (aA qs (mO s a _) ?_)))))));rintro v4 w2 ⟨rfl,E4⟩;refine aa (cz rfl) (mvb rfl (aH (t:=6) rfl (fun Q3=>?_) (fun Q3=>?_)))
 ·replace Q3:=dz Q3;replace Q3:=dF_ Q3;have hNn:¬ ir s:=by first | exact Q3 | simpa using Q3
  refine ab rfl rfl (ab rfl rfl (ab rfl rfl (aa (aq (v:=.bool _) rfl rfl) (mvb rfl (ab rfl rfl (ab rfl rfl (ab rfl rfl (ab rfl rfl ?_))))))));refine ab rfl rfl (ab rfl rfl (aa (aq (v:=.bool _) rfl rfl) (mvb rfl (ab rfl rfl (ab rfl rfl (ab rfl rfl (aa (aq (v:=.bool _) rfl rfl) (mvb rfl ?_))))))));refine ab rfl rfl (ab rfl rfl (ab rfl rfl (aa (aq (v:=.bool _) rfl rfl) (ak (ah (aL rfl (an (ag (asi rfl (ak (ah (aD (aC ?_)))))))))))));refine bm (v:=.int _ _) rfl rfl (⟨br (by rw [if_neg (fun h=>by obtain ⟨g1,g2,g3,g4,g5⟩:=aU.1 h;first | exact hNn g1 | exact hLn g2 | exact hVn g3 | exact hSn g4 | exact hPn g5)]),((ai.rfl_.next E1).next E4)⟩)
 replace Q3:=dA Q3;replace Q3:=dT_ Q3;have hN:ir s:=by first | exact Q3 | simpa using Q3
 refine af rfl (aa (aJ (cs:=rfV s a) aB au rfl ((hk1.from_ (ai.rfl_.next E4)).whole)) (af rfl (aA qq (qw s a _ (hrd.e.from_ ((ai.rfl_.next E1).next E4))) ?_)));rintro v8 w4 ⟨rfl,E8⟩;refine af rfl (aa (cz rfl) (aa (ay (v:=.bool _) rfl rfl) (mvb rfl (aH (t:=11) rfl (fun Q5=>?_) (fun Q5=>?_)))))
 ·replace Q5:=dz Q5;replace Q5:=dF_ Q5;have hLn:¬ fW s:=by first | exact Q5 | simpa using Q5
  refine ab rfl rfl (ab rfl rfl (ab rfl rfl (ab rfl rfl (ab rfl rfl (ab rfl rfl (aa (aq (v:=.bool _) rfl rfl) (mvb rfl (ab rfl rfl ?_))))))));refine ab rfl rfl (ab rfl rfl (aa (aq (v:=.bool _) rfl rfl) (mvb rfl (ab rfl rfl (ab rfl rfl (ab rfl rfl (aa (aq (v:=.bool _) rfl rfl) (ak (ah ?_)))))))));refine aL rfl (an (ag (asi rfl (ak (ah (aD (aC (bm (v:=.int _ _) rfl rfl (⟨br (by rw [if_neg (fun h=>by obtain ⟨g1,g2,g3,g4,g5⟩:=aU.1 h;first | exact hNn g1 | exact hLn g2 | exact hVn g3 | exact hSn g4 | exact hPn g5)]),(((ai.rfl_.next E1).next E4).next E8)⟩)))))))))
 replace Q5:=dA Q5;replace Q5:=dT_ Q5;have hL:fW s:=by first | exact Q5 | simpa using Q5
 refine af rfl (aa (ae cP rfl) (af rfl (aa (ar aP rfl (by exact (show _=some (Value.slice a.V s.votes.length a.Vc) from (hk1.from_ ((ai.rfl_.next E4).next E8)).rd 14 rfl))) ?_)));refine af rfl (aa (ae bA rfl) (af rfl (aa (ar ao rfl (by exact (hk1.from_ ((ai.rfl_.next E4).next E8)).rd 1 rfl)) ?_)));refine af rfl (aA lB (o6 a.V a.Vc s.votes s.nodes _ (hrd.v.1.from_ (((ai.rfl_.next E1).next E4).next E8)) hl.1) ?_);rintro v16 w6 ⟨rfl,E16⟩;refine af rfl (aa (cz rfl) (aa (ay (v:=.bool _) rfl rfl) (mvb rfl (ym (t:=19) rfl (fun Q7=>?_) (fun Q7=>?_)))))
 ·have hVn:¬ fT s.votes s.nodes=true:=by first | exact Q7 | simpa using Q7
  refine ab rfl rfl (ab rfl rfl (ab rfl rfl (aa (aq (v:=.bool _) rfl rfl) (mvb rfl (ab rfl rfl (ab rfl rfl (ab rfl rfl (aa (aq (v:=.bool _) rfl rfl) ?_))))))));refine ak (ah (aL rfl (an (ag (asi rfl (ak (ah (aD (aC (bm (v:=.int _ _) rfl rfl (⟨br (by rw [if_neg (fun h=>by obtain ⟨g1,g2,g3,g4,g5⟩:=aU.1 h;first | exact hNn g1 | exact hLn g2 | exact hVn g3 | exact hSn g4 | exact hPn g5)]),((((ai.rfl_.next E1).next E4).next E8).next E16)⟩)))))))))))
 have hV:fT s.votes s.nodes=true:=by first | exact Q7 | simpa using Q7
 refine af rfl (aa (aJ (cs:=rfV s a) aB au rfl ((hk1.from_ (((ai.rfl_.next E4).next E8).next E16)).whole)) (af rfl (aA qp (oN s a _ (hrd.from_ ((((ai.rfl_.next E1).next E4).next E8).next E16)) hN hL hl.2) ?_)));rintro v21 w8 ⟨rfl,E21⟩;refine af rfl (aa (cz rfl) (aa (ay (v:=.bool _) rfl rfl) (mvb rfl (aH (t:=24) rfl (fun Q9=>?_) (fun Q9=>?_)))))
 ·replace Q9:=dz Q9;replace Q9:=dF_ Q9;have hSn:¬ kD s:=by first | exact Q9 | simpa using Q9
  refine ab rfl rfl (ab rfl rfl (ab rfl rfl (aa (aq (v:=.bool _) rfl rfl) (ak (ah (aL rfl (an (ag (asi rfl (ak (ah (aD (aC ?_)))))))))))));refine bm (v:=.int _ _) rfl rfl (⟨br (by rw [if_neg (fun h=>by obtain ⟨g1,g2,g3,g4,g5⟩:=aU.1 h;first | exact hNn g1 | exact hLn g2 | exact hVn g3 | exact hSn g4 | exact hPn g5)]),(((((ai.rfl_.next E1).next E4).next E8).next E16).next E21)⟩)
 replace Q9:=dA Q9;replace Q9:=dT_ Q9;have hS:kD s:=by first | exact Q9 | simpa using Q9
 refine af rfl (aa (aJ (cs:=rfV s a) aB au rfl ((hk1.from_ ((((ai.rfl_.next E4).next E8).next E16).next E21)).whole)) (af rfl (aA qo (pF s a _) ?_)));rintro v26 w10 ⟨rfl,E26⟩;refine af rfl (aa (cz rfl) (aa (ay (v:=.bool _) rfl rfl) (ak (ah (aY rfl (fun Q11=>?_) (fun Q11=>?_))))))
 ·replace Q11:=dz Q11;replace Q11:=dF_ Q11;have hPn:¬ gF s:=by first | exact Q11 | simpa using Q11
  refine an (ag (asi rfl (ak (ah (aD (aC (bm (v:=.int _ _) rfl rfl (⟨br (by rw [if_neg (fun h=>by obtain ⟨g1,g2,g3,g4,g5⟩:=aU.1 h;first | exact hNn g1 | exact hLn g2 | exact hVn g3 | exact hSn g4 | exact hPn g5)]),((((((ai.rfl_.next E1).next E4).next E8).next E16).next E21).next E26)⟩))))))))
 replace Q11:=dA Q11;replace Q11:=dT_ Q11;have hP:gF s:=by first | exact Q11 | simpa using Q11
 refine aO (ah (an (ag (asi rfl (ak (ah (aD (bm (v:=.int _ _) rfl rfl (⟨br (by rw [if_pos (aU.2 ⟨hN,hL,hV,hS,hP⟩)]),((((((ai.rfl_.next E1).next E4).next E8).next E16).next E21).next E26)⟩)))))))))
theorem rQ:prog.underlying 26=some (.slice 3):=by kernel_rfl
theorem ek:jj prog 27=some (54,4,48,(.agg #[.int .i64 0,.int .i64 0,.int .i64 0,.slice none 0 0])):=by kernel_rfl
theorem rP:prog.underlying 27=some (.slice 54):=by kernel_rfl
theorem rS:iR prog 91=some true:=by kernel_rfl
theorem km:ec prog 91=some 22:=by kernel_rfl
theorem mJ:kx prog 91=some (.agg #[.int .i64 0,.int .i64 0,.int .i64 0,.int .i64 0,.int .i64 0,.int .i64 0,.int .i64 0,.int .i64 0,.slice none 0 0,.string ⟨#[]⟩,.int .i64 0,.int .i64 0,.int .i64 0,.int .u64 0,.slice none 0 0,.slice none 0 0,.slice none 0 0,.slice none 0 0,.int .i64 0,.slice none 0 0,.string ⟨#[]⟩,.int .i64 0]):=by kernel_rfl
theorem er:aV prog 120=true:=by kernel_rfl
theorem gz:aV prog 136=true:=by kernel_rfl
theorem qt:aV prog 137=true:=by kernel_rfl
theorem oW:∀ (a0:Int) (a1:Int) (a2:Int) (a3:Int) (a4:Int) (a5:Int) (a6:Int) (a7:Int) (a8:Option Addr) (a9 a10:Nat) (a11:ByteArray) (a12:Int) (a13:Int) (a14:Int) (a15:Int) (a16:Option Addr) (a17 a18:Nat) (a19:Option Addr) (a20 a21:Nat) (a22:Option Addr) (a23 a24:Nat) (a25:Option Addr) (a26 a27:Nat) (a28:Int) (a29:Option Addr) (a30 a31:Nat) (a32:ByteArray) (a33:Int),prog.built 91 [(0,.agg #[.int .i64 a0,.int .i64 a1,.int .i64 a2,.int .i64 a3,.int .i64 a4,.int .i64 a5,.int .i64 a6,.int .i64 a7,.slice a8 a9 a10,.string a11,.int .i64 a12,.int .i64 a13,.int .i64 a14,.int .u64 a15,.slice a16 a17 a18,.slice a19 a20 a21,.slice a22 a23 a24,.slice a25 a26 a27,.int .i64 a28,.slice a29 a30 a31,.string a32,.int .i64 a33])]=some #[.int .i64 a0,.int .i64 a1,.int .i64 a2,.int .i64 a3,.int .i64 a4,.int .i64 a5,.int .i64 a6,.int .i64 a7,.slice a8 a9 a10,.string a11,.int .i64 a12,.int .i64 a13,.int .i64 a14,.int .u64 a15,.slice a16 a17 a18,.slice a19 a20 a21,.slice a22 a23 a24,.slice a25 a26 a27,.int .i64 a28,.slice a29 a30 a31,.string a32,.int .i64 a33]:=by intros;kernel_rfl
theorem mK:aV prog 95=true:=by kernel_rfl
theorem rR:aV prog 96=true:=by kernel_rfl
theorem oV:∀ (a0:Int) (a1:Int) (a2:Int) (a3:Int) (a4:Int) (a5:Int) (a6:Int) (a7:Int) (a8:Option Addr) (a9 a10:Nat) (a11:ByteArray) (a12:Int) (a13:Int) (a14:Int) (a15:Int) (a16:Option Addr) (a17 a18:Nat) (a19:Option Addr) (a20 a21:Nat) (a22:Option Addr) (a23 a24:Nat) (a25:Option Addr) (a26 a27:Nat) (a28:Int) (a29:Option Addr) (a30 a31:Nat) (a32:ByteArray) (a33:Int),prog.built 96 [(0,.agg #[.int .i64 a0,.int .i64 a1,.int .i64 a2,.int .i64 a3,.int .i64 a4,.int .i64 a5,.int .i64 a6,.int .i64 a7,.slice a8 a9 a10,.string a11,.int .i64 a12,.int .i64 a13,.int .i64 a14,.int .u64 a15,.slice a16 a17 a18,.slice a19 a20 a21,.slice a22 a23 a24,.slice a25 a26 a27,.int .i64 a28,.slice a29 a30 a31,.string a32,.int .i64 a33])]=some #[.int .i64 a0,.int .i64 a1,.int .i64 a2,.int .i64 a3,.int .i64 a4,.int .i64 a5,.int .i64 a6,.int .i64 a7,.slice a8 a9 a10,.string a11,.int .i64 a12,.int .i64 a13,.int .i64 a14,.int .u64 a15,.slice a16 a17 a18,.slice a19 a20 a21,.slice a22 a23 a24,.slice a25 a26 a27,.int .i64 a28,.slice a29 a30 a31,.string a32,.int .i64 a33,.slice none 0 0]:=by intros;kernel_rfl
theorem eC (A:Option Addr) (c n:Nat) (xs:List Value) (w:World) (hx:xs.length=n*1) (hr:0<n→∃ b o,A=some ⟨b,o,none⟩∧w.rangeAt b o xs) (hn0:A=none→n=0∧c=0) (h1:∀ u∈xs,u.oneCell'=true) (hl:n≤100000000000) :
 Rt prog 136 [.slice A n c] w (fun v w'=>(∃ A' c',v=.slice A' n c'∧w'.ownsRow w.heap.size 3 1 (.slice A' n c') n xs)∧ai w w'):=by
 refine enter (n:=8) Tryz.func136 rfl rfl rfl (an (ag (ass rfl (ak (ah (an (an (ag (mvs rfl (aa (nz rQ rfl rfl) (ak (ah (aY rfl (fun Q1=>?_) (fun Q1=>?_))))))))))))))
 ·(try first | (replace Q1 := dz Q1; trace "@MK N eC:c4+ 1.1") | (replace Q1 := dA Q1; trace "@MK N eC:c4+ 1.2"))
  (try first | (replace Q1 := jo Q1; trace "@MK N eC:c4+ 2.1") | (replace Q1 := jq Q1; trace "@MK N eC:c4+ 2.2") | (replace Q1 := fP Q1; trace "@MK N eC:c4+ 2.3") | (replace Q1 := fQ Q1; trace "@MK N eC:c4+ 2.4") | (replace Q1 := dT_ Q1; trace "@MK N eC:c4+ 2.5") | (replace Q1 := dF_ Q1; trace "@MK N eC:c4+ 2.6"))
  obtain rfl:A=none:=Option.isNone_iff_eq_none.1 Q1;obtain ⟨rfl,rfl⟩:=hn0 rfl;obtain rfl:xs=[]:=List.eq_nil_of_length_eq_zero (by omega);refine an (ag (ass rfl (ak (ah (aD (aC (bm (v:=.slice _ _ _) rfl rfl (⟨⟨none,0,rfl,World.ownsRow_nil _ _ _ _⟩,ai.rfl_⟩))))))))
 (try first | (replace Q1 := dz Q1; trace "@MK N eC:c4- 1.1") | (replace Q1 := dA Q1; trace "@MK N eC:c4- 1.2"))
 (try first | (replace Q1 := jo Q1; trace "@MK N eC:c4- 2.1") | (replace Q1 := jq Q1; trace "@MK N eC:c4- 2.2") | (replace Q1 := fP Q1; trace "@MK N eC:c4- 2.3") | (replace Q1 := fQ Q1; trace "@MK N eC:c4- 2.4") | (replace Q1 := dT_ Q1; trace "@MK N eC:c4- 2.5") | (replace Q1 := dF_ Q1; trace "@MK N eC:c4- 2.6"))
 have hA4:A=none→c=0:=fun h=>by rw [h] at Q1;cases Q1
 refine aO (ah (an (ag (s9 aX _ (ai.rfl_.size) ?_))));intro b5 w2 E5 hb5 ho5;refine mvs rfl ?_;refine lI (a0:=w) aX rfl (by decide) rfl ho5 (ai.rfl_.next E5) rfl hx (fun h=>(let ⟨b,o,hA,hc⟩:=hr h;⟨b,o,hA,eS (ai.rfl_.next E5) hc⟩)) hA4 h1 (by omega) (by omega) ?_;intro A7 c7 w3 ho7 B7 hg7;refine ass rfl (ak (ah (aD (bm (v:=.slice _ _ _) rfl rfl (⟨⟨A7,c7,by rw [Nat.zero_add],by simpa using ho7⟩,B7⟩)))))
theorem eB (A:Option Addr) (c n:Nat) (xs:List Value) (w:World) (hx:xs.length=n*4) (hr:0<n→∃ b o,A=some ⟨b,o,none⟩∧w.rangeAt b o xs) (hn0:A=none→n=0∧c=0) (h1:∀ u∈xs,u.oneCell'=true) (hl:n≤100000000000) :
 Rt prog 137 [.slice A n c] w (fun v w'=>(∃ A' c',v=.slice A' n c'∧w'.ownsRow w.heap.size 54 4 (.slice A' n c') n xs)∧ai w w'):=by
 refine enter (n:=8) Tryz.func137 rfl rfl rfl (an (ag (ass rfl (ak (ah (an (an (ag (mvs rfl (aa (nz rP rfl rfl) (ak (ah (aY rfl (fun Q1=>?_) (fun Q1=>?_))))))))))))))
 ·(try first | (replace Q1 := dz Q1; trace "@MK N eB:c4+ 1.1") | (replace Q1 := dA Q1; trace "@MK N eB:c4+ 1.2"))
  (try first | (replace Q1 := jo Q1; trace "@MK N eB:c4+ 2.1") | (replace Q1 := jq Q1; trace "@MK N eB:c4+ 2.2") | (replace Q1 := fP Q1; trace "@MK N eB:c4+ 2.3") | (replace Q1 := fQ Q1; trace "@MK N eB:c4+ 2.4") | (replace Q1 := dT_ Q1; trace "@MK N eB:c4+ 2.5") | (replace Q1 := dF_ Q1; trace "@MK N eB:c4+ 2.6"))
  obtain rfl:A=none:=Option.isNone_iff_eq_none.1 Q1;obtain ⟨rfl,rfl⟩:=hn0 rfl;obtain rfl:xs=[]:=List.eq_nil_of_length_eq_zero (by omega);refine an (ag (ass rfl (ak (ah (aD (aC (bm (v:=.slice _ _ _) rfl rfl (⟨⟨none,0,rfl,World.ownsRow_nil _ _ _ _⟩,ai.rfl_⟩))))))))
 (try first | (replace Q1 := dz Q1; trace "@MK N eB:c4- 1.1") | (replace Q1 := dA Q1; trace "@MK N eB:c4- 1.2"))
 (try first | (replace Q1 := jo Q1; trace "@MK N eB:c4- 2.1") | (replace Q1 := jq Q1; trace "@MK N eB:c4- 2.2") | (replace Q1 := fP Q1; trace "@MK N eB:c4- 2.3") | (replace Q1 := fQ Q1; trace "@MK N eB:c4- 2.4") | (replace Q1 := dT_ Q1; trace "@MK N eB:c4- 2.5") | (replace Q1 := dF_ Q1; trace "@MK N eB:c4- 2.6"))
 have hA4:A=none→c=0:=fun h=>by rw [h] at Q1;cases Q1
 refine aO (ah (an (ag (s9 ek _ (ai.rfl_.size) ?_))));intro b5 w2 E5 hb5 ho5;refine mvs rfl ?_;refine lI (a0:=w) ek rfl (by decide) rfl ho5 (ai.rfl_.next E5) rfl hx (fun h=>(let ⟨b,o,hA,hc⟩:=hr h;⟨b,o,hA,eS (ai.rfl_.next E5) hc⟩)) hA4 h1 (by omega) (by omega) ?_;intro A7 c7 w3 ho7 B7 hg7;refine ass rfl (ak (ah (aD (bm (v:=.slice _ _ _) rfl rfl (⟨⟨A7,c7,by rw [Nat.zero_add],by simpa using ho7⟩,B7⟩)))))
theorem jm (A:Option Addr) (c:Nat) (l:List Int) (w:World) (h:IR w A c l) (hl:l.length≤1000000):Rt prog 136 [.slice A l.length c] w fun v w'=>(∃ A' c',v=.slice A' l.length c'∧w'.ownsRow w.heap.size 3 1 (.slice A' l.length c') l.length (l.map iV))∧ai w w':=
 eC A c l.length (l.map iV) w (by simp) (fun h0=>by
  obtain ⟨b,o,hA,hc⟩:=h.1 h0;refine ⟨b,o,hA,fun j v hv=>?_⟩;rw [List.getElem?_map] at hv;cases hj:l[j]? with
  |none=>rw [hj] at hv;cases hv
  |some x=>
   obtain ⟨hjl,rfl⟩:=List.getElem?_eq_some_iff.1 hj;rw [hj] at hv;cases hv;exact hc j hjl) h.2.2.2 (fun u hu=>by obtain ⟨x,_,rfl⟩:=List.mem_map.1 hu;rfl) (by omega)
theorem uj (A:Option Addr) (c:Nat) (L:List (Rd×Option Addr×Nat)) (w:World) (h:gv 4 rdV w A L) (hn:A=none→L.length=0∧c=0) (hl:L.length≤1000000):Rt prog 137 [.slice A L.length c] w fun v w'=>(∃ A' c',v=.slice A' L.length c'∧w'.ownsRow w.heap.size 54 4 (.slice A' L.length c') L.length (L.flatMap rdV))∧ai w w':=
 eB A c L.length (L.flatMap rdV) w (lp gi L) (fun h0=>gv.flat gi h h0) hn (wk L) (by omega)
def lV (N O:List (Rd×Option Addr×Nat)):List (Rd×Option Addr×Nat):=N++O.drop N.length
def zS (s:Rf):Rf:={ s with es:=[],votes:=[],next:=[],mtch:=[],sent:=[],reads:=[] }
theorem iI {w w':World} {tag:Nat→Nat} {g d base e s n cc:Nat} {A:Option Addr} {xs:List Value} (hC:Chg (fun k=>k=g) w w') (hg:tag g=8) (hd:d≠8) (h:w.ownsRow base e s (.slice A n cc) n xs∧Col tag d A):w'.ownsRow base e s (.slice A n cc) n xs∧Col tag d A:=
 ⟨dB h.1 hC (fun k hk e=>hd ((h.2 k hk).symm.trans (by rw [show k=g from e];exact hg))),h.2⟩
theorem bF.chg8 {w w':World} {y g:Nat} {tag:Nat→Nat} {s:Rf} {a:Ra} (h:bF y w tag s a) (hC:Chg (fun k=>k=g) w w') (hg:tag g=8):bF y w' tag s a:=
 ⟨fun hx=>iI hC hg (by decide) (h.e hx),fun hx=>iI hC hg (by decide) (h.v hx),fun hx=>iI hC hg (by decide) (h.x hx),fun hx=>iI hC hg (by decide) (h.m hx),fun hx=>iI hC hg (by decide) (h.n hx),h.r,fun hx=>iI hC hg (by decide) (h.q hx),fun i hi hx=>iI hC hg (by omega) (h.k i hi hx)⟩
theorem pk:∀ (N O:List (Rd×Option Addr×Nat)) (x:Rd×Option Addr×Nat) (A:Option Addr) (c:Nat),((N++x::O).flatMap rdV).set (N.length*4+3) (.slice A x.1.acks.length c)=((N++(x.1,A,c)::O).flatMap rdV)
 |[],O,x,A,c=>rfl
 |y::N,O,x,A,c=>by
  have ih:=pk N O x A c;show (rdV y++(N++x::O).flatMap rdV).set ((N.length+1)*4+3) _=rdV y++(N++(x.1,A,c)::O).flatMap rdV;rw [List.set_append_right _ _ (by rw [gi];omega),gi,show (N.length+1)*4+3-4=N.length*4+3 by omega,ih]
theorem wx {N O:List (Rd×Option Addr×Nat)} (h:N.length<O.length):lV N O=N++O[N.length]::O.drop (N.length+1):=by
 unfold lV;rw [List.drop_eq_getElem_cons h]
theorem vd {N O:List (Rd×Option Addr×Nat)} (h:N.length<O.length) (A:Option Addr) (c:Nat):((lV N O).flatMap rdV).set (N.length*4+3) (.slice A O[N.length].1.acks.length c)=(lV (N++[(O[N.length].1,A,c)]) O).flatMap rdV:=by
 rw [wx h,pk];unfold lV;rw [List.length_append,List.length_singleton,List.append_assoc];rfl
theorem ve {N O:List (Rd×Option Addr×Nat)} (h:N.length=O.length):lV N O=N:=by unfold lV;rw [h,List.drop_length,List.append_nil]
theorem nP {N O:List (Rd×Option Addr×Nat)} (h:N.length≤O.length):(lV N O).length=O.length:=by unfold lV;rw [List.length_append,List.length_drop];omega
theorem ui (s:Rf) (a:Ra) (w:World) (hrd:eD w s a) (hl:s.votes.length≤1000000∧s.next.length≤1000000∧s.mtch.length≤1000000∧s.sent.length≤1000000∧s.reads.length≤1000000∧∀ q∈s.reads,q.acks.length≤1000000) (hel:s.es.length≤1000000) :
 Rt prog 96 [.agg (rfV s a).toArray] w (fun v w'=>(∃ tag a',v=.agg (rfV s a').toArray∧aR w' tag s a'∧∀ k,k<w.heap.size→tag k=8)∧ai w w'):=by
 obtain ⟨E,Ec,V,Vc,X,Xc,M,Mc,Sn,Sc,Q,Qc,LL⟩:=a;obtain ⟨hl1,hl2,hl3,hl4,hl5,hl6⟩:=hl;have hrL:LL.map (fun q=>q.1)=s.reads:=hrd.r;have hrk:∀ q∈LL,IR w q.2.1 q.2.2 q.1.acks:=hrd.k;have hrq:gv 4 rdV w Q LL:=hrd.q;have hqn:Q=none→LL.length=0∧Qc=0:=hrd.qc.2.2;have hLl:LL.length=s.reads.length:=by rw [←hrL,List.length_map]
 have hqm:LL.length≤1000000:=by omega
 refine enter (n:=51) Tryz.func96 rfl rfl rfl (an (ag (cE (v:=.agg _) rfl ?_)));intro b1 w1 E1 hb1 hk1;refine bw mJ ?_;intro b2 w2 E2 hb2 hk2;have hg1:w.heap.size≤b1:=Nat.le_of_eq hb1.symm;have h12:b1<b2:=by have:=hk1.lt;omega
 have hg2:w.heap.size≤b2:=by omega
 have hk2z:Blk w2 b2 91 ((.agg #[.int .i64 0,.int .i64 0,.int .i64 0,.int .i64 0,.int .i64 0,.int .i64 0,.int .i64 0,.int .i64 0,.slice none 0 0,.string ⟨#[]⟩,.int .i64 0,.int .i64 0,.int .i64 0,.int .u64 0,.slice none 0 0,.slice none 0 0,.slice none 0 0,.slice none 0 0,.int .i64 0,.slice none 0 0,.string ⟨#[]⟩,.int .i64 0]):Value).cells:=hk2;have ht0:∀ k,k≤b2→(fun _:Nat=>8) k=8:=fun _ _=>rfl
 refine ak (ah (an (ag (aa (ae bk rfl) (aa (ae bt rfl) (aa (ar bD rfl (by exact (show _=some (Value.slice E s.es.length Ec) from (hk1.from_ (ai.rfl_.next E2)).rd 8 rfl))) ?_))))));have hN7:ai _ w2:=(ai.rfl_.next E2);have hk2c:=hk2z.from_ (ai.rfl_ (a:=w2));have hlt7:=hk2c.lt;have hf0:aR w2 (fun _=>8) ({ s with es:=[],votes:=[],next:=[],mtch:=[],sent:=[],reads:=[] }:Rf) a0:=aR.same aR.zero rfl rfl rfl rfl rfl rfl;refine aA er (rq E s.es.length Ec s.es _ (hrd.e.from_ ((ai.rfl_.next E1).next E2)) (by omega)) ?_;rintro v7 w3 ⟨A7,c7,rfl,ho7,E7⟩;obtain ⟨tag1,hf1,ht1⟩:∃ t,aR w3 t ({ s with es:=s.es,votes:=[],next:=[],mtch:=[],sent:=[],reads:=[] }:Rf) (⟨A7,c7,none,0,none,0,none,0,none,0,none,0,[]⟩:Ra)∧(∀ k,k≤b2→t k=8):=⟨_,bF.log (aR.but (c:=0) hf0 (ai.toChg E7)) s.b s.t rfl (ez ho7 (Nat.zero_le _)) (fun k hk=>cW (dM ho7 k hk).1),fun k hk=>(bZ (by omega)).trans (ht0 k hk)⟩;refine aa (ae bk rfl) (aa (ae bt rfl) ?_);have hS1:ai _ w3:=ai.rfl_;refine cj (s':=s) (a':=(⟨A7,c7,V,Vc,X,Xc,M,Mc,Sn,Sc,Q,Qc,LL⟩:Ra)) (v:=.slice _ _ _) oA rfl rfl rfl ((hk1.from_ ((hN7.next E7).next ai.rfl_))) (by exact ⟨by decide,rfl⟩) ?_;intro w4 O1_0 P1_0;replace hf1:=(hf1.from_ hS1).chg8 (O1_0.toChg rfl) (ht1 b1 (by omega));replace hk2z:=(hk2c.from_ (E7.next hS1)).only O1_0 (by omega);refine ak (ah (an (ag (aa (ae cP rfl) (aa (ar aP rfl (by exact (show _=some (Value.slice V s.votes.length Vc) from (P1_0.from_ ai.rfl_).rd 14 rfl))) ?_)))));have hN12:ai _ w4:=ai.rfl_;have hk2c:=hk2z.from_ ai.rfl_;have hlt12:=hk2c.lt;have hf1n:=hf1.from_ ai.rfl_;refine aA gz (jm V Vc s.votes _ (IR.from_ hrd.v ((((ai.rfl_.next E1).next E2).next E7).only O1_0 (hg1))) hl1) ?_;rintro v12 w5 ⟨⟨A12,c12,rfl,ho12⟩,E12⟩;obtain ⟨tag2,hf2,ht2⟩:∃ t,aR w5 t ({ s with es:=s.es,votes:=s.votes,next:=[],mtch:=[],sent:=[],reads:=[] }:Rf) (⟨A7,c7,A12,c12,none,0,none,0,none,0,none,0,[]⟩:Ra)∧(∀ k,k≤b2→t k=8):=⟨_,bF.votes (aR.but (c:=1) hf1n (ai.toChg E12)) rfl (ez ho12 (Nat.zero_le _)) (fun k hk=>cW (dM ho12 k hk).1),fun k hk=>(bZ (by omega)).trans (ht1 k hk)⟩;refine aa (ae cP rfl) ?_;have hS2:ai _ w5:=ai.rfl_;refine cj (s':=s) (a':=(⟨A7,c7,A12,c12,X,Xc,M,Mc,Sn,Sc,Q,Qc,LL⟩:Ra)) (v:=.slice _ _ _) cH rfl rfl rfl ((P1_0.from_ ((hN12.next E12).next ai.rfl_))) (by exact ⟨by decide,rfl⟩) ?_;intro w6 O2_0 P2_0;replace hf2:=(hf2.from_ hS2).chg8 (O2_0.toChg rfl) (ht2 b1 (by omega));replace hk2z:=(hk2c.from_ (E12.next hS2)).only O2_0 (by omega);refine ak (ah (an (ag (aa (ae bN rfl) (aa (ar aP rfl (by exact (show _=some (Value.slice X s.next.length Xc) from (P2_0.from_ ai.rfl_).rd 15 rfl))) ?_)))));have hN16:ai _ w6:=ai.rfl_;have hk2c:=hk2z.from_ ai.rfl_;have hlt16:=hk2c.lt;have hf2n:=hf2.from_ ai.rfl_;refine aA gz (jm X Xc s.next _ (IR.from_ hrd.x ((((((ai.rfl_.next E1).next E2).next E7).only O1_0 (hg1)).next E12).only O2_0 (hg1))) hl2) ?_;rintro v16 w7 ⟨⟨A16,c16,rfl,ho16⟩,E16⟩;obtain ⟨tag3,hf3,ht3⟩:∃ t,aR w7 t ({ s with es:=s.es,votes:=s.votes,next:=s.next,mtch:=[],sent:=[],reads:=[] }:Rf) (⟨A7,c7,A12,c12,A16,c16,none,0,none,0,none,0,[]⟩:Ra)∧(∀ k,k≤b2→t k=8):=⟨_,bF.next (aR.but (c:=2) hf2n (ai.toChg E16)) rfl (ez ho16 (Nat.zero_le _)) (fun k hk=>cW (dM ho16 k hk).1),fun k hk=>(bZ (by omega)).trans (ht2 k hk)⟩;refine aa (ae bN rfl) ?_;have hS3:ai _ w7:=ai.rfl_;refine cj (s':=s) (a':=(⟨A7,c7,A12,c12,A16,c16,M,Mc,Sn,Sc,Q,Qc,LL⟩:Ra)) (v:=.slice _ _ _) cH rfl rfl rfl ((P2_0.from_ ((hN16.next E16).next ai.rfl_))) (by exact ⟨by decide,rfl⟩) ?_;intro w8 O3_0 P3_0;replace hf3:=(hf3.from_ hS3).chg8 (O3_0.toChg rfl) (ht3 b1 (by omega));replace hk2z:=(hk2c.from_ (E16.next hS3)).only O3_0 (by omega);refine ak (ah (an (ag (aa (ae bX rfl) (aa (ar aP rfl (by exact (show _=some (Value.slice M s.mtch.length Mc) from (P3_0.from_ ai.rfl_).rd 16 rfl))) ?_)))));have hN20:ai _ w8:=ai.rfl_;have hk2c:=hk2z.from_ ai.rfl_;have hlt20:=hk2c.lt;have hf3n:=hf3.from_ ai.rfl_;refine aA gz (jm M Mc s.mtch _ (IR.from_ hrd.m ((((((((ai.rfl_.next E1).next E2).next E7).only O1_0 (hg1)).next E12).only O2_0 (hg1)).next E16).only O3_0 (hg1))) hl3) ?_;rintro v20 w9 ⟨⟨A20,c20,rfl,ho20⟩,E20⟩;obtain ⟨tag4,hf4,ht4⟩:∃ t,aR w9 t ({ s with es:=s.es,votes:=s.votes,next:=s.next,mtch:=s.mtch,sent:=[],reads:=[] }:Rf) (⟨A7,c7,A12,c12,A16,c16,A20,c20,none,0,none,0,[]⟩:Ra)∧(∀ k,k≤b2→t k=8):=⟨_,bF.mtch (aR.but (c:=3) hf3n (ai.toChg E20)) rfl (ez ho20 (Nat.zero_le _)) (fun k hk=>cW (dM ho20 k hk).1),fun k hk=>(bZ (by omega)).trans (ht3 k hk)⟩;refine aa (ae bX rfl) ?_;have hS4:ai _ w9:=ai.rfl_;refine cj (s':=s) (a':=(⟨A7,c7,A12,c12,A16,c16,A20,c20,Sn,Sc,Q,Qc,LL⟩:Ra)) (v:=.slice _ _ _) cH rfl rfl rfl ((P3_0.from_ ((hN20.next E20).next ai.rfl_))) (by exact ⟨by decide,rfl⟩) ?_;intro w10 O4_0 P4_0;replace hf4:=(hf4.from_ hS4).chg8 (O4_0.toChg rfl) (ht4 b1 (by omega));replace hk2z:=(hk2c.from_ (E20.next hS4)).only O4_0 (by omega);refine ak (ah (an (ag (aa (ae bS rfl) (aa (ar aP rfl (by exact (show _=some (Value.slice Sn s.sent.length Sc) from (P4_0.from_ ai.rfl_).rd 17 rfl))) ?_)))));have hN24:ai _ w10:=ai.rfl_;have hk2c:=hk2z.from_ ai.rfl_;have hlt24:=hk2c.lt;have hf4n:=hf4.from_ ai.rfl_;refine aA gz (jm Sn Sc s.sent _ (IR.from_ hrd.n ((((((((((ai.rfl_.next E1).next E2).next E7).only O1_0 (hg1)).next E12).only O2_0 (hg1)).next E16).only O3_0 (hg1)).next E20).only O4_0 (hg1))) hl4) ?_;rintro v24 w11 ⟨⟨A24,c24,rfl,ho24⟩,E24⟩;obtain ⟨tag5,hf5,ht5⟩:∃ t,aR w11 t ({ s with es:=s.es,votes:=s.votes,next:=s.next,mtch:=s.mtch,sent:=s.sent,reads:=[] }:Rf) (⟨A7,c7,A12,c12,A16,c16,A20,c20,A24,c24,none,0,[]⟩:Ra)∧(∀ k,k≤b2→t k=8):=⟨_,bF.sent (aR.but (c:=4) hf4n (ai.toChg E24)) rfl (ez ho24 (Nat.zero_le _)) (fun k hk=>cW (dM ho24 k hk).1),fun k hk=>(bZ (by omega)).trans (ht4 k hk)⟩;refine aa (ae bS rfl) ?_;have hS5:ai _ w11:=ai.rfl_;refine cj (s':=s) (a':=(⟨A7,c7,A12,c12,A16,c16,A20,c20,A24,c24,Q,Qc,LL⟩:Ra)) (v:=.slice _ _ _) cH rfl rfl rfl ((P4_0.from_ ((hN24.next E24).next ai.rfl_))) (by exact ⟨by decide,rfl⟩) ?_;intro w12 O5_0 P5_0;replace hf5:=(hf5.from_ hS5).chg8 (O5_0.toChg rfl) (ht5 b1 (by omega));replace hk2z:=(hk2c.from_ (E24.next hS5)).only O5_0 (by omega);refine ak (ah (an (ag (aa (ae bc rfl) (aa (ar bo rfl (by exact (show _=some (Value.slice Q LL.length Qc) from (P5_0.from_ ai.rfl_).rd 19 rfl))) ?_)))));have hN28:ai _ w12:=ai.rfl_;have hk2c:=hk2z.from_ ai.rfl_;have hlt28:=hk2c.lt;have hf5n:=hf5.from_ ai.rfl_;refine aA qt (uj Q Qc LL _ (hrq.from_ ((((((((((((ai.rfl_.next E1).next E2).next E7).only O1_0 (hg1)).next E12).only O2_0 (hg1)).next E16).only O3_0 (hg1)).next E20).only O4_0 (hg1)).next E24).only O5_0 (hg1))) hqn hqm) ?_;rintro v28 w13 ⟨⟨A28,c28,rfl,ho28⟩,E28⟩;obtain ⟨tag6,hg6,ht6,hc6⟩:∃ t,bF 5 w13 t ({ s with es:=s.es,votes:=s.votes,next:=s.next,mtch:=s.mtch,sent:=s.sent,reads:=[] }:Rf) (⟨A7,c7,A12,c12,A16,c16,A20,c20,A24,c24,none,0,[]⟩:Ra)∧(∀ k,k≤b2→t k=8)∧Col t 5 A28:=⟨_,aR.but (c:=5) hf5n (ai.toChg E28),fun k hk=>(bZ (by omega)).trans (ht5 k hk),fun k hk=>cW (dM ho28 k hk).1⟩;refine aa (ae bc rfl) ?_;have hS6:ai _ w13:=ai.rfl_;refine cj (s':=s) (a':=(⟨A7,c7,A12,c12,A16,c16,A20,c20,A24,c24,A28,c28,LL⟩:Ra)) (v:=.slice _ _ _) fU rfl rfl rfl ((P5_0.from_ ((hN28.next E28).next ai.rfl_))) (by exact ⟨by decide,rfl⟩) ?_;intro w14 O6_0 P6_0;replace hg6:=(hg6.from_ hS6).chg8 (O6_0.toChg rfl) (ht6 b1 (by omega));have hr6:=gJ (ez (base':=0) (ho28.kept_from hS6) (Nat.zero_le _)) O6_0 (fun k hk e=>by have:=hc6 k hk;rw [e,ht6 b1 (by omega)] at this;cases this);replace hk2z:=(hk2c.from_ (E28.next hS6)).only O6_0 (by omega);refine ak (ah (an (an (ag (aa (ae bc rfl) (aa (ar bo rfl (by exact (show _=some (Value.slice A28 LL.length c28) from (P6_0.from_ ai.rfl_).rd 19 rfl))) ?_))))));refine aa (bu bW rfl) (mvi rfl (ak (ah (aZ (ct (G:=List (Rd×Option Addr×Nat)×(Nat→Nat)) [3,34,35,36,37,38,39,40,41,42,43,44,45,46,47,48] (fun (N,tg)=>[(33,.int .i64 (N.length:Nat))]) (fun (N,tg) w'=>N.length≤LL.length∧(∀ i (h:i<N.length) (h2:i<LL.length),N[i].1=LL[i].1)∧bF 5 w' tg ({ s with es:=s.es,votes:=s.votes,next:=s.next,mtch:=s.mtch,sent:=s.sent,reads:=[] }:Rf) (⟨A7,c7,A12,c12,A16,c16,A20,c20,A24,c24,none,0,N⟩:Ra)∧(∀ k,k≤b2→tg k=8)∧Col tg 5 A28∧w'.ownsRow 0 54 4 (.slice A28 LL.length c28) LL.length ((lV N LL).flatMap rdV)∧Blk w' b1 29 (rfV s (⟨A7,c7,A12,c12,A16,c16,A20,c20,A24,c24,A28,c28,LL⟩:Ra)).toArray∧Blk w' b2 91 ((.agg #[.int .i64 0,.int .i64 0,.int .i64 0,.int .i64 0,.int .i64 0,.int .i64 0,.int .i64 0,.int .i64 0,.slice none 0 0,.string ⟨#[]⟩,.int .i64 0,.int .i64 0,.int .i64 0,.int .u64 0,.slice none 0 0,.slice none 0 0,.slice none 0 0,.slice none 0 0,.int .i64 0,.slice none 0 0,.string ⟨#[]⟩,.int .i64 0]):Value).cells∧ai w w') (fun (N,_)=>LL.length-N.length) (([],tag6)) ⟨rfl,trivial⟩ ?_ ?_)))))
 ·exact ⟨Nat.zero_le _,fun i h=>absurd h (Nat.not_lt_zero _),hg6.from_ ai.rfl_,ht6,hc6,hr6.kept_from ai.rfl_,P6_0.from_ ai.rfl_,hk2z.from_ ai.rfl_,((((((((((((((ai.rfl_.next E1).next E2).next E7).only O1_0 (hg1)).next E12).only O2_0 (hg1)).next E16).only O3_0 (hg1)).next E20).only O4_0 (hg1)).next E24).only O5_0 (hg1)).next E28).only O6_0 (hg1))⟩
 rintro ⟨N,tg⟩ ρ15 w15 ⟨hNl,hNe,hgN,htN,hcN,hrN,hbN,hk2N,hBN⟩;refine an (ag (aa (bU rfl rfl) (ak (ah (an (yS rfl (fun Q16=>?_) (fun Q16=>?_)))))))
 ·have hNL:N.length<LL.length:=by omega
  have hqk:LL[N.length].1∈s.reads:=by rw [←hrL];exact List.mem_map_of_mem (List.getElem_mem hNL)
  obtain ⟨g28,rfl⟩:=eH hrN (by omega);obtain ⟨z9,hz9⟩:∃ z,z=(w15).heap.size:=⟨_,rfl⟩
  have hc44:(w15).cell? ⟨g28,0+N.length*4+3,none⟩=some (.slice LL[N.length].2.1 LL[N.length].1.acks.length LL[N.length].2.2):=by
   obtain ⟨b9,o9,he9,hcs⟩:=(gv.own gi (by decide) hrN).2 (by rw [nP hNl];omega);cases he9;have h9:=hcs N.length (by rw [nP hNl];omega)
   have hm9:(lV N LL)[N.length]'(by rw [nP hNl];omega)=LL[N.length]:=by
    unfold lV;rw [List.getElem_append_right (Nat.le_refl _)];simp
   rw [hm9] at h9;exact h9 3 _ rfl
  have htg28:tg g28=5:=hcN g28 rfl
  have hg28:b2<g28:=by
   rcases Nat.lt_or_ge b2 g28 with e | e
   ·exact e
   ·have:=htN g28 e;omega
  refine aO (ah (an (aZ (an (ag (mvi rfl (asi rfl (ak (ah ?_)))))))));apply dR 12 [(36,eqp _),(37,eqp (.slice (some ⟨g28,0,none⟩) LL.length c28)),(38,eqp _),(39,eqp _),(40,eqp (.slice (some ⟨g28,0,none⟩) LL.length c28)),(41,eqp _),(42,eqp _),(43,eqp _),(44,eqp (.slice LL[N.length].2.1 LL[N.length].1.acks.length LL[N.length].2.2)),(45,fun v w'=>∃ A' c',v=.slice A' LL[N.length].1.acks.length c'∧w'.ownsRow z9 3 1 (.slice A' LL[N.length].1.acks.length c') LL[N.length].1.acks.length (LL[N.length].1.acks.map iV)),(46,eqp _),(47,eqp _)] (by repeat first | exact ep | refine en ?_ | refine dS ?_) (by kernel_rfl) (by kernel_rfl) ⟨av _,av _,av _,av _,av _,av _,av _,av _,av _,(fun _ _ _ hF ⟨a,b,h1,h2⟩=>⟨a,b,h1,h2.kept_from hF⟩),av _,av _,trivial⟩
  case hop=>
   constructor
   ·rintro-w18 D18;exact az (ae bc rfl) rfl
   constructor
   ·rintro-w19 D19;rintro _ rfl;exact az (ar bo rfl (by exact (show _=some (Value.slice (some ⟨g28,0,none⟩) LL.length c28) from (hbN.from_ (ai.rfl_.next D19)).rd 19 rfl))) rfl
   constructor
   ·rintro-w20 D20;exact az (aM (v:=.int _ _) rfl) rfl
   constructor
   ·rintro-w21 D21;exact az (ae bc rfl) rfl
   constructor
   ·rintro-w22 D22;rintro _ rfl;exact az (ar bo rfl (by exact (show _=some (Value.slice (some ⟨g28,0,none⟩) LL.length c28) from (hbN.from_ (ai.rfl_.next D22)).rd 19 rfl))) rfl
   constructor
   ·rintro-w23 D23;exact az (aM (v:=.int _ _) rfl) rfl
   constructor
   ·rintro-w24 D24;rintro v24_40 rfl _ rfl;exact az (bR de rfl rfl (by omega)) rfl
   constructor
   ·rintro-w25 D25;rintro _ rfl;exact az (ae cZ rfl) rfl
   constructor
   ·rintro-w26 D26;rintro _ rfl;exact az (ar aP rfl (by exact ei (ai.rfl_.next D26) hc44)) rfl
   constructor
   ·rintro-w27 D27;rintro v27_44 rfl;refine fK gz ((jm LL[N.length].2.1 LL[N.length].2.2 LL[N.length].1.acks _ ((hrk _ (List.getElem_mem hNL)).from_ (hBN.next D27)) (hl6 _ hqk)).mono ?_);rintro v w9 ⟨⟨a,b,rfl,ho⟩,hF9⟩;exact ⟨hF9,a,b,rfl,ez ho (by rw [hz9];exact ((ai.rfl_.next D27)).size)⟩
   constructor
   ·rintro-w28 D28;rintro v28_37 rfl _ rfl;exact az (bR de rfl rfl (by omega)) rfl
   constructor
   ·rintro-w29 D29;rintro _ rfl;exact az (ae cZ rfl) rfl
   exact trivial
  case hend=>
   intro w30 D30;rintro _ rfl v37 rfl _ rfl _ rfl v40 rfl _ rfl _ rfl _ rfl v44 rfl v45 ⟨A45,c45,rfl,ho45⟩ _ rfl _ rfl;show St ..;have hM10:ai _ w30:=(ai.rfl_.next D30);refine r8 (o:=N.length*4+3) cH (by show Value.pointer (some ⟨g28,0+N.length*4+3,none⟩)=_;rw [Nat.zero_add]) rfl rfl (hrN.kept_from (ai.rfl_.next D30)) (by omega) ?_;intro w31 O10 P10;have hlt9:=hrN.lt g28 rfl;obtain ⟨tg2,hg2n,ht2n,hc2n⟩:∃ t,bF 5 w31 t ({ s with es:=s.es,votes:=s.votes,next:=s.next,mtch:=s.mtch,sent:=s.sent,reads:=[] }:Rf) (⟨A7,c7,A12,c12,A16,c16,A20,c20,A24,c24,none,0,(N++[(LL[N.length].1,A45,c45)])⟩:Ra)∧(∀ k,k≤b2→t k=8)∧Col t 5 (some ⟨g28,0,none⟩):=⟨_,bF.five (bF.ack (q:=LL[N.length].1) (A:=A45) (c:=c45) hgN hM10 (by rw [←hz9];exact ho45)) O10 ((bZ hlt9.2).trans htg28),fun k hk=>(bZ (by omega)).trans (htN k hk),fun k hk=>by cases hk;exact (bZ hlt9.2).trans htg28⟩
   have hr2n:(w31).ownsRow 0 54 4 (.slice (some ⟨g28,0,none⟩) LL.length c28) LL.length ((lV (N++[(LL[N.length].1,A45,c45)]) LL).flatMap rdV):=by
    rw [←vd hNL];exact P10
   have hb2n:=(hbN.from_ hM10).only O10 (by omega);have hk2n:=(hk2N.from_ hM10).only O10 (by omega);refine ak (bH (ah (ag (aa (bE rfl rfl (by omega)) (mvi rfl (ak ?_))))));refine cG (((N++[(LL[N.length].1,A45,c45)]),tg2)) ⟨br (by rw [List.length_append,List.length_singleton];omega),trivial⟩ (by (iterate 34 refine bQ rfl ?_);exact cf) ⟨?_,?_⟩
   ·refine ⟨by rw [List.length_append,List.length_singleton];omega,fun i h h2=>?_,hg2n.from_ ai.rfl_,ht2n,hc2n,hr2n.kept_from ai.rfl_,hb2n.from_ ai.rfl_,hk2n.from_ ai.rfl_,((hBN.next D30).only O10 (by omega))⟩;rcases Nat.lt_or_ge i N.length with e | e
    ·rw [List.getElem_append_left e];exact hNe i e h2
    ·obtain rfl:i=N.length:=by rw [List.length_append,List.length_singleton] at h;omega
     simp only [List.getElem_append_right (Nat.le_refl _),Nat.sub_self,List.getElem_singleton]
   ·show LL.length-(N++[_]).length<LL.length-N.length;rw [List.length_append,List.length_singleton];omega
 refine cd (bd (bd (bL (ah (an (ag (aa (aJ (cs:=rfV s (⟨A7,c7,A12,c12,A16,c16,A20,c20,A24,c24,A28,c28,LL⟩:Ra)) aB au rfl ((hbN.from_ ai.rfl_).whole)) (aa (cp (l:=[(0,.tmp 49)]) (oW _ _ _ _ _ _ _ _ _ _ _ _ _ _ _ _ _ _ _ _ _ _ _ _ _ _ _ _ _ _ _ _ _ _)) ?_))))))));have hM12:ai _ w15:=ai.rfl_;refine bK (vs:=[_,_,_,_,_,_,_,_,_,_,_,_,_,_,_,_,_,_,_,_,_,_]) km rfl rfl (by simp [Value.oneCell']) ((hk2N.from_ ai.rfl_)) rfl ?_;intro w32 O12 P12;refine ak (ah (aD (qH rfl (cS (cs:=[_,_,_,_,_,_,_,_,_,_,_,_,_,_,_,_,_,_,_,_,_,_]) rS km rfl (by exact P12.whole)) ?_)));have hNf:N.length=LL.length:=by omega
 have e9:N.map (fun q=>q.1)=s.reads:=by
  rw [←hrL];refine List.ext_getElem (by simp [hNf]) fun i h1 h2=>?_
  simp only [List.getElem_map];exact hNe i (by simpa using h1) (by simpa using h2)
 have hfin:=bF.reads hgN (A:=A28) (c:=c28) (n:=LL.length) hNf.symm (by rw [ve hNf] at hrN;exact hrN) hcN;rw [show ((⟨A7,c7,A12,c12,A16,c16,A20,c20,A24,c24,none,0,N⟩:Ra)).L=N from rfl,e9] at hfin;exact ⟨⟨tg,(⟨A7,c7,A12,c12,A16,c16,A20,c20,A24,c24,A28,c28,N⟩:Ra),(by show Value.agg (rfV s (⟨A7,c7,A12,c12,A16,c16,A20,c20,A24,c24,A28,c28,LL⟩:Ra)).toArray=Value.agg (rfV s (⟨A7,c7,A12,c12,A16,c16,A20,c20,A24,c24,A28,c28,N⟩:Ra)).toArray;unfold rfV;simp only [hNf]),bF.chg8 (bF.from_ hfin hM12) (O12.toChg rfl) (htN b2 (Nat.le_refl _)),fun k hk=>htN k (by omega)⟩,(hBN.only O12 (hg2))⟩
theorem qB {w w1 w':World} {g T:Nat} {tag:Nat→Nat} {s:Rf} {a:Ra} (hF:ai w w1) (hf:aR w1 tag s a) (ht:∀ k,k<w.heap.size→tag k=8) (hE:ai w1 w') (hg:g=w1.heap.size) (hb:Blk w' g T (rfV s a++[Value.slice none 0 0]).toArray):bn w (fun k=>k<w.heap.size) w' T g ⟨s,[]⟩:=by
 subst hg;have hz:=hF.size;refine ⟨⟨eW w1.heap.size 7 tag,a,none,0,[],⟨hb,(hf.re 7).from_ hE,⟨World.ownsRow_nil _ _ _ _,rfl,fun j hj=>absurd hj (Nat.not_lt_zero _),Col.none⟩,cW (Nat.le_refl _),fun k hk=>(bZ (Nat.lt_of_lt_of_le hk hz)).trans (ht k hk)⟩⟩,fun k hk=>hk,(hF.next hE).toChg⟩
theorem oi (s:Rf) (a:Ra) (w:World) (hrd:eD w s a) (hl:s.votes.length≤1000000∧s.next.length≤1000000∧s.mtch.length≤1000000∧s.sent.length≤1000000∧s.reads.length≤1000000∧∀ q∈s.reads,q.acks.length≤1000000) (_:s.es.length≤1000000) (hm:gb s=false) :
 Rt prog 55 [.agg (rfV s a).toArray] w (fun v w'=>v=.tuple #[.pointer none,.int .i64 1]∧ai w w'):=by
 refine enter (n:=11) Tryz.func55 rfl rfl rfl (an (ag (cE (v:=.agg _) rfl ?_)));intro b1 w1 E1 hb1 hk1;refine asp rfl (asi rfl (ak (ah (an (an (ag (aa (aJ (cs:=rfV s a) aB au rfl ((hk1.from_ ai.rfl_).whole)) (aA mK (rr s a _ (hrd.from_ (ai.rfl_.next E1)) hl) ?_))))))));rintro v5 w2 ⟨rfl,E5⟩;refine aa (dv (dp rfl rfl) (by rw [hm];rfl)) ?_;refine ak (ah (aL rfl (an (ag (asp rfl (asi rfl (ak (ah (aD (aC (nD (v:=.pointer _) (v':=.int _ _) rfl rfl rfl (⟨rfl,((ai.rfl_.next E1).next E5)⟩))))))))))))
theorem lu (s:Rf) (a:Ra) (w:World) (hrd:eD w s a) (hl:s.votes.length≤1000000∧s.next.length≤1000000∧s.mtch.length≤1000000∧s.sent.length≤1000000∧s.reads.length≤1000000∧∀ q∈s.reads,q.acks.length≤1000000) (hel:s.es.length≤1000000) (hm:gb s=true) :
 Rt prog 55 [.agg (rfV s a).toArray] w (fun v w'=>(∃ g,v=.tuple #[.pointer (some ⟨g,0,none⟩),.int .i64 0]∧bn w (fun k=>k<w.heap.size) w' 96 g ⟨s,[]⟩)):=by
 refine enter (n:=11) Tryz.func55 rfl rfl rfl (an (ag (cE (v:=.agg _) rfl ?_)));intro b1 w1 E1 hb1 hk1;refine asp rfl (asi rfl (ak (ah (an (an (ag (aa (aJ (cs:=rfV s a) aB au rfl ((hk1.from_ ai.rfl_).whole)) (aA mK (rr s a _ (hrd.from_ (ai.rfl_.next E1)) hl) ?_))))))));rintro v5 w2 ⟨rfl,E5⟩;refine aa (ea (dp rfl rfl) (by rw [hm];rfl)) ?_;refine ak (ah (bM rfl (aO (ah (an (ag (aa (aJ (cs:=rfV s a) aB au rfl ((hk1.from_ (ai.rfl_.next E5)).whole)) ?_)))))));have hz8:=(((ai.rfl_.next E1).next E5)).size;refine aA rR (ui s a _ (hrd.from_ ((ai.rfl_.next E1).next E5)) hl hel) ?_;rintro v8 w3 ⟨⟨tag,a',rfl,hf8,ht8⟩,E8⟩;have hB8:ai w w3:=(((ai.rfl_.next E1).next E5).next E8);refine aa (cp (l:=[(0,.tmp 8)]) (oV _ _ _ _ _ _ _ _ _ _ _ _ _ _ _ _ _ _ _ _ _ _ _ _ _ _ _ _ _ _ _ _ _ _)) (cE (v:=.agg _) rfl ?_);intro b10 w4 E10 hb10 hk10;have hb10e:=hb10;have hb10:Blk w4 b10 96 (rfV s a'++[Value.slice none 0 0]).toArray:=hk10;refine asp rfl (asi rfl (ak (ah (aD (nD (v:=.pointer _) (v':=.int _ _) rfl rfl rfl (⟨b10,rfl,qB hB8 hf8 (fun k hk=>ht8 k (Nat.lt_of_lt_of_le hk hz8)) E10 hb10e hb10⟩))))))
theorem iQ:aV prog 28=true:=by kernel_rfl
theorem oJ:aV prog 60=true:=by kernel_rfl
theorem bC:kx prog 29=some (.agg #[.int .i64 0,.int .i64 0,.int .i64 0,.int .i64 0,.int .i64 0,.int .i64 0,.int .i64 0,.int .i64 0,.slice none 0 0,.string ⟨#[]⟩,.int .i64 0,.int .i64 0,.int .i64 0,.int .u64 0,.slice none 0 0,.slice none 0 0,.slice none 0 0,.slice none 0 0,.int .i64 0,.slice none 0 0,.string ⟨#[]⟩,.int .i64 0]):=by kernel_rfl
theorem sV:aV prog 27=true:=by kernel_rfl
theorem sU:aV prog 29=true:=by kernel_rfl
theorem wO (A:Option Addr) (c:Nat) (l:List Int) (w:World) (hr:eb iV w A l) (hl:l.length*8≤140737488351232) :
 Rt prog 28 [.slice A l.length c] w (fun v w'=>∃ A' c',v=.slice A' l.length c'∧w'.ownsRow w.heap.size 3 1 v l.length (l.map iV)∧ai w w'):=by
 refine enter (n:=19) Tryz.func28 rfl rfl rfl (an (ag (ass rfl (ak (ah (an (ag (ass rfl (ak (ah (an (an (ag (asi rfl (ak (ah (aZ (ct (G:=Nat×Option Addr×Nat) [5,6,7,8,9,10,11,12,13,14,15,16,17] (fun g=>[(3,.slice g.2.1 g.1 g.2.2),(4,.int .i64 (g.1:Nat))]) (fun g w'=>g.1≤l.length∧w'.ownsRow w.heap.size 3 1 (.slice g.2.1 g.1 g.2.2) g.1 ((l.take g.1).map iV)∧ai w w') (fun g=>l.length-g.1) ((0,none,0)) ⟨rfl,rfl,trivial⟩ ?_ ?_))))))))))))))))))
 ·exact ⟨Nat.zero_le _,World.ownsRow_nil _ _ _ _,ai.rfl_⟩
 rintro ⟨k,A3,c3⟩ ρ1 w1 ⟨hk,ho,hB⟩;simp only at hk ho;refine an (an (ag (mvi rfl (mvs rfl (aa (bu b_ rfl) (aa (bU rfl rfl) (ak (ah (yS rfl (fun Q2=>?_) (fun Q2=>?_))))))))))
 ·obtain ⟨ba,oa,rfl,ca⟩:=hr (by omega);refine aO (ah (an (aZ (ag (mvs rfl (mvs rfl (mvi rfl (aa (cF ch rfl rfl (by omega)) (aa (ar ao rfl (by first | (exact ei hB (ca k (by omega))))) ?_)))))))));refine eJ (v:=.int _ _) aX rfl rfl rfl ?_;intro b16 w3 E16 hb16 hk16;refine qC (a0:=w) aX rfl rfl (ho.kept_from E16) (hB.next E16) rfl hk16 rfl (by omega) (by omega) ?_;intro A17 c17 w4 ho17 B17 hg17;refine ass rfl (ak (bH (ah (ag (mvi rfl (aa (bE rfl rfl (by omega)) (asi rfl (ak ?_))))))));refine cG ((k+1,A17,c17)) ⟨(by first | rfl | (refine br ?_;omega)),(by first | rfl | (refine br ?_;omega)),trivial⟩ (by (iterate 30 refine bQ rfl ?_);exact cf) ⟨?_,?_⟩
  ·exact ⟨by simp only;omega,by rw [oS iV (by omega)];exact ho17,B17⟩
  ·simp only;omega
 refine cd (bd (bd (bL (ah (an (ag (mvs rfl (ass rfl (ak (ah (aD (bm (v:=.slice _ _ _) rfl rfl ?_))))))))))));obtain rfl:k=l.length:=by omega
 exact ⟨A3,c3,rfl,by rwa [List.take_length] at ho,hB⟩
theorem kb (A:Option Addr) (c:Nat) (l:List Int) (w:World) (h:IR w A c l) (hl:l.length≤1000000):Rt prog 28 [.slice A l.length c] w fun v w'=>(∃ A' c',v=.slice A' l.length c'∧w'.ownsRow w.heap.size 3 1 (.slice A' l.length c') l.length (l.map iV))∧ai w w':=
 (wO A c l w h.1 (by omega)).mono fun v w' ⟨A',c',hv,ho,hF⟩=>⟨⟨A',c',hv,hv ▸ ho⟩,hF⟩
theorem bF.grow5 {w w':World} {tag:Nat→Nat} {s:Rf} {a:Ra} (h:bF 5 w tag s a) (hC:Chg (fun k=>tag k=5) w w'):bF 5 w' (eW w.heap.size 5 tag) s a:=
 ⟨fun _=>eu hC (by decide) (h.e (by decide)),fun _=>eu hC (by decide) (h.v (by decide)),fun _=>eu hC (by decide) (h.x (by decide)),fun _=>eu hC (by decide) (h.m (by decide)),fun _=>eu hC (by decide) (h.n (by decide)),fun e=>absurd rfl e,fun e=>absurd rfl e,fun i hi _=>eu hC (by omega) (h.k i hi (by omega))⟩
theorem ri (q:Rd) (A:Option Addr) (c:Nat) (w:World) (h:IR w A c q.acks) (hl:q.acks.length≤1000000) :
 Rt prog 60 [.agg (rdV (q,A,c)).toArray] w (fun v w'=>(∃ A' c',v=.agg (rdV (q,A',c')).toArray∧w'.ownsRow w.heap.size 3 1 (.slice A' q.acks.length c') q.acks.length (q.acks.map iV))∧ai w w'):=by
 refine enter (n:=10) Tryz.func60 rfl rfl rfl (an (ag (cE (v:=.agg _) rfl ?_)));intro b1 w1 E1 hb1 hk1;refine bw fa ?_;intro b2 w2 E2 hb2 hk2;have hg2:w.heap.size≤b2:=by rw [hb2];exact ((ai.rfl_.next E1)).size
 have h12:b1≠b2:=by have:=hk1.lt;omega
 replace hk1:=hk1.from_ E2;refine ak (ah (an (ag (aa (aJ (cs:=rdV (q,A,c)) dH cD rfl ((hk1.from_ ai.rfl_).whole)) ?_))));have hM3a:ai _ w2:=ai.rfl_;have hk1p:=hk1.from_ hM3a;have hk2p:=hk2.from_ hM3a;refine bw fa ?_;intro b3 w3 E3 hb3 hk3;have hg3:w.heap.size≤b3:=by rw [hb3];exact (((ai.rfl_.next E1).next E2)).size
 have hM3:=hM3a.next E3;replace hk1:=hk1.from_ hM3;replace hk2:=hk2.from_ hM3;have h13:b1≠b3:=fun e=>by have h9:=hk1p.lt;omega
 have h23:b2≠b3:=fun e=>by have h9:=hk2p.lt;omega
 refine bK (vs:=[_,_,_,_]) cD rfl rfl (by simp [Value.oneCell']) (hk3) rfl ?_;intro w4 O1 P1;replace hk1:=hk1.only O1 h13;replace hk2:=hk2.only O1 h23;refine ak (ah (an (ag (aa (ae cZ rfl) (aa (ar aP rfl (by exact (show _=some (Value.slice A q.acks.length c) from (hk1.from_ ai.rfl_).rd 3 rfl))) ?_)))));have hz7:=(((((ai.rfl_.next E1).next E2).next E3).only O1 (hg3))).size;refine aA iQ (kb A c q.acks _ (h.from_ ((((ai.rfl_.next E1).next E2).next E3).only O1 (hg3))) hl) ?_;rintro v7 w5 ⟨⟨A7,c7,rfl,ho7⟩,E7⟩;refine aa (ae cZ rfl) ?_;have hM8:ai _ w5:=(ai.rfl_.next E7);refine jY (v:=.slice _ _ _) cH rfl rfl rfl ((P1.from_ (ai.rfl_.next E7))) (by show _<4;decide) ?_;intro w6 O2 P2;replace hk2:=(hk2.from_ hM8).only O2 h23;replace ho7:=gJ ho7 O2 (pV ho7 (P1.from_ hM8) (by decide));refine ak (ah (an (ag (aa (aJ (cs:=rdV (q,A7,c7)) dH cD rfl ((P2.from_ ai.rfl_).whole)) ?_))));have hM9:ai _ w6:=ai.rfl_;refine bK (vs:=[_,_,_,_]) cD rfl rfl (by simp [Value.oneCell']) ((hk2.from_ ai.rfl_)) rfl ?_;intro w7 O3 P3;replace ho7:=gJ (ho7.kept_from hM9) O3 (pV (ho7.kept_from hM9) (hk2.from_ hM9) (by decide));refine ak (ah (aD (qH rfl (cS (cs:=[_,_,_,_]) dH cD rfl (by exact P3.whole)) ?_)));exact ⟨⟨A7,c7,rfl,ez ho7 hz7⟩,(((((((ai.rfl_.next E1).next E2).next E3).only O1 (hg3)).next E7).only O2 (hg3)).only O3 (hg2))⟩
theorem xX {A A':Option Addr} {n:Nat} (hL:A'.map (·.block)=A.map (·.block)∨A'.map (·.block)=some n):∀ k,A'.map (·.block)=some k→A.map (·.block)=some k∨n≤k:=fun k hk=>by
 rcases hL with e | e
 ·exact .inl (e ▸ hk)
 ·rw [e] at hk;cases hk;exact .inr (Nat.le_refl _)
theorem lq (x:Rd×Option Addr×Nat) (w:World) (h:IR w x.2.1 x.2.2 x.1.acks) (hl:x.1.acks.length≤1000000):Rt prog 60 [.agg (rdV x).toArray] w fun v w'=>(∃ A' c',v=.agg (rdV (x.1,A',c')).toArray∧w'.ownsRow w.heap.size 3 1 (.slice A' x.1.acks.length c') x.1.acks.length (x.1.acks.map iV))∧ai w w':=
 ri x.1 x.2.1 x.2.2 w h hl
theorem p8 (s:Rf) (a:Ra) (tag:Nat→Nat) (Q:Option Addr) (Qc:Nat) (LL:List (Rd×Option Addr×Nat)) (w:World) (hg:bF 5 w tag s a) (ha:a.L=[]) (hq:gv 4 rdV w Q LL) (hk:∀ x∈LL,IR w x.2.1 x.2.2 x.1.acks) (hle:∀ x∈LL,x.1.acks.length≤1000000) (hn:LL.length≤1000000) :
 Rt prog 29 [.slice Q LL.length Qc] w (fun v w'=>(∃ tag' Q' c' N,v=.slice Q' LL.length c'∧N.map (fun q=>q.1)=LL.map (fun q=>q.1)∧bF 5 w' tag' s { a with L:=N }∧(∀ k,k<w.heap.size→tag' k=tag k)∧Col tag' 5 Q'∧w'.ownsRow 0 54 4 (.slice Q' LL.length c') LL.length (N.flatMap rdV))∧ai w w'):=by
 refine enter (n:=20) Tryz.func29 rfl rfl rfl (an (ag (ass rfl (ak (ah (an (ag (ass rfl (ak (ah (an (an (ag (asi rfl (ak (ah (aZ (ct (G:=List (Rd×Option Addr×Nat)×(Nat→Nat)×Option Addr×Nat) [5,6,7,8,9,10,11,12,13,14,15,16,17,18] (fun (N,tg,A3,c3)=>[(3,.slice A3 N.length c3),(4,.int .i64 (N.length:Nat))]) (fun (N,tg,A3,c3) w'=>N.length≤LL.length∧(∀ i (h:i<N.length) (h2:i<LL.length),N[i].1=LL[i].1)∧bF 5 w' tg s { a with L:=N }∧(∀ k,k<w.heap.size→tg k=tag k)∧Col tg 5 A3∧w'.ownsRow w.heap.size 54 4 (.slice A3 N.length c3) N.length (N.flatMap rdV)∧ai w w') (fun (N,_)=>LL.length-N.length) (([],tag,none,0)) ⟨rfl,rfl,trivial⟩ ?_ ?_))))))))))))))))))
 ·exact ⟨Nat.zero_le _,fun i h=>absurd h (Nat.not_lt_zero _),(by rw [←ha];exact hg.from_ ai.rfl_),fun _ _=>rfl,Col.none,World.ownsRow_nil _ _ _ _,ai.rfl_⟩
 rintro ⟨N,tg,A3,c3⟩ ρ1 w1 ⟨hNl,hNe,hgN,htN,hcN,hrN,hBN⟩;refine an (an (ag (mvi rfl (mvs rfl (aa (bu bW rfl) (aa (bU rfl rfl) (ak (ah (yS rfl (fun Q2=>?_) (fun Q2=>?_))))))))))
 ·have hNL:N.length<LL.length:=by omega
  obtain ⟨ba,oa,rfl,hca⟩:=hq (by omega);have hkN:=hk _ (List.getElem_mem hNL);have hlN:=hle _ (List.getElem_mem hNL);refine aO (ah (an (aZ (ag (mvs rfl (mvs rfl (mvi rfl (aa (jt de rfl rfl (by omega)) (aa (aJ (cs:=rdV LL[N.length]) dH cD rfl (eS hBN (hca N.length hNL))) ?_)))))))));have hgN9:=hgN.from_ ai.rfl_;have hz16:=(hBN).size;have hrN9:=hrN.kept_from ai.rfl_;refine aA oJ (lq LL[N.length] _ (hkN.from_ hBN) hlN) ?_;rintro v16 w3 ⟨⟨A16,c16,rfl,ho16⟩,E16⟩;obtain ⟨t16,hg16,ht16,hc16⟩:∃ t,bF 5 w3 t s { a with L:=(N++[(LL[N.length].1,A16,c16)]) }∧(∀ k,k<w.heap.size→t k=tag k)∧Col t 5 A3:=⟨_,hgN9.ack E16 (q:=LL[N.length].1) ho16,fun k hk=>(bZ (Nat.lt_of_lt_of_le hk hz16)).trans (htN k hk),hcN.re (fun k hk=>(dM hrN9 k hk).2)⟩;refine i_ (l:=[(0,.tmp 16)]) (cells:=(rdV (LL[N.length].1,A16,c16)).toArray) ek rfl rfl (by show Instr.fill _ _ [(0,Value.agg (rdV (LL[N.length].1,A16,c16)).toArray)]=_;kernel_rfl) ?_;intro b17 w4 E17 hb17 hk17;have hM18:ai _ w4:=((ai.rfl_.next E16).next E17);have hB18:ai w w4:=((hBN.next E16).next E17);have hM18:ai _ w4:=((ai.rfl_.next E16).next E17);have hB18:ai w w4:=((hBN.next E16).next E17);have hr18:=hrN.kept_from hM18;refine fv (news:=rdV (LL[N.length].1,A16,c16)) ek rfl (by decide) rfl hr18 hB18.size rfl rfl ⟨b17,0,rfl,hk17.whole⟩ (by simp [rdV,Value.oneCell']) (by omega) (by omega) ?_;intro A18 c18 w5 ho18 hgr18 hL18;obtain ⟨t18,hg18,ht18,hc18⟩:∃ t,bF 5 w5 t s { a with L:=(N++[(LL[N.length].1,A16,c16)]) }∧(∀ k,k<w.heap.size→t k=tag k)∧Col t 5 A18:=⟨_,(hg16.from_ (ai.rfl_.next E17)).grow5 (Chg.of_grown hgr18 (fun q hq=>hc16 q hq)),fun k hk=>(bZ (Nat.lt_of_lt_of_le hk hB18.size)).trans (ht16 k hk),hc16.new (fun k hk=>(dM hr18 k hk).2) (xX hL18)⟩;have hF18:ai w w5:=hB18.grew hgr18 (fun k hk=>(dM hr18 k hk).1);refine ass rfl (ak (bH (ah (ag (mvi rfl (aa (bE rfl rfl (by omega)) (asi rfl (ak ?_))))))));refine cG (((N++[(LL[N.length].1,A16,c16)]),t18,A18,c18)) ⟨(show Value.slice A18 (N.length+1) c18=Value.slice A18 (N++[(LL[N.length].1,A16,c16)]).length c18 by rw [List.length_append];rfl),br (by rw [List.length_append,List.length_singleton];omega),trivial⟩ (by (iterate 32 refine bQ rfl ?_);exact cf) ⟨?_,?_⟩
  ·have e18:(N++[(LL[N.length].1,A16,c16)]).length=N.length+1:=by rw [List.length_append];rfl
   refine ⟨by omega,fun i h h2=>?_,hg18.from_ ai.rfl_,ht18,hc18,?_,hF18⟩
   ·rcases Nat.lt_or_ge i N.length with e | e
    ·rw [List.getElem_append_left e];exact hNe i e h2
    ·obtain rfl:i=N.length:=by omega
     simp only [List.getElem_append_right (Nat.le_refl _),Nat.sub_self,List.getElem_singleton]
   ·have h9:=ho18.kept_from ai.rfl_;show World.ownsRow _ _ _ _ (.slice A18 (N++[(LL[N.length].1,A16,c16)]).length c18) (N++[(LL[N.length].1,A16,c16)]).length ((N++[(LL[N.length].1,A16,c16)]).flatMap rdV);rw [e18,List.flatMap_append,show [(LL[N.length].1,A16,c16)].flatMap rdV=rdV (LL[N.length].1,A16,c16) from List.append_nil _];exact h9
  ·show LL.length-(N++[_]).length<LL.length-N.length;rw [List.length_append,List.length_singleton];omega
 refine cd (bd (bd (bL (ah (an (ag (mvs rfl (ass rfl (ak (ah (aD (bm (v:=.slice _ _ _) rfl rfl ?_))))))))))));have hNf:N.length=LL.length:=by omega
 rw [hNf] at hrN;refine ⟨⟨tg,A3,c3,N,by rw [hNf],?_,hgN.from_ ai.rfl_,htN,hcN,ez (hrN.kept_from ai.rfl_) (Nat.zero_le _)⟩,hBN⟩;refine List.ext_getElem (by simp [hNf]) fun i h1 h2=>?_
 simp only [List.getElem_map];exact hNe i (by simpa using h1) (by simpa using h2)
theorem eh (s:Rf) (a:Ra) (w:World) (hrd:eD w s a) (hl:s.votes.length≤1000000∧s.next.length≤1000000∧s.mtch.length≤1000000∧s.sent.length≤1000000∧s.reads.length≤1000000∧∀ q∈s.reads,q.acks.length≤1000000) (hel:s.es.length≤1000000) :
 Rt prog 16 [.agg (rfV s a).toArray] w (fun v w'=>(∃ tag a',v=.agg (rfV s a').toArray∧aR w' tag s a'∧∀ k,k<w.heap.size→tag k=8)∧ai w w'):=by
 obtain ⟨E,Ec,V,Vc,X,Xc,M,Mc,Sn,Sc,Q,Qc,LL⟩:=a;obtain ⟨hl1,hl2,hl3,hl4,hl5,hl6⟩:=hl;have hrL:LL.map (fun q=>q.1)=s.reads:=hrd.r;have hrk:∀ q∈LL,IR w q.2.1 q.2.2 q.1.acks:=hrd.k;have hrq:gv 4 rdV w Q LL:=hrd.q;have hLl:LL.length=s.reads.length:=by rw [←hrL,List.length_map]
 have hqm:LL.length≤1000000:=by omega
 refine enter (n:=30) Tryz.func16 rfl rfl rfl (an (ag (cE (v:=.agg _) rfl ?_)));intro b1 w1 E1 hb1 hk1;refine bw bC ?_;intro b2 w2 E2 hb2 hk2;have hg2:w.heap.size≤b2:=by rw [hb2];exact ((ai.rfl_.next E1)).size
 have hlt1:=hk1.lt;replace hk1:=hk1.from_ E2;refine ak (ah (an (ag (aa (aJ (cs:=rfV s (⟨E,Ec,V,Vc,X,Xc,M,Mc,Sn,Sc,Q,Qc,LL⟩:Ra)) aB au rfl (hk1.whole)) (bw bC ?_)))));intro b3 w3 E3 hb3 hk3;have hg3:w.heap.size≤b3:=by rw [hb3];exact (((ai.rfl_.next E1).next E2)).size
 have hlt2:=hk2.lt;have hlt1b:=hk1.lt;replace hk1:=hk1.from_ E3;replace hk2:=hk2.from_ E3;have h13:b1≠b3:=by omega
 have h23:b2≠b3:=by omega
 have ht0:∀ k,k≤b3→(fun _:Nat=>8) k=8:=fun _ _=>rfl
 refine bK (vs:=[_,_,_,_,_,_,_,_,_,_,_,_,_,_,_,_,_,_,_,_,_,_]) au rfl rfl (by simp [Value.oneCell']) (hk3) rfl ?_;intro w4 O1 P1;replace hk1:=hk1.only O1 h13;replace hk2:=hk2.only O1 h23;have hx1:Blk w4 b3 29 (rfV s (⟨E,Ec,V,Vc,X,Xc,M,Mc,Sn,Sc,Q,Qc,LL⟩:Ra)++[]).toArray:=P1;refine ak (ah (an (ag (aa (ae bk rfl) (aa (aJ (cs:=[.int .i64 s.b,.int .i64 s.t,.slice E s.es.length Ec]) bJ bj rfl (iG (show Blk _ b1 29 (rfV s (⟨E,Ec,V,Vc,X,Xc,M,Mc,Sn,Sc,Q,Qc,LL⟩:Ra)++[]).toArray from hk1.from_ ai.rfl_))) ?_)))));have hN7:ai _ w4:=ai.rfl_;have hx1n:=hx1.from_ hN7;have hlt7:=hx1n.lt;replace hk1:=hk1.from_ ai.rfl_;replace hk2:=hk2.from_ ai.rfl_;have hf0n:aR w4 (fun _=>8) ({ s with es:=[],votes:=[],next:=[],mtch:=[],sent:=[],reads:=[] }:Rf) a0:=aR.same aR.zero rfl rfl rfl rfl rfl rfl;refine aA sV (sx s.b s.t E s.es.length Ec s.es _ (hrd.e.from_ ((((ai.rfl_.next E1).next E2).next E3).only O1 (hg3))) (by omega)) ?_;rintro v7 w5 ⟨A7,c7,rfl,ho7,_,E7⟩;obtain ⟨tag1,hf1,ht1⟩:∃ t,aR w5 t ({ s with es:=s.es,votes:=[],next:=[],mtch:=[],sent:=[],reads:=[] }:Rf) (⟨A7,c7,none,0,none,0,none,0,none,0,none,0,[]⟩:Ra)∧(∀ k,k≤b3→t k=8):=⟨_,bF.log (aR.but (c:=0) hf0n (ai.toChg E7)) s.b s.t rfl (ez ho7 (Nat.zero_le _)) (fun k hk=>cW (dM ho7 k hk).1),fun k hk=>(bZ (by omega)).trans (ht0 k hk)⟩;replace hx1n:=hx1n.from_ E7;replace hk1:=hk1.from_ E7;replace hk2:=hk2.from_ E7;refine aa (ae bk rfl) ?_;have hS1:ai _ w5:=ai.rfl_;have hB1:ai w w5:=(((((ai.rfl_.next E1).next E2).next E3).only O1 (hg3)).next E7);refine ko (s:=s) (a:=(⟨E,Ec,V,Vc,X,Xc,M,Mc,Sn,Sc,Q,Qc,LL⟩:Ra)) (R:=[]) (b:=s.b) (t9:=s.t) (es:=s.es) rfl bj rfl rfl (hx1n.from_ hS1) ?_;intro w6 O1_0 P1_0;have hx2:Blk w6 b3 29 (rfV s (⟨A7,c7,V,Vc,X,Xc,M,Mc,Sn,Sc,Q,Qc,LL⟩:Ra)++[]).toArray:=P1_0;replace hf1:=(hf1.from_ hS1).chg8 (O1_0.toChg rfl) (ht1 b3 (Nat.le_refl _));replace hk1:=(hk1.from_ hS1).only O1_0 h13;replace hk2:=(hk2.from_ hS1).only O1_0 h23;refine ak (ah (an (ag (aa (ae cP rfl) (aa (ar aP rfl (by exact (show _=some (Value.slice V s.votes.length Vc) from (hk1.from_ ai.rfl_).rd 14 rfl))) ?_)))));have hN11:ai _ w6:=ai.rfl_;have hx2n:=hx2.from_ hN11;have hlt11:=hx2n.lt;replace hk1:=hk1.from_ ai.rfl_;replace hk2:=hk2.from_ ai.rfl_;have hf1n:=hf1.from_ hN11;refine aA iQ (kb V Vc s.votes _ (IR.from_ hrd.v (hB1.only O1_0 hg3)) hl1) ?_;rintro v11 w7 ⟨⟨A11,c11,rfl,ho11⟩,E11⟩;obtain ⟨tag2,hf2,ht2⟩:∃ t,aR w7 t ({ s with es:=s.es,votes:=s.votes,next:=[],mtch:=[],sent:=[],reads:=[] }:Rf) (⟨A7,c7,A11,c11,none,0,none,0,none,0,none,0,[]⟩:Ra)∧(∀ k,k≤b3→t k=8):=⟨_,bF.votes (aR.but (c:=1) hf1n (ai.toChg E11)) rfl (ez ho11 (Nat.zero_le _)) (fun k hk=>cW (dM ho11 k hk).1),fun k hk=>(bZ (by omega)).trans (ht1 k hk)⟩;replace hx2n:=hx2n.from_ E11;replace hk1:=hk1.from_ E11;replace hk2:=hk2.from_ E11;refine aa (ae cP rfl) ?_;have hS2:ai _ w7:=ai.rfl_;refine cj (s':=s) (a':=(⟨A7,c7,A11,c11,X,Xc,M,Mc,Sn,Sc,Q,Qc,LL⟩:Ra)) (v:=.slice _ _ _) cH rfl rfl rfl ((hx2n.from_ hS2)) (by exact ⟨by decide,rfl⟩) ?_;intro w8 O2_0 P2_0;have hx3:Blk w8 b3 29 (rfV s (⟨A7,c7,A11,c11,X,Xc,M,Mc,Sn,Sc,Q,Qc,LL⟩:Ra)++[]).toArray:=P2_0;replace hf2:=(hf2.from_ hS2).chg8 (O2_0.toChg rfl) (ht2 b3 (Nat.le_refl _));replace hk1:=(hk1.from_ hS2).only O2_0 h13;replace hk2:=(hk2.from_ hS2).only O2_0 h23;refine ak (ah (an (ag (aa (ae bN rfl) (aa (ar aP rfl (by exact (show _=some (Value.slice X s.next.length Xc) from (hk1.from_ ai.rfl_).rd 15 rfl))) ?_)))));have hN15:ai _ w8:=ai.rfl_;have hx3n:=hx3.from_ hN15;have hlt15:=hx3n.lt;replace hk1:=hk1.from_ ai.rfl_;replace hk2:=hk2.from_ ai.rfl_;have hf2n:=hf2.from_ hN15;refine aA iQ (kb X Xc s.next _ (IR.from_ hrd.x (((hB1.only O1_0 hg3).next E11).only O2_0 (hg3))) hl2) ?_;rintro v15 w9 ⟨⟨A15,c15,rfl,ho15⟩,E15⟩;obtain ⟨tag3,hf3,ht3⟩:∃ t,aR w9 t ({ s with es:=s.es,votes:=s.votes,next:=s.next,mtch:=[],sent:=[],reads:=[] }:Rf) (⟨A7,c7,A11,c11,A15,c15,none,0,none,0,none,0,[]⟩:Ra)∧(∀ k,k≤b3→t k=8):=⟨_,bF.next (aR.but (c:=2) hf2n (ai.toChg E15)) rfl (ez ho15 (Nat.zero_le _)) (fun k hk=>cW (dM ho15 k hk).1),fun k hk=>(bZ (by omega)).trans (ht2 k hk)⟩;replace hx3n:=hx3n.from_ E15;replace hk1:=hk1.from_ E15;replace hk2:=hk2.from_ E15;refine aa (ae bN rfl) ?_;have hS3:ai _ w9:=ai.rfl_;refine cj (s':=s) (a':=(⟨A7,c7,A11,c11,A15,c15,M,Mc,Sn,Sc,Q,Qc,LL⟩:Ra)) (v:=.slice _ _ _) cH rfl rfl rfl ((hx3n.from_ hS3)) (by exact ⟨by decide,rfl⟩) ?_;intro w10 O3_0 P3_0;have hx4:Blk w10 b3 29 (rfV s (⟨A7,c7,A11,c11,A15,c15,M,Mc,Sn,Sc,Q,Qc,LL⟩:Ra)++[]).toArray:=P3_0;replace hf3:=(hf3.from_ hS3).chg8 (O3_0.toChg rfl) (ht3 b3 (Nat.le_refl _));replace hk1:=(hk1.from_ hS3).only O3_0 h13;replace hk2:=(hk2.from_ hS3).only O3_0 h23;refine ak (ah (an (ag (aa (ae bX rfl) (aa (ar aP rfl (by exact (show _=some (Value.slice M s.mtch.length Mc) from (hk1.from_ ai.rfl_).rd 16 rfl))) ?_)))));have hN19:ai _ w10:=ai.rfl_;have hx4n:=hx4.from_ hN19;have hlt19:=hx4n.lt;replace hk1:=hk1.from_ ai.rfl_;replace hk2:=hk2.from_ ai.rfl_;have hf3n:=hf3.from_ hN19;refine aA iQ (kb M Mc s.mtch _ (IR.from_ hrd.m (((((hB1.only O1_0 hg3).next E11).only O2_0 (hg3)).next E15).only O3_0 (hg3))) hl3) ?_;rintro v19 w11 ⟨⟨A19,c19,rfl,ho19⟩,E19⟩;obtain ⟨tag4,hf4,ht4⟩:∃ t,aR w11 t ({ s with es:=s.es,votes:=s.votes,next:=s.next,mtch:=s.mtch,sent:=[],reads:=[] }:Rf) (⟨A7,c7,A11,c11,A15,c15,A19,c19,none,0,none,0,[]⟩:Ra)∧(∀ k,k≤b3→t k=8):=⟨_,bF.mtch (aR.but (c:=3) hf3n (ai.toChg E19)) rfl (ez ho19 (Nat.zero_le _)) (fun k hk=>cW (dM ho19 k hk).1),fun k hk=>(bZ (by omega)).trans (ht3 k hk)⟩;replace hx4n:=hx4n.from_ E19;replace hk1:=hk1.from_ E19;replace hk2:=hk2.from_ E19;refine aa (ae bX rfl) ?_;have hS4:ai _ w11:=ai.rfl_;refine cj (s':=s) (a':=(⟨A7,c7,A11,c11,A15,c15,A19,c19,Sn,Sc,Q,Qc,LL⟩:Ra)) (v:=.slice _ _ _) cH rfl rfl rfl ((hx4n.from_ hS4)) (by exact ⟨by decide,rfl⟩) ?_;intro w12 O4_0 P4_0;have hx5:Blk w12 b3 29 (rfV s (⟨A7,c7,A11,c11,A15,c15,A19,c19,Sn,Sc,Q,Qc,LL⟩:Ra)++[]).toArray:=P4_0;replace hf4:=(hf4.from_ hS4).chg8 (O4_0.toChg rfl) (ht4 b3 (Nat.le_refl _));replace hk1:=(hk1.from_ hS4).only O4_0 h13;replace hk2:=(hk2.from_ hS4).only O4_0 h23;refine ak (ah (an (ag (aa (ae bS rfl) (aa (ar aP rfl (by exact (show _=some (Value.slice Sn s.sent.length Sc) from (hk1.from_ ai.rfl_).rd 17 rfl))) ?_)))));have hN23:ai _ w12:=ai.rfl_;have hx5n:=hx5.from_ hN23;have hlt23:=hx5n.lt;replace hk1:=hk1.from_ ai.rfl_;replace hk2:=hk2.from_ ai.rfl_;have hf4n:=hf4.from_ hN23;refine aA iQ (kb Sn Sc s.sent _ (IR.from_ hrd.n (((((((hB1.only O1_0 hg3).next E11).only O2_0 (hg3)).next E15).only O3_0 (hg3)).next E19).only O4_0 (hg3))) hl4) ?_;rintro v23 w13 ⟨⟨A23,c23,rfl,ho23⟩,E23⟩;obtain ⟨tag5,hf5,ht5⟩:∃ t,aR w13 t ({ s with es:=s.es,votes:=s.votes,next:=s.next,mtch:=s.mtch,sent:=s.sent,reads:=[] }:Rf) (⟨A7,c7,A11,c11,A15,c15,A19,c19,A23,c23,none,0,[]⟩:Ra)∧(∀ k,k≤b3→t k=8):=⟨_,bF.sent (aR.but (c:=4) hf4n (ai.toChg E23)) rfl (ez ho23 (Nat.zero_le _)) (fun k hk=>cW (dM ho23 k hk).1),fun k hk=>(bZ (by omega)).trans (ht4 k hk)⟩;replace hx5n:=hx5n.from_ E23;replace hk1:=hk1.from_ E23;replace hk2:=hk2.from_ E23;refine aa (ae bS rfl) ?_;have hS5:ai _ w13:=ai.rfl_;refine cj (s':=s) (a':=(⟨A7,c7,A11,c11,A15,c15,A19,c19,A23,c23,Q,Qc,LL⟩:Ra)) (v:=.slice _ _ _) cH rfl rfl rfl ((hx5n.from_ hS5)) (by exact ⟨by decide,rfl⟩) ?_;intro w14 O5_0 P5_0;have hx6:Blk w14 b3 29 (rfV s (⟨A7,c7,A11,c11,A15,c15,A19,c19,A23,c23,Q,Qc,LL⟩:Ra)++[]).toArray:=P5_0;replace hf5:=(hf5.from_ hS5).chg8 (O5_0.toChg rfl) (ht5 b3 (Nat.le_refl _));replace hk1:=(hk1.from_ hS5).only O5_0 h13;replace hk2:=(hk2.from_ hS5).only O5_0 h23;refine ak (ah (an (ag (aa (ae bc rfl) (aa (ar bo rfl (by exact (show _=some (Value.slice Q LL.length Qc) from (hk1.from_ ai.rfl_).rd 19 rfl))) ?_)))));have hN27:ai _ w14:=ai.rfl_;have hx6n:=hx6.from_ hN27;have hlt27:=hx6n.lt;replace hk1:=hk1.from_ ai.rfl_;replace hk2:=hk2.from_ ai.rfl_;have hf5n:=aR.but (c:=5) (hf5.from_ hN27) ai.rfl_.toChg;refine aA sU (p8 ({ s with es:=s.es,votes:=s.votes,next:=s.next,mtch:=s.mtch,sent:=s.sent,reads:=[] }:Rf) (⟨A7,c7,A11,c11,A15,c15,A19,c19,A23,c23,none,0,[]⟩:Ra) _ Q Qc LL _ hf5n rfl (hrq.from_ (((((((((hB1.only O1_0 hg3).next E11).only O2_0 (hg3)).next E15).only O3_0 (hg3)).next E19).only O4_0 (hg3)).next E23).only O5_0 (hg3))) (fun x hx=>(hrk x hx).from_ (((((((((hB1.only O1_0 hg3).next E11).only O2_0 (hg3)).next E15).only O3_0 (hg3)).next E19).only O4_0 (hg3)).next E23).only O5_0 (hg3))) (fun x hx=>hl6 _ (by rw [←hrL];exact List.mem_map_of_mem hx)) hqm) ?_;rintro v27 w15 ⟨⟨tag6,A27,c27,N,rfl,hNe,hg6,ht6a,hc6,hr6⟩,E27⟩;have ht6:∀ k,k≤b3→tag6 k=8:=fun k hk=>(ht6a k (by omega)).trans ((bZ (by omega)).trans (ht5 k hk))
 replace hx6n:=hx6n.from_ E27;replace hk2:=hk2.from_ E27;have hfin:=bF.reads hg6 (A:=A27) (c:=c27) (n:=LL.length) (by have h9:=congrArg List.length hNe;rw [List.length_map,List.length_map] at h9;exact h9.symm) hr6 hc6;rw [show ({ (⟨A7,c7,A11,c11,A15,c15,A19,c19,A23,c23,none,0,[]⟩:Ra) with L:=N }:Ra).L=N from rfl,hNe,hrL] at hfin;refine aa (ae bc rfl) ?_;have hS6:ai _ w15:=ai.rfl_;refine cj (s':=s) (a':=(⟨A7,c7,A11,c11,A15,c15,A19,c19,A23,c23,A27,c27,LL⟩:Ra)) (v:=.slice _ _ _) fU rfl rfl rfl ((hx6n.from_ hS6)) (by exact ⟨by decide,rfl⟩) ?_;intro w16 O6_0 P6_0;have hx7:Blk w16 b3 29 (rfV s (⟨A7,c7,A11,c11,A15,c15,A19,c19,A23,c23,A27,c27,LL⟩:Ra)++[]).toArray:=P6_0;replace hfin:=(hfin.from_ hS6).chg8 (O6_0.toChg rfl) (ht6 b3 (Nat.le_refl _));replace hk2:=(hk2.from_ hS6).only O6_0 h23;refine ak (ah (an (ag (aa (aJ (cs:=rfV s (⟨A7,c7,A11,c11,A15,c15,A19,c19,A23,c23,A27,c27,LL⟩:Ra)) aB au rfl (gh (hx7.from_ ai.rfl_))) ?_))));have hM8:ai _ w16:=ai.rfl_;refine bK (vs:=[_,_,_,_,_,_,_,_,_,_,_,_,_,_,_,_,_,_,_,_,_,_]) au rfl rfl (by simp [Value.oneCell']) ((hk2.from_ ai.rfl_)) rfl ?_;intro w17 O8 P8;refine ak (ah (aD (qH rfl (cS (cs:=[_,_,_,_,_,_,_,_,_,_,_,_,_,_,_,_,_,_,_,_,_,_]) aB au rfl (by exact P8.whole)) ?_)));refine ⟨⟨tag6,(⟨A7,c7,A11,c11,A15,c15,A19,c19,A23,c23,A27,c27,N⟩:Ra),?_,(hfin.from_ hM8).chg8 (O8.toChg rfl) (ht6 b2 (by omega)),fun k hk=>ht6 k (by omega)⟩,((((((((((((hB1.only O1_0 hg3).next E11).only O2_0 (hg3)).next E15).only O3_0 (hg3)).next E19).only O4_0 (hg3)).next E23).only O5_0 (hg3)).next E27).only O6_0 (hg3)).only O8 (hg2))⟩;show Value.agg (rfV s (⟨A7,c7,A11,c11,A15,c15,A19,c19,A23,c23,A27,c27,LL⟩:Ra)).toArray=Value.agg (rfV s (⟨A7,c7,A11,c11,A15,c15,A19,c19,A23,c23,A27,c27,N⟩:Ra)).toArray;have h9:=congrArg List.length hNe;rw [List.length_map,List.length_map] at h9;unfold rfV;simp only [h9]
theorem dr:prog.built 29 []=some #[.int .i64 0,.int .i64 0,.int .i64 0,.int .i64 0,.int .i64 0,.int .i64 0,.int .i64 0,.int .i64 0,.slice none 0 0,.string ⟨#[]⟩,.int .i64 0,.int .i64 0,.int .i64 0,.int .u64 0,.slice none 0 0,.slice none 0 0,.slice none 0 0,.slice none 0 0,.int .i64 0,.slice none 0 0,.string ⟨#[]⟩,.int .i64 0]:=by kernel_rfl
theorem mc:∀ (a0:Int) (a1:Int) (a2:Int),prog.built 29 [(0,.int .i64 a0),(1,.int .i64 a1),(11,.int .u64 a2)]=some #[.int .i64 a0,.int .i64 a1,.int .i64 0,.int .i64 0,.int .i64 0,.int .i64 0,.int .i64 0,.int .i64 0,.slice none 0 0,.string ⟨#[]⟩,.int .i64 0,.int .i64 0,.int .i64 0,.int .u64 a2,.slice none 0 0,.slice none 0 0,.slice none 0 0,.slice none 0 0,.int .i64 0,.slice none 0 0,.string ⟨#[]⟩,.int .i64 0]:=by intros;kernel_rfl
theorem rA:∀ (a0:Int) (a1:Int) (a2:Int) (a3:Int) (a4:Int) (a5:Int) (a6:Int) (a7:Int) (a8:Option Addr) (a9 a10:Nat) (a11:ByteArray) (a12:Int) (a13:Int) (a14:Int) (a15:Int) (a16:Option Addr) (a17 a18:Nat) (a19:Option Addr) (a20 a21:Nat) (a22:Option Addr) (a23 a24:Nat) (a25:Option Addr) (a26 a27:Nat) (a28:Int) (a29:Option Addr) (a30 a31:Nat) (a32:ByteArray) (a33:Int),prog.built 91 [(0,.agg #[.int .i64 a0,.int .i64 a1,.int .i64 a2,.int .i64 a3,.int .i64 a4,.int .i64 a5,.int .i64 a6,.int .i64 a7,.slice a8 a9 a10,.string a11,.int .i64 a12,.int .i64 a13,.int .i64 a14,.int .u64 a15,.slice a16 a17 a18,.slice a19 a20 a21,.slice a22 a23 a24,.slice a25 a26 a27,.int .i64 a28,.slice a29 a30 a31,.string a32,.int .i64 a33])]=some #[.int .i64 a0,.int .i64 a1,.int .i64 a2,.int .i64 a3,.int .i64 a4,.int .i64 a5,.int .i64 a6,.int .i64 a7,.slice a8 a9 a10,.string a11,.int .i64 a12,.int .i64 a13,.int .i64 a14,.int .u64 a15,.slice a16 a17 a18,.slice a19 a20 a21,.slice a22 a23 a24,.slice a25 a26 a27,.int .i64 a28,.slice a29 a30 a31,.string a32,.int .i64 a33]:=by intros;kernel_rfl
theorem gO:aV prog 55=true:=by kernel_rfl
theorem uk:aV prog 56=true:=by kernel_rfl
theorem fH {P:Program} {n:Fr} {L:List (Nat×Value)} {w:World} {t:TypeId} {x y:Operand} {g:Nat} {u:TypeId} {cs:Array Value} {vs:List Value} (ht:ec P t=some vs.length) (hx:ev n L x=.pointer (some ⟨g,0,none⟩)) (hy:ev n L y=.agg vs.toArray) (h1:∀ v∈vs,v.oneCell'=true) (hb:Blk w g u cs) (hi:vs.length=cs.size) :
 ∃ w',RS P (ev n L) (.store t x y) w w'∧eP g w w'∧Blk w' g u vs.toArray:=by
 have hb':Blk w g u cs.toList.toArray:=by simpa using hb
 refine ⟨_,lK ht hx hy h1 (hb'.there 0 vs.length (by simp;omega)),eP.sets vs 0 w,?_⟩;have:=Blk.sets vs 0 hb' (by simp;omega)
 rwa [nM cs.toList vs (by simp;omega)] at this
theorem fF {w w':World} {T g:Nat} {p:Sp} (h:bn w (fun k=>k<w.heap.size) w' T g p):ai w w':=
 ⟨h.fr.os,h.fr.tape,h.fr.output,h.fr.size,fun k hk=>h.fr.block k hk fun e=>e hk⟩
def xg (w w':World) (p:Sp) (v:Value):Prop:=∃ tag a O oc L,v=.tuple #[.agg (rfV p.s a).toArray,.slice O L.length oc,.int .i64 0]∧aR w' tag p.s a∧ew w' tag p.out O oc L∧∀ k,k<w.heap.size→tag k=8
theorem xg.mk_ {w w1 w':World} {T g oc:Nat} {tag:Nat→Nat} {p:Sp} {a:Ra} {O:Option Addr} {L:List Msg} {Z:Nat→Prop} (hs:gu w1 Z T g tag p a O oc L) (hz:∀ k,k<w.heap.size→Z k) (hC:Chg (fun k=>Z k) w1 w'):xg w w' p (.tuple #[.agg (rfV p.s a).toArray,.slice O L.length oc,.int .i64 0]):=by
 have ne:∀ {d:Nat} {A:Option Addr},d≠8→Col tag d A→∀ k,A.map (·.block)=some k→¬ Z k:=fun hd hc k hk e=>hd ((hc k hk).symm.trans (hs.z k e))
 have mv:∀ {d e s n cc:Nat} {A:Option Addr} {xs:List Value},d≠8→w1.ownsRow 0 e s (.slice A n cc) n xs∧Col tag d A→w'.ownsRow 0 e s (.slice A n cc) n xs∧Col tag d A:=fun hd h=>⟨dB h.1 hC (ne hd h.2),h.2⟩
 refine ⟨tag,a,O,oc,L,rfl,⟨fun hx=>mv (by decide) (hs.f.e hx),fun hx=>mv (by decide) (hs.f.v hx),fun hx=>mv (by decide) (hs.f.x hx),fun hx=>mv (by decide) (hs.f.m hx),fun hx=>mv (by decide) (hs.f.n hx),hs.f.r,fun hx=>mv (by decide) (hs.f.q hx),fun i hi hx=>mv (by omega) (hs.f.k i hi hx)⟩,⟨(mv (d:=6) (by decide) ⟨hs.m.o,hs.m.c⟩).1,hs.m.l,fun j hj=>mv (by omega) (hs.m.e j hj),hs.m.c⟩,fun k hk=>hs.z k (hz k hk)⟩
def mM (id n:Int):Prop:=(1≤n∧n≤7)∧(1≤id∧id≤n)
instance (id n:Int):Decidable (mM id n):=by unfold mM;exact inferInstance
theorem wt (id n seed:Int) (w:World) :
 Rt prog 21 [.int .i64 id,.int .i64 n,.int .u64 seed] w (fun v w'=>((mM id n∧v=.tuple #[.agg (rfV (qS id n seed) a0).toArray,.int .i64 0])∨(¬ mM id n∧v=.tuple #[.agg (rfV zR a0).toArray,.int .i64 1]))∧ai w w'):=by
 refine enter (n:=29) Tryz.func21 rfl rfl rfl (an (ag (bw bC ?_)));intro b6 w1 E6 hb6 hk6;have hg6:w.heap.size≤b6:=Nat.le_of_eq hb6.symm;refine asi rfl (ak (ah (an (an (ag (mvi rfl (eJ (v:=.int _ _) aX rfl rfl rfl ?_)))))));intro b10 w2 E10 hb10 hk10;refine aA dG (eG 1 7 (some ⟨b10,0,none⟩) 1 [n] _ (fI hk10) (by simp)) ?_;rintro v11 w3 ⟨rfl,rfl⟩;refine aa (cz rfl) (mvb rfl (aH (t:=13) rfl (fun Q4=>?_) (fun Q4=>?_)))
 ·with_reducible (replace Q4:=dz Q4;replace Q4:=dF_ Q4)
  (try simp only [bG,bT,and_true] at Q4)
  refine ab rfl rfl (ab rfl rfl (ab rfl rfl (ab rfl rfl (ab rfl rfl (aa (aq (v:=.bool _) rfl rfl) (ak (ah (aL rfl (an (ag ?_))))))))));refine aa (cp (l:=[]) (dr)) (bK (vs:=[_,_,_,_,_,_,_,_,_,_,_,_,_,_,_,_,_,_,_,_,_,_]) au rfl rfl (by simp [Value.oneCell']) ((hk6.from_ (ai.rfl_.next E10))) rfl ?_);intro w5 O2 P2;refine asi rfl (ak (ah (aD (aC (fo rfl (cS (cs:=[_,_,_,_,_,_,_,_,_,_,_,_,_,_,_,_,_,_,_,_,_,_]) aB au rfl (by first | exact P5.whole | exact P2.whole)) (dW (v:=.int _ _) rfl) ?_)))));exact ⟨.inr ⟨by unfold mM;omega,rfl⟩,(((ai.rfl_.next E6).next E10).only O2 (hg6))⟩
 with_reducible (replace Q4:=dA Q4;replace Q4:=dT_ Q4)
 (try simp only [bG,bT,and_true] at Q4)
 refine af rfl (mvi rfl (af rfl (mvi rfl (af rfl (eJ (v:=.int _ _) aX rfl rfl rfl ?_)))));intro b16 w6 E16 hb16 hk16;refine af rfl (aA dG (eG 1 n (some ⟨b16,0,none⟩) 1 [id] _ (fI hk16) (by simp)) ?_);rintro v17 w7 ⟨rfl,rfl⟩;refine af rfl (aa (cz rfl) (aa (ay (v:=.bool _) rfl rfl) (ak (ah (aY rfl (fun Q8=>?_) (fun Q8=>?_))))))
 ·with_reducible (replace Q8:=dz Q8;replace Q8:=dF_ Q8)
  (try simp only [bG,bT,and_true] at Q8)
  refine an (ag (aa (cp (l:=[]) (dr)) (bK (vs:=[_,_,_,_,_,_,_,_,_,_,_,_,_,_,_,_,_,_,_,_,_,_]) au rfl rfl (by simp [Value.oneCell']) ((hk6.from_ ((ai.rfl_.next E10).next E16))) rfl ?_)));intro w9 O2 P2;refine asi rfl (ak (ah (aD (aC (fo rfl (cS (cs:=[_,_,_,_,_,_,_,_,_,_,_,_,_,_,_,_,_,_,_,_,_,_]) aB au rfl (by first | exact P5.whole | exact P2.whole)) (dW (v:=.int _ _) rfl) ?_)))));exact ⟨.inr ⟨by unfold mM;omega,rfl⟩,((((ai.rfl_.next E6).next E10).next E16).only O2 (hg6))⟩
 with_reducible (replace Q8:=dA Q8;replace Q8:=dT_ Q8)
 (try simp only [bG,bT,and_true] at Q8)
 refine aO (ah (an (ag (mvi rfl (mvi rfl (mvi rfl (aa (cp (l:=[(0,.tmp 21),(1,.tmp 22),(11,.tmp 23)]) (mc _ _ _)) (aa (cp (l:=[(0,.tmp 24)]) (rA _ _ _ _ _ _ _ _ _ _ _ _ _ _ _ _ _ _ _ _ _ _ _ _ _ _ _ _ _ _ _ _ _ _)) ?_))))))));have hM8:ai _ w6:=((ai.rfl_.next E10).next E16);have hz8:=((((ai.rfl_.next E6).next E10).next E16)).size;refine bw mJ ?_;intro b8 w10 E8 hb8 hk8;have hg8:w.heap.size≤b8:=by omega
 have hk6b:=hk6.from_ (hM8.next E8);have h68:b6≠b8:=by have:=(hk6.from_ hM8).lt;omega
 refine bK (vs:=[_,_,_,_,_,_,_,_,_,_,_,_,_,_,_,_,_,_,_,_,_,_]) km rfl rfl (by simp [Value.oneCell']) (hk8) rfl ?_;intro w11 O3 P3;have hb8:Blk w11 b8 91 (rfV ({ zR with id:=id,nodes:=n,seed:=seed }:Rf) a0++[]).toArray:=P3;have hk6c:=hk6b.only O3 h68;refine ak (ah (an (ag ?_)));have hB8:ai w w11:=(((((ai.rfl_.next E6).next E10).next E16).next E8).only O3 (hg8));refine aA kj (p6 91 b8 { zR with id:=id,nodes:=n,seed:=seed } a0 [] _ hb8) ?_;rintro v26 w12 ⟨rfl,hb26,hC26⟩;have hk6d:=hk6c.chg hC26 h68;refine ak (ah (an (ag (aa (ae aG rfl) (aa (aJ (cs:=rfV (qS id n seed) a0) aB au rfl (gh (hb26.from_ ai.rfl_))) (bK (vs:=[_,_,_,_,_,_,_,_,_,_,_,_,_,_,_,_,_,_,_,_,_,_]) au rfl rfl (by simp [Value.oneCell']) ((hk6d.from_ ai.rfl_)) rfl ?_))))));intro w13 O5 P5;refine asi rfl (ak (ah (aD (fo rfl (cS (cs:=[_,_,_,_,_,_,_,_,_,_,_,_,_,_,_,_,_,_,_,_,_,_]) aB au rfl (by first | exact P5.whole | exact P2.whole)) (dW (v:=.int _ _) rfl) ?_))));exact ⟨.inl ⟨by unfold mM;omega,rfl⟩,((hB8.chg hC26 (fun k hk=>by rw [show k=b8 from hk];exact hg8)).only O5 (hg6))⟩
theorem vW (s:Rf) (a:Ra) (w:World) (hrd:eD w s a) (hl:s.votes.length≤1000000∧s.next.length≤1000000∧s.mtch.length≤1000000∧s.sent.length≤1000000∧s.reads.length≤1000000∧∀ q∈s.reads,q.acks.length≤1000000) (hel:s.es.length≤1000000) (hm:gb s=false) :
 Rt prog 23 [.agg (rfV s a).toArray] w (fun v w'=>v=.tuple #[.agg (rfV zR a0).toArray,.slice none 0 0,.int .i64 1]∧ai w w'):=by
 refine enter (n:=27) Tryz.func23 rfl rfl rfl (an (ag (cE (v:=.agg _) rfl ?_)));intro b1 w1 E1 hb1 hk1;refine bw bC ?_;intro b2 w2 E2 hb2 hk2;have hg2:w.heap.size≤b2:=by rw [hb2];exact ((ai.rfl_.next E1)).size
 refine ass rfl (asi rfl (ak (ah (an (ag (aa (aJ (cs:=rfV s a) aB au rfl (((hk1.from_ E2).from_ ai.rfl_).whole)) (aA gO (oi s a _ (hrd.from_ ((ai.rfl_.next E1).next E2)) hl hel hm) ?_)))))));rintro v9 w3 ⟨rfl,E9⟩;refine mvt rfl (aa (aN rfl rfl) (aa (aN rfl rfl) (asp rfl (asi rfl (ak (ah (an (an (ag (mvi rfl (aa (dv (dp rfl rfl) rfl) (ak (ah ?_)))))))))))));refine aL rfl (an (ag (aa (cp (l:=[]) (dr)) (mvi rfl (bK (vs:=[_,_,_,_,_,_,_,_,_,_,_,_,_,_,_,_,_,_,_,_,_,_]) au rfl rfl (by simp [Value.oneCell']) ((hk2.from_ (ai.rfl_.next E9))) rfl ?_)))));intro w4 O3 P3;refine ass rfl (asi rfl (ak (ah (aD (aC (tb rfl (cS (cs:=[_,_,_,_,_,_,_,_,_,_,_,_,_,_,_,_,_,_,_,_,_,_]) aB au rfl (by exact P3.whole)) (dW (v:=.slice _ _ _) rfl) (dW (v:=.int _ _) rfl) ?_))))));exact ⟨rfl,((((ai.rfl_.next E1).next E2).next E9).only O3 (hg2))⟩
theorem qx (s:Rf) (a:Ra) (w:World) (hrd:eD w s a) (hl:s.votes.length≤1000000∧s.next.length≤1000000∧s.mtch.length≤1000000∧s.sent.length≤1000000∧s.reads.length≤1000000∧∀ q∈s.reads,q.acks.length≤1000000) (hel:s.es.length≤1000000) (hm:gb s=true) :
 Rt prog 23 [.agg (rfV s a).toArray] w (fun v w'=>xg w w' (cn s) v∧ai w w'):=by
 refine enter (n:=27) Tryz.func23 rfl rfl rfl (an (ag (cE (v:=.agg _) rfl ?_)));intro b1 w1 E1 hb1 hk1;refine bw bC ?_;intro b2 w2 E2 hb2 hk2;have hg2:w.heap.size≤b2:=by rw [hb2];exact ((ai.rfl_.next E1)).size
 refine ass rfl (asi rfl (ak (ah (an (ag (aa (aJ (cs:=rfV s a) aB au rfl (((hk1.from_ E2).from_ ai.rfl_).whole)) ?_))))));have hB9:ai w w2:=((ai.rfl_.next E1).next E2);have hk2b:=hk2.from_ ai.rfl_;have hlt2:=hk2b.lt;refine aA gO (lu s a _ (hrd.from_ ((ai.rfl_.next E1).next E2)) hl hel hm) ?_;rintro v9 w3 ⟨g,rfl,h9⟩;refine mvt rfl (aa (aN rfl rfl) (aa (aN rfl rfl) (asp rfl (asi rfl (ak (ah (an (an (ag (mvi rfl (aa (ea (dp rfl rfl) rfl) (ak (ah ?_)))))))))))));refine bM rfl (aO (ah (an (ag (mvp rfl (aA uk (vV _ _ 96 g s _ (h9.from_ ai.rfl_) (iJ hm)) ?_))))));rintro v17 w4 ⟨rfl,h17⟩;obtain ⟨tag9,a9,O9,oc9,L9,hs9⟩:=h17.ex;have hF17:=fF h17;have hk2c:=hk2b.from_ hF17;have hz9:=hB9.size;have hBq:ai w w4:=(hB9.next (fF h17));have hn2:b2≠g:=fun e=>by have h1:=hs9.z b2 hlt2;rw [e,hs9.gc] at h1;cases h1
 replace hn2:=hn2.symm;refine ak (ah (an ?_));have hU5:jc [(0,18,.pointer (some ⟨g,0,none⟩)),(1,19,.pointer (some ⟨g,0,none⟩)),(2,20,.pointer (some ⟨g,0+0,none⟩)),(3,21,.pointer (some ⟨g,0+0+0,none⟩)),(4,22,.agg (rfV (cn s).s a9).toArray),(5,23,.pointer (some ⟨g,0,none⟩)),(6,24,.pointer (some ⟨g,0,none⟩)),(7,25,.pointer (some ⟨g,0+22,none⟩)),(8,26,.slice O9 L9.length oc9),(10,3,.slice O9 L9.length oc9),(11,4,.int .i64 0)]:=by simp [jc]
 refine jB [(0,18,.pointer (some ⟨g,0,none⟩)),(1,19,.pointer (some ⟨g,0,none⟩)),(2,20,.pointer (some ⟨g,0+0,none⟩)),(3,21,.pointer (some ⟨g,0+0+0,none⟩)),(4,22,.agg (rfV (cn s).s a9).toArray),(5,23,.pointer (some ⟨g,0,none⟩)),(6,24,.pointer (some ⟨g,0,none⟩)),(7,25,.pointer (some ⟨g,0+22,none⟩)),(8,26,.slice O9 L9.length oc9),(10,3,.slice O9 L9.length oc9),(11,4,.int .i64 0)] (fun S w'=>Blk w' g 96 ((rfV (cn s).s a9)++[Value.slice O9 L9.length oc9]).toArray∧(∃ cs:Array Value,cs.size=22∧Blk w' b2 29 cs∧(S 9=true→cs=(rfV (cn s).s a9).toArray))∧Chg (fun k=>k=b2) w4 w') (by kernel_rfl) (by kernel_rfl) hU5 (by simp) (⟨(hs9.b.from_ ai.rfl_).from_ ai.rfl_.d1,⟨_,rfl,(hk2c.from_ ai.rfl_).from_ ai.rfl_.d1,fun h=>(by cases h)⟩,ai.rfl_.d1.toChg⟩) ?_ ?_
 ·constructor
  ·rintro S L' wS hI hM hS0 ⟨-⟩;have e5:=hI.1 5 (by simp);have hM':=hM;obtain ⟨hgB,⟨cs9,hs9z,hq9,hqe⟩,hC9⟩:=hM';exact bI (aM e5) ⟨hI.put hU5 (.head _),hM⟩
  constructor
  ·rintro S L' wS hI hM hS0 ⟨d0,-⟩;have e18:bq L' 18=.pointer (some ⟨g,0,none⟩):=hI.get (i:=0) (.head _) d0;have hM':=hM;obtain ⟨hgB,⟨cs9,hs9z,hq9,hqe⟩,hC9⟩:=hM';exact bI (aw e18) ⟨hI.put hU5 (.tail _ (.head _)),hM⟩
  constructor
  ·rintro S L' wS hI hM hS0 ⟨d1,-⟩;have e19:bq L' 19=.pointer (some ⟨g,0,none⟩):=hI.get (i:=1) (.tail _ (.head _)) d1;have hM':=hM;obtain ⟨hgB,⟨cs9,hs9z,hq9,hqe⟩,hC9⟩:=hM';exact bI (ae aQ e19) ⟨hI.put hU5 (.tail _ (.tail _ (.head _))),hM⟩
  constructor
  ·rintro S L' wS hI hM hS0 ⟨d2,-⟩;have e20:bq L' 20=.pointer (some ⟨g,0+0,none⟩):=hI.get (i:=2) (.tail _ (.tail _ (.head _))) d2;have hM':=hM;obtain ⟨hgB,⟨cs9,hs9z,hq9,hqe⟩,hC9⟩:=hM';exact bI (ae aG e20) ⟨hI.put hU5 (.tail _ (.tail _ (.tail _ (.head _)))),hM⟩
  constructor
  ·rintro S L' wS hI hM hS0 ⟨d3,-⟩;have e21:bq L' 21=.pointer (some ⟨g,0+0+0,none⟩):=hI.get (i:=3) (.tail _ (.tail _ (.tail _ (.head _)))) d3;have hM':=hM;obtain ⟨hgB,⟨cs9,hs9z,hq9,hqe⟩,hC9⟩:=hM';exact bI (aJ (cs:=(rfV (cn s).s a9)) aB au e21 (gh hgB)) ⟨hI.put hU5 (.tail _ (.tail _ (.tail _ (.tail _ (.head _))))),hM⟩
  constructor
  ·rintro S L' wS hI hM hS0 ⟨-,-⟩;have e5:=hI.1 5 (by simp);have hM':=hM;obtain ⟨hgB,⟨cs9,hs9z,hq9,hqe⟩,hC9⟩:=hM';exact bI (aM e5) ⟨hI.put hU5 (.tail _ (.tail _ (.tail _ (.tail _ (.tail _ (.head _)))))),hM⟩
  constructor
  ·rintro S L' wS hI hM hS0 ⟨d5,-,-⟩;have e23:bq L' 23=.pointer (some ⟨g,0,none⟩):=hI.get (i:=5) (.tail _ (.tail _ (.tail _ (.tail _ (.tail _ (.head _)))))) d5;have hM':=hM;obtain ⟨hgB,⟨cs9,hs9z,hq9,hqe⟩,hC9⟩:=hM';exact bI (aw e23) ⟨hI.put hU5 (.tail _ (.tail _ (.tail _ (.tail _ (.tail _ (.tail _ (.head _))))))),hM⟩
  constructor
  ·rintro S L' wS hI hM hS0 ⟨d6,-,-⟩;have e24:bq L' 24=.pointer (some ⟨g,0,none⟩):=hI.get (i:=6) (.tail _ (.tail _ (.tail _ (.tail _ (.tail _ (.tail _ (.head _))))))) d6;have hM':=hM;obtain ⟨hgB,⟨cs9,hs9z,hq9,hqe⟩,hC9⟩:=hM';exact bI (ae jE e24) ⟨hI.put hU5 (.tail _ (.tail _ (.tail _ (.tail _ (.tail _ (.tail _ (.tail _ (.head _)))))))),hM⟩
  constructor
  ·rintro S L' wS hI hM hS0 ⟨d7,-,-⟩;have e25:bq L' 25=.pointer (some ⟨g,0+22,none⟩):=hI.get (i:=7) (.tail _ (.tail _ (.tail _ (.tail _ (.tail _ (.tail _ (.tail _ (.head _)))))))) d7;have hM':=hM;obtain ⟨hgB,⟨cs9,hs9z,hq9,hqe⟩,hC9⟩:=hM';exact bI (ar fD e25 (by exact (show _=some (Value.slice O9 L9.length oc9) from hgB.rd 22 rfl))) ⟨hI.put hU5 (.tail _ (.tail _ (.tail _ (.tail _ (.tail _ (.tail _ (.tail _ (.tail _ (.head _))))))))),hM⟩
  constructor
  ·rintro S L' wS hI hM hS0 ⟨d4,d0,d1,d2,d3,d4,-,-,-,-,-⟩;have e2:=hI.1 2 (by simp);have e22:bq L' 22=.agg (rfV (cn s).s a9).toArray:=hI.get (i:=4) (.tail _ (.tail _ (.tail _ (.tail _ (.head _))))) d4;have hM':=hM;obtain ⟨hgB,⟨cs9,hs9z,hq9,hqe⟩,hC9⟩:=hM';obtain ⟨w2,hR,hO,hb⟩:=fH (n:=27) (L:=L') (x:=.tmp 2) (y:=.tmp 22) (vs:=(rfV (cn s).s a9)) au e2 e22 (by simp [rfV,Value.oneCell']) hq9 (by rw [hs9z];rfl);exact ic hR ⟨hI.skip (by simp),hgB.only hO hn2,⟨_,rfl,hb,fun _=>rfl⟩,hC9.next (hO.toChg rfl)⟩
  constructor
  ·rintro S L' wS hI hM hS0 ⟨d8,d9,d0,d1,d2,d3,d4,d5,d6,d7,d8,d9,-⟩;have e26:bq L' 26=.slice O9 L9.length oc9:=hI.get (i:=8) (.tail _ (.tail _ (.tail _ (.tail _ (.tail _ (.tail _ (.tail _ (.tail _ (.head _))))))))) d8;have hM':=hM;obtain ⟨hgB,⟨cs9,hs9z,hq9,hqe⟩,hC9⟩:=hM';exact bI (dg e26) ⟨hI.put hU5 (.tail _ (.tail _ (.tail _ (.tail _ (.tail _ (.tail _ (.tail _ (.tail _ (.tail _ (.head _)))))))))),hM⟩
  constructor
  ·rintro S L' wS hI hM hS0 ⟨d10,d0,d1,d2,d3,d4,d5,d6,d7,d8,d9,d10,-⟩;have hM':=hM;obtain ⟨hgB,⟨cs9,hs9z,hq9,hqe⟩,hC9⟩:=hM';exact bI (dg rfl) ⟨hI.put hU5 (.tail _ (.tail _ (.tail _ (.tail _ (.tail _ (.tail _ (.tail _ (.tail _ (.tail _ (.tail _ (.head _))))))))))),hM⟩
  exact trivial
 ·intro w6 hM;obtain ⟨hgB,⟨cs9,hs9z,hq9,hqe⟩,hC9⟩:=hM;have hqe:=hqe rfl;subst hqe;refine ah (aD (tb rfl (cS (cs:=[_,_,_,_,_,_,_,_,_,_,_,_,_,_,_,_,_,_,_,_,_,_]) aB au rfl (by exact hq9.whole)) (dW (v:=.slice _ _ _) rfl) (dW (v:=.int _ _) rfl) ?_));exact ⟨xg.mk_ hs9 (fun k hk=>Nat.lt_of_lt_of_le hk hz9) (hC9.wide (fun k hk=>.inl (by rw [show k=b2 from hk];exact hlt2))),(hBq.chg hC9 (fun k hk=>by rw [show k=b2 from hk];exact hg2))⟩
theorem oy:aV prog 85=true:=by kernel_rfl
theorem rH:aV prog 108=true:=by kernel_rfl
theorem eF:aV prog 16=true:=by kernel_rfl
theorem oT:∀ (a0:Int) (a1:Int) (a2:Int) (a3:Int) (a4:Int) (a5:Int) (a6:Int) (a7:Int) (a8:Option Addr) (a9 a10:Nat) (a11:ByteArray) (a12:Int) (a13:Int) (a14:Int) (a15:Int) (a16:Option Addr) (a17 a18:Nat) (a19:Option Addr) (a20 a21:Nat) (a22:Option Addr) (a23 a24:Nat) (a25:Option Addr) (a26 a27:Nat) (a28:Int) (a29:Option Addr) (a30 a31:Nat) (a32:ByteArray) (a33:Int),prog.built 111 [(0,.agg #[.int .i64 a0,.int .i64 a1,.int .i64 a2,.int .i64 a3,.int .i64 a4,.int .i64 a5,.int .i64 a6,.int .i64 a7,.slice a8 a9 a10,.string a11,.int .i64 a12,.int .i64 a13,.int .i64 a14,.int .u64 a15,.slice a16 a17 a18,.slice a19 a20 a21,.slice a22 a23 a24,.slice a25 a26 a27,.int .i64 a28,.slice a29 a30 a31,.string a32,.int .i64 a33])]=some #[.int .i64 a0,.int .i64 a1,.int .i64 a2,.int .i64 a3,.int .i64 a4,.int .i64 a5,.int .i64 a6,.int .i64 a7,.slice a8 a9 a10,.string a11,.int .i64 a12,.int .i64 a13,.int .i64 a14,.int .u64 a15,.slice a16 a17 a18,.slice a19 a20 a21,.slice a22 a23 a24,.slice a25 a26 a27,.int .i64 a28,.slice a29 a30 a31,.string a32,.int .i64 a33,.slice none 0 0]:=by intros;kernel_rfl
theorem oz:aV prog 68=true:=by kernel_rfl
theorem iP:∀ (a0:Int) (a1:Int) (a2:Int),prog.built 39 [(0,.int .i64 1),(2,.int .i64 a0),(4,.int .i64 a1),(5,.int .i64 a2)]=some #[.int .i64 1,.int .i64 0,.int .i64 a0,.int .i64 0,.int .i64 a1,.int .i64 a2,.int .i64 0,.int .i64 0,.bool false,.slice none 0 0,.int .i64 0,.string ⟨#[]⟩,.bool false]:=by intros;kernel_rfl
theorem sK:aV prog 72=true:=by kernel_rfl
section
variable {P:Program} {ops:Array Oper} {Q:Exit→Act→World→Prop} {rest:List Oper} {n:Fr} {L:List (Nat×Value)} {w0 w:World} {Z:Nat→Prop} {ty:TypeId} {pos:String} {after:Array Edge} {t:TypeId} {x y:Operand} {T g:Nat} {p:Sp} {s':Rf}
theorem bn.rd {k:Nat} {v:Value} (h:bn w0 Z w T g p) (hv:∀ a,(rfV p.s a)[k]? =some v):w.cell? ⟨g,k,none⟩=some v:=by
 obtain ⟨tag,a,O,oc,L,hs⟩:=h.ex;exact cr hs.b k (hv a)
theorem fO {k:Nat} {v:Value} (ht:ec P t=some 1) (hx:ev n L x=.pointer (some ⟨g,k,none⟩)) (hy:ev n L y=v) (h1:v.oneCell'=true) (h:bn w0 Z w T g p) (e:∀ a,k<22∧(rfV p.s a).set k v=rfV s' a)
 (hr:s'.es=p.s.es∧s'.votes=p.s.votes∧s'.next=p.s.next∧s'.mtch=p.s.mtch∧s'.sent=p.s.sent∧s'.reads=p.s.reads)
 (kk:∀ w',bn w0 Z w' T g ⟨s',p.out⟩→St P ops Q rest n L w'):St P ops Q (⟨none,.store t x y,ty,pos,after,none⟩::rest) n L w:=by
 obtain ⟨tag,a,O,oc,L1,hs⟩:=h.ex;exact cj ht hx hy h1 hs.b (e a) fun w' o b=>kk w' (h.set hs (o.toChg rfl) (aR.same hs.f hr.1 hr.2.1 hr.2.2.1 hr.2.2.2.1 hr.2.2.2.2.1 hr.2.2.2.2.2) b).2
end
def mN (w w':World) (p:Sp) (tag:Nat→Nat) (a:Ra) (O:Option Addr) (oc:Nat) (L:List Msg):Prop:=aR w' tag p.s a∧ew w' tag p.out O oc L∧∀ k,k<w.heap.size→tag k=8
theorem mN.mk_ {w w1 w':World} {T g oc:Nat} {tag:Nat→Nat} {p:Sp} {a:Ra} {O:Option Addr} {L:List Msg} {Z:Nat→Prop} (hs:gu w1 Z T g tag p a O oc L) (hz:∀ k,k<w.heap.size→Z k) (hC:Chg (fun k=>Z k) w1 w'):mN w w' p tag a O oc L:=by
 have ne:∀ {d:Nat} {A:Option Addr},d≠8→Col tag d A→∀ k,A.map (·.block)=some k→¬ Z k:=fun hd hc k hk e=>hd ((hc k hk).symm.trans (hs.z k e))
 have mv:∀ {d e s n cc:Nat} {A:Option Addr} {xs:List Value},d≠8→w1.ownsRow 0 e s (.slice A n cc) n xs∧Col tag d A→w'.ownsRow 0 e s (.slice A n cc) n xs∧Col tag d A:=fun hd h=>⟨dB h.1 hC (ne hd h.2),h.2⟩
 exact ⟨⟨fun hx=>mv (by decide) (hs.f.e hx),fun hx=>mv (by decide) (hs.f.v hx),fun hx=>mv (by decide) (hs.f.x hx),fun hx=>mv (by decide) (hs.f.m hx),fun hx=>mv (by decide) (hs.f.n hx),hs.f.r,fun hx=>mv (by decide) (hs.f.q hx),fun i hi hx=>mv (by omega) (hs.f.k i hi hx)⟩,⟨(mv (d:=6) (by decide) ⟨hs.m.o,hs.m.c⟩).1,hs.m.l,fun j hj=>mv (by omega) (hs.m.e j hj),hs.m.c⟩,fun k hk=>hs.z k (hz k hk)⟩
def yj (p:Sp) (a:Ra) (O:Option Addr) (oc:Nat) (L:List Msg):List Value:=[.agg (rfV p.s a).toArray,.slice O L.length oc]
theorem pt (c:Rf) (id:Int) (k:Nat):(fJ id (k+1)).foldl (fun (p:Sp) x=>p.tell (ja c x)) (⟨c,[]⟩:Sp)=if ((k:Int)+1)=id then (fJ id k).foldl (fun (p:Sp) x=>p.tell (ja c x)) (⟨c,[]⟩:Sp) else ((fJ id k).foldl (fun (p:Sp) x=>p.tell (ja c x)) (⟨c,[]⟩:Sp)).tell (ja c ((k:Int)+1)):=by
 rw [kp];by_cases h:((k:Int)+1)=id
 ·rw [if_pos (show ((k+1:Nat):Int)=id by omega),if_pos h]
 ·rw [if_neg (show ¬ ((k+1:Nat):Int)=id by omega),if_neg h,List.foldl_append];rfl
theorem nG (A:Option Addr) (c:Nat) (n:Int) (L:List Int) (w:World) (hr:eb iV w A L) (hl:L.length≤1000000) (h:1≤n∧n≤7):Rt prog 85 [.int .i64 n,.slice A L.length c] w fun v w'=>v=.bool (dK n L)∧ai w w':=by
 obtain ⟨N,rfl⟩:∃ N:Nat,n=N:=⟨n.toNat,by omega⟩;refine (pR A c N L w hr hl (by omega)).mono fun v w' h9=>⟨h9.1.trans (congrArg Value.bool ?_),h9.2 ▸ ai.rfl_⟩
 unfold dK;exact decide_eq_decide.2 (by rw [Int.toNat_natCast];omega)
theorem uJ (w0:World) (Z:Nat→Prop) (T g:Nat) (p:Sp) (w:World) (h:bn w0 Z w T g p) (hF:RfF p.s) (hl:p.out.length≤700) :
 Rt prog 72 [.pointer (some ⟨g,0,none⟩)] w (fun v w'=>v=.tuple #[]∧bn w0 Z w' T g (iB p)):=by
 obtain ⟨s,out⟩:=p;obtain ⟨tag,a,O,oc,L,hs⟩:=h.ex;obtain ⟨E,Ec,V,Vc,X,Xc,M,Mc,Sn,Sc,Q,Qc,LL⟩:=a;have hb:Blk w g T (rfV s (⟨E,Ec,V,Vc,X,Xc,M,Mc,Sn,Sc,Q,Qc,LL⟩:Ra)++[Value.slice O L.length oc]).toArray:=hs.b
 have hll:L.length=out.length:=by
  have h9:=congrArg List.length hs.m.l;rw [List.length_map] at h9;exact h9
 have hF:RfF s:=hF;have hl:out.length≤700:=hl;have hvr:IR w V Vc s.votes:=ju (hs.f.v (by decide)).1;have hvl:=hF.vl;have hnn:=hF.n;refine enter (n:=15) Tryz.func72 rfl rfl rfl (an ?_);apply dR 11 [(2,eqp _),(3,eqp _),(4,eqp _),(5,eqp _),(6,eqp (.int .i64 s.nodes)),(7,eqp _),(8,eqp _),(9,eqp _),(10,eqp _),(11,eqp (.slice V s.votes.length Vc)),(12,eqp _)] (by repeat first | exact ep | refine en ?_ | refine dS ?_) (by kernel_rfl) (by kernel_rfl) ⟨av _,av _,av _,av _,av _,av _,av _,av _,av _,av _,av _,trivial⟩
 case hop=>
  constructor
  ·rintro-w2 D2;exact az (aM (v:=.pointer _) rfl) rfl
  constructor
  ·rintro-w3 D3;rintro _ rfl;exact az (aw rfl) rfl
  constructor
  ·rintro-w4 D4;rintro _ rfl;exact az (ae aK rfl) rfl
  constructor
  ·rintro-w5 D5;rintro _ rfl;exact az (ae bA rfl) rfl
  constructor
  ·rintro-w6 D6;rintro _ rfl;exact az (ar ao rfl (by exact (show _=some (Value.int .i64 s.nodes) from cr (hb.from_ (ai.rfl_.next D6)) 1 rfl))) rfl
  constructor
  ·rintro-w7 D7;exact az (aM (v:=.pointer _) rfl) rfl
  constructor
  ·rintro-w8 D8;rintro _ rfl;exact az (aw rfl) rfl
  constructor
  ·rintro-w9 D9;rintro _ rfl;exact az (ae aK rfl) rfl
  constructor
  ·rintro-w10 D10;rintro _ rfl;exact az (ae cP rfl) rfl
  constructor
  ·rintro-w11 D11;rintro _ rfl;exact az (ar aP rfl (by exact (show _=some (Value.slice V s.votes.length Vc) from cr (hb.from_ (ai.rfl_.next D11)) 14 rfl))) rfl
  constructor
  ·rintro-w12 D12;rintro v12_6 rfl v12_11 rfl;refine fK oy ((nG V Vc s.nodes s.votes _ (hvr.1.from_ (ai.rfl_.next D12)) (by omega) hnn).mono ?_);rintro v _ ⟨rfl,E12'⟩;exact ⟨E12',rfl⟩
  exact trivial
 case hend=>
  intro w13 D13;rintro _ rfl _ rfl _ rfl _ rfl v6 rfl _ rfl _ rfl _ rfl _ rfl v11 rfl _ rfl;show St ..;refine ak (ah (yS rfl (fun Q14=>?_) (fun Q14=>?_)))
  ·have h11t:dK s.nodes s.votes=true:=by
    unfold dK;exact decide_eq_true Q14
   refine ag (mvp rfl (aA rH (tS w0 Z T g ⟨s,out⟩ _ (h.from_ (ai.rfl_.next D13)) hF hl) ?_));rintro v14 w15 ⟨rfl,h13⟩;refine ak (df (eX rfl ?_));unfold iB
   first
    |(rw [if_pos h11t];exact ⟨rfl,h13.from_ (ai.rfl_ (a:=w15))⟩)
    |(rw [if_neg (by show ¬ dK s.nodes s.votes=true;rw [h11f];decide)];exact ⟨rfl,h.from_ (ai.rfl_ (a:=w15))⟩)
  have h11f:dK s.nodes s.votes=false:=by
   unfold dK;exact decide_eq_false Q14
  refine aO (df (eX rfl ?_));unfold iB
  first
   |(rw [if_pos h11t];exact ⟨rfl,h13.from_ (ai.rfl_.next D13)⟩)
   |(rw [if_neg (by show ¬ dK s.nodes s.votes=true;rw [h11f];decide)];exact ⟨rfl,h.from_ (ai.rfl_.next D13)⟩)
theorem uL (s:Rf) (a:Ra) (w:World) (hrd:eD w s a) (hl:s.votes.length≤1000000∧s.next.length≤1000000∧s.mtch.length≤1000000∧s.sent.length≤1000000∧s.reads.length≤1000000∧∀ q∈s.reads,q.acks.length≤1000000) (hel:s.es.length≤1000000) (hF:RfF s) :
 Rt prog 32 [.agg (rfV s a).toArray] w (fun v w'=>(∃ tag a' O oc L,v=.tuple (yj (cn s) a' O oc L).toArray∧mN w w' (cn s) tag a' O oc L)∧ai w w'):=by
 have hel9:=hF.el;have hrn:=hF.rn;have hti:=hF.ti;have hte:=hF.te;have hnn:=hF.n;have hFe:RfF ({ s with elapsed:=min (s.elapsed+1) 1099511627775 }:Rf):=hF.elapse (by omega);refine enter (n:=180) Tryz.func32 rfl rfl rfl (an (ag (cE (v:=.agg _) rfl ?_)));intro b1 w1 E1 hb1 hk1;refine bw bC ?_;intro b2 w2 E2 hb2 hk2;have hg2:w.heap.size≤b2:=by rw [hb2];exact ((ai.rfl_.next E1)).size
 refine ass rfl (ak (ah (an (ag (aa (aJ (cs:=rfV s a) aB au rfl (((hk1.from_ E2).from_ ai.rfl_).whole)) ?_)))));have hB9:ai w w2:=((ai.rfl_.next E1).next E2);have hk2b:=hk2.from_ ai.rfl_;have hlt2:=hk2b.lt;obtain ⟨wb,hw9⟩:∃ x,x=w2:=⟨_,rfl⟩;obtain ⟨Z,hZ⟩:∃ Z:Nat→Prop,Z=fun k=>k<wb.heap.size:=⟨_,rfl⟩
 refine aA eF (eh s a _ (hrd.from_ ((ai.rfl_.next E1).next E2)) hl hel) ?_;rintro v9 w3 ⟨⟨tag9,a9,rfl,hf9,ht9⟩,E9⟩;refine aa (cp (l:=[(0,.tmp 9)]) (oT _ _ _ _ _ _ _ _ _ _ _ _ _ _ _ _ _ _ _ _ _ _ _ _ _ _ _ _ _ _ _ _ _ _)) (cE (v:=.agg _) rfl ?_);intro b11 w4 E11 hb11 hk11
 have h11:bn wb Z w4 111 b11 ⟨s,[]⟩:=by
  rw [hZ,hw9];exact qB E9 hf9 ht9 E11 hb11 (show Blk _ b11 111 (rfV s a9++[Value.slice none 0 0]).toArray from hk11)
 rw [←hw9] at hB9 hk2b hlt2;have stB:∀ {w':World} {p:Sp},bn wb Z w' 111 b11 p→ai w w':=fun h=>hB9.next (fF (by rw [hZ] at h;exact h))
 have hzB:=hB9.size;have hz2:Z b2:=by rw [hZ];exact hlt2
 have hzw:∀ k,k<w.heap.size→Z k:=fun k hk=>by rw [hZ];exact Nat.lt_of_lt_of_le hk hzB
 refine asp rfl (ak (ah (an (ag (mvp rfl (mvp rfl (aa (aw rfl) (aa (ae aK rfl) (aa (ae cM rfl) (aa (ar ao rfl (by exact (show _=some (Value.int .i64 s.elapsed) from (h11.from_ ai.rfl_).rd (fun _=>rfl)))) ?_))))))))));refine aa (bE rfl rfl (by omega)) (aa (js rfl rfl) (ey (t:=19) (v:=.int _ _) (v':=.int .i64 (min (s.elapsed+1) 1099511627775)) rfl (by exact br (by omega)) ?_));refine aa (aw rfl) (aa (ae aK rfl) (aa (ae cM rfl) (fO (s':=({ s with elapsed:=min (s.elapsed+1) 1099511627775 }:Rf)) bp rfl rfl rfl (h11.from_ ai.rfl_) (fun _=>⟨by decide,rfl⟩) ⟨rfl,rfl,rfl,rfl,rfl,rfl⟩ ?_)));intro w5 h2;refine ak (ah (an (an (ag (mvp rfl (aa (aw rfl) (aa (ae aK rfl) (aa (ae cV rfl) (aa (ar ao rfl (by exact (show _=some (Value.int .i64 s.role) from (h2.from_ ai.rfl_).rd (fun _=>rfl)))) ?_)))))))));refine aa (bB rfl rfl) (ak (ah (yS rfl (fun Q6=>?_) (fun Q6=>?_))))
 ·refine an (an (ag (mvp rfl (aa (aw rfl) (aa (ae aK rfl) (aa (ae cM rfl) (aa (ar ao rfl (by exact (show _=some (Value.int .i64 (min (s.elapsed+1) 1099511627775)) from (h2.from_ ai.rfl_).rd (fun _=>rfl)))) ?_)))))));refine aa (j6 rfl rfl) (ak (ah (yS rfl (fun Q7=>?_) (fun Q7=>?_))))
  ·refine an (ag (mvp rfl (aa (aw rfl) (aa (ae aK rfl) (aa (ae cM rfl) (fO (s':=({ s with elapsed:=0 }:Rf)) bp rfl rfl rfl (h2.from_ ai.rfl_) (fun _=>⟨by decide,rfl⟩) ⟨rfl,rfl,rfl,rfl,rfl,rfl⟩ ?_))))));intro w8 h5;refine ak (ah (an (ag (mvp rfl (mvp rfl (aa (aw rfl) (aa (ae aK rfl) (aa (ae cQ rfl) (aa (ar ao rfl (by exact (show _=some (Value.int .i64 s.round) from (h5.from_ ai.rfl_).rd (fun _=>rfl)))) ?_)))))))));refine aa (bE rfl rfl (by omega)) (aa (js rfl rfl) (ey (t:=46) (v:=.int _ _) (v':=.int .i64 (min (s.round+1) 1099511627775)) rfl (by exact br (by omega)) ?_));refine aa (aw rfl) (aa (ae aK rfl) (aa (ae cQ rfl) (fO (s':=({ s with elapsed:=0,round:=min (s.round+1) 1099511627775 }:Rf)) bp rfl rfl rfl (h5.from_ ai.rfl_) (fun _=>⟨by decide,rfl⟩) ⟨rfl,rfl,rfl,rfl,rfl,rfl⟩ ?_)));intro w9 h6;refine ak (ah (ag (mvp rfl (aA oB (tc wb Z 111 b11 ⟨({ s with elapsed:=0,round:=min (s.round+1) 1099511627775 }:Rf),[]⟩ _ (h6.from_ ai.rfl_) (hF.beat (by omega) (by omega)) (show s.role=2 by omega) (by show 0≤800;omega)) ?_))));rintro v51 w10 ⟨rfl,h8⟩
   have hT:bn wb Z w10 111 b11 (cn s):=(by
    unfold cn;rw [if_pos (show s.role=2 by omega),if_pos (show 2≤min (s.elapsed+1) da by unfold da;omega)];exact h8)
   obtain ⟨tag8,a8,O8,oc8,L8,hs8⟩:=hT.ex;have hBq:ai w w10:=stB hT;have hk2c:=hT.kept hz2 hk2b;have hn2:b2≠b11:=fun e=>by have h1:=hs8.z b2 hz2;rw [e,hs8.gc] at h1;cases h1
   replace hn2:=hn2.symm;refine ak (ah (an ?_));have hU11:jc [(0,52,.pointer (some ⟨b11,0,none⟩)),(1,53,.pointer (some ⟨b11,0,none⟩)),(2,54,.pointer (some ⟨b11,0+0,none⟩)),(3,55,.agg (rfV (cn s).s a8).toArray),(4,56,.pointer (some ⟨b11,0,none⟩)),(5,57,.pointer (some ⟨b11,0,none⟩)),(6,58,.pointer (some ⟨b11,0+22,none⟩)),(7,59,.slice O8 L8.length oc8),(9,3,.slice O8 L8.length oc8)]:=by simp [jc]
   refine jB [(0,52,.pointer (some ⟨b11,0,none⟩)),(1,53,.pointer (some ⟨b11,0,none⟩)),(2,54,.pointer (some ⟨b11,0+0,none⟩)),(3,55,.agg (rfV (cn s).s a8).toArray),(4,56,.pointer (some ⟨b11,0,none⟩)),(5,57,.pointer (some ⟨b11,0,none⟩)),(6,58,.pointer (some ⟨b11,0+22,none⟩)),(7,59,.slice O8 L8.length oc8),(9,3,.slice O8 L8.length oc8)] (fun S w'=>Blk w' b11 111 ((rfV (cn s).s a8)++[Value.slice O8 L8.length oc8]).toArray∧(∃ cs:Array Value,cs.size=22∧Blk w' b2 29 cs∧(S 8=true→cs=(rfV (cn s).s a8).toArray))∧Chg (fun k=>k=b2) w10 w') (by kernel_rfl) (by kernel_rfl) hU11 (by simp) (⟨hs8.b.from_ ai.rfl_.d1,⟨_,rfl,hk2c.from_ ai.rfl_.d1,fun h=>(by cases h)⟩,ai.rfl_.d1.toChg⟩) ?_ ?_
   ·constructor
    ·rintro S L' wS hI hM hS0 ⟨-⟩;have e4:=hI.1 4 (by simp);have hM':=hM;obtain ⟨hgB,⟨cs9,hs9z,hq9,hqe⟩,hC9⟩:=hM';exact bI (aM e4) ⟨hI.put hU11 (.head _),hM⟩
    constructor
    ·rintro S L' wS hI hM hS0 ⟨d0,-⟩;have e52:bq L' 52=.pointer (some ⟨b11,0,none⟩):=hI.get (i:=0) (.head _) d0;have hM':=hM;obtain ⟨hgB,⟨cs9,hs9z,hq9,hqe⟩,hC9⟩:=hM';exact bI (aw e52) ⟨hI.put hU11 (.tail _ (.head _)),hM⟩
    constructor
    ·rintro S L' wS hI hM hS0 ⟨d1,-⟩;have e53:bq L' 53=.pointer (some ⟨b11,0,none⟩):=hI.get (i:=1) (.tail _ (.head _)) d1;have hM':=hM;obtain ⟨hgB,⟨cs9,hs9z,hq9,hqe⟩,hC9⟩:=hM';exact bI (ae aK e53) ⟨hI.put hU11 (.tail _ (.tail _ (.head _))),hM⟩
    constructor
    ·rintro S L' wS hI hM hS0 ⟨d2,-⟩;have e54:bq L' 54=.pointer (some ⟨b11,0+0,none⟩):=hI.get (i:=2) (.tail _ (.tail _ (.head _))) d2;have hM':=hM;obtain ⟨hgB,⟨cs9,hs9z,hq9,hqe⟩,hC9⟩:=hM';exact bI (aJ (cs:=(rfV (cn s).s a8)) aB au e54 (gh hgB)) ⟨hI.put hU11 (.tail _ (.tail _ (.tail _ (.head _)))),hM⟩
    constructor
    ·rintro S L' wS hI hM hS0 ⟨-,-⟩;have e4:=hI.1 4 (by simp);have hM':=hM;obtain ⟨hgB,⟨cs9,hs9z,hq9,hqe⟩,hC9⟩:=hM';exact bI (aM e4) ⟨hI.put hU11 (.tail _ (.tail _ (.tail _ (.tail _ (.head _))))),hM⟩
    constructor
    ·rintro S L' wS hI hM hS0 ⟨d4,-,-⟩;have e56:bq L' 56=.pointer (some ⟨b11,0,none⟩):=hI.get (i:=4) (.tail _ (.tail _ (.tail _ (.tail _ (.head _))))) d4;have hM':=hM;obtain ⟨hgB,⟨cs9,hs9z,hq9,hqe⟩,hC9⟩:=hM';exact bI (aw e56) ⟨hI.put hU11 (.tail _ (.tail _ (.tail _ (.tail _ (.tail _ (.head _)))))),hM⟩
    constructor
    ·rintro S L' wS hI hM hS0 ⟨d5,-,-⟩;have e57:bq L' 57=.pointer (some ⟨b11,0,none⟩):=hI.get (i:=5) (.tail _ (.tail _ (.tail _ (.tail _ (.tail _ (.head _)))))) d5;have hM':=hM;obtain ⟨hgB,⟨cs9,hs9z,hq9,hqe⟩,hC9⟩:=hM';exact bI (ae eU e57) ⟨hI.put hU11 (.tail _ (.tail _ (.tail _ (.tail _ (.tail _ (.tail _ (.head _))))))),hM⟩
    constructor
    ·rintro S L' wS hI hM hS0 ⟨d6,-,-⟩;have e58:bq L' 58=.pointer (some ⟨b11,0+22,none⟩):=hI.get (i:=6) (.tail _ (.tail _ (.tail _ (.tail _ (.tail _ (.tail _ (.head _))))))) d6;have hM':=hM;obtain ⟨hgB,⟨cs9,hs9z,hq9,hqe⟩,hC9⟩:=hM';exact bI (ar fD e58 (by exact (show _=some (Value.slice O8 L8.length oc8) from hgB.rd 22 rfl))) ⟨hI.put hU11 (.tail _ (.tail _ (.tail _ (.tail _ (.tail _ (.tail _ (.tail _ (.head _)))))))),hM⟩
    constructor
    ·rintro S L' wS hI hM hS0 ⟨d3,d0,d1,d2,d3,-,-,-,-,-⟩;have e2:=hI.1 2 (by simp);have e55:bq L' 55=.agg (rfV (cn s).s a8).toArray:=hI.get (i:=3) (.tail _ (.tail _ (.tail _ (.head _)))) d3;have hM':=hM;obtain ⟨hgB,⟨cs9,hs9z,hq9,hqe⟩,hC9⟩:=hM';obtain ⟨w2,hR,hO,hb⟩:=fH (n:=180) (L:=L') (x:=.tmp 2) (y:=.tmp 55) (vs:=(rfV (cn s).s a8)) au e2 e55 (by simp [rfV,Value.oneCell']) hq9 (by rw [hs9z];rfl);exact ic hR ⟨hI.skip (by simp),hgB.only hO hn2,⟨_,rfl,hb,fun _=>rfl⟩,hC9.next (hO.toChg rfl)⟩
    constructor
    ·rintro S L' wS hI hM hS0 ⟨d7,d8,d0,d1,d2,d3,d4,d5,d6,d7,d8,-⟩;have e59:bq L' 59=.slice O8 L8.length oc8:=hI.get (i:=7) (.tail _ (.tail _ (.tail _ (.tail _ (.tail _ (.tail _ (.tail _ (.head _)))))))) d7;have hM':=hM;obtain ⟨hgB,⟨cs9,hs9z,hq9,hqe⟩,hC9⟩:=hM';exact bI (dg e59) ⟨hI.put hU11 (.tail _ (.tail _ (.tail _ (.tail _ (.tail _ (.tail _ (.tail _ (.tail _ (.head _))))))))),hM⟩
    exact trivial
   ·intro w12 hM;obtain ⟨hgB,⟨cs9,hs9z,hq9,hqe⟩,hC9⟩:=hM;have hqe:=hqe rfl;subst hqe;refine ah (aD (aC (fo rfl (cS (cs:=[_,_,_,_,_,_,_,_,_,_,_,_,_,_,_,_,_,_,_,_,_,_]) aB au rfl (by exact hq9.whole)) (dW (v:=.slice _ _ _) rfl) ?_)));exact ⟨⟨tag8,a8,O8,oc8,L8,rfl,mN.mk_ hs8 hzw (hC9.wide (fun k hk=>.inl (by rw [show k=b2 from hk];exact hz2)))⟩,(hBq.chg hC9 (fun k hk=>by rw [show k=b2 from hk];exact hg2))⟩
  have hT:bn wb Z w5 111 b11 (cn s):=(by
   unfold cn;rw [if_pos (show s.role=2 by omega),if_neg (show ¬ 2≤min (s.elapsed+1) da by unfold da;omega)];exact h2.from_ ai.rfl_)
  obtain ⟨tag8,a8,O8,oc8,L8,hs8⟩:=hT.ex;have hBq:ai w w5:=stB hT;have hk2c:=hT.kept hz2 hk2b;have hn2:b2≠b11:=fun e=>by have h1:=hs8.z b2 hz2;rw [e,hs8.gc] at h1;cases h1
  replace hn2:=hn2.symm;refine aO (ah (an ?_));have hU13:jc [(0,52,.pointer (some ⟨b11,0,none⟩)),(1,53,.pointer (some ⟨b11,0,none⟩)),(2,54,.pointer (some ⟨b11,0+0,none⟩)),(3,55,.agg (rfV (cn s).s a8).toArray),(4,56,.pointer (some ⟨b11,0,none⟩)),(5,57,.pointer (some ⟨b11,0,none⟩)),(6,58,.pointer (some ⟨b11,0+22,none⟩)),(7,59,.slice O8 L8.length oc8),(9,3,.slice O8 L8.length oc8)]:=by simp [jc]
  refine jB [(0,52,.pointer (some ⟨b11,0,none⟩)),(1,53,.pointer (some ⟨b11,0,none⟩)),(2,54,.pointer (some ⟨b11,0+0,none⟩)),(3,55,.agg (rfV (cn s).s a8).toArray),(4,56,.pointer (some ⟨b11,0,none⟩)),(5,57,.pointer (some ⟨b11,0,none⟩)),(6,58,.pointer (some ⟨b11,0+22,none⟩)),(7,59,.slice O8 L8.length oc8),(9,3,.slice O8 L8.length oc8)] (fun S w'=>Blk w' b11 111 ((rfV (cn s).s a8)++[Value.slice O8 L8.length oc8]).toArray∧(∃ cs:Array Value,cs.size=22∧Blk w' b2 29 cs∧(S 8=true→cs=(rfV (cn s).s a8).toArray))∧Chg (fun k=>k=b2) w5 w') (by kernel_rfl) (by kernel_rfl) hU13 (by simp) (⟨hs8.b.from_ ai.rfl_.d1,⟨_,rfl,hk2c.from_ ai.rfl_.d1,fun h=>(by cases h)⟩,ai.rfl_.d1.toChg⟩) ?_ ?_
  ·constructor
   ·rintro S L' wS hI hM hS0 ⟨-⟩;have e4:=hI.1 4 (by simp);have hM':=hM;obtain ⟨hgB,⟨cs9,hs9z,hq9,hqe⟩,hC9⟩:=hM';exact bI (aM e4) ⟨hI.put hU13 (.head _),hM⟩
   constructor
   ·rintro S L' wS hI hM hS0 ⟨d0,-⟩;have e52:bq L' 52=.pointer (some ⟨b11,0,none⟩):=hI.get (i:=0) (.head _) d0;have hM':=hM;obtain ⟨hgB,⟨cs9,hs9z,hq9,hqe⟩,hC9⟩:=hM';exact bI (aw e52) ⟨hI.put hU13 (.tail _ (.head _)),hM⟩
   constructor
   ·rintro S L' wS hI hM hS0 ⟨d1,-⟩;have e53:bq L' 53=.pointer (some ⟨b11,0,none⟩):=hI.get (i:=1) (.tail _ (.head _)) d1;have hM':=hM;obtain ⟨hgB,⟨cs9,hs9z,hq9,hqe⟩,hC9⟩:=hM';exact bI (ae aK e53) ⟨hI.put hU13 (.tail _ (.tail _ (.head _))),hM⟩
   constructor
   ·rintro S L' wS hI hM hS0 ⟨d2,-⟩;have e54:bq L' 54=.pointer (some ⟨b11,0+0,none⟩):=hI.get (i:=2) (.tail _ (.tail _ (.head _))) d2;have hM':=hM;obtain ⟨hgB,⟨cs9,hs9z,hq9,hqe⟩,hC9⟩:=hM';exact bI (aJ (cs:=(rfV (cn s).s a8)) aB au e54 (gh hgB)) ⟨hI.put hU13 (.tail _ (.tail _ (.tail _ (.head _)))),hM⟩
   constructor
   ·rintro S L' wS hI hM hS0 ⟨-,-⟩;have e4:=hI.1 4 (by simp);have hM':=hM;obtain ⟨hgB,⟨cs9,hs9z,hq9,hqe⟩,hC9⟩:=hM';exact bI (aM e4) ⟨hI.put hU13 (.tail _ (.tail _ (.tail _ (.tail _ (.head _))))),hM⟩
   constructor
   ·rintro S L' wS hI hM hS0 ⟨d4,-,-⟩;have e56:bq L' 56=.pointer (some ⟨b11,0,none⟩):=hI.get (i:=4) (.tail _ (.tail _ (.tail _ (.tail _ (.head _))))) d4;have hM':=hM;obtain ⟨hgB,⟨cs9,hs9z,hq9,hqe⟩,hC9⟩:=hM';exact bI (aw e56) ⟨hI.put hU13 (.tail _ (.tail _ (.tail _ (.tail _ (.tail _ (.head _)))))),hM⟩
   constructor
   ·rintro S L' wS hI hM hS0 ⟨d5,-,-⟩;have e57:bq L' 57=.pointer (some ⟨b11,0,none⟩):=hI.get (i:=5) (.tail _ (.tail _ (.tail _ (.tail _ (.tail _ (.head _)))))) d5;have hM':=hM;obtain ⟨hgB,⟨cs9,hs9z,hq9,hqe⟩,hC9⟩:=hM';exact bI (ae eU e57) ⟨hI.put hU13 (.tail _ (.tail _ (.tail _ (.tail _ (.tail _ (.tail _ (.head _))))))),hM⟩
   constructor
   ·rintro S L' wS hI hM hS0 ⟨d6,-,-⟩;have e58:bq L' 58=.pointer (some ⟨b11,0+22,none⟩):=hI.get (i:=6) (.tail _ (.tail _ (.tail _ (.tail _ (.tail _ (.tail _ (.head _))))))) d6;have hM':=hM;obtain ⟨hgB,⟨cs9,hs9z,hq9,hqe⟩,hC9⟩:=hM';exact bI (ar fD e58 (by exact (show _=some (Value.slice O8 L8.length oc8) from hgB.rd 22 rfl))) ⟨hI.put hU13 (.tail _ (.tail _ (.tail _ (.tail _ (.tail _ (.tail _ (.tail _ (.head _)))))))),hM⟩
   constructor
   ·rintro S L' wS hI hM hS0 ⟨d3,d0,d1,d2,d3,-,-,-,-,-⟩;have e2:=hI.1 2 (by simp);have e55:bq L' 55=.agg (rfV (cn s).s a8).toArray:=hI.get (i:=3) (.tail _ (.tail _ (.tail _ (.head _)))) d3;have hM':=hM;obtain ⟨hgB,⟨cs9,hs9z,hq9,hqe⟩,hC9⟩:=hM';obtain ⟨w2,hR,hO,hb⟩:=fH (n:=180) (L:=L') (x:=.tmp 2) (y:=.tmp 55) (vs:=(rfV (cn s).s a8)) au e2 e55 (by simp [rfV,Value.oneCell']) hq9 (by rw [hs9z];rfl);exact ic hR ⟨hI.skip (by simp),hgB.only hO hn2,⟨_,rfl,hb,fun _=>rfl⟩,hC9.next (hO.toChg rfl)⟩
   constructor
   ·rintro S L' wS hI hM hS0 ⟨d7,d8,d0,d1,d2,d3,d4,d5,d6,d7,d8,-⟩;have e59:bq L' 59=.slice O8 L8.length oc8:=hI.get (i:=7) (.tail _ (.tail _ (.tail _ (.tail _ (.tail _ (.tail _ (.tail _ (.head _)))))))) d7;have hM':=hM;obtain ⟨hgB,⟨cs9,hs9z,hq9,hqe⟩,hC9⟩:=hM';exact bI (dg e59) ⟨hI.put hU13 (.tail _ (.tail _ (.tail _ (.tail _ (.tail _ (.tail _ (.tail _ (.tail _ (.head _))))))))),hM⟩
   exact trivial
  ·intro w14 hM;obtain ⟨hgB,⟨cs9,hs9z,hq9,hqe⟩,hC9⟩:=hM;have hqe:=hqe rfl;subst hqe;refine ah (aD (aC (fo rfl (cS (cs:=[_,_,_,_,_,_,_,_,_,_,_,_,_,_,_,_,_,_,_,_,_,_]) aB au rfl (by exact hq9.whole)) (dW (v:=.slice _ _ _) rfl) ?_)));exact ⟨⟨tag8,a8,O8,oc8,L8,rfl,mN.mk_ hs8 hzw (hC9.wide (fun k hk=>.inl (by rw [show k=b2 from hk];exact hz2)))⟩,(hBq.chg hC9 (fun k hk=>by rw [show k=b2 from hk];exact hg2))⟩
 refine aO (ah (an (an ?_)));apply dR 11 [(60,eqp _),(61,eqp _),(62,eqp _),(63,eqp _),(64,eqp (.int .i64 (min (s.elapsed+1) 1099511627775))),(65,eqp _),(66,eqp _),(67,eqp _),(68,eqp _),(69,eqp (.int .i64 s.timeout)),(70,eqp _)] (by repeat first | exact ep | refine en ?_ | refine dS ?_) (by kernel_rfl) (by kernel_rfl) ⟨av _,av _,av _,av _,av _,av _,av _,av _,av _,av _,av _,trivial⟩
 case hop=>
  constructor
  ·rintro-w16 D16;exact az (aM (v:=.pointer _) rfl) rfl
  constructor
  ·rintro-w17 D17;rintro _ rfl;exact az (aw rfl) rfl
  constructor
  ·rintro-w18 D18;rintro _ rfl;exact az (ae aK rfl) rfl
  constructor
  ·rintro-w19 D19;rintro _ rfl;exact az (ae cM rfl) rfl
  constructor
  ·rintro-w20 D20;rintro _ rfl;exact az (ar ao rfl (by exact (show _=some (Value.int .i64 (min (s.elapsed+1) 1099511627775)) from (h2.from_ (ai.rfl_.next D20)).rd (fun _=>rfl)))) rfl
  constructor
  ·rintro-w21 D21;exact az (aM (v:=.pointer _) rfl) rfl
  constructor
  ·rintro-w22 D22;rintro _ rfl;exact az (aw rfl) rfl
  constructor
  ·rintro-w23 D23;rintro _ rfl;exact az (ae aK rfl) rfl
  constructor
  ·rintro-w24 D24;rintro _ rfl;exact az (ae ee rfl) rfl
  constructor
  ·rintro-w25 D25;rintro _ rfl;exact az (ar ao rfl (by exact (show _=some (Value.int .i64 s.timeout) from (h2.from_ (ai.rfl_.next D25)).rd (fun _=>rfl)))) rfl
  constructor
  ·rintro-w26 D26;rintro v26_64 rfl v26_69 rfl;exact az (bU rfl rfl) rfl
  exact trivial
 case hend=>
  intro w27 D27;rintro _ rfl _ rfl _ rfl _ rfl v64 rfl _ rfl _ rfl _ rfl _ rfl v69 rfl _ rfl;show St ..;refine ak (ah (yS rfl (fun Q28=>?_) (fun Q28=>?_)))
  ·have hT:bn wb Z w27 111 b11 (cn s):=(by
    unfold cn;rw [if_neg (show ¬ s.role=2 by omega),if_neg (show ¬ s.timeout≤min (s.elapsed+1) da by unfold da;omega)];exact h2.from_ (ai.rfl_.next D27))
   obtain ⟨tag8,a8,O8,oc8,L8,hs8⟩:=hT.ex;have hBq:ai w w27:=stB hT;have hk2c:=hT.kept hz2 hk2b;have hn2:b2≠b11:=fun e=>by have h1:=hs8.z b2 hz2;rw [e,hs8.gc] at h1;cases h1
   replace hn2:=hn2.symm;refine an ?_;have hU29:jc [(0,71,.pointer (some ⟨b11,0,none⟩)),(1,72,.pointer (some ⟨b11,0,none⟩)),(2,73,.pointer (some ⟨b11,0+0,none⟩)),(3,74,.agg (rfV (cn s).s a8).toArray),(4,75,.pointer (some ⟨b11,0,none⟩)),(5,76,.pointer (some ⟨b11,0,none⟩)),(6,77,.pointer (some ⟨b11,0+22,none⟩)),(7,78,.slice O8 L8.length oc8),(9,3,.slice O8 L8.length oc8)]:=by simp [jc]
   refine jB [(0,71,.pointer (some ⟨b11,0,none⟩)),(1,72,.pointer (some ⟨b11,0,none⟩)),(2,73,.pointer (some ⟨b11,0+0,none⟩)),(3,74,.agg (rfV (cn s).s a8).toArray),(4,75,.pointer (some ⟨b11,0,none⟩)),(5,76,.pointer (some ⟨b11,0,none⟩)),(6,77,.pointer (some ⟨b11,0+22,none⟩)),(7,78,.slice O8 L8.length oc8),(9,3,.slice O8 L8.length oc8)] (fun S w'=>Blk w' b11 111 ((rfV (cn s).s a8)++[Value.slice O8 L8.length oc8]).toArray∧(∃ cs:Array Value,cs.size=22∧Blk w' b2 29 cs∧(S 8=true→cs=(rfV (cn s).s a8).toArray))∧Chg (fun k=>k=b2) w27 w') (by kernel_rfl) (by kernel_rfl) hU29 (by simp) (⟨hs8.b.from_ ai.rfl_.d1,⟨_,rfl,hk2c.from_ ai.rfl_.d1,fun h=>(by cases h)⟩,ai.rfl_.d1.toChg⟩) ?_ ?_
   ·constructor
    ·rintro S L' wS hI hM hS0 ⟨-⟩;have e4:=hI.1 4 (by simp);have hM':=hM;obtain ⟨hgB,⟨cs9,hs9z,hq9,hqe⟩,hC9⟩:=hM';exact bI (aM e4) ⟨hI.put hU29 (.head _),hM⟩
    constructor
    ·rintro S L' wS hI hM hS0 ⟨d0,-⟩;have e71:bq L' 71=.pointer (some ⟨b11,0,none⟩):=hI.get (i:=0) (.head _) d0;have hM':=hM;obtain ⟨hgB,⟨cs9,hs9z,hq9,hqe⟩,hC9⟩:=hM';exact bI (aw e71) ⟨hI.put hU29 (.tail _ (.head _)),hM⟩
    constructor
    ·rintro S L' wS hI hM hS0 ⟨d1,-⟩;have e72:bq L' 72=.pointer (some ⟨b11,0,none⟩):=hI.get (i:=1) (.tail _ (.head _)) d1;have hM':=hM;obtain ⟨hgB,⟨cs9,hs9z,hq9,hqe⟩,hC9⟩:=hM';exact bI (ae aK e72) ⟨hI.put hU29 (.tail _ (.tail _ (.head _))),hM⟩
    constructor
    ·rintro S L' wS hI hM hS0 ⟨d2,-⟩;have e73:bq L' 73=.pointer (some ⟨b11,0+0,none⟩):=hI.get (i:=2) (.tail _ (.tail _ (.head _))) d2;have hM':=hM;obtain ⟨hgB,⟨cs9,hs9z,hq9,hqe⟩,hC9⟩:=hM';exact bI (aJ (cs:=(rfV (cn s).s a8)) aB au e73 (gh hgB)) ⟨hI.put hU29 (.tail _ (.tail _ (.tail _ (.head _)))),hM⟩
    constructor
    ·rintro S L' wS hI hM hS0 ⟨-,-⟩;have e4:=hI.1 4 (by simp);have hM':=hM;obtain ⟨hgB,⟨cs9,hs9z,hq9,hqe⟩,hC9⟩:=hM';exact bI (aM e4) ⟨hI.put hU29 (.tail _ (.tail _ (.tail _ (.tail _ (.head _))))),hM⟩
    constructor
    ·rintro S L' wS hI hM hS0 ⟨d4,-,-⟩;have e75:bq L' 75=.pointer (some ⟨b11,0,none⟩):=hI.get (i:=4) (.tail _ (.tail _ (.tail _ (.tail _ (.head _))))) d4;have hM':=hM;obtain ⟨hgB,⟨cs9,hs9z,hq9,hqe⟩,hC9⟩:=hM';exact bI (aw e75) ⟨hI.put hU29 (.tail _ (.tail _ (.tail _ (.tail _ (.tail _ (.head _)))))),hM⟩
    constructor
    ·rintro S L' wS hI hM hS0 ⟨d5,-,-⟩;have e76:bq L' 76=.pointer (some ⟨b11,0,none⟩):=hI.get (i:=5) (.tail _ (.tail _ (.tail _ (.tail _ (.tail _ (.head _)))))) d5;have hM':=hM;obtain ⟨hgB,⟨cs9,hs9z,hq9,hqe⟩,hC9⟩:=hM';exact bI (ae eU e76) ⟨hI.put hU29 (.tail _ (.tail _ (.tail _ (.tail _ (.tail _ (.tail _ (.head _))))))),hM⟩
    constructor
    ·rintro S L' wS hI hM hS0 ⟨d6,-,-⟩;have e77:bq L' 77=.pointer (some ⟨b11,0+22,none⟩):=hI.get (i:=6) (.tail _ (.tail _ (.tail _ (.tail _ (.tail _ (.tail _ (.head _))))))) d6;have hM':=hM;obtain ⟨hgB,⟨cs9,hs9z,hq9,hqe⟩,hC9⟩:=hM';exact bI (ar fD e77 (by exact (show _=some (Value.slice O8 L8.length oc8) from hgB.rd 22 rfl))) ⟨hI.put hU29 (.tail _ (.tail _ (.tail _ (.tail _ (.tail _ (.tail _ (.tail _ (.head _)))))))),hM⟩
    constructor
    ·rintro S L' wS hI hM hS0 ⟨d3,d0,d1,d2,d3,-,-,-,-,-⟩;have e2:=hI.1 2 (by simp);have e74:bq L' 74=.agg (rfV (cn s).s a8).toArray:=hI.get (i:=3) (.tail _ (.tail _ (.tail _ (.head _)))) d3;have hM':=hM;obtain ⟨hgB,⟨cs9,hs9z,hq9,hqe⟩,hC9⟩:=hM';obtain ⟨w2,hR,hO,hb⟩:=fH (n:=180) (L:=L') (x:=.tmp 2) (y:=.tmp 74) (vs:=(rfV (cn s).s a8)) au e2 e74 (by simp [rfV,Value.oneCell']) hq9 (by rw [hs9z];rfl);exact ic hR ⟨hI.skip (by simp),hgB.only hO hn2,⟨_,rfl,hb,fun _=>rfl⟩,hC9.next (hO.toChg rfl)⟩
    constructor
    ·rintro S L' wS hI hM hS0 ⟨d7,d8,d0,d1,d2,d3,d4,d5,d6,d7,d8,-⟩;have e78:bq L' 78=.slice O8 L8.length oc8:=hI.get (i:=7) (.tail _ (.tail _ (.tail _ (.tail _ (.tail _ (.tail _ (.tail _ (.head _)))))))) d7;have hM':=hM;obtain ⟨hgB,⟨cs9,hs9z,hq9,hqe⟩,hC9⟩:=hM';exact bI (dg e78) ⟨hI.put hU29 (.tail _ (.tail _ (.tail _ (.tail _ (.tail _ (.tail _ (.tail _ (.tail _ (.head _))))))))),hM⟩
    exact trivial
   ·intro w30 hM;obtain ⟨hgB,⟨cs9,hs9z,hq9,hqe⟩,hC9⟩:=hM;have hqe:=hqe rfl;subst hqe;refine ah (aD (aC (fo rfl (cS (cs:=[_,_,_,_,_,_,_,_,_,_,_,_,_,_,_,_,_,_,_,_,_,_]) aB au rfl (by exact hq9.whole)) (dW (v:=.slice _ _ _) rfl) ?_)));exact ⟨⟨tag8,a8,O8,oc8,L8,rfl,mN.mk_ hs8 hzw (hC9.wide (fun k hk=>.inl (by rw [show k=b2 from hk];exact hz2)))⟩,(hBq.chg hC9 (fun k hk=>by rw [show k=b2 from hk];exact hg2))⟩
  refine aO (ah (an (an (ag (mvp rfl (aa (aw rfl) (aa (ae aK rfl) (aa (ae cl rfl) (aa (ar ao rfl (by exact (show _=some (Value.int .i64 s.term) from (h2.from_ (ai.rfl_.next D27)).rd (fun _=>rfl)))) ?_)))))))));refine aa (bB rfl rfl) (ak (ah (yS rfl (fun Q31=>?_) (fun Q31=>?_))))
  ·refine an (ag (mvp rfl ?_));have h2c:=h2.from_ (ai.rfl_.next D27);obtain ⟨tg86,ax86,Ox86,ocx86,Lx86,hs86⟩:=h2c.ex;refine aA oz (rh 111 b11 ({ s with elapsed:=min (s.elapsed+1) 1099511627775 }:Rf) _ _ _ hs86.b) ?_;rintro v86 w32 ⟨rfl,hb86,hC86⟩;have h86:bn wb Z w32 111 b11 ⟨fN ({ s with elapsed:=min (s.elapsed+1) 1099511627775 }:Rf),[]⟩:=(h2c.set (s':=fN ({ s with elapsed:=min (s.elapsed+1) 1099511627775 }:Rf)) hs86 hC86 (aR.same hs86.f rfl rfl rfl rfl rfl rfl) hb86).2
   have hT:bn wb Z w32 111 b11 (cn s):=(by
    unfold cn;rw [if_neg (show ¬ s.role=2 by omega),if_pos (show s.timeout≤min (s.elapsed+1) da by unfold da;omega)];unfold fx;rw [if_pos (show s.term=da by unfold da;omega)];exact h86)
   obtain ⟨tag8,a8,O8,oc8,L8,hs8⟩:=hT.ex;have hBq:ai w w32:=stB hT;have hk2c:=hT.kept hz2 hk2b;have hn2:b2≠b11:=fun e=>by have h1:=hs8.z b2 hz2;rw [e,hs8.gc] at h1;cases h1
   replace hn2:=hn2.symm;refine ak (ah (an ?_));have hU33:jc [(0,87,.pointer (some ⟨b11,0,none⟩)),(1,88,.pointer (some ⟨b11,0,none⟩)),(2,89,.pointer (some ⟨b11,0+0,none⟩)),(3,90,.agg (rfV (cn s).s a8).toArray),(4,91,.pointer (some ⟨b11,0,none⟩)),(5,92,.pointer (some ⟨b11,0,none⟩)),(6,93,.pointer (some ⟨b11,0+22,none⟩)),(7,94,.slice O8 L8.length oc8),(9,3,.slice O8 L8.length oc8)]:=by simp [jc]
   refine jB [(0,87,.pointer (some ⟨b11,0,none⟩)),(1,88,.pointer (some ⟨b11,0,none⟩)),(2,89,.pointer (some ⟨b11,0+0,none⟩)),(3,90,.agg (rfV (cn s).s a8).toArray),(4,91,.pointer (some ⟨b11,0,none⟩)),(5,92,.pointer (some ⟨b11,0,none⟩)),(6,93,.pointer (some ⟨b11,0+22,none⟩)),(7,94,.slice O8 L8.length oc8),(9,3,.slice O8 L8.length oc8)] (fun S w'=>Blk w' b11 111 ((rfV (cn s).s a8)++[Value.slice O8 L8.length oc8]).toArray∧(∃ cs:Array Value,cs.size=22∧Blk w' b2 29 cs∧(S 8=true→cs=(rfV (cn s).s a8).toArray))∧Chg (fun k=>k=b2) w32 w') (by kernel_rfl) (by kernel_rfl) hU33 (by simp) (⟨hs8.b.from_ ai.rfl_.d1,⟨_,rfl,hk2c.from_ ai.rfl_.d1,fun h=>(by cases h)⟩,ai.rfl_.d1.toChg⟩) ?_ ?_
   ·constructor
    ·rintro S L' wS hI hM hS0 ⟨-⟩;have e4:=hI.1 4 (by simp);have hM':=hM;obtain ⟨hgB,⟨cs9,hs9z,hq9,hqe⟩,hC9⟩:=hM';exact bI (aM e4) ⟨hI.put hU33 (.head _),hM⟩
    constructor
    ·rintro S L' wS hI hM hS0 ⟨d0,-⟩;have e87:bq L' 87=.pointer (some ⟨b11,0,none⟩):=hI.get (i:=0) (.head _) d0;have hM':=hM;obtain ⟨hgB,⟨cs9,hs9z,hq9,hqe⟩,hC9⟩:=hM';exact bI (aw e87) ⟨hI.put hU33 (.tail _ (.head _)),hM⟩
    constructor
    ·rintro S L' wS hI hM hS0 ⟨d1,-⟩;have e88:bq L' 88=.pointer (some ⟨b11,0,none⟩):=hI.get (i:=1) (.tail _ (.head _)) d1;have hM':=hM;obtain ⟨hgB,⟨cs9,hs9z,hq9,hqe⟩,hC9⟩:=hM';exact bI (ae aK e88) ⟨hI.put hU33 (.tail _ (.tail _ (.head _))),hM⟩
    constructor
    ·rintro S L' wS hI hM hS0 ⟨d2,-⟩;have e89:bq L' 89=.pointer (some ⟨b11,0+0,none⟩):=hI.get (i:=2) (.tail _ (.tail _ (.head _))) d2;have hM':=hM;obtain ⟨hgB,⟨cs9,hs9z,hq9,hqe⟩,hC9⟩:=hM';exact bI (aJ (cs:=(rfV (cn s).s a8)) aB au e89 (gh hgB)) ⟨hI.put hU33 (.tail _ (.tail _ (.tail _ (.head _)))),hM⟩
    constructor
    ·rintro S L' wS hI hM hS0 ⟨-,-⟩;have e4:=hI.1 4 (by simp);have hM':=hM;obtain ⟨hgB,⟨cs9,hs9z,hq9,hqe⟩,hC9⟩:=hM';exact bI (aM e4) ⟨hI.put hU33 (.tail _ (.tail _ (.tail _ (.tail _ (.head _))))),hM⟩
    constructor
    ·rintro S L' wS hI hM hS0 ⟨d4,-,-⟩;have e91:bq L' 91=.pointer (some ⟨b11,0,none⟩):=hI.get (i:=4) (.tail _ (.tail _ (.tail _ (.tail _ (.head _))))) d4;have hM':=hM;obtain ⟨hgB,⟨cs9,hs9z,hq9,hqe⟩,hC9⟩:=hM';exact bI (aw e91) ⟨hI.put hU33 (.tail _ (.tail _ (.tail _ (.tail _ (.tail _ (.head _)))))),hM⟩
    constructor
    ·rintro S L' wS hI hM hS0 ⟨d5,-,-⟩;have e92:bq L' 92=.pointer (some ⟨b11,0,none⟩):=hI.get (i:=5) (.tail _ (.tail _ (.tail _ (.tail _ (.tail _ (.head _)))))) d5;have hM':=hM;obtain ⟨hgB,⟨cs9,hs9z,hq9,hqe⟩,hC9⟩:=hM';exact bI (ae eU e92) ⟨hI.put hU33 (.tail _ (.tail _ (.tail _ (.tail _ (.tail _ (.tail _ (.head _))))))),hM⟩
    constructor
    ·rintro S L' wS hI hM hS0 ⟨d6,-,-⟩;have e93:bq L' 93=.pointer (some ⟨b11,0+22,none⟩):=hI.get (i:=6) (.tail _ (.tail _ (.tail _ (.tail _ (.tail _ (.tail _ (.head _))))))) d6;have hM':=hM;obtain ⟨hgB,⟨cs9,hs9z,hq9,hqe⟩,hC9⟩:=hM';exact bI (ar fD e93 (by exact (show _=some (Value.slice O8 L8.length oc8) from hgB.rd 22 rfl))) ⟨hI.put hU33 (.tail _ (.tail _ (.tail _ (.tail _ (.tail _ (.tail _ (.tail _ (.head _)))))))),hM⟩
    constructor
    ·rintro S L' wS hI hM hS0 ⟨d3,d0,d1,d2,d3,-,-,-,-,-⟩;have e2:=hI.1 2 (by simp);have e90:bq L' 90=.agg (rfV (cn s).s a8).toArray:=hI.get (i:=3) (.tail _ (.tail _ (.tail _ (.head _)))) d3;have hM':=hM;obtain ⟨hgB,⟨cs9,hs9z,hq9,hqe⟩,hC9⟩:=hM';obtain ⟨w2,hR,hO,hb⟩:=fH (n:=180) (L:=L') (x:=.tmp 2) (y:=.tmp 90) (vs:=(rfV (cn s).s a8)) au e2 e90 (by simp [rfV,Value.oneCell']) hq9 (by rw [hs9z];rfl);exact ic hR ⟨hI.skip (by simp),hgB.only hO hn2,⟨_,rfl,hb,fun _=>rfl⟩,hC9.next (hO.toChg rfl)⟩
    constructor
    ·rintro S L' wS hI hM hS0 ⟨d7,d8,d0,d1,d2,d3,d4,d5,d6,d7,d8,-⟩;have e94:bq L' 94=.slice O8 L8.length oc8:=hI.get (i:=7) (.tail _ (.tail _ (.tail _ (.tail _ (.tail _ (.tail _ (.tail _ (.head _)))))))) d7;have hM':=hM;obtain ⟨hgB,⟨cs9,hs9z,hq9,hqe⟩,hC9⟩:=hM';exact bI (dg e94) ⟨hI.put hU33 (.tail _ (.tail _ (.tail _ (.tail _ (.tail _ (.tail _ (.tail _ (.tail _ (.head _))))))))),hM⟩
    exact trivial
   ·intro w34 hM;obtain ⟨hgB,⟨cs9,hs9z,hq9,hqe⟩,hC9⟩:=hM;have hqe:=hqe rfl;subst hqe;refine ah (aD (aC (fo rfl (cS (cs:=[_,_,_,_,_,_,_,_,_,_,_,_,_,_,_,_,_,_,_,_,_,_]) aB au rfl (by exact hq9.whole)) (dW (v:=.slice _ _ _) rfl) ?_)));exact ⟨⟨tag8,a8,O8,oc8,L8,rfl,mN.mk_ hs8 hzw (hC9.wide (fun k hk=>.inl (by rw [show k=b2 from hk];exact hz2)))⟩,(hBq.chg hC9 (fun k hk=>by rw [show k=b2 from hk];exact hg2))⟩
  refine aO (ah (an (ag (mvp rfl (aA kO (oq wb Z 111 b11 ⟨({ s with elapsed:=min (s.elapsed+1) 1099511627775 }:Rf),[]⟩ _ (h2.from_ (ai.rfl_.next D27))) ?_)))));rintro v96 w35 ⟨rfl,h14⟩;refine ak (ah (an (ag (mvp rfl (aa (aw rfl) (aa (ae aK rfl) (aa (ae cl rfl) (aa (ar ao rfl (by exact (show _=some (Value.int .i64 s.term) from (h14.from_ ai.rfl_).rd (fun _=>rfl)))) ?_))))))));refine aa (bE rfl rfl (by omega)) (aa (aw rfl) (aa (ae aK rfl) (aa (ae cl rfl) (fO (s':=({ dk ({ s with elapsed:=min (s.elapsed+1) 1099511627775 }:Rf) with term:=s.term+1 }:Rf)) bp rfl rfl rfl (h14.from_ ai.rfl_) (fun _=>⟨by decide,rfl⟩) ⟨rfl,rfl,rfl,rfl,rfl,rfl⟩ ?_))));intro w36 h15;refine ak (ah (an (ag (mvp rfl (mvp rfl (aa (aw rfl) (aa (ae aK rfl) (aa (ae cR rfl) (aa (ar ao rfl (by exact (show _=some (Value.int .i64 s.id) from (h15.from_ ai.rfl_).rd (fun _=>rfl)))) ?_)))))))));refine aa (aw rfl) (aa (ae aK rfl) (aa (ae eK rfl) (fO (s':=({ dk ({ s with elapsed:=min (s.elapsed+1) 1099511627775 }:Rf) with term:=s.term+1,vote:=s.id }:Rf)) bp rfl rfl rfl (h15.from_ ai.rfl_) (fun _=>⟨by decide,rfl⟩) ⟨rfl,rfl,rfl,rfl,rfl,rfl⟩ ?_)));intro w37 h16;refine ak (ah (an (ag (mvp rfl (aa (aw rfl) (aa (ae aK rfl) (aa (ae cV rfl) (fO (s':=({ dk ({ s with elapsed:=min (s.elapsed+1) 1099511627775 }:Rf) with term:=s.term+1,vote:=s.id,role:=1 }:Rf)) bp rfl rfl rfl (h16.from_ ai.rfl_) (fun _=>⟨by decide,rfl⟩) ⟨rfl,rfl,rfl,rfl,rfl,rfl⟩ ?_))))))));intro w38 h17;refine ak (ah (an (ag (mvp rfl (aa (aw rfl) (aa (ae aK rfl) (aa (ae ed rfl) (fO (s':=({ dk ({ s with elapsed:=min (s.elapsed+1) 1099511627775 }:Rf) with term:=s.term+1,vote:=s.id,role:=1,leader:=0 }:Rf)) bp rfl rfl rfl (h17.from_ ai.rfl_) (fun _=>⟨by decide,rfl⟩) ⟨rfl,rfl,rfl,rfl,rfl,rfl⟩ ?_))))))));intro w39 h18;refine ak (ah (an (ag (mvp rfl (mvp rfl (aa (aw rfl) (aa (ae aK rfl) (aa (ae cR rfl) (aa (ar ao rfl (by exact (show _=some (Value.int .i64 s.id) from (h18.from_ ai.rfl_).rd (fun _=>rfl)))) ?_)))))))));have hM129:ai _ w39:=ai.rfl_;have hz129:=hM129.size;refine eJ (v:=.int _ _) aX rfl rfl rfl ?_;intro b129 w40 E129 hb129 hk129;refine aa (aw rfl) (aa (ae aK rfl) (aa (ae cP rfl) ?_));obtain ⟨tag6,a6,O6,oc6,L6,hs6⟩:=h18.ex;have hs6z:=h18.zw;have hM6:ai _ w40:=(ai.rfl_.next E129);have hf6:=(hs6.f.but (c:=1) (ai.toChg hM6)).votes (l:=[s.id]) rfl (nL (Nat.zero_le _) (hk129.from_ (ai.rfl_)) (Nat.le_refl _) (by show 1≤maxLen;unfold maxLen;omega) rfl rfl) (fun q hq=>by cases hq;exact cW (by rw [hb129];exact hz129));refine cj (s':=({ dk ({ s with elapsed:=min (s.elapsed+1) 1099511627775 }:Rf) with term:=s.term+1,vote:=s.id,role:=1,leader:=0,votes:=[s.id] }:Rf)) (a':={ a6 with V:=some ⟨b129,0,none⟩,Vc:=1 }) cH rfl rfl rfl (hs6.b.from_ hM6) ⟨by decide,rfl⟩ ?_;intro w41 O19 P19;have h19:=(h18.put (s':=({ dk ({ s with elapsed:=min (s.elapsed+1) 1099511627775 }:Rf) with term:=s.term+1,vote:=s.id,role:=1,leader:=0,votes:=[s.id] }:Rf)) hs6 (ai.toChg hM6) (.inl (by decide)) hf6 (O19.toChg rfl) P19).2;refine ak (ah (an (ag (mvp rfl (aa (aw rfl) (aa (ae aK rfl) (aa (ae dF rfl) (fO (s':=({ dk ({ s with elapsed:=min (s.elapsed+1) 1099511627775,part:=⟨#[]⟩ }:Rf) with term:=s.term+1,vote:=s.id,role:=1,leader:=0,votes:=[s.id],part:=⟨#[]⟩ }:Rf)) iy rfl rfl rfl (h19.from_ ai.rfl_) (fun _=>⟨by decide,rfl⟩) ⟨rfl,rfl,rfl,rfl,rfl,rfl⟩ ?_))))))));intro w42 h20;refine ak (ah (an (ag (mvp rfl (aa (aw rfl) (aa (ae aK rfl) (aa (ae dm rfl) (fO (s':=({ dk ({ s with elapsed:=min (s.elapsed+1) 1099511627775,part:=⟨#[]⟩,partOf:=0 }:Rf) with term:=s.term+1,vote:=s.id,role:=1,leader:=0,votes:=[s.id],part:=⟨#[]⟩,partOf:=0 }:Rf)) bp rfl rfl rfl (h20.from_ ai.rfl_) (fun _=>⟨by decide,rfl⟩) ⟨rfl,rfl,rfl,rfl,rfl,rfl⟩ ?_))))))));intro w43 h21;refine ak (ah (an (ag (mvp rfl ?_))));have h21c:=h21.from_ ai.rfl_;obtain ⟨tg142,ax142,Ox142,ocx142,Lx142,hs142⟩:=h21c.ex;refine aA oz (rh 111 b11 ({ dk ({ s with elapsed:=min (s.elapsed+1) 1099511627775,part:=⟨#[]⟩,partOf:=0 }:Rf) with term:=s.term+1,vote:=s.id,role:=1,leader:=0,votes:=[s.id],part:=⟨#[]⟩,partOf:=0 }:Rf) _ _ _ hs142.b) ?_;rintro v142 w44 ⟨rfl,hb142,hC142⟩;have h22:bn wb Z w44 111 b11 ⟨(c_ ({ s with elapsed:=min (s.elapsed+1) 1099511627775 }:Rf)),[]⟩:=(h21.set (s':=(c_ ({ s with elapsed:=min (s.elapsed+1) 1099511627775 }:Rf))) hs142 hC142 (aR.same hs142.f rfl rfl rfl rfl rfl rfl) hb142).2;have hFc:RfF (c_ ({ s with elapsed:=min (s.elapsed+1) 1099511627775 }:Rf)):=hFe.cand (show s.term≠da by unfold da;omega);obtain ⟨tg7,a7,O7,oc7,L7,hs7⟩:=h22.ex;refine ak (ah (an (ag (mvp rfl (aA kM (nB 111 b11 (c_ ({ s with elapsed:=min (s.elapsed+1) 1099511627775 }:Rf)) _ _ _ (hs7.b.from_ ai.rfl_) ((hs7.f.rd.e.from_ ai.rfl_)) hFc.lg) ?_)))));rintro v145 w45 ⟨rfl,E145⟩;refine mvt rfl (aa (aN rfl rfl) (aa (aN rfl rfl) (asi rfl (asi rfl (ak (ah (an (an (ag (asi rfl (ak (ah (aZ (ct (G:=Nat) [148,149,150,151,152,153,154,155,156,157,158,159,160,161,162,163,164,165,166,167,168,169] (fun k=>[(7,.int .i64 ((k:Int)+1))]) (fun k w'=>(k:Int)≤s.nodes∧bn wb Z w' 111 b11 ((fJ s.id k).foldl (fun (p:Sp) x=>p.tell (ja (c_ ({ s with elapsed:=min (s.elapsed+1) 1099511627775 }:Rf)) x)) (⟨(c_ ({ s with elapsed:=min (s.elapsed+1) 1099511627775 }:Rf)),[]⟩:Sp))) (fun k=>s.nodes.toNat-k) (0) ⟨rfl,trivial⟩ ?_ ?_))))))))))))))
  ·exact ⟨by omega,h22.from_ (ai.rfl_.next E145)⟩
  rintro k ρ46 w46 ⟨hk,h25⟩;refine an (an (ag (mvi rfl (mvp rfl (aa (aw rfl) (aa (ae aK rfl) (aa (ae bA rfl) (aa (ar ao rfl (by exact (show _=some (Value.int .i64 s.nodes) from (h25.from_ ai.rfl_).rd (fun _=>by rw [kL];rfl)))) ?_))))))));refine aa (gd rfl rfl) (ak (ah (yS rfl (fun Q47=>?_) (fun Q47=>?_))))
  ·refine aO (ah (an (aZ (an (ag (mvi rfl (mvp rfl (aa (aw rfl) (aa (ae aK rfl) (aa (ae cR rfl) (aa (ar ao rfl (by exact (show _=some (Value.int .i64 s.id) from (h25.from_ ai.rfl_).rd (fun _=>by rw [kL];rfl)))) ?_)))))))))));refine aa (dp rfl rfl) (ak (ah (yP rfl (fun Q48=>?_) (fun Q48=>?_))))
   ·obtain ⟨tg6,a6x,O6x,oc6x,L6x,hs6x⟩:=h25.ex
    have hl6:L6x.length≤7:=by
     have h1:=congrArg List.length hs6x.m.l;rw [List.length_map,ke] at h1;have h2:=lh s.id k;have h3:((⟨(c_ ({ s with elapsed:=min (s.elapsed+1) 1099511627775 }:Rf)),[]⟩:Sp).out).length=0:=rfl;omega
    refine ag (mvp rfl (mvi rfl (mvi rfl (mvi rfl (aa (cp (l:=[(0,.const (.int .i64 1)),(2,.tmp 165),(4,.tmp 166),(5,.tmp 167)]) (iP _ _ _)) (aA kN (nm wb Z 111 b11 ((fJ s.id k).foldl (fun (p:Sp) x=>p.tell (ja (c_ ({ s with elapsed:=min (s.elapsed+1) 1099511627775 }:Rf)) x)) (⟨(c_ ({ s with elapsed:=min (s.elapsed+1) 1099511627775 }:Rf)),[]⟩:Sp)) _ (h25.from_ ai.rfl_) tg6 a6x O6x oc6x L6x (hs6x.from_ ai.rfl_) (by omega) { zM with k:=1,t:=(k:Int)+1,ix:=a_ (c_ ({ s with elapsed:=min (s.elapsed+1) 1099511627775 }:Rf)),lt:=dV ((c_ ({ s with elapsed:=min (s.elapsed+1) 1099511627775 }:Rf))).t ((c_ ({ s with elapsed:=min (s.elapsed+1) 1099511627775 }:Rf))).es } ⟨dT,Col.none⟩) ?_))))));rintro v169 w49 ⟨rfl,h169⟩
    have h26:bn wb Z w49 111 b11 ((fJ s.id (k+1)).foldl (fun (p:Sp) x=>p.tell (ja (c_ ({ s with elapsed:=min (s.elapsed+1) 1099511627775 }:Rf)) x)) (⟨(c_ ({ s with elapsed:=min (s.elapsed+1) 1099511627775 }:Rf)),[]⟩:Sp)):=by
     rw [pt,if_neg (by omega)];exact h169
    refine ak (bH (ah (ag (mvi rfl (aa (bE rfl rfl (by omega)) (asi rfl (ak ?_)))))));refine cG (k+1) ⟨br (by omega),trivial⟩ (by (iterate 46 refine bQ rfl ?_);exact cf) ⟨?_,?_⟩
    ·exact ⟨by omega,h26.from_ ai.rfl_⟩
    ·show s.nodes.toNat-(k+1)<s.nodes.toNat-k;omega
   have h26:bn wb Z w46 111 b11 ((fJ s.id (k+1)).foldl (fun (p:Sp) x=>p.tell (ja (c_ ({ s with elapsed:=min (s.elapsed+1) 1099511627775 }:Rf)) x)) (⟨(c_ ({ s with elapsed:=min (s.elapsed+1) 1099511627775 }:Rf)),[]⟩:Sp)):=by
    rw [pt,if_pos (by omega)];exact h25.from_ ai.rfl_
   refine aO (bH (ah (ag (mvi rfl (aa (bE rfl rfl (by omega)) (asi rfl (ak ?_)))))));refine cG (k+1) ⟨br (by omega),trivial⟩ (by (iterate 40 refine bQ rfl ?_);exact cf) ⟨?_,?_⟩
   ·exact ⟨by omega,h26.from_ ai.rfl_⟩
   ·show s.nodes.toNat-(k+1)<s.nodes.toNat-k;omega
  obtain rfl:k=s.nodes.toNat:=by omega
  have h29:=h25;refine cd (bd (bd (bL (ah (an (ag (mvp rfl (aA sK (uJ wb Z 111 b11 ((fJ s.id s.nodes.toNat).foldl (fun (p:Sp) x=>p.tell (ja (c_ ({ s with elapsed:=min (s.elapsed+1) 1099511627775 }:Rf)) x)) (⟨(c_ ({ s with elapsed:=min (s.elapsed+1) 1099511627775 }:Rf)),[]⟩:Sp)) _ (h29.from_ ai.rfl_) (by rw [kL];exact hFc) (by rw [ke];show 0+_≤700;have:=lh s.id s.nodes.toNat;omega)) ?_))))))));rintro v171 w50 ⟨rfl,h171⟩
  have hT:bn wb Z w50 111 b11 (cn s):=(by
   unfold cn;rw [if_neg (show ¬ s.role=2 by omega),if_pos (show s.timeout≤min (s.elapsed+1) da by unfold da;omega)];show bn wb Z _ 111 b11 (fx ({ s with elapsed:=min (s.elapsed+1) 1099511627775 }:Rf));rw [j_ (s:=({ s with elapsed:=min (s.elapsed+1) 1099511627775 }:Rf)) (show s.term≠da by unfold da;omega)];exact h171)
  obtain ⟨tag8,a8,O8,oc8,L8,hs8⟩:=hT.ex;have hBq:ai w w50:=stB hT;have hk2c:=hT.kept hz2 hk2b;have hn2:b2≠b11:=fun e=>by have h1:=hs8.z b2 hz2;rw [e,hs8.gc] at h1;cases h1
  replace hn2:=hn2.symm;refine ak (ah (an ?_));have hU51:jc [(0,172,.pointer (some ⟨b11,0,none⟩)),(1,173,.pointer (some ⟨b11,0,none⟩)),(2,174,.pointer (some ⟨b11,0+0,none⟩)),(3,175,.agg (rfV (cn s).s a8).toArray),(4,176,.pointer (some ⟨b11,0,none⟩)),(5,177,.pointer (some ⟨b11,0,none⟩)),(6,178,.pointer (some ⟨b11,0+22,none⟩)),(7,179,.slice O8 L8.length oc8),(9,3,.slice O8 L8.length oc8)]:=by simp [jc]
  refine jB [(0,172,.pointer (some ⟨b11,0,none⟩)),(1,173,.pointer (some ⟨b11,0,none⟩)),(2,174,.pointer (some ⟨b11,0+0,none⟩)),(3,175,.agg (rfV (cn s).s a8).toArray),(4,176,.pointer (some ⟨b11,0,none⟩)),(5,177,.pointer (some ⟨b11,0,none⟩)),(6,178,.pointer (some ⟨b11,0+22,none⟩)),(7,179,.slice O8 L8.length oc8),(9,3,.slice O8 L8.length oc8)] (fun S w'=>Blk w' b11 111 ((rfV (cn s).s a8)++[Value.slice O8 L8.length oc8]).toArray∧(∃ cs:Array Value,cs.size=22∧Blk w' b2 29 cs∧(S 8=true→cs=(rfV (cn s).s a8).toArray))∧Chg (fun k=>k=b2) w50 w') (by kernel_rfl) (by kernel_rfl) hU51 (by simp) (⟨hs8.b.from_ ai.rfl_.d1,⟨_,rfl,hk2c.from_ ai.rfl_.d1,fun h=>(by cases h)⟩,ai.rfl_.d1.toChg⟩) ?_ ?_
  ·constructor
   ·rintro S L' wS hI hM hS0 ⟨-⟩;have e4:=hI.1 4 (by simp);have hM':=hM;obtain ⟨hgB,⟨cs9,hs9z,hq9,hqe⟩,hC9⟩:=hM';exact bI (aM e4) ⟨hI.put hU51 (.head _),hM⟩
   constructor
   ·rintro S L' wS hI hM hS0 ⟨d0,-⟩;have e172:bq L' 172=.pointer (some ⟨b11,0,none⟩):=hI.get (i:=0) (.head _) d0;have hM':=hM;obtain ⟨hgB,⟨cs9,hs9z,hq9,hqe⟩,hC9⟩:=hM';exact bI (aw e172) ⟨hI.put hU51 (.tail _ (.head _)),hM⟩
   constructor
   ·rintro S L' wS hI hM hS0 ⟨d1,-⟩;have e173:bq L' 173=.pointer (some ⟨b11,0,none⟩):=hI.get (i:=1) (.tail _ (.head _)) d1;have hM':=hM;obtain ⟨hgB,⟨cs9,hs9z,hq9,hqe⟩,hC9⟩:=hM';exact bI (ae aK e173) ⟨hI.put hU51 (.tail _ (.tail _ (.head _))),hM⟩
   constructor
   ·rintro S L' wS hI hM hS0 ⟨d2,-⟩;have e174:bq L' 174=.pointer (some ⟨b11,0+0,none⟩):=hI.get (i:=2) (.tail _ (.tail _ (.head _))) d2;have hM':=hM;obtain ⟨hgB,⟨cs9,hs9z,hq9,hqe⟩,hC9⟩:=hM';exact bI (aJ (cs:=(rfV (cn s).s a8)) aB au e174 (gh hgB)) ⟨hI.put hU51 (.tail _ (.tail _ (.tail _ (.head _)))),hM⟩
   constructor
   ·rintro S L' wS hI hM hS0 ⟨-,-⟩;have e4:=hI.1 4 (by simp);have hM':=hM;obtain ⟨hgB,⟨cs9,hs9z,hq9,hqe⟩,hC9⟩:=hM';exact bI (aM e4) ⟨hI.put hU51 (.tail _ (.tail _ (.tail _ (.tail _ (.head _))))),hM⟩
   constructor
   ·rintro S L' wS hI hM hS0 ⟨d4,-,-⟩;have e176:bq L' 176=.pointer (some ⟨b11,0,none⟩):=hI.get (i:=4) (.tail _ (.tail _ (.tail _ (.tail _ (.head _))))) d4;have hM':=hM;obtain ⟨hgB,⟨cs9,hs9z,hq9,hqe⟩,hC9⟩:=hM';exact bI (aw e176) ⟨hI.put hU51 (.tail _ (.tail _ (.tail _ (.tail _ (.tail _ (.head _)))))),hM⟩
   constructor
   ·rintro S L' wS hI hM hS0 ⟨d5,-,-⟩;have e177:bq L' 177=.pointer (some ⟨b11,0,none⟩):=hI.get (i:=5) (.tail _ (.tail _ (.tail _ (.tail _ (.tail _ (.head _)))))) d5;have hM':=hM;obtain ⟨hgB,⟨cs9,hs9z,hq9,hqe⟩,hC9⟩:=hM';exact bI (ae eU e177) ⟨hI.put hU51 (.tail _ (.tail _ (.tail _ (.tail _ (.tail _ (.tail _ (.head _))))))),hM⟩
   constructor
   ·rintro S L' wS hI hM hS0 ⟨d6,-,-⟩;have e178:bq L' 178=.pointer (some ⟨b11,0+22,none⟩):=hI.get (i:=6) (.tail _ (.tail _ (.tail _ (.tail _ (.tail _ (.tail _ (.head _))))))) d6;have hM':=hM;obtain ⟨hgB,⟨cs9,hs9z,hq9,hqe⟩,hC9⟩:=hM';exact bI (ar fD e178 (by exact (show _=some (Value.slice O8 L8.length oc8) from hgB.rd 22 rfl))) ⟨hI.put hU51 (.tail _ (.tail _ (.tail _ (.tail _ (.tail _ (.tail _ (.tail _ (.head _)))))))),hM⟩
   constructor
   ·rintro S L' wS hI hM hS0 ⟨d3,d0,d1,d2,d3,-,-,-,-,-⟩;have e2:=hI.1 2 (by simp);have e175:bq L' 175=.agg (rfV (cn s).s a8).toArray:=hI.get (i:=3) (.tail _ (.tail _ (.tail _ (.head _)))) d3;have hM':=hM;obtain ⟨hgB,⟨cs9,hs9z,hq9,hqe⟩,hC9⟩:=hM';obtain ⟨w2,hR,hO,hb⟩:=fH (n:=180) (L:=L') (x:=.tmp 2) (y:=.tmp 175) (vs:=(rfV (cn s).s a8)) au e2 e175 (by simp [rfV,Value.oneCell']) hq9 (by rw [hs9z];rfl);exact ic hR ⟨hI.skip (by simp),hgB.only hO hn2,⟨_,rfl,hb,fun _=>rfl⟩,hC9.next (hO.toChg rfl)⟩
   constructor
   ·rintro S L' wS hI hM hS0 ⟨d7,d8,d0,d1,d2,d3,d4,d5,d6,d7,d8,-⟩;have e179:bq L' 179=.slice O8 L8.length oc8:=hI.get (i:=7) (.tail _ (.tail _ (.tail _ (.tail _ (.tail _ (.tail _ (.tail _ (.head _)))))))) d7;have hM':=hM;obtain ⟨hgB,⟨cs9,hs9z,hq9,hqe⟩,hC9⟩:=hM';exact bI (dg e179) ⟨hI.put hU51 (.tail _ (.tail _ (.tail _ (.tail _ (.tail _ (.tail _ (.tail _ (.tail _ (.head _))))))))),hM⟩
   exact trivial
  ·intro w52 hM;obtain ⟨hgB,⟨cs9,hs9z,hq9,hqe⟩,hC9⟩:=hM;have hqe:=hqe rfl;subst hqe;refine ah (aD (fo rfl (cS (cs:=[_,_,_,_,_,_,_,_,_,_,_,_,_,_,_,_,_,_,_,_,_,_]) aB au rfl (by exact hq9.whole)) (dW (v:=.slice _ _ _) rfl) ?_));exact ⟨⟨tag8,a8,O8,oc8,L8,rfl,mN.mk_ hs8 hzw (hC9.wide (fun k hk=>.inl (by rw [show k=b2 from hk];exact hz2)))⟩,(hBq.chg hC9 (fun k hk=>by rw [show k=b2 from hk];exact hg2))⟩
end Go.Proofs.YtkpooenofjdpmaaGreat
