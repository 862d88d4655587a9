/- texts that the claim stands on. -/
import Derived.Test.YtkpooenofjdpmaaGreatSlRfLawX3

set_option maxRecDepth 100000
set_option maxHeartbeats 4000000
namespace Go.Proofs.YtkpooenofjdpmaaGreat
open Go.Proofs.Tryz (prog)
open Go.RowKit
open Go.ChangeShapes Go.WideShapes Go.ChangeAt
theorem qF:aN prog 86=true:=by kernel_rfl
theorem oX:aN prog 161=true:=by kernel_rfl
theorem jI:aN prog 54=true:=by kernel_rfl
theorem iu:∀ (a0:Int) (a1:Int),prog.built 39 [(0,.int .i64 1),(4,.int .i64 a0),(5,.int .i64 a1)]=some #[.int .i64 1,.int .i64 0,.int .i64 0,.int .i64 0,.int .i64 a0,.int .i64 a1,.int .i64 0,.int .i64 0,.bool false,.slice none 0 0,.int .i64 0,.string ⟨#[]⟩,.bool false]:=by intros;kernel_rfl
theorem oY:aN prog 138=true:=by kernel_rfl
theorem qE:aN prog 97=true:=by kernel_rfl
def nv (s:Rf) (k:Int):Msg:={ zM with k:=1,t:=k,ix:=aQ s,lt:=dE s.t s.es }
theorem vk (s:Rf):∀ (l:List Int) (p:Sp),(l.foldl (fun (p:Sp) k=>p.tell (nv s k)) p).s=p.s
 |[],_=>rfl
 |_::l,p=>vk s l (p.tell _)
theorem m_ (s:Rf):∀ (l:List Int) (p:Sp),(l.foldl (fun (p:Sp) k=>p.tell (nv s k)) p).out.length=p.out.length+l.length
 |[],_=>rfl
 |x::l,p=>by
  show (l.foldl _ (p.tell (nv s x))).out.length=_;rw [m_ s l (p.tell _)];show (p.out++[_]).length+l.length=p.out.length+(l.length+1);rw [List.length_append,List.length_singleton];omega
theorem vm {s:Rf} {l:List Int} {i:Nat} (h:i<l.length) (p:Sp):(l.take (i+1)).foldl (fun (p:Sp) k=>p.tell (nv s k)) p=((l.take i).foldl (fun (p:Sp) k=>p.tell (nv s k)) p).tell (nv s l[i]):=by
 rw [List.take_succ_eq_append_getElem h,List.foldl_append];rfl
theorem pY {s:Rf} (h:s.term≠dZ):ic s=lq ((c_ (dF s)).foldl (fun (p:Sp) k=>p.tell (nv (dF s) k)) (⟨dF s,[]⟩:Sp)):=by
 unfold ic;rw [if_neg h];rfl
theorem wD {s:Rf} (h:RfF s) (hr:s.role≠2):gB { s with term:=s.term+1,vote:=s.id,role:=1,leader:=0,votes:=[s.id],part:=⟨#[]⟩,partOf:=0 }=dF s:=by
 obtain ⟨h1,h2,h3,h4⟩:=h.free hr;unfold dF gB ig;simp only [h1,h2,h3,h4]
theorem u4 (w0:World) (Z:Nat→Prop) (T g:Nat) (p:Sp) (w:World) (h:aF w0 Z w T g p) (hF:RfF p.s) (hl:p.out.length≤700) :
 Rt prog 138 [.pointer (some ⟨g,0,none⟩)] w (fun v w'=>v=.tuple #[]∧aF w0 Z w' T g (lq p)):=by
 obtain ⟨s,out⟩:=p;obtain ⟨tag,a,O,oc,L,hs⟩:=h.ex;obtain ⟨E,Ec,V,Vc,X,Xc,M,Mc,Sn,Sc,Q,Qc,LL⟩:=a;have hb:Blk w g T (rfV s (⟨E,Ec,V,Vc,X,Xc,M,Mc,Sn,Sc,Q,Qc,LL⟩:Ra)++[Value.slice O L.length oc]).toArray:=hs.b
 have hll:L.length=out.length:=by
  have h9:=congrArg List.length hs.m.l;rw [List.length_map] at h9;exact h9
 have hF:RfF s:=hF;have hl:out.length≤700:=hl;have hvr:IR w V Vc s.votes:=kX (hs.f.v (by decide)).1;have hvl:=hF.vl;have hnn:=hF.n;refine enter (n:=14) Tryz.func138 rfl rfl rfl (ao ?_);apply br 10 [(2,eqp _),(3,eqp _),(4,eqp _),(5,eqp _),(6,eqp _),(7,eqp _),(8,eqp _),(9,eqp _),(10,eqp (.slice V s.votes.length Vc)),(11,eqp _)] (by repeat first | exact bN | refine bM ?_ | refine bB ?_) (by kernel_rfl) (by kernel_rfl) ⟨ae _,ae _,ae _,ae _,ae _,ae _,ae _,ae _,ae _,ae _,trivial⟩
 case hop=>
  constructor
  ·rintro-w2 D2;exact an (aC (v:=.pointer _) rfl) rfl
  constructor
  ·rintro-w3 D3;rintro _ rfl;exact an (av rfl) rfl
  constructor
  ·rintro-w4 D4;rintro _ rfl;exact an (aa ay rfl) rfl
  constructor
  ·rintro-w5 D5;exact an (aC (v:=.pointer _) rfl) rfl
  constructor
  ·rintro-w6 D6;rintro _ rfl;exact an (av rfl) rfl
  constructor
  ·rintro-w7 D7;rintro _ rfl;exact an (aa ay rfl) rfl
  constructor
  ·rintro-w8 D8;rintro _ rfl;exact an (aa aw rfl) rfl
  constructor
  ·rintro-w9 D9;rintro _ rfl;exact an (aa ed rfl) rfl
  constructor
  ·rintro-w10 D10;rintro _ rfl;exact an (au bj rfl (by exact (show _=some (Value.slice V s.votes.length Vc) from cB (hb.from_ (ai.rfl_.next D10)) 14 rfl))) rfl
  constructor
  ·rintro-w11 D11;rintro _ rfl v11_10 rfl;refine iC qF ((rK T g s _ _ _ (hb.from_ (ai.rfl_.next D11)) V Vc s.votes (hvr.1.from_ (ai.rfl_.next D11)) (by omega) hnn).mono ?_);rintro v _ ⟨rfl,E11'⟩;exact ⟨E11',rfl⟩
  exact trivial
 case hend=>
  intro w12 D12;rintro _ rfl _ rfl _ rfl _ rfl _ rfl _ rfl _ rfl _ rfl v10 rfl _ rfl;show St ..;refine aq (ah (yS rfl (fun Q13=>?_) (fun Q13=>?_)))
  ·have h11t:eD s.nodes s.votes=true:=by
    unfold eD;exact decide_eq_true Q13
   refine ag (mvp rfl (aE oX (wj w0 Z T g ⟨s,out⟩ _ (h.from_ (ai.rfl_.next D12)) hF hl) ?_));rintro v13 w14 ⟨rfl,h13⟩;refine aq (cK (dU rfl ?_));unfold lq
   first
    |(rw [if_pos h11t];exact ⟨rfl,h13.from_ (ai.rfl_ (a:=w14))⟩)
    |(rw [if_neg (by show ¬ eD s.nodes s.votes=true;rw [h11f];decide)];exact ⟨rfl,h.from_ (ai.rfl_ (a:=w14))⟩)
  have h11f:eD s.nodes s.votes=false:=by
   unfold eD;exact decide_eq_false (by omega)
  refine aI (cK (dU rfl ?_));unfold lq
  first
   |(rw [if_pos h11t];exact ⟨rfl,h13.from_ (ai.rfl_.next D12)⟩)
   |(rw [if_neg (by show ¬ eD s.nodes s.votes=true;rw [h11f];decide)];exact ⟨rfl,h.from_ (ai.rfl_.next D12)⟩)
theorem u1 (w0:World) (Z:Nat→Prop) (T g:Nat) (s:Rf) (w:World) (h:aF w0 Z w T g ⟨s,[]⟩) (hF:RfF s) (hr:s.role≠2) :
 Rt prog 97 [.pointer (some ⟨g,0,none⟩)] w (fun v w'=>v=.tuple #[]∧aF w0 Z w' T g (ic s)):=by
 obtain ⟨tag,a,O,oc,L,hs⟩:=h.ex;obtain ⟨E,Ec,V,Vc,X,Xc,M,Mc,Sn,Sc,Q,Qc,LL⟩:=a;have hb:Blk w g T (rfV s (⟨E,Ec,V,Vc,X,Xc,M,Mc,Sn,Sc,Q,Qc,LL⟩:Ra)++[Value.slice O L.length oc]).toArray:=hs.b
 have hll:L.length=0:=by
  have h9:=congrArg List.length hs.m.l;rw [List.length_map] at h9;exact h9
 have hB0:ai w w:=ai.rfl_;have hte:=hF.te;refine enter (n:=100) Tryz.func97 rfl rfl rfl (ao (ao (ag (mvp rfl (ab (av rfl) (ab (aa ay rfl) (ab (aa aw rfl) (ab (aa bE rfl) (ab (au ak rfl (by exact (show _=some (Value.int .i64 s.term) from cB (hb.from_ ai.rfl_) 3 rfl))) ?_)))))))));refine ab (bo rfl rfl) (aq (ah (yS rfl (fun Q1=>?_) (fun Q1=>?_))))
 ·have hte8:s.term=dZ:=Q1;refine ao (ag (mvp rfl (ab (av rfl) (ab (aa ay rfl) ?_))));have hB16:ai w w:=ai.rfl_;refine aE jI (oP T g s _ _ _ (hb.from_ ai.rfl_)) ?_;rintro v16 w2 ⟨rfl,hb16,hC16⟩;refine aq (ah (aG (aH (dU rfl ?_))));unfold ic;rw [if_pos hte8];exact ⟨rfl,((h.set (s':=gB s) hs ((ai.toChg hB16).next hC16) (aY.same hs.f rfl rfl rfl rfl rfl rfl) hb16).2).from_ (ai.rfl_ (a:=w2))⟩
 have hte9:s.term≠dZ:=Q1;have hFc:RfF (dF s):=hF.cand hte9;refine aI (ah (ao (ag (mvp rfl (ab (av rfl) (ab (aa ay rfl) (ab (aa aw rfl) (ab (aa bE rfl) (ab (au ak rfl (by exact (show _=some (Value.int .i64 s.term) from cB (hb.from_ ai.rfl_) 3 rfl))) ?_)))))))));refine ab (cl rfl rfl (by omega)) (ab (av rfl) (ab (aa ay rfl) (ab (aa aw rfl) ?_)));have hB0:ai w w:=ai.rfl_;refine ab (aa bE rfl) (cY (s':=({ s with term:=s.term+1 }:Rf)) (a':=(⟨E,Ec,V,Vc,X,Xc,M,Mc,Sn,Sc,Q,Qc,LL⟩:Ra)) (v:=.int _ _) bh rfl rfl rfl ((hb.from_ ai.rfl_)) (by exact ⟨by decide,rfl⟩) ?_);intro w3 O2_0 P2_0;have hC1:Chg (fun k=>k=g) w w3:=(ai.toChg hB0).only O2_0 rfl;refine aq (ah (ao (ag (mvp rfl (mvp rfl (mvp rfl (mvp rfl (ab (av rfl) (ab (aa ay rfl) (ab (aa aw rfl) (ab (aa dK rfl) ?_)))))))))));refine ab (au ak rfl (by exact (show _=some (Value.int .i64 s.id) from cB (P2_0.from_ (ai.rfl_ (a:=w3))) 0 rfl))) ?_;refine ab (av rfl) (ab (aa ay rfl) (ab (aa aw rfl) ?_));have hM0:ai _ w3:=ai.rfl_;refine ab (aa jf rfl) (cY (s':=({ s with term:=s.term+1,vote:=s.id }:Rf)) (a':=(⟨E,Ec,V,Vc,X,Xc,M,Mc,Sn,Sc,Q,Qc,LL⟩:Ra)) (v:=.int _ _) bh rfl rfl rfl ((P2_0.from_ ai.rfl_)) (by exact ⟨by decide,rfl⟩) ?_);intro w4 O3_0 P3_0;replace hC1:=(hC1.next (ai.toChg hM0)).only O3_0 rfl;refine ab (av rfl) (ab (aa ay rfl) (ab (aa aw rfl) (ab (aa c6 rfl) (cY (s':=({ s with term:=s.term+1,vote:=s.id,role:=1 }:Rf)) (a':=(⟨E,Ec,V,Vc,X,Xc,M,Mc,Sn,Sc,Q,Qc,LL⟩:Ra)) (v:=.int _ _) bh rfl rfl rfl (P3_0) (by exact ⟨by decide,rfl⟩) ?_))));intro w5 O3_1 P3_1;replace hC1:=hC1.only O3_1 rfl;refine ab (av rfl) (ab (aa ay rfl) (ab (aa aw rfl) (ab (aa fR rfl) (cY (s':=({ s with term:=s.term+1,vote:=s.id,role:=1,leader:=0 }:Rf)) (a':=(⟨E,Ec,V,Vc,X,Xc,M,Mc,Sn,Sc,Q,Qc,LL⟩:Ra)) (v:=.int _ _) bh rfl rfl rfl (P3_1) (by exact ⟨by decide,rfl⟩) ?_))));intro w6 O3_2 P3_2;replace hC1:=hC1.only O3_2 rfl;obtain ⟨hs3,h3⟩:=h.set (s':=({ s with term:=s.term+1,vote:=s.id,role:=1,leader:=0 }:Rf)) (a':=(⟨E,Ec,V,Vc,X,Xc,M,Mc,Sn,Sc,Q,Qc,LL⟩:Ra)) hs hC1 (aY.same hs.f rfl rfl rfl rfl rfl rfl) P3_2;have hb3:=P3_2;refine aq (ah (ao (ag (mvp rfl (mvp rfl (ab (av rfl) (ab (aa ay rfl) (ab (aa aw rfl) (ab (aa dK rfl) (ab (au ak rfl (by exact (show _=some (Value.int .i64 s.id) from cB (hb3.from_ (ai.rfl_ (a:=w6))) 0 rfl))) ?_))))))))));have hz55:=((ai.rfl_ (a:=w6))).size;refine ej (v:=.int _ _) aS rfl rfl rfl ?_;intro b56 w7 E56 hb56 hk56;refine ab (av rfl) (ab (aa ay rfl) (ab (aa aw rfl) (ab (aa ed rfl) ?_)));have hB56:ai _ w7:=((ai.rfl_ (a:=w6)).next E56);refine cY (s':=({ s with term:=s.term+1,vote:=s.id,role:=1,leader:=0,votes:=[s.id] }:Rf)) (a':=(⟨E,Ec,some ⟨b56,0,none⟩,1,X,Xc,M,Mc,Sn,Sc,Q,Qc,LL⟩:Ra)) (v:=.slice _ _ _) dm rfl rfl rfl ((hb3.from_ ((ai.rfl_ (a:=w6)).next E56))) (by exact ⟨by decide,rfl⟩) ?_;intro w8 O4_0 P4_0;have hC4:Chg (fun k=>k=g) _ w8:=Chg.rfl_.only O4_0 rfl;refine aq (ah (ao (ag (mvp rfl (mvp rfl (ab (av rfl) (ab (aa ay rfl) (ab (aa aw rfl) ?_))))))));have hM0:ai _ w8:=ai.rfl_;refine ab (aa cg rfl) (cY (s':=({ s with term:=s.term+1,vote:=s.id,role:=1,leader:=0,votes:=[s.id],part:=⟨#[]⟩ }:Rf)) (a':=(⟨E,Ec,some ⟨b56,0,none⟩,1,X,Xc,M,Mc,Sn,Sc,Q,Qc,LL⟩:Ra)) (v:=.string _) gi rfl rfl rfl ((P4_0.from_ ai.rfl_)) (by exact ⟨by decide,rfl⟩) ?_);intro w9 O5_0 P5_0;replace hC4:=(hC4.next (ai.toChg hM0)).only O5_0 rfl;refine ab (av rfl) (ab (aa ay rfl) (ab (aa aw rfl) (ab (aa eA rfl) (cY (s':=({ s with term:=s.term+1,vote:=s.id,role:=1,leader:=0,votes:=[s.id],part:=⟨#[]⟩,partOf:=0 }:Rf)) (a':=(⟨E,Ec,some ⟨b56,0,none⟩,1,X,Xc,M,Mc,Sn,Sc,Q,Qc,LL⟩:Ra)) (v:=.int _ _) bh rfl rfl rfl (P5_0) (by exact ⟨by decide,rfl⟩) ?_))));intro w10 O5_1 P5_1;replace hC4:=hC4.only O5_1 rfl;refine aq (ah (ao (ag (mvp rfl (ab (av rfl) (ab (aa ay rfl) ?_))))));have hM74:ai _ w10:=(ai.rfl_ (a:=w10));refine aE jI (oP T g ({ s with term:=s.term+1,vote:=s.id,role:=1,leader:=0,votes:=[s.id],part:=⟨#[]⟩,partOf:=0 }:Rf) (⟨E,Ec,some ⟨b56,0,none⟩,1,X,Xc,M,Mc,Sn,Sc,Q,Qc,LL⟩:Ra) _ _ (P5_1.from_ (ai.rfl_ (a:=w10)))) ?_;rintro v74 w11 ⟨rfl,hb74,hC74⟩;have hf4:=(hs3.f.but (c:=1) (ai.toChg hB56)).votes (l:=[s.id]) rfl (oF (Nat.zero_le _) hk56 (Nat.le_refl _) (by show 1≤maxLen;unfold maxLen;omega) rfl rfl) (fun q hq=>by cases hq;exact ef (by rw [hb56];exact hz55));obtain ⟨hs7,h7⟩:=h3.put (s':=gB ({ s with term:=s.term+1,vote:=s.id,role:=1,leader:=0,votes:=[s.id],part:=⟨#[]⟩,partOf:=0 }:Rf)) (a':=(⟨E,Ec,some ⟨b56,0,none⟩,1,X,Xc,M,Mc,Sn,Sc,Q,Qc,LL⟩:Ra)) hs3 (ai.toChg hB56) (.inl (by decide)) (aY.same hf4 rfl rfl rfl rfl rfl rfl) ((hC4.next (ai.toChg hM74)).next hC74) hb74;rw [wD hF hr] at hs7 h7;refine aq (ah (ao (ag (mvp rfl (ab (av rfl) (ab (aa ay rfl) (aE ey (gv T g (dF s) _ _ _ (hs7.b.from_ (ai.rfl_ (a:=w11))) (hs7.f.rd.e.from_ (ai.rfl_ (a:=w11))) hFc.lg) ?_)))))));rintro v79 w12 ⟨rfl,E79⟩;refine mvt rfl (ab (aK rfl rfl) (ab (aK rfl rfl) (asi rfl (asi rfl (aq (ah (ao (ao (ag (mvp rfl (ab (av rfl) (ab (aa ay rfl) ?_))))))))))));have hz84:=(((ai.rfl_ (a:=w11)).next E79)).size;refine aE ng (nQ T g (dF s) _ _ _ (hs7.b.from_ ((ai.rfl_ (a:=w11)).next E79)) (by have:=hFc.n;omega)) ?_;rintro v85 w13 ⟨⟨A85,c85,rfl,ho85⟩,E85⟩
 have h8:=h7.at_ (Z':=fun k=>Z k∨A85.map (·.block)=some k) (((ai.rfl_ (a:=w11)).next E79).next E85) (fun k hk=>by
  have hz7:=((((ai.rfl_ (a:=w11)).next E79).next E85)).size;rcases hk with e | e
  ·exact ⟨Nat.lt_of_lt_of_le (h7.zw k e) hz7,.inl e⟩
  ·have:=fO ho85 k e;exact ⟨this.2,.inr (by omega)⟩)
 have hB7:ai _ w13:=(((ai.rfl_ (a:=w11)).next E79).next E85);have ho7:=ho85;obtain ⟨Z7,hZ7⟩:∃ Z7,Z7=fun k=>Z k∨A85.map (·.block)=some k:=⟨_,rfl⟩
 rw [←hZ7] at h8;have hzi:∀ k,Z k→Z7 k:=fun k hk=>by rw [hZ7];exact .inl hk
 have hzr:∀ k,A85.map (·.block)=some k→Z7 k:=fun k hk=>by rw [hZ7];exact .inr hk
 have hol:=mI (dF s);have hnn:=hFc.n;refine ab (b0 bX rfl) (mvi rfl (aq (ah (bk (dC (G:=Nat) [5,88,89,90,91,92,93,94,95,96,97] (fun i=>[(87,.int .i64 (i:Nat))]) (fun i w'=>i≤(c_ (dF s)).length∧aF w13 Z7 w' T g (((c_ (dF s)).take i).foldl (fun (p:Sp) k=>p.tell (nv (dF s) k)) (⟨dF s,[]⟩:Sp))) (fun i=>(c_ (dF s)).length-i) (0) ⟨rfl,trivial⟩ ?_ ?_)))))
 ·exact ⟨Nat.zero_le _,h8⟩
 rintro i ρ14 w14 ⟨hi,h15⟩;refine ao (ag (ab (cA rfl rfl) (aq (ah (ao (yS rfl (fun Q15=>?_) (fun Q15=>?_)))))))
 ·have hi9:i<(c_ (dF s)).length:=by omega
  obtain ⟨g7,rfl⟩:=du ho7 (by omega);have ho8:=eK ho7 h15.fr (fun q hq e=>e (hzr q hq));have hc8:=gY (l:=(c_ (dF s))) ho8 i hi9;obtain ⟨tg9,a9,O9,oc9,L9,hs9⟩:=h15.ex
  have hl9:L9.length≤7:=by
   have h1:=congrArg List.length hs9.m.l;rw [List.length_map,m_,List.length_take] at h1;have h2:((⟨dF s,[]⟩:Sp).out).length=0:=rfl;omega
  refine aI (ah (ao (bk (ao (ag (ab (bS a_ rfl rfl (by omega)) (ab (au ak rfl (by exact eH (ai.rfl_ (a:=w14)) hc8)) ?_)))))));refine asi rfl (aq (ah (ag (mvp rfl (mvi rfl (mvi rfl (mvi rfl (ab (dt (l:=[(0,.const (.int .i64 1)),(4,.tmp 93),(5,.tmp 94)]) (iu _ _)) (aE fi (ka _ Z7 T g (((c_ (dF s)).take i).foldl (fun (p:Sp) k=>p.tell (nv (dF s) k)) (⟨dF s,[]⟩:Sp)) _ (h15.from_ (ai.rfl_ (a:=w14))) tg9 a9 O9 oc9 L9 (hs9.from_ (ai.rfl_ (a:=w14))) (by omega) { zM with k:=1,ix:=aQ (dF s),lt:=dE (dF s).t (dF s).es } (c_ (dF s))[i] ⟨dB,Col.none⟩) ?_)))))))));rintro v96 w16 ⟨rfl,h16⟩;refine aq (bI (ah (ag (ab (cl rfl rfl (by omega)) (mvi rfl (aq ?_))))));refine cu (i+1) ⟨(by first | rfl | (refine aZ ?_;omega)),trivial⟩ (by (iterate 24 refine bC rfl ?_);exact bP) ⟨?_,?_⟩
  ·exact ⟨by omega,by rw [vm hi9];exact h16.from_ (ai.rfl_ (a:=w16))⟩
  ·omega
 obtain rfl:i=(c_ (dF s)).length:=by omega
 rw [List.take_length] at h15;have h9:=h7.back hB7 h15 hzi;refine cL (bw (bw (cr (ah (ag (mvp rfl (aE oY (u4 w0 Z T g ((c_ (dF s)).foldl (fun (p:Sp) k=>p.tell (nv (dF s) k)) (⟨dF s,[]⟩:Sp)) _ (h9.from_ (ai.rfl_ (a:=w14))) (by rw [vk];exact hFc) (by rw [m_];show 0+_≤700;have:=hFc.n;omega)) ?_)))))));rintro v99 w17 ⟨rfl,h17⟩;refine aq (cK (dU rfl ?_));rw [pY hte9];exact ⟨rfl,h17.from_ (ai.rfl_ (a:=w17))⟩
theorem vz (w0:World) (Z:Nat→Prop) (T g:Nat) (s:Rf) (w:World) (h:aF w0 Z w T g ⟨s,[]⟩) (hF:RfF s) :
 Rt prog 56 [.pointer (some ⟨g,0,none⟩)] w (fun v w'=>v=.tuple #[]∧aF w0 Z w' T g (fJ s)):=by
 obtain ⟨tag,a,O,oc,L,hs⟩:=h.ex;obtain ⟨E,Ec,V,Vc,X,Xc,M,Mc,Sn,Sc,Q,Qc,LL⟩:=a;have hb:Blk w g T (rfV s (⟨E,Ec,V,Vc,X,Xc,M,Mc,Sn,Sc,Q,Qc,LL⟩:Ra)++[Value.slice O L.length oc]).toArray:=hs.b
 have hll:L.length=0:=by
  have h9:=congrArg List.length hs.m.l;rw [List.length_map] at h9;exact h9
 have hB0:ai w w:=ai.rfl_;have hel:=hF.el;have hrn:=hF.rn;have hti:=hF.ti;have hFe:RfF ({ s with elapsed:=min (s.elapsed+1) 1099511627775 }:Rf):=hF.elapse (by omega);refine enter (n:=64) Tryz.func56 rfl rfl rfl (ao (ag (mvp rfl (mvp rfl (ab (av rfl) (ab (aa ay rfl) (ab (aa aw rfl) (ab (aa dJ rfl) (ab (au ak rfl (by exact (show _=some (Value.int .i64 s.elapsed) from cB (hb.from_ ai.rfl_) 11 rfl))) ?_)))))))));refine ab (cl rfl rfl (by omega)) (ab (kT rfl rfl) (er (t:=10) (v:=.int _ _) (v':=.int .i64 (min (s.elapsed+1) 1099511627775)) rfl (by exact aZ (by omega)) ?_));refine ab (av rfl) (ab (aa ay rfl) (ab (aa aw rfl) (ab (aa dJ rfl) ?_)));have hB0:ai w w:=ai.rfl_;refine cY (s':=({ s with elapsed:=(min (s.elapsed+1) 1099511627775) }:Rf)) (a':=(⟨E,Ec,V,Vc,X,Xc,M,Mc,Sn,Sc,Q,Qc,LL⟩:Ra)) (v:=.int _ _) bh rfl rfl rfl ((hb.from_ ai.rfl_)) (by exact ⟨by decide,rfl⟩) ?_;intro w1 O0_0 P0_0;have hC1:Chg (fun k=>k=g) w w1:=(ai.toChg hB0).only O0_0 rfl;obtain ⟨hs3,h3⟩:=h.set (s':=({ s with elapsed:=(min (s.elapsed+1) 1099511627775) }:Rf)) (a':=(⟨E,Ec,V,Vc,X,Xc,M,Mc,Sn,Sc,Q,Qc,LL⟩:Ra)) hs hC1 (aY.same hs.f rfl rfl rfl rfl rfl rfl) P0_0;have hb3:=P0_0;refine aq (ah (ao (ao (ag (mvp rfl (ab (av rfl) (ab (aa ay rfl) (ab (aa aw rfl) (ab (aa c6 rfl) (ab (au ak rfl (by exact (show _=some (Value.int .i64 s.role) from cB (hb3.from_ (ai.rfl_ (a:=w1))) 2 rfl))) ?_))))))))));refine ab (cz rfl rfl) (aq (ah (yP rfl (fun Q2=>?_) (fun Q2=>?_))))
 ·refine ao (ao ?_);apply br 13 [(22,eqp _),(23,eqp _),(24,eqp _),(25,eqp _),(26,eqp _),(27,eqp _),(28,eqp _),(29,eqp _),(30,eqp _),(31,eqp _),(32,eqp _),(33,eqp _),(34,eqp _)] (by repeat first | exact bN | refine bM ?_ | refine bB ?_) (by kernel_rfl) (by kernel_rfl) ⟨ae _,ae _,ae _,ae _,ae _,ae _,ae _,ae _,ae _,ae _,ae _,ae _,ae _,trivial⟩
  case hop=>
   constructor
   ·rintro-w4 D4;exact an (aC (v:=.pointer _) rfl) rfl
   constructor
   ·rintro-w5 D5;rintro _ rfl;exact an (av rfl) rfl
   constructor
   ·rintro-w6 D6;rintro _ rfl;exact an (aa ay rfl) rfl
   constructor
   ·rintro-w7 D7;rintro _ rfl;exact an (aa aw rfl) rfl
   constructor
   ·rintro-w8 D8;rintro _ rfl;exact an (aa dJ rfl) rfl
   constructor
   ·rintro-w9 D9;rintro _ rfl;exact an (au ak rfl (by exact (show _=some (Value.int .i64 (min (s.elapsed+1) 1099511627775)) from cB (hb3.from_ ((ai.rfl_ (a:=w1)).next D9)) 11 rfl))) rfl
   constructor
   ·rintro-w10 D10;exact an (aC (v:=.pointer _) rfl) rfl
   constructor
   ·rintro-w11 D11;rintro _ rfl;exact an (av rfl) rfl
   constructor
   ·rintro-w12 D12;rintro _ rfl;exact an (aa ay rfl) rfl
   constructor
   ·rintro-w13 D13;rintro _ rfl;exact an (aa aw rfl) rfl
   constructor
   ·rintro-w14 D14;rintro _ rfl;exact an (aa ik rfl) rfl
   constructor
   ·rintro-w15 D15;rintro _ rfl;exact an (au ak rfl (by exact (show _=some (Value.int .i64 s.timeout) from cB (hb3.from_ ((ai.rfl_ (a:=w1)).next D15)) 12 rfl))) rfl
   constructor
   ·rintro-w16 D16;rintro _ rfl _ rfl;exact an (rm rfl rfl) rfl
   exact trivial
  case hend=>
   intro w17 D17;rintro _ rfl _ rfl _ rfl _ rfl _ rfl _ rfl _ rfl _ rfl _ rfl _ rfl _ rfl _ rfl _ rfl;show St ..;refine aq (ah (yS rfl (fun Q18=>?_) (fun Q18=>?_)))
   ·refine ag (mvp rfl (aE qE (u1 w0 Z T g ({ s with elapsed:=min (s.elapsed+1) 1099511627775 }:Rf) _ (h3.from_ ((ai.rfl_ (a:=w1)).next D17)) hFe (show s.role≠2 by omega)) ?_));rintro v36 w19 ⟨rfl,h7⟩;refine aq (ah (aG (aH (dU rfl (⟨rfl,?_⟩)))));show aF w0 Z _ T g (if s.role=2 then (if 2≤min (s.elapsed+1) 1099511627775 then Sp.all ⟨({ s with elapsed:=0,round:=min (s.round+1) 1099511627775 }:Rf),[]⟩ else ⟨({ s with elapsed:=min (s.elapsed+1) 1099511627775 }:Rf),[]⟩) else if s.timeout≤min (s.elapsed+1) 1099511627775 then ic ({ s with elapsed:=min (s.elapsed+1) 1099511627775 }:Rf) else ⟨({ s with elapsed:=min (s.elapsed+1) 1099511627775 }:Rf),[]⟩)
    first
     |(rw [if_neg (show ¬ s.role=2 by omega),if_pos (by omega)];exact h7.from_ (ai.rfl_ (a:=w19)))
     |(rw [if_neg (show ¬ s.role=2 by omega),if_neg (by omega)];exact h3.from_ (ai.rfl_ (a:=w19)))
     |(rw [if_pos (show s.role=2 by omega),if_pos (by omega)];exact h8.from_ (ai.rfl_ (a:=w19)))
     |(rw [if_pos (show s.role=2 by omega),if_neg (by omega)];exact h3.from_ (ai.rfl_ (a:=w19)))
   refine aI (ah (aG (aH (dU rfl (⟨rfl,?_⟩)))));show aF w0 Z _ T g (if s.role=2 then (if 2≤min (s.elapsed+1) 1099511627775 then Sp.all ⟨({ s with elapsed:=0,round:=min (s.round+1) 1099511627775 }:Rf),[]⟩ else ⟨({ s with elapsed:=min (s.elapsed+1) 1099511627775 }:Rf),[]⟩) else if s.timeout≤min (s.elapsed+1) 1099511627775 then ic ({ s with elapsed:=min (s.elapsed+1) 1099511627775 }:Rf) else ⟨({ s with elapsed:=min (s.elapsed+1) 1099511627775 }:Rf),[]⟩)
   first
    |(rw [if_neg (show ¬ s.role=2 by omega),if_pos (by omega)];exact h7.from_ ((ai.rfl_ (a:=w1)).next D17))
    |(rw [if_neg (show ¬ s.role=2 by omega),if_neg (by omega)];exact h3.from_ ((ai.rfl_ (a:=w1)).next D17))
    |(rw [if_pos (show s.role=2 by omega),if_pos (by omega)];exact h8.from_ ((ai.rfl_ (a:=w1)).next D17))
    |(rw [if_pos (show s.role=2 by omega),if_neg (by omega)];exact h3.from_ ((ai.rfl_ (a:=w1)).next D17))
 refine aI (ah (ao (ag (mvp rfl (ab (av rfl) (ab (aa ay rfl) (ab (aa aw rfl) (ab (aa dJ rfl) (ab (au ak rfl (by exact (show _=some (Value.int .i64 (min (s.elapsed+1) 1099511627775)) from cB (hb3.from_ (ai.rfl_ (a:=w1))) 11 rfl))) ?_)))))))));refine ab (rm rfl rfl) (aq (ah (yS rfl (fun Q20=>?_) (fun Q20=>?_))))
 ·refine ao (ag (mvp rfl (ab (av rfl) (ab (aa ay rfl) (ab (aa aw rfl) (ab (aa dJ rfl) ?_))))));have hB5:ai _ w1:=(ai.rfl_ (a:=w1));refine cY (s':=({ s with elapsed:=0 }:Rf)) (a':=(⟨E,Ec,V,Vc,X,Xc,M,Mc,Sn,Sc,Q,Qc,LL⟩:Ra)) (v:=.int _ _) bh rfl rfl rfl ((hb3.from_ (ai.rfl_ (a:=w1)))) (by exact ⟨by decide,rfl⟩) ?_;intro w21 O5_0 P5_0;have hC5:Chg (fun k=>k=g) _ w21:=(ai.toChg hB5).only O5_0 rfl;refine aq (ah (ao (ag (mvp rfl (mvp rfl (ab (av rfl) (ab (aa ay rfl) (ab (aa aw rfl) (ab (aa eW rfl) (ab (au ak rfl (by exact (show _=some (Value.int .i64 s.round) from cB (P5_0.from_ (ai.rfl_ (a:=w21))) 18 rfl))) ?_))))))))));refine ab (cl rfl rfl (by omega)) (ab (kT rfl rfl) (er (t:=57) (v:=.int _ _) (v':=.int .i64 (min (s.round+1) 1099511627775)) rfl (by exact aZ (by omega)) ?_));refine ab (av rfl) (ab (aa ay rfl) (ab (aa aw rfl) (ab (aa eW rfl) ?_)));have hB6:ai _ w21:=(ai.rfl_ (a:=w21));refine cY (s':=({ s with elapsed:=0,round:=min (s.round+1) 1099511627775 }:Rf)) (a':=(⟨E,Ec,V,Vc,X,Xc,M,Mc,Sn,Sc,Q,Qc,LL⟩:Ra)) (v:=.int _ _) bh rfl rfl rfl ((P5_0.from_ (ai.rfl_ (a:=w21)))) (by exact ⟨by decide,rfl⟩) ?_;intro w22 O6_0 P6_0;obtain ⟨hs6,h6⟩:=h3.set (s':=({ s with elapsed:=0,round:=min (s.round+1) 1099511627775 }:Rf)) (a':=(⟨E,Ec,V,Vc,X,Xc,M,Mc,Sn,Sc,Q,Qc,LL⟩:Ra)) hs3 ((hC5.next (ai.toChg hB6)).only O6_0 rfl) (aY.same hs3.f rfl rfl rfl rfl rfl rfl) P6_0;refine aq (ah (ag (mvp rfl (aE ni (mz w0 Z T g ⟨({ s with elapsed:=0,round:=min (s.round+1) 1099511627775 }:Rf),[]⟩ _ (h6.from_ (ai.rfl_ (a:=w22))) (hF.beat (by omega) (by omega)) (show s.role=2 by omega) (by show 0≤800;omega)) ?_))));rintro v63 w23 ⟨rfl,h8⟩;refine aq (cK (dU rfl (⟨rfl,?_⟩)));show aF w0 Z _ T g (if s.role=2 then (if 2≤min (s.elapsed+1) 1099511627775 then Sp.all ⟨({ s with elapsed:=0,round:=min (s.round+1) 1099511627775 }:Rf),[]⟩ else ⟨({ s with elapsed:=min (s.elapsed+1) 1099511627775 }:Rf),[]⟩) else if s.timeout≤min (s.elapsed+1) 1099511627775 then ic ({ s with elapsed:=min (s.elapsed+1) 1099511627775 }:Rf) else ⟨({ s with elapsed:=min (s.elapsed+1) 1099511627775 }:Rf),[]⟩)
  first
   |(rw [if_neg (show ¬ s.role=2 by omega),if_pos (by omega)];exact h7.from_ (ai.rfl_ (a:=w23)))
   |(rw [if_neg (show ¬ s.role=2 by omega),if_neg (by omega)];exact h3.from_ (ai.rfl_ (a:=w23)))
   |(rw [if_pos (show s.role=2 by omega),if_pos (by omega)];exact h8.from_ (ai.rfl_ (a:=w23)))
   |(rw [if_pos (show s.role=2 by omega),if_neg (by omega)];exact h3.from_ (ai.rfl_ (a:=w23)))
 refine aI (cK (dU rfl (⟨rfl,?_⟩)));show aF w0 Z _ T g (if s.role=2 then (if 2≤min (s.elapsed+1) 1099511627775 then Sp.all ⟨({ s with elapsed:=0,round:=min (s.round+1) 1099511627775 }:Rf),[]⟩ else ⟨({ s with elapsed:=min (s.elapsed+1) 1099511627775 }:Rf),[]⟩) else if s.timeout≤min (s.elapsed+1) 1099511627775 then ic ({ s with elapsed:=min (s.elapsed+1) 1099511627775 }:Rf) else ⟨({ s with elapsed:=min (s.elapsed+1) 1099511627775 }:Rf),[]⟩)
 first
  |(rw [if_neg (show ¬ s.role=2 by omega),if_pos (by omega)];exact h7.from_ (ai.rfl_ (a:=w1)))
  |(rw [if_neg (show ¬ s.role=2 by omega),if_neg (by omega)];exact h3.from_ (ai.rfl_ (a:=w1)))
  |(rw [if_pos (show s.role=2 by omega),if_pos (by omega)];exact h8.from_ (ai.rfl_ (a:=w1)))
  |(rw [if_pos (show s.role=2 by omega),if_neg (by omega)];exact h3.from_ (ai.rfl_ (a:=w1)))
end Go.Proofs.YtkpooenofjdpmaaGreat
namespace Go.Proofs.YtkpooenofjdpmaaGreat
open Go.Proofs.Tryz (prog)
open Go.RowKit
def ua (ops:Array Oper) (n:Fr) (L:List (Nat×Value)) (o:Oper):Option (Nat×Value):=
 match o.dst with
 |none=>none
 |some d=>match o.guard with
  |some (j,b)=>match js ops n L j with
   | .bool b'=>bif b'==b then none else some (d,undef)
   | .tuple ⟨[]⟩=>some (d,undef)
   |_=>none
  |none=>match o.op with
   | .pick c x y=>match ev n L c with
    | .bool true=>match ev n L x with
     | .bool v=>some (d,.bool v)
     |_=>none
    | .bool false=>match ev n L y with
     | .bool v=>some (d,.bool v)
     |_=>none
    |_=>none
   | .move x=>match ev n L x with
    | .bool v=>some (d,.bool v)
    |_=>none
   |_=>none
def tZ (ops:Array Oper) (n:Fr):List Oper→List (Nat×Value)→Option (List (Nat×Value))
 |[],L=>some L
 |o::r,L=>match ua ops n L o with
  |some p=>tZ ops n r (p::L)
  |none=>none
section
variable {P:Program} {Q:Exit→Act→World→Prop} {n:Fr} {L:List (Nat×Value)} {w:World} {ops:Array Oper} {rest:List Oper}
theorem t_ {o:Oper} {p:Nat×Value} (h:ua ops n L o=some p) (k:St P ops Q rest n (p::L) w):St P ops Q (o::rest) n L w:=by
 obtain ⟨dst,op,ty,pos,after,g⟩:=o;unfold ua at h;cases dst with
 |none=>cases h
 |some d=>
  cases g with
  |some gb=>
   obtain ⟨j,b⟩:=gb;simp only at h;split at h
   ·rename_i b' hw;cases hb:b'==b with
    |true=>rw [hb] at h;cases h
    |false=>rw [hb] at h;cases h;exact ar hw hb k
   ·rename_i hw;cases h;exact bU hw k
   ·cases h
  |none=>
   simp only at h;split at h
   ·split at h
    ·rename_i hc;split at h
     ·rename_i v hx;cases h;exact ab (aJ hc hx) k
     ·cases h
    ·rename_i hc;split at h
     ·rename_i v hx;cases h;exact ab (aB hc hx) k
     ·cases h
    ·cases h
   ·split at h
    ·rename_i v hx;cases h;exact ab (aC hx) k
    ·cases h
   ·cases h
theorem dh:∀ {rest:List Oper} {L L':List (Nat×Value)} (_:tZ ops n rest L=some L') (_:St P ops Q [] n L' w),St P ops Q rest n L w:=by
 intro rest
 induction rest with
 |nil=>intro L L' h k;cases h;exact k
 |cons o r ih=>
  intro L L' h k;unfold tZ at h;split at h
  ·rename_i p hp;exact t_ hp (ih h k)
  ·cases h
end
end Go.Proofs.YtkpooenofjdpmaaGreat
namespace Go.Proofs.YtkpooenofjdpmaaGreat
open Go.Proofs.Tryz (prog)
open Go.RowKit
open Go.ChangeShapes Go.WideShapes Go.ChangeAt
theorem bW:cd prog 39 4=some 4:=by kernel_rfl
theorem ee:cd prog 39 5=some 5:=by kernel_rfl
theorem iG:cd prog 39 6=some 6:=by kernel_rfl
theorem dg:cd prog 39 7=some 7:=by kernel_rfl
theorem dd:cd prog 39 10=some 10:=by kernel_rfl
theorem ei:aN prog 139=true:=by kernel_rfl
theorem gz:cd prog 39 8=some 8:=by kernel_rfl
theorem jh:cd prog 39 12=some 12:=by kernel_rfl
theorem eO:cd prog 39 11=some 11:=by kernel_rfl
theorem gy:cd prog 39 9=some 9:=by kernel_rfl
def fh (lo hi:Int) (xs:List Int):Prop:=∀ x∈xs,lo≤x∧x≤hi
instance (lo hi:Int) (xs:List Int):Decidable (fh lo hi xs):=by unfold fh;exact inferInstance
theorem aP {lo hi:Int}:fh lo hi []↔True:=by simp [fh]
theorem aL {lo hi x:Int} {l:List Int}:fh lo hi (x::l)↔(lo≤x∧x≤hi)∧fh lo hi l:=by simp [fh]
theorem nd {lo hi x:Int} {l:List Int}:fh lo hi (l++[x])↔fh lo hi l∧(lo≤x∧x≤hi):=by
 simp only [fh,List.mem_append,List.mem_singleton];exact ⟨fun h=>⟨fun y hy=>h y (.inl hy),h x (.inr rfl)⟩,fun h y hy=>hy.elim (h.1 y) (fun e=>e ▸ h.2)⟩
theorem x_ (d:ByteArray):(d.toList==(⟨#[]⟩:ByteArray).toList)=decide (d.size=0):=by
 obtain ⟨⟨l⟩⟩:=d;rw [ByteArray.toList_eq,ByteArray.toList_eq];cases l with
 |nil=>rfl
 |cons a r=>rfl
theorem bz:(⟨#[]⟩:ByteArray).size=0:=rfl
def ExR (k ix lt cm rd:Int) (ok:Bool) (n:Nat) (a:Int) (d:ByteArray) (dn:Bool):Prop:=
 if k=1 then cm=0∧rd=0∧ok.toNat=0∧n=0∧a=0∧d.size=0∧dn.toNat=0
 else if k=2 then ix=0∧lt=0∧cm=0∧rd=0∧n=0∧a=0∧d.size=0∧dn.toNat=0
 else if k=3 then ok.toNat=0∧a=0∧d.size=0∧dn.toNat=0
 else if k=4 then lt=0∧cm=0∧n=0∧a=0∧d.size=0∧dn.toNat=0
 else if k=5 then cm=0∧ok.toNat=0∧n=0
 else if k=6 then lt=0∧cm=0∧ok.toNat=0∧n=0∧d.size=0∧dn.toNat=0
 else ix=0∧lt=0∧cm=0∧rd=0∧ok.toNat=0∧n=0∧a=0∧d.size=0∧dn.toNat=0
instance (k ix lt cm rd:Int) (ok:Bool) (n:Nat) (a:Int) (d:ByteArray) (dn:Bool):Decidable (ExR k ix lt cm rd ok n a d dn):=by unfold ExR;exact inferInstance
def jk (k f t tm ix lt cm rd a:Int):Prop:=(1≤k∧k≤6)∧(1≤f∧f≤7)∧(1≤t∧t≤7)∧(0≤tm∧tm≤1099511627775)∧(0≤ix∧ix≤1099511627775)∧(0≤lt∧lt≤1099511627775)∧(0≤cm∧cm≤1099511627775)∧(0≤rd∧rd≤1099511627775)∧(0≤a∧a≤1099511627775)
instance (k f t tm ix lt cm rd a:Int):Decidable (jk k f t tm ix lt cm rd a):=by unfold jk;exact inferInstance
def si (k ix lt:Int) (es:List Ent):Prop:=k=3→es.length≤16∧fw es ix lt=true
instance (k ix lt:Int) (es:List Ent):Decidable (si k ix lt es):=by unfold si;exact inferInstance
def ir (k ix a:Int) (d:ByteArray):Prop:=k=5→(1≤ix∧ix≤1099511625728)∧a≤524288∧d.size≤1024
instance (k ix a:Int) (d:ByteArray):Decidable (ir k ix a d):=by unfold ir;exact inferInstance
def OkR (k f t tm ix lt cm rd:Int) (ok:Bool) (es:List Ent) (a:Int) (d:ByteArray) (dn:Bool):Prop:=
 jk k f t tm ix lt cm rd a∧ExR k ix lt cm rd ok es.length a d dn∧si k ix lt es∧ir k ix a d
instance (k f t tm ix lt cm rd:Int) (ok:Bool) (es:List Ent) (a:Int) (d:ByteArray) (dn:Bool):Decidable (OkR k f t tm ix lt cm rd ok es a d dn):=by unfold OkR;exact inferInstance
theorem yE {xs:List Int} {k:Nat} (h:k<xs.length):(xs.map iV).toArray[k]? =some (iV xs[k]):=by simp [h]
theorem fe (lo hi:Int) (g m c:Nat) (xs:List Int) (w:World) (hm:m=xs.length) (hb:Blk w g 3 (xs.map iV).toArray) (hl:xs.length≤1000) :
 Rt prog 139 [.int .i64 lo,.int .i64 hi,.slice (some ⟨g,0,none⟩) m c] w (fun v w'=>v=.bool (decide (fh lo hi xs))∧w=w'):=by
 refine enter (n:=24) Tryz.func139 rfl rfl rfl (ao (ag (asb rfl (aq (ah (ao (ao (ag (mvs rfl (ab (b0 bX rfl) (mvi rfl (aq (ah (bk (dC (G:=Nat) [6,8,12,13,14,15,16,17,18,19,20,21,22,23] (fun k=>[(11,.int .i64 (k:Nat))]) (fun k w'=>k≤xs.length∧fh lo hi (xs.take k)∧w=w') (fun k=>xs.length-k) (0) ⟨rfl,trivial⟩ ?_ ?_)))))))))))))))
 ·exact ⟨Nat.zero_le _,aP.2 trivial,rfl⟩
 rintro k ρ1 w1 ⟨hk,ha,rfl⟩;refine ao (ag (ab (cA rfl rfl) (aq (ah (ao (yS rfl (fun Q2=>?_) (fun Q2=>?_)))))))
 ·have hkx:k<xs.length:=by omega
  refine aI (ah (ao (bk (ao (ag (ab (bS a_ rfl rfl (by omega)) (ab (au ak rfl (by exact hb.rd k (yE hkx))) ?_)))))));refine asi rfl (aq (ah (ao (ag (mvi rfl (mvi rfl (ab (cA rfl rfl) (mvb rfl (ym (t:=18) rfl (fun Q3=>?_) (fun Q3=>?_))))))))))
  ·refine dh rfl (aq (ah (aW rfl (ao (ag (asb rfl (aq (ah (aG (cI (aH (aH (cI (aH (bF (v:=.bool _) rfl rfl (⟨congrArg Value.bool ?_,rfl⟩))))))))))))))));rw [eq_comm,decide_eq_false_iff_not];intro h;have:=h _ (List.getElem_mem hkx);omega
  refine aj rfl (mvi rfl (aj rfl (mvi rfl (aj rfl (ab (ct rfl rfl) (ab (aB (v:=.bool _) rfl rfl) (aq (ah (yS rfl (fun Q4=>?_) (fun Q4=>?_))))))))))
  ·refine ao (ag (asb rfl (aq (ah (aG (cI (aH (aH (cI (aH (bF (v:=.bool _) rfl rfl (⟨congrArg Value.bool ?_,rfl⟩))))))))))));rw [eq_comm,decide_eq_false_iff_not];intro h;have:=h _ (List.getElem_mem hkx);omega
  refine aI (bI (ah (ag (ab (cx (b:=1) rfl rfl (by omega)) (mvi rfl (aq ?_))))));refine cu (k+1) ⟨(by first | rfl | (refine aZ ?_;omega)),trivial⟩ (by (iterate 30 refine bC rfl ?_);exact bP) ⟨?_,?_⟩
  ·exact ⟨by omega,by rw [List.take_succ_eq_append_getElem hkx];exact nd.2 ⟨ha,by omega⟩,rfl⟩
  ·omega
 obtain rfl:k=xs.length:=by omega
 rw [List.take_length] at ha;refine cL (bw (bw (cr (ah (ao (ag (asb rfl (aq (ah (aG (bF (v:=.bool _) rfl rfl (⟨congrArg Value.bool (decide_eq_true ha).symm,rfl⟩))))))))))))
theorem oN (k f t tm ix lt cm rd:Int) (ok:Bool) (E:Option Addr) (n c:Nat) (a:Int) (d:ByteArray) (dn:Bool) (w:World) :
 Rt prog 140 [.agg #[.int .i64 k,.int .i64 f,.int .i64 t,.int .i64 tm,.int .i64 ix,.int .i64 lt,.int .i64 cm,.int .i64 rd,.bool ok,.slice E n c,.int .i64 a,.string d,.bool dn]] w (fun v w'=>v=.bool (decide (ix=0∧lt=0∧cm=0∧rd=0∧a=0∧ok.toNat=0∧dn.toNat=0∧d.size=0∧n=0))∧ai w w'):=by
 refine enter (n:=36) Tryz.func140 rfl rfl rfl (ao (ag (cj (v:=.agg _) rfl ?_)));intro b1 w1 E1 hb1 hk1;refine asb rfl (aq (ah (ao (ag (ab (aa bW rfl) (ab (au ak rfl (by exact (hk1.from_ ai.rfl_).rd 4 rfl)) ?_))))));refine ab (aa ee rfl) (ab (au ak rfl (by exact (hk1.from_ ai.rfl_).rd 5 rfl)) ?_);refine ab (aa iG rfl) (ab (au ak rfl (by exact (hk1.from_ ai.rfl_).rd 6 rfl)) ?_);refine ab (aa dg rfl) (ab (au ak rfl (by exact (hk1.from_ ai.rfl_).rd 7 rfl)) ?_);refine ab (aa dd rfl) (ab (au ak rfl (by exact (hk1.from_ ai.rfl_).rd 10 rfl)) ?_);refine fA [.tmp 4,.tmp 6,.tmp 8,.tmp 10,.tmp 12] [.int _ _,.int _ _,.int _ _,.int _ _,.int _ _] aS rfl rfl rfl rfl (by simp [Value.cells]) ?_;intro b13 w2 E13 hb13 hk13;refine aE ei (fe 0 0 b13 5 5 [ix,lt,cm,rd,a] _ rfl hk13 (by simp)) ?_;rintro v14 w3 ⟨rfl,rfl⟩;refine mvb rfl (ym (t:=15) rfl (fun Q4=>?_) (fun Q4=>?_))
 ·simp only [aL,aP,and_true] at Q4;refine aj rfl (ab (aa gz rfl) (aj rfl (ab (au im rfl (by exact (hk1.from_ (ai.rfl_.next E13)).rd 8 rfl)) ?_)));refine aj rfl (ab (cE rfl) (ab (aJ (v:=.bool _) rfl rfl) (mvb rfl (yk (t:=20) rfl (fun Q5=>?_) (fun Q5=>?_)))))
  ·have ho:ok.toNat=0:=by cases ok <;> simp_all
   refine aj rfl (ab (aa jh rfl) (aj rfl (ab (au im rfl (by exact (hk1.from_ (ai.rfl_.next E13)).rd 12 rfl)) ?_)));refine aj rfl (ab (cE rfl) (ab (aJ (v:=.bool _) rfl rfl) (mvb rfl (yk (t:=25) rfl (fun Q6=>?_) (fun Q6=>?_)))))
   ·have hd:dn.toNat=0:=by cases dn <;> simp_all
    refine aj rfl (ab (aa eO rfl) (aj rfl (ab (au bQ rfl (by exact (hk1.from_ (ai.rfl_.next E13)).rd 11 rfl)) ?_)));refine aj rfl (ab (fg (oB rfl rfl) (congrArg Value.bool (x_ d))) (ab (aJ (v:=.bool _) rfl rfl) (mvb rfl (ym (t:=30) rfl (fun Q7=>?_) (fun Q7=>?_)))))
    ·refine aj rfl (ab (aa gy rfl) (aj rfl (ab (au cD rfl (by exact (hk1.from_ (ai.rfl_.next E13)).rd 9 rfl)) ?_)));refine aj rfl (ab (b0 dG rfl) (aj rfl ?_));refine ab (fg (bo rfl rfl) (congrArg Value.bool (show (((n:Nat):Int)==0)=decide (n=0) by rw [Bool.eq_iff_iff,beq_iff_eq,decide_eq_true_eq];omega))) ?_;refine ab (aJ (v:=.bool _) rfl rfl) (asb rfl (aq (ah (aG (bF (v:=.bool _) rfl rfl (⟨congrArg Value.bool ?_,((ai.rfl_.next E1).next E13)⟩))))))
     first
      |(rw [eq_comm,decide_eq_false_iff_not];omega)
      |(rw [decide_eq_decide];omega)
      |(rw [eq_comm,decide_eq_true_eq];omega)
    refine ar rfl rfl (ar rfl rfl (ar rfl rfl (ar rfl rfl (ab (aB (v:=.bool _) rfl rfl) (asb rfl (aq (ah (aG (bF (v:=.bool _) rfl rfl (⟨congrArg Value.bool ?_,((ai.rfl_.next E1).next E13)⟩))))))))))
    first
     |(rw [eq_comm,decide_eq_false_iff_not];omega)
     |(rw [decide_eq_decide];omega)
     |(rw [eq_comm,decide_eq_true_eq];omega)
   have hd:dn.toNat=1:=by cases dn <;> simp_all
   refine ar rfl rfl (ar rfl rfl (ar rfl rfl (ab (aB (v:=.bool _) rfl rfl) (mvb rfl (ar rfl rfl (ar rfl rfl (ar rfl rfl (ar rfl rfl ?_))))))));refine ab (aB (v:=.bool _) rfl rfl) (asb rfl (aq (ah (aG (bF (v:=.bool _) rfl rfl (⟨congrArg Value.bool ?_,((ai.rfl_.next E1).next E13)⟩))))))
   first
    |(rw [eq_comm,decide_eq_false_iff_not];omega)
    |(rw [decide_eq_decide];omega)
    |(rw [eq_comm,decide_eq_true_eq];omega)
  have ho:ok.toNat=1:=by cases ok <;> simp_all
  refine ar rfl rfl (ar rfl rfl (ar rfl rfl (ab (aB (v:=.bool _) rfl rfl) (mvb rfl (ar rfl rfl (ar rfl rfl (ar rfl rfl (ab (aB (v:=.bool _) rfl rfl) ?_))))))));refine mvb rfl (ar rfl rfl (ar rfl rfl (ar rfl rfl (ar rfl rfl (ab (aB (v:=.bool _) rfl rfl) (asb rfl (aq (ah (aG (bF (v:=.bool _) rfl rfl ?_))))))))));refine ⟨congrArg Value.bool ?_,((ai.rfl_.next E1).next E13)⟩
  first
   |(rw [eq_comm,decide_eq_false_iff_not];omega)
   |(rw [decide_eq_decide];omega)
   |(rw [eq_comm,decide_eq_true_eq];omega)
 simp only [aL,aP,and_true] at Q4;refine ar rfl rfl (ar rfl rfl (ar rfl rfl (ab (aB (v:=.bool _) rfl rfl) (mvb rfl (ar rfl rfl (ar rfl rfl (ar rfl rfl (ab (aB (v:=.bool _) rfl rfl) ?_))))))));refine mvb rfl (ar rfl rfl (ar rfl rfl (ar rfl rfl (ab (aB (v:=.bool _) rfl rfl) (mvb rfl (ar rfl rfl (ar rfl rfl (ar rfl rfl ?_))))))));refine ar rfl rfl (ab (aB (v:=.bool _) rfl rfl) (asb rfl (aq (ah (aG (bF (v:=.bool _) rfl rfl (⟨congrArg Value.bool ?_,((ai.rfl_.next E1).next E13)⟩)))))))
 first
  |(rw [eq_comm,decide_eq_false_iff_not];omega)
  |(rw [decide_eq_decide];omega)
  |(rw [eq_comm,decide_eq_true_eq];omega)
instance:DecidableEq Ent:=fun x y=>decidable_of_iff (x.i=y.i∧x.t=y.t∧x.d=y.d) ⟨fun h=>by cases x;cases y;simp_all,fun h=>by rw [h];exact ⟨rfl,rfl,rfl⟩⟩
theorem tp {w:World} {A:Option Addr} {n c:Nat} {es:List Ent} (h:cQ w (.slice A n c) es) (hn:0<es.length):∃ b o,A=some ⟨b,o,none⟩∧∀ i (hi:i<es.length),w.rangeAt b (o+i*3) [.int .i64 es[i].i,.int .i64 es[i].t,.string es[i].d]:=by
 obtain ⟨A',c',hv,_,_,_,hp⟩:=h;simp only [Value.slice.injEq] at hv;obtain ⟨rfl,_,_⟩:=hv;obtain ⟨b,o,hA,_,hc⟩:=hp hn;exact ⟨b,o,hA,fun i hi=>xN (hc i hi).1 (hc i hi).2.1 (hc i hi).2.2⟩
theorem cX:aN prog 53=true:=by kernel_rfl
theorem lJ:iJ prog 54=some true:=by kernel_rfl
theorem iH:dr prog 54=some 4:=by kernel_rfl
theorem dH:iJ prog 27=some false:=by kernel_rfl
theorem fk:(e_ prog 27).isSome=true:=by kernel_rfl
theorem fI:e_ prog 27=some (54,4):=by kernel_rfl
theorem lI:jq prog 54=some (.agg #[.int .i64 0,.int .i64 0,.int .i64 0,.slice none 0 0]):=by kernel_rfl
theorem nz:cd prog 54 0=some 0:=by kernel_rfl
theorem ny:cd prog 54 1=some 1:=by kernel_rfl
theorem j5:cd prog 54 2=some 2:=by kernel_rfl
theorem eX:cd prog 54 3=some 3:=by kernel_rfl
theorem kL:aN prog 133=true:=by kernel_rfl
theorem bR:iJ prog 29=some true:=by kernel_rfl
theorem bf:dr prog 29=some 22:=by kernel_rfl
theorem o4:aN prog 131=true:=by kernel_rfl
theorem o3:aN prog 132=true:=by kernel_rfl
theorem o0:aN prog 134=true:=by kernel_rfl
theorem oZ:aN prog 135=true:=by kernel_rfl
def gN (s:Rf):Prop:=(1≤s.nodes∧s.nodes≤7)∧(1≤s.id∧s.id≤s.nodes)∧(0≤s.role∧s.role≤2)∧((0≤s.vote∧s.vote≤s.nodes)∧(0≤s.leader∧s.leader≤s.nodes))∧(0≤s.term∧s.term≤1099511627775)∧(0≤s.elapsed∧s.elapsed≤1099511627775)∧(0≤s.timeout∧s.timeout≤1099511627775)∧(0≤s.round∧s.round≤1099511627775)
instance (s:Rf):Decidable (gN s):=by unfold gN;exact inferInstance
def fF (s:Rf):Prop:=cn s.b s.t s.es=true∧dE s.t s.es≤s.term∧(s.b≤s.commit∧s.commit≤aQ s)∧s.snap.size≤524288∧(0<s.b∨s.snap.size=0)
instance (s:Rf):Decidable (fF s):=by unfold fF;exact inferInstance
def fX (s:Rf):Prop:=s.part.size≤524288∧(0≤s.partOf∧s.partOf≤1099511625728)∧(0<s.partOf∨s.part.size=0)
instance (s:Rf):Decidable (fX s):=by unfold fX;exact inferInstance
def j6 (s:Rf):Prop:=if s.role=2 then ((s.next.length:Int)=s.nodes∧(s.mtch.length:Int)=s.nodes∧(s.sent.length:Int)=s.nodes∧s.reads.length≤32)∧(fh 1 (aQ s+1) s.next∧fh 0 (aQ s) s.mtch∧fh 0 s.snap.size s.sent)∧(∀ q∈s.reads,gD s q=true) else s.next.length+s.mtch.length+s.sent.length+s.reads.length=0
instance (s:Rf):Decidable (j6 s):=by unfold j6;exact inferInstance
theorem yJ (s:Rf) (E:Option Addr) (n c:Nat) (w:World) (h:cQ w (.slice E n c) s.es):Rt prog 152 [.agg #[.int .i64 s.b,.int .i64 s.t,.slice E n c]] w fun v w'=>(∃ X Y Z:Int,v=.tuple #[.int .i64 X,.int .i64 Y,.int .i64 Z]∧((cn s.b s.t s.es=true∧Z=0∧X=aQ s∧Y=dE s.t s.es)∨(cn s.b s.t s.es=false∧Z=1)))∧ai w w':=
 (Rt.of (pN s.b s.t _ s.es w h)).mono fun v w' h=>by
  refine ⟨?_,h.2⟩;rw [h.1];unfold sC;cases hm:cn s.b s.t s.es with
  |true=>rw [if_pos rfl];exact ⟨_,_,_,rfl,.inl ⟨rfl,rfl,rfl,rfl⟩⟩
  |false=>rw [if_neg (by decide)];exact ⟨_,_,_,rfl,.inr ⟨rfl,rfl⟩⟩
theorem mD:∀ (l:List Int),fB l=true↔∀ j (h:j+1<l.length),l[j]<l[j+1]
 |[]=>⟨fun _ j h=>absurd h (by simp),fun _=>rfl⟩
 |[a]=>⟨fun _ j h=>absurd h (by simp),fun _=>rfl⟩
 |a::b::r=>by
  have ih:=mD (b::r);show (decide (a<b)&&fB (b::r))=true↔_;rw [Bool.and_eq_true,decide_eq_true_eq,ih];constructor
  ·rintro ⟨h1,h2⟩ j h;cases j with
   |zero=>exact h1
   |succ j=>exact h2 j (by simpa using h)
  ·intro h;exact ⟨h 0 (by simp),fun j hj=>h (j+1) (by simpa using hj)⟩
theorem kb {l:List Int} {n:Int}:eL l n=true↔fh 1 n l∧∀ j (h:j+1<l.length),l[j]<l[j+1]:=by
 unfold eL fh;rw [Bool.and_eq_true,mD,List.all_eq_true];simp only [Bool.and_eq_true,decide_eq_true_eq]
theorem dW (lo hi:Int) (A:Option Addr) (c:Nat) (xs:List Int) (w:World) (hr:ew iV w A xs) (hl:xs.length≤1000000) :
 Rt prog 53 [.int .i64 lo,.int .i64 hi,.slice A xs.length c] w (fun v w'=>v=.bool (decide (fh lo hi xs))∧w=w'):=by
 refine enter (n:=24) Tryz.func53 rfl rfl rfl (ao (ag (asb rfl (aq (ah (ao (ao (ag (mvs rfl (ab (b0 bX rfl) (mvi rfl (aq (ah (bk (dC (G:=Nat) [6,8,12,13,14,15,16,17,18,19,20,21,22,23] (fun k=>[(11,.int .i64 (k:Nat))]) (fun k w'=>k≤xs.length∧fh lo hi (xs.take k)∧w=w') (fun k=>xs.length-k) (0) ⟨rfl,trivial⟩ ?_ ?_)))))))))))))))
 ·exact ⟨Nat.zero_le _,aP.2 trivial,rfl⟩
 rintro k ρ1 w1 ⟨hk,ha,rfl⟩;refine ao (ag (ab (cA rfl rfl) (aq (ah (ao (yS rfl (fun Q2=>?_) (fun Q2=>?_)))))))
 ·have hkx:k<xs.length:=by omega
  obtain ⟨ba,oa,rfl,hca⟩:=hr (by omega);refine aI (ah (ao (bk (ao (ag (ab (db a_ rfl rfl (by omega)) (ab (au ak rfl (by exact hca k hkx)) ?_)))))));refine asi rfl (aq (ah (ao (ag (mvi rfl (mvi rfl (ab (cA rfl rfl) (mvb rfl (ym (t:=18) rfl (fun Q3=>?_) (fun Q3=>?_))))))))))
  ·refine dh rfl (aq (ah (aW rfl (ao (ag (asb rfl (aq (ah (aG (cI (aH (aH (cI (aH (bF (v:=.bool _) rfl rfl (⟨congrArg Value.bool ?_,rfl⟩))))))))))))))));rw [eq_comm,decide_eq_false_iff_not];intro h;have:=h _ (List.getElem_mem hkx);omega
  refine aj rfl (mvi rfl (aj rfl (mvi rfl (aj rfl (ab (ct rfl rfl) (ab (aB (v:=.bool _) rfl rfl) (aq (ah (yS rfl (fun Q4=>?_) (fun Q4=>?_))))))))))
  ·refine ao (ag (asb rfl (aq (ah (aG (cI (aH (aH (cI (aH (bF (v:=.bool _) rfl rfl (⟨congrArg Value.bool ?_,rfl⟩))))))))))));rw [eq_comm,decide_eq_false_iff_not];intro h;have:=h _ (List.getElem_mem hkx);omega
  refine aI (bI (ah (ag (ab (cx (b:=1) rfl rfl (by omega)) (mvi rfl (aq ?_))))));refine cu (k+1) ⟨(by first | rfl | (refine aZ ?_;omega)),trivial⟩ (by (iterate 30 refine bC rfl ?_);exact bP) ⟨?_,?_⟩
  ·exact ⟨by omega,by rw [List.take_succ_eq_append_getElem hkx];exact nd.2 ⟨ha,by omega⟩,rfl⟩
  ·omega
 obtain rfl:k=xs.length:=by omega
 rw [List.take_length] at ha;refine cL (bw (bw (cr (ah (ao (ag (asb rfl (aq (ah (aG (bF (v:=.bool _) rfl rfl (⟨congrArg Value.bool (decide_eq_true ha).symm,rfl⟩))))))))))))
theorem eC {w:World} {b:Nat} {xs:List Int} (h:Blk w b 3 (xs.map iV).toArray):ew iV w (some ⟨b,0,none⟩) xs:=ew.blk h fun i hi=>by simp [hi]
theorem lN (s:Rf) (a:Ra) (w:World) :
 Rt prog 131 [.agg (rfV s a).toArray] w (fun v w'=>v=.bool (decide (gN s))∧ai w w'):=by
 refine enter (n:=43) Tryz.func131 rfl rfl rfl (ao (ag (cj (v:=.agg _) rfl ?_)));intro b1 w1 E1 hb1 hk1;refine asb rfl (aq (ah (ao (ag (ab (aa cN rfl) (ab (au ak rfl (by exact (hk1.from_ ai.rfl_).rd 1 rfl)) ?_))))));refine ej (v:=.int _ _) aS rfl rfl rfl ?_;intro b5 w2 E5 hb5 hk5;refine aE cX (dW 1 7 (some ⟨b5,0,none⟩) 1 [s.nodes] _ (eC hk5) (by simp)) ?_;rintro v6 w3 ⟨rfl,rfl⟩;refine mvb rfl (ym (t:=7) rfl (fun Q4=>?_) (fun Q4=>?_))
 ·(try simp only [aL,aP,and_true] at Q4)
  refine aj rfl (ab (aa cN rfl) (aj rfl (ab (au ak rfl (by exact (hk1.from_ (ai.rfl_.next E5)).rd 1 rfl)) ?_)));refine aj rfl (ab (aa dK rfl) (aj rfl (ab (au ak rfl (by exact (hk1.from_ (ai.rfl_.next E5)).rd 0 rfl)) ?_)));refine aj rfl (ej (v:=.int _ _) aS rfl rfl rfl ?_);intro b12 w5 E12 hb12 hk12;refine aj rfl (aE cX (dW 1 s.nodes (some ⟨b12,0,none⟩) 1 [s.id] _ (eC hk12) (by simp)) ?_);rintro v13 w6 ⟨rfl,rfl⟩;refine ab (aJ (v:=.bool _) rfl rfl) (mvb rfl (ym (t:=15) rfl (fun Q7=>?_) (fun Q7=>?_)))
  ·(try simp only [aL,aP,and_true] at Q7)
   refine aj rfl (ab (aa c6 rfl) (aj rfl (ab (au ak rfl (by exact (hk1.from_ ((ai.rfl_.next E5).next E12)).rd 2 rfl)) ?_)));refine aj rfl (ej (v:=.int _ _) aS rfl rfl rfl ?_);intro b18 w8 E18 hb18 hk18;refine aj rfl (aE cX (dW 0 2 (some ⟨b18,0,none⟩) 1 [s.role] _ (eC hk18) (by simp)) ?_);rintro v19 w9 ⟨rfl,rfl⟩;refine ab (aJ (v:=.bool _) rfl rfl) (mvb rfl (ym (t:=21) rfl (fun Q10=>?_) (fun Q10=>?_)))
   ·(try simp only [aL,aP,and_true] at Q10)
    refine aj rfl (ab (aa cN rfl) (aj rfl (ab (au ak rfl (by exact (hk1.from_ (((ai.rfl_.next E5).next E12).next E18)).rd 1 rfl)) ?_)));refine aj rfl (ab (aa jf rfl) (aj rfl (ab (au ak rfl (by exact (hk1.from_ (((ai.rfl_.next E5).next E12).next E18)).rd 4 rfl)) ?_)));refine aj rfl (ab (aa fR rfl) (aj rfl (ab (au ak rfl (by exact (hk1.from_ (((ai.rfl_.next E5).next E12).next E18)).rd 5 rfl)) ?_)));refine aj rfl (fA [.tmp 25,.tmp 27] [.int _ _,.int _ _] aS rfl rfl rfl rfl (by simp [Value.cells]) ?_);intro b28 w11 E28 hb28 hk28;refine aj rfl (aE cX (dW 0 s.nodes (some ⟨b28,0,none⟩) 2 [s.vote,s.leader] _ (eC hk28) (by simp)) ?_);rintro v29 w12 ⟨rfl,rfl⟩;refine ab (aJ (v:=.bool _) rfl rfl) (mvb rfl (ym (t:=31) rfl (fun Q13=>?_) (fun Q13=>?_)))
    ·(try simp only [aL,aP,and_true] at Q13)
     refine aj rfl (ab (aa bE rfl) (aj rfl (ab (au ak rfl (by exact (hk1.from_ ((((ai.rfl_.next E5).next E12).next E18).next E28)).rd 3 rfl)) ?_)));refine aj rfl (ab (aa dJ rfl) (aj rfl (ab (au ak rfl (by exact (hk1.from_ ((((ai.rfl_.next E5).next E12).next E18).next E28)).rd 11 rfl)) ?_)));refine aj rfl (ab (aa ik rfl) (aj rfl (ab (au ak rfl (by exact (hk1.from_ ((((ai.rfl_.next E5).next E12).next E18).next E28)).rd 12 rfl)) ?_)));refine aj rfl (ab (aa eW rfl) (aj rfl (ab (au ak rfl (by exact (hk1.from_ ((((ai.rfl_.next E5).next E12).next E18).next E28)).rd 18 rfl)) ?_)));refine aj rfl (fA [.tmp 33,.tmp 35,.tmp 37,.tmp 39] [.int _ _,.int _ _,.int _ _,.int _ _] aS rfl rfl rfl rfl (by simp [Value.cells]) ?_);intro b40 w14 E40 hb40 hk40;refine aj rfl (aE cX (dW 0 1099511627775 (some ⟨b40,0,none⟩) 4 [s.term,s.elapsed,s.timeout,s.round] _ (eC hk40) (by simp)) ?_);rintro v41 w15 ⟨rfl,rfl⟩;refine ab (aJ (v:=.bool _) rfl rfl) (asb rfl (aq (ah (aG (bF (v:=.bool _) rfl rfl (⟨congrArg Value.bool ?_,((((((ai.rfl_.next E1).next E5).next E12).next E18).next E28).next E40)⟩))))))
     (try simp only [aL,aP,and_true])
     first
      |(rw [eq_comm,decide_eq_false_iff_not];unfold gN;omega)
      |(rw [decide_eq_decide];unfold gN;omega)
      |(rw [eq_comm,decide_eq_true_eq];unfold gN;omega)
    (try simp only [aL,aP,and_true] at Q13)
    refine ar rfl rfl (ar rfl rfl (ar rfl rfl (ar rfl rfl (ar rfl rfl (ar rfl rfl (ar rfl rfl (ar rfl rfl (ar rfl rfl ?_))))))));refine ar rfl rfl (ab (aB (v:=.bool _) rfl rfl) (asb rfl (aq (ah (aG (bF (v:=.bool _) rfl rfl (⟨congrArg Value.bool ?_,(((((ai.rfl_.next E1).next E5).next E12).next E18).next E28)⟩)))))))
    (try simp only [aL,aP,and_true])
    first
     |(rw [eq_comm,decide_eq_false_iff_not];unfold gN;omega)
     |(rw [decide_eq_decide];unfold gN;omega)
     |(rw [eq_comm,decide_eq_true_eq];unfold gN;omega)
   (try simp only [aL,aP,and_true] at Q10)
   refine ar rfl rfl (ar rfl rfl (ar rfl rfl (ar rfl rfl (ar rfl rfl (ar rfl rfl (ar rfl rfl (ar rfl rfl (ab (aB (v:=.bool _) rfl rfl) ?_))))))));refine mvb rfl (ar rfl rfl (ar rfl rfl (ar rfl rfl (ar rfl rfl (ar rfl rfl (ar rfl rfl (ar rfl rfl (ar rfl rfl ?_))))))));refine ar rfl rfl (ar rfl rfl (ab (aB (v:=.bool _) rfl rfl) (asb rfl (aq (ah (aG (bF (v:=.bool _) rfl rfl (⟨congrArg Value.bool ?_,((((ai.rfl_.next E1).next E5).next E12).next E18)⟩))))))))
   (try simp only [aL,aP,and_true])
   first
    |(rw [eq_comm,decide_eq_false_iff_not];unfold gN;omega)
    |(rw [decide_eq_decide];unfold gN;omega)
    |(rw [eq_comm,decide_eq_true_eq];unfold gN;omega)
  (try simp only [aL,aP,and_true] at Q7)
  refine ar rfl rfl (ar rfl rfl (ar rfl rfl (ar rfl rfl (ab (aB (v:=.bool _) rfl rfl) (mvb rfl (ar rfl rfl (ar rfl rfl (ar rfl rfl ?_))))))));refine ar rfl rfl (ar rfl rfl (ar rfl rfl (ar rfl rfl (ar rfl rfl (ab (aB (v:=.bool _) rfl rfl) (mvb rfl (ar rfl rfl (ar rfl rfl ?_))))))));refine ar rfl rfl (ar rfl rfl (ar rfl rfl (ar rfl rfl (ar rfl rfl (ar rfl rfl (ar rfl rfl (ar rfl rfl (ab (aB (v:=.bool _) rfl rfl) ?_))))))));refine asb rfl (aq (ah (aG (bF (v:=.bool _) rfl rfl (⟨congrArg Value.bool ?_,(((ai.rfl_.next E1).next E5).next E12)⟩)))))
  (try simp only [aL,aP,and_true])
  first
   |(rw [eq_comm,decide_eq_false_iff_not];unfold gN;omega)
   |(rw [decide_eq_decide];unfold gN;omega)
   |(rw [eq_comm,decide_eq_true_eq];unfold gN;omega)
 (try simp only [aL,aP,and_true] at Q4)
 refine ar rfl rfl (ar rfl rfl (ar rfl rfl (ar rfl rfl (ar rfl rfl (ar rfl rfl (ab (aB (v:=.bool _) rfl rfl) (mvb rfl (ar rfl rfl ?_))))))));refine ar rfl rfl (ar rfl rfl (ar rfl rfl (ab (aB (v:=.bool _) rfl rfl) (mvb rfl (ar rfl rfl (ar rfl rfl (ar rfl rfl (ar rfl rfl ?_))))))));refine ar rfl rfl (ar rfl rfl (ar rfl rfl (ar rfl rfl (ab (aB (v:=.bool _) rfl rfl) (mvb rfl (ar rfl rfl (ar rfl rfl (ar rfl rfl ?_))))))));refine ar rfl rfl (ar rfl rfl (ar rfl rfl (ar rfl rfl (ar rfl rfl (ar rfl rfl (ar rfl rfl (ab (aB (v:=.bool _) rfl rfl) (asb rfl ?_))))))));refine aq (ah (aG (bF (v:=.bool _) rfl rfl (⟨congrArg Value.bool ?_,((ai.rfl_.next E1).next E5)⟩))))
 (try simp only [aL,aP,and_true])
 first
  |(rw [eq_comm,decide_eq_false_iff_not];unfold gN;omega)
  |(rw [decide_eq_decide];unfold gN;omega)
  |(rw [eq_comm,decide_eq_true_eq];unfold gN;omega)
theorem vU {s:Rf} {a:Ra} {w:World} {b T:Nat} (hb:Blk w b T (rfV s a).toArray):w.rangeAt b 6 [.int .i64 s.b,.int .i64 s.t,.slice a.E s.es.length a.Ec]:=hb.range 6 _ (fun j v hj=>by
 match j,hj with
 |0,hj=>exact hj
 |1,hj=>exact hj
 |2,hj=>exact hj
 |j+3,hj=>simp at hj)
theorem pc (s:Rf) (a:Ra) (w:World) (he:cQ w (.slice a.E s.es.length a.Ec) s.es) :
 Rt prog 132 [.agg (rfV s a).toArray] w (fun v w'=>v=.bool (decide (fF s))∧ai w w'):=by
 refine enter (n:=48) Tryz.func132 rfl rfl rfl (ao (ag (cj (v:=.agg _) rfl ?_)));intro b1 w1 E1 hb1 hk1;refine asb rfl (aq (ah (ao (ag (ab (aa bd rfl) (ab (aR (cs:=[.int .i64 s.b,.int .i64 s.t,.slice a.E s.es.length a.Ec]) cw bD rfl (vU (hk1.from_ ai.rfl_))) (aE kJ (yJ s a.E s.es.length a.Ec _ (he.from_ (ai.rfl_.next E1))) ?_)))))));rintro v9 w2 ⟨⟨X,Y,Z,rfl,hXYZ⟩,E9⟩;refine mvt rfl (ab (aK rfl rfl) (ab (aK rfl rfl) (ab (aK rfl rfl) (asi rfl (asi rfl (asi rfl (aq (ah (ao (ag (mvi rfl ?_)))))))))));refine ab (bo rfl rfl) (mvb rfl (yl (t:=15) rfl (fun Q3=>?_) (fun Q3=>?_)))
 ·refine aj rfl (mvi rfl (aj rfl (ab (aa bE rfl) (aj rfl (ab (au ak rfl (by exact (hk1.from_ (ai.rfl_.next E9)).rd 3 rfl)) ?_)))));refine aj rfl (ab (fx rfl rfl) (ab (aJ (v:=.bool _) rfl rfl) (mvb rfl (ym (t:=21) rfl (fun Q4=>?_) (fun Q4=>?_)))))
  ·(try simp only [aL,aP,and_true] at Q4)
   refine aj rfl (ab (aa bd rfl) (aj rfl (ab (aa bY rfl) (aj rfl (ab (au ak rfl (by exact (hk1.from_ (ai.rfl_.next E9)).rd 6 rfl)) ?_)))));refine aj rfl (mvi rfl (aj rfl (ab (aa cC rfl) (aj rfl (ab (au ak rfl (by exact (hk1.from_ (ai.rfl_.next E9)).rd 10 rfl)) ?_)))));refine aj rfl (ej (v:=.int _ _) aS rfl rfl rfl ?_);intro b28 w5 E28 hb28 hk28;refine aj rfl (aE cX (dW s.b X (some ⟨b28,0,none⟩) 1 [s.commit] _ (eC hk28) (by simp)) ?_);rintro v29 w6 ⟨rfl,rfl⟩;refine ab (aJ (v:=.bool _) rfl rfl) (mvb rfl (ym (t:=31) rfl (fun Q7=>?_) (fun Q7=>?_)))
   ·(try simp only [aL,aP,and_true] at Q7)
    refine aj rfl (ab (aa dD rfl) (aj rfl (ab (au bQ rfl (by exact (hk1.from_ ((ai.rfl_.next E9).next E28)).rd 9 rfl)) ?_)));refine aj rfl (ab (dA (by kernel_rfl) rfl) (aj rfl (ab (fx rfl rfl) (ab (aJ (v:=.bool _) rfl rfl) (mvb rfl (ym (t:=37) rfl (fun Q8=>?_) (fun Q8=>?_)))))))
    ·refine aj rfl (ab (aa bd rfl) (aj rfl (ab (aa bY rfl) (aj rfl (ab (au ak rfl (by exact (hk1.from_ ((ai.rfl_.next E9).next E28)).rd 6 rfl)) ?_)))));refine aj rfl (ab (ct rfl rfl) (aj rfl (mvb rfl (ym (t:=42) rfl (fun Q9=>?_) (fun Q9=>?_)))))
     ·refine ar rfl rfl (ar rfl rfl (ar rfl rfl (aj rfl (ab (aJ (v:=.bool _) rfl rfl) (ab (aJ (v:=.bool _) rfl rfl) (asb rfl (aq (ah (aG (bF (v:=.bool _) rfl rfl ?_))))))))));refine ⟨congrArg Value.bool ?_,(((ai.rfl_.next E1).next E9).next E28)⟩
      (try simp only [aL,aP,and_true])
      rcases hXYZ with ⟨hm,hz,hx,hy⟩ | ⟨hm,hz⟩
      ·first
        |(rw [eq_comm,decide_eq_false_iff_not];unfold fF;simp only [hm,true_and];omega)
        |(rw [decide_eq_decide];unfold fF;simp only [hm,true_and];omega)
        |(rw [eq_comm,decide_eq_true_eq];unfold fF;simp only [hm,true_and];omega)
      ·first
        |(exfalso;omega)
        |(rw [eq_comm,decide_eq_false_iff_not];unfold fF;rw [hm];exact fun h=>Bool.noConfusion h.1)
     refine aj rfl (ab (aa dD rfl) (aj rfl (ab (au bQ rfl (by exact (hk1.from_ ((ai.rfl_.next E9).next E28)).rd 9 rfl)) ?_)));refine aj rfl (ab (fg (oB rfl rfl) (congrArg Value.bool (x_ s.snap))) (aj rfl (ab (aB (v:=.bool _) rfl rfl) (ab (aJ (v:=.bool _) rfl rfl) (asb rfl (aq (ah (aG (bF (v:=.bool _) rfl rfl (⟨congrArg Value.bool ?_,(((ai.rfl_.next E1).next E9).next E28)⟩))))))))))
     (try simp only [aL,aP,and_true])
     rcases hXYZ with ⟨hm,hz,hx,hy⟩ | ⟨hm,hz⟩
     ·first
       |(rw [eq_comm,decide_eq_false_iff_not];unfold fF;simp only [hm,true_and];omega)
       |(rw [decide_eq_decide];unfold fF;simp only [hm,true_and];omega)
       |(rw [eq_comm,decide_eq_true_eq];unfold fF;simp only [hm,true_and];omega)
     ·first
       |(exfalso;omega)
       |(rw [eq_comm,decide_eq_false_iff_not];unfold fF;rw [hm];exact fun h=>Bool.noConfusion h.1)
    refine ar rfl rfl (ar rfl rfl (ar rfl rfl (ar rfl rfl (ar rfl rfl (bU rfl (bU rfl (bU rfl (ar rfl rfl ?_))))))));refine ab (aB (v:=.bool _) rfl rfl) (asb rfl (aq (ah (aG (bF (v:=.bool _) rfl rfl (⟨congrArg Value.bool ?_,(((ai.rfl_.next E1).next E9).next E28)⟩))))))
    (try simp only [aL,aP,and_true])
    rcases hXYZ with ⟨hm,hz,hx,hy⟩ | ⟨hm,hz⟩
    ·first
      |(rw [eq_comm,decide_eq_false_iff_not];unfold fF;simp only [hm,true_and];omega)
      |(rw [decide_eq_decide];unfold fF;simp only [hm,true_and];omega)
      |(rw [eq_comm,decide_eq_true_eq];unfold fF;simp only [hm,true_and];omega)
    ·first
      |(exfalso;omega)
      |(rw [eq_comm,decide_eq_false_iff_not];unfold fF;rw [hm];exact fun h=>Bool.noConfusion h.1)
   (try simp only [aL,aP,and_true] at Q7)
   refine ar rfl rfl (ar rfl rfl (ar rfl rfl (ar rfl rfl (ab (aB (v:=.bool _) rfl rfl) (mvb rfl (ar rfl rfl (ar rfl rfl (ar rfl rfl ?_))))))));refine ar rfl rfl (ar rfl rfl (bU rfl (bU rfl (bU rfl (ar rfl rfl (ab (aB (v:=.bool _) rfl rfl) (asb rfl (aq (ah (aG ?_))))))))));refine bF (v:=.bool _) rfl rfl (⟨congrArg Value.bool ?_,(((ai.rfl_.next E1).next E9).next E28)⟩)
   (try simp only [aL,aP,and_true])
   rcases hXYZ with ⟨hm,hz,hx,hy⟩ | ⟨hm,hz⟩
   ·first
     |(rw [eq_comm,decide_eq_false_iff_not];unfold fF;simp only [hm,true_and];omega)
     |(rw [decide_eq_decide];unfold fF;simp only [hm,true_and];omega)
     |(rw [eq_comm,decide_eq_true_eq];unfold fF;simp only [hm,true_and];omega)
   ·first
     |(exfalso;omega)
     |(rw [eq_comm,decide_eq_false_iff_not];unfold fF;rw [hm];exact fun h=>Bool.noConfusion h.1)
  (try simp only [aL,aP,and_true] at Q4)
  refine ar rfl rfl (ar rfl rfl (ar rfl rfl (ar rfl rfl (ar rfl rfl (ar rfl rfl (ar rfl rfl (ar rfl rfl (ab (aB (v:=.bool _) rfl rfl) ?_))))))));refine mvb rfl (ar rfl rfl (ar rfl rfl (ar rfl rfl (ar rfl rfl (ab (aB (v:=.bool _) rfl rfl) (mvb rfl (ar rfl rfl (ar rfl rfl ?_))))))));refine ar rfl rfl (ar rfl rfl (ar rfl rfl (bU rfl (bU rfl (bU rfl (ar rfl rfl (ab (aB (v:=.bool _) rfl rfl) (asb rfl ?_))))))));refine aq (ah (aG (bF (v:=.bool _) rfl rfl (⟨congrArg Value.bool ?_,((ai.rfl_.next E1).next E9)⟩))))
  (try simp only [aL,aP,and_true])
  rcases hXYZ with ⟨hm,hz,hx,hy⟩ | ⟨hm,hz⟩
  ·first
    |(rw [eq_comm,decide_eq_false_iff_not];unfold fF;simp only [hm,true_and];omega)
    |(rw [decide_eq_decide];unfold fF;simp only [hm,true_and];omega)
    |(rw [eq_comm,decide_eq_true_eq];unfold fF;simp only [hm,true_and];omega)
  ·first
    |(exfalso;omega)
    |(rw [eq_comm,decide_eq_false_iff_not];unfold fF;rw [hm];exact fun h=>Bool.noConfusion h.1)
 refine ar rfl rfl (ar rfl rfl (ar rfl rfl (ar rfl rfl (ab (aB (v:=.bool _) rfl rfl) (mvb rfl (ar rfl rfl (ar rfl rfl (ar rfl rfl ?_))))))));refine ar rfl rfl (ar rfl rfl (ar rfl rfl (ar rfl rfl (ar rfl rfl (ab (aB (v:=.bool _) rfl rfl) (mvb rfl (ar rfl rfl (ar rfl rfl ?_))))))));refine ar rfl rfl (ar rfl rfl (ab (aB (v:=.bool _) rfl rfl) (mvb rfl (ar rfl rfl (ar rfl rfl (ar rfl rfl (ar rfl rfl (ar rfl rfl ?_))))))));refine bU rfl (bU rfl (bU rfl (ar rfl rfl (ab (aB (v:=.bool _) rfl rfl) (asb rfl (aq (ah (aG (bF (v:=.bool _) rfl rfl (⟨congrArg Value.bool ?_,((ai.rfl_.next E1).next E9)⟩))))))))))
 (try simp only [aL,aP,and_true])
 rcases hXYZ with ⟨hm,hz,hx,hy⟩ | ⟨hm,hz⟩
 ·first
   |(rw [eq_comm,decide_eq_false_iff_not];unfold fF;simp only [hm,true_and];omega)
   |(rw [decide_eq_decide];unfold fF;simp only [hm,true_and];omega)
   |(rw [eq_comm,decide_eq_true_eq];unfold fF;simp only [hm,true_and];omega)
 ·first
   |(exfalso;omega)
   |(rw [eq_comm,decide_eq_false_iff_not];unfold fF;rw [hm];exact fun h=>Bool.noConfusion h.1)
theorem ow (s:Rf) (a:Ra) (w:World) :
 Rt prog 135 [.agg (rfV s a).toArray] w (fun v w'=>v=.bool (decide (fX s))∧ai w w'):=by
 refine enter (n:=23) Tryz.func135 rfl rfl rfl (ao (ag (cj (v:=.agg _) rfl ?_)));intro b1 w1 E1 hb1 hk1;refine asb rfl (aq (ah (ao (ag (ab (aa cg rfl) (ab (au bQ rfl (by exact (hk1.from_ ai.rfl_).rd 20 rfl)) ?_))))));refine ab (dA (by kernel_rfl) rfl) (ab (fx rfl rfl) (mvb rfl (ym (t:=7) rfl (fun Q2=>?_) (fun Q2=>?_))))
 ·refine aj rfl (ab (aa eA rfl) (aj rfl (ab (au ak rfl (by exact (hk1.from_ ai.rfl_).rd 21 rfl)) ?_)));refine aj rfl (ej (v:=.int _ _) aS rfl rfl rfl ?_);intro b10 w3 E10 hb10 hk10;refine aj rfl (aE cX (dW 0 1099511625728 (some ⟨b10,0,none⟩) 1 [s.partOf] _ (eC hk10) (by simp)) ?_);rintro v11 w4 ⟨rfl,rfl⟩;refine ab (aJ (v:=.bool _) rfl rfl) (mvb rfl (ym (t:=13) rfl (fun Q5=>?_) (fun Q5=>?_)))
  ·(try simp only [aL,aP,and_true] at Q5)
   refine aj rfl (ab (aa eA rfl) (aj rfl (ab (au ak rfl (by exact (hk1.from_ (ai.rfl_.next E10)).rd 21 rfl)) ?_)));refine aj rfl (ab (ct rfl rfl) (aj rfl (mvb rfl (ym (t:=17) rfl (fun Q6=>?_) (fun Q6=>?_)))))
   ·refine ar rfl rfl (ar rfl rfl (ar rfl rfl (aj rfl (ab (aJ (v:=.bool _) rfl rfl) (ab (aJ (v:=.bool _) rfl rfl) (asb rfl (aq (ah (aG (bF (v:=.bool _) rfl rfl ?_))))))))));refine ⟨congrArg Value.bool ?_,((ai.rfl_.next E1).next E10)⟩
    (try simp only [aL,aP,and_true])
    first
     |(rw [eq_comm,decide_eq_false_iff_not];unfold fX;omega)
     |(rw [decide_eq_decide];unfold fX;omega)
     |(rw [eq_comm,decide_eq_true_eq];unfold fX;omega)
   refine aj rfl (ab (aa cg rfl) (aj rfl (ab (au bQ rfl (by exact (hk1.from_ (ai.rfl_.next E10)).rd 20 rfl)) ?_)));refine aj rfl (ab (fg (oB rfl rfl) (congrArg Value.bool (x_ s.part))) (aj rfl (ab (aB (v:=.bool _) rfl rfl) (ab (aJ (v:=.bool _) rfl rfl) (asb rfl (aq (ah (aG (bF (v:=.bool _) rfl rfl (⟨congrArg Value.bool ?_,((ai.rfl_.next E1).next E10)⟩))))))))))
   (try simp only [aL,aP,and_true])
   first
    |(rw [eq_comm,decide_eq_false_iff_not];unfold fX;omega)
    |(rw [decide_eq_decide];unfold fX;omega)
    |(rw [eq_comm,decide_eq_true_eq];unfold fX;omega)
  (try simp only [aL,aP,and_true] at Q5)
  refine ar rfl rfl (ar rfl rfl (ar rfl rfl (ar rfl rfl (bU rfl (bU rfl (bU rfl (ar rfl rfl (ab (aB (v:=.bool _) rfl rfl) ?_))))))));refine asb rfl (aq (ah (aG (bF (v:=.bool _) rfl rfl (⟨congrArg Value.bool ?_,((ai.rfl_.next E1).next E10)⟩)))))
  (try simp only [aL,aP,and_true])
  first
   |(rw [eq_comm,decide_eq_false_iff_not];unfold fX;omega)
   |(rw [decide_eq_decide];unfold fX;omega)
   |(rw [eq_comm,decide_eq_true_eq];unfold fX;omega)
 refine ar rfl rfl (ar rfl rfl (ar rfl rfl (ar rfl rfl (ab (aB (v:=.bool _) rfl rfl) (mvb rfl (ar rfl rfl (ar rfl rfl (ar rfl rfl ?_))))))));refine ar rfl rfl (bU rfl (bU rfl (bU rfl (ar rfl rfl (ab (aB (v:=.bool _) rfl rfl) (asb rfl (aq (ah (aG (bF (v:=.bool _) rfl rfl ?_))))))))));refine ⟨congrArg Value.bool ?_,(ai.rfl_.next E1)⟩
 (try simp only [aL,aP,and_true])
 first
  |(rw [eq_comm,decide_eq_false_iff_not];unfold fX;omega)
  |(rw [decide_eq_decide];unfold fX;omega)
  |(rw [eq_comm,decide_eq_true_eq];unfold fX;omega)
theorem nM (A:Option Addr) (c:Nat) (l:List Int) (n:Int) (w:World) (hr:ew iV w A l) (hl:l.length≤1000000) :
 Rt prog 133 [.slice A l.length c,.int .i64 n] w (fun v w'=>v=.bool (eL l n)∧ai w w'):=by
 refine enter (n:=33) Tryz.func133 rfl rfl rfl (ao (ag (asb rfl (aq (ah (ao (ao (ag (mvs rfl (ab (b0 bX rfl) (mvi rfl (aq (ah (bk (dC (G:=Nat) [4,5,6,10,11,12,13,14,15,16,17,18,19,20,21,22,23,24,25,26,27,28,29,30,31,32] (fun k=>[(9,.int .i64 (k:Nat))]) (fun k w'=>k≤l.length∧(∀ j (h:j<l.length),j<k→1≤l[j]∧l[j]≤n)∧(∀ j (h:j+1<l.length),j+1<k→l[j]<l[j+1])∧ai w w') (fun k=>l.length-k) (0) ⟨rfl,trivial⟩ ?_ ?_)))))))))))))))
 ·exact ⟨Nat.zero_le _,fun j _ h=>absurd h (by omega),fun j _ h=>absurd h (by omega),ai.rfl_⟩
 rintro k ρ1 w1 ⟨hk,h1,h2,hB⟩;refine ao (ag (ab (cA rfl rfl) (aq (ah (ao (yS rfl (fun Q2=>?_) (fun Q2=>?_)))))))
 ·have hkx:k<l.length:=by omega
  obtain ⟨ba,oa,rfl,hca⟩:=hr (by omega);refine aI (ah (ao (bk (ao (ag (mvi rfl (ab (db a_ rfl rfl (by omega)) (ab (au ak rfl (by exact eH hB (hca k hkx))) ?_))))))));refine asi rfl (asi rfl (aq (ah (ao (ag (mvi rfl (mvi rfl (ej (v:=.int _ _) aS rfl rfl rfl ?_))))))));intro b16 w3 E16 hb16 hk16;refine aE cX (dW 1 n (some ⟨b16,0,none⟩) 1 [l[k]] _ (eC hk16) (by simp)) ?_;rintro v17 w4 ⟨rfl,rfl⟩;refine ab (cE rfl) (mvb rfl (aM (t:=19) rfl (fun Q5=>?_) (fun Q5=>?_)))
  ·replace Q5:=et Q5;replace Q5:=dF_ Q5
   (try simp only [aL,aP,and_true] at Q5)
   refine dh rfl (aq (ah (aW rfl (ao (ag (asb rfl (aq (ah (aG (cI (aH (aH (cI (aH (bF (v:=.bool _) rfl rfl (⟨congrArg Value.bool ?_,(hB.next E16)⟩))))))))))))))));rw [eq_comm,←Bool.not_eq_true,kb];rintro ⟨h3,h4⟩;have h5:=h3 _ (List.getElem_mem hkx)
   first
    |omega
    |(obtain ⟨j,rfl⟩:∃ j,k=j+1:=⟨k-1,by omega⟩
      have h6:=h4 j hkx
      (try simp only [Nat.add_sub_cancel] at*)
      omega)
  replace Q5:=eu Q5;replace Q5:=dT_ Q5
  (try simp only [aL,aP,and_true] at Q5)
  refine aj rfl (mvi rfl (aj rfl (ab (ct rfl rfl) (aj rfl (mvb rfl (ym (t:=22) rfl (fun Q6=>?_) (fun Q6=>?_)))))))
  ·refine aj rfl (mvs rfl (aj rfl (mvi rfl (aj rfl (ab (dk rfl rfl (by omega)) (er (t:=25) (v:=.int _ _) (v':=.int .i64 ((k-1:Nat):Int)) rfl (by exact aZ (by omega)) ?_))))));refine aj rfl (ab (db a_ rfl rfl (by omega)) (aj rfl (ab (au ak rfl (by exact eH (hB.next E16) (hca (k-1) (by omega)))) ?_)));refine aj rfl (mvi rfl (aj rfl (ab (rm rfl rfl) (aj rfl (ab (aJ (v:=.bool _) rfl rfl) (ab (aB (v:=.bool _) rfl rfl) (aq (ah (yS rfl (fun Q7=>?_) (fun Q7=>?_))))))))))
   ·refine ao (ag (asb rfl (aq (ah (aG (cI (aH (aH (cI (aH (bF (v:=.bool _) rfl rfl (⟨congrArg Value.bool ?_,(hB.next E16)⟩))))))))))));rw [eq_comm,←Bool.not_eq_true,kb];rintro ⟨h3,h4⟩;have h5:=h3 _ (List.getElem_mem hkx)
    first
     |omega
     |(obtain ⟨j,rfl⟩:∃ j,k=j+1:=⟨k-1,by omega⟩
       have h6:=h4 j hkx
       (try simp only [Nat.add_sub_cancel] at*)
       omega)
   refine aI (bI (ah (ag (ab (cx (b:=1) rfl rfl (by omega)) (mvi rfl (aq ?_))))));refine cu (k+1) ⟨(by first | rfl | (refine aZ ?_;omega)),trivial⟩ (by (iterate 56 refine bC rfl ?_);exact bP) ⟨?_,?_⟩
   ·refine ⟨by omega,fun j h hj=>?_,fun j h hj=>?_,(hB.next E16)⟩
    ·rcases Nat.lt_or_ge j k with e | e
     ·exact h1 j h e
     ·obtain rfl:j=k:=by omega
      omega
    ·rcases Nat.lt_or_ge (j+1) k with e | e
     ·exact h2 j h e
     ·obtain rfl:k=j+1:=by omega
      (try simp only [Nat.add_sub_cancel] at*)
      omega
   ·omega
  refine ar rfl rfl (ar rfl rfl (ar rfl rfl (ar rfl rfl (ar rfl rfl (ar rfl rfl (ar rfl rfl (aj rfl (ab (aB (v:=.bool _) rfl rfl) ?_))))))));refine ab (aB (v:=.bool _) rfl rfl) (aq (ah (aU rfl (aI (bI (ah (ag (ab (cx (b:=1) rfl rfl (by omega)) (mvi rfl (aq ?_))))))))));refine cu (k+1) ⟨(by first | rfl | (refine aZ ?_;omega)),trivial⟩ (by (iterate 55 refine bC rfl ?_);exact bP) ⟨?_,?_⟩
  ·refine ⟨by omega,fun j h hj=>?_,fun j h hj=>?_,(hB.next E16)⟩
   ·rcases Nat.lt_or_ge j k with e | e
    ·exact h1 j h e
    ·obtain rfl:j=k:=by omega
     omega
   ·rcases Nat.lt_or_ge (j+1) k with e | e
    ·exact h2 j h e
    ·obtain rfl:k=j+1:=by omega
     (try simp only [Nat.add_sub_cancel] at*)
     omega
  ·omega
 refine cL (bw (bw (cr (ah (ao (ag (asb rfl (aq (ah (aG (bF (v:=.bool _) rfl rfl (⟨congrArg Value.bool ?_,hB⟩))))))))))));obtain rfl:k=l.length:=by omega
 rw [eq_comm,kb];exact ⟨fun x hx=>by obtain ⟨j,hj,rfl⟩:=List.getElem_of_mem hx;exact h1 j hj hj,fun j hj=>h2 j hj hj⟩
theorem dp {s:Rf} (h:s.role=2):j6 s↔((s.next.length:Int)=s.nodes∧(s.mtch.length:Int)=s.nodes∧(s.sent.length:Int)=s.nodes∧s.reads.length≤32)∧(fh 1 (aQ s+1) s.next∧fh 0 (aQ s) s.mtch∧fh 0 s.snap.size s.sent)∧(∀ q∈s.reads,gD s q=true):=by unfold j6;rw [if_pos h]
theorem jT {s:Rf} (h:s.role≠2):j6 s↔s.next.length+s.mtch.length+s.sent.length+s.reads.length=0:=by unfold j6;rw [if_neg h]
theorem f_ {s:Rf} {q:Rd}:gD s q=true↔(1≤q.id∧q.id≤1099511627776)∧(0≤q.ix∧q.ix≤s.commit)∧(0≤q.rn∧q.rn≤s.round)∧eL q.acks s.nodes=true:=by
 unfold gD inb;simp only [Bool.and_eq_true,decide_eq_true_eq];constructor
 ·rintro ⟨⟨⟨h1,h2⟩,h3⟩,h4⟩;exact ⟨h1,h2,h3,h4⟩
 ·rintro ⟨h1,h2,h3,h4⟩;exact ⟨⟨⟨h1,h2⟩,h3⟩,h4⟩
theorem nq (s:Rf) (a:Ra) (w:World) (hrd:jj w s a) (hN:gN s) (hL:fF s) (hl:s.next.length≤1000000∧s.mtch.length≤1000000∧s.sent.length≤1000000∧s.reads.length≤1000000∧∀ q∈s.reads,q.acks.length≤1000000) :
 Rt prog 134 [.agg (rfV s a).toArray] w (fun v w'=>v=.bool (decide (j6 s))∧ai w w'):=by
 obtain ⟨E,Ec,V,Vc,X,Xc,M,Mc,Sn,Sc,Q,Qc,LL⟩:=a;have hrL:LL.map (fun q=>q.1)=s.reads:=hrd.r;have hrk:∀ q∈LL,IR w q.2.1 q.2.2 q.1.acks:=hrd.k;obtain ⟨hl1,hl2,hl3,hl4,hl5⟩:=hl;have hbl:=gr hL.1;have hlr:aQ s=s.b+s.es.length:=hbl.1;have hrl:LL.length=s.reads.length:=by rw [←hrL,List.length_map]
 have hN0:=hN.1;refine enter (n:=122) Tryz.func134 rfl rfl rfl (ao (ag (cj (v:=.agg _) rfl ?_)));intro b1 w1 E1 hb1 hk1;refine asb rfl (aq (ah (ao (ao (ag (ab (aa c6 rfl) (ab (au ak rfl (by exact (hk1.from_ ai.rfl_).rd 2 rfl)) ?_)))))));refine ab (cz rfl rfl) (aq (ah (yP rfl (fun Q2=>?_) (fun Q2=>?_))))
 ·refine ao (ag (ab (aa ch rfl) (ab (au bj rfl (by exact (show _=some (Value.slice X s.next.length Xc) from (hk1.from_ ai.rfl_).rd 15 rfl))) ?_)));refine ab (b0 bX rfl) (ab (aa cM rfl) (ab (au bj rfl (by exact (show _=some (Value.slice M s.mtch.length Mc) from (hk1.from_ ai.rfl_).rd 16 rfl))) ?_));refine ab (b0 bX rfl) (ab (cx rfl rfl (by omega)) (ab (aa dc rfl) (ab (au bj rfl (by exact (show _=some (Value.slice Sn s.sent.length Sc) from (hk1.from_ ai.rfl_).rd 17 rfl))) ?_)));refine ab (b0 bX rfl) (ab (cx rfl rfl (by omega)) (ab (aa cG rfl) (ab (au dH rfl (by exact (show _=some (Value.slice Q LL.length Qc) from (hk1.from_ ai.rfl_).rd 19 rfl))) ?_)));refine ab (b0 fk rfl) (ab (cx rfl rfl (by omega)) (ab (bo rfl rfl) (asb rfl (aq (ah (aG (aH (bF (v:=.bool _) rfl rfl (⟨congrArg Value.bool ?_,(ai.rfl_.next E1)⟩)))))))));rw [Bool.eq_iff_iff,decide_eq_true_eq,jT (by omega),beq_iff_eq];omega
 refine aI (ah (ao (ag (ab (aa bd rfl) (ab (aa bY rfl) (ab (au ak rfl (by exact (hk1.from_ ai.rfl_).rd 6 rfl)) ?_))))));refine ab (aa bd rfl) (ab (aa cV rfl) (ab (au cD rfl (by exact (hk1.from_ ai.rfl_).rd 8 rfl)) ?_));refine ab (b0 dG rfl) (ab (cl rfl rfl (by omega)) (er (t:=32) (v:=.int _ _) (v':=.int .i64 (aQ s)) rfl (by exact aZ hlr.symm) ?_));refine asi rfl (aq (ah (ao (ao (ag (ab (aa ch rfl) (ab (au bj rfl (by exact (show _=some (Value.slice X s.next.length Xc) from (hk1.from_ ai.rfl_).rd 15 rfl))) ?_)))))));refine ab (b0 bX rfl) (ab (aa cN rfl) (ab (au ak rfl (by exact (hk1.from_ ai.rfl_).rd 1 rfl)) ?_));refine ab (cz rfl rfl) (mvb rfl (yj (t:=39) rfl (fun Q3=>?_) (fun Q3=>?_)))
 ·refine dh rfl (aq (ah (aW rfl (ao (ag (asb rfl (aq (ah (aG (aH (bF (v:=.bool _) rfl rfl (⟨congrArg Value.bool ?_,(ai.rfl_.next E1)⟩))))))))))));rw [eq_comm,decide_eq_false_iff_not];rw [dp (by omega)];rintro ⟨⟨g1,g2,g3,g4⟩,_⟩;omega
 refine aj rfl (ab (aa cM rfl) (aj rfl (ab (au bj rfl (by exact (show _=some (Value.slice M s.mtch.length Mc) from (hk1.from_ ai.rfl_).rd 16 rfl))) ?_)));refine aj rfl (ab (b0 bX rfl) (aj rfl (ab (aa cN rfl) (aj rfl (ab (au ak rfl (by exact (hk1.from_ ai.rfl_).rd 1 rfl)) ?_)))));refine aj rfl (ab (cz rfl rfl) (ab (aB (v:=.bool _) rfl rfl) (mvb rfl (yj (t:=47) rfl (fun Q4=>?_) (fun Q4=>?_)))))
 ·refine dh rfl (aq (ah (aW rfl (ao (ag (asb rfl (aq (ah (aG (aH (bF (v:=.bool _) rfl rfl (⟨congrArg Value.bool ?_,(ai.rfl_.next E1)⟩))))))))))));rw [eq_comm,decide_eq_false_iff_not];rw [dp (by omega)];rintro ⟨⟨g1,g2,g3,g4⟩,_⟩;omega
 refine aj rfl (ab (aa dc rfl) (aj rfl (ab (au bj rfl (by exact (show _=some (Value.slice Sn s.sent.length Sc) from (hk1.from_ ai.rfl_).rd 17 rfl))) ?_)));refine aj rfl (ab (b0 bX rfl) (aj rfl (ab (aa cN rfl) (aj rfl (ab (au ak rfl (by exact (hk1.from_ ai.rfl_).rd 1 rfl)) ?_)))));refine aj rfl (ab (cz rfl rfl) (ab (aB (v:=.bool _) rfl rfl) (mvb rfl (yj (t:=55) rfl (fun Q5=>?_) (fun Q5=>?_)))))
 ·refine dh rfl (aq (ah (aW rfl (ao (ag (asb rfl (aq (ah (aG (aH (bF (v:=.bool _) rfl rfl (⟨congrArg Value.bool ?_,(ai.rfl_.next E1)⟩))))))))))));rw [eq_comm,decide_eq_false_iff_not];rw [dp (by omega)];rintro ⟨⟨g1,g2,g3,g4⟩,_⟩;omega
 refine aj rfl (ab (aa cG rfl) (aj rfl (ab (au dH rfl (by exact (show _=some (Value.slice Q LL.length Qc) from (hk1.from_ ai.rfl_).rd 19 rfl))) ?_)));refine aj rfl (ab (b0 fk rfl) (aj rfl (ab (ct rfl rfl) (ab (aB (v:=.bool _) rfl rfl) (aq (ah (yS rfl (fun Q6=>?_) (fun Q6=>?_))))))))
 ·refine ao (ag (asb rfl (aq (ah (aG (aH (bF (v:=.bool _) rfl rfl (⟨congrArg Value.bool ?_,(ai.rfl_.next E1)⟩))))))));rw [eq_comm,decide_eq_false_iff_not];rw [dp (by omega)];rintro ⟨⟨g1,g2,g3,g4⟩,_⟩;omega
 refine aI (ah (ao (ao (ag (mvi rfl (ab (cl rfl rfl (by omega)) (ab (aa ch rfl) (ab (au bj rfl (by exact (show _=some (Value.slice X s.next.length Xc) from (hk1.from_ ai.rfl_).rd 15 rfl))) ?_))))))));refine aE cX (dW 1 (aQ s+1) X Xc s.next _ (hrd.x.1.from_ (ai.rfl_.next E1)) hl1) ?_;rintro v65 w7 ⟨rfl,rfl⟩;refine ab (cE rfl) (mvb rfl (aM (t:=67) rfl (fun Q8=>?_) (fun Q8=>?_)))
 ·with_reducible (replace Q8:=et Q8;replace Q8:=dF_ Q8)
  (try simp only [aL,aP,and_true] at Q8)
  refine dh rfl (aq (ah (aW rfl (ao (ag (asb rfl (aq (ah (aG (aH (bF (v:=.bool _) rfl rfl (⟨congrArg Value.bool ?_,(ai.rfl_.next E1)⟩))))))))))));rw [eq_comm,decide_eq_false_iff_not];rw [dp (by omega)];rintro ⟨_,⟨g1,g2,g3⟩,_⟩
  simp_all
 with_reducible (replace Q8:=eu Q8;replace Q8:=dT_ Q8)
 (try simp only [aL,aP,and_true] at Q8)
 refine aj rfl (mvi rfl (aj rfl (ab (aa cM rfl) (aj rfl (ab (au bj rfl (by exact (show _=some (Value.slice M s.mtch.length Mc) from (hk1.from_ ai.rfl_).rd 16 rfl))) ?_)))));refine aj rfl (aE cX (dW 0 (aQ s) M Mc s.mtch _ (hrd.m.1.from_ (ai.rfl_.next E1)) hl2) ?_);rintro v71 w9 ⟨rfl,rfl⟩;refine aj rfl (ab (cE rfl) (ab (aB (v:=.bool _) rfl rfl) (mvb rfl (aM (t:=74) rfl (fun Q10=>?_) (fun Q10=>?_)))))
 ·with_reducible (replace Q10:=et Q10;replace Q10:=dF_ Q10)
  (try simp only [aL,aP,and_true] at Q10)
  refine dh rfl (aq (ah (aW rfl (ao (ag (asb rfl (aq (ah (aG (aH (bF (v:=.bool _) rfl rfl (⟨congrArg Value.bool ?_,(ai.rfl_.next E1)⟩))))))))))));rw [eq_comm,decide_eq_false_iff_not];rw [dp (by omega)];rintro ⟨_,⟨g1,g2,g3⟩,_⟩
  simp_all
 with_reducible (replace Q10:=eu Q10;replace Q10:=dT_ Q10)
 (try simp only [aL,aP,and_true] at Q10)
 refine aj rfl (ab (aa dD rfl) (aj rfl (ab (au bQ rfl (by exact (hk1.from_ ai.rfl_).rd 9 rfl)) ?_)));refine aj rfl (ab (dA (by kernel_rfl) rfl) (aj rfl (ab (aa dc rfl) (aj rfl (ab (au bj rfl (by exact (show _=some (Value.slice Sn s.sent.length Sc) from (hk1.from_ ai.rfl_).rd 17 rfl))) ?_)))));refine aj rfl (aE cX (dW 0 (s.snap.size:Nat) Sn Sc s.sent _ (hrd.n.1.from_ (ai.rfl_.next E1)) hl3) ?_);rintro v80 w11 ⟨rfl,rfl⟩;refine aj rfl (ab (cE rfl) (ab (aB (v:=.bool _) rfl rfl) (aq (ah (aO rfl (fun Q12=>?_) (fun Q12=>?_))))))
 ·with_reducible (replace Q12:=et Q12;replace Q12:=dF_ Q12)
  refine ao (ag (asb rfl (aq (ah (aG (aH (bF (v:=.bool _) rfl rfl (⟨congrArg Value.bool ?_,(ai.rfl_.next E1)⟩))))))));rw [eq_comm,decide_eq_false_iff_not];rw [dp (by omega)];rintro ⟨_,⟨g1,g2,g3⟩,_⟩
  simp_all
 with_reducible (replace Q12:=eu Q12;replace Q12:=dT_ Q12)
 refine aI (ah (ao (ao (ag (ab (aa cG rfl) (ab (au dH rfl (by exact (show _=some (Value.slice Q LL.length Qc) from (hk1.from_ ai.rfl_).rd 19 rfl))) ?_))))));refine ab (b0 fk rfl) (mvi rfl (aq (ah (bk (dC (G:=Nat) [2,5,87,88,89,90,91,92,93,94,95,96,97,98,99,100,101,102,103,104,105,106,107,108,109,110,111,112,113,114,115,116,117,118,119,120,121] (fun k=>[(86,.int .i64 (k:Nat))]) (fun k w'=>k≤LL.length∧(∀ j (h:j<LL.length),j<k→gD s LL[j].1=true)∧Blk w' b1 29 (rfV s (⟨E,Ec,V,Vc,X,Xc,M,Mc,Sn,Sc,Q,Qc,LL⟩:Ra)).toArray∧ai w w') (fun k=>LL.length-k) (0) ⟨rfl,trivial⟩ ?_ ?_)))))
 ·exact ⟨Nat.zero_le _,fun j _ h=>absurd h (by omega),hk1.from_ ai.rfl_,(ai.rfl_.next E1)⟩
 rintro k ρ13 w13 ⟨hk,h1,hk1,hB⟩;refine ao (ag (ab (cA rfl rfl) (aq (ah (ao (yS rfl (fun Q14=>?_) (fun Q14=>?_)))))))
 ·have hkL:k<LL.length:=by omega
  have hqm:LL[k].1∈s.reads:=by rw [←hrL];exact List.mem_map_of_mem (List.getElem_mem hkL)
  obtain ⟨ba,oa,rfl,hcs⟩:∃ b o,Q=some ⟨b,o,none⟩∧∀ i (hi:i<LL.length),w.rangeAt b (o+i*4) (rdV LL[i]):=hrd.q (by show 0<LL.length;omega);refine aI (ah (ao (bk (ao (ag (ab (cq fI rfl rfl (by omega)) (ab (aR (cs:=rdV LL[k]) lJ iH rfl (fL hB (hcs k hkL))) (dq lI ?_))))))));intro b5 w15 E5 hb5 hk5;have hg5:w.heap.size≤b5:=by rw [hb5];exact (hB).size
  have hk1L:=hk1.from_ (ai.rfl_.next E5);have hn5:b1≠b5:=by have:=hk1.lt;have:=((ai.rfl_.next E5)).size;omega
  refine cZ (vs:=[_,_,_,_]) iH rfl rfl (by simp [Value.oneCell']) (hk5) rfl ?_;intro w16 O10 P10;replace hk1:=hk1L.only O10 hn5;refine aq (ah (ao (ag (ab (aa nz rfl) (ab (au ak rfl (by exact (show _=some (Value.int .i64 LL[k].1.id) from (P10.from_ ai.rfl_).rd 0 rfl))) ?_)))));refine ej (v:=.int _ _) aS rfl rfl rfl ?_;intro b92 w17 E92 hb92 hk92;refine aE cX (dW 1 1099511627776 (some ⟨b92,0,none⟩) 1 [LL[k].1.id] _ (eC hk92) (by simp)) ?_;rintro v93 w18 ⟨rfl,rfl⟩;refine ab (cE rfl) (mvb rfl (aM (t:=95) rfl (fun Q19=>?_) (fun Q19=>?_)))
  ·with_reducible (replace Q19:=et Q19;replace Q19:=dF_ Q19)
   (try simp only [aL,aP,and_true] at Q19)
   refine dh rfl (aq (ah (aW rfl (ao (ag (asb rfl (aq (ah (aG (cI (aH (aH (cI (aH (bF (v:=.bool _) rfl rfl (⟨congrArg Value.bool ?_,(((hB.next E5).only O10 (hg5)).next E92)⟩))))))))))))))));rw [eq_comm,decide_eq_false_iff_not];rw [dp (by omega)];rintro ⟨_,_,g⟩;have g5:=f_.1 (g _ hqm)
   first
    |omega
    |simp_all
  with_reducible (replace Q19:=eu Q19;replace Q19:=dT_ Q19)
  (try simp only [aL,aP,and_true] at Q19)
  refine aj rfl (ab (aa cC rfl) (aj rfl (ab (au ak rfl (by exact (hk1.from_ (ai.rfl_.next E92)).rd 10 rfl)) ?_)));refine aj rfl (ab (aa ny rfl) (aj rfl (ab (au ak rfl (by exact (show _=some (Value.int .i64 LL[k].1.ix) from (P10.from_ (ai.rfl_.next E92)).rd 1 rfl))) ?_)));refine aj rfl (ej (v:=.int _ _) aS rfl rfl rfl ?_);intro b100 w20 E100 hb100 hk100;refine aj rfl (aE cX (dW 0 s.commit (some ⟨b100,0,none⟩) 1 [LL[k].1.ix] _ (eC hk100) (by simp)) ?_);rintro v101 w21 ⟨rfl,rfl⟩;refine aj rfl (ab (cE rfl) (ab (aB (v:=.bool _) rfl rfl) (mvb rfl (aM (t:=104) rfl (fun Q22=>?_) (fun Q22=>?_)))))
  ·with_reducible (replace Q22:=et Q22;replace Q22:=dF_ Q22)
   (try simp only [aL,aP,and_true] at Q22)
   refine dh rfl (aq (ah (aW rfl (ao (ag (asb rfl (aq (ah (aG (cI (aH (aH (cI (aH (bF (v:=.bool _) rfl rfl (⟨congrArg Value.bool ?_,((((hB.next E5).only O10 (hg5)).next E92).next E100)⟩))))))))))))))));rw [eq_comm,decide_eq_false_iff_not];rw [dp (by omega)];rintro ⟨_,_,g⟩;have g5:=f_.1 (g _ hqm)
   first
    |omega
    |simp_all
  with_reducible (replace Q22:=eu Q22;replace Q22:=dT_ Q22)
  (try simp only [aL,aP,and_true] at Q22)
  refine aj rfl (ab (aa eW rfl) (aj rfl (ab (au ak rfl (by exact (hk1.from_ ((ai.rfl_.next E92).next E100)).rd 18 rfl)) ?_)));refine aj rfl (ab (aa j5 rfl) (aj rfl (ab (au ak rfl (by exact (show _=some (Value.int .i64 LL[k].1.rn) from (P10.from_ ((ai.rfl_.next E92).next E100)).rd 2 rfl))) ?_)));refine aj rfl (ej (v:=.int _ _) aS rfl rfl rfl ?_);intro b109 w23 E109 hb109 hk109;refine aj rfl (aE cX (dW 0 s.round (some ⟨b109,0,none⟩) 1 [LL[k].1.rn] _ (eC hk109) (by simp)) ?_);rintro v110 w24 ⟨rfl,rfl⟩;refine aj rfl (ab (cE rfl) (ab (aB (v:=.bool _) rfl rfl) (mvb rfl (aM (t:=113) rfl (fun Q25=>?_) (fun Q25=>?_)))))
  ·with_reducible (replace Q25:=et Q25;replace Q25:=dF_ Q25)
   (try simp only [aL,aP,and_true] at Q25)
   refine dh rfl (aq (ah (aW rfl (ao (ag (asb rfl (aq (ah (aG (cI (aH (aH (cI (aH (bF (v:=.bool _) rfl rfl (⟨congrArg Value.bool ?_,(((((hB.next E5).only O10 (hg5)).next E92).next E100).next E109)⟩))))))))))))))));rw [eq_comm,decide_eq_false_iff_not];rw [dp (by omega)];rintro ⟨_,_,g⟩;have g5:=f_.1 (g _ hqm)
   first
    |omega
    |simp_all
  with_reducible (replace Q25:=eu Q25;replace Q25:=dT_ Q25)
  (try simp only [aL,aP,and_true] at Q25)
  refine aj rfl (ab (aa eX rfl) (aj rfl (ab (au bj rfl (by exact (show _=some (Value.slice LL[k].2.1 LL[k].1.acks.length LL[k].2.2) from (P10.from_ (((ai.rfl_.next E92).next E100).next E109)).rd 3 rfl))) ?_)));refine aj rfl (ab (aa cN rfl) (aj rfl (ab (au ak rfl (by exact (hk1.from_ (((ai.rfl_.next E92).next E100).next E109)).rd 1 rfl)) ?_)));refine aj rfl (aE kL (nM LL[k].2.1 LL[k].2.2 LL[k].1.acks s.nodes _ ((hrk _ (List.getElem_mem hkL)).1.from_ (((((hB.next E5).only O10 (hg5)).next E92).next E100).next E109)) (hl5 _ hqm)) ?_);rintro v118 w26 ⟨rfl,E118⟩;refine aj rfl (ab (cE rfl) (ab (aB (v:=.bool _) rfl rfl) (aq (ah (yQ rfl (fun Q27=>?_) (fun Q27=>?_))))))
  ·refine ao (ag (asb rfl (aq (ah (aG (cI (aH (aH (cI (aH (bF (v:=.bool _) rfl rfl (⟨congrArg Value.bool ?_,((((((hB.next E5).only O10 (hg5)).next E92).next E100).next E109).next E118)⟩))))))))))));rw [eq_comm,decide_eq_false_iff_not];rw [dp (by omega)];rintro ⟨_,_,g⟩;have g5:=f_.1 (g _ hqm)
   first
    |omega
    |simp_all
  refine aI (bI (ah (ag (ab (cl rfl rfl (by omega)) (mvi rfl (aq ?_))))));refine cu (k+1) ⟨(by first | rfl | (refine aZ ?_;omega)),trivial⟩ (by (iterate 78 refine bC rfl ?_);exact bP) ⟨?_,?_⟩
  ·refine ⟨by omega,fun j h hj=>?_,hk1.from_ ((((ai.rfl_.next E92).next E100).next E109).next E118),((((((hB.next E5).only O10 (hg5)).next E92).next E100).next E109).next E118)⟩;rcases Nat.lt_or_ge j k with e | e
   ·exact h1 j h e
   ·obtain rfl:j=k:=by omega
    rw [f_];exact ⟨by omega,by omega,by omega,by first | assumption | simp_all⟩
  ·omega
 refine cL (bw (bw (cr (ah (ao (ag (asb rfl (aq (ah (aG (bF (v:=.bool _) rfl rfl (⟨congrArg Value.bool ?_,hB⟩))))))))))));rw [eq_comm,decide_eq_true_eq];rw [dp (by omega)];refine ⟨⟨by omega,by omega,by omega,by omega⟩,⟨?_,?_,?_⟩,fun q hq=>?_⟩
 ·simp_all
 ·simp_all
 ·simp_all
 ·rw [←hrL] at hq;obtain ⟨y,hy,rfl⟩:=List.mem_map.1 hq;obtain ⟨i,hi,rfl⟩:=List.getElem_of_mem hy;exact h1 i hi (by omega)
theorem gu {s:Rf}:jo s=true↔gN s∧fF s∧eL s.votes s.nodes=true∧j6 s∧fX s:=by
 constructor
 ·intro h;have F:=mQ h;have hl:=F.last;refine ⟨⟨F.n,F.i,F.ro,⟨F.vo,F.le⟩,F.te,F.el,F.ti,F.rn⟩,⟨F.lg,F.lt,F.co,F.sn,?_⟩,F.vs,?_,⟨F.pa,F.po,?_⟩⟩
  ·have:=F.sb;omega
  ·by_cases hr:s.role=2
   ·rw [dp hr];have hx:=F.nx;have hm:=F.ma;have hs:=F.se;rw [dP hr] at hx hm hs;have:=F.n;exact ⟨⟨by omega,by omega,by omega,F.rl⟩,⟨hx.2,hm.2,hs.2⟩,F.rd⟩
   ·rw [jT hr];obtain ⟨e1,e2,e3,e4⟩:=F.free hr;rw [e1,e2,e3,e4];rfl
  ·have:=F.pp;have:=F.po;omega
 ·rintro ⟨⟨n,i,ro,⟨vo,le⟩,te,el,ti,rn⟩,⟨lg,lt,co,sn,sb⟩,vs,ls,⟨pa,po,pp⟩⟩;have hbl:=gr lg
  have key:(s.next.length=fu s∧∀ x∈s.next,1≤x∧x≤aQ s+1)∧(s.mtch.length=fu s∧∀ x∈s.mtch,0≤x∧x≤aQ s)∧(s.sent.length=fu s∧∀ x∈s.sent,0≤x∧x≤(s.snap.size:Int))∧s.reads.length≤32∧(fu s≠0∨s.reads.length=0)∧∀ q∈s.reads,gD s q=true:=by
   by_cases hr:s.role=2
   ·rw [dp hr] at ls;obtain ⟨⟨l1,l2,l3,l4⟩,⟨g1,g2,g3⟩,g4⟩:=ls;rw [dP hr];exact ⟨⟨by omega,g1⟩,⟨by omega,g2⟩,⟨by omega,g3⟩,l4,.inl (by omega),g4⟩
   ·rw [jT hr] at ls;rw [l7 hr];have e1:s.next=[]:=List.eq_nil_of_length_eq_zero (by omega);have e2:s.mtch=[]:=List.eq_nil_of_length_eq_zero (by omega);have e3:s.sent=[]:=List.eq_nil_of_length_eq_zero (by omega);have e4:s.reads=[]:=List.eq_nil_of_length_eq_zero (by omega);rw [e1,e2,e3,e4];exact ⟨⟨rfl,fun x hx=>by cases hx⟩,⟨rfl,fun x hx=>by cases hx⟩,⟨rfl,fun x hx=>by cases hx⟩,by decide,.inr rfl,fun x hx=>by cases hx⟩
  obtain ⟨k1,k2,k3,k4,k5,k6⟩:=key;unfold jo dZ kF;simp only [Bool.and_eq_true,Bool.or_eq_true,decide_eq_true_eq,List.all_eq_true];exact ⟨⟨⟨⟨⟨⟨⟨⟨⟨⟨⟨⟨⟨⟨⟨⟨⟨⟨⟨⟨⟨⟨⟨⟨n.1,n.2⟩,eh i⟩,eh ro⟩,eh te⟩,eh vo⟩,eh le⟩,lg⟩,sn⟩,by omega⟩,eh el⟩,eh ti⟩,eh rn⟩,vs⟩,lt⟩,eh co⟩,pa⟩,eh po⟩,by omega⟩,k1⟩,k2⟩,k3⟩,k4⟩,k5⟩,k6⟩
theorem u7 (s:Rf) (a:Ra) (w:World) (hrd:jj w s a) (hl:s.votes.length≤1000000∧s.next.length≤1000000∧s.mtch.length≤1000000∧s.sent.length≤1000000∧s.reads.length≤1000000∧∀ q∈s.reads,q.acks.length≤1000000) :
 Rt prog 95 [.agg (rfV s a).toArray] w (fun v w'=>v=.int .i64 (if jo s=true then 0 else 1)∧ai w w'):=by
 refine enter (n:=29) Tryz.func95 rfl rfl rfl (ao (ag (cj (v:=.agg _) rfl ?_)));intro b1 w1 E1 hb1 hk1;refine asi rfl (aq (ah (ao (ao (ag (ab (aR (cs:=rfV s a) bR bf rfl ((hk1.from_ ai.rfl_).whole)) (aE o4 (lN s a _) ?_)))))));rintro v4 w2 ⟨rfl,E4⟩;refine ab (cE rfl) (mvb rfl (aM (t:=6) rfl (fun Q3=>?_) (fun Q3=>?_)))
 ·replace Q3:=et Q3;replace Q3:=dF_ Q3;have hNn:¬ gN s:=by first | exact Q3 | simpa using Q3
  refine dh rfl (aq (ah (aW rfl (ao (ag (asi rfl (aq (ah (aG (aH (bF (v:=.int _ _) rfl rfl (⟨aZ (by rw [if_neg (fun h=>by obtain ⟨g1,g2,g3,g4,g5⟩:=gu.1 h;first | exact hNn g1 | exact hLn g2 | exact hVn g3 | exact hSn g4 | exact hPn g5)]),((ai.rfl_.next E1).next E4)⟩))))))))))))
 replace Q3:=eu Q3;replace Q3:=dT_ Q3;have hN:gN s:=by first | exact Q3 | simpa using Q3
 refine aj rfl (ab (aR (cs:=rfV s a) bR bf rfl ((hk1.from_ (ai.rfl_.next E4)).whole)) (aj rfl (aE o3 (pc s a _ (hrd.e.from_ ((ai.rfl_.next E1).next E4))) ?_)));rintro v8 w4 ⟨rfl,E8⟩;refine aj rfl (ab (cE rfl) (ab (aB (v:=.bool _) rfl rfl) (mvb rfl (aM (t:=11) rfl (fun Q5=>?_) (fun Q5=>?_)))))
 ·replace Q5:=et Q5;replace Q5:=dF_ Q5;have hLn:¬ fF s:=by first | exact Q5 | simpa using Q5
  refine dh rfl (aq (ah (aW rfl (ao (ag (asi rfl (aq (ah (aG (aH (bF (v:=.int _ _) rfl rfl (⟨aZ (by rw [if_neg (fun h=>by obtain ⟨g1,g2,g3,g4,g5⟩:=gu.1 h;first | exact hNn g1 | exact hLn g2 | exact hVn g3 | exact hSn g4 | exact hPn g5)]),(((ai.rfl_.next E1).next E4).next E8)⟩))))))))))))
 replace Q5:=eu Q5;replace Q5:=dT_ Q5;have hL:fF s:=by first | exact Q5 | simpa using Q5
 refine aj rfl (ab (aa ed rfl) (aj rfl (ab (au bj rfl (by exact (show _=some (Value.slice a.V s.votes.length a.Vc) from (hk1.from_ ((ai.rfl_.next E4).next E8)).rd 14 rfl))) ?_)));refine aj rfl (ab (aa cN rfl) (aj rfl (ab (au ak rfl (by exact (hk1.from_ ((ai.rfl_.next E4).next E8)).rd 1 rfl)) ?_)));refine aj rfl (aE kL (nM a.V a.Vc s.votes s.nodes _ (hrd.v.1.from_ (((ai.rfl_.next E1).next E4).next E8)) hl.1) ?_);rintro v16 w6 ⟨rfl,E16⟩;refine aj rfl (ab (cE rfl) (ab (aB (v:=.bool _) rfl rfl) (mvb rfl (yk (t:=19) rfl (fun Q7=>?_) (fun Q7=>?_)))))
 ·have hVn:¬ eL s.votes s.nodes=true:=by first | exact Q7 | simpa using Q7
  refine dh rfl (aq (ah (aW rfl (ao (ag (asi rfl (aq (ah (aG (aH (bF (v:=.int _ _) rfl rfl (⟨aZ (by rw [if_neg (fun h=>by obtain ⟨g1,g2,g3,g4,g5⟩:=gu.1 h;first | exact hNn g1 | exact hLn g2 | exact hVn g3 | exact hSn g4 | exact hPn g5)]),((((ai.rfl_.next E1).next E4).next E8).next E16)⟩))))))))))))
 have hV:eL s.votes s.nodes=true:=by first | exact Q7 | simpa using Q7
 refine aj rfl (ab (aR (cs:=rfV s a) bR bf rfl ((hk1.from_ (((ai.rfl_.next E4).next E8).next E16)).whole)) (aj rfl (aE o0 (nq s a _ (hrd.from_ ((((ai.rfl_.next E1).next E4).next E8).next E16)) hN hL hl.2) ?_)));rintro v21 w8 ⟨rfl,E21⟩;refine aj rfl (ab (cE rfl) (ab (aB (v:=.bool _) rfl rfl) (mvb rfl (aM (t:=24) rfl (fun Q9=>?_) (fun Q9=>?_)))))
 ·replace Q9:=et Q9;replace Q9:=dF_ Q9;have hSn:¬ j6 s:=by first | exact Q9 | simpa using Q9
  refine dh rfl (aq (ah (aW rfl (ao (ag (asi rfl (aq (ah (aG (aH (bF (v:=.int _ _) rfl rfl (⟨aZ (by rw [if_neg (fun h=>by obtain ⟨g1,g2,g3,g4,g5⟩:=gu.1 h;first | exact hNn g1 | exact hLn g2 | exact hVn g3 | exact hSn g4 | exact hPn g5)]),(((((ai.rfl_.next E1).next E4).next E8).next E16).next E21)⟩))))))))))))
 replace Q9:=eu Q9;replace Q9:=dT_ Q9;have hS:j6 s:=by first | exact Q9 | simpa using Q9
 refine aj rfl (ab (aR (cs:=rfV s a) bR bf rfl ((hk1.from_ ((((ai.rfl_.next E4).next E8).next E16).next E21)).whole)) (aj rfl (aE oZ (ow s a _) ?_)));rintro v26 w10 ⟨rfl,E26⟩;refine aj rfl (ab (cE rfl) (ab (aB (v:=.bool _) rfl rfl) (aq (ah (aO rfl (fun Q11=>?_) (fun Q11=>?_))))))
 ·replace Q11:=et Q11;replace Q11:=dF_ Q11;have hPn:¬ fX s:=by first | exact Q11 | simpa using Q11
  refine ao (ag (asi rfl (aq (ah (aG (aH (bF (v:=.int _ _) rfl rfl (⟨aZ (by rw [if_neg (fun h=>by obtain ⟨g1,g2,g3,g4,g5⟩:=gu.1 h;first | exact hNn g1 | exact hLn g2 | exact hVn g3 | exact hSn g4 | exact hPn g5)]),((((((ai.rfl_.next E1).next E4).next E8).next E16).next E21).next E26)⟩))))))))
 replace Q11:=eu Q11;replace Q11:=dT_ Q11;have hP:fX s:=by first | exact Q11 | simpa using Q11
 refine aI (ah (ao (ag (asi rfl (aq (ah (aG (bF (v:=.int _ _) rfl rfl (⟨aZ (by rw [if_pos (gu.2 ⟨hN,hL,hV,hS,hP⟩)]),((((((ai.rfl_.next E1).next E4).next E8).next E16).next E21).next E26)⟩)))))))))
def w_ (l:List Int) (n lo hi:Int):Prop:=(l.length:Int)=n∧fh lo hi l
instance (l:List Int) (n lo hi:Int):Decidable (w_ l n lo hi):=by unfold w_;exact inferInstance
end Go.Proofs.YtkpooenofjdpmaaGreat
namespace Go.Proofs.YtkpooenofjdpmaaGreat
open Go.Proofs.Tryz (prog)
open Go.RowKit
open Go.ChangeShapes Go.WideShapes Go.ChangeAt
open Go.RowKit
theorem mC:∀ (l:List Int),fB l=true→l.Pairwise (·<·)
 |[],_=>List.Pairwise.nil
 |_::r,h=>List.Pairwise.cons (nN h) (mC r (lu h))
theorem pA:∀ (l:List Int),l.Pairwise (·<·)→fB l=true
 |[],_=>rfl
 |[_],_=>rfl
 |a::b::r,h=>by
  cases h with
  |cons h1 h2=>
   show (decide (a<b)&&fB (b::r))=true;rw [pA (b::r) h2,decide_eq_true (h1 b List.mem_cons_self)];rfl
theorem sU {l:List Int} {x y:Int} (h:y∈eB l x):y∈l∨y=x:=by
 unfold eB at h;split at h
 ·exact .inl h
 ·rcases List.mem_append.1 h with e | e
  ·exact .inl ((List.takeWhile_sublist _).mem e)
  ·rcases List.mem_cons.1 e with e | e
   ·exact .inr e
   ·exact .inl ((List.dropWhile_sublist _).mem e)
theorem mV:∀ {l:List Int} {x:Int},l.Pairwise (·<·)→∀ y∈l.dropWhile (fun y=>decide (y<x)),x≤y
 |[],_,_,y,hy=>by cases hy
 |a::r,x,h,y,hy=>by
  cases h with
  |cons h1 h2=>
   by_cases hax:a<x
   ·rw [List.dropWhile_cons,if_pos (by simpa using hax)] at hy;exact mV h2 y hy
   ·rw [List.dropWhile_cons,if_neg (by simpa using hax)] at hy;rcases List.mem_cons.1 hy with e | e
    ·omega
    ·have:=h1 y e;omega
theorem pj:∀ {l:List Int} {x:Int},∀ y∈l.takeWhile (fun y=>decide (y<x)),y<x
 |[],_,y,hy=>by cases hy
 |a::r,x,y,hy=>by
  by_cases hax:a<x
  ·rw [List.takeWhile_cons,if_pos (by simpa using hax)] at hy;rcases List.mem_cons.1 hy with e | e
   ·omega
   ·exact pj y e
  ·rw [List.takeWhile_cons,if_neg (by simpa using hax)] at hy;cases hy
theorem tL {l:List Int} {x:Int} (h:l.Pairwise (·<·)):(eB l x).Pairwise (·<·):=by
 unfold eB;split
 ·exact h
 ·rename_i hx;have hx':x ∉ l:=by simpa using hx
  rw [List.pairwise_append];refine ⟨h.sublist (List.takeWhile_sublist _),List.Pairwise.cons (fun y hy=>?_) (h.sublist (List.dropWhile_sublist _)),fun y hy z hz=>?_⟩
  ·have h1:=mV h y hy;have h2:y≠x:=fun e=>hx' (e ▸ (List.dropWhile_sublist _).mem hy)
   omega
  ·have h1:=pj y hy;rcases List.mem_cons.1 hz with e | e
   ·omega
   ·have:=mV h z e;omega
theorem tM {l:List Int} {n x:Int} (h:eL l n=true) (hx:1≤x∧x≤n):eL (eB l x) n=true:=by
 have h1:=ju h;unfold eL;rw [pA _ (tL (mC _ h1.2)),Bool.and_true,List.all_eq_true];intro y hy
 have h2:1≤y∧y≤n:=by
  rcases sU hy with e | e
  ·exact h1.1 y e
  ·rw [e];exact hx
 simp only [Bool.and_eq_true,decide_eq_true_eq];exact h2
theorem td {l:List Int} {n:Int} (h:eL l n=true) (hn:n≤7):l.length≤7:=by
 have h1:=ju h;have h2:=iO l 0 n h1.2 fun x hx=>⟨by have:=(h1.1 x hx).1;omega,(h1.1 x hx).2⟩
 omega
theorem ye {s:Rf} {q:Rd} (h:gD s q=true) {x rn:Int} (hx:1≤x∧x≤s.nodes):gD s (if q.rn≤rn then { q with acks:=eB q.acks x } else q)=true:=by
 split
 ·unfold gD at h ⊢;simp only [Bool.and_eq_true] at h ⊢;exact ⟨h.1,tM h.2 hx⟩
 ·exact h
theorem wM {s:Rf} (h:RfF s) {x rn:Int} (hx:1≤x∧x≤s.nodes):∀ q∈(jd s x rn).reads,gD s q=true:=fun q hq=>by
 obtain ⟨y,hy,rfl⟩:=List.mem_map.1 hq;exact ye (h.rd y hy) hx
theorem sN {s:Rf} {x rn:Int}:(jd s x rn).reads.length=s.reads.length:=List.length_map _
theorem RfF.ack {s:Rf} (h:RfF s) {x rn:Int} (hx:1≤x∧x≤s.nodes):RfF (jd s x rn):=
 { h with rl:=(by rw [sN];exact h.rl),r0:=h.r0.imp id (fun e=>by rw [sN];exact e),rd:=wM h hx }
theorem RfF.sentPut {s:Rf} (h:RfF s) {k v:Int} (hv:0≤v∧v≤(s.snap.size:Int)):RfF { s with sent:=ck s.sent k v }:=
 { h with se:=⟨(by rw [eg];exact h.se.1),fun x hx=>(kz hx).elim (fun e=>h.se.2 x e) (fun e=>e ▸ hv)⟩ }
theorem RfF.nextPut {s:Rf} (h:RfF s) {k v:Int} (hv:1≤v∧v≤aQ s+1):RfF { s with next:=ck s.next k v }:=
 { h with nx:=⟨(by rw [eg];exact h.nx.1),fun x hx=>(kz hx).elim (fun e=>h.nx.2 x e) (fun e=>e ▸ hv)⟩ }
theorem RfF.matchPut {s:Rf} (h:RfF s) {k v:Int} (hv:0≤v∧v≤aQ s):RfF { s with mtch:=ck s.mtch k v }:=
 { h with ma:=⟨(by rw [eg];exact h.ma.1),fun x hx=>(kz hx).elim (fun e=>h.ma.2 x e) (fun e=>e ▸ hv)⟩ }
theorem RfF.hear {s:Rf} (h:RfF s) {v:Int} (hv:0≤v∧v≤s.nodes):RfF { s with leader:=v,elapsed:=0 }:={ h with le:=hv,el:=⟨Int.le_refl _,z40⟩ }
def zm (es es':List Ent) (c:Nat):Prop:=c≤es'.length∧∀ i (h:i<es.length) (h':i<es'.length),i<c→es'[i].t=es[i].t
end Go.Proofs.YtkpooenofjdpmaaGreat
namespace Go.Proofs.YtkpooenofjdpmaaGreat
open Go.Proofs.Tryz (prog)
open Go.RowKit
open Go.ChangeShapes Go.WideShapes Go.ChangeAt
theorem qI:prog.underlying 26=some (.slice 3):=by kernel_rfl
theorem lK:gA prog 27=some (54,4,48,(.agg #[.int .i64 0,.int .i64 0,.int .i64 0,.slice none 0 0])):=by kernel_rfl
theorem qH:prog.underlying 27=some (.slice 54):=by kernel_rfl
theorem qL:iJ prog 91=some true:=by kernel_rfl
theorem jJ:dr prog 91=some 22:=by kernel_rfl
theorem lL:jq prog 91=some (.agg #[.int .i64 0,.int .i64 0,.int .i64 0,.int .i64 0,.int .i64 0,.int .i64 0,.int .i64 0,.int .i64 0,.slice none 0 0,.string ⟨#[]⟩,.int .i64 0,.int .i64 0,.int .i64 0,.int .u64 0,.slice none 0 0,.slice none 0 0,.slice none 0 0,.slice none 0 0,.int .i64 0,.slice none 0 0,.string ⟨#[]⟩,.int .i64 0]):=by kernel_rfl
theorem qG:dr prog 22=some 1:=by kernel_rfl
theorem fS:aN prog 136=true:=by kernel_rfl
theorem o5:aN prog 137=true:=by kernel_rfl
theorem nB:∀ (a0:Int) (a1:Int) (a2:Int) (a3:Int) (a4:Int) (a5:Int) (a6:Int) (a7:Int) (a8:Option Addr) (a9 a10:Nat) (a11:ByteArray) (a12:Int) (a13:Int) (a14:Int) (a15:Int) (a16:Option Addr) (a17 a18:Nat) (a19:Option Addr) (a20 a21:Nat) (a22:Option Addr) (a23 a24:Nat) (a25:Option Addr) (a26 a27:Nat) (a28:Int) (a29:Option Addr) (a30 a31:Nat) (a32:ByteArray) (a33:Int),prog.built 91 [(0,.agg #[.int .i64 a0,.int .i64 a1,.int .i64 a2,.int .i64 a3,.int .i64 a4,.int .i64 a5,.int .i64 a6,.int .i64 a7,.slice a8 a9 a10,.string a11,.int .i64 a12,.int .i64 a13,.int .i64 a14,.int .u64 a15,.slice a16 a17 a18,.slice a19 a20 a21,.slice a22 a23 a24,.slice a25 a26 a27,.int .i64 a28,.slice a29 a30 a31,.string a32,.int .i64 a33])]=some #[.int .i64 a0,.int .i64 a1,.int .i64 a2,.int .i64 a3,.int .i64 a4,.int .i64 a5,.int .i64 a6,.int .i64 a7,.slice a8 a9 a10,.string a11,.int .i64 a12,.int .i64 a13,.int .i64 a14,.int .u64 a15,.slice a16 a17 a18,.slice a19 a20 a21,.slice a22 a23 a24,.slice a25 a26 a27,.int .i64 a28,.slice a29 a30 a31,.string a32,.int .i64 a33]:=by intros;kernel_rfl
theorem qK:aN prog 95=true:=by kernel_rfl
theorem qJ:aN prog 96=true:=by kernel_rfl
theorem nA:∀ (a0:Int) (a1:Int) (a2:Int) (a3:Int) (a4:Int) (a5:Int) (a6:Int) (a7:Int) (a8:Option Addr) (a9 a10:Nat) (a11:ByteArray) (a12:Int) (a13:Int) (a14:Int) (a15:Int) (a16:Option Addr) (a17 a18:Nat) (a19:Option Addr) (a20 a21:Nat) (a22:Option Addr) (a23 a24:Nat) (a25:Option Addr) (a26 a27:Nat) (a28:Int) (a29:Option Addr) (a30 a31:Nat) (a32:ByteArray) (a33:Int),prog.built 96 [(0,.agg #[.int .i64 a0,.int .i64 a1,.int .i64 a2,.int .i64 a3,.int .i64 a4,.int .i64 a5,.int .i64 a6,.int .i64 a7,.slice a8 a9 a10,.string a11,.int .i64 a12,.int .i64 a13,.int .i64 a14,.int .u64 a15,.slice a16 a17 a18,.slice a19 a20 a21,.slice a22 a23 a24,.slice a25 a26 a27,.int .i64 a28,.slice a29 a30 a31,.string a32,.int .i64 a33])]=some #[.int .i64 a0,.int .i64 a1,.int .i64 a2,.int .i64 a3,.int .i64 a4,.int .i64 a5,.int .i64 a6,.int .i64 a7,.slice a8 a9 a10,.string a11,.int .i64 a12,.int .i64 a13,.int .i64 a14,.int .u64 a15,.slice a16 a17 a18,.slice a19 a20 a21,.slice a22 a23 a24,.slice a25 a26 a27,.int .i64 a28,.slice a29 a30 a31,.string a32,.int .i64 a33,.slice none 0 0]:=by intros;kernel_rfl
theorem dM (A:Option Addr) (c n:Nat) (xs:List Value) (w:World) (hx:xs.length=n*1) (hr:0<n→∃ b o,A=some ⟨b,o,none⟩∧w.rangeAt b o xs) (hn0:A=none→n=0∧c=0) (h1:∀ u∈xs,u.oneCell'=true) (hl:n≤100000000000) :
 Rt prog 136 [.slice A n c] w (fun v w'=>(∃ A' c',v=.slice A' n c'∧w'.ownsRow w.heap.size 3 1 (.slice A' n c') n xs)∧ai w w'):=by
 refine enter (n:=8) Tryz.func136 rfl rfl rfl (ao (ag (ass rfl (aq (ah (ao (ao (ag (mvs rfl (ab (mB qI rfl rfl) (aq (ah (aO rfl (fun Q1=>?_) (fun Q1=>?_))))))))))))))
 ·(try first | (replace Q1 := et Q1; trace "@MK N dM:c4+ 1.1") | (replace Q1 := eu Q1; trace "@MK N dM:c4+ 1.2"))
  (try first | (replace Q1 := iU Q1; trace "@MK N dM:c4+ 2.1") | (replace Q1 := iW Q1; trace "@MK N dM:c4+ 2.2") | (replace Q1 := d_ Q1; trace "@MK N dM:c4+ 2.3") | (replace Q1 := ea Q1; trace "@MK N dM:c4+ 2.4") | (replace Q1 := dT_ Q1; trace "@MK N dM:c4+ 2.5") | (replace Q1 := dF_ Q1; trace "@MK N dM:c4+ 2.6"))
  obtain rfl:A=none:=Option.isNone_iff_eq_none.1 Q1;obtain ⟨rfl,rfl⟩:=hn0 rfl;obtain rfl:xs=[]:=List.eq_nil_of_length_eq_zero (by omega);refine ao (ag (ass rfl (aq (ah (aG (aH (bF (v:=.slice _ _ _) rfl rfl (⟨⟨none,0,rfl,World.ownsRow_nil _ _ _ _⟩,ai.rfl_⟩))))))))
 (try first | (replace Q1 := et Q1; trace "@MK N dM:c4- 1.1") | (replace Q1 := eu Q1; trace "@MK N dM:c4- 1.2"))
 (try first | (replace Q1 := iU Q1; trace "@MK N dM:c4- 2.1") | (replace Q1 := iW Q1; trace "@MK N dM:c4- 2.2") | (replace Q1 := d_ Q1; trace "@MK N dM:c4- 2.3") | (replace Q1 := ea Q1; trace "@MK N dM:c4- 2.4") | (replace Q1 := dT_ Q1; trace "@MK N dM:c4- 2.5") | (replace Q1 := dF_ Q1; trace "@MK N dM:c4- 2.6"))
 have hA4:A=none→c=0:=fun h=>by rw [h] at Q1;cases Q1
 refine aI (ah (ao (ag (so aS _ (ai.rfl_.size) ?_))));intro b5 w2 E5 hb5 ho5;refine mvs rfl ?_;refine kQ (a0:=w) aS rfl (by decide) rfl ho5 (ai.rfl_.next E5) rfl hx (fun h=>(let ⟨b,o,hA,hc⟩:=hr h;⟨b,o,hA,fL (ai.rfl_.next E5) hc⟩)) hA4 h1 (by omega) (by omega) ?_;intro A7 c7 w3 ho7 B7 hg7;refine ass rfl (aq (ah (aG (bF (v:=.slice _ _ _) rfl rfl (⟨⟨A7,c7,by rw [Nat.zero_add],by simpa using ho7⟩,B7⟩)))))
theorem dL (A:Option Addr) (c n:Nat) (xs:List Value) (w:World) (hx:xs.length=n*4) (hr:0<n→∃ b o,A=some ⟨b,o,none⟩∧w.rangeAt b o xs) (hn0:A=none→n=0∧c=0) (h1:∀ u∈xs,u.oneCell'=true) (hl:n≤100000000000) :
 Rt prog 137 [.slice A n c] w (fun v w'=>(∃ A' c',v=.slice A' n c'∧w'.ownsRow w.heap.size 54 4 (.slice A' n c') n xs)∧ai w w'):=by
 refine enter (n:=8) Tryz.func137 rfl rfl rfl (ao (ag (ass rfl (aq (ah (ao (ao (ag (mvs rfl (ab (mB qH rfl rfl) (aq (ah (aO rfl (fun Q1=>?_) (fun Q1=>?_))))))))))))))
 ·(try first | (replace Q1 := et Q1; trace "@MK N dL:c4+ 1.1") | (replace Q1 := eu Q1; trace "@MK N dL:c4+ 1.2"))
  (try first | (replace Q1 := iU Q1; trace "@MK N dL:c4+ 2.1") | (replace Q1 := iW Q1; trace "@MK N dL:c4+ 2.2") | (replace Q1 := d_ Q1; trace "@MK N dL:c4+ 2.3") | (replace Q1 := ea Q1; trace "@MK N dL:c4+ 2.4") | (replace Q1 := dT_ Q1; trace "@MK N dL:c4+ 2.5") | (replace Q1 := dF_ Q1; trace "@MK N dL:c4+ 2.6"))
  obtain rfl:A=none:=Option.isNone_iff_eq_none.1 Q1;obtain ⟨rfl,rfl⟩:=hn0 rfl;obtain rfl:xs=[]:=List.eq_nil_of_length_eq_zero (by omega);refine ao (ag (ass rfl (aq (ah (aG (aH (bF (v:=.slice _ _ _) rfl rfl (⟨⟨none,0,rfl,World.ownsRow_nil _ _ _ _⟩,ai.rfl_⟩))))))))
 (try first | (replace Q1 := et Q1; trace "@MK N dL:c4- 1.1") | (replace Q1 := eu Q1; trace "@MK N dL:c4- 1.2"))
 (try first | (replace Q1 := iU Q1; trace "@MK N dL:c4- 2.1") | (replace Q1 := iW Q1; trace "@MK N dL:c4- 2.2") | (replace Q1 := d_ Q1; trace "@MK N dL:c4- 2.3") | (replace Q1 := ea Q1; trace "@MK N dL:c4- 2.4") | (replace Q1 := dT_ Q1; trace "@MK N dL:c4- 2.5") | (replace Q1 := dF_ Q1; trace "@MK N dL:c4- 2.6"))
 have hA4:A=none→c=0:=fun h=>by rw [h] at Q1;cases Q1
 refine aI (ah (ao (ag (so lK _ (ai.rfl_.size) ?_))));intro b5 w2 E5 hb5 ho5;refine mvs rfl ?_;refine kQ (a0:=w) lK rfl (by decide) rfl ho5 (ai.rfl_.next E5) rfl hx (fun h=>(let ⟨b,o,hA,hc⟩:=hr h;⟨b,o,hA,fL (ai.rfl_.next E5) hc⟩)) hA4 h1 (by omega) (by omega) ?_;intro A7 c7 w3 ho7 B7 hg7;refine ass rfl (aq (ah (aG (bF (v:=.slice _ _ _) rfl rfl (⟨⟨A7,c7,by rw [Nat.zero_add],by simpa using ho7⟩,B7⟩)))))
theorem iS (A:Option Addr) (c:Nat) (l:List Int) (w:World) (h:IR w A c l) (hl:l.length≤1000000):Rt prog 136 [.slice A l.length c] w fun v w'=>(∃ A' c',v=.slice A' l.length c'∧w'.ownsRow w.heap.size 3 1 (.slice A' l.length c') l.length (l.map iV))∧ai w w':=
 dM A c l.length (l.map iV) w (by simp) (fun h0=>by
  obtain ⟨b,o,hA,hc⟩:=h.1 h0;refine ⟨b,o,hA,fun j v hv=>?_⟩;rw [List.getElem?_map] at hv;cases hj:l[j]? with
  |none=>rw [hj] at hv;cases hv
  |some x=>
   obtain ⟨hjl,rfl⟩:=List.getElem?_eq_some_iff.1 hj;rw [hj] at hv;cases hv;exact hc j hjl) h.2.2.2 (fun u hu=>by obtain ⟨x,_,rfl⟩:=List.mem_map.1 hu;rfl) (by omega)
theorem tw (A:Option Addr) (c:Nat) (L:List (Rd×Option Addr×Nat)) (w:World) (h:jU 4 rdV w A L) (hn:A=none→L.length=0∧c=0) (hl:L.length≤1000000):Rt prog 137 [.slice A L.length c] w fun v w'=>(∃ A' c',v=.slice A' L.length c'∧w'.ownsRow w.heap.size 54 4 (.slice A' L.length c') L.length (L.flatMap rdV))∧ai w w':=
 dL A c L.length (L.flatMap rdV) w (kD iB L) (fun h0=>jU.flat iB h h0) hn (vV L) (by omega)
def k7 (N O:List (Rd×Option Addr×Nat)):List (Rd×Option Addr×Nat):=N++O.drop N.length
def zS (s:Rf):Rf:={ s with es:=[],votes:=[],next:=[],mtch:=[],sent:=[],reads:=[] }
theorem gW {w w':World} {tag:Nat→Nat} {g d base e s n cc:Nat} {A:Option Addr} {xs:List Value} (hC:Chg (fun k=>k=g) w w') (hg:tag g=8) (hd:d≠8) (h:w.ownsRow base e s (.slice A n cc) n xs∧Col tag d A):w'.ownsRow base e s (.slice A n cc) n xs∧Col tag d A:=
 ⟨eK h.1 hC (fun k hk e=>hd ((h.2 k hk).symm.trans (by rw [show k=g from e];exact hg))),h.2⟩
theorem cJ.chg8 {w w':World} {y g:Nat} {tag:Nat→Nat} {s:Rf} {a:Ra} (h:cJ y w tag s a) (hC:Chg (fun k=>k=g) w w') (hg:tag g=8):cJ y w' tag s a:=
 ⟨fun hx=>gW hC hg (by decide) (h.e hx),fun hx=>gW hC hg (by decide) (h.v hx),fun hx=>gW hC hg (by decide) (h.x hx),fun hx=>gW hC hg (by decide) (h.m hx),fun hx=>gW hC hg (by decide) (h.n hx),h.r,fun hx=>gW hC hg (by decide) (h.q hx),fun i hi hx=>gW hC hg (by omega) (h.k i hi hx)⟩
theorem n3:∀ (N O:List (Rd×Option Addr×Nat)) (x:Rd×Option Addr×Nat) (A:Option Addr) (c:Nat),((N++x::O).flatMap rdV).set (N.length*4+3) (.slice A x.1.acks.length c)=((N++(x.1,A,c)::O).flatMap rdV)
 |[],O,x,A,c=>rfl
 |y::N,O,x,A,c=>by
  have ih:=n3 N O x A c;show (rdV y++(N++x::O).flatMap rdV).set ((N.length+1)*4+3) _=rdV y++(N++(x.1,A,c)::O).flatMap rdV;rw [List.set_append_right _ _ (by rw [iB];omega),iB,show (N.length+1)*4+3-4=N.length*4+3 by omega,ih]
theorem wh {N O:List (Rd×Option Addr×Nat)} (h:N.length<O.length):k7 N O=N++O[N.length]::O.drop (N.length+1):=by
 unfold k7;rw [List.drop_eq_getElem_cons h]
theorem uG {N O:List (Rd×Option Addr×Nat)} (h:N.length<O.length) (A:Option Addr) (c:Nat):((k7 N O).flatMap rdV).set (N.length*4+3) (.slice A O[N.length].1.acks.length c)=(k7 (N++[(O[N.length].1,A,c)]) O).flatMap rdV:=by
 rw [wh h,n3];unfold k7;rw [List.length_append,List.length_singleton,List.append_assoc];rfl
theorem uH {N O:List (Rd×Option Addr×Nat)} (h:N.length=O.length):k7 N O=N:=by unfold k7;rw [h,List.drop_length,List.append_nil]
theorem mO {N O:List (Rd×Option Addr×Nat)} (h:N.length≤O.length):(k7 N O).length=O.length:=by unfold k7;rw [List.length_append,List.length_drop];omega
theorem tr (s:Rf) (a:Ra) (w:World) (hrd:jj w s a) (hl:s.votes.length≤1000000∧s.next.length≤1000000∧s.mtch.length≤1000000∧s.sent.length≤1000000∧s.reads.length≤1000000∧∀ q∈s.reads,q.acks.length≤1000000) (hel:s.es.length≤1000000) :
 Rt prog 96 [.agg (rfV s a).toArray] w (fun v w'=>(∃ tag a',v=.agg (rfV s a').toArray∧aY w' tag s a'∧∀ k,k<w.heap.size→tag k=8)∧ai w w'):=by
 obtain ⟨E,Ec,V,Vc,X,Xc,M,Mc,Sn,Sc,Q,Qc,LL⟩:=a;obtain ⟨hl1,hl2,hl3,hl4,hl5,hl6⟩:=hl;have hrL:LL.map (fun q=>q.1)=s.reads:=hrd.r;have hrk:∀ q∈LL,IR w q.2.1 q.2.2 q.1.acks:=hrd.k;have hrq:jU 4 rdV w Q LL:=hrd.q;have hqn:Q=none→LL.length=0∧Qc=0:=hrd.qc.2.2;have hLl:LL.length=s.reads.length:=by rw [←hrL,List.length_map]
 have hqm:LL.length≤1000000:=by omega
 refine enter (n:=51) Tryz.func96 rfl rfl rfl (ao (ag (cj (v:=.agg _) rfl ?_)));intro b1 w1 E1 hb1 hk1;refine dq lL ?_;intro b2 w2 E2 hb2 hk2;have hg1:w.heap.size≤b1:=Nat.le_of_eq hb1.symm;have h12:b1<b2:=by have:=hk1.lt;omega
 have hg2:w.heap.size≤b2:=by omega
 have hk2z:Blk w2 b2 91 ((.agg #[.int .i64 0,.int .i64 0,.int .i64 0,.int .i64 0,.int .i64 0,.int .i64 0,.int .i64 0,.int .i64 0,.slice none 0 0,.string ⟨#[]⟩,.int .i64 0,.int .i64 0,.int .i64 0,.int .u64 0,.slice none 0 0,.slice none 0 0,.slice none 0 0,.slice none 0 0,.int .i64 0,.slice none 0 0,.string ⟨#[]⟩,.int .i64 0]):Value).cells:=hk2;have ht0:∀ k,k≤b2→(fun _:Nat=>8) k=8:=fun _ _=>rfl
 refine aq (ah (ao (ag (ab (aa bd rfl) (ab (aa cV rfl) (ab (au cD rfl (by exact (show _=some (Value.slice E s.es.length Ec) from (hk1.from_ (ai.rfl_.next E2)).rd 8 rfl))) ?_))))));have hN7:ai _ w2:=(ai.rfl_.next E2);have hk2c:=hk2z.from_ (ai.rfl_ (a:=w2));have hlt7:=hk2c.lt;have hf0:aY w2 (fun _=>8) ({ s with es:=[],votes:=[],next:=[],mtch:=[],sent:=[],reads:=[] }:Rf) a0:=aY.same aY.zero rfl rfl rfl rfl rfl rfl;refine aE jl (p1 E s.es.length Ec s.es _ (hrd.e.from_ ((ai.rfl_.next E1).next E2)) (by omega)) ?_;rintro v7 w3 ⟨A7,c7,rfl,ho7,E7⟩;obtain ⟨tag1,hf1,ht1⟩:∃ t,aY w3 t ({ s with es:=s.es,votes:=[],next:=[],mtch:=[],sent:=[],reads:=[] }:Rf) (⟨A7,c7,none,0,none,0,none,0,none,0,none,0,[]⟩:Ra)∧(∀ k,k≤b2→t k=8):=⟨_,cJ.log (aY.but (c:=0) hf0 (ai.toChg E7)) s.b s.t rfl (fE ho7 (Nat.zero_le _)) (fun k hk=>ef (fO ho7 k hk).1),fun k hk=>(cy (by omega)).trans (ht0 k hk)⟩;refine ab (aa bd rfl) (ab (aa cV rfl) ?_);have hS1:ai _ w3:=ai.rfl_;refine cY (s':=s) (a':=(⟨A7,c7,V,Vc,X,Xc,M,Mc,Sn,Sc,Q,Qc,LL⟩:Ra)) (v:=.slice _ _ _) qG rfl rfl rfl ((hk1.from_ ((hN7.next E7).next ai.rfl_))) (by exact ⟨by decide,rfl⟩) ?_;intro w4 O1_0 P1_0;replace hf1:=(hf1.from_ hS1).chg8 (O1_0.toChg rfl) (ht1 b1 (by omega));replace hk2z:=(hk2c.from_ (E7.next hS1)).only O1_0 (by omega);refine aq (ah (ao (ag (ab (aa ed rfl) (ab (au bj rfl (by exact (show _=some (Value.slice V s.votes.length Vc) from (P1_0.from_ ai.rfl_).rd 14 rfl))) ?_)))));have hN12:ai _ w4:=ai.rfl_;have hk2c:=hk2z.from_ ai.rfl_;have hlt12:=hk2c.lt;have hf1n:=hf1.from_ ai.rfl_;refine aE fS (iS V Vc s.votes _ (IR.from_ hrd.v ((((ai.rfl_.next E1).next E2).next E7).only O1_0 (hg1))) hl1) ?_;rintro v12 w5 ⟨⟨A12,c12,rfl,ho12⟩,E12⟩;obtain ⟨tag2,hf2,ht2⟩:∃ t,aY w5 t ({ s with es:=s.es,votes:=s.votes,next:=[],mtch:=[],sent:=[],reads:=[] }:Rf) (⟨A7,c7,A12,c12,none,0,none,0,none,0,none,0,[]⟩:Ra)∧(∀ k,k≤b2→t k=8):=⟨_,cJ.votes (aY.but (c:=1) hf1n (ai.toChg E12)) rfl (fE ho12 (Nat.zero_le _)) (fun k hk=>ef (fO ho12 k hk).1),fun k hk=>(cy (by omega)).trans (ht1 k hk)⟩;refine ab (aa ed rfl) ?_;have hS2:ai _ w5:=ai.rfl_;refine cY (s':=s) (a':=(⟨A7,c7,A12,c12,X,Xc,M,Mc,Sn,Sc,Q,Qc,LL⟩:Ra)) (v:=.slice _ _ _) dm rfl rfl rfl ((P1_0.from_ ((hN12.next E12).next ai.rfl_))) (by exact ⟨by decide,rfl⟩) ?_;intro w6 O2_0 P2_0;replace hf2:=(hf2.from_ hS2).chg8 (O2_0.toChg rfl) (ht2 b1 (by omega));replace hk2z:=(hk2c.from_ (E12.next hS2)).only O2_0 (by omega);refine aq (ah (ao (ag (ab (aa ch rfl) (ab (au bj rfl (by exact (show _=some (Value.slice X s.next.length Xc) from (P2_0.from_ ai.rfl_).rd 15 rfl))) ?_)))));have hN16:ai _ w6:=ai.rfl_;have hk2c:=hk2z.from_ ai.rfl_;have hlt16:=hk2c.lt;have hf2n:=hf2.from_ ai.rfl_;refine aE fS (iS X Xc s.next _ (IR.from_ hrd.x ((((((ai.rfl_.next E1).next E2).next E7).only O1_0 (hg1)).next E12).only O2_0 (hg1))) hl2) ?_;rintro v16 w7 ⟨⟨A16,c16,rfl,ho16⟩,E16⟩;obtain ⟨tag3,hf3,ht3⟩:∃ t,aY w7 t ({ s with es:=s.es,votes:=s.votes,next:=s.next,mtch:=[],sent:=[],reads:=[] }:Rf) (⟨A7,c7,A12,c12,A16,c16,none,0,none,0,none,0,[]⟩:Ra)∧(∀ k,k≤b2→t k=8):=⟨_,cJ.next (aY.but (c:=2) hf2n (ai.toChg E16)) rfl (fE ho16 (Nat.zero_le _)) (fun k hk=>ef (fO ho16 k hk).1),fun k hk=>(cy (by omega)).trans (ht2 k hk)⟩;refine ab (aa ch rfl) ?_;have hS3:ai _ w7:=ai.rfl_;refine cY (s':=s) (a':=(⟨A7,c7,A12,c12,A16,c16,M,Mc,Sn,Sc,Q,Qc,LL⟩:Ra)) (v:=.slice _ _ _) dm rfl rfl rfl ((P2_0.from_ ((hN16.next E16).next ai.rfl_))) (by exact ⟨by decide,rfl⟩) ?_;intro w8 O3_0 P3_0;replace hf3:=(hf3.from_ hS3).chg8 (O3_0.toChg rfl) (ht3 b1 (by omega));replace hk2z:=(hk2c.from_ (E16.next hS3)).only O3_0 (by omega);refine aq (ah (ao (ag (ab (aa cM rfl) (ab (au bj rfl (by exact (show _=some (Value.slice M s.mtch.length Mc) from (P3_0.from_ ai.rfl_).rd 16 rfl))) ?_)))));have hN20:ai _ w8:=ai.rfl_;have hk2c:=hk2z.from_ ai.rfl_;have hlt20:=hk2c.lt;have hf3n:=hf3.from_ ai.rfl_;refine aE fS (iS M Mc s.mtch _ (IR.from_ hrd.m ((((((((ai.rfl_.next E1).next E2).next E7).only O1_0 (hg1)).next E12).only O2_0 (hg1)).next E16).only O3_0 (hg1))) hl3) ?_;rintro v20 w9 ⟨⟨A20,c20,rfl,ho20⟩,E20⟩;obtain ⟨tag4,hf4,ht4⟩:∃ t,aY w9 t ({ s with es:=s.es,votes:=s.votes,next:=s.next,mtch:=s.mtch,sent:=[],reads:=[] }:Rf) (⟨A7,c7,A12,c12,A16,c16,A20,c20,none,0,none,0,[]⟩:Ra)∧(∀ k,k≤b2→t k=8):=⟨_,cJ.mtch (aY.but (c:=3) hf3n (ai.toChg E20)) rfl (fE ho20 (Nat.zero_le _)) (fun k hk=>ef (fO ho20 k hk).1),fun k hk=>(cy (by omega)).trans (ht3 k hk)⟩;refine ab (aa cM rfl) ?_;have hS4:ai _ w9:=ai.rfl_;refine cY (s':=s) (a':=(⟨A7,c7,A12,c12,A16,c16,A20,c20,Sn,Sc,Q,Qc,LL⟩:Ra)) (v:=.slice _ _ _) dm rfl rfl rfl ((P3_0.from_ ((hN20.next E20).next ai.rfl_))) (by exact ⟨by decide,rfl⟩) ?_;intro w10 O4_0 P4_0;replace hf4:=(hf4.from_ hS4).chg8 (O4_0.toChg rfl) (ht4 b1 (by omega));replace hk2z:=(hk2c.from_ (E20.next hS4)).only O4_0 (by omega);refine aq (ah (ao (ag (ab (aa dc rfl) (ab (au bj rfl (by exact (show _=some (Value.slice Sn s.sent.length Sc) from (P4_0.from_ ai.rfl_).rd 17 rfl))) ?_)))));have hN24:ai _ w10:=ai.rfl_;have hk2c:=hk2z.from_ ai.rfl_;have hlt24:=hk2c.lt;have hf4n:=hf4.from_ ai.rfl_;refine aE fS (iS Sn Sc s.sent _ (IR.from_ hrd.n ((((((((((ai.rfl_.next E1).next E2).next E7).only O1_0 (hg1)).next E12).only O2_0 (hg1)).next E16).only O3_0 (hg1)).next E20).only O4_0 (hg1))) hl4) ?_;rintro v24 w11 ⟨⟨A24,c24,rfl,ho24⟩,E24⟩;obtain ⟨tag5,hf5,ht5⟩:∃ t,aY w11 t ({ s with es:=s.es,votes:=s.votes,next:=s.next,mtch:=s.mtch,sent:=s.sent,reads:=[] }:Rf) (⟨A7,c7,A12,c12,A16,c16,A20,c20,A24,c24,none,0,[]⟩:Ra)∧(∀ k,k≤b2→t k=8):=⟨_,cJ.sent (aY.but (c:=4) hf4n (ai.toChg E24)) rfl (fE ho24 (Nat.zero_le _)) (fun k hk=>ef (fO ho24 k hk).1),fun k hk=>(cy (by omega)).trans (ht4 k hk)⟩;refine ab (aa dc rfl) ?_;have hS5:ai _ w11:=ai.rfl_;refine cY (s':=s) (a':=(⟨A7,c7,A12,c12,A16,c16,A20,c20,A24,c24,Q,Qc,LL⟩:Ra)) (v:=.slice _ _ _) dm rfl rfl rfl ((P4_0.from_ ((hN24.next E24).next ai.rfl_))) (by exact ⟨by decide,rfl⟩) ?_;intro w12 O5_0 P5_0;replace hf5:=(hf5.from_ hS5).chg8 (O5_0.toChg rfl) (ht5 b1 (by omega));replace hk2z:=(hk2c.from_ (E24.next hS5)).only O5_0 (by omega);refine aq (ah (ao (ag (ab (aa cG rfl) (ab (au dH rfl (by exact (show _=some (Value.slice Q LL.length Qc) from (P5_0.from_ ai.rfl_).rd 19 rfl))) ?_)))));have hN28:ai _ w12:=ai.rfl_;have hk2c:=hk2z.from_ ai.rfl_;have hlt28:=hk2c.lt;have hf5n:=hf5.from_ ai.rfl_;refine aE o5 (tw Q Qc LL _ (hrq.from_ ((((((((((((ai.rfl_.next E1).next E2).next E7).only O1_0 (hg1)).next E12).only O2_0 (hg1)).next E16).only O3_0 (hg1)).next E20).only O4_0 (hg1)).next E24).only O5_0 (hg1))) hqn hqm) ?_;rintro v28 w13 ⟨⟨A28,c28,rfl,ho28⟩,E28⟩;obtain ⟨tag6,hg6,ht6,hc6⟩:∃ t,cJ 5 w13 t ({ s with es:=s.es,votes:=s.votes,next:=s.next,mtch:=s.mtch,sent:=s.sent,reads:=[] }:Rf) (⟨A7,c7,A12,c12,A16,c16,A20,c20,A24,c24,none,0,[]⟩:Ra)∧(∀ k,k≤b2→t k=8)∧Col t 5 A28:=⟨_,aY.but (c:=5) hf5n (ai.toChg E28),fun k hk=>(cy (by omega)).trans (ht5 k hk),fun k hk=>ef (fO ho28 k hk).1⟩;refine ab (aa cG rfl) ?_;have hS6:ai _ w13:=ai.rfl_;refine cY (s':=s) (a':=(⟨A7,c7,A12,c12,A16,c16,A20,c20,A24,c24,A28,c28,LL⟩:Ra)) (v:=.slice _ _ _) kh rfl rfl rfl ((P5_0.from_ ((hN28.next E28).next ai.rfl_))) (by exact ⟨by decide,rfl⟩) ?_;intro w14 O6_0 P6_0;replace hg6:=(hg6.from_ hS6).chg8 (O6_0.toChg rfl) (ht6 b1 (by omega));have hr6:=fY (fE (base':=0) (ho28.kept_from hS6) (Nat.zero_le _)) O6_0 (fun k hk e=>by have:=hc6 k hk;rw [e,ht6 b1 (by omega)] at this;cases this);replace hk2z:=(hk2c.from_ (E28.next hS6)).only O6_0 (by omega);refine aq (ah (ao (ao (ag (ab (aa cG rfl) (ab (au dH rfl (by exact (show _=some (Value.slice A28 LL.length c28) from (P6_0.from_ ai.rfl_).rd 19 rfl))) ?_))))));refine ab (b0 fk rfl) (mvi rfl (aq (ah (bk (dC (G:=List (Rd×Option Addr×Nat)×(Nat→Nat)) [3,34,35,36,37,38,39,40,41,42,43,44,45,46,47,48] (fun (N,tg)=>[(33,.int .i64 (N.length:Nat))]) (fun (N,tg) w'=>N.length≤LL.length∧(∀ i (h:i<N.length) (h2:i<LL.length),N[i].1=LL[i].1)∧cJ 5 w' tg ({ s with es:=s.es,votes:=s.votes,next:=s.next,mtch:=s.mtch,sent:=s.sent,reads:=[] }:Rf) (⟨A7,c7,A12,c12,A16,c16,A20,c20,A24,c24,none,0,N⟩:Ra)∧(∀ k,k≤b2→tg k=8)∧Col tg 5 A28∧w'.ownsRow 0 54 4 (.slice A28 LL.length c28) LL.length ((k7 N LL).flatMap rdV)∧Blk w' b1 29 (rfV s (⟨A7,c7,A12,c12,A16,c16,A20,c20,A24,c24,A28,c28,LL⟩:Ra)).toArray∧Blk w' b2 91 ((.agg #[.int .i64 0,.int .i64 0,.int .i64 0,.int .i64 0,.int .i64 0,.int .i64 0,.int .i64 0,.int .i64 0,.slice none 0 0,.string ⟨#[]⟩,.int .i64 0,.int .i64 0,.int .i64 0,.int .u64 0,.slice none 0 0,.slice none 0 0,.slice none 0 0,.slice none 0 0,.int .i64 0,.slice none 0 0,.string ⟨#[]⟩,.int .i64 0]):Value).cells∧ai w w') (fun (N,_)=>LL.length-N.length) (([],tag6)) ⟨rfl,trivial⟩ ?_ ?_)))))
 ·exact ⟨Nat.zero_le _,fun i h=>absurd h (Nat.not_lt_zero _),hg6.from_ ai.rfl_,ht6,hc6,hr6.kept_from ai.rfl_,P6_0.from_ ai.rfl_,hk2z.from_ ai.rfl_,((((((((((((((ai.rfl_.next E1).next E2).next E7).only O1_0 (hg1)).next E12).only O2_0 (hg1)).next E16).only O3_0 (hg1)).next E20).only O4_0 (hg1)).next E24).only O5_0 (hg1)).next E28).only O6_0 (hg1))⟩
 rintro ⟨N,tg⟩ ρ15 w15 ⟨hNl,hNe,hgN,htN,hcN,hrN,hbN,hk2N,hBN⟩;refine ao (ag (ab (cA rfl rfl) (aq (ah (ao (yS rfl (fun Q16=>?_) (fun Q16=>?_)))))))
 ·have hNL:N.length<LL.length:=by omega
  have hqk:LL[N.length].1∈s.reads:=by rw [←hrL];exact List.mem_map_of_mem (List.getElem_mem hNL)
  obtain ⟨g28,rfl⟩:=du hrN (by omega);obtain ⟨z9,hz9⟩:∃ z,z=(w15).heap.size:=⟨_,rfl⟩
  have hc44:(w15).cell? ⟨g28,0+N.length*4+3,none⟩=some (.slice LL[N.length].2.1 LL[N.length].1.acks.length LL[N.length].2.2):=by
   obtain ⟨b9,o9,he9,hcs⟩:=(jU.own iB (by decide) hrN).2 (by rw [mO hNl];omega);cases he9;have h9:=hcs N.length (by rw [mO hNl];omega)
   have hm9:(k7 N LL)[N.length]'(by rw [mO hNl];omega)=LL[N.length]:=by
    unfold k7;rw [List.getElem_append_right (Nat.le_refl _)];simp
   rw [hm9] at h9;exact h9 3 _ rfl
  have htg28:tg g28=5:=hcN g28 rfl
  have hg28:b2<g28:=by
   rcases Nat.lt_or_ge b2 g28 with e | e
   ·exact e
   ·have:=htN g28 e;omega
  refine aI (ah (ao (bk (ao (ag (mvi rfl (asi rfl (aq (ah ?_)))))))));apply br 12 [(36,eqp _),(37,eqp (.slice (some ⟨g28,0,none⟩) LL.length c28)),(38,eqp _),(39,eqp _),(40,eqp (.slice (some ⟨g28,0,none⟩) LL.length c28)),(41,eqp _),(42,eqp _),(43,eqp _),(44,eqp (.slice LL[N.length].2.1 LL[N.length].1.acks.length LL[N.length].2.2)),(45,fun v w'=>∃ A' c',v=.slice A' LL[N.length].1.acks.length c'∧w'.ownsRow z9 3 1 (.slice A' LL[N.length].1.acks.length c') LL[N.length].1.acks.length (LL[N.length].1.acks.map iV)),(46,eqp _),(47,eqp _)] (by repeat first | exact bN | refine bM ?_ | refine bB ?_) (by kernel_rfl) (by kernel_rfl) ⟨ae _,ae _,ae _,ae _,ae _,ae _,ae _,ae _,ae _,(fun _ _ _ hF ⟨a,b,h1,h2⟩=>⟨a,b,h1,h2.kept_from hF⟩),ae _,ae _,trivial⟩
  case hop=>
   constructor
   ·rintro-w18 D18;exact an (aa cG rfl) rfl
   constructor
   ·rintro-w19 D19;rintro _ rfl;exact an (au dH rfl (by exact (show _=some (Value.slice (some ⟨g28,0,none⟩) LL.length c28) from (hbN.from_ (ai.rfl_.next D19)).rd 19 rfl))) rfl
   constructor
   ·rintro-w20 D20;exact an (aC (v:=.int _ _) rfl) rfl
   constructor
   ·rintro-w21 D21;exact an (aa cG rfl) rfl
   constructor
   ·rintro-w22 D22;rintro _ rfl;exact an (au dH rfl (by exact (show _=some (Value.slice (some ⟨g28,0,none⟩) LL.length c28) from (hbN.from_ (ai.rfl_.next D22)).rd 19 rfl))) rfl
   constructor
   ·rintro-w23 D23;exact an (aC (v:=.int _ _) rfl) rfl
   constructor
   ·rintro-w24 D24;rintro v24_40 rfl _ rfl;exact an (cq fI rfl rfl (by omega)) rfl
   constructor
   ·rintro-w25 D25;rintro _ rfl;exact an (aa eX rfl) rfl
   constructor
   ·rintro-w26 D26;rintro _ rfl;exact an (au bj rfl (by exact eH (ai.rfl_.next D26) hc44)) rfl
   constructor
   ·rintro-w27 D27;rintro v27_44 rfl;refine iC fS ((iS LL[N.length].2.1 LL[N.length].2.2 LL[N.length].1.acks _ ((hrk _ (List.getElem_mem hNL)).from_ (hBN.next D27)) (hl6 _ hqk)).mono ?_);rintro v w9 ⟨⟨a,b,rfl,ho⟩,hF9⟩;exact ⟨hF9,a,b,rfl,fE ho (by rw [hz9];exact ((ai.rfl_.next D27)).size)⟩
   constructor
   ·rintro-w28 D28;rintro v28_37 rfl _ rfl;exact an (cq fI rfl rfl (by omega)) rfl
   constructor
   ·rintro-w29 D29;rintro _ rfl;exact an (aa eX rfl) rfl
   exact trivial
  case hend=>
   intro w30 D30;rintro _ rfl v37 rfl _ rfl _ rfl v40 rfl _ rfl _ rfl _ rfl v44 rfl v45 ⟨A45,c45,rfl,ho45⟩ _ rfl _ rfl;show St ..;have hM10:ai _ w30:=(ai.rfl_.next D30);refine mq (o:=N.length*4+3) dm (by show Value.pointer (some ⟨g28,0+N.length*4+3,none⟩)=_;rw [Nat.zero_add]) rfl rfl (hrN.kept_from (ai.rfl_.next D30)) (by omega) ?_;intro w31 O10 P10;have hlt9:=hrN.lt g28 rfl;obtain ⟨tg2,hg2n,ht2n,hc2n⟩:∃ t,cJ 5 w31 t ({ s with es:=s.es,votes:=s.votes,next:=s.next,mtch:=s.mtch,sent:=s.sent,reads:=[] }:Rf) (⟨A7,c7,A12,c12,A16,c16,A20,c20,A24,c24,none,0,(N++[(LL[N.length].1,A45,c45)])⟩:Ra)∧(∀ k,k≤b2→t k=8)∧Col t 5 (some ⟨g28,0,none⟩):=⟨_,cJ.five (cJ.ack (q:=LL[N.length].1) (A:=A45) (c:=c45) hgN hM10 (by rw [←hz9];exact ho45)) O10 ((cy hlt9.2).trans htg28),fun k hk=>(cy (by omega)).trans (htN k hk),fun k hk=>by cases hk;exact (cy hlt9.2).trans htg28⟩
   have hr2n:(w31).ownsRow 0 54 4 (.slice (some ⟨g28,0,none⟩) LL.length c28) LL.length ((k7 (N++[(LL[N.length].1,A45,c45)]) LL).flatMap rdV):=by
    rw [←uG hNL];exact P10
   have hb2n:=(hbN.from_ hM10).only O10 (by omega);have hk2n:=(hk2N.from_ hM10).only O10 (by omega);refine aq (bI (ah (ag (ab (cl rfl rfl (by omega)) (mvi rfl (aq ?_))))));refine cu (((N++[(LL[N.length].1,A45,c45)]),tg2)) ⟨aZ (by rw [List.length_append,List.length_singleton];omega),trivial⟩ (by (iterate 34 refine bC rfl ?_);exact bP) ⟨?_,?_⟩
   ·refine ⟨by rw [List.length_append,List.length_singleton];omega,fun i h h2=>?_,hg2n.from_ ai.rfl_,ht2n,hc2n,hr2n.kept_from ai.rfl_,hb2n.from_ ai.rfl_,hk2n.from_ ai.rfl_,((hBN.next D30).only O10 (by omega))⟩;rcases Nat.lt_or_ge i N.length with e | e
    ·rw [List.getElem_append_left e];exact hNe i e h2
    ·obtain rfl:i=N.length:=by rw [List.length_append,List.length_singleton] at h;omega
     simp only [List.getElem_append_right (Nat.le_refl _),Nat.sub_self,List.getElem_singleton]
   ·show LL.length-(N++[_]).length<LL.length-N.length;rw [List.length_append,List.length_singleton];omega
 refine cL (bw (bw (cr (ah (ao (ag (ab (aR (cs:=rfV s (⟨A7,c7,A12,c12,A16,c16,A20,c20,A24,c24,A28,c28,LL⟩:Ra)) bR bf rfl ((hbN.from_ ai.rfl_).whole)) (ab (dt (l:=[(0,.tmp 49)]) (nB _ _ _ _ _ _ _ _ _ _ _ _ _ _ _ _ _ _ _ _ _ _ _ _ _ _ _ _ _ _ _ _ _ _)) ?_))))))));have hM12:ai _ w15:=ai.rfl_;refine cZ (vs:=[_,_,_,_,_,_,_,_,_,_,_,_,_,_,_,_,_,_,_,_,_,_]) jJ rfl rfl (by simp [Value.oneCell']) ((hk2N.from_ ai.rfl_)) rfl ?_;intro w32 O12 P12;refine aq (ah (aG (sw rfl (eP (cs:=[_,_,_,_,_,_,_,_,_,_,_,_,_,_,_,_,_,_,_,_,_,_]) qL jJ rfl (by exact P12.whole)) ?_)));have hNf:N.length=LL.length:=by omega
 have e9:N.map (fun q=>q.1)=s.reads:=by
  rw [←hrL];refine List.ext_getElem (by simp [hNf]) fun i h1 h2=>?_
  simp only [List.getElem_map];exact hNe i (by simpa using h1) (by simpa using h2)
 have hfin:=cJ.reads hgN (A:=A28) (c:=c28) (n:=LL.length) hNf.symm (by rw [uH hNf] at hrN;exact hrN) hcN;rw [show ((⟨A7,c7,A12,c12,A16,c16,A20,c20,A24,c24,none,0,N⟩:Ra)).L=N from rfl,e9] at hfin;exact ⟨⟨tg,(⟨A7,c7,A12,c12,A16,c16,A20,c20,A24,c24,A28,c28,N⟩:Ra),(by show Value.agg (rfV s (⟨A7,c7,A12,c12,A16,c16,A20,c20,A24,c24,A28,c28,LL⟩:Ra)).toArray=Value.agg (rfV s (⟨A7,c7,A12,c12,A16,c16,A20,c20,A24,c24,A28,c28,N⟩:Ra)).toArray;unfold rfV;simp only [hNf]),cJ.chg8 (cJ.from_ hfin hM12) (O12.toChg rfl) (htN b2 (Nat.le_refl _)),fun k hk=>htN k (by omega)⟩,(hBN.only O12 (hg2))⟩
theorem tV {w w1 w':World} {g T:Nat} {tag:Nat→Nat} {s:Rf} {a:Ra} (hF:ai w w1) (hf:aY w1 tag s a) (ht:∀ k,k<w.heap.size→tag k=8) (hE:ai w1 w') (hg:g=w1.heap.size) (hb:Blk w' g T (rfV s a++[Value.slice none 0 0]).toArray):aF w (fun k=>k<w.heap.size) w' T g ⟨s,[]⟩:=by
 subst hg;have hz:=hF.size;refine ⟨⟨dO w1.heap.size 7 tag,a,none,0,[],⟨hb,(hf.re 7).from_ hE,⟨World.ownsRow_nil _ _ _ _,rfl,fun j hj=>absurd hj (Nat.not_lt_zero _),Col.none⟩,ef (Nat.le_refl _),fun k hk=>(cy (Nat.lt_of_lt_of_le hk hz)).trans (ht k hk)⟩⟩,fun k hk=>hk,(hF.next hE).toChg⟩
theorem p6 (s:Rf) (a:Ra) (w:World) (hrd:jj w s a) (hl:s.votes.length≤1000000∧s.next.length≤1000000∧s.mtch.length≤1000000∧s.sent.length≤1000000∧s.reads.length≤1000000∧∀ q∈s.reads,q.acks.length≤1000000) (hel:s.es.length≤1000000) (hm:jo s=true) :
 Rt prog 55 [.agg (rfV s a).toArray] w (fun v w'=>(∃ g,v=.tuple #[.pointer (some ⟨g,0,none⟩),.int .i64 0]∧aF w (fun k=>k<w.heap.size) w' 96 g ⟨s,[]⟩)):=by
 refine enter (n:=11) Tryz.func55 rfl rfl rfl (ao (ag (cj (v:=.agg _) rfl ?_)));intro b1 w1 E1 hb1 hk1;refine asp rfl (asi rfl (aq (ah (ao (ao (ag (ab (aR (cs:=rfV s a) bR bf rfl ((hk1.from_ ai.rfl_).whole)) (aE qK (u7 s a _ (hrd.from_ (ai.rfl_.next E1)) hl) ?_))))))));rintro v5 w2 ⟨rfl,E5⟩;refine ab (bL (cz rfl rfl) (by rw [hm];rfl)) ?_;refine aq (ah (aU rfl (aI (ah (ao (ag (ab (aR (cs:=rfV s a) bR bf rfl ((hk1.from_ (ai.rfl_.next E5)).whole)) ?_)))))));have hz8:=(((ai.rfl_.next E1).next E5)).size;refine aE qJ (tr s a _ (hrd.from_ ((ai.rfl_.next E1).next E5)) hl hel) ?_;rintro v8 w3 ⟨⟨tag,a',rfl,hf8,ht8⟩,E8⟩;have hB8:ai w w3:=(((ai.rfl_.next E1).next E5).next E8);refine ab (dt (l:=[(0,.tmp 8)]) (nA _ _ _ _ _ _ _ _ _ _ _ _ _ _ _ _ _ _ _ _ _ _ _ _ _ _ _ _ _ _ _ _ _ _)) (cj (v:=.agg _) rfl ?_);intro b10 w4 E10 hb10 hk10;have hb10e:=hb10;have hb10:Blk w4 b10 96 (rfV s a'++[Value.slice none 0 0]).toArray:=hk10;refine asp rfl (asi rfl (aq (ah (aG (lO (v:=.pointer _) (v':=.int _ _) rfl rfl rfl (⟨b10,rfl,tV hB8 hf8 (fun k hk=>ht8 k (Nat.lt_of_lt_of_le hk hz8)) E10 hb10e hb10⟩))))))
theorem gh:jq prog 29=some (.agg #[.int .i64 0,.int .i64 0,.int .i64 0,.int .i64 0,.int .i64 0,.int .i64 0,.int .i64 0,.int .i64 0,.slice none 0 0,.string ⟨#[]⟩,.int .i64 0,.int .i64 0,.int .i64 0,.int .u64 0,.slice none 0 0,.slice none 0 0,.slice none 0 0,.slice none 0 0,.int .i64 0,.slice none 0 0,.string ⟨#[]⟩,.int .i64 0]):=by kernel_rfl
theorem nf:prog.built 29 []=some #[.int .i64 0,.int .i64 0,.int .i64 0,.int .i64 0,.int .i64 0,.int .i64 0,.int .i64 0,.int .i64 0,.slice none 0 0,.string ⟨#[]⟩,.int .i64 0,.int .i64 0,.int .i64 0,.int .u64 0,.slice none 0 0,.slice none 0 0,.slice none 0 0,.slice none 0 0,.int .i64 0,.slice none 0 0,.string ⟨#[]⟩,.int .i64 0]:=by kernel_rfl
theorem lj:∀ (a0:Int) (a1:Int) (a2:Int),prog.built 29 [(0,.int .i64 a0),(1,.int .i64 a1),(11,.int .u64 a2)]=some #[.int .i64 a0,.int .i64 a1,.int .i64 0,.int .i64 0,.int .i64 0,.int .i64 0,.int .i64 0,.int .i64 0,.slice none 0 0,.string ⟨#[]⟩,.int .i64 0,.int .i64 0,.int .i64 0,.int .u64 a2,.slice none 0 0,.slice none 0 0,.slice none 0 0,.slice none 0 0,.int .i64 0,.slice none 0 0,.string ⟨#[]⟩,.int .i64 0]:=by intros;kernel_rfl
theorem qk:∀ (a0:Int) (a1:Int) (a2:Int) (a3:Int) (a4:Int) (a5:Int) (a6:Int) (a7:Int) (a8:Option Addr) (a9 a10:Nat) (a11:ByteArray) (a12:Int) (a13:Int) (a14:Int) (a15:Int) (a16:Option Addr) (a17 a18:Nat) (a19:Option Addr) (a20 a21:Nat) (a22:Option Addr) (a23 a24:Nat) (a25:Option Addr) (a26 a27:Nat) (a28:Int) (a29:Option Addr) (a30 a31:Nat) (a32:ByteArray) (a33:Int),prog.built 91 [(0,.agg #[.int .i64 a0,.int .i64 a1,.int .i64 a2,.int .i64 a3,.int .i64 a4,.int .i64 a5,.int .i64 a6,.int .i64 a7,.slice a8 a9 a10,.string a11,.int .i64 a12,.int .i64 a13,.int .i64 a14,.int .u64 a15,.slice a16 a17 a18,.slice a19 a20 a21,.slice a22 a23 a24,.slice a25 a26 a27,.int .i64 a28,.slice a29 a30 a31,.string a32,.int .i64 a33])]=some #[.int .i64 a0,.int .i64 a1,.int .i64 a2,.int .i64 a3,.int .i64 a4,.int .i64 a5,.int .i64 a6,.int .i64 a7,.slice a8 a9 a10,.string a11,.int .i64 a12,.int .i64 a13,.int .i64 a14,.int .u64 a15,.slice a16 a17 a18,.slice a19 a20 a21,.slice a22 a23 a24,.slice a25 a26 a27,.int .i64 a28,.slice a29 a30 a31,.string a32,.int .i64 a33]:=by intros;kernel_rfl
theorem od:aN prog 55=true:=by kernel_rfl
theorem tD:aN prog 56=true:=by kernel_rfl
theorem sq {P:Program} {n:Fr} {L:List (Nat×Value)} {w:World} {t:TypeId} {x y:Operand} {g:Nat} {u:TypeId} {cs:Array Value} {vs:List Value} (ht:dr P t=some vs.length) (hx:ev n L x=.pointer (some ⟨g,0,none⟩)) (hy:ev n L y=.agg vs.toArray) (h1:∀ v∈vs,v.oneCell'=true) (hb:Blk w g u cs) (hi:vs.length=cs.size) :
 ∃ w',RS P (ev n L) (.store t x y) w w'∧dw g w w'∧Blk w' g u vs.toArray:=by
 have hb':Blk w g u cs.toList.toArray:=by simpa using hb
 refine ⟨_,kS ht hx hy h1 (hb'.there 0 vs.length (by simp;omega)),dw.sets vs 0 w,?_⟩;have:=Blk.sets vs 0 hb' (by simp;omega)
 rwa [pF cs.toList vs (by simp;omega)] at this
theorem kP {w w':World} {T g:Nat} {p:Sp} (h:aF w (fun k=>k<w.heap.size) w' T g p):ai w w':=
 ⟨h.fr.os,h.fr.tape,h.fr.output,h.fr.size,fun k hk=>h.fr.block k hk fun e=>e hk⟩
def wN (w w':World) (p:Sp) (v:Value):Prop:=∃ tag a O oc L,v=.tuple #[.agg (rfV p.s a).toArray,.slice O L.length oc,.int .i64 0]∧aY w' tag p.s a∧fz w' tag p.out O oc L∧∀ k,k<w.heap.size→tag k=8
theorem wN.mk_ {w w1 w':World} {T g oc:Nat} {tag:Nat→Nat} {p:Sp} {a:Ra} {O:Option Addr} {L:List Msg} {Z:Nat→Prop} (hs:eN w1 Z T g tag p a O oc L) (hz:∀ k,k<w.heap.size→Z k) (hC:Chg (fun k=>Z k) w1 w'):wN w w' p (.tuple #[.agg (rfV p.s a).toArray,.slice O L.length oc,.int .i64 0]):=by
 have ne:∀ {d:Nat} {A:Option Addr},d≠8→Col tag d A→∀ k,A.map (·.block)=some k→¬ Z k:=fun hd hc k hk e=>hd ((hc k hk).symm.trans (hs.z k e))
 have mv:∀ {d e s n cc:Nat} {A:Option Addr} {xs:List Value},d≠8→w1.ownsRow 0 e s (.slice A n cc) n xs∧Col tag d A→w'.ownsRow 0 e s (.slice A n cc) n xs∧Col tag d A:=fun hd h=>⟨eK h.1 hC (ne hd h.2),h.2⟩
 refine ⟨tag,a,O,oc,L,rfl,⟨fun hx=>mv (by decide) (hs.f.e hx),fun hx=>mv (by decide) (hs.f.v hx),fun hx=>mv (by decide) (hs.f.x hx),fun hx=>mv (by decide) (hs.f.m hx),fun hx=>mv (by decide) (hs.f.n hx),hs.f.r,fun hx=>mv (by decide) (hs.f.q hx),fun i hi hx=>mv (by omega) (hs.f.k i hi hx)⟩,⟨(mv (d:=6) (by decide) ⟨hs.m.o,hs.m.c⟩).1,hs.m.l,fun j hj=>mv (by omega) (hs.m.e j hj),hs.m.c⟩,fun k hk=>hs.z k (hz k hk)⟩
def kM (id n:Int):Prop:=(1≤n∧n≤7)∧(1≤id∧id≤n)
instance (id n:Int):Decidable (kM id n):=by unfold kM;exact inferInstance
theorem sB (id n seed:Int) (w:World) :
 Rt prog 21 [.int .i64 id,.int .i64 n,.int .u64 seed] w (fun v w'=>((kM id n∧v=.tuple #[.agg (rfV (pH id n seed) a0).toArray,.int .i64 0])∨(¬ kM id n∧v=.tuple #[.agg (rfV zR a0).toArray,.int .i64 1]))∧ai w w'):=by
 refine enter (n:=29) Tryz.func21 rfl rfl rfl (ao (ag (dq gh ?_)));intro b6 w1 E6 hb6 hk6;have hg6:w.heap.size≤b6:=Nat.le_of_eq hb6.symm;refine asi rfl (aq (ah (ao (ao (ag (mvi rfl (ej (v:=.int _ _) aS rfl rfl rfl ?_)))))));intro b10 w2 E10 hb10 hk10;refine aE cX (dW 1 7 (some ⟨b10,0,none⟩) 1 [n] _ (eC hk10) (by simp)) ?_;rintro v11 w3 ⟨rfl,rfl⟩;refine ab (cE rfl) (mvb rfl (aM (t:=13) rfl (fun Q4=>?_) (fun Q4=>?_)))
 ·with_reducible (replace Q4:=et Q4;replace Q4:=dF_ Q4)
  (try simp only [aL,aP,and_true] at Q4)
  refine ar rfl rfl (ar rfl rfl (ar rfl rfl (ar rfl rfl (ar rfl rfl (ab (aJ (v:=.bool _) rfl rfl) (aq (ah (aW rfl (ao (ag ?_))))))))));refine ab (dt (l:=[]) (nf)) (cZ (vs:=[_,_,_,_,_,_,_,_,_,_,_,_,_,_,_,_,_,_,_,_,_,_]) bf rfl rfl (by simp [Value.oneCell']) ((hk6.from_ (ai.rfl_.next E10))) rfl ?_);intro w5 O2 P2;refine asi rfl (aq (ah (aG (aH (nO rfl (eP (cs:=[_,_,_,_,_,_,_,_,_,_,_,_,_,_,_,_,_,_,_,_,_,_]) bR bf rfl (by first | exact P5.whole | exact P2.whole)) (iI (v:=.int _ _) rfl) ?_)))));exact ⟨.inr ⟨by unfold kM;omega,rfl⟩,(((ai.rfl_.next E6).next E10).only O2 (hg6))⟩
 with_reducible (replace Q4:=eu Q4;replace Q4:=dT_ Q4)
 (try simp only [aL,aP,and_true] at Q4)
 refine aj rfl (mvi rfl (aj rfl (mvi rfl (aj rfl (ej (v:=.int _ _) aS rfl rfl rfl ?_)))));intro b16 w6 E16 hb16 hk16;refine aj rfl (aE cX (dW 1 n (some ⟨b16,0,none⟩) 1 [id] _ (eC hk16) (by simp)) ?_);rintro v17 w7 ⟨rfl,rfl⟩;refine aj rfl (ab (cE rfl) (ab (aB (v:=.bool _) rfl rfl) (aq (ah (aO rfl (fun Q8=>?_) (fun Q8=>?_))))))
 ·with_reducible (replace Q8:=et Q8;replace Q8:=dF_ Q8)
  (try simp only [aL,aP,and_true] at Q8)
  refine ao (ag (ab (dt (l:=[]) (nf)) (cZ (vs:=[_,_,_,_,_,_,_,_,_,_,_,_,_,_,_,_,_,_,_,_,_,_]) bf rfl rfl (by simp [Value.oneCell']) ((hk6.from_ ((ai.rfl_.next E10).next E16))) rfl ?_)));intro w9 O2 P2;refine asi rfl (aq (ah (aG (aH (nO rfl (eP (cs:=[_,_,_,_,_,_,_,_,_,_,_,_,_,_,_,_,_,_,_,_,_,_]) bR bf rfl (by first | exact P5.whole | exact P2.whole)) (iI (v:=.int _ _) rfl) ?_)))));exact ⟨.inr ⟨by unfold kM;omega,rfl⟩,((((ai.rfl_.next E6).next E10).next E16).only O2 (hg6))⟩
 with_reducible (replace Q8:=eu Q8;replace Q8:=dT_ Q8)
 (try simp only [aL,aP,and_true] at Q8)
 refine aI (ah (ao (ag (mvi rfl (mvi rfl (mvi rfl (ab (dt (l:=[(0,.tmp 21),(1,.tmp 22),(11,.tmp 23)]) (lj _ _ _)) (ab (dt (l:=[(0,.tmp 24)]) (qk _ _ _ _ _ _ _ _ _ _ _ _ _ _ _ _ _ _ _ _ _ _ _ _ _ _ _ _ _ _ _ _ _ _)) ?_))))))));have hM8:ai _ w6:=((ai.rfl_.next E10).next E16);have hz8:=((((ai.rfl_.next E6).next E10).next E16)).size;refine dq lL ?_;intro b8 w10 E8 hb8 hk8;have hg8:w.heap.size≤b8:=by omega
 have hk6b:=hk6.from_ (hM8.next E8);have h68:b6≠b8:=by have:=(hk6.from_ hM8).lt;omega
 refine cZ (vs:=[_,_,_,_,_,_,_,_,_,_,_,_,_,_,_,_,_,_,_,_,_,_]) jJ rfl rfl (by simp [Value.oneCell']) (hk8) rfl ?_;intro w11 O3 P3;have hb8:Blk w11 b8 91 (rfV ({ zR with id:=id,nodes:=n,seed:=seed }:Rf) a0++[]).toArray:=P3;have hk6c:=hk6b.only O3 h68;refine aq (ah (ao (ag ?_)));have hB8:ai w w11:=(((((ai.rfl_.next E6).next E10).next E16).next E8).only O3 (hg8));refine aE jI (oP 91 b8 { zR with id:=id,nodes:=n,seed:=seed } a0 [] _ hb8) ?_;rintro v26 w12 ⟨rfl,hb26,hC26⟩;have hk6d:=hk6c.chg hC26 h68;refine aq (ah (ao (ag (ab (aa aw rfl) (ab (aR (cs:=rfV (pH id n seed) a0) bR bf rfl (rr (hb26.from_ ai.rfl_))) (cZ (vs:=[_,_,_,_,_,_,_,_,_,_,_,_,_,_,_,_,_,_,_,_,_,_]) bf rfl rfl (by simp [Value.oneCell']) ((hk6d.from_ ai.rfl_)) rfl ?_))))));intro w13 O5 P5;refine asi rfl (aq (ah (aG (nO rfl (eP (cs:=[_,_,_,_,_,_,_,_,_,_,_,_,_,_,_,_,_,_,_,_,_,_]) bR bf rfl (by first | exact P5.whole | exact P2.whole)) (iI (v:=.int _ _) rfl) ?_))));exact ⟨.inl ⟨by unfold kM;omega,rfl⟩,((hB8.chg hC26 (fun k hk=>by rw [show k=b8 from hk];exact hg8)).only O5 (hg6))⟩
theorem pe (s:Rf) (a:Ra) (w:World) (hrd:jj w s a) (hl:s.votes.length≤1000000∧s.next.length≤1000000∧s.mtch.length≤1000000∧s.sent.length≤1000000∧s.reads.length≤1000000∧∀ q∈s.reads,q.acks.length≤1000000) (hel:s.es.length≤1000000) (hm:jo s=true) :
 Rt prog 23 [.agg (rfV s a).toArray] w (fun v w'=>wN w w' (fJ s) v∧ai w w'):=by
 refine enter (n:=27) Tryz.func23 rfl rfl rfl (ao (ag (cj (v:=.agg _) rfl ?_)));intro b1 w1 E1 hb1 hk1;refine dq gh ?_;intro b2 w2 E2 hb2 hk2;have hg2:w.heap.size≤b2:=by rw [hb2];exact ((ai.rfl_.next E1)).size
 refine ass rfl (asi rfl (aq (ah (ao (ag (ab (aR (cs:=rfV s a) bR bf rfl (((hk1.from_ E2).from_ ai.rfl_).whole)) ?_))))));have hB9:ai w w2:=((ai.rfl_.next E1).next E2);have hk2b:=hk2.from_ ai.rfl_;have hlt2:=hk2b.lt;refine aE od (p6 s a _ (hrd.from_ ((ai.rfl_.next E1).next E2)) hl hel hm) ?_;rintro v9 w3 ⟨g,rfl,h9⟩;refine mvt rfl (ab (aK rfl rfl) (ab (aK rfl rfl) (asp rfl (asi rfl (aq (ah (ao (ao (ag (mvi rfl (ab (bL (cz rfl rfl) rfl) (aq (ah ?_)))))))))))));refine aU rfl (aI (ah (ao (ag (mvp rfl (aE tD (vz _ _ 96 g s _ (h9.from_ ai.rfl_) (mQ hm)) ?_))))));rintro v17 w4 ⟨rfl,h17⟩;obtain ⟨tag9,a9,O9,oc9,L9,hs9⟩:=h17.ex;have hF17:=kP h17;have hk2c:=hk2b.from_ hF17;have hz9:=hB9.size;have hBq:ai w w4:=(hB9.next (kP h17));have hn2:b2≠g:=fun e=>by have h1:=hs9.z b2 hlt2;rw [e,hs9.gc] at h1;cases h1
 replace hn2:=hn2.symm;refine aq (ah (ao ?_));have hU5:kg [(0,18,.pointer (some ⟨g,0,none⟩)),(1,19,.pointer (some ⟨g,0,none⟩)),(2,20,.pointer (some ⟨g,0+0,none⟩)),(3,21,.pointer (some ⟨g,0+0+0,none⟩)),(4,22,.agg (rfV (fJ s).s a9).toArray),(5,23,.pointer (some ⟨g,0,none⟩)),(6,24,.pointer (some ⟨g,0,none⟩)),(7,25,.pointer (some ⟨g,0+22,none⟩)),(8,26,.slice O9 L9.length oc9),(10,3,.slice O9 L9.length oc9),(11,4,.int .i64 0)]:=by simp [kg]
 refine l_ [(0,18,.pointer (some ⟨g,0,none⟩)),(1,19,.pointer (some ⟨g,0,none⟩)),(2,20,.pointer (some ⟨g,0+0,none⟩)),(3,21,.pointer (some ⟨g,0+0+0,none⟩)),(4,22,.agg (rfV (fJ s).s a9).toArray),(5,23,.pointer (some ⟨g,0,none⟩)),(6,24,.pointer (some ⟨g,0,none⟩)),(7,25,.pointer (some ⟨g,0+22,none⟩)),(8,26,.slice O9 L9.length oc9),(10,3,.slice O9 L9.length oc9),(11,4,.int .i64 0)] (fun S w'=>Blk w' g 96 ((rfV (fJ s).s a9)++[Value.slice O9 L9.length oc9]).toArray∧(∃ cs:Array Value,cs.size=22∧Blk w' b2 29 cs∧(S 9=true→cs=(rfV (fJ s).s a9).toArray))∧Chg (fun k=>k=b2) w4 w') (by kernel_rfl) (by kernel_rfl) hU5 (by simp) (⟨(hs9.b.from_ ai.rfl_).from_ ai.rfl_.d1,⟨_,rfl,(hk2c.from_ ai.rfl_).from_ ai.rfl_.d1,fun h=>(by cases h)⟩,ai.rfl_.d1.toChg⟩) ?_ ?_
 ·constructor
  ·rintro S L' wS hI hM hS0 ⟨-⟩;have e5:=hI.1 5 (by simp);have hM':=hM;obtain ⟨hgB,⟨cs9,hs9z,hq9,hqe⟩,hC9⟩:=hM';exact bu (aC e5) ⟨hI.put hU5 (.head _),hM⟩
  constructor
  ·rintro S L' wS hI hM hS0 ⟨d0,-⟩;have e18:bc L' 18=.pointer (some ⟨g,0,none⟩):=hI.get (i:=0) (.head _) d0;have hM':=hM;obtain ⟨hgB,⟨cs9,hs9z,hq9,hqe⟩,hC9⟩:=hM';exact bu (av e18) ⟨hI.put hU5 (.tail _ (.head _)),hM⟩
  constructor
  ·rintro S L' wS hI hM hS0 ⟨d1,-⟩;have e19:bc L' 19=.pointer (some ⟨g,0,none⟩):=hI.get (i:=1) (.tail _ (.head _)) d1;have hM':=hM;obtain ⟨hgB,⟨cs9,hs9z,hq9,hqe⟩,hC9⟩:=hM';exact bu (aa ay e19) ⟨hI.put hU5 (gM 2 rfl),hM⟩
  constructor
  ·rintro S L' wS hI hM hS0 ⟨d2,-⟩;have e20:bc L' 20=.pointer (some ⟨g,0+0,none⟩):=hI.get (i:=2) (gM 2 rfl) d2;have hM':=hM;obtain ⟨hgB,⟨cs9,hs9z,hq9,hqe⟩,hC9⟩:=hM';exact bu (aa aw e20) ⟨hI.put hU5 (gM 3 rfl),hM⟩
  constructor
  ·rintro S L' wS hI hM hS0 ⟨d3,-⟩;have e21:bc L' 21=.pointer (some ⟨g,0+0+0,none⟩):=hI.get (i:=3) (gM 3 rfl) d3;have hM':=hM;obtain ⟨hgB,⟨cs9,hs9z,hq9,hqe⟩,hC9⟩:=hM';exact bu (aR (cs:=(rfV (fJ s).s a9)) bR bf e21 (rr hgB)) ⟨hI.put hU5 (gM 4 rfl),hM⟩
  constructor
  ·rintro S L' wS hI hM hS0 ⟨-,-⟩;have e5:=hI.1 5 (by simp);have hM':=hM;obtain ⟨hgB,⟨cs9,hs9z,hq9,hqe⟩,hC9⟩:=hM';exact bu (aC e5) ⟨hI.put hU5 (gM 5 rfl),hM⟩
  constructor
  ·rintro S L' wS hI hM hS0 ⟨d5,-,-⟩;have e23:bc L' 23=.pointer (some ⟨g,0,none⟩):=hI.get (i:=5) (gM 5 rfl) d5;have hM':=hM;obtain ⟨hgB,⟨cs9,hs9z,hq9,hqe⟩,hC9⟩:=hM';exact bu (av e23) ⟨hI.put hU5 (gM 6 rfl),hM⟩
  constructor
  ·rintro S L' wS hI hM hS0 ⟨d6,-,-⟩;have e24:bc L' 24=.pointer (some ⟨g,0,none⟩):=hI.get (i:=6) (gM 6 rfl) d6;have hM':=hM;obtain ⟨hgB,⟨cs9,hs9z,hq9,hqe⟩,hC9⟩:=hM';exact bu (aa gL e24) ⟨hI.put hU5 (gM 7 rfl),hM⟩
  constructor
  ·rintro S L' wS hI hM hS0 ⟨d7,-,-⟩;have e25:bc L' 25=.pointer (some ⟨g,0+22,none⟩):=hI.get (i:=7) (gM 7 rfl) d7;have hM':=hM;obtain ⟨hgB,⟨cs9,hs9z,hq9,hqe⟩,hC9⟩:=hM';exact bu (au ki e25 (by exact (show _=some (Value.slice O9 L9.length oc9) from hgB.rd 22 rfl))) ⟨hI.put hU5 (gM 8 rfl),hM⟩
  constructor
  ·rintro S L' wS hI hM hS0 ⟨d4,d0,d1,d2,d3,d4,-,-,-,-,-⟩;have e2:=hI.1 2 (by simp);have e22:bc L' 22=.agg (rfV (fJ s).s a9).toArray:=hI.get (i:=4) (gM 4 rfl) d4;have hM':=hM;obtain ⟨hgB,⟨cs9,hs9z,hq9,hqe⟩,hC9⟩:=hM';obtain ⟨w2,hR,hO,hb⟩:=sq (n:=27) (L:=L') (x:=.tmp 2) (y:=.tmp 22) (vs:=(rfV (fJ s).s a9)) bf e2 e22 (by simp [rfV,Value.oneCell']) hq9 (by rw [hs9z];rfl);exact iy hR ⟨hI.skip (by simp),hgB.only hO hn2,⟨_,rfl,hb,fun _=>rfl⟩,hC9.next (hO.toChg rfl)⟩
  constructor
  ·rintro S L' wS hI hM hS0 ⟨d8,d9,d0,d1,d2,d3,d4,d5,d6,d7,d8,d9,-⟩;have e26:bc L' 26=.slice O9 L9.length oc9:=hI.get (i:=8) (gM 8 rfl) d8;have hM':=hM;obtain ⟨hgB,⟨cs9,hs9z,hq9,hqe⟩,hC9⟩:=hM';exact bu (cS e26) ⟨hI.put hU5 (gM 9 rfl),hM⟩
  constructor
  ·rintro S L' wS hI hM hS0 ⟨d10,d0,d1,d2,d3,d4,d5,d6,d7,d8,d9,d10,-⟩;have hM':=hM;obtain ⟨hgB,⟨cs9,hs9z,hq9,hqe⟩,hC9⟩:=hM';exact bu (cS rfl) ⟨hI.put hU5 (gM 10 rfl),hM⟩
  exact trivial
 ·intro w6 hM;obtain ⟨hgB,⟨cs9,hs9z,hq9,hqe⟩,hC9⟩:=hM;have hqe:=hqe rfl;subst hqe;refine ah (aG (wR rfl (eP (cs:=[_,_,_,_,_,_,_,_,_,_,_,_,_,_,_,_,_,_,_,_,_,_]) bR bf rfl (by exact hq9.whole)) (iI (v:=.slice _ _ _) rfl) (iI (v:=.int _ _) rfl) ?_));exact ⟨wN.mk_ hs9 (fun k hk=>Nat.lt_of_lt_of_le hk hz9) (hC9.wide (fun k hk=>.inl (by rw [show k=b2 from hk];exact hlt2))),(hBq.chg hC9 (fun k hk=>by rw [show k=b2 from hk];exact hg2))⟩
section
variable {P:Program} {ops:Array Oper} {Q:Exit→Act→World→Prop} {rest:List Oper} {n:Fr} {L:List (Nat×Value)} {w0 w:World} {Z:Nat→Prop} {ty:TypeId} {pos:String} {after:Array Edge} {t:TypeId} {x y:Operand} {T g:Nat} {p:Sp} {s':Rf}
theorem aF.rd {k:Nat} {v:Value} (h:aF w0 Z w T g p) (hv:∀ a,(rfV p.s a)[k]? =some v):w.cell? ⟨g,k,none⟩=some v:=by
 obtain ⟨tag,a,O,oc,L,hs⟩:=h.ex;exact cB hs.b k (hv a)
theorem gU {k:Nat} {v:Value} (ht:dr P t=some 1) (hx:ev n L x=.pointer (some ⟨g,k,none⟩)) (hy:ev n L y=v) (h1:v.oneCell'=true) (h:aF w0 Z w T g p) (e:∀ a,k<22∧(rfV p.s a).set k v=rfV s' a)
 (hr:s'.es=p.s.es∧s'.votes=p.s.votes∧s'.next=p.s.next∧s'.mtch=p.s.mtch∧s'.sent=p.s.sent∧s'.reads=p.s.reads)
 (kk:∀ w',aF w0 Z w' T g ⟨s',p.out⟩→St P ops Q rest n L w'):St P ops Q (⟨none,.store t x y,ty,pos,after,none⟩::rest) n L w:=by
 obtain ⟨tag,a,O,oc,L1,hs⟩:=h.ex;exact cY ht hx hy h1 hs.b (e a) fun w' o b=>kk w' (h.set hs (o.toChg rfl) (aY.same hs.f hr.1 hr.2.1 hr.2.2.1 hr.2.2.2.1 hr.2.2.2.2.1 hr.2.2.2.2.2) b).2
end
def vr (w w':World) (p:Sp) (tag:Nat→Nat) (a:Ra) (O:Option Addr) (oc:Nat) (L:List Msg):Prop:=aY w' tag p.s a∧fz w' tag p.out O oc L∧∀ k,k<w.heap.size→tag k=8
theorem vr.mk_ {w w1 w':World} {T g oc:Nat} {tag:Nat→Nat} {p:Sp} {a:Ra} {O:Option Addr} {L:List Msg} {Z:Nat→Prop} (hs:eN w1 Z T g tag p a O oc L) (hz:∀ k,k<w.heap.size→Z k) (hC:Chg (fun k=>Z k) w1 w'):vr w w' p tag a O oc L:=by
 have ne:∀ {d:Nat} {A:Option Addr},d≠8→Col tag d A→∀ k,A.map (·.block)=some k→¬ Z k:=fun hd hc k hk e=>hd ((hc k hk).symm.trans (hs.z k e))
 have mv:∀ {d e s n cc:Nat} {A:Option Addr} {xs:List Value},d≠8→w1.ownsRow 0 e s (.slice A n cc) n xs∧Col tag d A→w'.ownsRow 0 e s (.slice A n cc) n xs∧Col tag d A:=fun hd h=>⟨eK h.1 hC (ne hd h.2),h.2⟩
 exact ⟨⟨fun hx=>mv (by decide) (hs.f.e hx),fun hx=>mv (by decide) (hs.f.v hx),fun hx=>mv (by decide) (hs.f.x hx),fun hx=>mv (by decide) (hs.f.m hx),fun hx=>mv (by decide) (hs.f.n hx),hs.f.r,fun hx=>mv (by decide) (hs.f.q hx),fun i hi hx=>mv (by omega) (hs.f.k i hi hx)⟩,⟨(mv (d:=6) (by decide) ⟨hs.m.o,hs.m.c⟩).1,hs.m.l,fun j hj=>mv (by omega) (hs.m.e j hj),hs.m.c⟩,fun k hk=>hs.z k (hz k hk)⟩
def zn (p:Sp) (a:Ra) (O:Option Addr) (oc:Nat) (L:List Msg):List Value:=[.agg (rfV p.s a).toArray,.slice O L.length oc]
end Go.Proofs.YtkpooenofjdpmaaGreat
namespace Go.Proofs.YtkpooenofjdpmaaGreat
open Go.Proofs.Tryz (prog)
open Go.RowKit
open Go.ChangeShapes Go.WideShapes Go.ChangeAt
def mZ (k:Int):Msg:={ zM with k:=k }
def qZ:Rd×Option Addr×Nat:=(⟨-9,0,0,[]⟩,none,0)
section
variable {α:Type}
def spX (z:α) (X:List α) (k:Nat):List α:=List.replicate k z++X.drop k
end
def U5 (Z:Nat) (tag:Nat→Nat) (j:Nat):Nat→Prop:=fun q=>q<Z∧tag q<j
def UA (Z:Nat) (tag:Nat→Nat) (k:Nat):Nat→Prop:=fun q=>q<Z∧(tag q≤5∨∃ i,i<k∧tag q=1001+2*i)
def UM (Z:Nat) (tag:Nat→Nat) (k:Nat):Nat→Prop:=fun q=>q<Z∧(tag q=6∨∃ i,i<k∧tag q=1000+2*i)
end Go.Proofs.YtkpooenofjdpmaaGreat
namespace Go.Proofs.YtkpooenofjdpmaaGreat
open Go.Proofs.Tryz (prog)
open Go.RowKit
abbrev sQ:Ty:=.pr (.int .i64) (.pr (.int .i64) (.pr .str .unit))
theorem sH {w:World} {c:Nat→Option Value} {xs:List sQ.den} (h:(Ty.sl sQ).At w c xs) :
 ∃ (v:Value) (es:List Ent),c 0=some v∧cQ w v es∧(∀ e∈es,e.Ok)∧es.length*32≤140737488351232:=by
 obtain ⟨A,cap,h0,h1,h2,h3⟩:=h;refine ⟨_,xs.map fun x=>⟨x.1,x.2.1,x.2.2.1⟩,h0,⟨A,cap,by rw [List.length_map],by rw [List.length_map];exact h2.1,h2.2.1,h2.2.2,fun hp=>?_⟩,?_,by rw [List.length_map];exact h1⟩
 ·rw [List.length_map] at hp;obtain ⟨b,o,hA,hb,hi⟩:=h3 hp;refine ⟨b,o,hA,hb,fun i hil=>?_⟩;rw [List.length_map] at hil;obtain ⟨⟨c1,_⟩,⟨c2,_⟩,⟨c3,_⟩,_⟩:=hi i _ (List.getElem?_eq_getElem hil);rw [List.getElem_map];exact ⟨c1,c2,c3⟩
 ·intro e he;simp only [List.mem_map] at he;obtain ⟨x,hx,rfl⟩:=he;obtain ⟨i,hil,rfl⟩:=List.mem_iff_getElem.1 hx;obtain ⟨b,o,hA,hb,hi⟩:=h3 (Nat.lt_of_le_of_lt (Nat.zero_le _) hil);obtain ⟨⟨_,c1⟩,⟨_,c2⟩,⟨_,c3⟩,_⟩:=hi i _ (List.getElem?_eq_getElem hil);have b1:=bounds_i64 c1;have b2:=bounds_i64 c2;exact ⟨b1.1,b1.2,b2.1,b2.2,c3⟩
end Go.Proofs.YtkpooenofjdpmaaGreat
namespace Go.Proofs.YtkpooenofjdpmaaGreat
open Go.Proofs.Tryz (prog)
open Go.RowKit
open Go.ChangeShapes Go.WideShapes Go.ChangeAt
theorem qM:cd prog 99 2=some 2:=by kernel_rfl
theorem oi:aN prog 25=true:=by kernel_rfl
abbrev y7:Ty:=.pr (.int .i64) (.pr (.int .i64) (.pr (.int .i64) (.pr (.int .i64) (.pr (.int .i64) (.pr (.int .i64) (.pr (.int .i64) (.pr (.int .i64) (.pr .bool (.pr (.sl sQ) (.pr (.int .i64) (.pr .str (.pr .bool .unit))))))))))))
abbrev rW:Ty:=.pr (.int .i64) (.pr y7 (.pr .bool (.pr .str (.pr (.int .i64) .unit))))
abbrev ur:Ty:=.pr (.int .i64) (.pr (.int .i64) (.pr (.int .i64) (.pr (.sl (.int .i64)) .unit)))
abbrev zb:Ty:=.pr (.int .i64) (.pr (.int .i64) (.pr (.sl sQ) .unit))
abbrev mE:Ty:=.pr (.int .i64) (.pr (.int .i64) (.pr (.int .i64) (.pr (.int .i64) (.pr (.int .i64) (.pr (.int .i64) (.pr zb (.pr .str (.pr (.int .i64) (.pr (.int .i64) (.pr (.int .i64) (.pr (.int .u64) (.pr (.sl (.int .i64)) (.pr (.sl (.int .i64)) (.pr (.sl (.int .i64)) (.pr (.sl (.int .i64)) (.pr (.int .i64) (.pr (.sl ur) (.pr .str (.pr (.int .i64) .unit)))))))))))))))))))
structure Ac where
 dx:Int
 m:Msg
 fit:Bool
 d:ByteArray
 i:Int
def acV (x:Ac):List Value:=.int .i64 x.dx::(bT x.m++[.bool x.fit,.string x.d,.int .i64 x.i])
theorem sK {α:Type} {f:α→List Value} {t:Ty} {w:World} {P:α→Prop} (hg:∀ (c:Nat→Option Value) (x:t.den),t.At w c x→∃ y:α,(∀ j v,(f y)[j]? =some v→c j=some v)∧P y) {c:Nat→Option Value} {xs:List t.den} (h:(Ty.sl t).At w c xs) :
 ∃ (A:Option Addr) (cap:Nat) (L:List α),c 0=some (.slice A L.length cap)∧jU t.size f w A L∧(∀ y∈L,P y)∧L.length*t.bytes≤140737488351232∧L.length≤cap∧cap≤9223372036854775807∧(A=none→L.length=0∧cap=0):=by
 obtain ⟨A,cap,h0,h1,h2,h3⟩:=h
 have hno:A=none→xs.length=0:=fun e=>by
  rcases Nat.eq_zero_or_pos xs.length with hz | hz
  ·exact hz
  ·obtain ⟨b,o,hA,_⟩:=h3 hz;rw [e] at hA;cases hA
 rcases Nat.eq_zero_or_pos xs.length with hz | hz
 ·refine ⟨A,cap,[],by rw [h0];rw [hz];rfl,fun h=>absurd h (Nat.lt_irrefl _),fun y hy=>(by cases hy),(by rw [List.length_nil,Nat.zero_mul];exact Nat.zero_le _),Nat.zero_le _,h2.2.1,fun e=>⟨rfl,h2.2.2 e⟩⟩
 ·obtain ⟨b,o,hA,hb,hi⟩:=h3 hz;have g:∀ i:Fin xs.length,∃ y:α,(∀ j v,(f y)[j]? =some v→w.cell? ⟨b,o+i*t.size+j,none⟩=some v)∧P y:=fun i=>hg _ _ (hi i.1 xs[i.1] (List.getElem?_eq_getElem i.2))
  refine ⟨A,cap,List.ofFn fun i=>Classical.choose (g i),by rw [List.length_ofFn];exact h0,fun _=>⟨b,o,hA,fun i hil=>?_⟩,fun y hy=>?_,by rw [List.length_ofFn];exact h1,by rw [List.length_ofFn];exact h2.1,h2.2.1,fun e=>⟨by rw [List.length_ofFn];exact hno e,h2.2.2 e⟩⟩
  ·rw [List.length_ofFn] at hil;intro j v hv;rw [List.getElem_ofFn] at hv;exact (Classical.choose_spec (g ⟨i,hil⟩)).1 j v hv
  ·obtain ⟨i,hil,rfl⟩:=List.getElem_of_mem hy;rw [List.length_ofFn] at hil;rw [List.getElem_ofFn];exact (Classical.choose_spec (g ⟨i,hil⟩)).2
theorem p7 {w:World} {c:Nat→Option Value} {xs:List Int} (h:(Ty.sl (.int .i64)).At w c xs):∃ (A:Option Addr) (cap:Nat),c 0=some (.slice A xs.length cap)∧IR w A cap xs∧xs.length*8≤140737488351232:=by
 have h':=h;obtain ⟨A0,c0,g0,g1,g2,g3⟩:=h';obtain ⟨A,cap,h0,hr,_,hb,hc⟩:=wH h;rw [g0] at h0;cases h0;refine ⟨A0,c0,g0,⟨(ew.of_row hr).2,hc.1,hc.2,fun e=>⟨?_,g2.2.2 e⟩⟩,hb⟩;rcases Nat.eq_zero_or_pos xs.length with hz | hz
 ·exact hz
 ·obtain ⟨b,o,hA,_⟩:=g3 hz;rw [e] at hA;cases hA
def zj (w:World) (q:Rd×Option Addr×Nat):Prop:=IR w q.2.1 q.2.2 q.1.acks∧q.1.acks.length*8≤140737488351232
theorem wF {w:World} (c:Nat→Option Value) (x:ur.den) (h:ur.At w c x):∃ q:Rd×Option Addr×Nat,(∀ j v,(rdV q)[j]? =some v→c j=some v)∧zj w q:=by
 obtain ⟨x0,x1,x2,xl,_⟩:=x;obtain ⟨g0,g1,g2,gl,_⟩:=h;obtain ⟨A,cap,e0,e1,e2⟩:=p7 gl;refine ⟨(⟨x0,x1,x2,xl⟩,A,cap),fun j v hv=>?_,e1,e2⟩
 match j,hv with
 |0,hv=>cases hv;exact g0.1
 |1,hv=>cases hv;exact g1.1
 |2,hv=>cases hv;exact g2.1
 |3,hv=>cases hv;exact e0
 |j+4,hv=>simp [rdV] at hv
def vu (w:World) (x:Ac):Prop:=cQ w (.slice x.m.E x.m.es.length x.m.c) x.m.es∧(∀ e∈x.m.es,e.Ok)∧x.m.es.length*32≤140737488351232∧x.m.d.size≤140737488351232∧x.d.size≤140737488351232
theorem vu.from_ {w w':World} {x:Ac} (h:vu w x) (hF:ai w w'):vu w' x:=⟨h.1.from_ hF,h.2⟩
theorem ya {w:World} (c:Nat→Option Value) (x:rW.den) (h:rW.At w c x):∃ X:Ac,(∀ j v,(acV X)[j]? =some v→c j=some v)∧vu w X:=by
 obtain ⟨x0,⟨xk,xf,xt,xtm,xix,xlt,xcm,xrd,xok,xE,xa,xd,xdn,_⟩,xb,xs,xi,_⟩:=x;obtain ⟨g0,⟨g1,g2,g3,g4,g5,g6,g7,g8,g9,gE,g11,g12,g13,_⟩,g14,g15,g16,_⟩:=h;obtain ⟨v,es,e0,e1,e2,e3⟩:=sH gE;have e1':=e1;obtain ⟨E,c9,rfl,_⟩:=e1';refine ⟨⟨x0,{ zM with k:=xk,f:=xf,t:=xt,tm:=xtm,ix:=xix,lt:=xlt,cm:=xcm,rd:=xrd,ok:=xok,a:=xa,d:=xd,dn:=xdn,E:=E,c:=c9,es:=es },xb,xs,xi⟩,fun j v hv=>?_,e1,e2,e3,g12.2,g15.2⟩
 match j,hv with
 |0,hv=>cases hv;exact g0.1
 |1,hv=>cases hv;exact g1.1
 |2,hv=>cases hv;exact g2.1
 |3,hv=>cases hv;exact g3.1
 |4,hv=>cases hv;exact g4.1
 |5,hv=>cases hv;exact g5.1
 |6,hv=>cases hv;exact g6.1
 |7,hv=>cases hv;exact g7.1
 |8,hv=>cases hv;exact g8.1
 |9,hv=>cases hv;exact g9
 |10,hv=>cases hv;exact e0
 |11,hv=>cases hv;exact g11.1
 |12,hv=>cases hv;exact g12.1
 |13,hv=>cases hv;exact g13
 |14,hv=>cases hv;exact g14
 |15,hv=>cases hv;exact g15.1
 |16,hv=>cases hv;exact g16.1
 |j+17,hv=>simp [acV,bT] at hv
structure yX (s:Rf) (a:Ra):Prop where
 sn:s.snap.size≤140737488351232
 pa:s.part.size≤140737488351232
 es:s.es.length*32≤140737488351232
 eo:∀ e∈s.es,e.Ok
 v:s.votes.length*8≤140737488351232
 x:s.next.length*8≤140737488351232
 m:s.mtch.length*8≤140737488351232
 n:s.sent.length*8≤140737488351232
 q:a.L.length*48≤140737488351232
 k:∀ q∈a.L,q.1.acks.length*8≤140737488351232
theorem wG {w:World} {c:Nat→Option Value} {x:mE.den} (h:mE.At w c x):∃ (s:Rf) (a:Ra),(∀ j v,(rfV s a)[j]? =some v→c j=some v)∧jj w s a∧yX s a:=by
 obtain ⟨x0,x1,x2,x3,x4,x5,⟨xb,xt,xe,_⟩,xsn,xco,xel,xti,xse,xv,xx,xm,xn,xro,xq,xpa,xpo,_⟩:=x;obtain ⟨g0,g1,g2,g3,g4,g5,⟨g6,g7,g8,_⟩,g9,g10,g11,g12,g13,g14,g15,g16,g17,g18,g19,g20,g21,_⟩:=h;obtain ⟨v,es,e0,e1,e2,e3⟩:=sH g8;have e1':=e1;obtain ⟨E,Ec,rfl,_⟩:=e1';obtain ⟨V,Vc,v0,v1,v2⟩:=p7 g14;obtain ⟨X,Xc,y0,y1,y2⟩:=p7 g15;obtain ⟨M,Mc,m0,m1,m2⟩:=p7 g16;obtain ⟨N,Nc,n0,n1,n2⟩:=p7 g17;obtain ⟨Q,Qc,L,q0,q1,q2,q3,q4,q5,q6⟩:=sK (f:=rdV) wF g19;refine ⟨{ id:=x0,nodes:=x1,role:=x2,term:=x3,vote:=x4,leader:=x5,b:=xb,t:=xt,es:=es,snap:=xsn,commit:=xco,elapsed:=xel,timeout:=xti,seed:=xse,votes:=xv,next:=xx,mtch:=xm,sent:=xn,round:=xro,reads:=L.map (fun q=>q.1),part:=xpa,partOf:=xpo },⟨E,Ec,V,Vc,X,Xc,M,Mc,N,Nc,Q,Qc,L⟩,fun j v hv=>?_,⟨e1,v1,y1,m1,n1,rfl,q1,⟨q4,q5,q6⟩,fun q hq=>(q2 q hq).1⟩,⟨g9.2,g20.2,e3,e2,v2,y2,m2,n2,q3,fun q hq=>(q2 q hq).2⟩⟩
 match j,hv with
 |0,hv=>cases hv;exact g0.1
 |1,hv=>cases hv;exact g1.1
 |2,hv=>cases hv;exact g2.1
 |3,hv=>cases hv;exact g3.1
 |4,hv=>cases hv;exact g4.1
 |5,hv=>cases hv;exact g5.1
 |6,hv=>cases hv;exact g6.1
 |7,hv=>cases hv;exact g7.1
 |8,hv=>cases hv;exact e0
 |9,hv=>cases hv;exact g9.1
 |10,hv=>cases hv;exact g10.1
 |11,hv=>cases hv;exact g11.1
 |12,hv=>cases hv;exact g12.1
 |13,hv=>cases hv;exact g13.1
 |14,hv=>cases hv;exact v0
 |15,hv=>cases hv;exact y0
 |16,hv=>cases hv;exact m0
 |17,hv=>cases hv;exact n0
 |18,hv=>cases hv;exact g18.1
 |19,hv=>cases hv;exact q0
 |20,hv=>cases hv;exact g20.1
 |21,hv=>cases hv;exact g21.1
 |j+22,hv=>simp [rfV] at hv
structure tA (w:World) (s:Rf) (a:Ra) (LA:Option Addr) (X:List Ac):Prop where
 r:jj w s a
 z:yX s a
 x:jU 17 acV w LA X
 o:∀ y∈X,vu w y
 n:X.length*147≤140737488351232
theorem tA.from_ {w w':World} {s:Rf} {a:Ra} {LA:Option Addr} {X:List Ac} (h:tA w s a LA X) (hF:ai w w'):tA w' s a LA X:=⟨h.r.from_ hF,h.z,h.x.from_ hF,fun y hy=>(h.o y hy).from_ hF,h.n⟩
def scV (s:Rf) (a:Ra) (LA:Option Addr) (n lc:Nat):List Value:=rfV s a++[.slice LA n lc]
theorem zi {cs:Array Value} {l:List Value} (hs:cs.size=l.length) (h:∀ (j:Nat) (v:Value),l[j]? =some v→cs[j]? =some v):cs=l.toArray:=by
 apply Array.ext_getElem?;intro i;rcases Nat.lt_or_ge i l.length with hi | hi
 ·rw [h i _ (List.getElem?_eq_getElem hi)];simp [hi]
 ·rw [Array.getElem?_eq_none (by omega)];simp [hi]
theorem tx {w:World} {cs:Array Value} {x:(Ty.pr mE (.pr (.sl rW) .unit)).den} (hs:cs.size=23) (h:(Ty.pr mE (.pr (.sl rW) .unit)).At w (fun j=>cs[j]?) x):∃ s a LA lc X,cs=(scV s a LA (List.length X) lc).toArray∧tA w s a LA X:=by
 obtain ⟨h1,h2,_⟩:=h;obtain ⟨s,a,hc,hr,hz⟩:=wG h1;obtain ⟨LA,lc,X,q0,q1,q2,q3,q4,q5,q6⟩:=sK (f:=acV) ya h2;refine ⟨s,a,LA,lc,X,zi hs fun j v hv=>?_,⟨hr,hz,q1,q2,q3⟩⟩;unfold scV at hv;rcases Nat.lt_or_ge j 22 with hj | hj
 ·rw [List.getElem?_append_left (show j<(rfV s a).length from hj)] at hv;exact hc j v hv
 ·rw [List.getElem?_append_right (show (rfV s a).length≤j from hj)] at hv
  obtain rfl:j=22:=by
   have:=(List.getElem?_eq_some_iff.1 hv).1;rw [iA] at this;simp at this;omega
  simp [iA] at hv;subst hv;exact q0
def Small (s:Rf) (X:List Ac):Prop:=(s.votes.length≤20000∧s.next.length≤20000∧s.mtch.length≤20000∧s.sent.length≤20000∧s.reads.length≤20000∧∀ q∈s.reads,q.acks.length≤20000)∧s.es.length≤600∧X.length≤100∧(s.snap.size≤20000∧s.part.size≤20000)∧∀ y∈X,y.m.es.length≤200∧y.m.d.size≤20000∧y.d.size≤20000
theorem uZ {w:World} {A:Option Addr} {n c:Nat} {es:List Ent} (h:cQ w (.slice A n c) es) (hs:∀ e∈es,e.Ok) (h0:0<n):∃ b o,A=some ⟨b,o,none⟩∧∀ j,j<n→∃ s:ByteArray,w.cell? ⟨b,o+j*3+2,none⟩=some (.string s)∧s.size≤140737488351232:=by
 obtain ⟨A',c',hv,_,_,_,hp⟩:=h;simp only [Value.slice.injEq] at hv;obtain ⟨rfl,rfl,rfl⟩:=hv;obtain ⟨b,o,hA,_,hc⟩:=hp h0;exact ⟨b,o,hA,fun j hj=>⟨es[j].d,(hc j hj).2.2,(hs _ (List.getElem_mem hj)).2.2.2.2⟩⟩
theorem kB (A:Option Addr) (c n:Nat) (es:List Ent) (w:World) (he:cQ w (.slice A n c) es) (ho:∀ e∈es,e.Ok) (hl:n≤140737488351232) :
 Rt prog 25 [.slice A n c] w (fun v w'=>(∃ m:Nat,v=.int .i64 (m:Nat)∧n≤m∧m≤562949953421312)∧w=w'):=by
 refine enter (n:=26) Tryz.func25 rfl rfl rfl (ao (ag (asi rfl (aq (ah (ao (ag (mvs rfl (ab (b0 dG rfl) (asi rfl (aq (ah (ao (ao (ag (asi rfl ?_))))))))))))))));refine aq (ah (bk (dC (G:=Nat×Nat) [7,8,9,10,11,12,13,14,15,16,17,18,19,20,21,22,23,24] (fun (m,k)=>[(3,.int .i64 (m:Nat)),(4,.int .i64 (k:Nat))]) (fun (m,k) w'=>k≤n∧n≤m∧m≤562949953421312∧w=w') (fun (_,k)=>n-k) ((n,0)) ⟨rfl,rfl,trivial⟩ ?_ ?_)))
 ·exact ⟨Nat.zero_le _,Nat.le_refl _,by omega,rfl⟩
 rintro ⟨m,k⟩ ρ1 w1 ⟨hk,hnm,hm,rfl⟩;refine ao (ao (ag (mvi rfl (mvs rfl (ab (b0 dG rfl) (ab (cA rfl rfl) (mvb rfl (ym (t:=11) rfl (fun Q2=>?_) (fun Q2=>?_)))))))))
 ·refine aj rfl (mvi rfl (aj rfl (ab (cA rfl rfl) (ab (aJ (v:=.bool _) rfl rfl) (aq (ah (yS rfl (fun Q3=>?_) (fun Q3=>?_))))))))
  ·obtain ⟨ba,oa,hA,hcs⟩:=uZ he ho (by omega);subst hA;obtain ⟨s,hs1,hs2⟩:=hcs k (by omega);refine aI (ah (ao (bk (ag (mvi rfl (mvs rfl (mvi rfl (ab (cq fT rfl rfl (by omega)) (ab (aa qM rfl) (ab (au bQ rfl (by exact hs1)) ?_))))))))));refine ab (dA (by kernel_rfl) rfl) (ab (cx rfl rfl (by omega)) (asi rfl (aq (bI (ah (ag (mvi rfl (ab (cx (b:=1) rfl rfl (by omega)) (asi rfl (aq ?_))))))))));refine cu ((m+s.size,k+1)) ⟨(by first | rfl | (refine aZ ?_;omega)),(by first | rfl | (refine aZ ?_;omega)),trivial⟩ (by (iterate 41 refine bC rfl ?_);exact bP) ⟨?_,?_⟩
   ·exact ⟨by omega,by omega,by omega,rfl⟩
   ·show n-(k+1)<n-k;omega
  refine cL (bw (bw (cr (ah (ao (ag (mvi rfl (asi rfl (aq (ah (aG (bF (v:=.int _ _) rfl rfl (⟨⟨_,rfl,hnm,hm⟩,rfl⟩)))))))))))))
 refine ar rfl rfl (ar rfl rfl (ab (aB (v:=.bool _) rfl rfl) (aq (ah (aU rfl (cL (bw (bw (cr (ah (ao (ag (mvi rfl (asi rfl ?_))))))))))))));refine aq (ah (aG (bF (v:=.int _ _) rfl rfl (⟨⟨_,rfl,hnm,hm⟩,rfl⟩))))
def wiN (i:Int) (n:Nat):Nat:=(IntKind.u64.wrap i).toNat%n
theorem nX (m:Msg) (w:World) (he:cQ w (.slice m.E m.es.length m.c) m.es) (ho:∀ e∈m.es,e.Ok) (hl:m.es.length≤140737488351232) (hd:m.d.size≤140737488351232) :
 Rt prog 26 [.agg (bT m).toArray] w (fun v w'=>(∃ b,v=.bool b∧(b=false→m.es.length≤200∧m.d.size≤20000))∧ai w w'):=by
 refine enter (n:=19) Tryz.func26 rfl rfl rfl (ao (ag (cj (v:=.agg _) rfl ?_)));intro b1 w1 E1 hb1 hk1;refine asb rfl (aq (ah (ao (ag (ab (aa eO rfl) (ab (au bQ rfl (by exact (show _=some (Value.string m.d) from (hk1.from_ ai.rfl_).rd 11 rfl))) ?_))))));refine ab (dA (by kernel_rfl) rfl) (ab (ct rfl rfl) (mvb rfl (ym (t:=7) rfl (fun Q2=>?_) (fun Q2=>?_))))
 ·refine ar rfl rfl (ar rfl rfl (ar rfl rfl (ar rfl rfl (ab (aJ (v:=.bool _) rfl rfl) (mvb rfl (ar rfl rfl (ar rfl rfl (ar rfl rfl ?_))))))));refine ar rfl rfl (ab (aJ (v:=.bool _) rfl rfl) (asb rfl (aq (ah (aG (bF (v:=.bool _) rfl rfl (⟨⟨_,rfl,fun h=>?_⟩,(ai.rfl_.next E1)⟩)))))))
  first
   |(exfalso;simp at h;done)
   |(have h9:=dF_ h;omega)
   |(simp only [decide_eq_false_iff_not] at h;omega)
   |(simp at h;omega)
 refine aj rfl (ab (aa gy rfl) (aj rfl (ab (au cD rfl (by exact (show _=some (Value.slice m.E m.es.length m.c) from (hk1.from_ ai.rfl_).rd 9 rfl))) ?_)));refine aj rfl (aE oi (kB m.E m.c m.es.length m.es _ (he.from_ (ai.rfl_.next E1)) ho hl) ?_);rintro v10 w3 ⟨⟨m10,rfl,hm1,hm2⟩,rfl⟩;refine aj rfl (ab (ct rfl rfl) (ab (aB (v:=.bool _) rfl rfl) (mvb rfl (ym (t:=13) rfl (fun Q4=>?_) (fun Q4=>?_)))))
 ·refine ar rfl rfl (ar rfl rfl (ar rfl rfl (ar rfl rfl (ab (aJ (v:=.bool _) rfl rfl) (asb rfl (aq (ah (aG (bF (v:=.bool _) rfl rfl (⟨⟨_,rfl,fun h=>?_⟩,(ai.rfl_.next E1)⟩))))))))))
  first
   |(exfalso;simp at h;done)
   |(have h9:=dF_ h;omega)
   |(simp only [decide_eq_false_iff_not] at h;omega)
   |(simp at h;omega)
 refine aj rfl (ab (aa gy rfl) (aj rfl (ab (au cD rfl (by exact (show _=some (Value.slice m.E m.es.length m.c) from (hk1.from_ ai.rfl_).rd 9 rfl))) ?_)));refine aj rfl (ab (b0 dG rfl) (aj rfl (ab (ct rfl rfl) (ab (aB (v:=.bool _) rfl rfl) (asb rfl (aq (ah (aG (bF (v:=.bool _) rfl rfl (⟨⟨_,rfl,fun h=>?_⟩,(ai.rfl_.next E1)⟩))))))))))
 first
  |(exfalso;simp at h;done)
  |(have h9:=dF_ h;omega)
  |(simp only [decide_eq_false_iff_not] at h;omega)
  |(simp at h;omega)
theorem cO:cd prog 32 0=some 0:=by kernel_rfl
theorem cU:cd prog 32 1=some 22:=by kernel_rfl
theorem dv:iJ prog 30=some false:=by kernel_rfl
theorem fj:(e_ prog 30).isSome=true:=by kernel_rfl
theorem fH:e_ prog 30=some (41,17):=by kernel_rfl
theorem iL:cd prog 41 3=some 15:=by kernel_rfl
theorem j4:cd prog 41 1=some 1:=by kernel_rfl
theorem lH:aN prog 26=true:=by kernel_rfl
theorem sM {w:World} {b a:Nat} {x:Ac} (h:w.rangeAt b a (acV x)):w.rangeAt b (a+1) (bT x.m):=fun j v hv=>by
 have hj:j<13:=(List.getElem?_eq_some_iff.1 hv).1
 have h1:(acV x)[j+1]? =some v:=by
  show (bT x.m++[Value.bool x.fit,.string x.d,.int .i64 x.i])[j]? =some v;rw [List.getElem?_append_left (show j<(bT x.m).length from hj)];exact hv
 have:=h (j+1) v h1
 rwa [show a+(j+1)=a+1+j by omega] at this
theorem bH (s:Rf) (a:Ra) (LA:Option Addr) (lc:Nat) (X:List Ac) (w:World) (h:tA w s a LA X) :
 Rt prog 15 [.agg (scV s a LA X.length lc).toArray] w (fun v w'=>(∃ b,v=.bool b∧(b=false→Small s X))∧ai w w'):=by
 have z1:=h.z.sn;have z2:=h.z.pa;have z3:=h.z.es;have z4:=h.z.v;have z5:=h.z.x;have z6:=h.z.m;have z7:=h.z.n;have z8:=h.z.q;have z9:=h.z.k;have z10:=h.n;have hLl:a.L.length=s.reads.length:=by rw [←h.r.r,List.length_map]
 refine enter (n:=111) Tryz.func15 rfl rfl rfl (ao (ag (cj (v:=.agg _) rfl ?_)));intro b1 w1 E1 hb1 hk1;refine asb rfl (aq (ah (ao ?_)));apply br 41 [(6,eqp _),(7,eqp _),(8,eqp (.string s.snap)),(9,eqp _),(10,eqp _),(11,eqp _),(12,eqp (.string s.part)),(13,eqp _),(14,eqp (.int .i64 ((s.snap.size+s.part.size:Nat):Int))),(15,eqp _),(16,eqp _),(17,eqp _),(18,eqp (.slice a.E s.es.length a.Ec)),(19,fun v _=>∃ q:Nat,v=.int .i64 (q:Nat)∧s.es.length≤q∧q≤562949953421312),(20,fun v _=>∃ q:Nat,v=.int .i64 (q:Nat)∧s.snap.size+s.part.size+s.es.length≤q∧q≤844424930123776),(21,eqp _),(22,eqp _),(23,eqp (.slice a.V s.votes.length a.Vc)),(24,eqp _),(25,fun v _=>∃ q:Nat,v=.int .i64 (q:Nat)∧s.snap.size+s.part.size+s.es.length+s.votes.length≤q∧q≤985162418475008),(26,eqp _),(27,eqp _),(28,eqp (.slice a.X s.next.length a.Xc)),(29,eqp _),(30,fun v _=>∃ q:Nat,v=.int .i64 (q:Nat)∧s.snap.size+s.part.size+s.es.length+s.votes.length+s.next.length≤q∧q≤1125899906826240),(31,eqp _),(32,eqp _),(33,eqp (.slice a.M s.mtch.length a.Mc)),(34,eqp _),(35,fun v _=>∃ q:Nat,v=.int .i64 (q:Nat)∧s.snap.size+s.part.size+s.es.length+s.votes.length+s.next.length+s.mtch.length≤q∧q≤1266637395177472),(36,eqp _),(37,eqp _),(38,eqp (.slice a.S s.sent.length a.Sc)),(39,eqp _),(40,fun v _=>∃ q:Nat,v=.int .i64 (q:Nat)∧s.snap.size+s.part.size+s.es.length+s.votes.length+s.next.length+s.mtch.length+s.sent.length≤q∧q≤1407374883528704),(41,eqp _),(42,eqp _),(43,eqp (.slice a.Q a.L.length a.Qc)),(44,eqp _),(45,fun v _=>∃ q:Nat,v=.int .i64 (q:Nat)∧s.snap.size+s.part.size+s.es.length+s.votes.length+s.next.length+s.mtch.length+s.sent.length+a.L.length≤q∧q≤1548112371879936),(3,fun v _=>∃ q:Nat,v=.int .i64 (q:Nat)∧s.snap.size+s.part.size+s.es.length+s.votes.length+s.next.length+s.mtch.length+s.sent.length+a.L.length≤q∧q≤1548112371879936)] (by repeat first | exact bN | refine bM ?_ | refine bB ?_) (by kernel_rfl) (by kernel_rfl) ⟨ae _,ae _,ae _,ae _,ae _,ae _,ae _,ae _,ae _,ae _,ae _,ae _,ae _,(fun _ _ _ _ h=>h),(fun _ _ _ _ h=>h),ae _,ae _,ae _,ae _,(fun _ _ _ _ h=>h),ae _,ae _,ae _,ae _,(fun _ _ _ _ h=>h),ae _,ae _,ae _,ae _,(fun _ _ _ _ h=>h),ae _,ae _,ae _,ae _,(fun _ _ _ _ h=>h),ae _,ae _,ae _,ae _,(fun _ _ _ _ h=>h),(fun _ _ _ _ h=>h),trivial⟩
 case hop=>
  constructor
  ·rintro-w3 D3;exact an (aa cO rfl) rfl
  constructor
  ·rintro-w4 D4;rintro _ rfl;exact an (aa dD rfl) rfl
  constructor
  ·rintro-w5 D5;rintro _ rfl;exact an (au bQ rfl (by exact (show _=some (Value.string s.snap) from (hk1.from_ (ai.rfl_.next D5)).rd 9 rfl))) rfl
  constructor
  ·rintro-w6 D6;rintro v6_8 rfl;exact an (dA (by kernel_rfl) rfl) rfl
  constructor
  ·rintro-w7 D7;exact an (aa cO rfl) rfl
  constructor
  ·rintro-w8 D8;rintro _ rfl;exact an (aa cg rfl) rfl
  constructor
  ·rintro-w9 D9;rintro _ rfl;exact an (au bQ rfl (by exact (show _=some (Value.string s.part) from (hk1.from_ (ai.rfl_.next D9)).rd 20 rfl))) rfl
  constructor
  ·rintro-w10 D10;rintro v10_12 rfl;exact an (dA (by kernel_rfl) rfl) rfl
  constructor
  ·rintro-w11 D11;rintro _ rfl _ rfl;exact an (cx rfl rfl (by omega)) rfl
  constructor
  ·rintro-w12 D12;exact an (aa cO rfl) rfl
  constructor
  ·rintro-w13 D13;rintro _ rfl;exact an (aa bd rfl) rfl
  constructor
  ·rintro-w14 D14;rintro _ rfl;exact an (aa cV rfl) rfl
  constructor
  ·rintro-w15 D15;rintro _ rfl;exact an (au cD rfl (by exact (show _=some (Value.slice a.E s.es.length a.Ec) from (hk1.from_ (ai.rfl_.next D15)).rd 8 rfl))) rfl
  constructor
  ·rintro-w16 D16;rintro v16_18 rfl;refine iC oi ((kB a.E a.Ec s.es.length s.es _ (h.r.e.from_ ((ai.rfl_.next E1).next D16)) h.z.eo (by omega)).mono ?_);rintro v w2 ⟨⟨q,rfl,hp,hq⟩,rfl⟩;exact ⟨ai.rfl_,q,rfl,hp,hq⟩
  constructor
  ·rintro-w17 D17;rintro v17_14 rfl v17_19 ⟨q17,rfl,hl17,hu17⟩;exact an (cx rfl rfl (by omega)) ⟨_,rfl,by omega,by omega⟩
  constructor
  ·rintro-w18 D18;exact an (aa cO rfl) rfl
  constructor
  ·rintro-w19 D19;rintro _ rfl;exact an (aa ed rfl) rfl
  constructor
  ·rintro-w20 D20;rintro _ rfl;exact an (au bj rfl (by exact (show _=some (Value.slice a.V s.votes.length a.Vc) from (hk1.from_ (ai.rfl_.next D20)).rd 14 rfl))) rfl
  constructor
  ·rintro-w21 D21;rintro v21_23 rfl;exact an (b0 bX rfl) rfl
  constructor
  ·rintro-w22 D22;rintro v22_20 ⟨q22,rfl,hl22,hu22⟩ _ rfl;exact an (cx rfl rfl (by omega)) ⟨_,rfl,by omega,by omega⟩
  constructor
  ·rintro-w23 D23;exact an (aa cO rfl) rfl
  constructor
  ·rintro-w24 D24;rintro _ rfl;exact an (aa ch rfl) rfl
  constructor
  ·rintro-w25 D25;rintro _ rfl;exact an (au bj rfl (by exact (show _=some (Value.slice a.X s.next.length a.Xc) from (hk1.from_ (ai.rfl_.next D25)).rd 15 rfl))) rfl
  constructor
  ·rintro-w26 D26;rintro v26_28 rfl;exact an (b0 bX rfl) rfl
  constructor
  ·rintro-w27 D27;rintro v27_25 ⟨q27,rfl,hl27,hu27⟩ _ rfl;exact an (cx rfl rfl (by omega)) ⟨_,rfl,by omega,by omega⟩
  constructor
  ·rintro-w28 D28;exact an (aa cO rfl) rfl
  constructor
  ·rintro-w29 D29;rintro _ rfl;exact an (aa cM rfl) rfl
  constructor
  ·rintro-w30 D30;rintro _ rfl;exact an (au bj rfl (by exact (show _=some (Value.slice a.M s.mtch.length a.Mc) from (hk1.from_ (ai.rfl_.next D30)).rd 16 rfl))) rfl
  constructor
  ·rintro-w31 D31;rintro v31_33 rfl;exact an (b0 bX rfl) rfl
  constructor
  ·rintro-w32 D32;rintro v32_30 ⟨q32,rfl,hl32,hu32⟩ _ rfl;exact an (cx rfl rfl (by omega)) ⟨_,rfl,by omega,by omega⟩
  constructor
  ·rintro-w33 D33;exact an (aa cO rfl) rfl
  constructor
  ·rintro-w34 D34;rintro _ rfl;exact an (aa dc rfl) rfl
  constructor
  ·rintro-w35 D35;rintro _ rfl;exact an (au bj rfl (by exact (show _=some (Value.slice a.S s.sent.length a.Sc) from (hk1.from_ (ai.rfl_.next D35)).rd 17 rfl))) rfl
  constructor
  ·rintro-w36 D36;rintro v36_38 rfl;exact an (b0 bX rfl) rfl
  constructor
  ·rintro-w37 D37;rintro v37_35 ⟨q37,rfl,hl37,hu37⟩ _ rfl;exact an (cx rfl rfl (by omega)) ⟨_,rfl,by omega,by omega⟩
  constructor
  ·rintro-w38 D38;exact an (aa cO rfl) rfl
  constructor
  ·rintro-w39 D39;rintro _ rfl;exact an (aa cG rfl) rfl
  constructor
  ·rintro-w40 D40;rintro _ rfl;exact an (au dH rfl (by exact (show _=some (Value.slice a.Q a.L.length a.Qc) from (hk1.from_ (ai.rfl_.next D40)).rd 19 rfl))) rfl
  constructor
  ·rintro-w41 D41;rintro v41_43 rfl;exact an (b0 fk rfl) rfl
  constructor
  ·rintro-w42 D42;rintro v42_40 ⟨q42,rfl,hl42,hu42⟩ _ rfl;exact an (cx rfl rfl (by omega)) ⟨_,rfl,by omega,by omega⟩
  constructor
  ·rintro-w43 D43;rintro v43_45 ⟨q43,rfl,hl43,hu43⟩;exact an (cS rfl) ⟨_,rfl,by omega,by omega⟩
  exact trivial
 case hend=>
  intro w44 D44;rintro _ rfl _ rfl v8 rfl _ rfl _ rfl _ rfl v12 rfl _ rfl v14 rfl _ rfl _ rfl _ rfl v18 rfl v19 ⟨q44,rfl,hl44,hu44⟩ v20 ⟨q44,rfl,hl44,hu44⟩ _ rfl _ rfl v23 rfl _ rfl v25 ⟨q44,rfl,hl44,hu44⟩ _ rfl _ rfl v28 rfl _ rfl v30 ⟨q44,rfl,hl44,hu44⟩ _ rfl _ rfl v33 rfl _ rfl v35 ⟨q44,rfl,hl44,hu44⟩ _ rfl _ rfl v38 rfl _ rfl v40 ⟨q44,rfl,hl44,hu44⟩ _ rfl _ rfl v43 rfl _ rfl v45 ⟨q44,rfl,hl44,hu44⟩ v3 ⟨q3,rfl,hl3,hu3⟩;show St ..;refine aq (ah (ao (ao (ag (asi rfl (aq (ah (bk (dC (G:=Nat×Nat) [46,47,48,49,50,51,52,53,54,55,56,57,58,59,60,61,62,63,64,65,66,67] (fun (m,k)=>[(3,.int .i64 (m:Nat)),(4,.int .i64 (k:Nat))]) (fun (m,k) w'=>k≤a.L.length∧s.snap.size+s.part.size+s.es.length+s.votes.length+s.next.length+s.mtch.length+s.sent.length+a.L.length≤m∧m≤2000000000000000∧(∀ j (h:j<a.L.length),j<k→a.L[j].1.acks.length≤m)∧Blk w' b1 32 (scV s a LA X.length lc).toArray∧ai w w') (fun (_,k)=>a.L.length-k) ((q3,0)) ⟨rfl,rfl,trivial⟩ ?_ ?_)))))))))
  ·exact ⟨Nat.zero_le _,hl3,by omega,fun j _ h=>absurd h (by omega),hk1.from_ (ai.rfl_.next D44),((ai.rfl_.next E1).next D44)⟩
  rintro ⟨m,k⟩ ρ45 w45 ⟨hk,hm1,hm2,hj1,hk1,hB⟩;refine ao (ao (ag (mvi rfl (ab (aa cO rfl) (ab (aa cG rfl) (ab (au dH rfl (by exact (show _=some (Value.slice a.Q a.L.length a.Qc) from (hk1.from_ ai.rfl_).rd 19 rfl))) ?_))))));refine ab (b0 fk rfl) (ab (cA rfl rfl) (mvb rfl (ym (t:=52) rfl (fun Q46=>?_) (fun Q46=>?_))))
  ·refine aj rfl (mvi rfl (aj rfl (ab (cA rfl rfl) (ab (aJ (v:=.bool _) rfl rfl) (aq (ah (yS rfl (fun Q47=>?_) (fun Q47=>?_))))))))
   ·have hkL:k<a.L.length:=by omega
    have zk:=z9 _ (List.getElem_mem hkL);obtain ⟨ba,oa,hQe,hcs⟩:=h.r.q (by omega);have hkq:Blk w45 b1 32 (scV s { a with Q:=some ⟨ba,oa,none⟩ } LA X.length lc).toArray:=by rw [←hQe];exact hk1.from_ ai.rfl_
    refine aI (ah (ao (bk (ag (mvi rfl (ab (aa cO rfl) (ab (aa cG rfl) (ab (au dH rfl (by exact (show _=some (Value.slice (some ⟨ba,oa,none⟩) a.L.length a.Qc) from (hkq.from_ ai.rfl_).rd 19 rfl))) ?_))))))));refine mvi rfl (ab (cq fI rfl rfl (by omega)) (ab (aa eX rfl) (ab (au bj rfl (by exact eH hB (hcs k hkL 3 _ rfl))) ?_)));refine ab (b0 bX rfl) (ab (cx rfl rfl (by omega)) (asi rfl (aq (bI (ah (ag (mvi rfl (ab (cl rfl rfl (by omega)) (asi rfl (aq ?_))))))))));refine cu ((m+a.L[k].1.acks.length,k+1)) ⟨(by first | rfl | (refine aZ ?_;omega)),(by first | rfl | (refine aZ ?_;omega)),trivial⟩ (by (iterate 49 refine bC rfl ?_);exact bP) ⟨?_,?_⟩
    ·refine ⟨by omega,by omega,by omega,fun j h hj=>?_,hk1.from_ ai.rfl_,hB⟩;rcases Nat.lt_or_ge j k with e | e
     ·have:=hj1 j h e;omega
     ·obtain rfl:j=k:=by omega
      omega
    ·show a.L.length-(k+1)<a.L.length-k;omega
   refine cL (bw (bw (cr (ah (ao (ao (ag (asi rfl (aq (ah (bk (dC (G:=Nat×Nat) [2,68,69,70,71,72,73,74,75,76,77,78,79,80,81,82,83,84,85,86,87,88,89,90,91,92,93,94] (fun (m2,i)=>[(3,.int .i64 (m2:Nat)),(5,.int .i64 (i:Nat))]) (fun (m2,i) w'=>i≤X.length∧m≤m2∧m2≤2000000000000000∧(∀ j (h:j<X.length),j<i→X[j].m.es.length≤200∧X[j].m.d.size≤20000∧X[j].d.size≤m2)∧Blk w' b1 32 (scV s a LA X.length lc).toArray∧ai w w') (fun (_,i)=>X.length-i) ((m,0)) ⟨rfl,rfl,trivial⟩ ?_ ?_))))))))))))
   ·exact ⟨Nat.zero_le _,Nat.le_refl _,hm2,fun j _ h=>absurd h (by omega),hk1.from_ ai.rfl_,hB⟩
   rintro ⟨m2,i⟩ ρ48 w48 ⟨hk2,hn1,hn2,hj2,hk1,hB⟩;refine ao (ao (ag (mvi rfl (ab (aa cU rfl) (ab (au dv rfl (by exact (show _=some (Value.slice LA X.length lc) from (hk1.from_ ai.rfl_).rd 22 rfl))) ?_)))));refine ab (b0 fj rfl) (ab (cA rfl rfl) (mvb rfl (ym (t:=73) rfl (fun Q49=>?_) (fun Q49=>?_))))
   ·refine aj rfl (mvi rfl (aj rfl (ab (cA rfl rfl) (ab (aJ (v:=.bool _) rfl rfl) (aq (ah (yS rfl (fun Q50=>?_) (fun Q50=>?_))))))))
    ·have hkX:i<X.length:=by omega
     have hox:=h.o _ (List.getElem_mem hkX);have zk:=hox.2.2.2.2;obtain ⟨ba,oa,hQe,hcs⟩:=h.x (by omega);have hkq:Blk w48 b1 32 (scV s a (some ⟨ba,oa,none⟩) X.length lc).toArray:=by rw [←hQe];exact hk1.from_ ai.rfl_
     refine aI (ah (ao (bk (ao (ag (mvi rfl (ab (aa cU rfl) (ab (au dv rfl (by exact (show _=some (Value.slice (some ⟨ba,oa,none⟩) X.length lc) from (hkq.from_ ai.rfl_).rd 22 rfl))) ?_))))))));refine mvi rfl (ab (cq fH rfl rfl (by omega)) (ab (aa iL rfl) (ab (au bQ rfl (by exact eH hB (hcs i hkX 15 _ rfl))) ?_)));refine ab (dA (by kernel_rfl) rfl) (ab (cx rfl rfl (by omega)) (asi rfl (aq (ah (ao (ag (ab (aa cU rfl) (ab (au dv rfl (by exact (show _=some (Value.slice (some ⟨ba,oa,none⟩) X.length lc) from (hkq.from_ ai.rfl_).rd 22 rfl))) ?_))))))));refine mvi rfl (ab (cq fH rfl rfl (by omega)) (ab (aa j4 rfl) (ab (aR (cs:=bT X[i].m) bp bg rfl (sM (fL hB (hcs i hkX)))) (aE lH (nX X[i].m _ (hox.1.from_ hB) hox.2.1 (by have:=hox.2.2.1;omega) hox.2.2.2.1) ?_))));rintro v94 w51 ⟨⟨b94,rfl,hb94⟩,E94⟩;refine aq (ah (aO rfl (fun Q52=>?_) (fun Q52=>?_)))
     ·(try with_reducible first | (replace Q52 := dT_ Q52; trace "@MK N bH:g52+.c55-.g73+.c76+.c94+ 1.1") | (replace Q52 := dF_ Q52; trace "@MK N bH:g52+.c55-.g73+.c76+.c94+ 1.2") | (replace Q52 := et Q52; trace "@MK N bH:g52+.c55-.g73+.c76+.c94+ 1.3") | (replace Q52 := eu Q52; trace "@MK N bH:g52+.c55-.g73+.c76+.c94+ 1.4"))
      (try with_reducible first | (replace Q52 := dT_ Q52; trace "@MK N bH:g52+.c55-.g73+.c76+.c94+ 2.1") | (replace Q52 := dF_ Q52; trace "@MK N bH:g52+.c55-.g73+.c76+.c94+ 2.2") | (replace Q52 := iU Q52; trace "@MK N bH:g52+.c55-.g73+.c76+.c94+ 2.3") | (replace Q52 := iW Q52; trace "@MK N bH:g52+.c55-.g73+.c76+.c94+ 2.4") | (replace Q52 := d_ Q52; trace "@MK N bH:g52+.c55-.g73+.c76+.c94+ 2.5") | (replace Q52 := ea Q52; trace "@MK N bH:g52+.c55-.g73+.c76+.c94+ 2.6"))
      refine ao (ag (asb rfl (aq (ah (aG (cI (aH (aH (cI (aH (bF (v:=.bool _) rfl rfl (⟨⟨_,rfl,fun h=>by cases h⟩,(hB.next E94)⟩))))))))))))
     (try with_reducible first | (replace Q52 := dT_ Q52; trace "@MK N bH:g52+.c55-.g73+.c76+.c94- 1.1") | (replace Q52 := dF_ Q52; trace "@MK N bH:g52+.c55-.g73+.c76+.c94- 1.2") | (replace Q52 := et Q52; trace "@MK N bH:g52+.c55-.g73+.c76+.c94- 1.3") | (replace Q52 := eu Q52; trace "@MK N bH:g52+.c55-.g73+.c76+.c94- 1.4"))
     (try with_reducible first | (replace Q52 := dT_ Q52; trace "@MK N bH:g52+.c55-.g73+.c76+.c94- 2.1") | (replace Q52 := dF_ Q52; trace "@MK N bH:g52+.c55-.g73+.c76+.c94- 2.2") | (replace Q52 := iU Q52; trace "@MK N bH:g52+.c55-.g73+.c76+.c94- 2.3") | (replace Q52 := iW Q52; trace "@MK N bH:g52+.c55-.g73+.c76+.c94- 2.4") | (replace Q52 := d_ Q52; trace "@MK N bH:g52+.c55-.g73+.c76+.c94- 2.5") | (replace Q52 := ea Q52; trace "@MK N bH:g52+.c55-.g73+.c76+.c94- 2.6"))
     refine aI (bI (ah (ag (mvi rfl (ab (cl rfl rfl (by omega)) (asi rfl (aq ?_)))))));refine cu ((m2+X[i].d.size,i+1)) ⟨(by first | rfl | (refine aZ ?_;omega)),(by first | rfl | (refine aZ ?_;omega)),trivial⟩ (by (iterate 60 refine bC rfl ?_);exact bP) ⟨?_,?_⟩
     ·refine ⟨by omega,by omega,by omega,fun j h hj=>?_,hk1.from_ (ai.rfl_.next E94),(hB.next E94)⟩;rcases Nat.lt_or_ge j i with e | e
      ·have:=hj2 j h e;omega
      ·obtain rfl:j=i:=by omega
       have:=hb94 (by first | rfl | assumption | simp_all);omega
     ·show X.length-(i+1)<X.length-i;omega
    refine cL (bw (bw (cr (ah (ao (ag (mvi rfl (ab (ct rfl rfl) (mvb rfl (ym (t:=97) rfl (fun Q53=>?_) (fun Q53=>?_)))))))))))
    ·refine ar rfl rfl (ar rfl rfl (ar rfl rfl (ar rfl rfl (ar rfl rfl (ar rfl rfl (ab (aJ (v:=.bool _) rfl rfl) (mvb rfl (ar rfl rfl ?_))))))));refine ar rfl rfl (ar rfl rfl (ar rfl rfl (ab (aJ (v:=.bool _) rfl rfl) (asb rfl (aq (ah (aG (bF (v:=.bool _) rfl rfl (⟨⟨_,rfl,fun h9=>?_⟩,hB⟩)))))))))
     have hh:m2≤20000∧s.es.length≤600∧X.length≤100:=by
      first
       |(exfalso;simp at h9;done)
       |(have h8:=dF_ h9;omega)
       |(simp only [decide_eq_false_iff_not] at h9;omega)
       |(simp at h9;omega)
     have hkl:k=a.L.length:=by omega
     refine ⟨⟨by omega,by omega,by omega,by omega,by omega,fun q hq=>?_⟩,hh.2.1,hh.2.2,⟨by omega,by omega⟩,fun y hy=>?_⟩
     ·rw [←h.r.r] at hq;obtain ⟨y,hy,rfl⟩:=List.mem_map.1 hq;obtain ⟨j,hj,rfl⟩:=List.getElem_of_mem hy;have:=hj1 j hj (by omega);omega
     ·obtain ⟨j,hj,rfl⟩:=List.getElem_of_mem hy;have:=hj2 j hj (by omega);omega
    refine aj rfl (ab (aa cO rfl) (aj rfl (ab (aa bd rfl) (aj rfl (ab (aa cV rfl) (aj rfl (ab (au cD rfl (by exact (show _=some (Value.slice a.E s.es.length a.Ec) from (hk1.from_ ai.rfl_).rd 8 rfl))) ?_)))))));refine aj rfl (ab (b0 dG rfl) (aj rfl (ab (ct rfl rfl) (ab (aB (v:=.bool _) rfl rfl) (mvb rfl (ym (t:=105) rfl (fun Q54=>?_) (fun Q54=>?_)))))))
    ·refine ar rfl rfl (ar rfl rfl (ar rfl rfl (ar rfl rfl (ab (aJ (v:=.bool _) rfl rfl) (asb rfl (aq (ah (aG (bF (v:=.bool _) rfl rfl (⟨⟨_,rfl,fun h9=>?_⟩,hB⟩))))))))))
     have hh:m2≤20000∧s.es.length≤600∧X.length≤100:=by
      first
       |(exfalso;simp at h9;done)
       |(have h8:=dF_ h9;omega)
       |(simp only [decide_eq_false_iff_not] at h9;omega)
       |(simp at h9;omega)
     have hkl:k=a.L.length:=by omega
     refine ⟨⟨by omega,by omega,by omega,by omega,by omega,fun q hq=>?_⟩,hh.2.1,hh.2.2,⟨by omega,by omega⟩,fun y hy=>?_⟩
     ·rw [←h.r.r] at hq;obtain ⟨y,hy,rfl⟩:=List.mem_map.1 hq;obtain ⟨j,hj,rfl⟩:=List.getElem_of_mem hy;have:=hj1 j hj (by omega);omega
     ·obtain ⟨j,hj,rfl⟩:=List.getElem_of_mem hy;have:=hj2 j hj (by omega);omega
    refine aj rfl (ab (aa cU rfl) (aj rfl (ab (au dv rfl (by exact (show _=some (Value.slice LA X.length lc) from (hk1.from_ ai.rfl_).rd 22 rfl))) ?_)));refine aj rfl (ab (b0 fj rfl) (aj rfl (ab (ct rfl rfl) (ab (aB (v:=.bool _) rfl rfl) (asb rfl (aq (ah (aG (bF (v:=.bool _) rfl rfl (⟨⟨_,rfl,fun h9=>?_⟩,hB⟩))))))))))
    have hh:m2≤20000∧s.es.length≤600∧X.length≤100:=by
     first
      |(exfalso;simp at h9;done)
      |(have h8:=dF_ h9;omega)
      |(simp only [decide_eq_false_iff_not] at h9;omega)
      |(simp at h9;omega)
    have hkl:k=a.L.length:=by omega
    refine ⟨⟨by omega,by omega,by omega,by omega,by omega,fun q hq=>?_⟩,hh.2.1,hh.2.2,⟨by omega,by omega⟩,fun y hy=>?_⟩
    ·rw [←h.r.r] at hq;obtain ⟨y,hy,rfl⟩:=List.mem_map.1 hq;obtain ⟨j,hj,rfl⟩:=List.getElem_of_mem hy;have:=hj1 j hj (by omega);omega
    ·obtain ⟨j,hj,rfl⟩:=List.getElem_of_mem hy;have:=hj2 j hj (by omega);omega
   refine dh rfl (aq (ah (aU rfl (cL (bw (bw (cr (ah (ao (ag (mvi rfl (ab (ct rfl rfl) (mvb rfl (ym (t:=97) rfl (fun Q55=>?_) (fun Q55=>?_)))))))))))))))
   ·refine ar rfl rfl (ar rfl rfl (ar rfl rfl (ar rfl rfl (ar rfl rfl (ar rfl rfl (ab (aJ (v:=.bool _) rfl rfl) (mvb rfl (ar rfl rfl ?_))))))));refine ar rfl rfl (ar rfl rfl (ar rfl rfl (ab (aJ (v:=.bool _) rfl rfl) (asb rfl (aq (ah (aG (bF (v:=.bool _) rfl rfl (⟨⟨_,rfl,fun h9=>?_⟩,hB⟩)))))))))
    have hh:m2≤20000∧s.es.length≤600∧X.length≤100:=by
     first
      |(exfalso;simp at h9;done)
      |(have h8:=dF_ h9;omega)
      |(simp only [decide_eq_false_iff_not] at h9;omega)
      |(simp at h9;omega)
    have hkl:k=a.L.length:=by omega
    refine ⟨⟨by omega,by omega,by omega,by omega,by omega,fun q hq=>?_⟩,hh.2.1,hh.2.2,⟨by omega,by omega⟩,fun y hy=>?_⟩
    ·rw [←h.r.r] at hq;obtain ⟨y,hy,rfl⟩:=List.mem_map.1 hq;obtain ⟨j,hj,rfl⟩:=List.getElem_of_mem hy;have:=hj1 j hj (by omega);omega
    ·obtain ⟨j,hj,rfl⟩:=List.getElem_of_mem hy;have:=hj2 j hj (by omega);omega
   refine aj rfl (ab (aa cO rfl) (aj rfl (ab (aa bd rfl) (aj rfl (ab (aa cV rfl) (aj rfl (ab (au cD rfl (by exact (show _=some (Value.slice a.E s.es.length a.Ec) from (hk1.from_ ai.rfl_).rd 8 rfl))) ?_)))))));refine aj rfl (ab (b0 dG rfl) (aj rfl (ab (ct rfl rfl) (ab (aB (v:=.bool _) rfl rfl) (mvb rfl (ym (t:=105) rfl (fun Q56=>?_) (fun Q56=>?_)))))))
   ·refine ar rfl rfl (ar rfl rfl (ar rfl rfl (ar rfl rfl (ab (aJ (v:=.bool _) rfl rfl) (asb rfl (aq (ah (aG (bF (v:=.bool _) rfl rfl (⟨⟨_,rfl,fun h9=>?_⟩,hB⟩))))))))))
    have hh:m2≤20000∧s.es.length≤600∧X.length≤100:=by
     first
      |(exfalso;simp at h9;done)
      |(have h8:=dF_ h9;omega)
      |(simp only [decide_eq_false_iff_not] at h9;omega)
      |(simp at h9;omega)
    have hkl:k=a.L.length:=by omega
    refine ⟨⟨by omega,by omega,by omega,by omega,by omega,fun q hq=>?_⟩,hh.2.1,hh.2.2,⟨by omega,by omega⟩,fun y hy=>?_⟩
    ·rw [←h.r.r] at hq;obtain ⟨y,hy,rfl⟩:=List.mem_map.1 hq;obtain ⟨j,hj,rfl⟩:=List.getElem_of_mem hy;have:=hj1 j hj (by omega);omega
    ·obtain ⟨j,hj,rfl⟩:=List.getElem_of_mem hy;have:=hj2 j hj (by omega);omega
   refine aj rfl (ab (aa cU rfl) (aj rfl (ab (au dv rfl (by exact (show _=some (Value.slice LA X.length lc) from (hk1.from_ ai.rfl_).rd 22 rfl))) ?_)));refine aj rfl (ab (b0 fj rfl) (aj rfl (ab (ct rfl rfl) (ab (aB (v:=.bool _) rfl rfl) (asb rfl (aq (ah (aG (bF (v:=.bool _) rfl rfl (⟨⟨_,rfl,fun h9=>?_⟩,hB⟩))))))))))
   have hh:m2≤20000∧s.es.length≤600∧X.length≤100:=by
    first
     |(exfalso;simp at h9;done)
     |(have h8:=dF_ h9;omega)
     |(simp only [decide_eq_false_iff_not] at h9;omega)
     |(simp at h9;omega)
   have hkl:k=a.L.length:=by omega
   refine ⟨⟨by omega,by omega,by omega,by omega,by omega,fun q hq=>?_⟩,hh.2.1,hh.2.2,⟨by omega,by omega⟩,fun y hy=>?_⟩
   ·rw [←h.r.r] at hq;obtain ⟨y,hy,rfl⟩:=List.mem_map.1 hq;obtain ⟨j,hj,rfl⟩:=List.getElem_of_mem hy;have:=hj1 j hj (by omega);omega
   ·obtain ⟨j,hj,rfl⟩:=List.getElem_of_mem hy;have:=hj2 j hj (by omega);omega
  refine dh rfl (aq (ah (aU rfl (cL (bw (bw (cr (ah (ao (ao (ag (asi rfl (aq (ah (bk (dC (G:=Nat×Nat) [2,68,69,70,71,72,73,74,75,76,77,78,79,80,81,82,83,84,85,86,87,88,89,90,91,92,93,94] (fun (m2,i)=>[(3,.int .i64 (m2:Nat)),(5,.int .i64 (i:Nat))]) (fun (m2,i) w'=>i≤X.length∧m≤m2∧m2≤2000000000000000∧(∀ j (h:j<X.length),j<i→X[j].m.es.length≤200∧X[j].m.d.size≤20000∧X[j].d.size≤m2)∧Blk w' b1 32 (scV s a LA X.length lc).toArray∧ai w w') (fun (_,i)=>X.length-i) ((m,0)) ⟨rfl,rfl,trivial⟩ ?_ ?_))))))))))))))))
  ·exact ⟨Nat.zero_le _,Nat.le_refl _,hm2,fun j _ h=>absurd h (by omega),hk1.from_ ai.rfl_,hB⟩
  rintro ⟨m2,i⟩ ρ57 w57 ⟨hk2,hn1,hn2,hj2,hk1,hB⟩;refine ao (ao (ag (mvi rfl (ab (aa cU rfl) (ab (au dv rfl (by exact (show _=some (Value.slice LA X.length lc) from (hk1.from_ ai.rfl_).rd 22 rfl))) ?_)))));refine ab (b0 fj rfl) (ab (cA rfl rfl) (mvb rfl (ym (t:=73) rfl (fun Q58=>?_) (fun Q58=>?_))))
  ·refine aj rfl (mvi rfl (aj rfl (ab (cA rfl rfl) (ab (aJ (v:=.bool _) rfl rfl) (aq (ah (yS rfl (fun Q59=>?_) (fun Q59=>?_))))))))
   ·have hkX:i<X.length:=by omega
    have hox:=h.o _ (List.getElem_mem hkX);have zk:=hox.2.2.2.2;obtain ⟨ba,oa,hQe,hcs⟩:=h.x (by omega);have hkq:Blk w57 b1 32 (scV s a (some ⟨ba,oa,none⟩) X.length lc).toArray:=by rw [←hQe];exact hk1.from_ ai.rfl_
    refine aI (ah (ao (bk (ao (ag (mvi rfl (ab (aa cU rfl) (ab (au dv rfl (by exact (show _=some (Value.slice (some ⟨ba,oa,none⟩) X.length lc) from (hkq.from_ ai.rfl_).rd 22 rfl))) ?_))))))));refine mvi rfl (ab (cq fH rfl rfl (by omega)) (ab (aa iL rfl) (ab (au bQ rfl (by exact eH hB (hcs i hkX 15 _ rfl))) ?_)));refine ab (dA (by kernel_rfl) rfl) (ab (cx rfl rfl (by omega)) (asi rfl (aq (ah (ao (ag (ab (aa cU rfl) (ab (au dv rfl (by exact (show _=some (Value.slice (some ⟨ba,oa,none⟩) X.length lc) from (hkq.from_ ai.rfl_).rd 22 rfl))) ?_))))))));refine mvi rfl (ab (cq fH rfl rfl (by omega)) (ab (aa j4 rfl) (ab (aR (cs:=bT X[i].m) bp bg rfl (sM (fL hB (hcs i hkX)))) (aE lH (nX X[i].m _ (hox.1.from_ hB) hox.2.1 (by have:=hox.2.2.1;omega) hox.2.2.2.1) ?_))));rintro v94 w60 ⟨⟨b94,rfl,hb94⟩,E94⟩;refine aq (ah (aO rfl (fun Q61=>?_) (fun Q61=>?_)))
    ·(try with_reducible first | (replace Q61 := dT_ Q61; trace "@MK N bH:g52-.g73+.c76+.c94+ 1.1") | (replace Q61 := dF_ Q61; trace "@MK N bH:g52-.g73+.c76+.c94+ 1.2") | (replace Q61 := et Q61; trace "@MK N bH:g52-.g73+.c76+.c94+ 1.3") | (replace Q61 := eu Q61; trace "@MK N bH:g52-.g73+.c76+.c94+ 1.4"))
     (try with_reducible first | (replace Q61 := dT_ Q61; trace "@MK N bH:g52-.g73+.c76+.c94+ 2.1") | (replace Q61 := dF_ Q61; trace "@MK N bH:g52-.g73+.c76+.c94+ 2.2") | (replace Q61 := iU Q61; trace "@MK N bH:g52-.g73+.c76+.c94+ 2.3") | (replace Q61 := iW Q61; trace "@MK N bH:g52-.g73+.c76+.c94+ 2.4") | (replace Q61 := d_ Q61; trace "@MK N bH:g52-.g73+.c76+.c94+ 2.5") | (replace Q61 := ea Q61; trace "@MK N bH:g52-.g73+.c76+.c94+ 2.6"))
     refine ao (ag (asb rfl (aq (ah (aG (cI (aH (aH (cI (aH (bF (v:=.bool _) rfl rfl (⟨⟨_,rfl,fun h=>by cases h⟩,(hB.next E94)⟩))))))))))))
    (try with_reducible first | (replace Q61 := dT_ Q61; trace "@MK N bH:g52-.g73+.c76+.c94- 1.1") | (replace Q61 := dF_ Q61; trace "@MK N bH:g52-.g73+.c76+.c94- 1.2") | (replace Q61 := et Q61; trace "@MK N bH:g52-.g73+.c76+.c94- 1.3") | (replace Q61 := eu Q61; trace "@MK N bH:g52-.g73+.c76+.c94- 1.4"))
    (try with_reducible first | (replace Q61 := dT_ Q61; trace "@MK N bH:g52-.g73+.c76+.c94- 2.1") | (replace Q61 := dF_ Q61; trace "@MK N bH:g52-.g73+.c76+.c94- 2.2") | (replace Q61 := iU Q61; trace "@MK N bH:g52-.g73+.c76+.c94- 2.3") | (replace Q61 := iW Q61; trace "@MK N bH:g52-.g73+.c76+.c94- 2.4") | (replace Q61 := d_ Q61; trace "@MK N bH:g52-.g73+.c76+.c94- 2.5") | (replace Q61 := ea Q61; trace "@MK N bH:g52-.g73+.c76+.c94- 2.6"))
    refine aI (bI (ah (ag (mvi rfl (ab (cl rfl rfl (by omega)) (asi rfl (aq ?_)))))));refine cu ((m2+X[i].d.size,i+1)) ⟨(by first | rfl | (refine aZ ?_;omega)),(by first | rfl | (refine aZ ?_;omega)),trivial⟩ (by (iterate 60 refine bC rfl ?_);exact bP) ⟨?_,?_⟩
    ·refine ⟨by omega,by omega,by omega,fun j h hj=>?_,hk1.from_ (ai.rfl_.next E94),(hB.next E94)⟩;rcases Nat.lt_or_ge j i with e | e
     ·have:=hj2 j h e;omega
     ·obtain rfl:j=i:=by omega
      have:=hb94 (by first | rfl | assumption | simp_all);omega
    ·show X.length-(i+1)<X.length-i;omega
   refine cL (bw (bw (cr (ah (ao (ag (mvi rfl (ab (ct rfl rfl) (mvb rfl (ym (t:=97) rfl (fun Q62=>?_) (fun Q62=>?_)))))))))))
   ·refine ar rfl rfl (ar rfl rfl (ar rfl rfl (ar rfl rfl (ar rfl rfl (ar rfl rfl (ab (aJ (v:=.bool _) rfl rfl) (mvb rfl (ar rfl rfl ?_))))))));refine ar rfl rfl (ar rfl rfl (ar rfl rfl (ab (aJ (v:=.bool _) rfl rfl) (asb rfl (aq (ah (aG (bF (v:=.bool _) rfl rfl (⟨⟨_,rfl,fun h9=>?_⟩,hB⟩)))))))))
    have hh:m2≤20000∧s.es.length≤600∧X.length≤100:=by
     first
      |(exfalso;simp at h9;done)
      |(have h8:=dF_ h9;omega)
      |(simp only [decide_eq_false_iff_not] at h9;omega)
      |(simp at h9;omega)
    have hkl:k=a.L.length:=by omega
    refine ⟨⟨by omega,by omega,by omega,by omega,by omega,fun q hq=>?_⟩,hh.2.1,hh.2.2,⟨by omega,by omega⟩,fun y hy=>?_⟩
    ·rw [←h.r.r] at hq;obtain ⟨y,hy,rfl⟩:=List.mem_map.1 hq;obtain ⟨j,hj,rfl⟩:=List.getElem_of_mem hy;have:=hj1 j hj (by omega);omega
    ·obtain ⟨j,hj,rfl⟩:=List.getElem_of_mem hy;have:=hj2 j hj (by omega);omega
   refine aj rfl (ab (aa cO rfl) (aj rfl (ab (aa bd rfl) (aj rfl (ab (aa cV rfl) (aj rfl (ab (au cD rfl (by exact (show _=some (Value.slice a.E s.es.length a.Ec) from (hk1.from_ ai.rfl_).rd 8 rfl))) ?_)))))));refine aj rfl (ab (b0 dG rfl) (aj rfl (ab (ct rfl rfl) (ab (aB (v:=.bool _) rfl rfl) (mvb rfl (ym (t:=105) rfl (fun Q63=>?_) (fun Q63=>?_)))))))
   ·refine ar rfl rfl (ar rfl rfl (ar rfl rfl (ar rfl rfl (ab (aJ (v:=.bool _) rfl rfl) (asb rfl (aq (ah (aG (bF (v:=.bool _) rfl rfl (⟨⟨_,rfl,fun h9=>?_⟩,hB⟩))))))))))
    have hh:m2≤20000∧s.es.length≤600∧X.length≤100:=by
     first
      |(exfalso;simp at h9;done)
      |(have h8:=dF_ h9;omega)
      |(simp only [decide_eq_false_iff_not] at h9;omega)
      |(simp at h9;omega)
    have hkl:k=a.L.length:=by omega
    refine ⟨⟨by omega,by omega,by omega,by omega,by omega,fun q hq=>?_⟩,hh.2.1,hh.2.2,⟨by omega,by omega⟩,fun y hy=>?_⟩
    ·rw [←h.r.r] at hq;obtain ⟨y,hy,rfl⟩:=List.mem_map.1 hq;obtain ⟨j,hj,rfl⟩:=List.getElem_of_mem hy;have:=hj1 j hj (by omega);omega
    ·obtain ⟨j,hj,rfl⟩:=List.getElem_of_mem hy;have:=hj2 j hj (by omega);omega
   refine aj rfl (ab (aa cU rfl) (aj rfl (ab (au dv rfl (by exact (show _=some (Value.slice LA X.length lc) from (hk1.from_ ai.rfl_).rd 22 rfl))) ?_)));refine aj rfl (ab (b0 fj rfl) (aj rfl (ab (ct rfl rfl) (ab (aB (v:=.bool _) rfl rfl) (asb rfl (aq (ah (aG (bF (v:=.bool _) rfl rfl (⟨⟨_,rfl,fun h9=>?_⟩,hB⟩))))))))))
   have hh:m2≤20000∧s.es.length≤600∧X.length≤100:=by
    first
     |(exfalso;simp at h9;done)
     |(have h8:=dF_ h9;omega)
     |(simp only [decide_eq_false_iff_not] at h9;omega)
     |(simp at h9;omega)
   have hkl:k=a.L.length:=by omega
   refine ⟨⟨by omega,by omega,by omega,by omega,by omega,fun q hq=>?_⟩,hh.2.1,hh.2.2,⟨by omega,by omega⟩,fun y hy=>?_⟩
   ·rw [←h.r.r] at hq;obtain ⟨y,hy,rfl⟩:=List.mem_map.1 hq;obtain ⟨j,hj,rfl⟩:=List.getElem_of_mem hy;have:=hj1 j hj (by omega);omega
   ·obtain ⟨j,hj,rfl⟩:=List.getElem_of_mem hy;have:=hj2 j hj (by omega);omega
  refine dh rfl (aq (ah (aU rfl (cL (bw (bw (cr (ah (ao (ag (mvi rfl (ab (ct rfl rfl) (mvb rfl (ym (t:=97) rfl (fun Q64=>?_) (fun Q64=>?_)))))))))))))))
  ·refine ar rfl rfl (ar rfl rfl (ar rfl rfl (ar rfl rfl (ar rfl rfl (ar rfl rfl (ab (aJ (v:=.bool _) rfl rfl) (mvb rfl (ar rfl rfl ?_))))))));refine ar rfl rfl (ar rfl rfl (ar rfl rfl (ab (aJ (v:=.bool _) rfl rfl) (asb rfl (aq (ah (aG (bF (v:=.bool _) rfl rfl (⟨⟨_,rfl,fun h9=>?_⟩,hB⟩)))))))))
   have hh:m2≤20000∧s.es.length≤600∧X.length≤100:=by
    first
     |(exfalso;simp at h9;done)
     |(have h8:=dF_ h9;omega)
     |(simp only [decide_eq_false_iff_not] at h9;omega)
     |(simp at h9;omega)
   have hkl:k=a.L.length:=by omega
   refine ⟨⟨by omega,by omega,by omega,by omega,by omega,fun q hq=>?_⟩,hh.2.1,hh.2.2,⟨by omega,by omega⟩,fun y hy=>?_⟩
   ·rw [←h.r.r] at hq;obtain ⟨y,hy,rfl⟩:=List.mem_map.1 hq;obtain ⟨j,hj,rfl⟩:=List.getElem_of_mem hy;have:=hj1 j hj (by omega);omega
   ·obtain ⟨j,hj,rfl⟩:=List.getElem_of_mem hy;have:=hj2 j hj (by omega);omega
  refine aj rfl (ab (aa cO rfl) (aj rfl (ab (aa bd rfl) (aj rfl (ab (aa cV rfl) (aj rfl (ab (au cD rfl (by exact (show _=some (Value.slice a.E s.es.length a.Ec) from (hk1.from_ ai.rfl_).rd 8 rfl))) ?_)))))));refine aj rfl (ab (b0 dG rfl) (aj rfl (ab (ct rfl rfl) (ab (aB (v:=.bool _) rfl rfl) (mvb rfl (ym (t:=105) rfl (fun Q65=>?_) (fun Q65=>?_)))))))
  ·refine ar rfl rfl (ar rfl rfl (ar rfl rfl (ar rfl rfl (ab (aJ (v:=.bool _) rfl rfl) (asb rfl (aq (ah (aG (bF (v:=.bool _) rfl rfl (⟨⟨_,rfl,fun h9=>?_⟩,hB⟩))))))))))
   have hh:m2≤20000∧s.es.length≤600∧X.length≤100:=by
    first
     |(exfalso;simp at h9;done)
     |(have h8:=dF_ h9;omega)
     |(simp only [decide_eq_false_iff_not] at h9;omega)
     |(simp at h9;omega)
   have hkl:k=a.L.length:=by omega
   refine ⟨⟨by omega,by omega,by omega,by omega,by omega,fun q hq=>?_⟩,hh.2.1,hh.2.2,⟨by omega,by omega⟩,fun y hy=>?_⟩
   ·rw [←h.r.r] at hq;obtain ⟨y,hy,rfl⟩:=List.mem_map.1 hq;obtain ⟨j,hj,rfl⟩:=List.getElem_of_mem hy;have:=hj1 j hj (by omega);omega
   ·obtain ⟨j,hj,rfl⟩:=List.getElem_of_mem hy;have:=hj2 j hj (by omega);omega
  refine aj rfl (ab (aa cU rfl) (aj rfl (ab (au dv rfl (by exact (show _=some (Value.slice LA X.length lc) from (hk1.from_ ai.rfl_).rd 22 rfl))) ?_)));refine aj rfl (ab (b0 fj rfl) (aj rfl (ab (ct rfl rfl) (ab (aB (v:=.bool _) rfl rfl) (asb rfl (aq (ah (aG (bF (v:=.bool _) rfl rfl (⟨⟨_,rfl,fun h9=>?_⟩,hB⟩))))))))))
  have hh:m2≤20000∧s.es.length≤600∧X.length≤100:=by
   first
    |(exfalso;simp at h9;done)
    |(have h8:=dF_ h9;omega)
    |(simp only [decide_eq_false_iff_not] at h9;omega)
    |(simp at h9;omega)
  have hkl:k=a.L.length:=by omega
  refine ⟨⟨by omega,by omega,by omega,by omega,by omega,fun q hq=>?_⟩,hh.2.1,hh.2.2,⟨by omega,by omega⟩,fun y hy=>?_⟩
  ·rw [←h.r.r] at hq;obtain ⟨y,hy,rfl⟩:=List.mem_map.1 hq;obtain ⟨j,hj,rfl⟩:=List.getElem_of_mem hy;have:=hj1 j hj (by omega);omega
  ·obtain ⟨j,hj,rfl⟩:=List.getElem_of_mem hy;have:=hj2 j hj (by omega);omega
def yY (k:Nat) (l:List Msg):Prop:=l.length≤k∧∀ m∈l,m.es.length≤16
theorem fz.len {w:World} {tag:Nat→Nat} {out:List Msg} {O:Option Addr} {oc:Nat} {L:List Msg} (h:fz w tag out O oc L):L.length=out.length:=by
 have h9:=congrArg List.length h.l;rw [List.length_map] at h9;exact h9
def UBs (z b4 b11:Nat):Nat→Prop:=fun q=>q=b11∨q=b4∨z≤q
structure zt (w:World) (tag:Nat→Nat) (l:List Rd) (A:Option Addr) (c:Nat) (N:List (Rd×Option Addr×Nat)):Prop where
 q:w.ownsRow 0 54 4 (.slice A N.length c) N.length (N.flatMap rdV)
 r:N.map (fun q=>q.1)=l
 k:∀ (j:Nat) (h:j<N.length),w.ownsRow 0 3 1 (.slice N[j].2.1 N[j].1.acks.length N[j].2.2) N[j].1.acks.length (N[j].1.acks.map iV)∧Col tag (1000+2*j) N[j].2.1
 c:Col tag 6 A
section
variable {w w':World} {tag:Nat→Nat} {l:List Rd} {A:Option Addr} {c:Nat} {N:List (Rd×Option Addr×Nat)}
structure zr (w:World) (l:List Rd) (A:Option Addr) (N:List (Rd×Option Addr×Nat)):Prop where
 q:jU 4 rdV w A N
 r:N.map (fun q=>q.1)=l
 k:∀ q∈N,IR w q.2.1 q.2.2 q.1.acks
end
def Sz7 (s:Rf):Prop:=s.es.length≤1000000∧s.votes.length≤1000000∧s.next.length≤1000000∧s.mtch.length≤1000000∧s.sent.length≤1000000∧s.reads.length≤1000000∧∀ q∈s.reads,q.acks.length≤1000000
end Go.Proofs.YtkpooenofjdpmaaGreat
namespace Go.Proofs.YtkpooenofjdpmaaGreat
open Go.Proofs.Tryz (prog)
open Go.RowKit
open Go.ChangeShapes Go.WideShapes Go.ChangeAt
open Go.RowKit
theorem RfF.sz {s:Rf} (h:RfF s):Sz7 s:=by
 have hn:=h.n;have hv:=h.vl;have hl:=h.last;have h1:=h.nx.1;have h2:=h.ma.1;have h3:=h.se.1;have h0:fu s≤7:=by unfold fu;split <;> omega
 have h4:=h.rl
 exact ⟨by omega,by omega,by omega,by omega,by omega,by omega,fun q hq=>by
  have h5:=h.rd q hq;unfold gD at h5;simp only [Bool.and_eq_true] at h5;have:=td h5.2 hn.2;omega⟩
structure zq (p:Sp):Prop where
 s:Sz7 p.s
 o:yY 100 p.out
end Go.Proofs.YtkpooenofjdpmaaGreat
