/- texts that the claim stands on. -/
import Derived.Test.YtkpooenofjdpmaaGreatSlRfLawV63

set_option maxRecDepth 100000
set_option maxHeartbeats 4000000
namespace Go.Proofs.YtkpooenofjdpmaaGreat
open Go.Proofs.Tryz (prog)
open Go.RowKit
open Go.ChangeShapes Go.WideShapes Go.ChangeAt
theorem s7:aP prog 86=true:=by kernel_rfl
theorem ri:aP prog 161=true:=by kernel_rfl
theorem kS:aP prog 54=true:=by kernel_rfl
theorem jt:∀ (a0:Int) (a1:Int),prog.built 39 [(0,.int .i64 1),(4,.int .i64 a0),(5,.int .i64 a1)]=some #[.int .i64 1,.int .i64 0,.int .i64 0,.int .i64 0,.int .i64 a0,.int .i64 a1,.int .i64 0,.int .i64 0,.bool false,.slice none 0 0,.int .i64 0,.string ⟨#[]⟩,.bool false]:=by intros;kernel_rfl
theorem rj:aP prog 138=true:=by kernel_rfl
theorem s6:aP prog 97=true:=by kernel_rfl
def pA (s:Rf) (k:Int):Msg:={ zM with k:=1,t:=k,ix:=bd s,lt:=dq s.t s.es }
theorem yu (s:Rf):∀ (l:List Int) (p:Sp),(l.foldl (fun (p:Sp) k=>p.tell (pA s k)) p).s=p.s
 |[],_=>rfl
 |_::l,p=>yu s l (p.tell _)
theorem oZ (s:Rf):∀ (l:List Int) (p:Sp),(l.foldl (fun (p:Sp) k=>p.tell (pA s k)) p).out.length=p.out.length+l.length
 |[],_=>rfl
 |x::l,p=>by
  show (l.foldl _ (p.tell (pA s x))).out.length=_;rw [oZ s l (p.tell _)];show (p.out++[_]).length+l.length=p.out.length+(l.length+1);rw [List.length_append,List.length_singleton];omega
theorem yv {s:Rf} {l:List Int} {i:Nat} (h:i<l.length) (p:Sp):(l.take (i+1)).foldl (fun (p:Sp) k=>p.tell (pA s k)) p=((l.take i).foldl (fun (p:Sp) k=>p.tell (pA s k)) p).tell (pA s l[i]):=by
 rw [List.take_succ_eq_append_getElem h,List.foldl_append];rfl
theorem so {s:Rf} (h:s.term≠eL):jf s=km ((dE (ej s)).foldl (fun (p:Sp) k=>p.tell (pA (ej s) k)) (⟨ej s,[]⟩:Sp)):=by
 unfold jf;rw [if_neg h];rfl
theorem zz {s:Rf} (h:RfF s) (hr:s.role≠2):iG { s with term:=s.term+1,vote:=s.id,role:=1,leader:=0,votes:=[s.id],part:=⟨#[]⟩,partOf:=0 }=ej s:=by
 obtain ⟨h1,h2,h3,h4⟩:=h.free hr;unfold ej iG fA;simp only [h1,h2,h3,h4]
theorem yk (w0:World) (Z:Nat→Prop) (T g:Nat) (p:Sp) (w:World) (h:aQ w0 Z w T g p) (hF:RfF p.s) (hl:p.out.length≤700) :
 Rt prog 138 [.pointer (some ⟨g,0,none⟩)] w (fun v w'=>v=.tuple #[]∧aQ w0 Z w' T g (km p)):=by
 obtain ⟨s,out⟩:=p;obtain ⟨tag,a,O,oc,L,hs⟩:=h.ex;obtain ⟨E,Ec,V,Vc,X,Xc,M,Mc,Sn,Sc,Q,Qc,LL⟩:=a;have hb:Blk w g T (rfV s (⟨E,Ec,V,Vc,X,Xc,M,Mc,Sn,Sc,Q,Qc,LL⟩:Ra)++[Value.slice O L.length oc]).toArray:=hs.b
 have hll:L.length=out.length:=by
  have h9:=congrArg List.length hs.m.l;rw [List.length_map] at h9;exact h9
 have hF:RfF s:=hF;have hl:out.length≤700:=hl;have hvr:IR w V Vc s.votes:=lC (hs.f.v (by decide)).1;have hvl:=hF.vl;have hnn:=hF.n;refine enter (n:=14) Tryz.func138 rfl rfl rfl (an ?_);apply bD 10 [(2,eqp _),(3,eqp _),(4,eqp _),(5,eqp _),(6,eqp _),(7,eqp _),(8,eqp _),(9,eqp _),(10,eqp (.slice V s.votes.length Vc)),(11,eqp _)] (by repeat first | exact cl | refine ck ?_ | refine bM ?_) (by kernel_rfl) (by kernel_rfl) ⟨ah _,ah _,ah _,ah _,ah _,ah _,ah _,ah _,ah _,ah _,trivial⟩
 case hop=>
  constructor
  ·rintro-w2 D2;exact aq (aB (v:=.pointer _) rfl) rfl
  constructor
  ·rintro-w3 D3;rintro _ rfl;exact aq (av rfl) rfl
  constructor
  ·rintro-w4 D4;rintro _ rfl;exact aq (aa aF rfl) rfl
  constructor
  ·rintro-w5 D5;exact aq (aB (v:=.pointer _) rfl) rfl
  constructor
  ·rintro-w6 D6;rintro _ rfl;exact aq (av rfl) rfl
  constructor
  ·rintro-w7 D7;rintro _ rfl;exact aq (aa aF rfl) rfl
  constructor
  ·rintro-w8 D8;rintro _ rfl;exact aq (aa az rfl) rfl
  constructor
  ·rintro-w9 D9;rintro _ rfl;exact aq (aa dc rfl) rfl
  constructor
  ·rintro-w10 D10;rintro _ rfl;exact aq (au aR rfl (by exact (show _=some (Value.slice V s.votes.length Vc) from ch (hb.from_ (ai.rfl_.next D10)) 14 rfl))) rfl
  constructor
  ·rintro-w11 D11;rintro _ rfl v11_10 rfl;refine gD s7 ((uc T g s _ _ _ (hb.from_ (ai.rfl_.next D11)) V Vc s.votes (hvr.1.from_ (ai.rfl_.next D11)) (by omega) hnn).mono ?_);rintro v _ ⟨rfl,E11'⟩;exact ⟨E11',rfl⟩
  exact trivial
 case hend=>
  intro w12 D12;rintro _ rfl _ rfl _ rfl _ rfl _ rfl _ rfl _ rfl _ rfl v10 rfl _ rfl;show St ..;refine ak (ag (Bu rfl (fun Q13=>?_) (fun Q13=>?_)))
  ·have h11t:fw s.nodes s.votes=true:=by
    unfold fw;exact decide_eq_true Q13
   refine af (mvp rfl (aC ri (zd w0 Z T g ⟨s,out⟩ _ (h.from_ (ai.rfl_.next D12)) hF hl) ?_));rintro v13 w14 ⟨rfl,h13⟩;refine ak (cB (dN rfl ?_));unfold km
   first
    |(rw [if_pos h11t];exact ⟨rfl,h13.from_ (ai.rfl_ (a:=w14))⟩)
    |(rw [if_neg (by show ¬ fw s.nodes s.votes=true;rw [h11f];decide)];exact ⟨rfl,h.from_ (ai.rfl_ (a:=w14))⟩)
  have h11f:fw s.nodes s.votes=false:=by
   unfold fw;exact decide_eq_false (by omega)
  refine aN (cB (dN rfl ?_));unfold km
  first
   |(rw [if_pos h11t];exact ⟨rfl,h13.from_ (ai.rfl_.next D12)⟩)
   |(rw [if_neg (by show ¬ fw s.nodes s.votes=true;rw [h11f];decide)];exact ⟨rfl,h.from_ (ai.rfl_.next D12)⟩)
theorem yg (w0:World) (Z:Nat→Prop) (T g:Nat) (s:Rf) (w:World) (h:aQ w0 Z w T g ⟨s,[]⟩) (hF:RfF s) (hr:s.role≠2) :
 Rt prog 97 [.pointer (some ⟨g,0,none⟩)] w (fun v w'=>v=.tuple #[]∧aQ w0 Z w' T g (jf s)):=by
 obtain ⟨tag,a,O,oc,L,hs⟩:=h.ex;obtain ⟨E,Ec,V,Vc,X,Xc,M,Mc,Sn,Sc,Q,Qc,LL⟩:=a;have hb:Blk w g T (rfV s (⟨E,Ec,V,Vc,X,Xc,M,Mc,Sn,Sc,Q,Qc,LL⟩:Ra)++[Value.slice O L.length oc]).toArray:=hs.b
 have hll:L.length=0:=by
  have h9:=congrArg List.length hs.m.l;rw [List.length_map] at h9;exact h9
 have hB0:ai w w:=ai.rfl_;have hte:=hF.te;refine enter (n:=100) Tryz.func97 rfl rfl rfl (an (an (af (mvp rfl (ab (av rfl) (ab (aa aF rfl) (ab (aa az rfl) (ab (aa bJ rfl) (ab (au ao rfl (by exact (show _=some (Value.int .i64 s.term) from ch (hb.from_ ai.rfl_) 3 rfl))) ?_)))))))));refine ab (bh rfl rfl) (ak (ag (Bu rfl (fun Q1=>?_) (fun Q1=>?_))))
 ·have hte8:s.term=eL:=Q1;refine an (af (mvp rfl (ab (av rfl) (ab (aa aF rfl) ?_))));have hB16:ai w w:=ai.rfl_;refine aC kS (qK T g s _ _ _ (hb.from_ ai.rfl_)) ?_;rintro v16 w2 ⟨rfl,hb16,hC16⟩;refine ak (ag (aE (aG (dN rfl ?_))));unfold jf;rw [if_pos hte8];exact ⟨rfl,((h.set (s':=iG s) hs ((ai.toChg hB16).next hC16) (bm.same hs.f rfl rfl rfl rfl rfl rfl) hb16).2).from_ (ai.rfl_ (a:=w2))⟩
 have hte9:s.term≠eL:=Q1;have hFc:RfF (ej s):=hF.cand hte9;refine aN (ag (an (af (mvp rfl (ab (av rfl) (ab (aa aF rfl) (ab (aa az rfl) (ab (aa bJ rfl) (ab (au ao rfl (by exact (show _=some (Value.int .i64 s.term) from ch (hb.from_ ai.rfl_) 3 rfl))) ?_)))))))));refine ab (b0 rfl rfl (by omega)) (ab (av rfl) (ab (aa aF rfl) (ab (aa az rfl) ?_)));have hB0:ai w w:=ai.rfl_;refine ab (aa bJ rfl) (cQ (s':=({ s with term:=s.term+1 }:Rf)) (a':=(⟨E,Ec,V,Vc,X,Xc,M,Mc,Sn,Sc,Q,Qc,LL⟩:Ra)) (v:=.int _ _) bj rfl rfl rfl ((hb.from_ ai.rfl_)) (by exact ⟨by decide,rfl⟩) ?_);intro w3 O2_0 P2_0;have hC1:Chg (fun k=>k=g) w w3:=(ai.toChg hB0).only O2_0 rfl;refine ak (ag (an (af (mvp rfl (mvp rfl (mvp rfl (mvp rfl (ab (av rfl) (ab (aa aF rfl) (ab (aa az rfl) (ab (aa cu rfl) ?_)))))))))));refine ab (au ao rfl (by exact (show _=some (Value.int .i64 s.id) from ch (P2_0.from_ (ai.rfl_ (a:=w3))) 0 rfl))) ?_;refine ab (av rfl) (ab (aa aF rfl) (ab (aa az rfl) ?_));have hM0:ai _ w3:=ai.rfl_;refine ab (aa eZ rfl) (cQ (s':=({ s with term:=s.term+1,vote:=s.id }:Rf)) (a':=(⟨E,Ec,V,Vc,X,Xc,M,Mc,Sn,Sc,Q,Qc,LL⟩:Ra)) (v:=.int _ _) bj rfl rfl rfl ((P2_0.from_ ai.rfl_)) (by exact ⟨by decide,rfl⟩) ?_);intro w4 O3_0 P3_0;replace hC1:=(hC1.next (ai.toChg hM0)).only O3_0 rfl;refine ab (av rfl) (ab (aa aF rfl) (ab (aa az rfl) (ab (aa cT rfl) (cQ (s':=({ s with term:=s.term+1,vote:=s.id,role:=1 }:Rf)) (a':=(⟨E,Ec,V,Vc,X,Xc,M,Mc,Sn,Sc,Q,Qc,LL⟩:Ra)) (v:=.int _ _) bj rfl rfl rfl (P3_0) (by exact ⟨by decide,rfl⟩) ?_))));intro w5 O3_1 P3_1;replace hC1:=hC1.only O3_1 rfl;refine ab (av rfl) (ab (aa aF rfl) (ab (aa az rfl) (ab (aa eM rfl) (cQ (s':=({ s with term:=s.term+1,vote:=s.id,role:=1,leader:=0 }:Rf)) (a':=(⟨E,Ec,V,Vc,X,Xc,M,Mc,Sn,Sc,Q,Qc,LL⟩:Ra)) (v:=.int _ _) bj rfl rfl rfl (P3_1) (by exact ⟨by decide,rfl⟩) ?_))));intro w6 O3_2 P3_2;replace hC1:=hC1.only O3_2 rfl;obtain ⟨hs3,h3⟩:=h.set (s':=({ s with term:=s.term+1,vote:=s.id,role:=1,leader:=0 }:Rf)) (a':=(⟨E,Ec,V,Vc,X,Xc,M,Mc,Sn,Sc,Q,Qc,LL⟩:Ra)) hs hC1 (bm.same hs.f rfl rfl rfl rfl rfl rfl) P3_2;have hb3:=P3_2;refine ak (ag (an (af (mvp rfl (mvp rfl (ab (av rfl) (ab (aa aF rfl) (ab (aa az rfl) (ab (aa cu rfl) (ab (au ao rfl (by exact (show _=some (Value.int .i64 s.id) from ch (hb3.from_ (ai.rfl_ (a:=w6))) 0 rfl))) ?_))))))))));have hz55:=((ai.rfl_ (a:=w6))).size;refine fD (v:=.int _ _) bS rfl rfl rfl ?_;intro b56 w7 E56 hb56 hk56;refine ab (av rfl) (ab (aa aF rfl) (ab (aa az rfl) (ab (aa dc rfl) ?_)));have hB56:ai _ w7:=((ai.rfl_ (a:=w6)).next E56);refine cQ (s':=({ s with term:=s.term+1,vote:=s.id,role:=1,leader:=0,votes:=[s.id] }:Rf)) (a':=(⟨E,Ec,some ⟨b56,0,none⟩,1,X,Xc,M,Mc,Sn,Sc,Q,Qc,LL⟩:Ra)) (v:=.slice _ _ _) cV rfl rfl rfl ((hb3.from_ ((ai.rfl_ (a:=w6)).next E56))) (by exact ⟨by decide,rfl⟩) ?_;intro w8 O4_0 P4_0;have hC4:Chg (fun k=>k=g) _ w8:=Chg.rfl_.only O4_0 rfl;refine ak (ag (an (af (mvp rfl (mvp rfl (ab (av rfl) (ab (aa aF rfl) (ab (aa az rfl) ?_))))))));have hM0:ai _ w8:=ai.rfl_;refine ab (aa eb rfl) (cQ (s':=({ s with term:=s.term+1,vote:=s.id,role:=1,leader:=0,votes:=[s.id],part:=⟨#[]⟩ }:Rf)) (a':=(⟨E,Ec,some ⟨b56,0,none⟩,1,X,Xc,M,Mc,Sn,Sc,Q,Qc,LL⟩:Ra)) (v:=.string _) nb rfl rfl rfl ((P4_0.from_ ai.rfl_)) (by exact ⟨by decide,rfl⟩) ?_);intro w9 O5_0 P5_0;replace hC4:=(hC4.next (ai.toChg hM0)).only O5_0 rfl;refine ab (av rfl) (ab (aa aF rfl) (ab (aa az rfl) (ab (aa ea rfl) (cQ (s':=({ s with term:=s.term+1,vote:=s.id,role:=1,leader:=0,votes:=[s.id],part:=⟨#[]⟩,partOf:=0 }:Rf)) (a':=(⟨E,Ec,some ⟨b56,0,none⟩,1,X,Xc,M,Mc,Sn,Sc,Q,Qc,LL⟩:Ra)) (v:=.int _ _) bj rfl rfl rfl (P5_0) (by exact ⟨by decide,rfl⟩) ?_))));intro w10 O5_1 P5_1;replace hC4:=hC4.only O5_1 rfl;refine ak (ag (an (af (mvp rfl (ab (av rfl) (ab (aa aF rfl) ?_))))));have hM74:ai _ w10:=(ai.rfl_ (a:=w10));refine aC kS (qK T g ({ s with term:=s.term+1,vote:=s.id,role:=1,leader:=0,votes:=[s.id],part:=⟨#[]⟩,partOf:=0 }:Rf) (⟨E,Ec,some ⟨b56,0,none⟩,1,X,Xc,M,Mc,Sn,Sc,Q,Qc,LL⟩:Ra) _ _ (P5_1.from_ (ai.rfl_ (a:=w10)))) ?_;rintro v74 w11 ⟨rfl,hb74,hC74⟩;have hf4:=(hs3.f.but (c:=1) (ai.toChg hB56)).votes (l:=[s.id]) rfl (oC (Nat.zero_le _) hk56 (Nat.le_refl _) (by show 1≤maxLen;unfold maxLen;omega) rfl rfl) (fun q hq=>by cases hq;exact dH (by rw [hb56];exact hz55));obtain ⟨hs7,h7⟩:=h3.put (s':=iG ({ s with term:=s.term+1,vote:=s.id,role:=1,leader:=0,votes:=[s.id],part:=⟨#[]⟩,partOf:=0 }:Rf)) (a':=(⟨E,Ec,some ⟨b56,0,none⟩,1,X,Xc,M,Mc,Sn,Sc,Q,Qc,LL⟩:Ra)) hs3 (ai.toChg hB56) (.inl (by decide)) (bm.same hf4 rfl rfl rfl rfl rfl rfl) ((hC4.next (ai.toChg hM74)).next hC74) hb74;rw [zz hF hr] at hs7 h7;refine ak (ag (an (af (mvp rfl (ab (av rfl) (ab (aa aF rfl) (aC fj (ir T g (ej s) _ _ _ (hs7.b.from_ (ai.rfl_ (a:=w11))) (hs7.f.rd.e.from_ (ai.rfl_ (a:=w11))) hFc.lg) ?_)))))));rintro v79 w12 ⟨rfl,E79⟩;refine mvt rfl (ab (aY rfl rfl) (ab (aY rfl rfl) (asi rfl (asi rfl (ak (ag (an (an (af (mvp rfl (ab (av rfl) (ab (aa aF rfl) ?_))))))))))));have hz84:=(((ai.rfl_ (a:=w11)).next E79)).size;refine aC o8 (pZ T g (ej s) _ _ _ (hs7.b.from_ ((ai.rfl_ (a:=w11)).next E79)) (by have:=hFc.n;omega)) ?_;rintro v85 w13 ⟨⟨A85,c85,rfl,ho85⟩,E85⟩
 have h8:=h7.at_ (Z':=fun k=>Z k∨A85.map (·.block)=some k) (((ai.rfl_ (a:=w11)).next E79).next E85) (fun k hk=>by
  have hz7:=((((ai.rfl_ (a:=w11)).next E79).next E85)).size;rcases hk with e | e
  ·exact ⟨Nat.lt_of_lt_of_le (h7.zw k e) hz7,.inl e⟩
  ·have:=ee ho85 k e;exact ⟨this.2,.inr (by omega)⟩)
 have hB7:ai _ w13:=(((ai.rfl_ (a:=w11)).next E79).next E85);have ho7:=ho85;obtain ⟨Z7,hZ7⟩:∃ Z7,Z7=fun k=>Z k∨A85.map (·.block)=some k:=⟨_,rfl⟩
 rw [←hZ7] at h8;have hzi:∀ k,Z k→Z7 k:=fun k hk=>by rw [hZ7];exact .inl hk
 have hzr:∀ k,A85.map (·.block)=some k→Z7 k:=fun k hk=>by rw [hZ7];exact .inr hk
 have hol:=lD (ej s);have hnn:=hFc.n;refine ab (bL bP rfl) (mvi rfl (ak (ag (bf (cS (G:=Nat) [5,88,89,90,91,92,93,94,95,96,97] (fun i=>[(87,.int .i64 (i:Nat))]) (fun i w'=>i≤(dE (ej s)).length∧aQ w13 Z7 w' T g (((dE (ej s)).take i).foldl (fun (p:Sp) k=>p.tell (pA (ej s) k)) (⟨ej s,[]⟩:Sp))) (fun i=>(dE (ej s)).length-i) (0) ⟨rfl,trivial⟩ ?_ ?_)))))
 ·exact ⟨Nat.zero_le _,h8⟩
 rintro i ρ14 w14 ⟨hi,h15⟩;refine an (af (ab (bZ rfl rfl) (ak (ag (an (Bu rfl (fun Q15=>?_) (fun Q15=>?_)))))))
 ·have hi9:i<(dE (ej s)).length:=by omega
  obtain ⟨g7,rfl⟩:=c8 ho7 (by omega);have ho8:=ew ho7 h15.fr (fun q hq e=>e (hzr q hq));have hc8:=gk (l:=(dE (ej s))) ho8 i hi9;obtain ⟨tg9,a9,O9,oc9,L9,hs9⟩:=h15.ex
  have hl9:L9.length≤7:=by
   have h1:=congrArg List.length hs9.m.l;rw [List.length_map,oZ,List.length_take] at h1;have h2:((⟨ej s,[]⟩:Sp).out).length=0:=rfl;omega
  refine aN (ag (an (bf (an (af (ab (bp aV rfl rfl (by omega)) (ab (au ao rfl (by exact dg (ai.rfl_ (a:=w14)) hc8)) ?_)))))));refine asi rfl (ak (ag (af (mvp rfl (mvi rfl (mvi rfl (mvi rfl (ab (c6 (l:=[(0,.const (.int .i64 1)),(4,.tmp 93),(5,.tmp 94)]) (jt _ _)) (aC iA (oz _ Z7 T g (((dE (ej s)).take i).foldl (fun (p:Sp) k=>p.tell (pA (ej s) k)) (⟨ej s,[]⟩:Sp)) _ (h15.from_ (ai.rfl_ (a:=w14))) tg9 a9 O9 oc9 L9 (hs9.from_ (ai.rfl_ (a:=w14))) (by omega) { zM with k:=1,ix:=bd (ej s),lt:=dq (ej s).t (ej s).es } (dE (ej s))[i] ⟨dQ,Col.none⟩) ?_)))))))));rintro v96 w16 ⟨rfl,h16⟩;refine ak (bq (ag (af (ab (b0 rfl rfl (by omega)) (mvi rfl (ak ?_))))));refine cG (i+1) ⟨(by first | rfl | (refine bo ?_;omega)),trivial⟩ (by (iterate 24 refine bE rfl ?_);exact bX) ⟨?_,?_⟩
  ·exact ⟨by omega,by rw [yv hi9];exact h16.from_ (ai.rfl_ (a:=w16))⟩
  ·omega
 obtain rfl:i=(dE (ej s)).length:=by omega
 rw [List.take_length] at h15;have h9:=h7.back hB7 h15 hzi;refine cz (bk (bk (bW (ag (af (mvp rfl (aC rj (yk w0 Z T g ((dE (ej s)).foldl (fun (p:Sp) k=>p.tell (pA (ej s) k)) (⟨ej s,[]⟩:Sp)) _ (h9.from_ (ai.rfl_ (a:=w14))) (by rw [yu];exact hFc) (by rw [oZ];show 0+_≤700;have:=hFc.n;omega)) ?_)))))));rintro v99 w17 ⟨rfl,h17⟩;refine ak (cB (dN rfl ?_));rw [so hte9];exact ⟨rfl,h17.from_ (ai.rfl_ (a:=w17))⟩
theorem yN (w0:World) (Z:Nat→Prop) (T g:Nat) (s:Rf) (w:World) (h:aQ w0 Z w T g ⟨s,[]⟩) (hF:RfF s) :
 Rt prog 56 [.pointer (some ⟨g,0,none⟩)] w (fun v w'=>v=.tuple #[]∧aQ w0 Z w' T g (iI s)):=by
 obtain ⟨tag,a,O,oc,L,hs⟩:=h.ex;obtain ⟨E,Ec,V,Vc,X,Xc,M,Mc,Sn,Sc,Q,Qc,LL⟩:=a;have hb:Blk w g T (rfV s (⟨E,Ec,V,Vc,X,Xc,M,Mc,Sn,Sc,Q,Qc,LL⟩:Ra)++[Value.slice O L.length oc]).toArray:=hs.b
 have hll:L.length=0:=by
  have h9:=congrArg List.length hs.m.l;rw [List.length_map] at h9;exact h9
 have hB0:ai w w:=ai.rfl_;have hel:=hF.el;have hrn:=hF.rn;have hti:=hF.ti;have hFe:RfF ({ s with elapsed:=min (s.elapsed+1) 1099511627775 }:Rf):=hF.elapse (by omega);refine enter (n:=64) Tryz.func56 rfl rfl rfl (an (af (mvp rfl (mvp rfl (ab (av rfl) (ab (aa aF rfl) (ab (aa az rfl) (ab (aa dK rfl) (ab (au ao rfl (by exact (show _=some (Value.int .i64 s.elapsed) from ch (hb.from_ ai.rfl_) 11 rfl))) ?_)))))))));refine ab (b0 rfl rfl (by omega)) (ab (iE rfl rfl) (dX (t:=10) (v:=.int _ _) (v':=.int .i64 (min (s.elapsed+1) 1099511627775)) rfl (by exact bo (by omega)) ?_));refine ab (av rfl) (ab (aa aF rfl) (ab (aa az rfl) (ab (aa dK rfl) ?_)));have hB0:ai w w:=ai.rfl_;refine cQ (s':=({ s with elapsed:=(min (s.elapsed+1) 1099511627775) }:Rf)) (a':=(⟨E,Ec,V,Vc,X,Xc,M,Mc,Sn,Sc,Q,Qc,LL⟩:Ra)) (v:=.int _ _) bj rfl rfl rfl ((hb.from_ ai.rfl_)) (by exact ⟨by decide,rfl⟩) ?_;intro w1 O0_0 P0_0;have hC1:Chg (fun k=>k=g) w w1:=(ai.toChg hB0).only O0_0 rfl;obtain ⟨hs3,h3⟩:=h.set (s':=({ s with elapsed:=(min (s.elapsed+1) 1099511627775) }:Rf)) (a':=(⟨E,Ec,V,Vc,X,Xc,M,Mc,Sn,Sc,Q,Qc,LL⟩:Ra)) hs hC1 (bm.same hs.f rfl rfl rfl rfl rfl rfl) P0_0;have hb3:=P0_0;refine ak (ag (an (an (af (mvp rfl (ab (av rfl) (ab (aa aF rfl) (ab (aa az rfl) (ab (aa cT rfl) (ab (au ao rfl (by exact (show _=some (Value.int .i64 s.role) from ch (hb3.from_ (ai.rfl_ (a:=w1))) 2 rfl))) ?_))))))))));refine ab (de rfl rfl) (ak (ag (Bq rfl (fun Q2=>?_) (fun Q2=>?_))))
 ·refine an (an ?_);apply bD 13 [(22,eqp _),(23,eqp _),(24,eqp _),(25,eqp _),(26,eqp _),(27,eqp _),(28,eqp _),(29,eqp _),(30,eqp _),(31,eqp _),(32,eqp _),(33,eqp _),(34,eqp _)] (by repeat first | exact cl | refine ck ?_ | refine bM ?_) (by kernel_rfl) (by kernel_rfl) ⟨ah _,ah _,ah _,ah _,ah _,ah _,ah _,ah _,ah _,ah _,ah _,ah _,ah _,trivial⟩
  case hop=>
   constructor
   ·rintro-w4 D4;exact aq (aB (v:=.pointer _) rfl) rfl
   constructor
   ·rintro-w5 D5;rintro _ rfl;exact aq (av rfl) rfl
   constructor
   ·rintro-w6 D6;rintro _ rfl;exact aq (aa aF rfl) rfl
   constructor
   ·rintro-w7 D7;rintro _ rfl;exact aq (aa az rfl) rfl
   constructor
   ·rintro-w8 D8;rintro _ rfl;exact aq (aa dK rfl) rfl
   constructor
   ·rintro-w9 D9;rintro _ rfl;exact aq (au ao rfl (by exact (show _=some (Value.int .i64 (min (s.elapsed+1) 1099511627775)) from ch (hb3.from_ ((ai.rfl_ (a:=w1)).next D9)) 11 rfl))) rfl
   constructor
   ·rintro-w10 D10;exact aq (aB (v:=.pointer _) rfl) rfl
   constructor
   ·rintro-w11 D11;rintro _ rfl;exact aq (av rfl) rfl
   constructor
   ·rintro-w12 D12;rintro _ rfl;exact aq (aa aF rfl) rfl
   constructor
   ·rintro-w13 D13;rintro _ rfl;exact aq (aa az rfl) rfl
   constructor
   ·rintro-w14 D14;rintro _ rfl;exact aq (aa eR rfl) rfl
   constructor
   ·rintro-w15 D15;rintro _ rfl;exact aq (au ao rfl (by exact (show _=some (Value.int .i64 s.timeout) from ch (hb3.from_ ((ai.rfl_ (a:=w1)).next D15)) 12 rfl))) rfl
   constructor
   ·rintro-w16 D16;rintro _ rfl _ rfl;exact aq (j5 rfl rfl) rfl
   exact trivial
  case hend=>
   intro w17 D17;rintro _ rfl _ rfl _ rfl _ rfl _ rfl _ rfl _ rfl _ rfl _ rfl _ rfl _ rfl _ rfl _ rfl;show St ..;refine ak (ag (Bu rfl (fun Q18=>?_) (fun Q18=>?_)))
   ·refine af (mvp rfl (aC s6 (yg w0 Z T g ({ s with elapsed:=min (s.elapsed+1) 1099511627775 }:Rf) _ (h3.from_ ((ai.rfl_ (a:=w1)).next D17)) hFe (show s.role≠2 by omega)) ?_));rintro v36 w19 ⟨rfl,h7⟩;refine ak (ag (aE (aG (dN rfl (⟨rfl,?_⟩)))));show aQ w0 Z _ T g (if s.role=2 then (if 2≤min (s.elapsed+1) 1099511627775 then Sp.all ⟨({ s with elapsed:=0,round:=min (s.round+1) 1099511627775 }:Rf),[]⟩ else ⟨({ s with elapsed:=min (s.elapsed+1) 1099511627775 }:Rf),[]⟩) else if s.timeout≤min (s.elapsed+1) 1099511627775 then jf ({ s with elapsed:=min (s.elapsed+1) 1099511627775 }:Rf) else ⟨({ s with elapsed:=min (s.elapsed+1) 1099511627775 }:Rf),[]⟩)
    first
     |(rw [if_neg (show ¬ s.role=2 by omega),if_pos (by omega)];exact h7.from_ (ai.rfl_ (a:=w19)))
     |(rw [if_neg (show ¬ s.role=2 by omega),if_neg (by omega)];exact h3.from_ (ai.rfl_ (a:=w19)))
     |(rw [if_pos (show s.role=2 by omega),if_pos (by omega)];exact h8.from_ (ai.rfl_ (a:=w19)))
     |(rw [if_pos (show s.role=2 by omega),if_neg (by omega)];exact h3.from_ (ai.rfl_ (a:=w19)))
   refine aN (ag (aE (aG (dN rfl (⟨rfl,?_⟩)))));show aQ w0 Z _ T g (if s.role=2 then (if 2≤min (s.elapsed+1) 1099511627775 then Sp.all ⟨({ s with elapsed:=0,round:=min (s.round+1) 1099511627775 }:Rf),[]⟩ else ⟨({ s with elapsed:=min (s.elapsed+1) 1099511627775 }:Rf),[]⟩) else if s.timeout≤min (s.elapsed+1) 1099511627775 then jf ({ s with elapsed:=min (s.elapsed+1) 1099511627775 }:Rf) else ⟨({ s with elapsed:=min (s.elapsed+1) 1099511627775 }:Rf),[]⟩)
   first
    |(rw [if_neg (show ¬ s.role=2 by omega),if_pos (by omega)];exact h7.from_ ((ai.rfl_ (a:=w1)).next D17))
    |(rw [if_neg (show ¬ s.role=2 by omega),if_neg (by omega)];exact h3.from_ ((ai.rfl_ (a:=w1)).next D17))
    |(rw [if_pos (show s.role=2 by omega),if_pos (by omega)];exact h8.from_ ((ai.rfl_ (a:=w1)).next D17))
    |(rw [if_pos (show s.role=2 by omega),if_neg (by omega)];exact h3.from_ ((ai.rfl_ (a:=w1)).next D17))
 refine aN (ag (an (af (mvp rfl (ab (av rfl) (ab (aa aF rfl) (ab (aa az rfl) (ab (aa dK rfl) (ab (au ao rfl (by exact (show _=some (Value.int .i64 (min (s.elapsed+1) 1099511627775)) from ch (hb3.from_ (ai.rfl_ (a:=w1))) 11 rfl))) ?_)))))))));refine ab (j5 rfl rfl) (ak (ag (Bu rfl (fun Q20=>?_) (fun Q20=>?_))))
 ·refine an (af (mvp rfl (ab (av rfl) (ab (aa aF rfl) (ab (aa az rfl) (ab (aa dK rfl) ?_))))));have hB5:ai _ w1:=(ai.rfl_ (a:=w1));refine cQ (s':=({ s with elapsed:=0 }:Rf)) (a':=(⟨E,Ec,V,Vc,X,Xc,M,Mc,Sn,Sc,Q,Qc,LL⟩:Ra)) (v:=.int _ _) bj rfl rfl rfl ((hb3.from_ (ai.rfl_ (a:=w1)))) (by exact ⟨by decide,rfl⟩) ?_;intro w21 O5_0 P5_0;have hC5:Chg (fun k=>k=g) _ w21:=(ai.toChg hB5).only O5_0 rfl;refine ak (ag (an (af (mvp rfl (mvp rfl (ab (av rfl) (ab (aa aF rfl) (ab (aa az rfl) (ab (aa dz rfl) (ab (au ao rfl (by exact (show _=some (Value.int .i64 s.round) from ch (P5_0.from_ (ai.rfl_ (a:=w21))) 18 rfl))) ?_))))))))));refine ab (b0 rfl rfl (by omega)) (ab (iE rfl rfl) (dX (t:=57) (v:=.int _ _) (v':=.int .i64 (min (s.round+1) 1099511627775)) rfl (by exact bo (by omega)) ?_));refine ab (av rfl) (ab (aa aF rfl) (ab (aa az rfl) (ab (aa dz rfl) ?_)));have hB6:ai _ w21:=(ai.rfl_ (a:=w21));refine cQ (s':=({ s with elapsed:=0,round:=min (s.round+1) 1099511627775 }:Rf)) (a':=(⟨E,Ec,V,Vc,X,Xc,M,Mc,Sn,Sc,Q,Qc,LL⟩:Ra)) (v:=.int _ _) bj rfl rfl rfl ((P5_0.from_ (ai.rfl_ (a:=w21)))) (by exact ⟨by decide,rfl⟩) ?_;intro w22 O6_0 P6_0;obtain ⟨hs6,h6⟩:=h3.set (s':=({ s with elapsed:=0,round:=min (s.round+1) 1099511627775 }:Rf)) (a':=(⟨E,Ec,V,Vc,X,Xc,M,Mc,Sn,Sc,Q,Qc,LL⟩:Ra)) hs3 ((hC5.next (ai.toChg hB6)).only O6_0 rfl) (bm.same hs3.f rfl rfl rfl rfl rfl rfl) P6_0;refine ak (ag (af (mvp rfl (aC ph (oi w0 Z T g ⟨({ s with elapsed:=0,round:=min (s.round+1) 1099511627775 }:Rf),[]⟩ _ (h6.from_ (ai.rfl_ (a:=w22))) (hF.beat (by omega) (by omega)) (show s.role=2 by omega) (by show 0≤800;omega)) ?_))));rintro v63 w23 ⟨rfl,h8⟩;refine ak (cB (dN rfl (⟨rfl,?_⟩)));show aQ w0 Z _ T g (if s.role=2 then (if 2≤min (s.elapsed+1) 1099511627775 then Sp.all ⟨({ s with elapsed:=0,round:=min (s.round+1) 1099511627775 }:Rf),[]⟩ else ⟨({ s with elapsed:=min (s.elapsed+1) 1099511627775 }:Rf),[]⟩) else if s.timeout≤min (s.elapsed+1) 1099511627775 then jf ({ s with elapsed:=min (s.elapsed+1) 1099511627775 }:Rf) else ⟨({ s with elapsed:=min (s.elapsed+1) 1099511627775 }:Rf),[]⟩)
  first
   |(rw [if_neg (show ¬ s.role=2 by omega),if_pos (by omega)];exact h7.from_ (ai.rfl_ (a:=w23)))
   |(rw [if_neg (show ¬ s.role=2 by omega),if_neg (by omega)];exact h3.from_ (ai.rfl_ (a:=w23)))
   |(rw [if_pos (show s.role=2 by omega),if_pos (by omega)];exact h8.from_ (ai.rfl_ (a:=w23)))
   |(rw [if_pos (show s.role=2 by omega),if_neg (by omega)];exact h3.from_ (ai.rfl_ (a:=w23)))
 refine aN (cB (dN rfl (⟨rfl,?_⟩)));show aQ w0 Z _ T g (if s.role=2 then (if 2≤min (s.elapsed+1) 1099511627775 then Sp.all ⟨({ s with elapsed:=0,round:=min (s.round+1) 1099511627775 }:Rf),[]⟩ else ⟨({ s with elapsed:=min (s.elapsed+1) 1099511627775 }:Rf),[]⟩) else if s.timeout≤min (s.elapsed+1) 1099511627775 then jf ({ s with elapsed:=min (s.elapsed+1) 1099511627775 }:Rf) else ⟨({ s with elapsed:=min (s.elapsed+1) 1099511627775 }:Rf),[]⟩)
 first
  |(rw [if_neg (show ¬ s.role=2 by omega),if_pos (by omega)];exact h7.from_ (ai.rfl_ (a:=w1)))
  |(rw [if_neg (show ¬ s.role=2 by omega),if_neg (by omega)];exact h3.from_ (ai.rfl_ (a:=w1)))
  |(rw [if_pos (show s.role=2 by omega),if_pos (by omega)];exact h8.from_ (ai.rfl_ (a:=w1)))
  |(rw [if_pos (show s.role=2 by omega),if_neg (by omega)];exact h3.from_ (ai.rfl_ (a:=w1)))
end Go.Proofs.YtkpooenofjdpmaaGreat
namespace Go.Proofs.YtkpooenofjdpmaaGreat
open Go.Proofs.Tryz (prog)
open Go.RowKit
def wO (ops:Array Oper) (n:Fr) (L:List (Nat×Value)) (o:Oper):Option (Nat×Value):=
 match o.dst with
 |none=>none
 |some d=>match o.guard with
  |some (j,b)=>match jH ops n L j with
   | .bool b'=>bif b'==b then none else some (d,undef)
   | .tuple ⟨[]⟩=>some (d,undef)
   |_=>none
  |none=>match o.op with
   | .pick c x y=>match ev n L c with
    | .bool true=>match ev n L x with
     | .bool v=>some (d,.bool v)
     |_=>none
    | .bool false=>match ev n L y with
     | .bool v=>some (d,.bool v)
     |_=>none
    |_=>none
   | .move x=>match ev n L x with
    | .bool v=>some (d,.bool v)
    |_=>none
   |_=>none
def wM (ops:Array Oper) (n:Fr):List Oper→List (Nat×Value)→Option (List (Nat×Value))
 |[],L=>some L
 |o::r,L=>match wO ops n L o with
  |some p=>wM ops n r (p::L)
  |none=>none
section
variable {P:Program} {Q:Exit→Act→World→Prop} {n:Fr} {L:List (Nat×Value)} {w:World} {ops:Array Oper} {rest:List Oper}
theorem wN {o:Oper} {p:Nat×Value} (h:wO ops n L o=some p) (k:St P ops Q rest n (p::L) w):St P ops Q (o::rest) n L w:=by
 obtain ⟨dst,op,ty,pos,after,g⟩:=o;unfold wO at h;cases dst with
 |none=>cases h
 |some d=>
  cases g with
  |some gb=>
   obtain ⟨j,b⟩:=gb;simp only at h;split at h
   ·rename_i b' hw;cases hb:b'==b with
    |true=>rw [hb] at h;cases h
    |false=>rw [hb] at h;cases h;exact ar hw hb k
   ·rename_i hw;cases h;exact c_ hw k
   ·cases h
  |none=>
   simp only at h;split at h
   ·split at h
    ·rename_i hc;split at h
     ·rename_i v hx;cases h;exact ab (aL hc hx) k
     ·cases h
    ·rename_i hc;split at h
     ·rename_i v hx;cases h;exact ab (ay hc hx) k
     ·cases h
    ·cases h
   ·split at h
    ·rename_i v hx;cases h;exact ab (aB hx) k
    ·cases h
   ·cases h
theorem bB:∀ {rest:List Oper} {L L':List (Nat×Value)} (_:wM ops n rest L=some L') (_:St P ops Q [] n L' w),St P ops Q rest n L w:=by
 intro rest
 induction rest with
 |nil=>intro L L' h k;cases h;exact k
 |cons o r ih=>
  intro L L' h k;unfold wM at h;split at h
  ·rename_i p hp;exact wN hp (ih h k)
  ·cases h
end
end Go.Proofs.YtkpooenofjdpmaaGreat
namespace Go.Proofs.YtkpooenofjdpmaaGreat
open Go.Proofs.Tryz (prog)
open Go.RowKit
open Go.ChangeShapes Go.WideShapes Go.ChangeAt
theorem cI:cL prog 39 4=some 4:=by kernel_rfl
theorem fR:cL prog 39 5=some 5:=by kernel_rfl
theorem iB:cL prog 39 6=some 6:=by kernel_rfl
theorem dA:cL prog 39 7=some 7:=by kernel_rfl
theorem da:cL prog 39 10=some 10:=by kernel_rfl
theorem kg:aP prog 139=true:=by kernel_rfl
theorem fQ:cL prog 39 8=some 8:=by kernel_rfl
theorem kh:cL prog 39 12=some 12:=by kernel_rfl
theorem iQ:cL prog 39 11=some 11:=by kernel_rfl
theorem eN:cL prog 39 9=some 9:=by kernel_rfl
def eJ (lo hi:Int) (xs:List Int):Prop:=∀ x∈xs,lo≤x∧x≤hi
instance (lo hi:Int) (xs:List Int):Decidable (eJ lo hi xs):=by unfold eJ;exact inferInstance
theorem bA {lo hi:Int}:eJ lo hi []↔True:=by simp [eJ]
theorem bu {lo hi x:Int} {l:List Int}:eJ lo hi (x::l)↔(lo≤x∧x≤hi)∧eJ lo hi l:=by simp [eJ]
theorem o3 {lo hi x:Int} {l:List Int}:eJ lo hi (l++[x])↔eJ lo hi l∧(lo≤x∧x≤hi):=by
 simp only [eJ,List.mem_append,List.mem_singleton];exact ⟨fun h=>⟨fun y hy=>h y (.inl hy),h x (.inr rfl)⟩,fun h y hy=>hy.elim (h.1 y) (fun e=>e ▸ h.2)⟩
theorem zB (d:ByteArray):(d.toList==(⟨#[]⟩:ByteArray).toList)=decide (d.size=0):=by
 obtain ⟨⟨l⟩⟩:=d;rw [ByteArray.toList_eq,ByteArray.toList_eq];cases l with
 |nil=>rfl
 |cons a r=>rfl
theorem bz:(⟨#[]⟩:ByteArray).size=0:=rfl
def ExR (k ix lt cm rd:Int) (ok:Bool) (n:Nat) (a:Int) (d:ByteArray) (dn:Bool):Prop:=
 if k=1 then cm=0∧rd=0∧ok.toNat=0∧n=0∧a=0∧d.size=0∧dn.toNat=0
 else if k=2 then ix=0∧lt=0∧cm=0∧rd=0∧n=0∧a=0∧d.size=0∧dn.toNat=0
 else if k=3 then ok.toNat=0∧a=0∧d.size=0∧dn.toNat=0
 else if k=4 then lt=0∧cm=0∧n=0∧a=0∧d.size=0∧dn.toNat=0
 else if k=5 then cm=0∧ok.toNat=0∧n=0
 else if k=6 then lt=0∧cm=0∧ok.toNat=0∧n=0∧d.size=0∧dn.toNat=0
 else ix=0∧lt=0∧cm=0∧rd=0∧ok.toNat=0∧n=0∧a=0∧d.size=0∧dn.toNat=0
instance (k ix lt cm rd:Int) (ok:Bool) (n:Nat) (a:Int) (d:ByteArray) (dn:Bool):Decidable (ExR k ix lt cm rd ok n a d dn):=by unfold ExR;exact inferInstance
def gK (k f t tm ix lt cm rd a:Int):Prop:=(1≤k∧k≤6)∧(1≤f∧f≤7)∧(1≤t∧t≤7)∧(0≤tm∧tm≤1099511627775)∧(0≤ix∧ix≤1099511627775)∧(0≤lt∧lt≤1099511627775)∧(0≤cm∧cm≤1099511627775)∧(0≤rd∧rd≤1099511627775)∧(0≤a∧a≤1099511627775)
instance (k f t tm ix lt cm rd a:Int):Decidable (gK k f t tm ix lt cm rd a):=by unfold gK;exact inferInstance
def pF (k ix lt:Int) (es:List Ent):Prop:=k=3→es.length≤16∧eH es ix lt=true
instance (k ix lt:Int) (es:List Ent):Decidable (pF k ix lt es):=by unfold pF;exact inferInstance
def mY (k ix a:Int) (d:ByteArray):Prop:=k=5→(1≤ix∧ix≤1099511625728)∧a≤524288∧d.size≤1024
instance (k ix a:Int) (d:ByteArray):Decidable (mY k ix a d):=by unfold mY;exact inferInstance
def OkR (k f t tm ix lt cm rd:Int) (ok:Bool) (es:List Ent) (a:Int) (d:ByteArray) (dn:Bool):Prop:=
 gK k f t tm ix lt cm rd a∧ExR k ix lt cm rd ok es.length a d dn∧pF k ix lt es∧mY k ix a d
instance (k f t tm ix lt cm rd:Int) (ok:Bool) (es:List Ent) (a:Int) (d:ByteArray) (dn:Bool):Decidable (OkR k f t tm ix lt cm rd ok es a d dn):=by unfold OkR;exact inferInstance
theorem Bd {xs:List Int} {k:Nat} (h:k<xs.length):(xs.map iV).toArray[k]? =some (iV xs[k]):=by simp [h]
theorem lK (lo hi:Int) (g m c:Nat) (xs:List Int) (w:World) (hm:m=xs.length) (hb:Blk w g 3 (xs.map iV).toArray) (hl:xs.length≤1000) :
 Rt prog 139 [.int .i64 lo,.int .i64 hi,.slice (some ⟨g,0,none⟩) m c] w (fun v w'=>v=.bool (decide (eJ lo hi xs))∧w=w'):=by
 refine enter (n:=24) Tryz.func139 rfl rfl rfl (an (af (asb rfl (ak (ag (an (an (af (mvs rfl (ab (bL bP rfl) (mvi rfl (ak (ag (bf (cS (G:=Nat) [6,8,12,13,14,15,16,17,18,19,20,21,22,23] (fun k=>[(11,.int .i64 (k:Nat))]) (fun k w'=>k≤xs.length∧eJ lo hi (xs.take k)∧w=w') (fun k=>xs.length-k) (0) ⟨rfl,trivial⟩ ?_ ?_)))))))))))))))
 ·exact ⟨Nat.zero_le _,bA.2 trivial,rfl⟩
 rintro k ρ1 w1 ⟨hk,ha,rfl⟩;refine an (af (ab (bZ rfl rfl) (ak (ag (an (Bu rfl (fun Q2=>?_) (fun Q2=>?_)))))))
 ·have hkx:k<xs.length:=by omega
  refine aN (ag (an (bf (an (af (ab (bp aV rfl rfl (by omega)) (ab (au ao rfl (by exact hb.rd k (Bd hkx))) ?_)))))));refine asi rfl (ak (ag (an (af (mvi rfl (mvi rfl (ab (bZ rfl rfl) (mvb rfl (AU (t:=18) rfl (fun Q3=>?_) (fun Q3=>?_))))))))))
  ·refine bB rfl (ak (ag (a_ rfl (an (af (asb rfl (ak (ag (aE (bG (aG (aG (bG (aG (bt (v:=.bool _) rfl rfl (⟨congrArg Value.bool ?_,rfl⟩))))))))))))))));rw [eq_comm,decide_eq_false_iff_not];intro h;have:=h _ (List.getElem_mem hkx);omega
  refine ae rfl (mvi rfl (ae rfl (mvi rfl (ae rfl (ab (cy rfl rfl) (ab (ay (v:=.bool _) rfl rfl) (ak (ag (Bu rfl (fun Q4=>?_) (fun Q4=>?_))))))))))
  ·refine an (af (asb rfl (ak (ag (aE (bG (aG (aG (bG (aG (bt (v:=.bool _) rfl rfl (⟨congrArg Value.bool ?_,rfl⟩))))))))))));rw [eq_comm,decide_eq_false_iff_not];intro h;have:=h _ (List.getElem_mem hkx);omega
  refine aN (bq (ag (af (ab (cF (b:=1) rfl rfl (by omega)) (mvi rfl (ak ?_))))));refine cG (k+1) ⟨(by first | rfl | (refine bo ?_;omega)),trivial⟩ (by (iterate 30 refine bE rfl ?_);exact bX) ⟨?_,?_⟩
  ·exact ⟨by omega,by rw [List.take_succ_eq_append_getElem hkx];exact o3.2 ⟨ha,by omega⟩,rfl⟩
  ·omega
 obtain rfl:k=xs.length:=by omega
 rw [List.take_length] at ha;refine cz (bk (bk (bW (ag (an (af (asb rfl (ak (ag (aE (bt (v:=.bool _) rfl rfl (⟨congrArg Value.bool (decide_eq_true ha).symm,rfl⟩))))))))))))
theorem zr (k f t tm ix lt cm rd:Int) (ok:Bool) (E:Option Addr) (n c:Nat) (a:Int) (d:ByteArray) (dn:Bool) (w:World) :
 Rt prog 140 [.agg #[.int .i64 k,.int .i64 f,.int .i64 t,.int .i64 tm,.int .i64 ix,.int .i64 lt,.int .i64 cm,.int .i64 rd,.bool ok,.slice E n c,.int .i64 a,.string d,.bool dn]] w (fun v w'=>v=.bool (decide (ix=0∧lt=0∧cm=0∧rd=0∧a=0∧ok.toNat=0∧dn.toNat=0∧d.size=0∧n=0))∧ai w w'):=by
 refine enter (n:=36) Tryz.func140 rfl rfl rfl (an (af (bQ (v:=.agg _) rfl ?_)));intro b1 w1 E1 hb1 hk1;refine asb rfl (ak (ag (an (af (ab (aa cI rfl) (ab (au ao rfl (by exact (hk1.from_ ai.rfl_).rd 4 rfl)) ?_))))));refine ab (aa fR rfl) (ab (au ao rfl (by exact (hk1.from_ ai.rfl_).rd 5 rfl)) ?_);refine ab (aa iB rfl) (ab (au ao rfl (by exact (hk1.from_ ai.rfl_).rd 6 rfl)) ?_);refine ab (aa dA rfl) (ab (au ao rfl (by exact (hk1.from_ ai.rfl_).rd 7 rfl)) ?_);refine ab (aa da rfl) (ab (au ao rfl (by exact (hk1.from_ ai.rfl_).rd 10 rfl)) ?_);refine lP [.tmp 4,.tmp 6,.tmp 8,.tmp 10,.tmp 12] [.int _ _,.int _ _,.int _ _,.int _ _,.int _ _] bS rfl rfl rfl rfl (by simp [Value.cells]) ?_;intro b13 w2 E13 hb13 hk13;refine aC kg (lK 0 0 b13 5 5 [ix,lt,cm,rd,a] _ rfl hk13 (by simp)) ?_;rintro v14 w3 ⟨rfl,rfl⟩;refine mvb rfl (AU (t:=15) rfl (fun Q4=>?_) (fun Q4=>?_))
 ·simp only [bu,bA,and_true] at Q4;refine ae rfl (ab (aa fQ rfl) (ae rfl (ab (au eU rfl (by exact (hk1.from_ (ai.rfl_.next E13)).rd 8 rfl)) ?_)));refine ae rfl (ab (cp rfl) (ab (aL (v:=.bool _) rfl rfl) (mvb rfl (AS (t:=20) rfl (fun Q5=>?_) (fun Q5=>?_)))))
  ·have ho:ok.toNat=0:=by cases ok <;> simp_all
   refine ae rfl (ab (aa kh rfl) (ae rfl (ab (au eU rfl (by exact (hk1.from_ (ai.rfl_.next E13)).rd 12 rfl)) ?_)));refine ae rfl (ab (cp rfl) (ab (aL (v:=.bool _) rfl rfl) (mvb rfl (AS (t:=25) rfl (fun Q6=>?_) (fun Q6=>?_)))))
   ·have hd:dn.toNat=0:=by cases dn <;> simp_all
    refine ae rfl (ab (aa iQ rfl) (ae rfl (ab (au cD rfl (by exact (hk1.from_ (ai.rfl_.next E13)).rd 11 rfl)) ?_)));refine ae rfl (ab (eI (kY rfl rfl) (congrArg Value.bool (zB d))) (ab (aL (v:=.bool _) rfl rfl) (mvb rfl (AU (t:=30) rfl (fun Q7=>?_) (fun Q7=>?_)))))
    ·refine ae rfl (ab (aa eN rfl) (ae rfl (ab (au cU rfl (by exact (hk1.from_ (ai.rfl_.next E13)).rd 9 rfl)) ?_)));refine ae rfl (ab (bL db rfl) (ae rfl ?_));refine ab (eI (bh rfl rfl) (congrArg Value.bool (show (((n:Nat):Int)==0)=decide (n=0) by rw [Bool.eq_iff_iff,beq_iff_eq,decide_eq_true_eq];omega))) ?_;refine ab (aL (v:=.bool _) rfl rfl) (asb rfl (ak (ag (aE (bt (v:=.bool _) rfl rfl (⟨congrArg Value.bool ?_,((ai.rfl_.next E1).next E13)⟩))))))
     first
      |(rw [eq_comm,decide_eq_false_iff_not];omega)
      |(rw [decide_eq_decide];omega)
      |(rw [eq_comm,decide_eq_true_eq];omega)
    refine ar rfl rfl (ar rfl rfl (ar rfl rfl (ar rfl rfl (ab (ay (v:=.bool _) rfl rfl) (asb rfl (ak (ag (aE (bt (v:=.bool _) rfl rfl (⟨congrArg Value.bool ?_,((ai.rfl_.next E1).next E13)⟩))))))))))
    first
     |(rw [eq_comm,decide_eq_false_iff_not];omega)
     |(rw [decide_eq_decide];omega)
     |(rw [eq_comm,decide_eq_true_eq];omega)
   have hd:dn.toNat=1:=by cases dn <;> simp_all
   refine ar rfl rfl (ar rfl rfl (ar rfl rfl (ab (ay (v:=.bool _) rfl rfl) (mvb rfl (ar rfl rfl (ar rfl rfl (ar rfl rfl (ar rfl rfl ?_))))))));refine ab (ay (v:=.bool _) rfl rfl) (asb rfl (ak (ag (aE (bt (v:=.bool _) rfl rfl (⟨congrArg Value.bool ?_,((ai.rfl_.next E1).next E13)⟩))))))
   first
    |(rw [eq_comm,decide_eq_false_iff_not];omega)
    |(rw [decide_eq_decide];omega)
    |(rw [eq_comm,decide_eq_true_eq];omega)
  have ho:ok.toNat=1:=by cases ok <;> simp_all
  refine ar rfl rfl (ar rfl rfl (ar rfl rfl (ab (ay (v:=.bool _) rfl rfl) (mvb rfl (ar rfl rfl (ar rfl rfl (ar rfl rfl (ab (ay (v:=.bool _) rfl rfl) ?_))))))));refine mvb rfl (ar rfl rfl (ar rfl rfl (ar rfl rfl (ar rfl rfl (ab (ay (v:=.bool _) rfl rfl) (asb rfl (ak (ag (aE (bt (v:=.bool _) rfl rfl ?_))))))))));refine ⟨congrArg Value.bool ?_,((ai.rfl_.next E1).next E13)⟩
  first
   |(rw [eq_comm,decide_eq_false_iff_not];omega)
   |(rw [decide_eq_decide];omega)
   |(rw [eq_comm,decide_eq_true_eq];omega)
 simp only [bu,bA,and_true] at Q4;refine ar rfl rfl (ar rfl rfl (ar rfl rfl (ab (ay (v:=.bool _) rfl rfl) (mvb rfl (ar rfl rfl (ar rfl rfl (ar rfl rfl (ab (ay (v:=.bool _) rfl rfl) ?_))))))));refine mvb rfl (ar rfl rfl (ar rfl rfl (ar rfl rfl (ab (ay (v:=.bool _) rfl rfl) (mvb rfl (ar rfl rfl (ar rfl rfl (ar rfl rfl ?_))))))));refine ar rfl rfl (ab (ay (v:=.bool _) rfl rfl) (asb rfl (ak (ag (aE (bt (v:=.bool _) rfl rfl (⟨congrArg Value.bool ?_,((ai.rfl_.next E1).next E13)⟩)))))))
 first
  |(rw [eq_comm,decide_eq_false_iff_not];omega)
  |(rw [decide_eq_decide];omega)
  |(rw [eq_comm,decide_eq_true_eq];omega)
theorem gI:jr prog 54=some true:=by kernel_rfl
theorem eS:ec prog 54=some 4:=by kernel_rfl
theorem jq:cL prog 54 0=some 0:=by kernel_rfl
theorem jo:cL prog 54 1=some 1:=by kernel_rfl
theorem gu:cL prog 54 2=some 2:=by kernel_rfl
theorem ef:cL prog 54 3=some 3:=by kernel_rfl
theorem kR:aP prog 92=true:=by kernel_rfl
theorem eK:(gd prog 27).isSome=true:=by kernel_rfl
theorem eT:gd prog 27=some (54,4):=by kernel_rfl
theorem yB:aP prog 87=true:=by kernel_rfl
theorem yA:aP prog 91=true:=by kernel_rfl
theorem du:jr prog 27=some false:=by kernel_rfl
theorem yC:aP prog 42=true:=by kernel_rfl
theorem Bk (A B:Option Addr) (ca cb:Nat) (a b:List Int) (w:World) (ha:dW iV w A a) (hb:dW iV w B b) (hla:a.length*8≤140737488351232) :
 Rt prog 92 [.slice A a.length ca,.slice B b.length cb] w (fun v w'=>v=.bool (decide (a=b))∧ai w w'):=by
 refine enter (n:=26) Tryz.func92 rfl rfl rfl (an (af (asb rfl (ak (ag (an (an (af (mvs rfl (ab (bL bP rfl) (mvs rfl (ab (bL bP rfl) (ab (de rfl rfl) ?_)))))))))))));refine ak (ag (aU rfl (fun Q1=>?_) (fun Q1=>?_)))
 ·replace Q1:=dS Q1;replace Q1:=ei Q1;refine an (af (asb rfl (ak (ag (aE (aG (bt (v:=.bool _) rfl rfl ?_)))))));exact ⟨by rw [decide_eq_false];rintro rfl;omega,ai.rfl_⟩
 replace Q1:=dU Q1;replace Q1:=eh Q1;refine aN (ag (an (an (af (asi rfl (ak (ag (bf (cS (G:=Nat) [4,11,12,13,14,15,16,17,18,19,20,21,22,23,24,25] (fun k=>[(5,.int .i64 (k:Nat))]) (fun k w'=>k≤a.length∧a.take k=b.take k∧ai w w') (fun k=>a.length-k) (0) ⟨rfl,trivial⟩ ?_ ?_)))))))))
 ·exact ⟨Nat.zero_le _,rfl,ai.rfl_⟩
 rintro k ρ2 w2 ⟨hk,ht,hB⟩;refine an (an (af (mvi rfl (mvs rfl (ab (bL bP rfl) (ab (bZ rfl rfl) (ak (ag (Bu rfl (fun Q3=>?_) (fun Q3=>?_))))))))))
 ·obtain ⟨ba,oa,rfl,ca⟩:=ha (by omega);obtain ⟨bb,ob,rfl,cb⟩:=hb (by omega);refine aN (ag (an (bf (an ?_))));apply sw 9 [(17,eqp _),(18,eqp _),(19,eqp _),(20,eqp _),(21,eqp _),(22,eqp _),(23,eqp _),(24,eqp _),(25,eqp _)] (by kernel_rfl) (by kernel_rfl) ⟨ah _,ah _,ah _,ah _,ah _,ah _,ah _,ah _,ah _,trivial⟩
  case hop=>
   constructor
   ·intro w5 D5;exact aq (aB (v:=.slice _ _ _) rfl) rfl
   constructor
   ·intro w6 D6;exact aq (aB (v:=.int _ _) rfl) rfl
   constructor
   ·intro w7 D7;rintro _ rfl _ rfl;exact aq (cr aV rfl rfl (by omega)) rfl
   constructor
   ·intro w8 D8;rintro _ rfl;exact aq (au ao rfl (by first | (exact dg (hB.next D8) (ca k (by omega))) | (exact dg (hB.next D8) (cb k (by omega))))) rfl
   constructor
   ·intro w9 D9;exact aq (aB (v:=.slice _ _ _) rfl) rfl
   constructor
   ·intro w10 D10;exact aq (aB (v:=.int _ _) rfl) rfl
   constructor
   ·intro w11 D11;rintro _ rfl _ rfl;exact aq (cr aV rfl rfl (by omega)) rfl
   constructor
   ·intro w12 D12;rintro _ rfl;exact aq (au ao rfl (by first | (exact dg (hB.next D12) (ca k (by omega))) | (exact dg (hB.next D12) (cb k (by omega))))) rfl
   constructor
   ·intro w13 D13;rintro _ rfl _ rfl;exact aq (de rfl rfl) rfl
   exact trivial
  case hend=>
   intro w14 D14;rintro _ rfl _ rfl _ rfl _ rfl _ rfl _ rfl _ rfl _ rfl _ rfl;show St ..;refine ak (ag (aU rfl (fun Q15=>?_) (fun Q15=>?_)))
   ·replace Q15:=dS Q15;replace Q15:=ei Q15;refine an (af (asb rfl (ak (ag (aE (bG (aG (aG (bG (aG (bt (v:=.bool _) rfl rfl ?_)))))))))));exact ⟨by rw [decide_eq_false];rintro rfl;exact absurd rfl (by assumption),(hB.next D14)⟩
   replace Q15:=dU Q15;replace Q15:=eh Q15;refine aN (bq (ag (af (mvi rfl (ab (b0 rfl rfl (by omega)) (asi rfl (ak ?_)))))));refine cG (k+1) ⟨(by first | rfl | (refine bo ?_;omega)),trivial⟩ (by (iterate 33 refine bE rfl ?_);exact bX) ⟨?_,?_⟩
   ·exact ⟨by omega,uO (by omega) (by omega) ht (by omega),(hB.next D14)⟩
   ·omega
 refine cz (bk (bk (bW (ag (an (af (asb rfl (ak (ag (aE (bt (v:=.bool _) rfl rfl (⟨by rw [decide_eq_true (zT (by omega) (by omega) ht)],hB⟩))))))))))))
theorem oO (A B:Option Addr) (ca cb:Nat) (l:List Int) (w:World) (ha:dW iV w A l) (hb:dW iV w B l) (hl:l.length≤1000000):Rt prog 92 [.slice A l.length ca,.slice B l.length cb] w fun v w'=>v=.bool true∧ai w w':=
 (Bk A B ca cb l l w ha hb (by omega)).mono fun v w' h=>⟨by rw [h.1,decide_eq_true rfl],h.2⟩
theorem AH (B T:Int) (A A':Option Addr) (n n' c c':Nat) (xs:List Ent) (w:World) (h1:cH w (.slice A n c) xs) (h2:cH w (.slice A' n' c') xs) (hl:xs.length≤1000000):Rt prog 91 [.agg #[.int .i64 B,.int .i64 T,.slice A n c],.agg #[.int .i64 B,.int .i64 T,.slice A' n' c']] w fun v w'=>v=.bool true∧ai w w':=Rt.of (ua B T _ _ xs w h1 h2 (by omega))
theorem vU (q:Rd) (A B:Option Addr) (ca cb:Nat) (w:World) (ha:dW iV w A q.acks) (hb:dW iV w B q.acks) (hl:q.acks.length≤1000000) :
 Rt prog 87 [.agg (rdV (q,A,ca)).toArray,.agg (rdV (q,B,cb)).toArray] w (fun v w'=>v=.bool true∧ai w w'):=by
 refine enter (n:=31) Tryz.func87 rfl rfl rfl (an (af (bQ (v:=.agg _) rfl ?_)));intro b2 w1 E2 hb2 hk2;refine bQ (v:=.agg _) rfl ?_;intro b3 w2 E3 hb3 hk3;replace hk2:=hk2.from_ E3;refine asb rfl (ak (ag (an (af (ab (aa jq rfl) (ab (au ao rfl (by exact (show _=some (Value.int .i64 q.id) from (hk2.from_ ai.rfl_).rd 0 rfl))) ?_))))));refine ab (aa jq rfl) (ab (au ao rfl (by exact (show _=some (Value.int .i64 q.id) from (hk3.from_ ai.rfl_).rd 0 rfl))) ?_);refine ab (dd (bh rfl rfl) (beq_self_eq_true _)) (mvb rfl (ae rfl (ab (aa jo rfl) (ae rfl (ab (au ao rfl (by exact (show _=some (Value.int .i64 q.ix) from (hk2.from_ ai.rfl_).rd 1 rfl))) ?_)))));refine ae rfl (ab (aa jo rfl) (ae rfl (ab (au ao rfl (by exact (show _=some (Value.int .i64 q.ix) from (hk3.from_ ai.rfl_).rd 1 rfl))) ?_)));refine ae rfl (ab (dd (bh rfl rfl) (beq_self_eq_true _)) (ab (aL (v:=.bool _) rfl rfl) (mvb rfl (ae rfl (ab (aa gu rfl) (ae rfl (ab (au ao rfl (by exact (show _=some (Value.int .i64 q.rn) from (hk2.from_ ai.rfl_).rd 2 rfl))) ?_)))))));refine ae rfl (ab (aa gu rfl) (ae rfl (ab (au ao rfl (by exact (show _=some (Value.int .i64 q.rn) from (hk3.from_ ai.rfl_).rd 2 rfl))) ?_)));refine ae rfl (ab (dd (bh rfl rfl) (beq_self_eq_true _)) (ab (aL (v:=.bool _) rfl rfl) (mvb rfl (ae rfl (ab (aa ef rfl) (ae rfl (ab (au aR rfl (by exact (show _=some (Value.slice A q.acks.length ca) from (hk2.from_ ai.rfl_).rd 3 rfl))) ?_)))))));refine ae rfl (ab (aa ef rfl) (ae rfl (ab (au aR rfl (by exact (show _=some (Value.slice B q.acks.length cb) from (hk3.from_ ai.rfl_).rd 3 rfl))) ?_)));refine ae rfl (aC kR (oO A B ca cb q.acks _ (ha.from_ ((ai.rfl_.next E2).next E3)) (hb.from_ ((ai.rfl_.next E2).next E3)) hl) ?_);rintro v29 w3 ⟨rfl,E29⟩;refine ab (aL (v:=.bool _) rfl rfl) (asb rfl (ak (ag (aE (bt (v:=.bool _) rfl rfl (⟨rfl,(((ai.rfl_.next E2).next E3).next E29)⟩))))))
theorem t_ (x y:Rd×Option Addr×Nat) (w:World) (h:x.1=y.1) (ha:dW iV w x.2.1 x.1.acks) (hb:dW iV w y.2.1 y.1.acks) (hl:x.1.acks.length≤1000000):Rt prog 87 [.agg (rdV x).toArray,.agg (rdV y).toArray] w fun v w'=>v=.bool true∧ai w w':=by
 obtain ⟨q,A,ca⟩:=x;obtain ⟨q2,B,cb⟩:=y;obtain rfl:q=q2:=h;exact vU q A B ca cb w ha hb hl
theorem tZ (A B:Option Addr) (ca cb n:Nat) (X Y:List (Rd×Option Addr×Nat)) (w:World) (hr:iv 4 rdV w A X) (hr2:iv 4 rdV w B Y) (hX:X.length=n) (hY:Y.length=n) (hp:X.map (fun q=>q.1)=Y.map (fun q=>q.1)) (hE:∀ x∈X,IR w x.2.1 x.2.2 x.1.acks) (hE2:∀ x∈Y,IR w x.2.1 x.2.2 x.1.acks) (hle:∀ x∈X,x.1.acks.length≤1000000) (hn:n≤1000000) :
 Rt prog 42 [.slice A n ca,.slice B n cb] w (fun v w'=>v=.bool true∧ai w w'):=by
 refine enter (n:=27) Tryz.func42 rfl rfl rfl (an (af (asb rfl (ak (ag (an (an (af (mvs rfl (ab (bL eK rfl) (mvs rfl (ab (bL eK rfl) (ab (bY (de rfl rfl) (bne_self_eq_false _)) ?_)))))))))))));refine ak (ag (bc rfl (aN (ag (an (an (af (asi rfl (ak (ag (bf (cS (G:=Nat) [4,11,12,13,14,15,16,17,18,19,20,21,22,23,24,25,26] (fun k=>[(5,.int .i64 (k:Nat))]) (fun k w'=>k≤n∧ai w w') (fun k=>n-k) (0) ⟨rfl,trivial⟩ ?_ ?_))))))))))))
 ·exact ⟨Nat.zero_le _,ai.rfl_⟩
 rintro k ρ1 w1 ⟨hk,hB⟩;refine an (an (af (mvi rfl (mvs rfl (ab (bL eK rfl) (ab (bZ rfl rfl) (ak (ag (Bu rfl (fun Q2=>?_) (fun Q2=>?_))))))))))
 ·have hkX:k<X.length:=by omega
  have hkY:k<Y.length:=by omega
  obtain ⟨ba,oa,rfl,hca⟩:=hr (by omega);obtain ⟨bb,ob,rfl,hcb⟩:=hr2 (by omega);have hxk:=hE _ (List.getElem_mem hkX);have hyk:=hE2 _ (List.getElem_mem hkY);have hlk:=hle _ (List.getElem_mem hkX)
  have hpk:X[k].1=Y[k].1:=by
   have h9:(X.map (fun q=>q.1))[k]? =(Y.map (fun q=>q.1))[k]? :=by rw [hp]
   rw [List.getElem?_map,List.getElem?_map,List.getElem?_eq_getElem hkX,List.getElem?_eq_getElem hkY] at h9;exact Option.some.inj h9
  refine aN (ag (an (bf (an ?_))));apply bD 10 [(17,eqp _),(18,eqp _),(19,eqp _),(20,eqp (.agg (rdV X[k]).toArray)),(21,eqp _),(22,eqp _),(23,eqp _),(24,eqp (.agg (rdV Y[k]).toArray)),(25,eqp _),(26,eqp _)] (by repeat first | exact cl | refine ck ?_ | refine bM ?_) (by kernel_rfl) (by kernel_rfl) ⟨ah _,ah _,ah _,ah _,ah _,ah _,ah _,ah _,ah _,ah _,trivial⟩
  case hop=>
   constructor
   ·rintro-w4 D4;exact aq (aB (v:=.slice _ _ _) rfl) rfl
   constructor
   ·rintro-w5 D5;exact aq (aB (v:=.int _ _) rfl) rfl
   constructor
   ·rintro-w6 D6;rintro _ rfl _ rfl;exact aq (bN eT rfl rfl (by omega)) rfl
   constructor
   ·rintro-w7 D7;rintro _ rfl;exact aq (aK (cs:=rdV X[k]) gI eS rfl (ft (hB.next D7) (hca k hkX))) rfl
   constructor
   ·rintro-w8 D8;exact aq (aB (v:=.slice _ _ _) rfl) rfl
   constructor
   ·rintro-w9 D9;exact aq (aB (v:=.int _ _) rfl) rfl
   constructor
   ·rintro-w10 D10;rintro _ rfl _ rfl;exact aq (bN eT rfl rfl (by omega)) rfl
   constructor
   ·rintro-w11 D11;rintro _ rfl;exact aq (aK (cs:=rdV Y[k]) gI eS rfl (ft (hB.next D11) (hcb k hkY))) rfl
   constructor
   ·rintro-w12 D12;rintro v12_20 rfl v12_24 rfl;refine gD yB ((t_ X[k] Y[k] _ hpk (hxk.1.from_ (hB.next D12)) (hyk.1.from_ (hB.next D12)) hlk).mono ?_);rintro v _ ⟨rfl,E12'⟩;exact ⟨E12',rfl⟩
   constructor
   ·rintro-w13 D13;rintro _ rfl;exact aq (cp rfl) rfl
   exact trivial
  case hend=>
   intro w14 D14;rintro _ rfl _ rfl _ rfl v20 rfl _ rfl _ rfl _ rfl v24 rfl _ rfl _ rfl;show St ..;refine ak (ag (Br rfl (fun Q15=>?_) (fun Q15=>?_)))
   ·exfalso;contradiction
   refine aN (bq (ag (af (mvi rfl (ab (cF (b:=1) rfl rfl (by omega)) (asi rfl (ak ?_)))))));refine cG (k+1) ⟨(by first | rfl | (refine bo ?_;omega)),trivial⟩ (by (iterate 35 refine bE rfl ?_);exact bX) ⟨?_,?_⟩
   ·exact ⟨by omega,(hB.next D14)⟩
   ·omega
 refine cz (bk (bk (bW (ag (an (af (asb rfl (ak (ag (aE (bt (v:=.bool _) rfl rfl (⟨rfl,hB⟩))))))))))))
theorem uY {s:Rf} {a:Ra} {w:World} {b T:Nat} (hb:Blk w b T (rfV s a).toArray):w.rangeAt b 6 [.int .i64 s.b,.int .i64 s.t,.slice a.E s.es.length a.Ec]:=hb.range 6 _ (fun j v hj=>by
 match j,hj with
 |0,hj=>exact hj
 |1,hj=>exact hj
 |2,hj=>exact hj
 |j+3,hj=>simp at hj)
theorem fW (s:Rf) (a b:Ra) (w:World) (ha:eQ w s a) (hb:eQ w s b) (hl:s.es.length≤1000000∧s.votes.length≤1000000∧s.next.length≤1000000∧s.mtch.length≤1000000∧s.sent.length≤1000000∧s.reads.length≤1000000∧∀ q∈s.reads,q.acks.length≤1000000) :
 Rt prog 49 [.agg (rfV s a).toArray,.agg (rfV s b).toArray] w (fun v w'=>v=.bool true∧ai w w'):=by
 obtain ⟨hl0,hl1,hl2,hl3,hl4,hl5,hl6⟩:=hl;have hla:a.L.length=s.reads.length:=by rw [←ha.r,List.length_map]
 have hlb:a.L.length=b.L.length:=by rw [hla,←hb.r,List.length_map]
 refine enter (n:=143) Tryz.func49 rfl rfl rfl (an (af (bQ (v:=.agg _) rfl ?_)));intro b2 w1 E2 hb2 hk2;refine bQ (v:=.agg _) rfl ?_;intro b3 w2 E3 hb3 hk3;replace hk2:=hk2.from_ E3;refine asb rfl (ak (ag (an (af (ab (aa cu rfl) (ab (au ao rfl (by exact (show _=some (Value.int .i64 s.id) from (hk2.from_ ai.rfl_).rd 0 rfl))) ?_))))));refine ab (aa cu rfl) (ab (au ao rfl (by exact (show _=some (Value.int .i64 s.id) from (hk3.from_ ai.rfl_).rd 0 rfl))) ?_);refine ab (dd (bh rfl rfl) (beq_self_eq_true _)) (mvb rfl (ae rfl (ab (aa cg rfl) (ae rfl (ab (au ao rfl (by exact (show _=some (Value.int .i64 s.nodes) from (hk2.from_ ai.rfl_).rd 1 rfl))) ?_)))));refine ae rfl (ab (aa cg rfl) (ae rfl (ab (au ao rfl (by exact (show _=some (Value.int .i64 s.nodes) from (hk3.from_ ai.rfl_).rd 1 rfl))) ?_)));refine ae rfl (ab (dd (bh rfl rfl) (beq_self_eq_true _)) (ab (aL (v:=.bool _) rfl rfl) (mvb rfl (ae rfl (ab (aa cT rfl) (ae rfl (ab (au ao rfl (by exact (show _=some (Value.int .i64 s.role) from (hk2.from_ ai.rfl_).rd 2 rfl))) ?_)))))));refine ae rfl (ab (aa cT rfl) (ae rfl (ab (au ao rfl (by exact (show _=some (Value.int .i64 s.role) from (hk3.from_ ai.rfl_).rd 2 rfl))) ?_)));refine ae rfl (ab (dd (bh rfl rfl) (beq_self_eq_true _)) (ab (aL (v:=.bool _) rfl rfl) (mvb rfl (ae rfl (ab (aa bJ rfl) (ae rfl (ab (au ao rfl (by exact (show _=some (Value.int .i64 s.term) from (hk2.from_ ai.rfl_).rd 3 rfl))) ?_)))))));refine ae rfl (ab (aa bJ rfl) (ae rfl (ab (au ao rfl (by exact (show _=some (Value.int .i64 s.term) from (hk3.from_ ai.rfl_).rd 3 rfl))) ?_)));refine ae rfl (ab (dd (bh rfl rfl) (beq_self_eq_true _)) (ab (aL (v:=.bool _) rfl rfl) (mvb rfl (ae rfl (ab (aa eZ rfl) (ae rfl (ab (au ao rfl (by exact (show _=some (Value.int .i64 s.vote) from (hk2.from_ ai.rfl_).rd 4 rfl))) ?_)))))));refine ae rfl (ab (aa eZ rfl) (ae rfl (ab (au ao rfl (by exact (show _=some (Value.int .i64 s.vote) from (hk3.from_ ai.rfl_).rd 4 rfl))) ?_)));refine ae rfl (ab (dd (bh rfl rfl) (beq_self_eq_true _)) (ab (aL (v:=.bool _) rfl rfl) (mvb rfl (ae rfl (ab (aa eM rfl) (ae rfl (ab (au ao rfl (by exact (show _=some (Value.int .i64 s.leader) from (hk2.from_ ai.rfl_).rd 5 rfl))) ?_)))))));refine ae rfl (ab (aa eM rfl) (ae rfl (ab (au ao rfl (by exact (show _=some (Value.int .i64 s.leader) from (hk3.from_ ai.rfl_).rd 5 rfl))) ?_)));refine ae rfl (ab (dd (bh rfl rfl) (beq_self_eq_true _)) (ab (aL (v:=.bool _) rfl rfl) (mvb rfl (ae rfl (ab (aa bg rfl) (ae rfl (ab (aK (cs:=[.int .i64 s.b,.int .i64 s.t,.slice a.E s.es.length a.Ec]) dm cX rfl (uY (hk2.from_ ai.rfl_))) (ae rfl ?_))))))));refine ab (aa bg rfl) (ae rfl (ab (aK (cs:=[.int .i64 s.b,.int .i64 s.t,.slice b.E s.es.length b.Ec]) dm cX rfl (uY (hk3.from_ ai.rfl_))) (ae rfl (aC yA (AH s.b s.t a.E b.E s.es.length s.es.length a.Ec b.Ec s.es _ (ha.e.from_ ((ai.rfl_.next E2).next E3)) (hb.e.from_ ((ai.rfl_.next E2).next E3)) hl0) ?_))));rintro v50 w3 ⟨rfl,E50⟩;refine ab (aL (v:=.bool _) rfl rfl) (mvb rfl (ae rfl (ab (aa cO rfl) (ae rfl (ab (au cD rfl (by exact (show _=some (Value.string s.snap) from (hk2.from_ (ai.rfl_.next E50)).rd 9 rfl))) ?_)))));refine ae rfl (ab (aa cO rfl) (ae rfl (ab (au cD rfl (by exact (show _=some (Value.string s.snap) from (hk3.from_ (ai.rfl_.next E50)).rd 9 rfl))) ?_)));refine ae rfl (ab (dd (kY rfl rfl) (beq_self_eq_true _)) (ab (aL (v:=.bool _) rfl rfl) (mvb rfl (ae rfl (ab (aa dv rfl) (ae rfl (ab (au ao rfl (by exact (show _=some (Value.int .i64 s.commit) from (hk2.from_ (ai.rfl_.next E50)).rd 10 rfl))) ?_)))))));refine ae rfl (ab (aa dv rfl) (ae rfl (ab (au ao rfl (by exact (show _=some (Value.int .i64 s.commit) from (hk3.from_ (ai.rfl_.next E50)).rd 10 rfl))) ?_)));refine ae rfl (ab (dd (bh rfl rfl) (beq_self_eq_true _)) (ab (aL (v:=.bool _) rfl rfl) (mvb rfl (ae rfl (ab (aa dK rfl) (ae rfl (ab (au ao rfl (by exact (show _=some (Value.int .i64 s.elapsed) from (hk2.from_ (ai.rfl_.next E50)).rd 11 rfl))) ?_)))))));refine ae rfl (ab (aa dK rfl) (ae rfl (ab (au ao rfl (by exact (show _=some (Value.int .i64 s.elapsed) from (hk3.from_ (ai.rfl_.next E50)).rd 11 rfl))) ?_)));refine ae rfl (ab (dd (bh rfl rfl) (beq_self_eq_true _)) (ab (aL (v:=.bool _) rfl rfl) (mvb rfl (ae rfl (ab (aa eR rfl) (ae rfl (ab (au ao rfl (by exact (show _=some (Value.int .i64 s.timeout) from (hk2.from_ (ai.rfl_.next E50)).rd 12 rfl))) ?_)))))));refine ae rfl (ab (aa eR rfl) (ae rfl (ab (au ao rfl (by exact (show _=some (Value.int .i64 s.timeout) from (hk3.from_ (ai.rfl_.next E50)).rd 12 rfl))) ?_)));refine ae rfl (ab (dd (bh rfl rfl) (beq_self_eq_true _)) (ab (aL (v:=.bool _) rfl rfl) (mvb rfl (ae rfl (ab (aa gH rfl) (ae rfl (ab (au kQ rfl (by exact (show _=some (Value.int .u64 s.seed) from (hk2.from_ (ai.rfl_.next E50)).rd 13 rfl))) ?_)))))));refine ae rfl (ab (aa gH rfl) (ae rfl (ab (au kQ rfl (by exact (show _=some (Value.int .u64 s.seed) from (hk3.from_ (ai.rfl_.next E50)).rd 13 rfl))) ?_)));refine ae rfl (ab (dd (bh rfl rfl) (beq_self_eq_true _)) (ab (aL (v:=.bool _) rfl rfl) (mvb rfl (ae rfl (ab (aa dc rfl) (ae rfl (ab (au aR rfl (by exact (show _=some (Value.slice a.V s.votes.length a.Vc) from (hk2.from_ (ai.rfl_.next E50)).rd 14 rfl))) ?_)))))));refine ae rfl (ab (aa dc rfl) (ae rfl (ab (au aR rfl (by exact (show _=some (Value.slice b.V s.votes.length b.Vc) from (hk3.from_ (ai.rfl_.next E50)).rd 14 rfl))) ?_)));refine ae rfl (aC kR (oO a.V b.V a.Vc b.Vc s.votes _ (ha.v.1.from_ (((ai.rfl_.next E2).next E3).next E50)) (hb.v.1.from_ (((ai.rfl_.next E2).next E3).next E50)) hl1) ?_);rintro v92 w4 ⟨rfl,E92⟩;refine ab (aL (v:=.bool _) rfl rfl) (mvb rfl (ae rfl (ab (aa bw rfl) (ae rfl (ab (au aR rfl (by exact (show _=some (Value.slice a.X s.next.length a.Xc) from (hk2.from_ ((ai.rfl_.next E50).next E92)).rd 15 rfl))) ?_)))));refine ae rfl (ab (aa bw rfl) (ae rfl (ab (au aR rfl (by exact (show _=some (Value.slice b.X s.next.length b.Xc) from (hk3.from_ ((ai.rfl_.next E50).next E92)).rd 15 rfl))) ?_)));refine ae rfl (aC kR (oO a.X b.X a.Xc b.Xc s.next _ (ha.x.1.from_ ((((ai.rfl_.next E2).next E3).next E50).next E92)) (hb.x.1.from_ ((((ai.rfl_.next E2).next E3).next E50).next E92)) hl2) ?_);rintro v99 w5 ⟨rfl,E99⟩;refine ab (aL (v:=.bool _) rfl rfl) (mvb rfl (ae rfl (ab (aa cf rfl) (ae rfl (ab (au aR rfl (by exact (show _=some (Value.slice a.M s.mtch.length a.Mc) from (hk2.from_ (((ai.rfl_.next E50).next E92).next E99)).rd 16 rfl))) ?_)))));refine ae rfl (ab (aa cf rfl) (ae rfl (ab (au aR rfl (by exact (show _=some (Value.slice b.M s.mtch.length b.Mc) from (hk3.from_ (((ai.rfl_.next E50).next E92).next E99)).rd 16 rfl))) ?_)));refine ae rfl (aC kR (oO a.M b.M a.Mc b.Mc s.mtch _ (ha.m.1.from_ (((((ai.rfl_.next E2).next E3).next E50).next E92).next E99)) (hb.m.1.from_ (((((ai.rfl_.next E2).next E3).next E50).next E92).next E99)) hl3) ?_);rintro v106 w6 ⟨rfl,E106⟩;refine ab (aL (v:=.bool _) rfl rfl) (mvb rfl (ae rfl (ab (aa ct rfl) (ae rfl (ab (au aR rfl (by exact (show _=some (Value.slice a.S s.sent.length a.Sc) from (hk2.from_ ((((ai.rfl_.next E50).next E92).next E99).next E106)).rd 17 rfl))) ?_)))));refine ae rfl (ab (aa ct rfl) (ae rfl (ab (au aR rfl (by exact (show _=some (Value.slice b.S s.sent.length b.Sc) from (hk3.from_ ((((ai.rfl_.next E50).next E92).next E99).next E106)).rd 17 rfl))) ?_)));refine ae rfl (aC kR (oO a.S b.S a.Sc b.Sc s.sent _ (ha.n.1.from_ ((((((ai.rfl_.next E2).next E3).next E50).next E92).next E99).next E106)) (hb.n.1.from_ ((((((ai.rfl_.next E2).next E3).next E50).next E92).next E99).next E106)) hl4) ?_);rintro v113 w7 ⟨rfl,E113⟩;refine ab (aL (v:=.bool _) rfl rfl) (mvb rfl (ae rfl (ab (aa dz rfl) (ae rfl (ab (au ao rfl (by exact (show _=some (Value.int .i64 s.round) from (hk2.from_ (((((ai.rfl_.next E50).next E92).next E99).next E106).next E113)).rd 18 rfl))) ?_)))));refine ae rfl (ab (aa dz rfl) (ae rfl (ab (au ao rfl (by exact (show _=some (Value.int .i64 s.round) from (hk3.from_ (((((ai.rfl_.next E50).next E92).next E99).next E106).next E113)).rd 18 rfl))) ?_)));refine ae rfl (ab (dd (bh rfl rfl) (beq_self_eq_true _)) (ab (aL (v:=.bool _) rfl rfl) (mvb rfl (ae rfl (ab (aa bH rfl) (ae rfl (ab (au du rfl (by exact (show _=some (Value.slice a.Q a.L.length a.Qc) from (hk2.from_ (((((ai.rfl_.next E50).next E92).next E99).next E106).next E113)).rd 19 rfl))) ?_)))))));refine ae rfl (ab (aa bH rfl) (ae rfl ?_));refine ab (au du rfl (by have h9:=(hk3.from_ (((((ai.rfl_.next E50).next E92).next E99).next E106).next E113)).rd 19 rfl;exact (show _=some (Value.slice b.Q a.L.length b.Qc) from by rw [hlb];exact h9))) ?_;refine ae rfl (aC yC (tZ a.Q b.Q a.Qc b.Qc a.L.length a.L b.L _ (ha.q.from_ (((((((ai.rfl_.next E2).next E3).next E50).next E92).next E99).next E106).next E113)) (hb.q.from_ (((((((ai.rfl_.next E2).next E3).next E50).next E92).next E99).next E106).next E113)) rfl hlb.symm (ha.r.trans hb.r.symm) (fun x hx=>(ha.k x hx).from_ (((((((ai.rfl_.next E2).next E3).next E50).next E92).next E99).next E106).next E113)) (fun x hx=>(hb.k x hx).from_ (((((((ai.rfl_.next E2).next E3).next E50).next E92).next E99).next E106).next E113)) (fun x hx=>hl6 _ (by rw [←ha.r];exact List.mem_map_of_mem hx)) (by omega)) ?_);rintro v127 w8 ⟨rfl,E127⟩;refine ab (aL (v:=.bool _) rfl rfl) (mvb rfl (ae rfl (ab (aa eb rfl) (ae rfl (ab (au cD rfl (by exact (show _=some (Value.string s.part) from (hk2.from_ ((((((ai.rfl_.next E50).next E92).next E99).next E106).next E113).next E127)).rd 20 rfl))) ?_)))));refine ae rfl (ab (aa eb rfl) (ae rfl (ab (au cD rfl (by exact (show _=some (Value.string s.part) from (hk3.from_ ((((((ai.rfl_.next E50).next E92).next E99).next E106).next E113).next E127)).rd 20 rfl))) ?_)));refine ae rfl (ab (dd (kY rfl rfl) (beq_self_eq_true _)) (ab (aL (v:=.bool _) rfl rfl) (mvb rfl (ae rfl (ab (aa ea rfl) (ae rfl (ab (au ao rfl (by exact (show _=some (Value.int .i64 s.partOf) from (hk2.from_ ((((((ai.rfl_.next E50).next E92).next E99).next E106).next E113).next E127)).rd 21 rfl))) ?_)))))));refine ae rfl (ab (aa ea rfl) (ae rfl (ab (au ao rfl (by exact (show _=some (Value.int .i64 s.partOf) from (hk3.from_ ((((((ai.rfl_.next E50).next E92).next E99).next E106).next E113).next E127)).rd 21 rfl))) ?_)));refine ae rfl (ab (dd (bh rfl rfl) (beq_self_eq_true _)) (ab (aL (v:=.bool _) rfl rfl) (asb rfl (ak (ag (aE (bt (v:=.bool _) rfl rfl (⟨rfl,((((((((ai.rfl_.next E2).next E3).next E50).next E92).next E99).next E106).next E113).next E127)⟩))))))))
theorem jW:jr prog 99=some true:=by kernel_rfl
theorem gB:ec prog 99=some 3:=by kernel_rfl
theorem cw:cL prog 39 0=some 0:=by kernel_rfl
theorem wh:aP prog 90=true:=by kernel_rfl
theorem lj:(gd prog 48).isSome=true:=by kernel_rfl
theorem lk:gd prog 48=some (39,13):=by kernel_rfl
theorem jV:aP prog 48=true:=by kernel_rfl
theorem toList_inj {a b:ByteArray}:a.toList=b.toList↔a=b:=by
 refine ⟨fun hh=>?_,fun h=>by rw [h]⟩;rw [ByteArray.toList_eq,ByteArray.toList_eq] at hh;obtain ⟨⟨x⟩⟩:=a;obtain ⟨⟨y⟩⟩:=b
 simp_all
instance:DecidableEq Ent:=fun x y=>decidable_of_iff (x.i=y.i∧x.t=y.t∧x.d=y.d) ⟨fun h=>by cases x;cases y;simp_all,fun h=>by rw [h];exact ⟨rfl,rfl,rfl⟩⟩
theorem Bl (a b:Ent) (w:World):(Op.equalIn 10000 99 (.agg #[.int .i64 a.i,.int .i64 a.t,.string a.d]) (.agg #[.int .i64 b.i,.int .i64 b.t,.string b.d])).run prog w=.ok (decide (a=b)) w:=by
 have u3:=Tryz.underlying3;have a3:=Tryz.isAgg3;have z3:=Tryz.sizeOf3;have u9:=Tryz.underlying9;have a9:=Tryz.isAgg9;have z9:=Tryz.sizeOf9;have hS:prog.underlying 99=some (.struct (prog.fieldsOf 99)):=by kernel_rfl
 have hp:prog.stoodInHeld 99=false:=by kernel_rfl
 obtain ⟨i1,t1,d1⟩:=a;obtain ⟨i2,t2,d2⟩:=b;rw [show (10000:Nat)=9999+1 from rfl,run_equalIn_agg w 9999 99 _ _ hS hp];simp only [Program.fieldsOf,Tryz.underlying99 ]
 go_simp
 simp only [toList_inj];by_cases h1:i1=i2 <;> by_cases h2:t1=t2 <;> by_cases h3:d1=d2 <;> simp [h1,h2,h3]
theorem vG {ρ:Operand→Value} {w:World} {yt:TypeId} {x y:Operand} {a b:Ent} (hx:ρ x=.agg #[.int .i64 a.i,.int .i64 a.t,.string a.d]) (hy:ρ y=.agg #[.int .i64 b.i,.int .i64 b.t,.string b.d]):RO prog ρ (.binOp .neq 99 x y yt) w (.bool (!decide (a=b))) w:=by
 refine lB hx hy (run_eqGuard_agg w _ _ _ _ _ _ (by kernel_rfl)) ?_;rw [run_neq_struct,Bl];rfl
theorem k9 {w:World} {A:Option Addr} {n c:Nat} {es:List Ent} (h:cH w (.slice A n c) es) (hn:0<es.length):∃ b o,A=some ⟨b,o,none⟩∧∀ i (hi:i<es.length),w.rangeAt b (o+i*3) [.int .i64 es[i].i,.int .i64 es[i].t,.string es[i].d]:=by
 obtain ⟨A',c',hv,_,_,_,hp⟩:=h;simp only [Value.slice.injEq] at hv;obtain ⟨rfl,_,_⟩:=hv;obtain ⟨b,o,hA,_,hc⟩:=hp hn;exact ⟨b,o,hA,fun i hi=>Ar (hc i hi).1 (hc i hi).2.1 (hc i hi).2.2⟩
theorem BK (a b:ByteArray):(a.toList==b.toList)=decide (a=b):=by
 rw [Bool.eq_iff_iff,beq_iff_eq,decide_eq_true_eq,toList_inj]
theorem Bw (a b:Bool):(a==b)=decide (a=b):=by cases a <;> cases b <;> rfl
theorem y7 {es:List Ent}:[]=es↔es.length=0:=by cases es <;> simp
theorem AJ {b:Bool}:false=b↔b.toNat=0:=by cases b <;> simp
theorem yb (A B:Option Addr) (ca cb n m:Nat) (xs ys:List Ent) (w:World) (hn:n=xs.length) (hm:m=ys.length) (h1:cH w (.slice A n ca) xs) (h2:cH w (.slice B m cb) ys) (hl:xs.length≤400000000000) :
 Rt prog 90 [.slice A n ca,.slice B m cb] w (fun v w'=>v=.bool (decide (xs=ys))∧ai w w'):=by
 subst hn hm;refine enter (n:=26) Tryz.func90 rfl rfl rfl (an (af (asb rfl (ak (ag (an (an (af (mvs rfl (ab (bL db rfl) (mvs rfl (ab (bL db rfl) (ab (de rfl rfl) ?_)))))))))))));refine ak (ag (aU rfl (fun Q1=>?_) (fun Q1=>?_)))
 ·replace Q1:=dS Q1;replace Q1:=ei Q1;refine an (af (asb rfl (ak (ag (aE (aG (bt (v:=.bool _) rfl rfl (⟨congrArg Value.bool (decide_eq_false (fun e=>absurd (congrArg List.length e) (by omega))).symm,ai.rfl_⟩))))))))
 replace Q1:=dU Q1;replace Q1:=eh Q1;have hlen:xs.length=ys.length:=by omega
 refine aN (ag (an (an (af (asi rfl (ak (ag (bf (cS (G:=Nat) [4,11,12,13,14,15,16,17,18,19,20,21,22,23,24,25] (fun k=>[(5,.int .i64 (k:Nat))]) (fun k w'=>k≤xs.length∧xs.take k=ys.take k∧ai w w') (fun k=>xs.length-k) (0) ⟨rfl,trivial⟩ ?_ ?_)))))))))
 ·exact ⟨Nat.zero_le _,rfl,ai.rfl_⟩
 rintro k ρ2 w2 ⟨hk,ht,hB⟩;refine an (an (af (mvi rfl (mvs rfl (ab (bL db rfl) (ab (bZ rfl rfl) (ak (ag (Bu rfl (fun Q3=>?_) (fun Q3=>?_))))))))))
 ·have hkx:k<xs.length:=by omega
  have hky:k<ys.length:=by omega
  obtain ⟨ba,oa,rfl,hca⟩:=k9 h1 (by omega);obtain ⟨bb,ob,rfl,hcb⟩:=k9 h2 (by omega);refine aN (ag (an (bf (an ?_))));apply bD 9 [(17,eqp _),(18,eqp _),(19,eqp _),(20,eqp (.agg #[.int .i64 (xs[k]'hkx).i,.int .i64 (xs[k]'hkx).t,.string (xs[k]'hkx).d])),(21,eqp _),(22,eqp _),(23,eqp _),(24,eqp (.agg #[.int .i64 (ys[k]'hky).i,.int .i64 (ys[k]'hky).t,.string (ys[k]'hky).d])),(25,eqp (.bool (!decide (xs[k]'hkx=ys[k]'hky))))] (by repeat first | exact cl | refine ck ?_ | refine bM ?_) (by kernel_rfl) (by kernel_rfl) ⟨ah _,ah _,ah _,ah _,ah _,ah _,ah _,ah _,ah _,trivial⟩
  case hop=>
   constructor
   ·rintro-w5 D5;exact aq (aB (v:=.slice _ _ _) rfl) rfl
   constructor
   ·rintro-w6 D6;exact aq (aB (v:=.int _ _) rfl) rfl
   constructor
   ·rintro-w7 D7;rintro _ rfl _ rfl;exact aq (bN fk rfl rfl (by omega)) rfl
   constructor
   ·rintro-w8 D8;rintro _ rfl;exact aq (aK (cs:=[.int .i64 xs[k].i,.int .i64 xs[k].t,.string xs[k].d]) jW gB rfl (ft (hB.next D8) (hca k hkx))) rfl
   constructor
   ·rintro-w9 D9;exact aq (aB (v:=.slice _ _ _) rfl) rfl
   constructor
   ·rintro-w10 D10;exact aq (aB (v:=.int _ _) rfl) rfl
   constructor
   ·rintro-w11 D11;rintro _ rfl _ rfl;exact aq (bN fk rfl rfl (by omega)) rfl
   constructor
   ·rintro-w12 D12;rintro _ rfl;exact aq (aK (cs:=[.int .i64 ys[k].i,.int .i64 ys[k].t,.string ys[k].d]) jW gB rfl (ft (hB.next D12) (hcb k hky))) rfl
   constructor
   ·rintro-w13 D13;rintro v13_20 rfl v13_24 rfl;exact aq (vG (a:=xs[k]) (b:=ys[k]) rfl rfl) rfl
   exact trivial
  case hend=>
   intro w14 D14;rintro _ rfl _ rfl _ rfl v20 rfl _ rfl _ rfl _ rfl v24 rfl v25 rfl;show St ..;refine ak (ag (aU rfl (fun Q15=>?_) (fun Q15=>?_)))
   ·replace Q15:=dS Q15;replace Q15:=dF_ Q15;have hne:¬ xs[k]=ys[k]:=by simpa using Q15
    refine an (af (asb rfl (ak (ag (aE (bG (aG (aG (bG (aG (bt (v:=.bool _) rfl rfl (⟨congrArg Value.bool (decide_eq_false (fun e=>by subst e;exact hne rfl)).symm,(hB.next D14)⟩))))))))))))
   replace Q15:=dU Q15;replace Q15:=dT_ Q15;have heq:xs[k]=ys[k]:=by simpa using Q15
   refine aN (bq (ag (af (mvi rfl (ab (cF (b:=1) rfl rfl (by omega)) (asi rfl (ak ?_)))))));refine cG (k+1) ⟨(by first | rfl | (refine bo ?_;omega)),trivial⟩ (by (iterate 33 refine bE rfl ?_);exact bX) ⟨?_,?_⟩
   ·exact ⟨by omega,uO hkx hky ht heq,(hB.next D14)⟩
   ·omega
 refine cz (bk (bk (bW (ag (an (af (asb rfl (ak (ag (aE (bt (v:=.bool _) rfl rfl (⟨congrArg Value.bool (decide_eq_true (zT hlen (by omega) ht)).symm,hB⟩))))))))))))
theorem vb (k f t tm ix lt cm rd:Int) (ok:Bool) (E:Option Addr) (n c:Nat) (a:Int) (d:ByteArray) (dn:Bool) (k2 f2 t2 tm2 ix2 lt2 cm2 rd2:Int) (ok2:Bool) (Eb:Option Addr) (n2 c2:Nat) (a2:Int) (d2:ByteArray) (dn2:Bool) (w:World) (es es2:List Ent) (hn:n=es.length) (hn2:n2=es2.length) (he:cH w (.slice E n c) es) (he2:cH w (.slice Eb n2 c2) es2) (hl:es.length≤400000000000) :
 Rt prog 48 [.agg #[.int .i64 k,.int .i64 f,.int .i64 t,.int .i64 tm,.int .i64 ix,.int .i64 lt,.int .i64 cm,.int .i64 rd,.bool ok,.slice E n c,.int .i64 a,.string d,.bool dn],.agg #[.int .i64 k2,.int .i64 f2,.int .i64 t2,.int .i64 tm2,.int .i64 ix2,.int .i64 lt2,.int .i64 cm2,.int .i64 rd2,.bool ok2,.slice Eb n2 c2,.int .i64 a2,.string d2,.bool dn2]] w (fun v w'=>v=.bool (decide (k=k2∧f=f2∧t=t2∧tm=tm2∧ix=ix2∧lt=lt2∧cm=cm2∧rd=rd2∧ok=ok2∧es=es2∧a=a2∧d=d2∧dn=dn2))∧ai w w'):=by
 refine enter (n:=94) Tryz.func48 rfl rfl rfl (an (af (bQ (v:=.agg _) rfl ?_)));intro b2 w1 E2 hb2 hk2;refine bQ (v:=.agg _) rfl ?_;intro b3 w2 E3 hb3 hk3;replace hk2:=hk2.from_ E3;refine asb rfl (ak (ag (an (af (ab (aa cw rfl) (ab (au ao rfl (by exact (hk2.from_ ai.rfl_).rd 0 rfl)) ?_))))));refine ab (aa cw rfl) (ab (au ao rfl (by exact (hk3.from_ ai.rfl_).rd 0 rfl)) ?_);refine ab (bh rfl rfl) (mvb rfl (AT (t:=10) rfl (fun Q3=>?_) (fun Q3=>?_)))
 ·have q0:=Q3;refine ae rfl (ab (aa br rfl) (ae rfl (ab (au ao rfl (by exact (hk2.from_ ai.rfl_).rd 1 rfl)) ?_)));refine ae rfl (ab (aa br rfl) (ae rfl (ab (au ao rfl (by exact (hk3.from_ ai.rfl_).rd 1 rfl)) ?_)));refine ae rfl (ab (bh rfl rfl) (ab (aL (v:=.bool _) rfl rfl) (mvb rfl (AT (t:=17) rfl (fun Q4=>?_) (fun Q4=>?_)))))
  ·have q1:=Q4;refine ae rfl (ab (aa ey rfl) (ae rfl (ab (au ao rfl (by exact (hk2.from_ ai.rfl_).rd 2 rfl)) ?_)));refine ae rfl (ab (aa ey rfl) (ae rfl (ab (au ao rfl (by exact (hk3.from_ ai.rfl_).rd 2 rfl)) ?_)));refine ae rfl (ab (bh rfl rfl) (ab (aL (v:=.bool _) rfl rfl) (mvb rfl (AT (t:=24) rfl (fun Q5=>?_) (fun Q5=>?_)))))
   ·have q2:=Q5;refine ae rfl (ab (aa cd rfl) (ae rfl (ab (au ao rfl (by exact (hk2.from_ ai.rfl_).rd 3 rfl)) ?_)));refine ae rfl (ab (aa cd rfl) (ae rfl (ab (au ao rfl (by exact (hk3.from_ ai.rfl_).rd 3 rfl)) ?_)));refine ae rfl (ab (bh rfl rfl) (ab (aL (v:=.bool _) rfl rfl) (mvb rfl (AT (t:=31) rfl (fun Q6=>?_) (fun Q6=>?_)))))
    ·have q3:=Q6;refine ae rfl (ab (aa cI rfl) (ae rfl (ab (au ao rfl (by exact (hk2.from_ ai.rfl_).rd 4 rfl)) ?_)));refine ae rfl (ab (aa cI rfl) (ae rfl (ab (au ao rfl (by exact (hk3.from_ ai.rfl_).rd 4 rfl)) ?_)));refine ae rfl (ab (bh rfl rfl) (ab (aL (v:=.bool _) rfl rfl) (mvb rfl (AT (t:=38) rfl (fun Q7=>?_) (fun Q7=>?_)))))
     ·have q4:=Q7;refine ae rfl (ab (aa fR rfl) (ae rfl (ab (au ao rfl (by exact (hk2.from_ ai.rfl_).rd 5 rfl)) ?_)));refine ae rfl (ab (aa fR rfl) (ae rfl (ab (au ao rfl (by exact (hk3.from_ ai.rfl_).rd 5 rfl)) ?_)));refine ae rfl (ab (bh rfl rfl) (ab (aL (v:=.bool _) rfl rfl) (mvb rfl (AT (t:=45) rfl (fun Q8=>?_) (fun Q8=>?_)))))
      ·have q5:=Q8;refine ae rfl (ab (aa iB rfl) (ae rfl (ab (au ao rfl (by exact (hk2.from_ ai.rfl_).rd 6 rfl)) ?_)));refine ae rfl (ab (aa iB rfl) (ae rfl (ab (au ao rfl (by exact (hk3.from_ ai.rfl_).rd 6 rfl)) ?_)));refine ae rfl (ab (bh rfl rfl) (ab (aL (v:=.bool _) rfl rfl) (mvb rfl (AT (t:=52) rfl (fun Q9=>?_) (fun Q9=>?_)))))
       ·have q6:=Q9;refine ae rfl (ab (aa dA rfl) (ae rfl (ab (au ao rfl (by exact (hk2.from_ ai.rfl_).rd 7 rfl)) ?_)));refine ae rfl (ab (aa dA rfl) (ae rfl (ab (au ao rfl (by exact (hk3.from_ ai.rfl_).rd 7 rfl)) ?_)));refine ae rfl (ab (bh rfl rfl) (ab (aL (v:=.bool _) rfl rfl) (mvb rfl (AT (t:=59) rfl (fun Q10=>?_) (fun Q10=>?_)))))
        ·have q7:=Q10;refine ae rfl (ab (aa fQ rfl) (ae rfl (ab (au eU rfl (by exact (hk2.from_ ai.rfl_).rd 8 rfl)) ?_)));refine ae rfl (ab (aa fQ rfl) (ae rfl (ab (au eU rfl (by exact (hk3.from_ ai.rfl_).rd 8 rfl)) ?_)));refine ae rfl (ab (eI (uW (by kernel_rfl) rfl rfl) (congrArg Value.bool (Bw ok ok2))) (ab (aL (v:=.bool _) rfl rfl) (mvb rfl (AU (t:=66) rfl (fun Q11=>?_) (fun Q11=>?_)))))
         ·have q8:=Q11;refine ae rfl (ab (aa eN rfl) (ae rfl (ab (au cU rfl (by exact (hk2.from_ ai.rfl_).rd 9 rfl)) ?_)));refine ae rfl (ab (aa eN rfl) (ae rfl (ab (au cU rfl (by exact (hk3.from_ ai.rfl_).rd 9 rfl)) ?_)));refine ae rfl (aC wh (yb E Eb c c2 n n2 es es2 _ hn hn2 (he.from_ ((ai.rfl_.next E2).next E3)) (he2.from_ ((ai.rfl_.next E2).next E3)) hl) ?_);rintro v71 w12 ⟨rfl,E71⟩;refine ab (aL (v:=.bool _) rfl rfl) (mvb rfl (AU (t:=73) rfl (fun Q13=>?_) (fun Q13=>?_)))
          ·have q9:=Q13;refine ae rfl (ab (aa da rfl) (ae rfl (ab (au ao rfl (by exact (hk2.from_ (ai.rfl_.next E71)).rd 10 rfl)) ?_)));refine ae rfl (ab (aa da rfl) (ae rfl (ab (au ao rfl (by exact (hk3.from_ (ai.rfl_.next E71)).rd 10 rfl)) ?_)));refine ae rfl (ab (bh rfl rfl) (ab (aL (v:=.bool _) rfl rfl) (mvb rfl (AT (t:=80) rfl (fun Q14=>?_) (fun Q14=>?_)))))
           ·have q10:=Q14;refine ae rfl (ab (aa iQ rfl) (ae rfl (ab (au cD rfl (by exact (hk2.from_ (ai.rfl_.next E71)).rd 11 rfl)) ?_)));refine ae rfl (ab (aa iQ rfl) (ae rfl (ab (au cD rfl (by exact (hk3.from_ (ai.rfl_.next E71)).rd 11 rfl)) ?_)));refine ae rfl (ab (eI (kY rfl rfl) (congrArg Value.bool (BK d d2))) (ab (aL (v:=.bool _) rfl rfl) (mvb rfl (AU (t:=87) rfl (fun Q15=>?_) (fun Q15=>?_)))))
            ·have q11:=Q15;refine ae rfl (ab (aa kh rfl) (ae rfl (ab (au eU rfl (by exact (hk2.from_ (ai.rfl_.next E71)).rd 12 rfl)) ?_)));refine ae rfl (ab (aa kh rfl) (ae rfl (ab (au eU rfl (by exact (hk3.from_ (ai.rfl_.next E71)).rd 12 rfl)) ?_)));refine ae rfl (ab (eI (uW (by kernel_rfl) rfl rfl) (congrArg Value.bool (Bw dn dn2))) (ab (aL (v:=.bool _) rfl rfl) (asb rfl (ak (ag (aE (bt (v:=.bool _) rfl rfl (⟨congrArg Value.bool ?_,(((ai.rfl_.next E2).next E3).next E71)⟩))))))))
             first
              |exact (decide_eq_false hno).symm
              |(rw [decide_eq_decide];exact ⟨fun h=>⟨q0,q1,q2,q3,q4,q5,q6,q7,q8,q9,q10,q11,h⟩,fun h=>h.2.2.2.2.2.2.2.2.2.2.2.2⟩)
            have hno:¬ (k=k2∧f=f2∧t=t2∧tm=tm2∧ix=ix2∧lt=lt2∧cm=cm2∧rd=rd2∧ok=ok2∧es=es2∧a=a2∧d=d2∧dn=dn2):=fun e=>Q15 e.2.2.2.2.2.2.2.2.2.2.2.1
            refine ar rfl rfl (ar rfl rfl (ar rfl rfl (ar rfl rfl (ar rfl rfl (ab (ay (v:=.bool _) rfl rfl) (asb rfl (ak (ag (aE (bt (v:=.bool _) rfl rfl ?_))))))))));refine ⟨congrArg Value.bool ?_,(((ai.rfl_.next E2).next E3).next E71)⟩
            first
             |exact (decide_eq_false hno).symm
             |(rw [decide_eq_decide];exact ⟨fun h=>⟨q0,q1,q2,q3,q4,q5,q6,q7,q8,q9,q10,q11,h⟩,fun h=>h.2.2.2.2.2.2.2.2.2.2.2.2⟩)
           have hno:¬ (k=k2∧f=f2∧t=t2∧tm=tm2∧ix=ix2∧lt=lt2∧cm=cm2∧rd=rd2∧ok=ok2∧es=es2∧a=a2∧d=d2∧dn=dn2):=fun e=>Q14 e.2.2.2.2.2.2.2.2.2.2.1
           refine ar rfl rfl (ar rfl rfl (ar rfl rfl (ar rfl rfl (ar rfl rfl (ab (ay (v:=.bool _) rfl rfl) (mvb rfl (ar rfl rfl (ar rfl rfl ?_))))))));refine ar rfl rfl (ar rfl rfl (ar rfl rfl (ab (ay (v:=.bool _) rfl rfl) (asb rfl (ak (ag (aE (bt (v:=.bool _) rfl rfl (⟨congrArg Value.bool ?_,(((ai.rfl_.next E2).next E3).next E71)⟩)))))))))
           first
            |exact (decide_eq_false hno).symm
            |(rw [decide_eq_decide];exact ⟨fun h=>⟨q0,q1,q2,q3,q4,q5,q6,q7,q8,q9,q10,q11,h⟩,fun h=>h.2.2.2.2.2.2.2.2.2.2.2.2⟩)
          have hno:¬ (k=k2∧f=f2∧t=t2∧tm=tm2∧ix=ix2∧lt=lt2∧cm=cm2∧rd=rd2∧ok=ok2∧es=es2∧a=a2∧d=d2∧dn=dn2):=fun e=>Q13 e.2.2.2.2.2.2.2.2.2.1
          refine ar rfl rfl (ar rfl rfl (ar rfl rfl (ar rfl rfl (ar rfl rfl (ab (ay (v:=.bool _) rfl rfl) (mvb rfl (ar rfl rfl (ar rfl rfl ?_))))))));refine ar rfl rfl (ar rfl rfl (ar rfl rfl (ab (ay (v:=.bool _) rfl rfl) (mvb rfl (ar rfl rfl (ar rfl rfl (ar rfl rfl (ar rfl rfl ?_))))))));refine ar rfl rfl (ab (ay (v:=.bool _) rfl rfl) (asb rfl (ak (ag (aE (bt (v:=.bool _) rfl rfl (⟨congrArg Value.bool ?_,(((ai.rfl_.next E2).next E3).next E71)⟩)))))))
          first
           |exact (decide_eq_false hno).symm
           |(rw [decide_eq_decide];exact ⟨fun h=>⟨q0,q1,q2,q3,q4,q5,q6,q7,q8,q9,q10,q11,h⟩,fun h=>h.2.2.2.2.2.2.2.2.2.2.2.2⟩)
         have hno:¬ (k=k2∧f=f2∧t=t2∧tm=tm2∧ix=ix2∧lt=lt2∧cm=cm2∧rd=rd2∧ok=ok2∧es=es2∧a=a2∧d=d2∧dn=dn2):=fun e=>Q11 e.2.2.2.2.2.2.2.2.1
         refine ar rfl rfl (ar rfl rfl (ar rfl rfl (ar rfl rfl (ar rfl rfl (ab (ay (v:=.bool _) rfl rfl) (mvb rfl (ar rfl rfl (ar rfl rfl ?_))))))));refine ar rfl rfl (ar rfl rfl (ar rfl rfl (ab (ay (v:=.bool _) rfl rfl) (mvb rfl (ar rfl rfl (ar rfl rfl (ar rfl rfl (ar rfl rfl ?_))))))));refine ar rfl rfl (ab (ay (v:=.bool _) rfl rfl) (mvb rfl (ar rfl rfl (ar rfl rfl (ar rfl rfl (ar rfl rfl (ar rfl rfl (ab (ay (v:=.bool _) rfl rfl) ?_))))))));refine asb rfl (ak (ag (aE (bt (v:=.bool _) rfl rfl (⟨congrArg Value.bool ?_,((ai.rfl_.next E2).next E3)⟩)))))
         first
          |exact (decide_eq_false hno).symm
          |(rw [decide_eq_decide];exact ⟨fun h=>⟨q0,q1,q2,q3,q4,q5,q6,q7,q8,q9,q10,q11,h⟩,fun h=>h.2.2.2.2.2.2.2.2.2.2.2.2⟩)
        have hno:¬ (k=k2∧f=f2∧t=t2∧tm=tm2∧ix=ix2∧lt=lt2∧cm=cm2∧rd=rd2∧ok=ok2∧es=es2∧a=a2∧d=d2∧dn=dn2):=fun e=>Q10 e.2.2.2.2.2.2.2.1
        refine ar rfl rfl (ar rfl rfl (ar rfl rfl (ar rfl rfl (ar rfl rfl (ab (ay (v:=.bool _) rfl rfl) (mvb rfl (ar rfl rfl (ar rfl rfl ?_))))))));refine ar rfl rfl (ar rfl rfl (ar rfl rfl (ab (ay (v:=.bool _) rfl rfl) (mvb rfl (ar rfl rfl (ar rfl rfl (ar rfl rfl (ar rfl rfl ?_))))))));refine ar rfl rfl (ab (ay (v:=.bool _) rfl rfl) (mvb rfl (ar rfl rfl (ar rfl rfl (ar rfl rfl (ar rfl rfl (ar rfl rfl (ab (ay (v:=.bool _) rfl rfl) ?_))))))));refine mvb rfl (ar rfl rfl (ar rfl rfl (ar rfl rfl (ar rfl rfl (ar rfl rfl (ab (ay (v:=.bool _) rfl rfl) (asb rfl (ak (ag (aE ?_))))))))));refine bt (v:=.bool _) rfl rfl (⟨congrArg Value.bool ?_,((ai.rfl_.next E2).next E3)⟩)
        first
         |exact (decide_eq_false hno).symm
         |(rw [decide_eq_decide];exact ⟨fun h=>⟨q0,q1,q2,q3,q4,q5,q6,q7,q8,q9,q10,q11,h⟩,fun h=>h.2.2.2.2.2.2.2.2.2.2.2.2⟩)
       have hno:¬ (k=k2∧f=f2∧t=t2∧tm=tm2∧ix=ix2∧lt=lt2∧cm=cm2∧rd=rd2∧ok=ok2∧es=es2∧a=a2∧d=d2∧dn=dn2):=fun e=>Q9 e.2.2.2.2.2.2.1
       refine ar rfl rfl (ar rfl rfl (ar rfl rfl (ar rfl rfl (ar rfl rfl (ab (ay (v:=.bool _) rfl rfl) (mvb rfl (ar rfl rfl (ar rfl rfl ?_))))))));refine ar rfl rfl (ar rfl rfl (ar rfl rfl (ab (ay (v:=.bool _) rfl rfl) (mvb rfl (ar rfl rfl (ar rfl rfl (ar rfl rfl (ar rfl rfl ?_))))))));refine ar rfl rfl (ab (ay (v:=.bool _) rfl rfl) (mvb rfl (ar rfl rfl (ar rfl rfl (ar rfl rfl (ar rfl rfl (ar rfl rfl (ab (ay (v:=.bool _) rfl rfl) ?_))))))));refine mvb rfl (ar rfl rfl (ar rfl rfl (ar rfl rfl (ar rfl rfl (ar rfl rfl (ab (ay (v:=.bool _) rfl rfl) (mvb rfl (ar rfl rfl ?_))))))));refine ar rfl rfl (ar rfl rfl (ar rfl rfl (ar rfl rfl (ab (ay (v:=.bool _) rfl rfl) (asb rfl (ak (ag (aE (bt (v:=.bool _) rfl rfl (⟨congrArg Value.bool ?_,((ai.rfl_.next E2).next E3)⟩))))))))))
       first
        |exact (decide_eq_false hno).symm
        |(rw [decide_eq_decide];exact ⟨fun h=>⟨q0,q1,q2,q3,q4,q5,q6,q7,q8,q9,q10,q11,h⟩,fun h=>h.2.2.2.2.2.2.2.2.2.2.2.2⟩)
      have hno:¬ (k=k2∧f=f2∧t=t2∧tm=tm2∧ix=ix2∧lt=lt2∧cm=cm2∧rd=rd2∧ok=ok2∧es=es2∧a=a2∧d=d2∧dn=dn2):=fun e=>Q8 e.2.2.2.2.2.1
      refine ar rfl rfl (ar rfl rfl (ar rfl rfl (ar rfl rfl (ar rfl rfl (ab (ay (v:=.bool _) rfl rfl) (mvb rfl (ar rfl rfl (ar rfl rfl ?_))))))));refine ar rfl rfl (ar rfl rfl (ar rfl rfl (ab (ay (v:=.bool _) rfl rfl) (mvb rfl (ar rfl rfl (ar rfl rfl (ar rfl rfl (ar rfl rfl ?_))))))));refine ar rfl rfl (ab (ay (v:=.bool _) rfl rfl) (mvb rfl (ar rfl rfl (ar rfl rfl (ar rfl rfl (ar rfl rfl (ar rfl rfl (ab (ay (v:=.bool _) rfl rfl) ?_))))))));refine mvb rfl (ar rfl rfl (ar rfl rfl (ar rfl rfl (ar rfl rfl (ar rfl rfl (ab (ay (v:=.bool _) rfl rfl) (mvb rfl (ar rfl rfl ?_))))))));refine ar rfl rfl (ar rfl rfl (ar rfl rfl (ar rfl rfl (ab (ay (v:=.bool _) rfl rfl) (mvb rfl (ar rfl rfl (ar rfl rfl (ar rfl rfl ?_))))))));refine ar rfl rfl (ar rfl rfl (ab (ay (v:=.bool _) rfl rfl) (asb rfl (ak (ag (aE (bt (v:=.bool _) rfl rfl (⟨congrArg Value.bool ?_,((ai.rfl_.next E2).next E3)⟩))))))))
      first
       |exact (decide_eq_false hno).symm
       |(rw [decide_eq_decide];exact ⟨fun h=>⟨q0,q1,q2,q3,q4,q5,q6,q7,q8,q9,q10,q11,h⟩,fun h=>h.2.2.2.2.2.2.2.2.2.2.2.2⟩)
     have hno:¬ (k=k2∧f=f2∧t=t2∧tm=tm2∧ix=ix2∧lt=lt2∧cm=cm2∧rd=rd2∧ok=ok2∧es=es2∧a=a2∧d=d2∧dn=dn2):=fun e=>Q7 e.2.2.2.2.1
     refine ar rfl rfl (ar rfl rfl (ar rfl rfl (ar rfl rfl (ar rfl rfl (ab (ay (v:=.bool _) rfl rfl) (mvb rfl (ar rfl rfl (ar rfl rfl ?_))))))));refine ar rfl rfl (ar rfl rfl (ar rfl rfl (ab (ay (v:=.bool _) rfl rfl) (mvb rfl (ar rfl rfl (ar rfl rfl (ar rfl rfl (ar rfl rfl ?_))))))));refine ar rfl rfl (ab (ay (v:=.bool _) rfl rfl) (mvb rfl (ar rfl rfl (ar rfl rfl (ar rfl rfl (ar rfl rfl (ar rfl rfl (ab (ay (v:=.bool _) rfl rfl) ?_))))))));refine mvb rfl (ar rfl rfl (ar rfl rfl (ar rfl rfl (ar rfl rfl (ar rfl rfl (ab (ay (v:=.bool _) rfl rfl) (mvb rfl (ar rfl rfl ?_))))))));refine ar rfl rfl (ar rfl rfl (ar rfl rfl (ar rfl rfl (ab (ay (v:=.bool _) rfl rfl) (mvb rfl (ar rfl rfl (ar rfl rfl (ar rfl rfl ?_))))))));refine ar rfl rfl (ar rfl rfl (ab (ay (v:=.bool _) rfl rfl) (mvb rfl (ar rfl rfl (ar rfl rfl (ar rfl rfl (ar rfl rfl (ar rfl rfl ?_))))))));refine ab (ay (v:=.bool _) rfl rfl) (asb rfl (ak (ag (aE (bt (v:=.bool _) rfl rfl (⟨congrArg Value.bool ?_,((ai.rfl_.next E2).next E3)⟩))))))
     first
      |exact (decide_eq_false hno).symm
      |(rw [decide_eq_decide];exact ⟨fun h=>⟨q0,q1,q2,q3,q4,q5,q6,q7,q8,q9,q10,q11,h⟩,fun h=>h.2.2.2.2.2.2.2.2.2.2.2.2⟩)
    have hno:¬ (k=k2∧f=f2∧t=t2∧tm=tm2∧ix=ix2∧lt=lt2∧cm=cm2∧rd=rd2∧ok=ok2∧es=es2∧a=a2∧d=d2∧dn=dn2):=fun e=>Q6 e.2.2.2.1
    refine ar rfl rfl (ar rfl rfl (ar rfl rfl (ar rfl rfl (ar rfl rfl (ab (ay (v:=.bool _) rfl rfl) (mvb rfl (ar rfl rfl (ar rfl rfl ?_))))))));refine ar rfl rfl (ar rfl rfl (ar rfl rfl (ab (ay (v:=.bool _) rfl rfl) (mvb rfl (ar rfl rfl (ar rfl rfl (ar rfl rfl (ar rfl rfl ?_))))))));refine ar rfl rfl (ab (ay (v:=.bool _) rfl rfl) (mvb rfl (ar rfl rfl (ar rfl rfl (ar rfl rfl (ar rfl rfl (ar rfl rfl (ab (ay (v:=.bool _) rfl rfl) ?_))))))));refine mvb rfl (ar rfl rfl (ar rfl rfl (ar rfl rfl (ar rfl rfl (ar rfl rfl (ab (ay (v:=.bool _) rfl rfl) (mvb rfl (ar rfl rfl ?_))))))));refine ar rfl rfl (ar rfl rfl (ar rfl rfl (ar rfl rfl (ab (ay (v:=.bool _) rfl rfl) (mvb rfl (ar rfl rfl (ar rfl rfl (ar rfl rfl ?_))))))));refine ar rfl rfl (ar rfl rfl (ab (ay (v:=.bool _) rfl rfl) (mvb rfl (ar rfl rfl (ar rfl rfl (ar rfl rfl (ar rfl rfl (ar rfl rfl ?_))))))));refine ab (ay (v:=.bool _) rfl rfl) (mvb rfl (ar rfl rfl (ar rfl rfl (ar rfl rfl (ar rfl rfl (ar rfl rfl (ab (ay (v:=.bool _) rfl rfl) (asb rfl ?_))))))));refine ak (ag (aE (bt (v:=.bool _) rfl rfl (⟨congrArg Value.bool ?_,((ai.rfl_.next E2).next E3)⟩))))
    first
     |exact (decide_eq_false hno).symm
     |(rw [decide_eq_decide];exact ⟨fun h=>⟨q0,q1,q2,q3,q4,q5,q6,q7,q8,q9,q10,q11,h⟩,fun h=>h.2.2.2.2.2.2.2.2.2.2.2.2⟩)
   have hno:¬ (k=k2∧f=f2∧t=t2∧tm=tm2∧ix=ix2∧lt=lt2∧cm=cm2∧rd=rd2∧ok=ok2∧es=es2∧a=a2∧d=d2∧dn=dn2):=fun e=>Q5 e.2.2.1
   refine ar rfl rfl (ar rfl rfl (ar rfl rfl (ar rfl rfl (ar rfl rfl (ab (ay (v:=.bool _) rfl rfl) (mvb rfl (ar rfl rfl (ar rfl rfl ?_))))))));refine ar rfl rfl (ar rfl rfl (ar rfl rfl (ab (ay (v:=.bool _) rfl rfl) (mvb rfl (ar rfl rfl (ar rfl rfl (ar rfl rfl (ar rfl rfl ?_))))))));refine ar rfl rfl (ab (ay (v:=.bool _) rfl rfl) (mvb rfl (ar rfl rfl (ar rfl rfl (ar rfl rfl (ar rfl rfl (ar rfl rfl (ab (ay (v:=.bool _) rfl rfl) ?_))))))));refine mvb rfl (ar rfl rfl (ar rfl rfl (ar rfl rfl (ar rfl rfl (ar rfl rfl (ab (ay (v:=.bool _) rfl rfl) (mvb rfl (ar rfl rfl ?_))))))));refine ar rfl rfl (ar rfl rfl (ar rfl rfl (ar rfl rfl (ab (ay (v:=.bool _) rfl rfl) (mvb rfl (ar rfl rfl (ar rfl rfl (ar rfl rfl ?_))))))));refine ar rfl rfl (ar rfl rfl (ab (ay (v:=.bool _) rfl rfl) (mvb rfl (ar rfl rfl (ar rfl rfl (ar rfl rfl (ar rfl rfl (ar rfl rfl ?_))))))));refine ab (ay (v:=.bool _) rfl rfl) (mvb rfl (ar rfl rfl (ar rfl rfl (ar rfl rfl (ar rfl rfl (ar rfl rfl (ab (ay (v:=.bool _) rfl rfl) (mvb rfl ?_))))))));refine ar rfl rfl (ar rfl rfl (ar rfl rfl (ar rfl rfl (ar rfl rfl (ab (ay (v:=.bool _) rfl rfl) (asb rfl (ak (ag (aE (bt (v:=.bool _) rfl rfl ?_))))))))));refine ⟨congrArg Value.bool ?_,((ai.rfl_.next E2).next E3)⟩
   first
    |exact (decide_eq_false hno).symm
    |(rw [decide_eq_decide];exact ⟨fun h=>⟨q0,q1,q2,q3,q4,q5,q6,q7,q8,q9,q10,q11,h⟩,fun h=>h.2.2.2.2.2.2.2.2.2.2.2.2⟩)
  have hno:¬ (k=k2∧f=f2∧t=t2∧tm=tm2∧ix=ix2∧lt=lt2∧cm=cm2∧rd=rd2∧ok=ok2∧es=es2∧a=a2∧d=d2∧dn=dn2):=fun e=>Q4 e.2.1
  refine ar rfl rfl (ar rfl rfl (ar rfl rfl (ar rfl rfl (ar rfl rfl (ab (ay (v:=.bool _) rfl rfl) (mvb rfl (ar rfl rfl (ar rfl rfl ?_))))))));refine ar rfl rfl (ar rfl rfl (ar rfl rfl (ab (ay (v:=.bool _) rfl rfl) (mvb rfl (ar rfl rfl (ar rfl rfl (ar rfl rfl (ar rfl rfl ?_))))))));refine ar rfl rfl (ab (ay (v:=.bool _) rfl rfl) (mvb rfl (ar rfl rfl (ar rfl rfl (ar rfl rfl (ar rfl rfl (ar rfl rfl (ab (ay (v:=.bool _) rfl rfl) ?_))))))));refine mvb rfl (ar rfl rfl (ar rfl rfl (ar rfl rfl (ar rfl rfl (ar rfl rfl (ab (ay (v:=.bool _) rfl rfl) (mvb rfl (ar rfl rfl ?_))))))));refine ar rfl rfl (ar rfl rfl (ar rfl rfl (ar rfl rfl (ab (ay (v:=.bool _) rfl rfl) (mvb rfl (ar rfl rfl (ar rfl rfl (ar rfl rfl ?_))))))));refine ar rfl rfl (ar rfl rfl (ab (ay (v:=.bool _) rfl rfl) (mvb rfl (ar rfl rfl (ar rfl rfl (ar rfl rfl (ar rfl rfl (ar rfl rfl ?_))))))));refine ab (ay (v:=.bool _) rfl rfl) (mvb rfl (ar rfl rfl (ar rfl rfl (ar rfl rfl (ar rfl rfl (ar rfl rfl (ab (ay (v:=.bool _) rfl rfl) (mvb rfl ?_))))))));refine ar rfl rfl (ar rfl rfl (ar rfl rfl (ar rfl rfl (ar rfl rfl (ab (ay (v:=.bool _) rfl rfl) (mvb rfl (ar rfl rfl (ar rfl rfl ?_))))))));refine ar rfl rfl (ar rfl rfl (ar rfl rfl (ab (ay (v:=.bool _) rfl rfl) (asb rfl (ak (ag (aE (bt (v:=.bool _) rfl rfl (⟨congrArg Value.bool ?_,((ai.rfl_.next E2).next E3)⟩)))))))))
  first
   |exact (decide_eq_false hno).symm
   |(rw [decide_eq_decide];exact ⟨fun h=>⟨q0,q1,q2,q3,q4,q5,q6,q7,q8,q9,q10,q11,h⟩,fun h=>h.2.2.2.2.2.2.2.2.2.2.2.2⟩)
 have hno:¬ (k=k2∧f=f2∧t=t2∧tm=tm2∧ix=ix2∧lt=lt2∧cm=cm2∧rd=rd2∧ok=ok2∧es=es2∧a=a2∧d=d2∧dn=dn2):=fun e=>Q3 e.1
 refine ar rfl rfl (ar rfl rfl (ar rfl rfl (ar rfl rfl (ar rfl rfl (ab (ay (v:=.bool _) rfl rfl) (mvb rfl (ar rfl rfl (ar rfl rfl ?_))))))));refine ar rfl rfl (ar rfl rfl (ar rfl rfl (ab (ay (v:=.bool _) rfl rfl) (mvb rfl (ar rfl rfl (ar rfl rfl (ar rfl rfl (ar rfl rfl ?_))))))));refine ar rfl rfl (ab (ay (v:=.bool _) rfl rfl) (mvb rfl (ar rfl rfl (ar rfl rfl (ar rfl rfl (ar rfl rfl (ar rfl rfl (ab (ay (v:=.bool _) rfl rfl) ?_))))))));refine mvb rfl (ar rfl rfl (ar rfl rfl (ar rfl rfl (ar rfl rfl (ar rfl rfl (ab (ay (v:=.bool _) rfl rfl) (mvb rfl (ar rfl rfl ?_))))))));refine ar rfl rfl (ar rfl rfl (ar rfl rfl (ar rfl rfl (ab (ay (v:=.bool _) rfl rfl) (mvb rfl (ar rfl rfl (ar rfl rfl (ar rfl rfl ?_))))))));refine ar rfl rfl (ar rfl rfl (ab (ay (v:=.bool _) rfl rfl) (mvb rfl (ar rfl rfl (ar rfl rfl (ar rfl rfl (ar rfl rfl (ar rfl rfl ?_))))))));refine ab (ay (v:=.bool _) rfl rfl) (mvb rfl (ar rfl rfl (ar rfl rfl (ar rfl rfl (ar rfl rfl (ar rfl rfl (ab (ay (v:=.bool _) rfl rfl) (mvb rfl ?_))))))));refine ar rfl rfl (ar rfl rfl (ar rfl rfl (ar rfl rfl (ar rfl rfl (ab (ay (v:=.bool _) rfl rfl) (mvb rfl (ar rfl rfl (ar rfl rfl ?_))))))));refine ar rfl rfl (ar rfl rfl (ar rfl rfl (ab (ay (v:=.bool _) rfl rfl) (mvb rfl (ar rfl rfl (ar rfl rfl (ar rfl rfl (ar rfl rfl ?_))))))));refine ar rfl rfl (ab (ay (v:=.bool _) rfl rfl) (asb rfl (ak (ag (aE (bt (v:=.bool _) rfl rfl (⟨congrArg Value.bool ?_,((ai.rfl_.next E2).next E3)⟩)))))))
 first
  |exact (decide_eq_false hno).symm
  |(rw [decide_eq_decide];exact ⟨fun h=>⟨q0,q1,q2,q3,q4,q5,q6,q7,q8,q9,q10,q11,h⟩,fun h=>h.2.2.2.2.2.2.2.2.2.2.2.2⟩)
theorem nQ (x y:Msg) (w:World) (h:pl x=pl y) (hx:cH w (.slice x.E x.es.length x.c) x.es) (hy:cH w (.slice y.E y.es.length y.c) y.es) (hl:x.es.length≤1000000) :
 Rt prog 48 [.agg (bC x).toArray,.agg (bC y).toArray] w fun v w'=>v=.bool true∧ai w w':=
 (vb x.k x.f x.t x.tm x.ix x.lt x.cm x.rd x.ok x.E x.es.length x.c x.a x.d x.dn y.k y.f y.t y.tm y.ix y.lt y.cm y.rd y.ok y.E y.es.length y.c y.a y.d y.dn w x.es y.es rfl rfl hx hy (by omega)).mono fun v w' hv=>⟨by
  rw [hv.1];exact congrArg Value.bool (decide_eq_true ⟨(show (pl x).k=(pl y).k from congrArg Msg.k h),(show (pl x).f=(pl y).f from congrArg Msg.f h),(show (pl x).t=(pl y).t from congrArg Msg.t h),(show (pl x).tm=(pl y).tm from congrArg Msg.tm h),(show (pl x).ix=(pl y).ix from congrArg Msg.ix h),(show (pl x).lt=(pl y).lt from congrArg Msg.lt h),(show (pl x).cm=(pl y).cm from congrArg Msg.cm h),(show (pl x).rd=(pl y).rd from congrArg Msg.rd h),(show (pl x).ok=(pl y).ok from congrArg Msg.ok h),(show (pl x).es=(pl y).es from congrArg Msg.es h),(show (pl x).a=(pl y).a from congrArg Msg.a h),(show (pl x).d=(pl y).d from congrArg Msg.d h),(show (pl x).dn=(pl y).dn from congrArg Msg.dn h)⟩),hv.2⟩
theorem A8 {X Y:List Msg} (h:X.map pl=Y.map pl) {k:Nat} (hx:k<X.length) (hy:k<Y.length):pl X[k]=pl Y[k]:=by
 have:(X.map pl)[k]'(by simpa using hx)=(Y.map pl)[k]'(by simpa using hy):=by simp only [h]
 simpa using this
theorem sk (A B:Option Addr) (c c2 n:Nat) (X Y:List Msg) (w:World) (hr:iv 13 bC w A X) (hr2:iv 13 bC w B Y) (hX:X.length=n) (hY:Y.length=n) (hp:X.map pl=Y.map pl) (hE:∀ x∈X,cH w (.slice x.E x.es.length x.c) x.es) (hE2:∀ x∈Y,cH w (.slice x.E x.es.length x.c) x.es) (hle:∀ x∈X,x.es.length≤1000000) (hn:n≤100000) :
 Rt prog 50 [.slice A n c,.slice B n c2] w (fun v w'=>v=.bool true∧ai w w'):=by
 refine enter (n:=27) Tryz.func50 rfl rfl rfl (an (af (asb rfl (ak (ag (an (an (af (mvs rfl (ab (bL lj rfl) (mvs rfl (ab (bL lj rfl) (ab (bY (de rfl rfl) (bne_self_eq_false _)) ?_)))))))))))));refine ak (ag (bc rfl (aN (ag (an (an (af (asi rfl (ak (ag (bf (cS (G:=Nat) [4,11,12,13,14,15,16,17,18,19,20,21,22,23,24,25,26] (fun k=>[(5,.int .i64 (k:Nat))]) (fun k w'=>k≤n∧ai w w') (fun k=>n-k) (0) ⟨rfl,trivial⟩ ?_ ?_))))))))))))
 ·exact ⟨Nat.zero_le _,ai.rfl_⟩
 rintro k ρ1 w1 ⟨hk,hB⟩;refine an (an (af (mvi rfl (mvs rfl (ab (bL lj rfl) (ab (bZ rfl rfl) (ak (ag (Bu rfl (fun Q2=>?_) (fun Q2=>?_))))))))))
 ·have hkX:k<X.length:=by omega
  have hkY:k<Y.length:=by omega
  obtain ⟨ba,oa,rfl,hca⟩:=hr (by omega);obtain ⟨bb,ob,rfl,hcb⟩:=hr2 (by omega);have hxk:=hE _ (List.getElem_mem hkX);have hyk:=hE2 _ (List.getElem_mem hkY);have hlk:=hle _ (List.getElem_mem hkX);refine aN (ag (an (bf (an ?_))));apply bD 10 [(17,eqp _),(18,eqp _),(19,eqp _),(20,eqp (.agg (bC (X[k]'hkX)).toArray)),(21,eqp _),(22,eqp _),(23,eqp _),(24,eqp (.agg (bC (Y[k]'hkY)).toArray)),(25,eqp _),(26,eqp _)] (by repeat first | exact cl | refine ck ?_ | refine bM ?_) (by kernel_rfl) (by kernel_rfl) ⟨ah _,ah _,ah _,ah _,ah _,ah _,ah _,ah _,ah _,ah _,trivial⟩
  case hop=>
   constructor
   ·rintro-w4 D4;exact aq (aB (v:=.slice _ _ _) rfl) rfl
   constructor
   ·rintro-w5 D5;exact aq (aB (v:=.int _ _) rfl) rfl
   constructor
   ·rintro-w6 D6;rintro _ rfl _ rfl;exact aq (bN lk rfl rfl (by omega)) rfl
   constructor
   ·rintro-w7 D7;rintro _ rfl;exact aq (aK (cs:=bC (X[k]'hkX)) bn aZ rfl (ft (hB.next D7) (hca k hkX))) rfl
   constructor
   ·rintro-w8 D8;exact aq (aB (v:=.slice _ _ _) rfl) rfl
   constructor
   ·rintro-w9 D9;exact aq (aB (v:=.int _ _) rfl) rfl
   constructor
   ·rintro-w10 D10;rintro _ rfl _ rfl;exact aq (bN lk rfl rfl (by omega)) rfl
   constructor
   ·rintro-w11 D11;rintro _ rfl;exact aq (aK (cs:=bC (Y[k]'hkY)) bn aZ rfl (ft (hB.next D11) (hcb k hkY))) rfl
   constructor
   ·rintro-w12 D12;rintro v12_20 rfl v12_24 rfl;refine gD jV ((nQ (X[k]'hkX) (Y[k]'hkY) _ (A8 hp hkX hkY) (hxk.from_ (hB.next D12)) (hyk.from_ (hB.next D12)) hlk).mono ?_);rintro v _ ⟨rfl,E12'⟩;exact ⟨E12',rfl⟩
   constructor
   ·rintro-w13 D13;rintro _ rfl;exact aq (cp rfl) rfl
   exact trivial
  case hend=>
   intro w14 D14;rintro _ rfl _ rfl _ rfl v20 rfl _ rfl _ rfl _ rfl v24 rfl _ rfl _ rfl;show St ..;refine ak (ag (Br rfl (fun Q15=>?_) (fun Q15=>?_)))
   ·exfalso;contradiction
   refine aN (bq (ag (af (mvi rfl (ab (cF (b:=1) rfl rfl (by omega)) (asi rfl (ak ?_)))))));refine cG (k+1) ⟨(by first | rfl | (refine bo ?_;omega)),trivial⟩ (by (iterate 35 refine bE rfl ?_);exact bX) ⟨?_,?_⟩
   ·exact ⟨by omega,(hB.next D14)⟩
   ·omega
 refine cz (bk (bk (bW (ag (an (af (asb rfl (ak (ag (aE (bt (v:=.bool _) rfl rfl (⟨rfl,hB⟩))))))))))))
theorem dB:aP prog 53=true:=by kernel_rfl
theorem iD:kj prog 54=some (.agg #[.int .i64 0,.int .i64 0,.int .i64 0,.slice none 0 0]):=by kernel_rfl
theorem mA:aP prog 133=true:=by kernel_rfl
theorem aS:jr prog 29=some true:=by kernel_rfl
theorem aJ:ec prog 29=some 22:=by kernel_rfl
theorem rq:aP prog 131=true:=by kernel_rfl
theorem rp:aP prog 132=true:=by kernel_rfl
theorem rm:aP prog 134=true:=by kernel_rfl
theorem rk:aP prog 135=true:=by kernel_rfl
def iR (s:Rf):Prop:=(1≤s.nodes∧s.nodes≤7)∧(1≤s.id∧s.id≤s.nodes)∧(0≤s.role∧s.role≤2)∧((0≤s.vote∧s.vote≤s.nodes)∧(0≤s.leader∧s.leader≤s.nodes))∧(0≤s.term∧s.term≤1099511627775)∧(0≤s.elapsed∧s.elapsed≤1099511627775)∧(0≤s.timeout∧s.timeout≤1099511627775)∧(0≤s.round∧s.round≤1099511627775)
instance (s:Rf):Decidable (iR s):=by unfold iR;exact inferInstance
def gx (s:Rf):Prop:=cK s.b s.t s.es=true∧dq s.t s.es≤s.term∧(s.b≤s.commit∧s.commit≤bd s)∧s.snap.size≤524288∧(0<s.b∨s.snap.size=0)
instance (s:Rf):Decidable (gx s):=by unfold gx;exact inferInstance
def gR (s:Rf):Prop:=s.part.size≤524288∧(0≤s.partOf∧s.partOf≤1099511625728)∧(0<s.partOf∨s.part.size=0)
instance (s:Rf):Decidable (gR s):=by unfold gR;exact inferInstance
def lx (s:Rf):Prop:=if s.role=2 then ((s.next.length:Int)=s.nodes∧(s.mtch.length:Int)=s.nodes∧(s.sent.length:Int)=s.nodes∧s.reads.length≤32)∧(eJ 1 (bd s+1) s.next∧eJ 0 (bd s) s.mtch∧eJ 0 s.snap.size s.sent)∧(∀ q∈s.reads,gO s q=true) else s.next.length+s.mtch.length+s.sent.length+s.reads.length=0
instance (s:Rf):Decidable (lx s):=by unfold lx;exact inferInstance
theorem Bi (s:Rf) (E:Option Addr) (n c:Nat) (w:World) (h:cH w (.slice E n c) s.es):Rt prog 152 [.agg #[.int .i64 s.b,.int .i64 s.t,.slice E n c]] w fun v w'=>(∃ X Y Z:Int,v=.tuple #[.int .i64 X,.int .i64 Y,.int .i64 Z]∧((cK s.b s.t s.es=true∧Z=0∧X=bd s∧Y=dq s.t s.es)∨(cK s.b s.t s.es=false∧Z=1)))∧ai w w':=
 (Rt.of (sc s.b s.t _ s.es w h)).mono fun v w' h=>by
  refine ⟨?_,h.2⟩;rw [h.1];unfold u5;cases hm:cK s.b s.t s.es with
  |true=>rw [if_pos rfl];exact ⟨_,_,_,rfl,.inl ⟨rfl,rfl,rfl,rfl⟩⟩
  |false=>rw [if_neg (by decide)];exact ⟨_,_,_,rfl,.inr ⟨rfl,rfl⟩⟩
theorem i_:∀ (l:List Int),gi l=true↔∀ j (h:j+1<l.length),l[j]<l[j+1]
 |[]=>⟨fun _ j h=>absurd h (by simp),fun _=>rfl⟩
 |[a]=>⟨fun _ j h=>absurd h (by simp),fun _=>rfl⟩
 |a::b::r=>by
  have ih:=i_ (b::r);show (decide (a<b)&&gi (b::r))=true↔_;rw [Bool.and_eq_true,decide_eq_true_eq,ih];constructor
  ·rintro ⟨h1,h2⟩ j h;cases j with
   |zero=>exact h1
   |succ j=>exact h2 j (by simpa using h)
  ·intro h;exact ⟨h 0 (by simp),fun j hj=>h (j+1) (by simpa using hj)⟩
theorem gV {l:List Int} {n:Int}:fu l n=true↔eJ 1 n l∧∀ j (h:j+1<l.length),l[j]<l[j+1]:=by
 unfold fu eJ;rw [Bool.and_eq_true,i_,List.all_eq_true];simp only [Bool.and_eq_true,decide_eq_true_eq]
theorem eG (lo hi:Int) (A:Option Addr) (c:Nat) (xs:List Int) (w:World) (hr:dW iV w A xs) (hl:xs.length≤1000000) :
 Rt prog 53 [.int .i64 lo,.int .i64 hi,.slice A xs.length c] w (fun v w'=>v=.bool (decide (eJ lo hi xs))∧w=w'):=by
 refine enter (n:=24) Tryz.func53 rfl rfl rfl (an (af (asb rfl (ak (ag (an (an (af (mvs rfl (ab (bL bP rfl) (mvi rfl (ak (ag (bf (cS (G:=Nat) [6,8,12,13,14,15,16,17,18,19,20,21,22,23] (fun k=>[(11,.int .i64 (k:Nat))]) (fun k w'=>k≤xs.length∧eJ lo hi (xs.take k)∧w=w') (fun k=>xs.length-k) (0) ⟨rfl,trivial⟩ ?_ ?_)))))))))))))))
 ·exact ⟨Nat.zero_le _,bA.2 trivial,rfl⟩
 rintro k ρ1 w1 ⟨hk,ha,rfl⟩;refine an (af (ab (bZ rfl rfl) (ak (ag (an (Bu rfl (fun Q2=>?_) (fun Q2=>?_)))))))
 ·have hkx:k<xs.length:=by omega
  obtain ⟨ba,oa,rfl,hca⟩:=hr (by omega);refine aN (ag (an (bf (an (af (ab (cr aV rfl rfl (by omega)) (ab (au ao rfl (by exact hca k hkx)) ?_)))))));refine asi rfl (ak (ag (an (af (mvi rfl (mvi rfl (ab (bZ rfl rfl) (mvb rfl (AU (t:=18) rfl (fun Q3=>?_) (fun Q3=>?_))))))))))
  ·refine bB rfl (ak (ag (a_ rfl (an (af (asb rfl (ak (ag (aE (bG (aG (aG (bG (aG (bt (v:=.bool _) rfl rfl (⟨congrArg Value.bool ?_,rfl⟩))))))))))))))));rw [eq_comm,decide_eq_false_iff_not];intro h;have:=h _ (List.getElem_mem hkx);omega
  refine ae rfl (mvi rfl (ae rfl (mvi rfl (ae rfl (ab (cy rfl rfl) (ab (ay (v:=.bool _) rfl rfl) (ak (ag (Bu rfl (fun Q4=>?_) (fun Q4=>?_))))))))))
  ·refine an (af (asb rfl (ak (ag (aE (bG (aG (aG (bG (aG (bt (v:=.bool _) rfl rfl (⟨congrArg Value.bool ?_,rfl⟩))))))))))));rw [eq_comm,decide_eq_false_iff_not];intro h;have:=h _ (List.getElem_mem hkx);omega
  refine aN (bq (ag (af (ab (cF (b:=1) rfl rfl (by omega)) (mvi rfl (ak ?_))))));refine cG (k+1) ⟨(by first | rfl | (refine bo ?_;omega)),trivial⟩ (by (iterate 30 refine bE rfl ?_);exact bX) ⟨?_,?_⟩
  ·exact ⟨by omega,by rw [List.take_succ_eq_append_getElem hkx];exact o3.2 ⟨ha,by omega⟩,rfl⟩
  ·omega
 obtain rfl:k=xs.length:=by omega
 rw [List.take_length] at ha;refine cz (bk (bk (bW (ag (an (af (asb rfl (ak (ag (aE (bt (v:=.bool _) rfl rfl (⟨congrArg Value.bool (decide_eq_true ha).symm,rfl⟩))))))))))))
theorem fT {w:World} {b:Nat} {xs:List Int} (h:Blk w b 3 (xs.map iV).toArray):dW iV w (some ⟨b,0,none⟩) xs:=dW.blk h fun i hi=>by simp [hi]
theorem nJ (s:Rf) (a:Ra) (w:World) :
 Rt prog 131 [.agg (rfV s a).toArray] w (fun v w'=>v=.bool (decide (iR s))∧ai w w'):=by
 refine enter (n:=43) Tryz.func131 rfl rfl rfl (an (af (bQ (v:=.agg _) rfl ?_)));intro b1 w1 E1 hb1 hk1;refine asb rfl (ak (ag (an (af (ab (aa cg rfl) (ab (au ao rfl (by exact (hk1.from_ ai.rfl_).rd 1 rfl)) ?_))))));refine fD (v:=.int _ _) bS rfl rfl rfl ?_;intro b5 w2 E5 hb5 hk5;refine aC dB (eG 1 7 (some ⟨b5,0,none⟩) 1 [s.nodes] _ (fT hk5) (by simp)) ?_;rintro v6 w3 ⟨rfl,rfl⟩;refine mvb rfl (AU (t:=7) rfl (fun Q4=>?_) (fun Q4=>?_))
 ·(try simp only [bu,bA,and_true] at Q4)
  refine ae rfl (ab (aa cg rfl) (ae rfl (ab (au ao rfl (by exact (hk1.from_ (ai.rfl_.next E5)).rd 1 rfl)) ?_)));refine ae rfl (ab (aa cu rfl) (ae rfl (ab (au ao rfl (by exact (hk1.from_ (ai.rfl_.next E5)).rd 0 rfl)) ?_)));refine ae rfl (fD (v:=.int _ _) bS rfl rfl rfl ?_);intro b12 w5 E12 hb12 hk12;refine ae rfl (aC dB (eG 1 s.nodes (some ⟨b12,0,none⟩) 1 [s.id] _ (fT hk12) (by simp)) ?_);rintro v13 w6 ⟨rfl,rfl⟩;refine ab (aL (v:=.bool _) rfl rfl) (mvb rfl (AU (t:=15) rfl (fun Q7=>?_) (fun Q7=>?_)))
  ·(try simp only [bu,bA,and_true] at Q7)
   refine ae rfl (ab (aa cT rfl) (ae rfl (ab (au ao rfl (by exact (hk1.from_ ((ai.rfl_.next E5).next E12)).rd 2 rfl)) ?_)));refine ae rfl (fD (v:=.int _ _) bS rfl rfl rfl ?_);intro b18 w8 E18 hb18 hk18;refine ae rfl (aC dB (eG 0 2 (some ⟨b18,0,none⟩) 1 [s.role] _ (fT hk18) (by simp)) ?_);rintro v19 w9 ⟨rfl,rfl⟩;refine ab (aL (v:=.bool _) rfl rfl) (mvb rfl (AU (t:=21) rfl (fun Q10=>?_) (fun Q10=>?_)))
   ·(try simp only [bu,bA,and_true] at Q10)
    refine ae rfl (ab (aa cg rfl) (ae rfl (ab (au ao rfl (by exact (hk1.from_ (((ai.rfl_.next E5).next E12).next E18)).rd 1 rfl)) ?_)));refine ae rfl (ab (aa eZ rfl) (ae rfl (ab (au ao rfl (by exact (hk1.from_ (((ai.rfl_.next E5).next E12).next E18)).rd 4 rfl)) ?_)));refine ae rfl (ab (aa eM rfl) (ae rfl (ab (au ao rfl (by exact (hk1.from_ (((ai.rfl_.next E5).next E12).next E18)).rd 5 rfl)) ?_)));refine ae rfl (lP [.tmp 25,.tmp 27] [.int _ _,.int _ _] bS rfl rfl rfl rfl (by simp [Value.cells]) ?_);intro b28 w11 E28 hb28 hk28;refine ae rfl (aC dB (eG 0 s.nodes (some ⟨b28,0,none⟩) 2 [s.vote,s.leader] _ (fT hk28) (by simp)) ?_);rintro v29 w12 ⟨rfl,rfl⟩;refine ab (aL (v:=.bool _) rfl rfl) (mvb rfl (AU (t:=31) rfl (fun Q13=>?_) (fun Q13=>?_)))
    ·(try simp only [bu,bA,and_true] at Q13)
     refine ae rfl (ab (aa bJ rfl) (ae rfl (ab (au ao rfl (by exact (hk1.from_ ((((ai.rfl_.next E5).next E12).next E18).next E28)).rd 3 rfl)) ?_)));refine ae rfl (ab (aa dK rfl) (ae rfl (ab (au ao rfl (by exact (hk1.from_ ((((ai.rfl_.next E5).next E12).next E18).next E28)).rd 11 rfl)) ?_)));refine ae rfl (ab (aa eR rfl) (ae rfl (ab (au ao rfl (by exact (hk1.from_ ((((ai.rfl_.next E5).next E12).next E18).next E28)).rd 12 rfl)) ?_)));refine ae rfl (ab (aa dz rfl) (ae rfl (ab (au ao rfl (by exact (hk1.from_ ((((ai.rfl_.next E5).next E12).next E18).next E28)).rd 18 rfl)) ?_)));refine ae rfl (lP [.tmp 33,.tmp 35,.tmp 37,.tmp 39] [.int _ _,.int _ _,.int _ _,.int _ _] bS rfl rfl rfl rfl (by simp [Value.cells]) ?_);intro b40 w14 E40 hb40 hk40;refine ae rfl (aC dB (eG 0 1099511627775 (some ⟨b40,0,none⟩) 4 [s.term,s.elapsed,s.timeout,s.round] _ (fT hk40) (by simp)) ?_);rintro v41 w15 ⟨rfl,rfl⟩;refine ab (aL (v:=.bool _) rfl rfl) (asb rfl (ak (ag (aE (bt (v:=.bool _) rfl rfl (⟨congrArg Value.bool ?_,((((((ai.rfl_.next E1).next E5).next E12).next E18).next E28).next E40)⟩))))))
     (try simp only [bu,bA,and_true])
     first
      |(rw [eq_comm,decide_eq_false_iff_not];unfold iR;omega)
      |(rw [decide_eq_decide];unfold iR;omega)
      |(rw [eq_comm,decide_eq_true_eq];unfold iR;omega)
    (try simp only [bu,bA,and_true] at Q13)
    refine ar rfl rfl (ar rfl rfl (ar rfl rfl (ar rfl rfl (ar rfl rfl (ar rfl rfl (ar rfl rfl (ar rfl rfl (ar rfl rfl ?_))))))));refine ar rfl rfl (ab (ay (v:=.bool _) rfl rfl) (asb rfl (ak (ag (aE (bt (v:=.bool _) rfl rfl (⟨congrArg Value.bool ?_,(((((ai.rfl_.next E1).next E5).next E12).next E18).next E28)⟩)))))))
    (try simp only [bu,bA,and_true])
    first
     |(rw [eq_comm,decide_eq_false_iff_not];unfold iR;omega)
     |(rw [decide_eq_decide];unfold iR;omega)
     |(rw [eq_comm,decide_eq_true_eq];unfold iR;omega)
   (try simp only [bu,bA,and_true] at Q10)
   refine ar rfl rfl (ar rfl rfl (ar rfl rfl (ar rfl rfl (ar rfl rfl (ar rfl rfl (ar rfl rfl (ar rfl rfl (ab (ay (v:=.bool _) rfl rfl) ?_))))))));refine mvb rfl (ar rfl rfl (ar rfl rfl (ar rfl rfl (ar rfl rfl (ar rfl rfl (ar rfl rfl (ar rfl rfl (ar rfl rfl ?_))))))));refine ar rfl rfl (ar rfl rfl (ab (ay (v:=.bool _) rfl rfl) (asb rfl (ak (ag (aE (bt (v:=.bool _) rfl rfl (⟨congrArg Value.bool ?_,((((ai.rfl_.next E1).next E5).next E12).next E18)⟩))))))))
   (try simp only [bu,bA,and_true])
   first
    |(rw [eq_comm,decide_eq_false_iff_not];unfold iR;omega)
    |(rw [decide_eq_decide];unfold iR;omega)
    |(rw [eq_comm,decide_eq_true_eq];unfold iR;omega)
  (try simp only [bu,bA,and_true] at Q7)
  refine ar rfl rfl (ar rfl rfl (ar rfl rfl (ar rfl rfl (ab (ay (v:=.bool _) rfl rfl) (mvb rfl (ar rfl rfl (ar rfl rfl (ar rfl rfl ?_))))))));refine ar rfl rfl (ar rfl rfl (ar rfl rfl (ar rfl rfl (ar rfl rfl (ab (ay (v:=.bool _) rfl rfl) (mvb rfl (ar rfl rfl (ar rfl rfl ?_))))))));refine ar rfl rfl (ar rfl rfl (ar rfl rfl (ar rfl rfl (ar rfl rfl (ar rfl rfl (ar rfl rfl (ar rfl rfl (ab (ay (v:=.bool _) rfl rfl) ?_))))))));refine asb rfl (ak (ag (aE (bt (v:=.bool _) rfl rfl (⟨congrArg Value.bool ?_,(((ai.rfl_.next E1).next E5).next E12)⟩)))))
  (try simp only [bu,bA,and_true])
  first
   |(rw [eq_comm,decide_eq_false_iff_not];unfold iR;omega)
   |(rw [decide_eq_decide];unfold iR;omega)
   |(rw [eq_comm,decide_eq_true_eq];unfold iR;omega)
 (try simp only [bu,bA,and_true] at Q4)
 refine ar rfl rfl (ar rfl rfl (ar rfl rfl (ar rfl rfl (ar rfl rfl (ar rfl rfl (ab (ay (v:=.bool _) rfl rfl) (mvb rfl (ar rfl rfl ?_))))))));refine ar rfl rfl (ar rfl rfl (ar rfl rfl (ab (ay (v:=.bool _) rfl rfl) (mvb rfl (ar rfl rfl (ar rfl rfl (ar rfl rfl (ar rfl rfl ?_))))))));refine ar rfl rfl (ar rfl rfl (ar rfl rfl (ar rfl rfl (ab (ay (v:=.bool _) rfl rfl) (mvb rfl (ar rfl rfl (ar rfl rfl (ar rfl rfl ?_))))))));refine ar rfl rfl (ar rfl rfl (ar rfl rfl (ar rfl rfl (ar rfl rfl (ar rfl rfl (ar rfl rfl (ab (ay (v:=.bool _) rfl rfl) (asb rfl ?_))))))));refine ak (ag (aE (bt (v:=.bool _) rfl rfl (⟨congrArg Value.bool ?_,((ai.rfl_.next E1).next E5)⟩))))
 (try simp only [bu,bA,and_true])
 first
  |(rw [eq_comm,decide_eq_false_iff_not];unfold iR;omega)
  |(rw [decide_eq_decide];unfold iR;omega)
  |(rw [eq_comm,decide_eq_true_eq];unfold iR;omega)
theorem qB {s:Rf} {a:Ra} {w:World} {b T:Nat} (hb:Blk w b T (rfV s a).toArray):w.rangeAt b 6 [.int .i64 s.b,.int .i64 s.t,.slice a.E s.es.length a.Ec]:=hb.range 6 _ (fun j v hj=>by
 match j,hj with
 |0,hj=>exact hj
 |1,hj=>exact hj
 |2,hj=>exact hj
 |j+3,hj=>simp at hj)
theorem rD (s:Rf) (a:Ra) (w:World) (he:cH w (.slice a.E s.es.length a.Ec) s.es) :
 Rt prog 132 [.agg (rfV s a).toArray] w (fun v w'=>v=.bool (decide (gx s))∧ai w w'):=by
 refine enter (n:=48) Tryz.func132 rfl rfl rfl (an (af (bQ (v:=.agg _) rfl ?_)));intro b1 w1 E1 hb1 hk1;refine asb rfl (ak (ag (an (af (ab (aa bg rfl) (ab (aK (cs:=[.int .i64 s.b,.int .i64 s.t,.slice a.E s.es.length a.Ec]) dm cX rfl (qB (hk1.from_ ai.rfl_))) (aC mz (Bi s a.E s.es.length a.Ec _ (he.from_ (ai.rfl_.next E1))) ?_)))))));rintro v9 w2 ⟨⟨X,Y,Z,rfl,hXYZ⟩,E9⟩;refine mvt rfl (ab (aY rfl rfl) (ab (aY rfl rfl) (ab (aY rfl rfl) (asi rfl (asi rfl (asi rfl (ak (ag (an (af (mvi rfl ?_)))))))))));refine ab (bh rfl rfl) (mvb rfl (AT (t:=15) rfl (fun Q3=>?_) (fun Q3=>?_)))
 ·refine ae rfl (mvi rfl (ae rfl (ab (aa bJ rfl) (ae rfl (ab (au ao rfl (by exact (hk1.from_ (ai.rfl_.next E9)).rd 3 rfl)) ?_)))));refine ae rfl (ab (eW rfl rfl) (ab (aL (v:=.bool _) rfl rfl) (mvb rfl (AU (t:=21) rfl (fun Q4=>?_) (fun Q4=>?_)))))
  ·(try simp only [bu,bA,and_true] at Q4)
   refine ae rfl (ab (aa bg rfl) (ae rfl (ab (aa bT rfl) (ae rfl (ab (au ao rfl (by exact (hk1.from_ (ai.rfl_.next E9)).rd 6 rfl)) ?_)))));refine ae rfl (mvi rfl (ae rfl (ab (aa dv rfl) (ae rfl (ab (au ao rfl (by exact (hk1.from_ (ai.rfl_.next E9)).rd 10 rfl)) ?_)))));refine ae rfl (fD (v:=.int _ _) bS rfl rfl rfl ?_);intro b28 w5 E28 hb28 hk28;refine ae rfl (aC dB (eG s.b X (some ⟨b28,0,none⟩) 1 [s.commit] _ (fT hk28) (by simp)) ?_);rintro v29 w6 ⟨rfl,rfl⟩;refine ab (aL (v:=.bool _) rfl rfl) (mvb rfl (AU (t:=31) rfl (fun Q7=>?_) (fun Q7=>?_)))
   ·(try simp only [bu,bA,and_true] at Q7)
    refine ae rfl (ab (aa cO rfl) (ae rfl (ab (au cD rfl (by exact (hk1.from_ ((ai.rfl_.next E9).next E28)).rd 9 rfl)) ?_)));refine ae rfl (ab (en (by kernel_rfl) rfl) (ae rfl (ab (eW rfl rfl) (ab (aL (v:=.bool _) rfl rfl) (mvb rfl (AU (t:=37) rfl (fun Q8=>?_) (fun Q8=>?_)))))))
    ·refine ae rfl (ab (aa bg rfl) (ae rfl (ab (aa bT rfl) (ae rfl (ab (au ao rfl (by exact (hk1.from_ ((ai.rfl_.next E9).next E28)).rd 6 rfl)) ?_)))));refine ae rfl (ab (cy rfl rfl) (ae rfl (mvb rfl (AU (t:=42) rfl (fun Q9=>?_) (fun Q9=>?_)))))
     ·refine ar rfl rfl (ar rfl rfl (ar rfl rfl (ae rfl (ab (aL (v:=.bool _) rfl rfl) (ab (aL (v:=.bool _) rfl rfl) (asb rfl (ak (ag (aE (bt (v:=.bool _) rfl rfl ?_))))))))));refine ⟨congrArg Value.bool ?_,(((ai.rfl_.next E1).next E9).next E28)⟩
      (try simp only [bu,bA,and_true])
      rcases hXYZ with ⟨hm,hz,hx,hy⟩ | ⟨hm,hz⟩
      ·first
        |(rw [eq_comm,decide_eq_false_iff_not];unfold gx;simp only [hm,true_and];omega)
        |(rw [decide_eq_decide];unfold gx;simp only [hm,true_and];omega)
        |(rw [eq_comm,decide_eq_true_eq];unfold gx;simp only [hm,true_and];omega)
      ·first
        |(exfalso;omega)
        |(rw [eq_comm,decide_eq_false_iff_not];unfold gx;rw [hm];exact fun h=>Bool.noConfusion h.1)
     refine ae rfl (ab (aa cO rfl) (ae rfl (ab (au cD rfl (by exact (hk1.from_ ((ai.rfl_.next E9).next E28)).rd 9 rfl)) ?_)));refine ae rfl (ab (eI (kY rfl rfl) (congrArg Value.bool (zB s.snap))) (ae rfl (ab (ay (v:=.bool _) rfl rfl) (ab (aL (v:=.bool _) rfl rfl) (asb rfl (ak (ag (aE (bt (v:=.bool _) rfl rfl (⟨congrArg Value.bool ?_,(((ai.rfl_.next E1).next E9).next E28)⟩))))))))))
     (try simp only [bu,bA,and_true])
     rcases hXYZ with ⟨hm,hz,hx,hy⟩ | ⟨hm,hz⟩
     ·first
       |(rw [eq_comm,decide_eq_false_iff_not];unfold gx;simp only [hm,true_and];omega)
       |(rw [decide_eq_decide];unfold gx;simp only [hm,true_and];omega)
       |(rw [eq_comm,decide_eq_true_eq];unfold gx;simp only [hm,true_and];omega)
     ·first
       |(exfalso;omega)
       |(rw [eq_comm,decide_eq_false_iff_not];unfold gx;rw [hm];exact fun h=>Bool.noConfusion h.1)
    refine ar rfl rfl (ar rfl rfl (ar rfl rfl (ar rfl rfl (ar rfl rfl (c_ rfl (c_ rfl (c_ rfl (ar rfl rfl ?_))))))));refine ab (ay (v:=.bool _) rfl rfl) (asb rfl (ak (ag (aE (bt (v:=.bool _) rfl rfl (⟨congrArg Value.bool ?_,(((ai.rfl_.next E1).next E9).next E28)⟩))))))
    (try simp only [bu,bA,and_true])
    rcases hXYZ with ⟨hm,hz,hx,hy⟩ | ⟨hm,hz⟩
    ·first
      |(rw [eq_comm,decide_eq_false_iff_not];unfold gx;simp only [hm,true_and];omega)
      |(rw [decide_eq_decide];unfold gx;simp only [hm,true_and];omega)
      |(rw [eq_comm,decide_eq_true_eq];unfold gx;simp only [hm,true_and];omega)
    ·first
      |(exfalso;omega)
      |(rw [eq_comm,decide_eq_false_iff_not];unfold gx;rw [hm];exact fun h=>Bool.noConfusion h.1)
   (try simp only [bu,bA,and_true] at Q7)
   refine ar rfl rfl (ar rfl rfl (ar rfl rfl (ar rfl rfl (ab (ay (v:=.bool _) rfl rfl) (mvb rfl (ar rfl rfl (ar rfl rfl (ar rfl rfl ?_))))))));refine ar rfl rfl (ar rfl rfl (c_ rfl (c_ rfl (c_ rfl (ar rfl rfl (ab (ay (v:=.bool _) rfl rfl) (asb rfl (ak (ag (aE ?_))))))))));refine bt (v:=.bool _) rfl rfl (⟨congrArg Value.bool ?_,(((ai.rfl_.next E1).next E9).next E28)⟩)
   (try simp only [bu,bA,and_true])
   rcases hXYZ with ⟨hm,hz,hx,hy⟩ | ⟨hm,hz⟩
   ·first
     |(rw [eq_comm,decide_eq_false_iff_not];unfold gx;simp only [hm,true_and];omega)
     |(rw [decide_eq_decide];unfold gx;simp only [hm,true_and];omega)
     |(rw [eq_comm,decide_eq_true_eq];unfold gx;simp only [hm,true_and];omega)
   ·first
     |(exfalso;omega)
     |(rw [eq_comm,decide_eq_false_iff_not];unfold gx;rw [hm];exact fun h=>Bool.noConfusion h.1)
  (try simp only [bu,bA,and_true] at Q4)
  refine ar rfl rfl (ar rfl rfl (ar rfl rfl (ar rfl rfl (ar rfl rfl (ar rfl rfl (ar rfl rfl (ar rfl rfl (ab (ay (v:=.bool _) rfl rfl) ?_))))))));refine mvb rfl (ar rfl rfl (ar rfl rfl (ar rfl rfl (ar rfl rfl (ab (ay (v:=.bool _) rfl rfl) (mvb rfl (ar rfl rfl (ar rfl rfl ?_))))))));refine ar rfl rfl (ar rfl rfl (ar rfl rfl (c_ rfl (c_ rfl (c_ rfl (ar rfl rfl (ab (ay (v:=.bool _) rfl rfl) (asb rfl ?_))))))));refine ak (ag (aE (bt (v:=.bool _) rfl rfl (⟨congrArg Value.bool ?_,((ai.rfl_.next E1).next E9)⟩))))
  (try simp only [bu,bA,and_true])
  rcases hXYZ with ⟨hm,hz,hx,hy⟩ | ⟨hm,hz⟩
  ·first
    |(rw [eq_comm,decide_eq_false_iff_not];unfold gx;simp only [hm,true_and];omega)
    |(rw [decide_eq_decide];unfold gx;simp only [hm,true_and];omega)
    |(rw [eq_comm,decide_eq_true_eq];unfold gx;simp only [hm,true_and];omega)
  ·first
    |(exfalso;omega)
    |(rw [eq_comm,decide_eq_false_iff_not];unfold gx;rw [hm];exact fun h=>Bool.noConfusion h.1)
 refine ar rfl rfl (ar rfl rfl (ar rfl rfl (ar rfl rfl (ab (ay (v:=.bool _) rfl rfl) (mvb rfl (ar rfl rfl (ar rfl rfl (ar rfl rfl ?_))))))));refine ar rfl rfl (ar rfl rfl (ar rfl rfl (ar rfl rfl (ar rfl rfl (ab (ay (v:=.bool _) rfl rfl) (mvb rfl (ar rfl rfl (ar rfl rfl ?_))))))));refine ar rfl rfl (ar rfl rfl (ab (ay (v:=.bool _) rfl rfl) (mvb rfl (ar rfl rfl (ar rfl rfl (ar rfl rfl (ar rfl rfl (ar rfl rfl ?_))))))));refine c_ rfl (c_ rfl (c_ rfl (ar rfl rfl (ab (ay (v:=.bool _) rfl rfl) (asb rfl (ak (ag (aE (bt (v:=.bool _) rfl rfl (⟨congrArg Value.bool ?_,((ai.rfl_.next E1).next E9)⟩))))))))))
 (try simp only [bu,bA,and_true])
 rcases hXYZ with ⟨hm,hz,hx,hy⟩ | ⟨hm,hz⟩
 ·first
   |(rw [eq_comm,decide_eq_false_iff_not];unfold gx;simp only [hm,true_and];omega)
   |(rw [decide_eq_decide];unfold gx;simp only [hm,true_and];omega)
   |(rw [eq_comm,decide_eq_true_eq];unfold gx;simp only [hm,true_and];omega)
 ·first
   |(exfalso;omega)
   |(rw [eq_comm,decide_eq_false_iff_not];unfold gx;rw [hm];exact fun h=>Bool.noConfusion h.1)
theorem qu (s:Rf) (a:Ra) (w:World) :
 Rt prog 135 [.agg (rfV s a).toArray] w (fun v w'=>v=.bool (decide (gR s))∧ai w w'):=by
 refine enter (n:=23) Tryz.func135 rfl rfl rfl (an (af (bQ (v:=.agg _) rfl ?_)));intro b1 w1 E1 hb1 hk1;refine asb rfl (ak (ag (an (af (ab (aa eb rfl) (ab (au cD rfl (by exact (hk1.from_ ai.rfl_).rd 20 rfl)) ?_))))));refine ab (en (by kernel_rfl) rfl) (ab (eW rfl rfl) (mvb rfl (AU (t:=7) rfl (fun Q2=>?_) (fun Q2=>?_))))
 ·refine ae rfl (ab (aa ea rfl) (ae rfl (ab (au ao rfl (by exact (hk1.from_ ai.rfl_).rd 21 rfl)) ?_)));refine ae rfl (fD (v:=.int _ _) bS rfl rfl rfl ?_);intro b10 w3 E10 hb10 hk10;refine ae rfl (aC dB (eG 0 1099511625728 (some ⟨b10,0,none⟩) 1 [s.partOf] _ (fT hk10) (by simp)) ?_);rintro v11 w4 ⟨rfl,rfl⟩;refine ab (aL (v:=.bool _) rfl rfl) (mvb rfl (AU (t:=13) rfl (fun Q5=>?_) (fun Q5=>?_)))
  ·(try simp only [bu,bA,and_true] at Q5)
   refine ae rfl (ab (aa ea rfl) (ae rfl (ab (au ao rfl (by exact (hk1.from_ (ai.rfl_.next E10)).rd 21 rfl)) ?_)));refine ae rfl (ab (cy rfl rfl) (ae rfl (mvb rfl (AU (t:=17) rfl (fun Q6=>?_) (fun Q6=>?_)))))
   ·refine ar rfl rfl (ar rfl rfl (ar rfl rfl (ae rfl (ab (aL (v:=.bool _) rfl rfl) (ab (aL (v:=.bool _) rfl rfl) (asb rfl (ak (ag (aE (bt (v:=.bool _) rfl rfl ?_))))))))));refine ⟨congrArg Value.bool ?_,((ai.rfl_.next E1).next E10)⟩
    (try simp only [bu,bA,and_true])
    first
     |(rw [eq_comm,decide_eq_false_iff_not];unfold gR;omega)
     |(rw [decide_eq_decide];unfold gR;omega)
     |(rw [eq_comm,decide_eq_true_eq];unfold gR;omega)
   refine ae rfl (ab (aa eb rfl) (ae rfl (ab (au cD rfl (by exact (hk1.from_ (ai.rfl_.next E10)).rd 20 rfl)) ?_)));refine ae rfl (ab (eI (kY rfl rfl) (congrArg Value.bool (zB s.part))) (ae rfl (ab (ay (v:=.bool _) rfl rfl) (ab (aL (v:=.bool _) rfl rfl) (asb rfl (ak (ag (aE (bt (v:=.bool _) rfl rfl (⟨congrArg Value.bool ?_,((ai.rfl_.next E1).next E10)⟩))))))))))
   (try simp only [bu,bA,and_true])
   first
    |(rw [eq_comm,decide_eq_false_iff_not];unfold gR;omega)
    |(rw [decide_eq_decide];unfold gR;omega)
    |(rw [eq_comm,decide_eq_true_eq];unfold gR;omega)
  (try simp only [bu,bA,and_true] at Q5)
  refine ar rfl rfl (ar rfl rfl (ar rfl rfl (ar rfl rfl (c_ rfl (c_ rfl (c_ rfl (ar rfl rfl (ab (ay (v:=.bool _) rfl rfl) ?_))))))));refine asb rfl (ak (ag (aE (bt (v:=.bool _) rfl rfl (⟨congrArg Value.bool ?_,((ai.rfl_.next E1).next E10)⟩)))))
  (try simp only [bu,bA,and_true])
  first
   |(rw [eq_comm,decide_eq_false_iff_not];unfold gR;omega)
   |(rw [decide_eq_decide];unfold gR;omega)
   |(rw [eq_comm,decide_eq_true_eq];unfold gR;omega)
 refine ar rfl rfl (ar rfl rfl (ar rfl rfl (ar rfl rfl (ab (ay (v:=.bool _) rfl rfl) (mvb rfl (ar rfl rfl (ar rfl rfl (ar rfl rfl ?_))))))));refine ar rfl rfl (c_ rfl (c_ rfl (c_ rfl (ar rfl rfl (ab (ay (v:=.bool _) rfl rfl) (asb rfl (ak (ag (aE (bt (v:=.bool _) rfl rfl ?_))))))))));refine ⟨congrArg Value.bool ?_,(ai.rfl_.next E1)⟩
 (try simp only [bu,bA,and_true])
 first
  |(rw [eq_comm,decide_eq_false_iff_not];unfold gR;omega)
  |(rw [decide_eq_decide];unfold gR;omega)
  |(rw [eq_comm,decide_eq_true_eq];unfold gR;omega)
theorem pV (A:Option Addr) (c:Nat) (l:List Int) (n:Int) (w:World) (hr:dW iV w A l) (hl:l.length≤1000000) :
 Rt prog 133 [.slice A l.length c,.int .i64 n] w (fun v w'=>v=.bool (fu l n)∧ai w w'):=by
 refine enter (n:=33) Tryz.func133 rfl rfl rfl (an (af (asb rfl (ak (ag (an (an (af (mvs rfl (ab (bL bP rfl) (mvi rfl (ak (ag (bf (cS (G:=Nat) [4,5,6,10,11,12,13,14,15,16,17,18,19,20,21,22,23,24,25,26,27,28,29,30,31,32] (fun k=>[(9,.int .i64 (k:Nat))]) (fun k w'=>k≤l.length∧(∀ j (h:j<l.length),j<k→1≤l[j]∧l[j]≤n)∧(∀ j (h:j+1<l.length),j+1<k→l[j]<l[j+1])∧ai w w') (fun k=>l.length-k) (0) ⟨rfl,trivial⟩ ?_ ?_)))))))))))))))
 ·exact ⟨Nat.zero_le _,fun j _ h=>absurd h (by omega),fun j _ h=>absurd h (by omega),ai.rfl_⟩
 rintro k ρ1 w1 ⟨hk,h1,h2,hB⟩;refine an (af (ab (bZ rfl rfl) (ak (ag (an (Bu rfl (fun Q2=>?_) (fun Q2=>?_)))))))
 ·have hkx:k<l.length:=by omega
  obtain ⟨ba,oa,rfl,hca⟩:=hr (by omega);refine aN (ag (an (bf (an (af (mvi rfl (ab (cr aV rfl rfl (by omega)) (ab (au ao rfl (by exact dg hB (hca k hkx))) ?_))))))));refine asi rfl (asi rfl (ak (ag (an (af (mvi rfl (mvi rfl (fD (v:=.int _ _) bS rfl rfl rfl ?_))))))));intro b16 w3 E16 hb16 hk16;refine aC dB (eG 1 n (some ⟨b16,0,none⟩) 1 [l[k]] _ (fT hk16) (by simp)) ?_;rintro v17 w4 ⟨rfl,rfl⟩;refine ab (cp rfl) (mvb rfl (aM (t:=19) rfl (fun Q5=>?_) (fun Q5=>?_)))
  ·replace Q5:=dS Q5;replace Q5:=dF_ Q5
   (try simp only [bu,bA,and_true] at Q5)
   refine bB rfl (ak (ag (a_ rfl (an (af (asb rfl (ak (ag (aE (bG (aG (aG (bG (aG (bt (v:=.bool _) rfl rfl (⟨congrArg Value.bool ?_,(hB.next E16)⟩))))))))))))))));rw [eq_comm,←Bool.not_eq_true,gV];rintro ⟨h3,h4⟩;have h5:=h3 _ (List.getElem_mem hkx)
   first
    |omega
    |(obtain ⟨j,rfl⟩:∃ j,k=j+1:=⟨k-1,by omega⟩
      have h6:=h4 j hkx
      (try simp only [Nat.add_sub_cancel] at*)
      omega)
  replace Q5:=dU Q5;replace Q5:=dT_ Q5
  (try simp only [bu,bA,and_true] at Q5)
  refine ae rfl (mvi rfl (ae rfl (ab (cy rfl rfl) (ae rfl (mvb rfl (AU (t:=22) rfl (fun Q6=>?_) (fun Q6=>?_)))))))
  ·refine ae rfl (mvs rfl (ae rfl (mvi rfl (ae rfl (ab (cY rfl rfl (by omega)) (dX (t:=25) (v:=.int _ _) (v':=.int .i64 ((k-1:Nat):Int)) rfl (by exact bo (by omega)) ?_))))));refine ae rfl (ab (cr aV rfl rfl (by omega)) (ae rfl (ab (au ao rfl (by exact dg (hB.next E16) (hca (k-1) (by omega)))) ?_)));refine ae rfl (mvi rfl (ae rfl (ab (j5 rfl rfl) (ae rfl (ab (aL (v:=.bool _) rfl rfl) (ab (ay (v:=.bool _) rfl rfl) (ak (ag (Bu rfl (fun Q7=>?_) (fun Q7=>?_))))))))))
   ·refine an (af (asb rfl (ak (ag (aE (bG (aG (aG (bG (aG (bt (v:=.bool _) rfl rfl (⟨congrArg Value.bool ?_,(hB.next E16)⟩))))))))))));rw [eq_comm,←Bool.not_eq_true,gV];rintro ⟨h3,h4⟩;have h5:=h3 _ (List.getElem_mem hkx)
    first
     |omega
     |(obtain ⟨j,rfl⟩:∃ j,k=j+1:=⟨k-1,by omega⟩
       have h6:=h4 j hkx
       (try simp only [Nat.add_sub_cancel] at*)
       omega)
   refine aN (bq (ag (af (ab (cF (b:=1) rfl rfl (by omega)) (mvi rfl (ak ?_))))));refine cG (k+1) ⟨(by first | rfl | (refine bo ?_;omega)),trivial⟩ (by (iterate 56 refine bE rfl ?_);exact bX) ⟨?_,?_⟩
   ·refine ⟨by omega,fun j h hj=>?_,fun j h hj=>?_,(hB.next E16)⟩
    ·rcases Nat.lt_or_ge j k with e | e
     ·exact h1 j h e
     ·obtain rfl:j=k:=by omega
      omega
    ·rcases Nat.lt_or_ge (j+1) k with e | e
     ·exact h2 j h e
     ·obtain rfl:k=j+1:=by omega
      (try simp only [Nat.add_sub_cancel] at*)
      omega
   ·omega
  refine ar rfl rfl (ar rfl rfl (ar rfl rfl (ar rfl rfl (ar rfl rfl (ar rfl rfl (ar rfl rfl (ae rfl (ab (ay (v:=.bool _) rfl rfl) ?_))))))));refine ab (ay (v:=.bool _) rfl rfl) (ak (ag (bc rfl (aN (bq (ag (af (ab (cF (b:=1) rfl rfl (by omega)) (mvi rfl (ak ?_))))))))));refine cG (k+1) ⟨(by first | rfl | (refine bo ?_;omega)),trivial⟩ (by (iterate 55 refine bE rfl ?_);exact bX) ⟨?_,?_⟩
  ·refine ⟨by omega,fun j h hj=>?_,fun j h hj=>?_,(hB.next E16)⟩
   ·rcases Nat.lt_or_ge j k with e | e
    ·exact h1 j h e
    ·obtain rfl:j=k:=by omega
     omega
   ·rcases Nat.lt_or_ge (j+1) k with e | e
    ·exact h2 j h e
    ·obtain rfl:k=j+1:=by omega
     (try simp only [Nat.add_sub_cancel] at*)
     omega
  ·omega
 refine cz (bk (bk (bW (ag (an (af (asb rfl (ak (ag (aE (bt (v:=.bool _) rfl rfl (⟨congrArg Value.bool ?_,hB⟩))))))))))));obtain rfl:k=l.length:=by omega
 rw [eq_comm,gV];exact ⟨fun x hx=>by obtain ⟨j,hj,rfl⟩:=List.getElem_of_mem hx;exact h1 j hj hj,fun j hj=>h2 j hj hj⟩
theorem cJ {s:Rf} (h:s.role=2):lx s↔((s.next.length:Int)=s.nodes∧(s.mtch.length:Int)=s.nodes∧(s.sent.length:Int)=s.nodes∧s.reads.length≤32)∧(eJ 1 (bd s+1) s.next∧eJ 0 (bd s) s.mtch∧eJ 0 s.snap.size s.sent)∧(∀ q∈s.reads,gO s q=true):=by unfold lx;rw [if_pos h]
theorem dZ {s:Rf} (h:s.role≠2):lx s↔s.next.length+s.mtch.length+s.sent.length+s.reads.length=0:=by unfold lx;rw [if_neg h]
theorem et {s:Rf} {q:Rd}:gO s q=true↔(1≤q.id∧q.id≤1099511627776)∧(0≤q.ix∧q.ix≤s.commit)∧(0≤q.rn∧q.rn≤s.round)∧fu q.acks s.nodes=true:=by
 unfold gO inb;simp only [Bool.and_eq_true,decide_eq_true_eq];constructor
 ·rintro ⟨⟨⟨h1,h2⟩,h3⟩,h4⟩;exact ⟨h1,h2,h3,h4⟩
 ·rintro ⟨h1,h2,h3,h4⟩;exact ⟨⟨⟨h1,h2⟩,h3⟩,h4⟩
theorem pt (s:Rf) (a:Ra) (w:World) (hrd:eQ w s a) (hN:iR s) (hL:gx s) (hl:s.next.length≤1000000∧s.mtch.length≤1000000∧s.sent.length≤1000000∧s.reads.length≤1000000∧∀ q∈s.reads,q.acks.length≤1000000) :
 Rt prog 134 [.agg (rfV s a).toArray] w (fun v w'=>v=.bool (decide (lx s))∧ai w w'):=by
 obtain ⟨E,Ec,V,Vc,X,Xc,M,Mc,Sn,Sc,Q,Qc,LL⟩:=a;have hrL:LL.map (fun q=>q.1)=s.reads:=hrd.r;have hrk:∀ q∈LL,IR w q.2.1 q.2.2 q.1.acks:=hrd.k;obtain ⟨hl1,hl2,hl3,hl4,hl5⟩:=hl;have hbl:=eY hL.1;have hlr:bd s=s.b+s.es.length:=hbl.1;have hrl:LL.length=s.reads.length:=by rw [←hrL,List.length_map]
 have hN0:=hN.1;refine enter (n:=122) Tryz.func134 rfl rfl rfl (an (af (bQ (v:=.agg _) rfl ?_)));intro b1 w1 E1 hb1 hk1;refine asb rfl (ak (ag (an (an (af (ab (aa cT rfl) (ab (au ao rfl (by exact (hk1.from_ ai.rfl_).rd 2 rfl)) ?_)))))));refine ab (de rfl rfl) (ak (ag (Bq rfl (fun Q2=>?_) (fun Q2=>?_))))
 ·refine an (af (ab (aa bw rfl) (ab (au aR rfl (by exact (show _=some (Value.slice X s.next.length Xc) from (hk1.from_ ai.rfl_).rd 15 rfl))) ?_)));refine ab (bL bP rfl) (ab (aa cf rfl) (ab (au aR rfl (by exact (show _=some (Value.slice M s.mtch.length Mc) from (hk1.from_ ai.rfl_).rd 16 rfl))) ?_));refine ab (bL bP rfl) (ab (cF rfl rfl (by omega)) (ab (aa ct rfl) (ab (au aR rfl (by exact (show _=some (Value.slice Sn s.sent.length Sc) from (hk1.from_ ai.rfl_).rd 17 rfl))) ?_)));refine ab (bL bP rfl) (ab (cF rfl rfl (by omega)) (ab (aa bH rfl) (ab (au du rfl (by exact (show _=some (Value.slice Q LL.length Qc) from (hk1.from_ ai.rfl_).rd 19 rfl))) ?_)));refine ab (bL eK rfl) (ab (cF rfl rfl (by omega)) (ab (bh rfl rfl) (asb rfl (ak (ag (aE (aG (bt (v:=.bool _) rfl rfl (⟨congrArg Value.bool ?_,(ai.rfl_.next E1)⟩)))))))));rw [Bool.eq_iff_iff,decide_eq_true_eq,dZ (by omega),beq_iff_eq];omega
 refine aN (ag (an (af (ab (aa bg rfl) (ab (aa bT rfl) (ab (au ao rfl (by exact (hk1.from_ ai.rfl_).rd 6 rfl)) ?_))))));refine ab (aa bg rfl) (ab (aa dy rfl) (ab (au cU rfl (by exact (hk1.from_ ai.rfl_).rd 8 rfl)) ?_));refine ab (bL db rfl) (ab (b0 rfl rfl (by omega)) (dX (t:=32) (v:=.int _ _) (v':=.int .i64 (bd s)) rfl (by exact bo hlr.symm) ?_));refine asi rfl (ak (ag (an (an (af (ab (aa bw rfl) (ab (au aR rfl (by exact (show _=some (Value.slice X s.next.length Xc) from (hk1.from_ ai.rfl_).rd 15 rfl))) ?_)))))));refine ab (bL bP rfl) (ab (aa cg rfl) (ab (au ao rfl (by exact (hk1.from_ ai.rfl_).rd 1 rfl)) ?_));refine ab (de rfl rfl) (mvb rfl (AR (t:=39) rfl (fun Q3=>?_) (fun Q3=>?_)))
 ·refine bB rfl (ak (ag (a_ rfl (an (af (asb rfl (ak (ag (aE (aG (bt (v:=.bool _) rfl rfl (⟨congrArg Value.bool ?_,(ai.rfl_.next E1)⟩))))))))))));rw [eq_comm,decide_eq_false_iff_not];rw [cJ (by omega)];rintro ⟨⟨g1,g2,g3,g4⟩,_⟩;omega
 refine ae rfl (ab (aa cf rfl) (ae rfl (ab (au aR rfl (by exact (show _=some (Value.slice M s.mtch.length Mc) from (hk1.from_ ai.rfl_).rd 16 rfl))) ?_)));refine ae rfl (ab (bL bP rfl) (ae rfl (ab (aa cg rfl) (ae rfl (ab (au ao rfl (by exact (hk1.from_ ai.rfl_).rd 1 rfl)) ?_)))));refine ae rfl (ab (de rfl rfl) (ab (ay (v:=.bool _) rfl rfl) (mvb rfl (AR (t:=47) rfl (fun Q4=>?_) (fun Q4=>?_)))))
 ·refine bB rfl (ak (ag (a_ rfl (an (af (asb rfl (ak (ag (aE (aG (bt (v:=.bool _) rfl rfl (⟨congrArg Value.bool ?_,(ai.rfl_.next E1)⟩))))))))))));rw [eq_comm,decide_eq_false_iff_not];rw [cJ (by omega)];rintro ⟨⟨g1,g2,g3,g4⟩,_⟩;omega
 refine ae rfl (ab (aa ct rfl) (ae rfl (ab (au aR rfl (by exact (show _=some (Value.slice Sn s.sent.length Sc) from (hk1.from_ ai.rfl_).rd 17 rfl))) ?_)));refine ae rfl (ab (bL bP rfl) (ae rfl (ab (aa cg rfl) (ae rfl (ab (au ao rfl (by exact (hk1.from_ ai.rfl_).rd 1 rfl)) ?_)))));refine ae rfl (ab (de rfl rfl) (ab (ay (v:=.bool _) rfl rfl) (mvb rfl (AR (t:=55) rfl (fun Q5=>?_) (fun Q5=>?_)))))
 ·refine bB rfl (ak (ag (a_ rfl (an (af (asb rfl (ak (ag (aE (aG (bt (v:=.bool _) rfl rfl (⟨congrArg Value.bool ?_,(ai.rfl_.next E1)⟩))))))))))));rw [eq_comm,decide_eq_false_iff_not];rw [cJ (by omega)];rintro ⟨⟨g1,g2,g3,g4⟩,_⟩;omega
 refine ae rfl (ab (aa bH rfl) (ae rfl (ab (au du rfl (by exact (show _=some (Value.slice Q LL.length Qc) from (hk1.from_ ai.rfl_).rd 19 rfl))) ?_)));refine ae rfl (ab (bL eK rfl) (ae rfl (ab (cy rfl rfl) (ab (ay (v:=.bool _) rfl rfl) (ak (ag (Bu rfl (fun Q6=>?_) (fun Q6=>?_))))))))
 ·refine an (af (asb rfl (ak (ag (aE (aG (bt (v:=.bool _) rfl rfl (⟨congrArg Value.bool ?_,(ai.rfl_.next E1)⟩))))))));rw [eq_comm,decide_eq_false_iff_not];rw [cJ (by omega)];rintro ⟨⟨g1,g2,g3,g4⟩,_⟩;omega
 refine aN (ag (an (an (af (mvi rfl (ab (b0 rfl rfl (by omega)) (ab (aa bw rfl) (ab (au aR rfl (by exact (show _=some (Value.slice X s.next.length Xc) from (hk1.from_ ai.rfl_).rd 15 rfl))) ?_))))))));refine aC dB (eG 1 (bd s+1) X Xc s.next _ (hrd.x.1.from_ (ai.rfl_.next E1)) hl1) ?_;rintro v65 w7 ⟨rfl,rfl⟩;refine ab (cp rfl) (mvb rfl (aM (t:=67) rfl (fun Q8=>?_) (fun Q8=>?_)))
 ·with_reducible (replace Q8:=dS Q8;replace Q8:=dF_ Q8)
  (try simp only [bu,bA,and_true] at Q8)
  refine bB rfl (ak (ag (a_ rfl (an (af (asb rfl (ak (ag (aE (aG (bt (v:=.bool _) rfl rfl (⟨congrArg Value.bool ?_,(ai.rfl_.next E1)⟩))))))))))));rw [eq_comm,decide_eq_false_iff_not];rw [cJ (by omega)];rintro ⟨_,⟨g1,g2,g3⟩,_⟩
  simp_all
 with_reducible (replace Q8:=dU Q8;replace Q8:=dT_ Q8)
 (try simp only [bu,bA,and_true] at Q8)
 refine ae rfl (mvi rfl (ae rfl (ab (aa cf rfl) (ae rfl (ab (au aR rfl (by exact (show _=some (Value.slice M s.mtch.length Mc) from (hk1.from_ ai.rfl_).rd 16 rfl))) ?_)))));refine ae rfl (aC dB (eG 0 (bd s) M Mc s.mtch _ (hrd.m.1.from_ (ai.rfl_.next E1)) hl2) ?_);rintro v71 w9 ⟨rfl,rfl⟩;refine ae rfl (ab (cp rfl) (ab (ay (v:=.bool _) rfl rfl) (mvb rfl (aM (t:=74) rfl (fun Q10=>?_) (fun Q10=>?_)))))
 ·with_reducible (replace Q10:=dS Q10;replace Q10:=dF_ Q10)
  (try simp only [bu,bA,and_true] at Q10)
  refine bB rfl (ak (ag (a_ rfl (an (af (asb rfl (ak (ag (aE (aG (bt (v:=.bool _) rfl rfl (⟨congrArg Value.bool ?_,(ai.rfl_.next E1)⟩))))))))))));rw [eq_comm,decide_eq_false_iff_not];rw [cJ (by omega)];rintro ⟨_,⟨g1,g2,g3⟩,_⟩
  simp_all
 with_reducible (replace Q10:=dU Q10;replace Q10:=dT_ Q10)
 (try simp only [bu,bA,and_true] at Q10)
 refine ae rfl (ab (aa cO rfl) (ae rfl (ab (au cD rfl (by exact (hk1.from_ ai.rfl_).rd 9 rfl)) ?_)));refine ae rfl (ab (en (by kernel_rfl) rfl) (ae rfl (ab (aa ct rfl) (ae rfl (ab (au aR rfl (by exact (show _=some (Value.slice Sn s.sent.length Sc) from (hk1.from_ ai.rfl_).rd 17 rfl))) ?_)))));refine ae rfl (aC dB (eG 0 (s.snap.size:Nat) Sn Sc s.sent _ (hrd.n.1.from_ (ai.rfl_.next E1)) hl3) ?_);rintro v80 w11 ⟨rfl,rfl⟩;refine ae rfl (ab (cp rfl) (ab (ay (v:=.bool _) rfl rfl) (ak (ag (aU rfl (fun Q12=>?_) (fun Q12=>?_))))))
 ·with_reducible (replace Q12:=dS Q12;replace Q12:=dF_ Q12)
  refine an (af (asb rfl (ak (ag (aE (aG (bt (v:=.bool _) rfl rfl (⟨congrArg Value.bool ?_,(ai.rfl_.next E1)⟩))))))));rw [eq_comm,decide_eq_false_iff_not];rw [cJ (by omega)];rintro ⟨_,⟨g1,g2,g3⟩,_⟩
  simp_all
 with_reducible (replace Q12:=dU Q12;replace Q12:=dT_ Q12)
 refine aN (ag (an (an (af (ab (aa bH rfl) (ab (au du rfl (by exact (show _=some (Value.slice Q LL.length Qc) from (hk1.from_ ai.rfl_).rd 19 rfl))) ?_))))));refine ab (bL eK rfl) (mvi rfl (ak (ag (bf (cS (G:=Nat) [2,5,87,88,89,90,91,92,93,94,95,96,97,98,99,100,101,102,103,104,105,106,107,108,109,110,111,112,113,114,115,116,117,118,119,120,121] (fun k=>[(86,.int .i64 (k:Nat))]) (fun k w'=>k≤LL.length∧(∀ j (h:j<LL.length),j<k→gO s LL[j].1=true)∧Blk w' b1 29 (rfV s (⟨E,Ec,V,Vc,X,Xc,M,Mc,Sn,Sc,Q,Qc,LL⟩:Ra)).toArray∧ai w w') (fun k=>LL.length-k) (0) ⟨rfl,trivial⟩ ?_ ?_)))))
 ·exact ⟨Nat.zero_le _,fun j _ h=>absurd h (by omega),hk1.from_ ai.rfl_,(ai.rfl_.next E1)⟩
 rintro k ρ13 w13 ⟨hk,h1,hk1,hB⟩;refine an (af (ab (bZ rfl rfl) (ak (ag (an (Bu rfl (fun Q14=>?_) (fun Q14=>?_)))))))
 ·have hkL:k<LL.length:=by omega
  have hqm:LL[k].1∈s.reads:=by rw [←hrL];exact List.mem_map_of_mem (List.getElem_mem hkL)
  obtain ⟨ba,oa,rfl,hcs⟩:∃ b o,Q=some ⟨b,o,none⟩∧∀ i (hi:i<LL.length),w.rangeAt b (o+i*4) (rdV LL[i]):=hrd.q (by show 0<LL.length;omega);refine aN (ag (an (bf (an (af (ab (bN eT rfl rfl (by omega)) (ab (aK (cs:=rdV LL[k]) gI eS rfl (ft hB (hcs k hkL))) (bU iD ?_))))))));intro b5 w15 E5 hb5 hk5;have hg5:w.heap.size≤b5:=by rw [hb5];exact (hB).size
  have hk1L:=hk1.from_ (ai.rfl_.next E5);have hn5:b1≠b5:=by have:=hk1.lt;have:=((ai.rfl_.next E5)).size;omega
  refine cq (vs:=[_,_,_,_]) eS rfl rfl (by simp [Value.oneCell']) (hk5) rfl ?_;intro w16 O10 P10;replace hk1:=hk1L.only O10 hn5;refine ak (ag (an (af (ab (aa jq rfl) (ab (au ao rfl (by exact (show _=some (Value.int .i64 LL[k].1.id) from (P10.from_ ai.rfl_).rd 0 rfl))) ?_)))));refine fD (v:=.int _ _) bS rfl rfl rfl ?_;intro b92 w17 E92 hb92 hk92;refine aC dB (eG 1 1099511627776 (some ⟨b92,0,none⟩) 1 [LL[k].1.id] _ (fT hk92) (by simp)) ?_;rintro v93 w18 ⟨rfl,rfl⟩;refine ab (cp rfl) (mvb rfl (aM (t:=95) rfl (fun Q19=>?_) (fun Q19=>?_)))
  ·with_reducible (replace Q19:=dS Q19;replace Q19:=dF_ Q19)
   (try simp only [bu,bA,and_true] at Q19)
   refine bB rfl (ak (ag (a_ rfl (an (af (asb rfl (ak (ag (aE (bG (aG (aG (bG (aG (bt (v:=.bool _) rfl rfl (⟨congrArg Value.bool ?_,(((hB.next E5).only O10 (hg5)).next E92)⟩))))))))))))))));rw [eq_comm,decide_eq_false_iff_not];rw [cJ (by omega)];rintro ⟨_,_,g⟩;have g5:=et.1 (g _ hqm)
   first
    |omega
    |simp_all
  with_reducible (replace Q19:=dU Q19;replace Q19:=dT_ Q19)
  (try simp only [bu,bA,and_true] at Q19)
  refine ae rfl (ab (aa dv rfl) (ae rfl (ab (au ao rfl (by exact (hk1.from_ (ai.rfl_.next E92)).rd 10 rfl)) ?_)));refine ae rfl (ab (aa jo rfl) (ae rfl (ab (au ao rfl (by exact (show _=some (Value.int .i64 LL[k].1.ix) from (P10.from_ (ai.rfl_.next E92)).rd 1 rfl))) ?_)));refine ae rfl (fD (v:=.int _ _) bS rfl rfl rfl ?_);intro b100 w20 E100 hb100 hk100;refine ae rfl (aC dB (eG 0 s.commit (some ⟨b100,0,none⟩) 1 [LL[k].1.ix] _ (fT hk100) (by simp)) ?_);rintro v101 w21 ⟨rfl,rfl⟩;refine ae rfl (ab (cp rfl) (ab (ay (v:=.bool _) rfl rfl) (mvb rfl (aM (t:=104) rfl (fun Q22=>?_) (fun Q22=>?_)))))
  ·with_reducible (replace Q22:=dS Q22;replace Q22:=dF_ Q22)
   (try simp only [bu,bA,and_true] at Q22)
   refine bB rfl (ak (ag (a_ rfl (an (af (asb rfl (ak (ag (aE (bG (aG (aG (bG (aG (bt (v:=.bool _) rfl rfl (⟨congrArg Value.bool ?_,((((hB.next E5).only O10 (hg5)).next E92).next E100)⟩))))))))))))))));rw [eq_comm,decide_eq_false_iff_not];rw [cJ (by omega)];rintro ⟨_,_,g⟩;have g5:=et.1 (g _ hqm)
   first
    |omega
    |simp_all
  with_reducible (replace Q22:=dU Q22;replace Q22:=dT_ Q22)
  (try simp only [bu,bA,and_true] at Q22)
  refine ae rfl (ab (aa dz rfl) (ae rfl (ab (au ao rfl (by exact (hk1.from_ ((ai.rfl_.next E92).next E100)).rd 18 rfl)) ?_)));refine ae rfl (ab (aa gu rfl) (ae rfl (ab (au ao rfl (by exact (show _=some (Value.int .i64 LL[k].1.rn) from (P10.from_ ((ai.rfl_.next E92).next E100)).rd 2 rfl))) ?_)));refine ae rfl (fD (v:=.int _ _) bS rfl rfl rfl ?_);intro b109 w23 E109 hb109 hk109;refine ae rfl (aC dB (eG 0 s.round (some ⟨b109,0,none⟩) 1 [LL[k].1.rn] _ (fT hk109) (by simp)) ?_);rintro v110 w24 ⟨rfl,rfl⟩;refine ae rfl (ab (cp rfl) (ab (ay (v:=.bool _) rfl rfl) (mvb rfl (aM (t:=113) rfl (fun Q25=>?_) (fun Q25=>?_)))))
  ·with_reducible (replace Q25:=dS Q25;replace Q25:=dF_ Q25)
   (try simp only [bu,bA,and_true] at Q25)
   refine bB rfl (ak (ag (a_ rfl (an (af (asb rfl (ak (ag (aE (bG (aG (aG (bG (aG (bt (v:=.bool _) rfl rfl (⟨congrArg Value.bool ?_,(((((hB.next E5).only O10 (hg5)).next E92).next E100).next E109)⟩))))))))))))))));rw [eq_comm,decide_eq_false_iff_not];rw [cJ (by omega)];rintro ⟨_,_,g⟩;have g5:=et.1 (g _ hqm)
   first
    |omega
    |simp_all
  with_reducible (replace Q25:=dU Q25;replace Q25:=dT_ Q25)
  (try simp only [bu,bA,and_true] at Q25)
  refine ae rfl (ab (aa ef rfl) (ae rfl (ab (au aR rfl (by exact (show _=some (Value.slice LL[k].2.1 LL[k].1.acks.length LL[k].2.2) from (P10.from_ (((ai.rfl_.next E92).next E100).next E109)).rd 3 rfl))) ?_)));refine ae rfl (ab (aa cg rfl) (ae rfl (ab (au ao rfl (by exact (hk1.from_ (((ai.rfl_.next E92).next E100).next E109)).rd 1 rfl)) ?_)));refine ae rfl (aC mA (pV LL[k].2.1 LL[k].2.2 LL[k].1.acks s.nodes _ ((hrk _ (List.getElem_mem hkL)).1.from_ (((((hB.next E5).only O10 (hg5)).next E92).next E100).next E109)) (hl5 _ hqm)) ?_);rintro v118 w26 ⟨rfl,E118⟩;refine ae rfl (ab (cp rfl) (ab (ay (v:=.bool _) rfl rfl) (ak (ag (Br rfl (fun Q27=>?_) (fun Q27=>?_))))))
  ·refine an (af (asb rfl (ak (ag (aE (bG (aG (aG (bG (aG (bt (v:=.bool _) rfl rfl (⟨congrArg Value.bool ?_,((((((hB.next E5).only O10 (hg5)).next E92).next E100).next E109).next E118)⟩))))))))))));rw [eq_comm,decide_eq_false_iff_not];rw [cJ (by omega)];rintro ⟨_,_,g⟩;have g5:=et.1 (g _ hqm)
   first
    |omega
    |simp_all
  refine aN (bq (ag (af (ab (b0 rfl rfl (by omega)) (mvi rfl (ak ?_))))));refine cG (k+1) ⟨(by first | rfl | (refine bo ?_;omega)),trivial⟩ (by (iterate 78 refine bE rfl ?_);exact bX) ⟨?_,?_⟩
  ·refine ⟨by omega,fun j h hj=>?_,hk1.from_ ((((ai.rfl_.next E92).next E100).next E109).next E118),((((((hB.next E5).only O10 (hg5)).next E92).next E100).next E109).next E118)⟩;rcases Nat.lt_or_ge j k with e | e
   ·exact h1 j h e
   ·obtain rfl:j=k:=by omega
    rw [et];exact ⟨by omega,by omega,by omega,by first | assumption | simp_all⟩
  ·omega
 refine cz (bk (bk (bW (ag (an (af (asb rfl (ak (ag (aE (bt (v:=.bool _) rfl rfl (⟨congrArg Value.bool ?_,hB⟩))))))))))));rw [eq_comm,decide_eq_true_eq];rw [cJ (by omega)];refine ⟨⟨by omega,by omega,by omega,by omega⟩,⟨?_,?_,?_⟩,fun q hq=>?_⟩
 ·simp_all
 ·simp_all
 ·simp_all
 ·rw [←hrL] at hq;obtain ⟨y,hy,rfl⟩:=List.mem_map.1 hq;obtain ⟨i,hi,rfl⟩:=List.getElem_of_mem hy;exact h1 i hi (by omega)
theorem b_ {s:Rf}:iq s=true↔iR s∧gx s∧fu s.votes s.nodes=true∧lx s∧gR s:=by
 constructor
 ·intro h;have F:=mS h;have hl:=F.last;refine ⟨⟨F.n,F.i,F.ro,⟨F.vo,F.le⟩,F.te,F.el,F.ti,F.rn⟩,⟨F.lg,F.lt,F.co,F.sn,?_⟩,F.vs,?_,⟨F.pa,F.po,?_⟩⟩
  ·have:=F.sb;omega
  ·by_cases hr:s.role=2
   ·rw [cJ hr];have hx:=F.nx;have hm:=F.ma;have hs:=F.se;rw [dO hr] at hx hm hs;have:=F.n;exact ⟨⟨by omega,by omega,by omega,F.rl⟩,⟨hx.2,hm.2,hs.2⟩,F.rd⟩
   ·rw [dZ hr];obtain ⟨e1,e2,e3,e4⟩:=F.free hr;rw [e1,e2,e3,e4];rfl
  ·have:=F.pp;have:=F.po;omega
 ·rintro ⟨⟨n,i,ro,⟨vo,le⟩,te,el,ti,rn⟩,⟨lg,lt,co,sn,sb⟩,vs,ls,⟨pa,po,pp⟩⟩;have hbl:=eY lg
  have key:(s.next.length=f_ s∧∀ x∈s.next,1≤x∧x≤bd s+1)∧(s.mtch.length=f_ s∧∀ x∈s.mtch,0≤x∧x≤bd s)∧(s.sent.length=f_ s∧∀ x∈s.sent,0≤x∧x≤(s.snap.size:Int))∧s.reads.length≤32∧(f_ s≠0∨s.reads.length=0)∧∀ q∈s.reads,gO s q=true:=by
   by_cases hr:s.role=2
   ·rw [cJ hr] at ls;obtain ⟨⟨l1,l2,l3,l4⟩,⟨g1,g2,g3⟩,g4⟩:=ls;rw [dO hr];exact ⟨⟨by omega,g1⟩,⟨by omega,g2⟩,⟨by omega,g3⟩,l4,.inl (by omega),g4⟩
   ·rw [dZ hr] at ls;rw [nP hr];have e1:s.next=[]:=List.eq_nil_of_length_eq_zero (by omega);have e2:s.mtch=[]:=List.eq_nil_of_length_eq_zero (by omega);have e3:s.sent=[]:=List.eq_nil_of_length_eq_zero (by omega);have e4:s.reads=[]:=List.eq_nil_of_length_eq_zero (by omega);rw [e1,e2,e3,e4];exact ⟨⟨rfl,fun x hx=>by cases hx⟩,⟨rfl,fun x hx=>by cases hx⟩,⟨rfl,fun x hx=>by cases hx⟩,by decide,.inr rfl,fun x hx=>by cases hx⟩
  obtain ⟨k1,k2,k3,k4,k5,k6⟩:=key;unfold iq eL qf;simp only [Bool.and_eq_true,Bool.or_eq_true,decide_eq_true_eq,List.all_eq_true];exact ⟨⟨⟨⟨⟨⟨⟨⟨⟨⟨⟨⟨⟨⟨⟨⟨⟨⟨⟨⟨⟨⟨⟨⟨n.1,n.2⟩,fz i⟩,fz ro⟩,fz te⟩,fz vo⟩,fz le⟩,lg⟩,sn⟩,by omega⟩,fz el⟩,fz ti⟩,fz rn⟩,vs⟩,lt⟩,fz co⟩,pa⟩,fz po⟩,by omega⟩,k1⟩,k2⟩,k3⟩,k4⟩,k5⟩,k6⟩
theorem su (s:Rf) (a:Ra) (w:World) (hrd:eQ w s a) (hl:s.votes.length≤1000000∧s.next.length≤1000000∧s.mtch.length≤1000000∧s.sent.length≤1000000∧s.reads.length≤1000000∧∀ q∈s.reads,q.acks.length≤1000000) :
 Rt prog 95 [.agg (rfV s a).toArray] w (fun v w'=>v=.int .i64 (if iq s=true then 0 else 1)∧ai w w'):=by
 refine enter (n:=29) Tryz.func95 rfl rfl rfl (an (af (bQ (v:=.agg _) rfl ?_)));intro b1 w1 E1 hb1 hk1;refine asi rfl (ak (ag (an (an (af (ab (aK (cs:=rfV s a) aS aJ rfl ((hk1.from_ ai.rfl_).whole)) (aC rq (nJ s a _) ?_)))))));rintro v4 w2 ⟨rfl,E4⟩;refine ab (cp rfl) (mvb rfl (aM (t:=6) rfl (fun Q3=>?_) (fun Q3=>?_)))
 ·replace Q3:=dS Q3;replace Q3:=dF_ Q3;have hNn:¬ iR s:=by first | exact Q3 | simpa using Q3
  refine bB rfl (ak (ag (a_ rfl (an (af (asi rfl (ak (ag (aE (aG (bt (v:=.int _ _) rfl rfl (⟨bo (by rw [if_neg (fun h=>by obtain ⟨g1,g2,g3,g4,g5⟩:=b_.1 h;first | exact hNn g1 | exact hLn g2 | exact hVn g3 | exact hSn g4 | exact hPn g5)]),((ai.rfl_.next E1).next E4)⟩))))))))))))
 replace Q3:=dU Q3;replace Q3:=dT_ Q3;have hN:iR s:=by first | exact Q3 | simpa using Q3
 refine ae rfl (ab (aK (cs:=rfV s a) aS aJ rfl ((hk1.from_ (ai.rfl_.next E4)).whole)) (ae rfl (aC rp (rD s a _ (hrd.e.from_ ((ai.rfl_.next E1).next E4))) ?_)));rintro v8 w4 ⟨rfl,E8⟩;refine ae rfl (ab (cp rfl) (ab (ay (v:=.bool _) rfl rfl) (mvb rfl (aM (t:=11) rfl (fun Q5=>?_) (fun Q5=>?_)))))
 ·replace Q5:=dS Q5;replace Q5:=dF_ Q5;have hLn:¬ gx s:=by first | exact Q5 | simpa using Q5
  refine bB rfl (ak (ag (a_ rfl (an (af (asi rfl (ak (ag (aE (aG (bt (v:=.int _ _) rfl rfl (⟨bo (by rw [if_neg (fun h=>by obtain ⟨g1,g2,g3,g4,g5⟩:=b_.1 h;first | exact hNn g1 | exact hLn g2 | exact hVn g3 | exact hSn g4 | exact hPn g5)]),(((ai.rfl_.next E1).next E4).next E8)⟩))))))))))))
 replace Q5:=dU Q5;replace Q5:=dT_ Q5;have hL:gx s:=by first | exact Q5 | simpa using Q5
 refine ae rfl (ab (aa dc rfl) (ae rfl (ab (au aR rfl (by exact (show _=some (Value.slice a.V s.votes.length a.Vc) from (hk1.from_ ((ai.rfl_.next E4).next E8)).rd 14 rfl))) ?_)));refine ae rfl (ab (aa cg rfl) (ae rfl (ab (au ao rfl (by exact (hk1.from_ ((ai.rfl_.next E4).next E8)).rd 1 rfl)) ?_)));refine ae rfl (aC mA (pV a.V a.Vc s.votes s.nodes _ (hrd.v.1.from_ (((ai.rfl_.next E1).next E4).next E8)) hl.1) ?_);rintro v16 w6 ⟨rfl,E16⟩;refine ae rfl (ab (cp rfl) (ab (ay (v:=.bool _) rfl rfl) (mvb rfl (AS (t:=19) rfl (fun Q7=>?_) (fun Q7=>?_)))))
 ·have hVn:¬ fu s.votes s.nodes=true:=by first | exact Q7 | simpa using Q7
  refine bB rfl (ak (ag (a_ rfl (an (af (asi rfl (ak (ag (aE (aG (bt (v:=.int _ _) rfl rfl (⟨bo (by rw [if_neg (fun h=>by obtain ⟨g1,g2,g3,g4,g5⟩:=b_.1 h;first | exact hNn g1 | exact hLn g2 | exact hVn g3 | exact hSn g4 | exact hPn g5)]),((((ai.rfl_.next E1).next E4).next E8).next E16)⟩))))))))))))
 have hV:fu s.votes s.nodes=true:=by first | exact Q7 | simpa using Q7
 refine ae rfl (ab (aK (cs:=rfV s a) aS aJ rfl ((hk1.from_ (((ai.rfl_.next E4).next E8).next E16)).whole)) (ae rfl (aC rm (pt s a _ (hrd.from_ ((((ai.rfl_.next E1).next E4).next E8).next E16)) hN hL hl.2) ?_)));rintro v21 w8 ⟨rfl,E21⟩;refine ae rfl (ab (cp rfl) (ab (ay (v:=.bool _) rfl rfl) (mvb rfl (aM (t:=24) rfl (fun Q9=>?_) (fun Q9=>?_)))))
 ·replace Q9:=dS Q9;replace Q9:=dF_ Q9;have hSn:¬ lx s:=by first | exact Q9 | simpa using Q9
  refine bB rfl (ak (ag (a_ rfl (an (af (asi rfl (ak (ag (aE (aG (bt (v:=.int _ _) rfl rfl (⟨bo (by rw [if_neg (fun h=>by obtain ⟨g1,g2,g3,g4,g5⟩:=b_.1 h;first | exact hNn g1 | exact hLn g2 | exact hVn g3 | exact hSn g4 | exact hPn g5)]),(((((ai.rfl_.next E1).next E4).next E8).next E16).next E21)⟩))))))))))))
 replace Q9:=dU Q9;replace Q9:=dT_ Q9;have hS:lx s:=by first | exact Q9 | simpa using Q9
 refine ae rfl (ab (aK (cs:=rfV s a) aS aJ rfl ((hk1.from_ ((((ai.rfl_.next E4).next E8).next E16).next E21)).whole)) (ae rfl (aC rk (qu s a _) ?_)));rintro v26 w10 ⟨rfl,E26⟩;refine ae rfl (ab (cp rfl) (ab (ay (v:=.bool _) rfl rfl) (ak (ag (aU rfl (fun Q11=>?_) (fun Q11=>?_))))))
 ·replace Q11:=dS Q11;replace Q11:=dF_ Q11;have hPn:¬ gR s:=by first | exact Q11 | simpa using Q11
  refine an (af (asi rfl (ak (ag (aE (aG (bt (v:=.int _ _) rfl rfl (⟨bo (by rw [if_neg (fun h=>by obtain ⟨g1,g2,g3,g4,g5⟩:=b_.1 h;first | exact hNn g1 | exact hLn g2 | exact hVn g3 | exact hSn g4 | exact hPn g5)]),((((((ai.rfl_.next E1).next E4).next E8).next E16).next E21).next E26)⟩))))))))
 replace Q11:=dU Q11;replace Q11:=dT_ Q11;have hP:gR s:=by first | exact Q11 | simpa using Q11
 refine aN (ag (an (af (asi rfl (ak (ag (aE (bt (v:=.int _ _) rfl rfl (⟨bo (by rw [if_pos (b_.2 ⟨hN,hL,hV,hS,hP⟩)]),((((((ai.rfl_.next E1).next E4).next E8).next E16).next E21).next E26)⟩)))))))))
end Go.Proofs.YtkpooenofjdpmaaGreat
