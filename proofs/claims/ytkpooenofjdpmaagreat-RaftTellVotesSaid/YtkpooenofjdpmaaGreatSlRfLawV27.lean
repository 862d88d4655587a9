/- texts that the claim stands on. -/
import Derived.Test.YtkpooenofjdpmaaGreatSlRfLawV26

set_option maxRecDepth 100000
set_option maxHeartbeats 4000000
namespace Go.Proofs.YtkpooenofjdpmaaGreat
open Go.Proofs.Tryz (prog)
open Go.RowKit
open Go.ChangeShapes Go.WideShapes Go.ChangeAt
theorem qQ:aO prog 146=true:=by kernel_rfl
theorem mh:aO prog 102=true:=by kernel_rfl
theorem mg:aO prog 126=true:=by kernel_rfl
theorem nm:aO prog 72=true:=by kernel_rfl
theorem kN {s:Rf} {m:Msg} (h:¬ (s.role=1∧m.ok=true)):im s m=⟨s,[]⟩:=by
 unfold im;rw [if_neg h]
theorem qi {s:Rf} {m:Msg} (h:s.role=1) (h2:m.ok=true):im s m=iv ⟨{ s with votes:=c8 s.votes m.f },[]⟩:=by
 unfold im;rw [if_pos ⟨h,h2⟩]
theorem nO {s:Rf} (h:RfF s):s.votes.Pairwise (·<·):=oh _ (kq h.vs).2
theorem yC (w0:World) (Z:Nat→Prop) (T g:Nat) (s:Rf) (m:Msg) (w:World) (h:aQ w0 Z w T g ⟨s,[]⟩) (hok:m.ok=false) :
 Rt prog 102 [.pointer (some ⟨g,0,none⟩),.agg (bD m).toArray] w (fun v w'=>v=.tuple #[]∧aQ w0 Z w' T g (im s m)):=by
 refine enter (n:=32) Tryz.func102 rfl rfl rfl (ak (af (bK (v:=.agg _) rfl ?_)));intro b3 w1 E3 hb3 hk3;obtain ⟨wm,hwm⟩:∃ x,x=w1:=⟨_,rfl⟩
 have h3a:=h.at_ (Z':=fun k=>Z k∨k=b3) E3 (fun k hk=>by
  rcases hk with e | e
  ·exact ⟨Nat.lt_of_lt_of_le (h.zw k e) E3.size,.inl e⟩
  ·subst e;exact ⟨hk3.lt,.inr (by omega)⟩)
 obtain ⟨Z7,hZ7⟩:∃ Z7,Z7=fun k=>Z k∨k=b3:=⟨_,rfl⟩
 have h3:aQ wm Z7 w1 T g ⟨s,[]⟩:=by
  rw [hZ7,hwm];exact h3a
 have hzi:∀ k,Z k→Z7 k:=fun k hk=>by rw [hZ7];exact .inl hk
 have hzb:Z7 b3:=by rw [hZ7];exact .inr rfl
 have hE3:ah w wm:=by rw [hwm];exact E3
 have hm9:Blk wm b3 39 (bD m).toArray:=by rw [hwm];exact hk3
 have hm3:=h3.kept hzb hm9;refine aj (ag (ak (ak (af (aa (ab dQ rfl) (aa (ar eb rfl (by exact (show _=some (Value.bool m.ok) from (hm3.from_ ah.rfl_).rd 8 rfl))) ?_))))));refine aa (c6 (cd rfl) (by rw [hok];rfl)) ?_;refine mvb rfl (an rfl rfl (an rfl rfl (an rfl rfl (an rfl rfl (an rfl rfl (an rfl rfl (an rfl rfl (aa (aL (v:=.bool _) rfl rfl) ?_))))))));refine aj (ag (aS rfl (aB (aD (dV rfl ?_)))));rw [kN (fun e=>by rw [hok] at e;cases e.2)];exact ⟨rfl,h.from_ (E3.next ah.rfl_)⟩
theorem yB (w0:World) (Z:Nat→Prop) (T g:Nat) (s:Rf) (m:Msg) (w:World) (h:aQ w0 Z w T g ⟨s,[]⟩) (hok:m.ok=true) (hro:s.role≠1) :
 Rt prog 102 [.pointer (some ⟨g,0,none⟩),.agg (bD m).toArray] w (fun v w'=>v=.tuple #[]∧aQ w0 Z w' T g (im s m)):=by
 refine enter (n:=32) Tryz.func102 rfl rfl rfl (ak (af (bK (v:=.agg _) rfl ?_)));intro b3 w1 E3 hb3 hk3;obtain ⟨wm,hwm⟩:∃ x,x=w1:=⟨_,rfl⟩
 have h3a:=h.at_ (Z':=fun k=>Z k∨k=b3) E3 (fun k hk=>by
  rcases hk with e | e
  ·exact ⟨Nat.lt_of_lt_of_le (h.zw k e) E3.size,.inl e⟩
  ·subst e;exact ⟨hk3.lt,.inr (by omega)⟩)
 obtain ⟨Z7,hZ7⟩:∃ Z7,Z7=fun k=>Z k∨k=b3:=⟨_,rfl⟩
 have h3:aQ wm Z7 w1 T g ⟨s,[]⟩:=by
  rw [hZ7,hwm];exact h3a
 have hzi:∀ k,Z k→Z7 k:=fun k hk=>by rw [hZ7];exact .inl hk
 have hzb:Z7 b3:=by rw [hZ7];exact .inr rfl
 have hE3:ah w wm:=by rw [hwm];exact E3
 have hm9:Blk wm b3 39 (bD m).toArray:=by rw [hwm];exact hk3
 have hm3:=h3.kept hzb hm9;refine aj (ag (ak (ak (af (aa (ab dQ rfl) (aa (ar eb rfl (by exact (show _=some (Value.bool m.ok) from (hm3.from_ ah.rfl_).rd 8 rfl))) ?_))))));refine aa (ch (cd rfl) (by rw [hok];rfl)) ?_;refine mvb rfl (ae rfl (mvp rfl (ae rfl (aa (av rfl) (ae rfl (aa (ab aN rfl) (ae rfl (aa (ab aC rfl) ?_))))))));refine ae rfl (aa (ab cG rfl) (ae rfl (aa (ar ao rfl (by exact (show _=some (Value.int .i64 s.role) from (h3.from_ ah.rfl_).rd (fun _=>rfl)))) ?_)));refine ae rfl (aa (c6 (dk rfl rfl) (bne_iff_ne.2 hro)) (aa (aw (v:=.bool _) rfl rfl) (aj (ag (aS rfl (aB (aD (dV rfl ?_))))))));rw [kN (fun e=>hro e.1)];exact ⟨rfl,h.from_ (E3.next ah.rfl_)⟩
theorem yA (w0:World) (Z:Nat→Prop) (T g:Nat) (s:Rf) (m:Msg) (w:World) (h:aQ w0 Z w T g ⟨s,[]⟩) (hF:RfF s) (hf:1≤m.f∧m.f≤s.nodes) (hok:m.ok=true) (hro:s.role=1) :
 Rt prog 102 [.pointer (some ⟨g,0,none⟩),.agg (bD m).toArray] w (fun v w'=>v=.tuple #[]∧aQ w0 Z w' T g (im s m)):=by
 have hvl:=hF.vl;have hFv:RfF ({ s with votes:=c8 s.votes m.f }:Rf):=hF.voted hf;refine enter (n:=32) Tryz.func102 rfl rfl rfl (ak (af (bK (v:=.agg _) rfl ?_)));intro b3 w1 E3 hb3 hk3;obtain ⟨wm,hwm⟩:∃ x,x=w1:=⟨_,rfl⟩
 have h3a:=h.at_ (Z':=fun k=>Z k∨k=b3) E3 (fun k hk=>by
  rcases hk with e | e
  ·exact ⟨Nat.lt_of_lt_of_le (h.zw k e) E3.size,.inl e⟩
  ·subst e;exact ⟨hk3.lt,.inr (by omega)⟩)
 obtain ⟨Z7,hZ7⟩:∃ Z7,Z7=fun k=>Z k∨k=b3:=⟨_,rfl⟩
 have h3:aQ wm Z7 w1 T g ⟨s,[]⟩:=by
  rw [hZ7,hwm];exact h3a
 have hzi:∀ k,Z k→Z7 k:=fun k hk=>by rw [hZ7];exact .inl hk
 have hzb:Z7 b3:=by rw [hZ7];exact .inr rfl
 have hE3:ah w wm:=by rw [hwm];exact E3
 have hm9:Blk wm b3 39 (bD m).toArray:=by rw [hwm];exact hk3
 have hm3:=h3.kept hzb hm9;obtain ⟨tgV,aV,OV,ocV,LV,hsV⟩:=h3.ex;have hrV:=(hsV.f.v (by decide)).1;refine aj (ag (ak (ak (af (aa (ab dQ rfl) (aa (ar eb rfl (by exact (show _=some (Value.bool m.ok) from (hm3.from_ ah.rfl_).rd 8 rfl))) ?_))))));refine aa (ch (cd rfl) (by rw [hok];rfl)) ?_;refine mvb rfl (ae rfl (mvp rfl (ae rfl (aa (av rfl) (ae rfl (aa (ab aN rfl) (ae rfl (aa (ab aC rfl) ?_))))))));refine ae rfl (aa (ab cG rfl) (ae rfl (aa (ar ao rfl (by exact (show _=some (Value.int .i64 s.role) from (h3.from_ ah.rfl_).rd (fun _=>rfl)))) ?_)));refine ae rfl (aa (ch (dk rfl rfl) (by rw [hro];rfl)) ?_);refine aa (aw (v:=.bool _) rfl rfl) (aj (ag (bd rfl (aM (ag (ak ?_))))));apply qH 10 9 [] [(16,eqp _),(17,eqp _),(18,eqp _),(19,eqp _),(20,eqp _),(21,eqp _),(22,eqp (.slice aV.V s.votes.length aV.Vc)),(23,eqp _),(24,eqp (.int .i64 m.f)),(25,fun (v:Value) (w':World)=>∃ (A2:Option Addr) (c2:Nat),v=Value.slice A2 (c8 s.votes m.f).length c2∧w'.ownsRow 0 3 1 (.slice A2 (c8 s.votes m.f).length c2) (c8 s.votes m.f).length ((c8 s.votes m.f).map iV)∧(∀ k,A2.map (·.block)=some k→aV.V.map (·.block)=some k∨(w1).heap.size≤k))] (fun w'=>ah w1 w') (fun w'=>(w1).grownBy w' (aV.V.map (·.block))) (by repeat first | exact cB | refine cA ?_ | refine bW ?_) (by kernel_rfl) (by kernel_rfl) (by kernel_rfl) ⟨aq _,aq _,aq _,aq _,aq _,aq _,aq _,aq _,aq _,(fun _ _ _ hF ⟨A2,c2,h1,h2,h3⟩=>⟨A2,c2,h1,h2.kept_from hF,h3⟩),trivial⟩ (ah.rfl_.d1) (ah.rfl_.d1.grown _) (fun _ _ hF h=>h.next hF) (fun _ _ hF h=>cY h (hF.grown _))
 case hop=>
  constructor
  ·rintro-w3 hG3;exact au (aH (v:=.pointer _) rfl) rfl
  constructor
  ·rintro-w4 hG4;exact au (aH (v:=.pointer _) rfl) rfl
  constructor
  ·rintro-w5 hG5;rintro _ rfl;exact au (av rfl) rfl
  constructor
  ·rintro-w6 D6;rintro _ rfl;exact au (ab aN rfl) rfl
  constructor
  ·rintro-w7 D7;rintro _ rfl;exact au (ab aC rfl) rfl
  constructor
  ·rintro-w8 D8;rintro _ rfl;exact au (ab cf rfl) rfl
  constructor
  ·rintro-w9 D9;rintro _ rfl;exact au (ar bc rfl (show _=some (Value.slice aV.V s.votes.length aV.Vc) from ct (hsV.b.from_ D9) 14 rfl)) rfl
  constructor
  ·rintro-w10 D10;exact au (ab cH rfl) rfl
  constructor
  ·rintro-w11 D11;rintro _ rfl;exact au (ar ao rfl (show _=some (Value.int .i64 m.f) from (hm3.from_ D11).rd 1 rfl)) rfl
  constructor
  ·intro h;cases h
  exact trivial
 case hmu=>
  rintro w13 D13;rintro v13_22 rfl v13_24 rfl;show rf ..;refine y4 qQ (yz aV.V aV.Vc s.votes m.f _ (hrV.kept_from D13) (nO hF) (by omega)) ?_;rintro v w3 ⟨⟨A2,c2,rfl,ho3,hl3⟩,hg3⟩;exact ⟨cY (D13.grown _) hg3,⟨A2,c2,rfl,ho3,fun k hk=>(hl3 k hk).imp id fun e=>Nat.le_trans D13.size e⟩,fun t u ht h=>kr (by repeat first | exact trivial | refine ⟨.inl rfl,?_⟩ | refine ⟨.inr (fun _ h=>h),?_⟩) t u ht h⟩
 case hend=>
  rintro w14 hG14;rintro _ rfl _ rfl _ rfl _ rfl _ rfl _ rfl v22 rfl _ rfl v24 rfl v25 ⟨A25,c25,rfl,ho25,hL25⟩;show St ..;have hgD:=hG14;have hCV:Chg (fun q=>tgV q=1) _ w14:=Chg.of_grown hgD (fun q hq=>(hsV.f.v (by decide)).2 q hq);have hbV:=hsV.b.chg hCV (fun e=>by have h8:=hsV.gc;rw [e] at h8;cases h8);have hfV:=cD.votes (bh.but (c:=1) hsV.f hCV) (l:=c8 s.votes m.f) rfl ho25 ((hsV.f.v (by decide)).2.new (dt (hsV.f.v (by decide)).1) hL25);refine aa (av rfl) (aa (ab aN rfl) (aa (ab aC rfl) (aa (ab cf rfl) (cj (s':=({ s with votes:=c8 s.votes m.f }:Rf)) (a':={ aV with V:=A25,Vc:=c25 }) cy rfl rfl rfl hbV ⟨by decide,rfl⟩ ?_))));intro w15 O2 P2;have h12:=(h3.put (s':=({ s with votes:=c8 s.votes m.f }:Rf)) (a':={ aV with V:=A25,Vc:=c25 }) hsV hCV (.inl (by decide)) hfV (O2.toChg rfl) P2).2;refine aj (ag (af (mvp rfl (ay ml (sf wm Z7 T g ⟨({ s with votes:=c8 s.votes m.f }:Rf),[]⟩ _ (h12.from_ ah.rfl_) hFv (Nat.zero_le _)) ?_))));rintro v31 w16 ⟨rfl,h6⟩;refine aj (cC (dV rfl ?_));rw [qi hro hok];exact ⟨rfl,h.back hE3 (h6.from_ ah.rfl_) hzi⟩
theorem rq (w0:World) (Z:Nat→Prop) (T g:Nat) (s:Rf) (m:Msg) (w:World) (h:aQ w0 Z w T g ⟨s,[]⟩) (hF:RfF s) (hf:1≤m.f∧m.f≤s.nodes):Rt prog 102 [.pointer (some ⟨g,0,none⟩),.agg (bD m).toArray] w fun v w'=>v=.tuple #[]∧aQ w0 Z w' T g (im s m):=by
 cases hok:m.ok with
 |false=>exact yC w0 Z T g s m w h hok
 |true=>
  by_cases hro:s.role=1
  ·exact yA w0 Z T g s m w h hF hf hok hro
  ·exact yB w0 Z T g s m w h hok hro
theorem yK (w0:World) (Z:Nat→Prop) (T g:Nat) (s:Rf) (m:Msg) (w:World) (h:aQ w0 Z w T g ⟨s,[]⟩) (hF:RfF s) (_:m.tm≤1099511627775) (hk:m.k=2) (hf:1≤m.f∧m.f≤s.nodes) (hgt:s.term=m.tm) :
 Rt prog 58 [.pointer (some ⟨g,0,none⟩),.agg (bD m).toArray] w (fun v w'=>v=.tuple #[]∧aQ w0 Z w' T g (cO s m)):=by
 refine enter (n:=55) Tryz.func58 rfl rfl rfl (ak (af (bK (v:=.agg _) rfl ?_)));intro b3 w1 E3 hb3 hk3;obtain ⟨wm,hwm⟩:∃ x,x=w1:=⟨_,rfl⟩
 have h3a:=h.at_ (Z':=fun k=>Z k∨k=b3) E3 (fun k hk=>by
  rcases hk with e | e
  ·exact ⟨Nat.lt_of_lt_of_le (h.zw k e) E3.size,.inl e⟩
  ·subst e;exact ⟨hk3.lt,.inr (by omega)⟩)
 obtain ⟨Z7,hZ7⟩:∃ Z7,Z7=fun k=>Z k∨k=b3:=⟨_,rfl⟩
 have h3:aQ wm Z7 w1 T g ⟨s,[]⟩:=by
  rw [hZ7,hwm];exact h3a
 have hzi:∀ k,Z k→Z7 k:=fun k hk=>by rw [hZ7];exact .inl hk
 have hzb:Z7 b3:=by rw [hZ7];exact .inr rfl
 have hE3:ah w wm:=by rw [hwm];exact E3
 have hm9:Blk wm b3 39 (bD m).toArray:=by rw [hwm];exact hk3
 have hm3:=h3.kept hzb hm9;refine aj (ag (ak (ak ?_)))
 skip
 apply bQ 9 [(4,eqp _),(5,eqp (.int .i64 m.tm)),(6,eqp _),(7,eqp _),(8,eqp _),(9,eqp _),(10,eqp _),(11,eqp (.int .i64 s.term)),(12,eqp _)] (by repeat first | exact cB | refine cA ?_ | refine bW ?_) (by kernel_rfl) (by kernel_rfl) ⟨aq _,aq _,aq _,aq _,aq _,aq _,aq _,aq _,aq _,trivial⟩
 case hop=>
  constructor
  ·rintro-w3 D3;exact au (ab bt rfl) rfl
  constructor
  ·rintro-w4 D4;rintro _ rfl;exact au (ar ao rfl (by exact (show _=some (Value.int .i64 m.tm) from (hm3.from_ (ah.rfl_.next D4)).rd 3 rfl))) rfl
  constructor
  ·rintro-w5 D5;exact au (aH (v:=.pointer _) rfl) rfl
  constructor
  ·rintro-w6 D6;rintro _ rfl;exact au (av rfl) rfl
  constructor
  ·rintro-w7 D7;rintro _ rfl;exact au (ab aN rfl) rfl
  constructor
  ·rintro-w8 D8;rintro _ rfl;exact au (ab aC rfl) rfl
  constructor
  ·rintro-w9 D9;rintro _ rfl;exact au (ab bm rfl) rfl
  constructor
  ·rintro-w10 D10;rintro _ rfl;exact au (ar ao rfl (by exact (show _=some (Value.int .i64 s.term) from (h3.from_ (ah.rfl_.next D10)).rd (fun _=>rfl)))) rfl
  constructor
  ·rintro-w11 D11;rintro v11_5 rfl v11_11 rfl;exact au (ch (cn rfl rfl) (decide_eq_false (by omega))) rfl
  exact trivial
 case hend=>
  intro w12 D12;rintro _ rfl v5 rfl _ rfl _ rfl _ rfl _ rfl _ rfl v11 rfl _ rfl;show St ..;refine aj (ag (bd rfl (aM (ag (ak (ak ?_))))))
  skip
  apply bQ 9 [(19,eqp _),(20,eqp (.int .i64 m.tm)),(21,eqp _),(22,eqp _),(23,eqp _),(24,eqp _),(25,eqp _),(26,eqp (.int .i64 s.term)),(27,eqp _)] (by repeat first | exact cB | refine cA ?_ | refine bW ?_) (by kernel_rfl) (by kernel_rfl) ⟨aq _,aq _,aq _,aq _,aq _,aq _,aq _,aq _,aq _,trivial⟩
  case hop=>
   constructor
   ·rintro-w14 D14;exact au (ab bt rfl) rfl
   constructor
   ·rintro-w15 D15;rintro _ rfl;exact au (ar ao rfl (by exact (show _=some (Value.int .i64 m.tm) from ((h3.kept hzb hm9).from_ ((ah.rfl_.next D12).next D15)).rd 3 rfl))) rfl
   constructor
   ·rintro-w16 D16;exact au (aH (v:=.pointer _) rfl) rfl
   constructor
   ·rintro-w17 D17;rintro _ rfl;exact au (av rfl) rfl
   constructor
   ·rintro-w18 D18;rintro _ rfl;exact au (ab aN rfl) rfl
   constructor
   ·rintro-w19 D19;rintro _ rfl;exact au (ab aC rfl) rfl
   constructor
   ·rintro-w20 D20;rintro _ rfl;exact au (ab bm rfl) rfl
   constructor
   ·rintro-w21 D21;rintro _ rfl;exact au (ar ao rfl (by exact (show _=some (Value.int .i64 s.term) from (h3.from_ ((ah.rfl_.next D12).next D21)).rd (fun _=>rfl)))) rfl
   constructor
   ·rintro-w22 D22;rintro v22_20 rfl v22_26 rfl;exact au (ch (bM rfl rfl) (decide_eq_false (by have:=dO s m.tm;omega))) rfl
   exact trivial
  case hend=>
   intro w23 D23;rintro _ rfl v20 rfl _ rfl _ rfl _ rfl _ rfl _ rfl v26 rfl _ rfl;show St ..;refine aj (ag (bd rfl (aM (ag (ak (af (aa (ab cr rfl) (aa (ar ao rfl (by exact (show _=some (Value.int .i64 m.k) from ((h3.kept hzb hm9).from_ ((ah.rfl_.next D12).next D23)).rd 0 rfl))) ?_))))))));refine aj (ag (aU (ak (af (aa (ch (bg rfl rfl) (beq_eq_false_iff_ne.2 (by omega))) (asb rfl (aj (ag (bd rfl (ak (af (aa (c6 (bg rfl rfl) (beq_iff_eq.2 hk)) (asb rfl (aj (ag ?_)))))))))))))));refine aS rfl (af (mvp rfl (aa (aG (cs:=bD m) bk aY rfl (((h3.kept hzb hm9).from_ ((ah.rfl_.next D12).next D23)).whole)) (ay mh (rq wm Z7 T g s m _ (h3.from_ ((ah.rfl_.next D12).next D23)) hF hf) ?_))));rintro v42 w24 ⟨rfl,h6⟩;refine aj (bo (cC (dV rfl ?_)));rw [kg (by omega) hk];exact ⟨rfl,h.back hE3 (h6.from_ ah.rfl_) hzi⟩
theorem yJ (w0:World) (Z:Nat→Prop) (T g:Nat) (s:Rf) (m:Msg) (w:World) (h:aQ w0 Z w T g ⟨s,[]⟩) (hF:RfF s) (ht:m.tm≤1099511627775) (hk:m.k=2) (hf:1≤m.f∧m.f≤s.nodes) (hgt:s.term<m.tm) :
 Rt prog 58 [.pointer (some ⟨g,0,none⟩),.agg (bD m).toArray] w (fun v w'=>v=.tuple #[]∧aQ w0 Z w' T g (cO s m)):=by
 have hFf:RfF (bS s m.tm):=hF.falls ht;refine enter (n:=55) Tryz.func58 rfl rfl rfl (ak (af (bK (v:=.agg _) rfl ?_)));intro b3 w1 E3 hb3 hk3;obtain ⟨wm,hwm⟩:∃ x,x=w1:=⟨_,rfl⟩
 have h3a:=h.at_ (Z':=fun k=>Z k∨k=b3) E3 (fun k hk=>by
  rcases hk with e | e
  ·exact ⟨Nat.lt_of_lt_of_le (h.zw k e) E3.size,.inl e⟩
  ·subst e;exact ⟨hk3.lt,.inr (by omega)⟩)
 obtain ⟨Z7,hZ7⟩:∃ Z7,Z7=fun k=>Z k∨k=b3:=⟨_,rfl⟩
 have h3:aQ wm Z7 w1 T g ⟨s,[]⟩:=by
  rw [hZ7,hwm];exact h3a
 have hzi:∀ k,Z k→Z7 k:=fun k hk=>by rw [hZ7];exact .inl hk
 have hzb:Z7 b3:=by rw [hZ7];exact .inr rfl
 have hE3:ah w wm:=by rw [hwm];exact E3
 have hm9:Blk wm b3 39 (bD m).toArray:=by rw [hwm];exact hk3
 have hm3:=h3.kept hzb hm9;refine aj (ag (ak (ak ?_)))
 skip
 apply bQ 9 [(4,eqp _),(5,eqp (.int .i64 m.tm)),(6,eqp _),(7,eqp _),(8,eqp _),(9,eqp _),(10,eqp _),(11,eqp (.int .i64 s.term)),(12,eqp _)] (by repeat first | exact cB | refine cA ?_ | refine bW ?_) (by kernel_rfl) (by kernel_rfl) ⟨aq _,aq _,aq _,aq _,aq _,aq _,aq _,aq _,aq _,trivial⟩
 case hop=>
  constructor
  ·rintro-w3 D3;exact au (ab bt rfl) rfl
  constructor
  ·rintro-w4 D4;rintro _ rfl;exact au (ar ao rfl (by exact (show _=some (Value.int .i64 m.tm) from (hm3.from_ (ah.rfl_.next D4)).rd 3 rfl))) rfl
  constructor
  ·rintro-w5 D5;exact au (aH (v:=.pointer _) rfl) rfl
  constructor
  ·rintro-w6 D6;rintro _ rfl;exact au (av rfl) rfl
  constructor
  ·rintro-w7 D7;rintro _ rfl;exact au (ab aN rfl) rfl
  constructor
  ·rintro-w8 D8;rintro _ rfl;exact au (ab aC rfl) rfl
  constructor
  ·rintro-w9 D9;rintro _ rfl;exact au (ab bm rfl) rfl
  constructor
  ·rintro-w10 D10;rintro _ rfl;exact au (ar ao rfl (by exact (show _=some (Value.int .i64 s.term) from (h3.from_ (ah.rfl_.next D10)).rd (fun _=>rfl)))) rfl
  constructor
  ·rintro-w11 D11;rintro v11_5 rfl v11_11 rfl;exact au (c6 (cn rfl rfl) (decide_eq_true hgt)) rfl
  exact trivial
 case hend=>
  intro w12 D12;rintro _ rfl v5 rfl _ rfl _ rfl _ rfl _ rfl _ rfl v11 rfl _ rfl;show St ..;refine aj (ag (aS rfl ?_));apply kZ [(0,13,fun _ v _=>v=_),(1,14,fun _ v _=>v=_),(2,15,fun _ v _=>v=_),(3,16,fun _ v _=>v=_),(4,17,fun S v w9=>S 5=false→(eqp (.int .i64 m.tm)) v w9),(5,18,fun _ v _=>v=_)] [5] (fun S w'=>(S 5=false→ah w12 w')∧(S 5=true→aQ wm Z7 w' T g ⟨bS s m.tm,[]⟩)) (by kernel_rfl) (by kernel_rfl) rfl rfl ⟨fun _ _ _ _ _ _ _ h=>h,fun _ _ _ _ _ _ _ h=>h,fun _ _ _ _ _ _ _ h=>h,fun _ _ _ _ _ _ _ h=>h,fun S i v w1 w2 hq hF h h0=>(aq _) v w1 w2 hF (h (lO h0)),fun _ _ _ _ _ _ _ h=>h,trivial⟩ (fun S i w1 w2 hq hF h=>⟨fun h0=>(h.1 (lO h0)).next hF,fun h1=>(fun h=>h.from_ hF) (h.2 (nC (show 5≠i by rintro rfl;exact absurd hq (by decide)) h1))⟩) ⟨fun _=>ah.rfl_.d1,fun h=>by cases h⟩
  case hstep=>
   constructor
   ·rintro S L' w13 hU hmo hme hI hM hC hS ⟨-⟩;have hS0:S 5=false:=(ai hC (j:=5) rfl (by kernel_rfl) (ai hC (j:=2) rfl (by kernel_rfl) (ai hC (j:=1) rfl (by kernel_rfl) hS)));have hM13:=hM.1 hS0;have e0:=hI.1 0 (ea rfl);exact aE [(0,_)] hU hmo hme hI hM (.head _) rfl rfl (by kernel_rfl) ⟨e0,trivial⟩ (aH (v:=.pointer _) rfl) ah.rfl_ (rfl)
   constructor
   ·rintro S L' w14 hU hmo hme hI hM hC hS ⟨d0,-⟩;have hS0:S 5=false:=(ai hC (j:=5) rfl (by kernel_rfl) (ai hC (j:=2) rfl (by kernel_rfl) hS));have hM14:=hM.1 hS0;obtain ⟨v14_13,e13,h13⟩:=hI.get (i:=0) (.head _) d0;obtain rfl:=h13;exact aE [(13,_)] hU hmo hme hI hM (.tail _ (.head _)) rfl rfl (by kernel_rfl) ⟨e13,trivial⟩ (av rfl) ah.rfl_ (rfl)
   constructor
   ·rintro S L' w15 hU hmo hme hI hM hC hS ⟨d1,-⟩;have hS0:S 5=false:=(ai hC (j:=5) rfl (by kernel_rfl) hS);have hM15:=hM.1 hS0;obtain ⟨v15_14,e14,h14⟩:=hI.get (i:=1) (.tail _ (.head _)) d1;obtain rfl:=h14;exact aE [(14,_)] hU hmo hme hI hM (gM 2 rfl) rfl rfl (by kernel_rfl) ⟨e14,trivial⟩ (ab aN rfl) ah.rfl_ (rfl)
   constructor
   ·rintro S L' w16 hU hmo hme hI hM hC hS ⟨-⟩;have hS0:S 5=false:=(ai hC (j:=5) rfl (by kernel_rfl) (ai hC (j:=4) rfl (by kernel_rfl) hS));have hM16:=hM.1 hS0;have e3:=hI.1 3 (ea rfl);exact aE [(3,_)] hU hmo hme hI hM (gM 3 rfl) rfl rfl (by kernel_rfl) ⟨e3,trivial⟩ (ab bt rfl) ah.rfl_ (rfl)
   constructor
   ·rintro S L' w17 hU hmo hme hI hM hC hS ⟨d3,-⟩;have hS0:S 5=false:=(ai hC (j:=5) rfl (by kernel_rfl) hS);have hM17:=hM.1 hS0;obtain ⟨v17_16,e16,h16⟩:=hI.get (i:=3) (gM 3 rfl) d3;obtain rfl:=h16;exact aE [(16,_)] hU hmo hme hI hM (gM 4 rfl) rfl rfl (by kernel_rfl) ⟨e16,trivial⟩ (ar ao rfl (by exact (show _=some (Value.int .i64 m.tm) from (hm3.from_ ((ah.rfl_.next D12).next hM17)).rd 3 rfl))) ah.rfl_ (fun _=>rfl)
   constructor
   ·rintro S L' w18 hU hmo hme hI hM hC hS ⟨d2,d4,-⟩;have hS0:S 5=false:=hS;have hM18:=hM.1 hS0;obtain ⟨v18_15,e15,h15⟩:=hI.get (i:=2) (gM 2 rfl) d2;obtain rfl:=h15;obtain ⟨v18_17,e17,h17⟩:=hI.get (i:=4) (gM 4 rfl) d4;obtain rfl:=h17 hS0;refine gI (al:=[.tmp 15,.tmp 17]) [(15,_),(17,_)] hU hI (gM 5 rfl) (by kernel_rfl) ⟨e15,e17,trivial⟩ o6 ((p0 wm Z7 T g ⟨s,[]⟩ _ (h3.from_ ((ah.rfl_.next D12).next hM18)) m.tm).mono ?_);rintro v9 w2 ⟨rfl,hS2⟩;exact ⟨⟨fun h0=>(by rw [ld] at h0;cases h0),fun _=>hS2⟩,rfl,⟨fun _ _ _ h=>h,fun _ _ _ h=>h,fun _ _ _ h=>h,fun _ _ _ h=>h,fun _ _ _ _ h0=>(by rw [ld] at h0;cases h0),fun _ _ _ h=>h,trivial⟩⟩
   exact trivial
  case hend=>
   intro w19 hM;obtain hS9:=hM.2 rfl;rintro v19_13 rfl v19_14 rfl v19_15 rfl v19_16 rfl v19_17-v19_18 rfl;refine gy (ag (ak (ak ?_)))
   skip
   apply bQ 9 [(19,eqp _),(20,eqp (.int .i64 m.tm)),(21,eqp _),(22,eqp _),(23,eqp _),(24,eqp _),(25,eqp _),(26,eqp (.int .i64 (bS s m.tm).term)),(27,eqp _)] (by repeat first | exact cB | refine cA ?_ | refine bW ?_) (by kernel_rfl) (by kernel_rfl) ⟨aq _,aq _,aq _,aq _,aq _,aq _,aq _,aq _,aq _,trivial⟩
   case hop=>
    constructor
    ·rintro-w21 D21;exact au (ab bt rfl) rfl
    constructor
    ·rintro-w22 D22;rintro _ rfl;exact au (ar ao rfl (by exact (show _=some (Value.int .i64 m.tm) from ((hS9.kept hzb hm9).from_ (ah.rfl_.next D22)).rd 3 rfl))) rfl
    constructor
    ·rintro-w23 D23;exact au (aH (v:=.pointer _) rfl) rfl
    constructor
    ·rintro-w24 D24;rintro _ rfl;exact au (av rfl) rfl
    constructor
    ·rintro-w25 D25;rintro _ rfl;exact au (ab aN rfl) rfl
    constructor
    ·rintro-w26 D26;rintro _ rfl;exact au (ab aC rfl) rfl
    constructor
    ·rintro-w27 D27;rintro _ rfl;exact au (ab bm rfl) rfl
    constructor
    ·rintro-w28 D28;rintro _ rfl;exact au (ar ao rfl (by exact (show _=some (Value.int .i64 (bS s m.tm).term) from (hS9.from_ (ah.rfl_.next D28)).rd (fun _=>rfl)))) rfl
    constructor
    ·rintro-w29 D29;rintro v29_20 rfl v29_26 rfl;exact au (ch (bM rfl rfl) (decide_eq_false (by have:=dO s m.tm;omega))) rfl
    exact trivial
   case hend=>
    intro w30 D30;rintro _ rfl v20 rfl _ rfl _ rfl _ rfl _ rfl _ rfl v26 rfl _ rfl;show St ..;refine aj (ag (bd rfl (aM (ag (ak (af (aa (ab cr rfl) (aa (ar ao rfl (by exact (show _=some (Value.int .i64 m.k) from ((hS9.kept hzb hm9).from_ (ah.rfl_.next D30)).rd 0 rfl))) ?_))))))));refine aj (ag (aU (ak (af (aa (ch (bg rfl rfl) (beq_eq_false_iff_ne.2 (by omega))) (asb rfl (aj (ag (bd rfl (ak (af (aa (c6 (bg rfl rfl) (beq_iff_eq.2 hk)) (asb rfl (aj (ag ?_)))))))))))))));refine aS rfl (af (mvp rfl (aa (aG (cs:=bD m) bk aY rfl (((hS9.kept hzb hm9).from_ (ah.rfl_.next D30)).whole)) ?_)));refine ay mh (rq wm Z7 T g (bS s m.tm) m _ (hS9.from_ (ah.rfl_.next D30)) hFf (by rw [(jT s m.tm).2.2.2.2.1];exact hf)) ?_;rintro v42 w31 ⟨rfl,h6⟩;refine aj (bo (cC (dV rfl ?_)));rw [lI hgt,kg (by have:=dO s m.tm;omega) hk];exact ⟨rfl,h.back hE3 (h6.from_ ah.rfl_) hzi⟩
theorem uI (w0:World) (Z:Nat→Prop) (T g:Nat) (s:Rf) (m:Msg) (w:World) (h:aQ w0 Z w T g ⟨s,[]⟩) (hF:RfF s) (ht:m.tm≤1099511627775) (hk:m.k=2) (hf:1≤m.f∧m.f≤s.nodes):Rt prog 58 [.pointer (some ⟨g,0,none⟩),.agg (bD m).toArray] w fun v w'=>v=.tuple #[]∧aQ w0 Z w' T g (cO s m):=by
 rcases Int.lt_trichotomy m.tm s.term with h1 | h1 | h1
 ·exact zU w0 Z T g s m w h h1
 ·exact yK w0 Z T g s m w h hF ht hk hf h1.symm
 ·exact yJ w0 Z T g s m w h hF ht hk hf h1
theorem vB (w0:World) (Z:Nat→Prop) (T g:Nat) (s:Rf) (m:Msg) (w:World) (h:aQ w0 Z w T g ⟨s,[]⟩) (_:RfF s) (_:m.tm≤1099511627775) (hk:m.k=2) (hgt:s.term=m.tm) (_:1≤m.f∧m.f≤s.nodes) (hro:s.role≠1) :
 Rt prog 89 [.pointer (some ⟨g,0,none⟩),.agg (bD m).toArray] w (fun v w'=>v=.tuple #[]∧aQ w0 Z w' T g (cO s m)):=by
 refine enter (n:=169) Tryz.func89 rfl rfl rfl (ak (af (bK (v:=.agg _) rfl ?_)));intro b3 w1 E3 hb3 hk3;obtain ⟨wm,hwm⟩:∃ x,x=w1:=⟨_,rfl⟩
 have h3a:=h.at_ (Z':=fun k=>Z k∨k=b3) E3 (fun k hk=>by
  rcases hk with e | e
  ·exact ⟨Nat.lt_of_lt_of_le (h.zw k e) E3.size,.inl e⟩
  ·subst e;exact ⟨hk3.lt,.inr (by omega)⟩)
 obtain ⟨Z7,hZ7⟩:∃ Z7,Z7=fun k=>Z k∨k=b3:=⟨_,rfl⟩
 have h3:aQ wm Z7 w1 T g ⟨s,[]⟩:=by
  rw [hZ7,hwm];exact h3a
 have hzi:∀ k,Z k→Z7 k:=fun k hk=>by rw [hZ7];exact .inl hk
 have hzb:Z7 b3:=by rw [hZ7];exact .inr rfl
 have hE3:ah w wm:=by rw [hwm];exact E3
 have hm9:Blk wm b3 39 (bD m).toArray:=by rw [hwm];exact hk3
 have hm3:=h3.kept hzb hm9;have hc3:=h3;obtain ⟨tgV,aV,OV,ocV,LV,hsV⟩:=hc3.ex;have hrV:=(hsV.f.v (by decide)).1;obtain ⟨zV,hzV⟩:∃ z,z=(w1).heap.size:=⟨_,rfl⟩;refine aj (ag (ak (ak ?_)))
 skip
 apply bQ 8 [(5,eqp _),(6,eqp (.int .i64 m.tm)),(7,eqp _),(8,eqp _),(9,eqp _),(10,eqp _),(11,eqp (.int .i64 s.term)),(12,eqp _)] (by repeat first | exact cB | refine cA ?_ | refine bW ?_) (by kernel_rfl) (by kernel_rfl) ⟨aq _,aq _,aq _,aq _,aq _,aq _,aq _,aq _,trivial⟩
 case hop=>
  constructor
  ·rintro-w3 D3;exact au (ab bt rfl) rfl
  constructor
  ·rintro-w4 D4;rintro _ rfl;exact au (ar ao rfl (by exact (show _=some (Value.int .i64 m.tm) from (hm3.from_ (ah.rfl_.next D4)).rd 3 rfl))) rfl
  constructor
  ·rintro-w5 D5;exact au (aH (v:=.pointer _) rfl) rfl
  constructor
  ·rintro-w6 D6;rintro _ rfl;exact au (av rfl) rfl
  constructor
  ·rintro-w7 D7;rintro _ rfl;exact au (ab aJ rfl) rfl
  constructor
  ·rintro-w8 D8;rintro _ rfl;exact au (ab bm rfl) rfl
  constructor
  ·rintro-w9 D9;rintro _ rfl;exact au (ar ao rfl (by exact (show _=some (Value.int .i64 s.term) from (h3.from_ (ah.rfl_.next D9)).rd (fun _=>rfl)))) rfl
  constructor
  ·rintro-w10 D10;rintro v10_6 rfl v10_11 rfl;exact au (ch (cn rfl rfl) (decide_eq_false (by omega))) rfl
  exact trivial
 case hend=>
  intro w11 D11;rintro _ rfl v6 rfl _ rfl _ rfl _ rfl _ rfl v11 rfl _ rfl;show St ..;refine aj (ag (bd rfl (aM (ag (ak (ak ?_))))))
  skip
  apply bQ 8 [(17,eqp _),(18,eqp (.int .i64 m.tm)),(19,eqp _),(20,eqp _),(21,eqp _),(22,eqp _),(23,eqp (.int .i64 s.term)),(24,eqp _)] (by repeat first | exact cB | refine cA ?_ | refine bW ?_) (by kernel_rfl) (by kernel_rfl) ⟨aq _,aq _,aq _,aq _,aq _,aq _,aq _,aq _,trivial⟩
  case hop=>
   constructor
   ·rintro-w13 D13;exact au (ab bt rfl) rfl
   constructor
   ·rintro-w14 D14;rintro _ rfl;exact au (ar ao rfl (by exact (show _=some (Value.int .i64 m.tm) from ((h3.kept hzb hm9).from_ ((ah.rfl_.next D11).next D14)).rd 3 rfl))) rfl
   constructor
   ·rintro-w15 D15;exact au (aH (v:=.pointer _) rfl) rfl
   constructor
   ·rintro-w16 D16;rintro _ rfl;exact au (av rfl) rfl
   constructor
   ·rintro-w17 D17;rintro _ rfl;exact au (ab aJ rfl) rfl
   constructor
   ·rintro-w18 D18;rintro _ rfl;exact au (ab bm rfl) rfl
   constructor
   ·rintro-w19 D19;rintro _ rfl;exact au (ar ao rfl (by exact (show _=some (Value.int .i64 s.term) from (h3.from_ ((ah.rfl_.next D11).next D19)).rd (fun _=>rfl)))) rfl
   constructor
   ·rintro-w20 D20;rintro v20_18 rfl v20_23 rfl;exact au (ch (bM rfl rfl) (decide_eq_false (by have:=dO s m.tm;omega))) rfl
   exact trivial
  case hend=>
   intro w21 D21;rintro _ rfl v18 rfl _ rfl _ rfl _ rfl _ rfl v23 rfl _ rfl;show St ..;refine aj (ag (bd rfl (aM (ag (ak (af (aa (ab cr rfl) (aa (ar ao rfl (by exact (show _=some (Value.int .i64 m.k) from ((h3.kept hzb hm9).from_ ((ah.rfl_.next D11).next D21)).rd 0 rfl))) ?_))))))));refine aj (ag (aU (ak (af (aa (ch (bg rfl rfl) (beq_eq_false_iff_ne.2 (by omega))) (asb rfl (aj (ag (bd rfl (ak (af (aa (c6 (bg rfl rfl) (beq_iff_eq.2 hk)) (asb rfl (aj (ag ?_)))))))))))))));refine aS rfl (ak (af (mvp rfl (aa (av rfl) (aa (ab aJ rfl) (aa (ab cG rfl) (aa (ar ao rfl (by exact (show _=some (Value.int .i64 s.role) from (hc3.from_ ((ah.rfl_.next D11).next D21)).rd (fun _=>rfl)))) ?_)))))));refine aa (ch (bg rfl rfl) (beq_eq_false_iff_ne.2 hro)) (mvb rfl (an rfl rfl (an rfl rfl (aa (aw (v:=.bool _) rfl rfl) (aj (ag (bd rfl (aM (bo (cC ?_))))))))));refine dV rfl ?_;rw [kg (by omega) hk,kN (fun e=>hro e.1)];exact ⟨rfl,h.back hE3 (hc3.from_ ((ah.rfl_.next D11).next D21)) hzi⟩
theorem vA (w0:World) (Z:Nat→Prop) (T g:Nat) (s:Rf) (m:Msg) (w:World) (h:aQ w0 Z w T g ⟨s,[]⟩) (_:RfF s) (_:m.tm≤1099511627775) (hk:m.k=2) (hgt:s.term=m.tm) (_:1≤m.f∧m.f≤s.nodes) (hro:s.role=1) (hok:m.ok=false) :
 Rt prog 89 [.pointer (some ⟨g,0,none⟩),.agg (bD m).toArray] w (fun v w'=>v=.tuple #[]∧aQ w0 Z w' T g (cO s m)):=by
 refine enter (n:=169) Tryz.func89 rfl rfl rfl (ak (af (bK (v:=.agg _) rfl ?_)));intro b3 w1 E3 hb3 hk3;obtain ⟨wm,hwm⟩:∃ x,x=w1:=⟨_,rfl⟩
 have h3a:=h.at_ (Z':=fun k=>Z k∨k=b3) E3 (fun k hk=>by
  rcases hk with e | e
  ·exact ⟨Nat.lt_of_lt_of_le (h.zw k e) E3.size,.inl e⟩
  ·subst e;exact ⟨hk3.lt,.inr (by omega)⟩)
 obtain ⟨Z7,hZ7⟩:∃ Z7,Z7=fun k=>Z k∨k=b3:=⟨_,rfl⟩
 have h3:aQ wm Z7 w1 T g ⟨s,[]⟩:=by
  rw [hZ7,hwm];exact h3a
 have hzi:∀ k,Z k→Z7 k:=fun k hk=>by rw [hZ7];exact .inl hk
 have hzb:Z7 b3:=by rw [hZ7];exact .inr rfl
 have hE3:ah w wm:=by rw [hwm];exact E3
 have hm9:Blk wm b3 39 (bD m).toArray:=by rw [hwm];exact hk3
 have hm3:=h3.kept hzb hm9;have hc3:=h3;obtain ⟨tgV,aV,OV,ocV,LV,hsV⟩:=hc3.ex;have hrV:=(hsV.f.v (by decide)).1;obtain ⟨zV,hzV⟩:∃ z,z=(w1).heap.size:=⟨_,rfl⟩;refine aj (ag (ak (ak ?_)))
 skip
 apply bQ 8 [(5,eqp _),(6,eqp (.int .i64 m.tm)),(7,eqp _),(8,eqp _),(9,eqp _),(10,eqp _),(11,eqp (.int .i64 s.term)),(12,eqp _)] (by repeat first | exact cB | refine cA ?_ | refine bW ?_) (by kernel_rfl) (by kernel_rfl) ⟨aq _,aq _,aq _,aq _,aq _,aq _,aq _,aq _,trivial⟩
 case hop=>
  constructor
  ·rintro-w3 D3;exact au (ab bt rfl) rfl
  constructor
  ·rintro-w4 D4;rintro _ rfl;exact au (ar ao rfl (by exact (show _=some (Value.int .i64 m.tm) from (hm3.from_ (ah.rfl_.next D4)).rd 3 rfl))) rfl
  constructor
  ·rintro-w5 D5;exact au (aH (v:=.pointer _) rfl) rfl
  constructor
  ·rintro-w6 D6;rintro _ rfl;exact au (av rfl) rfl
  constructor
  ·rintro-w7 D7;rintro _ rfl;exact au (ab aJ rfl) rfl
  constructor
  ·rintro-w8 D8;rintro _ rfl;exact au (ab bm rfl) rfl
  constructor
  ·rintro-w9 D9;rintro _ rfl;exact au (ar ao rfl (by exact (show _=some (Value.int .i64 s.term) from (h3.from_ (ah.rfl_.next D9)).rd (fun _=>rfl)))) rfl
  constructor
  ·rintro-w10 D10;rintro v10_6 rfl v10_11 rfl;exact au (ch (cn rfl rfl) (decide_eq_false (by omega))) rfl
  exact trivial
 case hend=>
  intro w11 D11;rintro _ rfl v6 rfl _ rfl _ rfl _ rfl _ rfl v11 rfl _ rfl;show St ..;refine aj (ag (bd rfl (aM (ag (ak (ak ?_))))))
  skip
  apply bQ 8 [(17,eqp _),(18,eqp (.int .i64 m.tm)),(19,eqp _),(20,eqp _),(21,eqp _),(22,eqp _),(23,eqp (.int .i64 s.term)),(24,eqp _)] (by repeat first | exact cB | refine cA ?_ | refine bW ?_) (by kernel_rfl) (by kernel_rfl) ⟨aq _,aq _,aq _,aq _,aq _,aq _,aq _,aq _,trivial⟩
  case hop=>
   constructor
   ·rintro-w13 D13;exact au (ab bt rfl) rfl
   constructor
   ·rintro-w14 D14;rintro _ rfl;exact au (ar ao rfl (by exact (show _=some (Value.int .i64 m.tm) from ((h3.kept hzb hm9).from_ ((ah.rfl_.next D11).next D14)).rd 3 rfl))) rfl
   constructor
   ·rintro-w15 D15;exact au (aH (v:=.pointer _) rfl) rfl
   constructor
   ·rintro-w16 D16;rintro _ rfl;exact au (av rfl) rfl
   constructor
   ·rintro-w17 D17;rintro _ rfl;exact au (ab aJ rfl) rfl
   constructor
   ·rintro-w18 D18;rintro _ rfl;exact au (ab bm rfl) rfl
   constructor
   ·rintro-w19 D19;rintro _ rfl;exact au (ar ao rfl (by exact (show _=some (Value.int .i64 s.term) from (h3.from_ ((ah.rfl_.next D11).next D19)).rd (fun _=>rfl)))) rfl
   constructor
   ·rintro-w20 D20;rintro v20_18 rfl v20_23 rfl;exact au (ch (bM rfl rfl) (decide_eq_false (by have:=dO s m.tm;omega))) rfl
   exact trivial
  case hend=>
   intro w21 D21;rintro _ rfl v18 rfl _ rfl _ rfl _ rfl _ rfl v23 rfl _ rfl;show St ..;refine aj (ag (bd rfl (aM (ag (ak (af (aa (ab cr rfl) (aa (ar ao rfl (by exact (show _=some (Value.int .i64 m.k) from ((h3.kept hzb hm9).from_ ((ah.rfl_.next D11).next D21)).rd 0 rfl))) ?_))))))));refine aj (ag (aU (ak (af (aa (ch (bg rfl rfl) (beq_eq_false_iff_ne.2 (by omega))) (asb rfl (aj (ag (bd rfl (ak (af (aa (c6 (bg rfl rfl) (beq_iff_eq.2 hk)) (asb rfl (aj (ag ?_)))))))))))))));refine aS rfl (ak (af (mvp rfl (aa (av rfl) (aa (ab aJ rfl) (aa (ab cG rfl) (aa (ar ao rfl (by exact (show _=some (Value.int .i64 s.role) from (hc3.from_ ((ah.rfl_.next D11).next D21)).rd (fun _=>rfl)))) ?_)))))));refine aa (c6 (bg rfl rfl) (beq_iff_eq.2 hro)) (mvb rfl (ae rfl (aa (ab dQ rfl) (ae rfl ?_))));refine aa (ar eb rfl (by exact (show _=some (Value.bool false) from by rw [←hok];exact ((hc3.kept hzb hm9).from_ ((ah.rfl_.next D11).next D21)).rd 8 rfl))) ?_;refine aa (aL (v:=.bool _) rfl rfl) (aj (ag (bd rfl (aM (bo (cC (dV rfl ?_)))))));rw [kg (by omega) hk,kN (fun e=>by rw [hok] at e;cases e.2)];exact ⟨rfl,h.back hE3 (hc3.from_ ((ah.rfl_.next D11).next D21)) hzi⟩
theorem vz (w0:World) (Z:Nat→Prop) (T g:Nat) (s:Rf) (m:Msg) (w:World) (h:aQ w0 Z w T g ⟨s,[]⟩) (hF:RfF s) (_:m.tm≤1099511627775) (hk:m.k=2) (hgt:s.term=m.tm) (hf:1≤m.f∧m.f≤s.nodes) (hro:s.role=1) (hok:m.ok=true) :
 Rt prog 89 [.pointer (some ⟨g,0,none⟩),.agg (bD m).toArray] w (fun v w'=>v=.tuple #[]∧aQ w0 Z w' T g (cO s m)):=by
 have hvl:=hF.vl;have hFv:RfF ({ s with votes:=c8 s.votes m.f }:Rf):=hF.voted hf;refine enter (n:=169) Tryz.func89 rfl rfl rfl (ak (af (bK (v:=.agg _) rfl ?_)));intro b3 w1 E3 hb3 hk3;obtain ⟨wm,hwm⟩:∃ x,x=w1:=⟨_,rfl⟩
 have h3a:=h.at_ (Z':=fun k=>Z k∨k=b3) E3 (fun k hk=>by
  rcases hk with e | e
  ·exact ⟨Nat.lt_of_lt_of_le (h.zw k e) E3.size,.inl e⟩
  ·subst e;exact ⟨hk3.lt,.inr (by omega)⟩)
 obtain ⟨Z7,hZ7⟩:∃ Z7,Z7=fun k=>Z k∨k=b3:=⟨_,rfl⟩
 have h3:aQ wm Z7 w1 T g ⟨s,[]⟩:=by
  rw [hZ7,hwm];exact h3a
 have hzi:∀ k,Z k→Z7 k:=fun k hk=>by rw [hZ7];exact .inl hk
 have hzb:Z7 b3:=by rw [hZ7];exact .inr rfl
 have hE3:ah w wm:=by rw [hwm];exact E3
 have hm9:Blk wm b3 39 (bD m).toArray:=by rw [hwm];exact hk3
 have hm3:=h3.kept hzb hm9;have hc3:=h3;obtain ⟨tgV,aV,OV,ocV,LV,hsV⟩:=hc3.ex;have hrV:=(hsV.f.v (by decide)).1;obtain ⟨zV,hzV⟩:∃ z,z=(w1).heap.size:=⟨_,rfl⟩;refine aj (ag (ak (ak ?_)))
 skip
 apply bQ 8 [(5,eqp _),(6,eqp (.int .i64 m.tm)),(7,eqp _),(8,eqp _),(9,eqp _),(10,eqp _),(11,eqp (.int .i64 s.term)),(12,eqp _)] (by repeat first | exact cB | refine cA ?_ | refine bW ?_) (by kernel_rfl) (by kernel_rfl) ⟨aq _,aq _,aq _,aq _,aq _,aq _,aq _,aq _,trivial⟩
 case hop=>
  constructor
  ·rintro-w3 D3;exact au (ab bt rfl) rfl
  constructor
  ·rintro-w4 D4;rintro _ rfl;exact au (ar ao rfl (by exact (show _=some (Value.int .i64 m.tm) from (hm3.from_ (ah.rfl_.next D4)).rd 3 rfl))) rfl
  constructor
  ·rintro-w5 D5;exact au (aH (v:=.pointer _) rfl) rfl
  constructor
  ·rintro-w6 D6;rintro _ rfl;exact au (av rfl) rfl
  constructor
  ·rintro-w7 D7;rintro _ rfl;exact au (ab aJ rfl) rfl
  constructor
  ·rintro-w8 D8;rintro _ rfl;exact au (ab bm rfl) rfl
  constructor
  ·rintro-w9 D9;rintro _ rfl;exact au (ar ao rfl (by exact (show _=some (Value.int .i64 s.term) from (h3.from_ (ah.rfl_.next D9)).rd (fun _=>rfl)))) rfl
  constructor
  ·rintro-w10 D10;rintro v10_6 rfl v10_11 rfl;exact au (ch (cn rfl rfl) (decide_eq_false (by omega))) rfl
  exact trivial
 case hend=>
  intro w11 D11;rintro _ rfl v6 rfl _ rfl _ rfl _ rfl _ rfl v11 rfl _ rfl;show St ..;refine aj (ag (bd rfl (aM (ag (ak (ak ?_))))))
  skip
  apply bQ 8 [(17,eqp _),(18,eqp (.int .i64 m.tm)),(19,eqp _),(20,eqp _),(21,eqp _),(22,eqp _),(23,eqp (.int .i64 s.term)),(24,eqp _)] (by repeat first | exact cB | refine cA ?_ | refine bW ?_) (by kernel_rfl) (by kernel_rfl) ⟨aq _,aq _,aq _,aq _,aq _,aq _,aq _,aq _,trivial⟩
  case hop=>
   constructor
   ·rintro-w13 D13;exact au (ab bt rfl) rfl
   constructor
   ·rintro-w14 D14;rintro _ rfl;exact au (ar ao rfl (by exact (show _=some (Value.int .i64 m.tm) from ((h3.kept hzb hm9).from_ ((ah.rfl_.next D11).next D14)).rd 3 rfl))) rfl
   constructor
   ·rintro-w15 D15;exact au (aH (v:=.pointer _) rfl) rfl
   constructor
   ·rintro-w16 D16;rintro _ rfl;exact au (av rfl) rfl
   constructor
   ·rintro-w17 D17;rintro _ rfl;exact au (ab aJ rfl) rfl
   constructor
   ·rintro-w18 D18;rintro _ rfl;exact au (ab bm rfl) rfl
   constructor
   ·rintro-w19 D19;rintro _ rfl;exact au (ar ao rfl (by exact (show _=some (Value.int .i64 s.term) from (h3.from_ ((ah.rfl_.next D11).next D19)).rd (fun _=>rfl)))) rfl
   constructor
   ·rintro-w20 D20;rintro v20_18 rfl v20_23 rfl;exact au (ch (bM rfl rfl) (decide_eq_false (by have:=dO s m.tm;omega))) rfl
   exact trivial
  case hend=>
   intro w21 D21;rintro _ rfl v18 rfl _ rfl _ rfl _ rfl _ rfl v23 rfl _ rfl;show St ..;refine aj (ag (bd rfl (aM (ag (ak (af (aa (ab cr rfl) (aa (ar ao rfl (by exact (show _=some (Value.int .i64 m.k) from ((h3.kept hzb hm9).from_ ((ah.rfl_.next D11).next D21)).rd 0 rfl))) ?_))))))));refine aj (ag (aU (ak (af (aa (ch (bg rfl rfl) (beq_eq_false_iff_ne.2 (by omega))) (asb rfl (aj (ag (bd rfl (ak (af (aa (c6 (bg rfl rfl) (beq_iff_eq.2 hk)) (asb rfl (aj (ag ?_)))))))))))))));refine aS rfl (ak (af (mvp rfl (aa (av rfl) (aa (ab aJ rfl) (aa (ab cG rfl) (aa (ar ao rfl (by exact (show _=some (Value.int .i64 s.role) from (hc3.from_ ((ah.rfl_.next D11).next D21)).rd (fun _=>rfl)))) ?_)))))));refine aa (c6 (bg rfl rfl) (beq_iff_eq.2 hro)) (mvb rfl (ae rfl (aa (ab dQ rfl) (ae rfl ?_))));refine aa (ar eb rfl (by exact (show _=some (Value.bool true) from by rw [←hok];exact ((hc3.kept hzb hm9).from_ ((ah.rfl_.next D11).next D21)).rd 8 rfl))) ?_;refine aa (aL (v:=.bool _) rfl rfl) (aj (ag (aS rfl (ak ?_))));apply bQ 12 [(114,eqp _),(115,eqp _),(116,eqp _),(117,eqp _),(118,eqp _),(119,eqp (.slice aV.V s.votes.length aV.Vc)),(120,eqp _),(121,eqp (.int .i64 m.f)),(122,fun (v:Value) (w':World)=>∃ (A2:Option Addr) (c2:Nat),v=Value.slice A2 (c8 s.votes m.f).length c2∧w'.ownsRow 0 3 1 (.slice A2 (c8 s.votes m.f).length c2) (c8 s.votes m.f).length ((c8 s.votes m.f).map iV)∧(∀ k,A2.map (·.block)=some k→aV.V.map (·.block)=some k∨zV≤k)),(123,eqp _),(124,eqp _),(125,eqp _)] (by repeat first | exact cB | refine cA ?_ | refine bW ?_) (by kernel_rfl) (by kernel_rfl) ⟨aq _,aq _,aq _,aq _,aq _,aq _,aq _,aq _,(fun _ _ _ hF ⟨A2,c2,h1,h2,h3⟩=>⟨A2,c2,h1,h2.kept_from hF,h3⟩),aq _,aq _,aq _,trivial⟩
   case hop=>
    constructor
    ·rintro-w23 D23;exact au (aH (v:=.pointer _) rfl) rfl
    constructor
    ·rintro-w24 D24;exact au (aH (v:=.pointer _) rfl) rfl
    constructor
    ·rintro-w25 D25;rintro _ rfl;exact au (av rfl) rfl
    constructor
    ·rintro-w26 D26;rintro _ rfl;exact au (ab aJ rfl) rfl
    constructor
    ·rintro-w27 D27;rintro _ rfl;exact au (ab cf rfl) rfl
    constructor
    ·rintro-w28 D28;rintro _ rfl;exact au (ar bc rfl (by exact (show _=some (Value.slice aV.V s.votes.length aV.Vc) from ct (hsV.b.from_ (((ah.rfl_.next D11).next D21).next D28)) 14 rfl))) rfl
    constructor
    ·rintro-w29 D29;exact au (ab cH rfl) rfl
    constructor
    ·rintro-w30 D30;rintro _ rfl;exact au (ar ao rfl (by exact (show _=some (Value.int .i64 m.f) from ((hc3.kept hzb hm9).from_ (((ah.rfl_.next D11).next D21).next D30)).rd 1 rfl))) rfl
    constructor
    ·rintro-w31 D31;rintro v31_119 rfl v31_121 rfl;refine fJ mg ((rE aV.V aV.Vc s.votes m.f _ (hrV.kept_from (((ah.rfl_.next D11).next D21).next D31)) (nO hF) (by omega)).mono ?_);rintro v wv ⟨⟨A2,c2,rfl,ho9,hL9⟩,hF9⟩;exact ⟨hF9,A2,c2,rfl,ho9,fun k hk=>(hL9 k hk).imp id fun e=>by rw [hzV];exact Nat.le_trans ((((ah.rfl_.next D11).next D21).next D31)).size e⟩
    constructor
    ·rintro-w32 D32;rintro _ rfl;exact au (av rfl) rfl
    constructor
    ·rintro-w33 D33;rintro _ rfl;exact au (ab aJ rfl) rfl
    constructor
    ·rintro-w34 D34;rintro _ rfl;exact au (ab cf rfl) rfl
    exact trivial
   case hend=>
    intro w35 D35;rintro _ rfl _ rfl _ rfl _ rfl _ rfl v119 rfl _ rfl v121 rfl v122 ⟨A122,c122,rfl,ho122,hL122⟩ _ rfl _ rfl _ rfl;show St ..;have hMv:ah _ w35:=(((ah.rfl_.next D11).next D21).next D35);refine cj (s':=({ s with votes:=c8 s.votes m.f }:Rf)) (a':={ aV with V:=A122,Vc:=c122 }) cy rfl rfl rfl (hsV.b.from_ hMv) ⟨by decide,rfl⟩ ?_;intro w36 O2 P2;have hfV:=cD.votes (bh.but (c:=1) hsV.f (ah.toChg hMv)) (l:=c8 s.votes m.f) rfl ho122 ((hsV.f.v (by decide)).2.new (dt (hsV.f.v (by decide)).1) (by rw [←hzV];exact hL122));have h12:=(hc3.put (s':=({ s with votes:=c8 s.votes m.f }:Rf)) (a':={ aV with V:=A122,Vc:=c122 }) hsV (ah.toChg hMv) (.inl (by decide)) hfV (O2.toChg rfl) P2).2;refine aj (ag (af (mvp rfl (ay nm (rF wm Z7 T g ⟨({ s with votes:=c8 s.votes m.f }:Rf),[]⟩ _ (h12.from_ ah.rfl_) hFv (Nat.zero_le _)) ?_))));rintro v127 w37 ⟨rfl,h6⟩;refine aj (bo (cC (dV rfl ?_)));rw [kg (by omega) hk,qi hro hok];exact ⟨rfl,h.back hE3 (h6.from_ ah.rfl_) hzi⟩
theorem vy (w0:World) (Z:Nat→Prop) (T g:Nat) (s:Rf) (m:Msg) (w:World) (h:aQ w0 Z w T g ⟨s,[]⟩) (hF:RfF s) (ht:m.tm≤1099511627775) (hk:m.k=2) (hgt:s.term<m.tm) (_:1≤m.f∧m.f≤(bS s m.tm).nodes) (hro:(bS s m.tm).role≠1) :
 Rt prog 89 [.pointer (some ⟨g,0,none⟩),.agg (bD m).toArray] w (fun v w'=>v=.tuple #[]∧aQ w0 Z w' T g (cO s m)):=by
 have hFf:RfF (bS s m.tm):=hF.falls ht;refine enter (n:=169) Tryz.func89 rfl rfl rfl (ak (af (bK (v:=.agg _) rfl ?_)));intro b3 w1 E3 hb3 hk3;obtain ⟨wm,hwm⟩:∃ x,x=w1:=⟨_,rfl⟩
 have h3a:=h.at_ (Z':=fun k=>Z k∨k=b3) E3 (fun k hk=>by
  rcases hk with e | e
  ·exact ⟨Nat.lt_of_lt_of_le (h.zw k e) E3.size,.inl e⟩
  ·subst e;exact ⟨hk3.lt,.inr (by omega)⟩)
 obtain ⟨Z7,hZ7⟩:∃ Z7,Z7=fun k=>Z k∨k=b3:=⟨_,rfl⟩
 have h3:aQ wm Z7 w1 T g ⟨s,[]⟩:=by
  rw [hZ7,hwm];exact h3a
 have hzi:∀ k,Z k→Z7 k:=fun k hk=>by rw [hZ7];exact .inl hk
 have hzb:Z7 b3:=by rw [hZ7];exact .inr rfl
 have hE3:ah w wm:=by rw [hwm];exact E3
 have hm9:Blk wm b3 39 (bD m).toArray:=by rw [hwm];exact hk3
 have hm3:=h3.kept hzb hm9;refine aj (ag (ak (ak ?_)))
 skip
 apply bQ 8 [(5,eqp _),(6,eqp (.int .i64 m.tm)),(7,eqp _),(8,eqp _),(9,eqp _),(10,eqp _),(11,eqp (.int .i64 s.term)),(12,eqp _)] (by repeat first | exact cB | refine cA ?_ | refine bW ?_) (by kernel_rfl) (by kernel_rfl) ⟨aq _,aq _,aq _,aq _,aq _,aq _,aq _,aq _,trivial⟩
 case hop=>
  constructor
  ·rintro-w3 D3;exact au (ab bt rfl) rfl
  constructor
  ·rintro-w4 D4;rintro _ rfl;exact au (ar ao rfl (by exact (show _=some (Value.int .i64 m.tm) from (hm3.from_ (ah.rfl_.next D4)).rd 3 rfl))) rfl
  constructor
  ·rintro-w5 D5;exact au (aH (v:=.pointer _) rfl) rfl
  constructor
  ·rintro-w6 D6;rintro _ rfl;exact au (av rfl) rfl
  constructor
  ·rintro-w7 D7;rintro _ rfl;exact au (ab aJ rfl) rfl
  constructor
  ·rintro-w8 D8;rintro _ rfl;exact au (ab bm rfl) rfl
  constructor
  ·rintro-w9 D9;rintro _ rfl;exact au (ar ao rfl (by exact (show _=some (Value.int .i64 s.term) from (h3.from_ (ah.rfl_.next D9)).rd (fun _=>rfl)))) rfl
  constructor
  ·rintro-w10 D10;rintro v10_6 rfl v10_11 rfl;exact au (c6 (cn rfl rfl) (decide_eq_true hgt)) rfl
  exact trivial
 case hend=>
  intro w11 D11;rintro _ rfl v6 rfl _ rfl _ rfl _ rfl _ rfl v11 rfl _ rfl;show St ..;refine aj (ag (aS rfl (af (mvp rfl (aa (ab bt rfl) (aa (ar ao rfl (by exact (show _=some (Value.int .i64 m.tm) from (hm3.from_ (ah.rfl_.next D11)).rd 3 rfl))) ?_))))));refine ay jl (mf wm Z7 T g ⟨s,[]⟩ _ (h3.from_ (ah.rfl_.next D11)) m.tm) ?_;rintro v16 w12 ⟨rfl,h4⟩;have hc3:=h4;obtain ⟨tgV,aV,OV,ocV,LV,hsV⟩:=hc3.ex;have hrV:=(hsV.f.v (by decide)).1;obtain ⟨zV,hzV⟩:∃ z,z=(w12).heap.size:=⟨_,rfl⟩;refine aj (ag (ak (ak ?_)))
  skip
  apply bQ 8 [(17,eqp _),(18,eqp (.int .i64 m.tm)),(19,eqp _),(20,eqp _),(21,eqp _),(22,eqp _),(23,eqp (.int .i64 (bS s m.tm).term)),(24,eqp _)] (by repeat first | exact cB | refine cA ?_ | refine bW ?_) (by kernel_rfl) (by kernel_rfl) ⟨aq _,aq _,aq _,aq _,aq _,aq _,aq _,aq _,trivial⟩
  case hop=>
   constructor
   ·rintro-w14 D14;exact au (ab bt rfl) rfl
   constructor
   ·rintro-w15 D15;rintro _ rfl;exact au (ar ao rfl (by exact (show _=some (Value.int .i64 m.tm) from ((h4.kept hzb hm9).from_ (ah.rfl_.next D15)).rd 3 rfl))) rfl
   constructor
   ·rintro-w16 D16;exact au (aH (v:=.pointer _) rfl) rfl
   constructor
   ·rintro-w17 D17;rintro _ rfl;exact au (av rfl) rfl
   constructor
   ·rintro-w18 D18;rintro _ rfl;exact au (ab aJ rfl) rfl
   constructor
   ·rintro-w19 D19;rintro _ rfl;exact au (ab bm rfl) rfl
   constructor
   ·rintro-w20 D20;rintro _ rfl;exact au (ar ao rfl (by exact (show _=some (Value.int .i64 (bS s m.tm).term) from (h4.from_ (ah.rfl_.next D20)).rd (fun _=>rfl)))) rfl
   constructor
   ·rintro-w21 D21;rintro v21_18 rfl v21_23 rfl;exact au (ch (bM rfl rfl) (decide_eq_false (by have:=dO s m.tm;omega))) rfl
   exact trivial
  case hend=>
   intro w22 D22;rintro _ rfl v18 rfl _ rfl _ rfl _ rfl _ rfl v23 rfl _ rfl;show St ..;refine aj (ag (bd rfl (aM (ag (ak (af (aa (ab cr rfl) (aa (ar ao rfl (by exact (show _=some (Value.int .i64 m.k) from ((h4.kept hzb hm9).from_ (ah.rfl_.next D22)).rd 0 rfl))) ?_))))))));refine aj (ag (aU (ak (af (aa (ch (bg rfl rfl) (beq_eq_false_iff_ne.2 (by omega))) (asb rfl (aj (ag (bd rfl (ak (af (aa (c6 (bg rfl rfl) (beq_iff_eq.2 hk)) (asb rfl (aj (ag ?_)))))))))))))));refine aS rfl (ak (af (mvp rfl (aa (av rfl) (aa (ab aJ rfl) (aa (ab cG rfl) (aa (ar ao rfl (by exact (show _=some (Value.int .i64 (bS s m.tm).role) from (hc3.from_ (ah.rfl_.next D22)).rd (fun _=>rfl)))) ?_)))))));refine aa (ch (bg rfl rfl) (beq_eq_false_iff_ne.2 hro)) (mvb rfl (an rfl rfl (an rfl rfl (aa (aw (v:=.bool _) rfl rfl) (aj (ag (bd rfl (aM (bo (cC ?_))))))))));refine dV rfl ?_;rw [lI hgt,kg (by have:=dO s m.tm;omega) hk,kN (fun e=>hro e.1)];exact ⟨rfl,h.back hE3 (hc3.from_ (ah.rfl_.next D22)) hzi⟩
theorem vx (w0:World) (Z:Nat→Prop) (T g:Nat) (s:Rf) (m:Msg) (w:World) (h:aQ w0 Z w T g ⟨s,[]⟩) (hF:RfF s) (ht:m.tm≤1099511627775) (hk:m.k=2) (hgt:s.term<m.tm) (_:1≤m.f∧m.f≤(bS s m.tm).nodes) (hro:(bS s m.tm).role=1) (hok:m.ok=false) :
 Rt prog 89 [.pointer (some ⟨g,0,none⟩),.agg (bD m).toArray] w (fun v w'=>v=.tuple #[]∧aQ w0 Z w' T g (cO s m)):=by
 have hFf:RfF (bS s m.tm):=hF.falls ht;refine enter (n:=169) Tryz.func89 rfl rfl rfl (ak (af (bK (v:=.agg _) rfl ?_)));intro b3 w1 E3 hb3 hk3;obtain ⟨wm,hwm⟩:∃ x,x=w1:=⟨_,rfl⟩
 have h3a:=h.at_ (Z':=fun k=>Z k∨k=b3) E3 (fun k hk=>by
  rcases hk with e | e
  ·exact ⟨Nat.lt_of_lt_of_le (h.zw k e) E3.size,.inl e⟩
  ·subst e;exact ⟨hk3.lt,.inr (by omega)⟩)
 obtain ⟨Z7,hZ7⟩:∃ Z7,Z7=fun k=>Z k∨k=b3:=⟨_,rfl⟩
 have h3:aQ wm Z7 w1 T g ⟨s,[]⟩:=by
  rw [hZ7,hwm];exact h3a
 have hzi:∀ k,Z k→Z7 k:=fun k hk=>by rw [hZ7];exact .inl hk
 have hzb:Z7 b3:=by rw [hZ7];exact .inr rfl
 have hE3:ah w wm:=by rw [hwm];exact E3
 have hm9:Blk wm b3 39 (bD m).toArray:=by rw [hwm];exact hk3
 have hm3:=h3.kept hzb hm9;refine aj (ag (ak (ak ?_)))
 skip
 apply bQ 8 [(5,eqp _),(6,eqp (.int .i64 m.tm)),(7,eqp _),(8,eqp _),(9,eqp _),(10,eqp _),(11,eqp (.int .i64 s.term)),(12,eqp _)] (by repeat first | exact cB | refine cA ?_ | refine bW ?_) (by kernel_rfl) (by kernel_rfl) ⟨aq _,aq _,aq _,aq _,aq _,aq _,aq _,aq _,trivial⟩
 case hop=>
  constructor
  ·rintro-w3 D3;exact au (ab bt rfl) rfl
  constructor
  ·rintro-w4 D4;rintro _ rfl;exact au (ar ao rfl (by exact (show _=some (Value.int .i64 m.tm) from (hm3.from_ (ah.rfl_.next D4)).rd 3 rfl))) rfl
  constructor
  ·rintro-w5 D5;exact au (aH (v:=.pointer _) rfl) rfl
  constructor
  ·rintro-w6 D6;rintro _ rfl;exact au (av rfl) rfl
  constructor
  ·rintro-w7 D7;rintro _ rfl;exact au (ab aJ rfl) rfl
  constructor
  ·rintro-w8 D8;rintro _ rfl;exact au (ab bm rfl) rfl
  constructor
  ·rintro-w9 D9;rintro _ rfl;exact au (ar ao rfl (by exact (show _=some (Value.int .i64 s.term) from (h3.from_ (ah.rfl_.next D9)).rd (fun _=>rfl)))) rfl
  constructor
  ·rintro-w10 D10;rintro v10_6 rfl v10_11 rfl;exact au (c6 (cn rfl rfl) (decide_eq_true hgt)) rfl
  exact trivial
 case hend=>
  intro w11 D11;rintro _ rfl v6 rfl _ rfl _ rfl _ rfl _ rfl v11 rfl _ rfl;show St ..;refine aj (ag (aS rfl (af (mvp rfl (aa (ab bt rfl) (aa (ar ao rfl (by exact (show _=some (Value.int .i64 m.tm) from (hm3.from_ (ah.rfl_.next D11)).rd 3 rfl))) ?_))))));refine ay jl (mf wm Z7 T g ⟨s,[]⟩ _ (h3.from_ (ah.rfl_.next D11)) m.tm) ?_;rintro v16 w12 ⟨rfl,h4⟩;have hc3:=h4;obtain ⟨tgV,aV,OV,ocV,LV,hsV⟩:=hc3.ex;have hrV:=(hsV.f.v (by decide)).1;obtain ⟨zV,hzV⟩:∃ z,z=(w12).heap.size:=⟨_,rfl⟩;refine aj (ag (ak (ak ?_)))
  skip
  apply bQ 8 [(17,eqp _),(18,eqp (.int .i64 m.tm)),(19,eqp _),(20,eqp _),(21,eqp _),(22,eqp _),(23,eqp (.int .i64 (bS s m.tm).term)),(24,eqp _)] (by repeat first | exact cB | refine cA ?_ | refine bW ?_) (by kernel_rfl) (by kernel_rfl) ⟨aq _,aq _,aq _,aq _,aq _,aq _,aq _,aq _,trivial⟩
  case hop=>
   constructor
   ·rintro-w14 D14;exact au (ab bt rfl) rfl
   constructor
   ·rintro-w15 D15;rintro _ rfl;exact au (ar ao rfl (by exact (show _=some (Value.int .i64 m.tm) from ((h4.kept hzb hm9).from_ (ah.rfl_.next D15)).rd 3 rfl))) rfl
   constructor
   ·rintro-w16 D16;exact au (aH (v:=.pointer _) rfl) rfl
   constructor
   ·rintro-w17 D17;rintro _ rfl;exact au (av rfl) rfl
   constructor
   ·rintro-w18 D18;rintro _ rfl;exact au (ab aJ rfl) rfl
   constructor
   ·rintro-w19 D19;rintro _ rfl;exact au (ab bm rfl) rfl
   constructor
   ·rintro-w20 D20;rintro _ rfl;exact au (ar ao rfl (by exact (show _=some (Value.int .i64 (bS s m.tm).term) from (h4.from_ (ah.rfl_.next D20)).rd (fun _=>rfl)))) rfl
   constructor
   ·rintro-w21 D21;rintro v21_18 rfl v21_23 rfl;exact au (ch (bM rfl rfl) (decide_eq_false (by have:=dO s m.tm;omega))) rfl
   exact trivial
  case hend=>
   intro w22 D22;rintro _ rfl v18 rfl _ rfl _ rfl _ rfl _ rfl v23 rfl _ rfl;show St ..;refine aj (ag (bd rfl (aM (ag (ak (af (aa (ab cr rfl) (aa (ar ao rfl (by exact (show _=some (Value.int .i64 m.k) from ((h4.kept hzb hm9).from_ (ah.rfl_.next D22)).rd 0 rfl))) ?_))))))));refine aj (ag (aU (ak (af (aa (ch (bg rfl rfl) (beq_eq_false_iff_ne.2 (by omega))) (asb rfl (aj (ag (bd rfl (ak (af (aa (c6 (bg rfl rfl) (beq_iff_eq.2 hk)) (asb rfl (aj (ag ?_)))))))))))))));refine aS rfl (ak (af (mvp rfl (aa (av rfl) (aa (ab aJ rfl) (aa (ab cG rfl) (aa (ar ao rfl (by exact (show _=some (Value.int .i64 (bS s m.tm).role) from (hc3.from_ (ah.rfl_.next D22)).rd (fun _=>rfl)))) ?_)))))));refine aa (c6 (bg rfl rfl) (beq_iff_eq.2 hro)) (mvb rfl (ae rfl (aa (ab dQ rfl) (ae rfl ?_))));refine aa (ar eb rfl (by exact (show _=some (Value.bool false) from by rw [←hok];exact ((hc3.kept hzb hm9).from_ (ah.rfl_.next D22)).rd 8 rfl))) ?_;refine aa (aL (v:=.bool _) rfl rfl) (aj (ag (bd rfl (aM (bo (cC (dV rfl ?_)))))));rw [lI hgt,kg (by have:=dO s m.tm;omega) hk,kN (fun e=>by rw [hok] at e;cases e.2)];exact ⟨rfl,h.back hE3 (hc3.from_ (ah.rfl_.next D22)) hzi⟩
theorem vw (w0:World) (Z:Nat→Prop) (T g:Nat) (s:Rf) (m:Msg) (w:World) (h:aQ w0 Z w T g ⟨s,[]⟩) (hF:RfF s) (ht:m.tm≤1099511627775) (hk:m.k=2) (hgt:s.term<m.tm) (hf:1≤m.f∧m.f≤(bS s m.tm).nodes) (hro:(bS s m.tm).role=1) (hok:m.ok=true) :
 Rt prog 89 [.pointer (some ⟨g,0,none⟩),.agg (bD m).toArray] w (fun v w'=>v=.tuple #[]∧aQ w0 Z w' T g (cO s m)):=by
 have hFf:RfF (bS s m.tm):=hF.falls ht;have hvl:=hFf.vl;have hFv:RfF ({ (bS s m.tm) with votes:=c8 (bS s m.tm).votes m.f }:Rf):=hFf.voted hf;refine enter (n:=169) Tryz.func89 rfl rfl rfl (ak (af (bK (v:=.agg _) rfl ?_)));intro b3 w1 E3 hb3 hk3;obtain ⟨wm,hwm⟩:∃ x,x=w1:=⟨_,rfl⟩
 have h3a:=h.at_ (Z':=fun k=>Z k∨k=b3) E3 (fun k hk=>by
  rcases hk with e | e
  ·exact ⟨Nat.lt_of_lt_of_le (h.zw k e) E3.size,.inl e⟩
  ·subst e;exact ⟨hk3.lt,.inr (by omega)⟩)
 obtain ⟨Z7,hZ7⟩:∃ Z7,Z7=fun k=>Z k∨k=b3:=⟨_,rfl⟩
 have h3:aQ wm Z7 w1 T g ⟨s,[]⟩:=by
  rw [hZ7,hwm];exact h3a
 have hzi:∀ k,Z k→Z7 k:=fun k hk=>by rw [hZ7];exact .inl hk
 have hzb:Z7 b3:=by rw [hZ7];exact .inr rfl
 have hE3:ah w wm:=by rw [hwm];exact E3
 have hm9:Blk wm b3 39 (bD m).toArray:=by rw [hwm];exact hk3
 have hm3:=h3.kept hzb hm9;refine aj (ag (ak (ak ?_)))
 skip
 apply bQ 8 [(5,eqp _),(6,eqp (.int .i64 m.tm)),(7,eqp _),(8,eqp _),(9,eqp _),(10,eqp _),(11,eqp (.int .i64 s.term)),(12,eqp _)] (by repeat first | exact cB | refine cA ?_ | refine bW ?_) (by kernel_rfl) (by kernel_rfl) ⟨aq _,aq _,aq _,aq _,aq _,aq _,aq _,aq _,trivial⟩
 case hop=>
  constructor
  ·rintro-w3 D3;exact au (ab bt rfl) rfl
  constructor
  ·rintro-w4 D4;rintro _ rfl;exact au (ar ao rfl (by exact (show _=some (Value.int .i64 m.tm) from (hm3.from_ (ah.rfl_.next D4)).rd 3 rfl))) rfl
  constructor
  ·rintro-w5 D5;exact au (aH (v:=.pointer _) rfl) rfl
  constructor
  ·rintro-w6 D6;rintro _ rfl;exact au (av rfl) rfl
  constructor
  ·rintro-w7 D7;rintro _ rfl;exact au (ab aJ rfl) rfl
  constructor
  ·rintro-w8 D8;rintro _ rfl;exact au (ab bm rfl) rfl
  constructor
  ·rintro-w9 D9;rintro _ rfl;exact au (ar ao rfl (by exact (show _=some (Value.int .i64 s.term) from (h3.from_ (ah.rfl_.next D9)).rd (fun _=>rfl)))) rfl
  constructor
  ·rintro-w10 D10;rintro v10_6 rfl v10_11 rfl;exact au (c6 (cn rfl rfl) (decide_eq_true hgt)) rfl
  exact trivial
 case hend=>
  intro w11 D11;rintro _ rfl v6 rfl _ rfl _ rfl _ rfl _ rfl v11 rfl _ rfl;show St ..;refine aj (ag (aS rfl (af (mvp rfl (aa (ab bt rfl) (aa (ar ao rfl (by exact (show _=some (Value.int .i64 m.tm) from (hm3.from_ (ah.rfl_.next D11)).rd 3 rfl))) ?_))))));refine ay jl (mf wm Z7 T g ⟨s,[]⟩ _ (h3.from_ (ah.rfl_.next D11)) m.tm) ?_;rintro v16 w12 ⟨rfl,h4⟩;have hc3:=h4;obtain ⟨tgV,aV,OV,ocV,LV,hsV⟩:=hc3.ex;have hrV:=(hsV.f.v (by decide)).1;obtain ⟨zV,hzV⟩:∃ z,z=(w12).heap.size:=⟨_,rfl⟩;refine aj (ag (ak (ak ?_)))
  skip
  apply bQ 8 [(17,eqp _),(18,eqp (.int .i64 m.tm)),(19,eqp _),(20,eqp _),(21,eqp _),(22,eqp _),(23,eqp (.int .i64 (bS s m.tm).term)),(24,eqp _)] (by repeat first | exact cB | refine cA ?_ | refine bW ?_) (by kernel_rfl) (by kernel_rfl) ⟨aq _,aq _,aq _,aq _,aq _,aq _,aq _,aq _,trivial⟩
  case hop=>
   constructor
   ·rintro-w14 D14;exact au (ab bt rfl) rfl
   constructor
   ·rintro-w15 D15;rintro _ rfl;exact au (ar ao rfl (by exact (show _=some (Value.int .i64 m.tm) from ((h4.kept hzb hm9).from_ (ah.rfl_.next D15)).rd 3 rfl))) rfl
   constructor
   ·rintro-w16 D16;exact au (aH (v:=.pointer _) rfl) rfl
   constructor
   ·rintro-w17 D17;rintro _ rfl;exact au (av rfl) rfl
   constructor
   ·rintro-w18 D18;rintro _ rfl;exact au (ab aJ rfl) rfl
   constructor
   ·rintro-w19 D19;rintro _ rfl;exact au (ab bm rfl) rfl
   constructor
   ·rintro-w20 D20;rintro _ rfl;exact au (ar ao rfl (by exact (show _=some (Value.int .i64 (bS s m.tm).term) from (h4.from_ (ah.rfl_.next D20)).rd (fun _=>rfl)))) rfl
   constructor
   ·rintro-w21 D21;rintro v21_18 rfl v21_23 rfl;exact au (ch (bM rfl rfl) (decide_eq_false (by have:=dO s m.tm;omega))) rfl
   exact trivial
  case hend=>
   intro w22 D22;rintro _ rfl v18 rfl _ rfl _ rfl _ rfl _ rfl v23 rfl _ rfl;show St ..;refine aj (ag (bd rfl (aM (ag (ak (af (aa (ab cr rfl) (aa (ar ao rfl (by exact (show _=some (Value.int .i64 m.k) from ((h4.kept hzb hm9).from_ (ah.rfl_.next D22)).rd 0 rfl))) ?_))))))));refine aj (ag (aU (ak (af (aa (ch (bg rfl rfl) (beq_eq_false_iff_ne.2 (by omega))) (asb rfl (aj (ag (bd rfl (ak (af (aa (c6 (bg rfl rfl) (beq_iff_eq.2 hk)) (asb rfl (aj (ag ?_)))))))))))))));refine aS rfl (ak (af (mvp rfl (aa (av rfl) (aa (ab aJ rfl) (aa (ab cG rfl) (aa (ar ao rfl (by exact (show _=some (Value.int .i64 (bS s m.tm).role) from (hc3.from_ (ah.rfl_.next D22)).rd (fun _=>rfl)))) ?_)))))));refine aa (c6 (bg rfl rfl) (beq_iff_eq.2 hro)) (mvb rfl (ae rfl (aa (ab dQ rfl) (ae rfl ?_))));refine aa (ar eb rfl (by exact (show _=some (Value.bool true) from by rw [←hok];exact ((hc3.kept hzb hm9).from_ (ah.rfl_.next D22)).rd 8 rfl))) ?_;refine aa (aL (v:=.bool _) rfl rfl) (aj (ag (aS rfl (ak ?_))));apply bQ 12 [(114,eqp _),(115,eqp _),(116,eqp _),(117,eqp _),(118,eqp _),(119,eqp (.slice aV.V (bS s m.tm).votes.length aV.Vc)),(120,eqp _),(121,eqp (.int .i64 m.f)),(122,fun (v:Value) (w':World)=>∃ (A2:Option Addr) (c2:Nat),v=Value.slice A2 (c8 (bS s m.tm).votes m.f).length c2∧w'.ownsRow 0 3 1 (.slice A2 (c8 (bS s m.tm).votes m.f).length c2) (c8 (bS s m.tm).votes m.f).length ((c8 (bS s m.tm).votes m.f).map iV)∧(∀ k,A2.map (·.block)=some k→aV.V.map (·.block)=some k∨zV≤k)),(123,eqp _),(124,eqp _),(125,eqp _)] (by repeat first | exact cB | refine cA ?_ | refine bW ?_) (by kernel_rfl) (by kernel_rfl) ⟨aq _,aq _,aq _,aq _,aq _,aq _,aq _,aq _,(fun _ _ _ hF ⟨A2,c2,h1,h2,h3⟩=>⟨A2,c2,h1,h2.kept_from hF,h3⟩),aq _,aq _,aq _,trivial⟩
   case hop=>
    constructor
    ·rintro-w24 D24;exact au (aH (v:=.pointer _) rfl) rfl
    constructor
    ·rintro-w25 D25;exact au (aH (v:=.pointer _) rfl) rfl
    constructor
    ·rintro-w26 D26;rintro _ rfl;exact au (av rfl) rfl
    constructor
    ·rintro-w27 D27;rintro _ rfl;exact au (ab aJ rfl) rfl
    constructor
    ·rintro-w28 D28;rintro _ rfl;exact au (ab cf rfl) rfl
    constructor
    ·rintro-w29 D29;rintro _ rfl;exact au (ar bc rfl (by exact (show _=some (Value.slice aV.V (bS s m.tm).votes.length aV.Vc) from ct (hsV.b.from_ ((ah.rfl_.next D22).next D29)) 14 rfl))) rfl
    constructor
    ·rintro-w30 D30;exact au (ab cH rfl) rfl
    constructor
    ·rintro-w31 D31;rintro _ rfl;exact au (ar ao rfl (by exact (show _=some (Value.int .i64 m.f) from ((hc3.kept hzb hm9).from_ ((ah.rfl_.next D22).next D31)).rd 1 rfl))) rfl
    constructor
    ·rintro-w32 D32;rintro v32_119 rfl v32_121 rfl;refine fJ mg ((rE aV.V aV.Vc (bS s m.tm).votes m.f _ (hrV.kept_from ((ah.rfl_.next D22).next D32)) (nO hFf) (by omega)).mono ?_);rintro v wv ⟨⟨A2,c2,rfl,ho9,hL9⟩,hF9⟩;exact ⟨hF9,A2,c2,rfl,ho9,fun k hk=>(hL9 k hk).imp id fun e=>by rw [hzV];exact Nat.le_trans (((ah.rfl_.next D22).next D32)).size e⟩
    constructor
    ·rintro-w33 D33;rintro _ rfl;exact au (av rfl) rfl
    constructor
    ·rintro-w34 D34;rintro _ rfl;exact au (ab aJ rfl) rfl
    constructor
    ·rintro-w35 D35;rintro _ rfl;exact au (ab cf rfl) rfl
    exact trivial
   case hend=>
    intro w36 D36;rintro _ rfl _ rfl _ rfl _ rfl _ rfl v119 rfl _ rfl v121 rfl v122 ⟨A122,c122,rfl,ho122,hL122⟩ _ rfl _ rfl _ rfl;show St ..;have hMv:ah _ w36:=((ah.rfl_.next D22).next D36);refine cj (s':=({ (bS s m.tm) with votes:=c8 (bS s m.tm).votes m.f }:Rf)) (a':={ aV with V:=A122,Vc:=c122 }) cy rfl rfl rfl (hsV.b.from_ hMv) ⟨by decide,rfl⟩ ?_;intro w37 O2 P2;have hfV:=cD.votes (bh.but (c:=1) hsV.f (ah.toChg hMv)) (l:=c8 (bS s m.tm).votes m.f) rfl ho122 ((hsV.f.v (by decide)).2.new (dt (hsV.f.v (by decide)).1) (by rw [←hzV];exact hL122));have h12:=(hc3.put (s':=({ (bS s m.tm) with votes:=c8 (bS s m.tm).votes m.f }:Rf)) (a':={ aV with V:=A122,Vc:=c122 }) hsV (ah.toChg hMv) (.inl (by decide)) hfV (O2.toChg rfl) P2).2;refine aj (ag (af (mvp rfl (ay nm (rF wm Z7 T g ⟨({ (bS s m.tm) with votes:=c8 (bS s m.tm).votes m.f }:Rf),[]⟩ _ (h12.from_ ah.rfl_) hFv (Nat.zero_le _)) ?_))));rintro v127 w38 ⟨rfl,h6⟩;refine aj (bo (cC (dV rfl ?_)));rw [lI hgt,kg (by have:=dO s m.tm;omega) hk,qi hro hok];exact ⟨rfl,h.back hE3 (h6.from_ ah.rfl_) hzi⟩
theorem rG (w0:World) (Z:Nat→Prop) (T g:Nat) (s:Rf) (m:Msg) (w:World) (h:aQ w0 Z w T g ⟨s,[]⟩) (hF:RfF s) (ht:m.tm≤1099511627775) (hk:m.k=2) (hf:1≤m.f∧m.f≤s.nodes):Rt prog 89 [.pointer (some ⟨g,0,none⟩),.agg (bD m).toArray] w fun v w'=>v=.tuple #[]∧aQ w0 Z w' T g (cO s m):=by
 rcases Int.lt_trichotomy m.tm s.term with h1 | h1 | h1
 ·exact yM w0 Z T g s m w h h1
 ·replace h1:=h1.symm;by_cases hro:s.role=1
  ·cases hok:m.ok with
   |false=>exact vA w0 Z T g s m w h hF ht hk h1 hf hro hok
   |true=>exact vz w0 Z T g s m w h hF ht hk h1 hf hro hok
  ·exact vB w0 Z T g s m w h hF ht hk h1 hf hro
 ·have hf9:1≤m.f∧m.f≤(bS s m.tm).nodes:=by rw [(jT s m.tm).2.2.2.2.1];exact hf
  by_cases hro:(bS s m.tm).role=1
  ·cases hok:m.ok with
   |false=>exact vx w0 Z T g s m w h hF ht hk h1 hf9 hro hok
   |true=>exact vw w0 Z T g s m w h hF ht hk h1 hf9 hro hok
  ·exact vy w0 Z T g s m w h hF ht hk h1 hf9 hro
theorem sM:aO prog 141=true:=by kernel_rfl
theorem sN:aO prog 140=true:=by kernel_rfl
theorem sL:aO prog 142=true:=by kernel_rfl
theorem sK:aO prog 143=true:=by kernel_rfl
theorem lz:∀ (a0:Int) (a1:Int) (a2:Int) (a3:Int),prog.built 39 [(0,.int .i64 a0),(1,.int .i64 a1),(2,.int .i64 a2),(3,.int .i64 a3)]=some #[.int .i64 a0,.int .i64 a1,.int .i64 a2,.int .i64 a3,.int .i64 0,.int .i64 0,.int .i64 0,.int .i64 0,.bool false,.slice none 0 0,.int .i64 0,.string ⟨#[]⟩,.bool false]:=by intros;kernel_rfl
theorem tb (k f t tm ix lt cm rd:Int) (ok:Bool) (E:Option Addr) (n c:Nat) (a:Int) (d:ByteArray) (dn:Bool) (w:World) (hk:k=2) :
 Rt prog 141 [.agg #[.int .i64 k,.int .i64 f,.int .i64 t,.int .i64 tm,.int .i64 ix,.int .i64 lt,.int .i64 cm,.int .i64 rd,.bool ok,.slice E n c,.int .i64 a,.string d,.bool dn]] w (fun v w'=>(∃ ix' lt' cm' rd' ok' E' n' c' a' d' dn',v=.agg #[.int .i64 k,.int .i64 f,.int .i64 t,.int .i64 tm,.int .i64 ix',.int .i64 lt',.int .i64 cm',.int .i64 rd',.bool ok',.slice E' n' c',.int .i64 a',.string d',.bool dn']∧((ix'=0∧lt'=0∧cm'=0∧rd'=0∧a'=0∧ok'.toNat=0∧dn'.toNat=0∧d'.size=0∧n'=0)↔ExR k ix lt cm rd ok n a d dn))∧ah w w'):=by
 refine enter (n:=38) Tryz.func141 rfl rfl rfl (ak (af (bK (v:=.agg _) rfl ?_)));intro b1 w1 E1 hb1 hk1;have hg1:w.heap.size≤b1:=by rw [hb1];exact Nat.le_refl _
 refine bP du ?_;intro b2 w2 E2 hb2 hk2;have hlt:=hk1.lt;have hg2:w.heap.size≤b2:=by rw [hb2];exact ((ah.rfl_.next E1)).size
 have h12:b1<b2:=by omega
 replace hk1:=hk1.from_ E2;refine aj (ag (ak (ak (af (aa (ab cr rfl) (aa (ar ao rfl (by exact hk1.rd 0 rfl)) ?_))))));refine aj (ag (aU (ak (af (aa (bg rfl rfl) (asb rfl (aj (ag (Bj rfl (fun Q3=>?_) (fun Q3=>?_))))))))))
 ·exfalso;omega
 refine ak (af (aa (bg rfl rfl) (asb rfl (aj (ag (Bj rfl (fun Q7=>?_) (fun Q7=>?_)))))));rotate_left
 ·exfalso;omega
 refine af (aa (ab dQ rfl) (fR (v:=.bool _) pb rfl rfl rfl (hk1) (by show 0+8<13;decide) ?_));intro w34 O5_0 P5_0;replace hk2:=hk2.only O5_0 (by omega);replace hk1:Blk w34 b1 39 #[.int .i64 k,.int .i64 f,.int .i64 t,.int .i64 tm,.int .i64 ix,.int .i64 lt,.int .i64 cm,.int .i64 rd,.bool false,.slice E n c,.int .i64 a,.string d,.bool dn]:=P5_0;refine aj (bo (ag (ak (af (aa (aG (cs:=[_,_,_,_,_,_,_,_,_,_,_,_,_]) bk aY rfl (by exact hk1.whole)) ?_)))));refine cg (vs:=[_,_,_,_,_,_,_,_,_,_,_,_,_]) aY rfl rfl (by simp [Value.oneCell']) (hk2) rfl ?_;intro w35 O14 P14;refine aj (ag (aB (lR rfl (dM (cs:=[_,_,_,_,_,_,_,_,_,_,_,_,_]) bk aY rfl (by exact P14.whole)) ?_)));refine ⟨⟨_,_,_,_,_,_,_,_,_,_,_,rfl,?_⟩,((((ah.rfl_.next E1).next E2).only O5_0 (hg1)).only O14 (hg2))⟩;unfold ExR
 first
  |(rw [if_pos (by omega)];(try simp only [Bool.toNat_false,bz,true_and,and_true]);first | done | omega)
  |(rw [if_neg (by omega),if_pos (by omega)];(try simp only [Bool.toNat_false,true_and]);first | done | omega)
  |(rw [if_neg (by omega),if_neg (by omega),if_pos (by omega)];(try simp only [Bool.toNat_false,bz,true_and,and_true]);first | done | omega)
  |(rw [if_neg (by omega),if_neg (by omega),if_neg (by omega),if_pos (by omega)];(try simp only [Bool.toNat_false,bz,true_and,and_true]);first | done | omega)
  |(rw [if_neg (by omega),if_neg (by omega),if_neg (by omega),if_neg (by omega),if_pos (by omega)];(try simp only [Bool.toNat_false,bz,true_and,and_true]);first | done | omega)
  |(rw [if_neg (by omega),if_neg (by omega),if_neg (by omega),if_neg (by omega),if_neg (by omega),if_pos (by omega)];(try simp only [Bool.toNat_false,bz,true_and,and_true]);first | done | omega)
  |(rw [if_neg (by omega),if_neg (by omega),if_neg (by omega),if_neg (by omega),if_neg (by omega),if_neg (by omega)];omega)
theorem nP (k f t tm ix lt cm rd:Int) (ok:Bool) (E:Option Addr) (n c:Nat) (a:Int) (d:ByteArray) (dn:Bool) (w:World) (hk:k=2) (es:List Ent) (hn:n=es.length) (he:cz w (.slice E n c) es) (_:es.length≤400000000000) (_:0≤ix∧ix≤1099511627775) (_:0≤lt∧lt≤1099511627775) :
 Rt prog 142 [.agg #[.int .i64 k,.int .i64 f,.int .i64 t,.int .i64 tm,.int .i64 ix,.int .i64 lt,.int .i64 cm,.int .i64 rd,.bool ok,.slice E n c,.int .i64 a,.string d,.bool dn]] w (fun v w'=>v=.bool (decide (uF k ix lt es))∧ah w w'):=by
 subst hn;refine enter (n:=29) Tryz.func142 rfl rfl rfl (ak (af (bK (v:=.agg _) rfl ?_)));intro b1 w1 E1 hb1 hk1;refine asb rfl (aj (ag (ak (ak (af (aa (ab cr rfl) (aa (ar ao rfl (by exact (hk1.from_ ah.rfl_).rd 0 rfl)) ?_)))))));refine aa (dk rfl rfl) (aj (ag (aR rfl (fun Q2=>?_) (fun Q2=>?_))));rotate_left
 ·replace Q2:=dL Q2;replace Q2:=eG Q2;exfalso;omega
 replace Q2:=dK Q2;replace Q2:=eH Q2;refine ak (af (asb rfl (aj (ag (aB (aD (bn (v:=.bool _) rfl rfl (⟨congrArg Value.bool (decide_eq_true ?_).symm,(ah.rfl_.next E1)⟩))))))));intro h;omega
theorem qj (k f t tm ix lt cm rd:Int) (ok:Bool) (E:Option Addr) (n c:Nat) (a:Int) (d:ByteArray) (dn:Bool) (w:World) (hk:k=2) :
 Rt prog 143 [.agg #[.int .i64 k,.int .i64 f,.int .i64 t,.int .i64 tm,.int .i64 ix,.int .i64 lt,.int .i64 cm,.int .i64 rd,.bool ok,.slice E n c,.int .i64 a,.string d,.bool dn]] w (fun v w'=>v=.bool (decide (pq k ix a d))∧ah w w'):=by
 refine enter (n:=23) Tryz.func143 rfl rfl rfl (ak (af (bK (v:=.agg _) rfl ?_)));intro b1 w1 E1 hb1 hk1;refine asb rfl (aj (ag (ak (af (aa (ab cr rfl) (aa (ar ao rfl (by exact (hk1.from_ ah.rfl_).rd 0 rfl)) ?_))))));refine aa (dk rfl rfl) (mvb rfl (aK (t:=6) rfl (fun Q2=>?_) (fun Q2=>?_)));rotate_left
 ·replace Q2:=dL Q2;replace Q2:=eG Q2;exfalso;omega
 replace Q2:=dK Q2;replace Q2:=eH Q2;refine an rfl rfl (an rfl rfl (an rfl rfl (an rfl rfl (an rfl rfl (cX rfl (cX rfl (cX rfl (an rfl rfl ?_))))))));refine an rfl rfl (cX rfl (cX rfl (cX rfl (cX rfl (an rfl rfl (aa (aL (v:=.bool _) rfl rfl) (asb rfl (aj (ag (aB ?_))))))))));refine bn (v:=.bool _) rfl rfl (⟨congrArg Value.bool ?_,(ah.rfl_.next E1)⟩)
 first
  |(rw [eq_comm,decide_eq_false_iff_not];unfold pq;omega)
  |(rw [decide_eq_decide];unfold pq;omega)
  |(rw [eq_comm,decide_eq_true_eq];unfold pq;omega)
theorem yh (k f t tm ix lt cm rd:Int) (ok:Bool) (E:Option Addr) (n c:Nat) (a:Int) (d:ByteArray) (dn:Bool) (w:World) (hk:k=2) (es:List Ent) (hn:n=es.length) (he:cz w (.slice E n c) es) (hl:es.length≤400000000000) :
 Rt prog 98 [.agg #[.int .i64 k,.int .i64 f,.int .i64 t,.int .i64 tm,.int .i64 ix,.int .i64 lt,.int .i64 cm,.int .i64 rd,.bool ok,.slice E n c,.int .i64 a,.string d,.bool dn]] w (fun v w'=>v=.int .i64 (if OkR k f t tm ix lt cm rd ok es a d dn then 0 else 1)∧ah w w'):=by
 refine enter (n:=47) Tryz.func98 rfl rfl rfl (ak (af (bK (v:=.agg _) rfl ?_)));intro b1 w1 E1 hb1 hk1;refine asi rfl (aj (ag (ak (af (aa (ab cr rfl) (aa (ar ao rfl (by exact (hk1.from_ ah.rfl_).rd 0 rfl)) ?_))))));refine eO (v:=.int _ _) bB rfl rfl rfl ?_;intro b6 w2 E6 hb6 hk6;refine ay jX (lE 1 6 b6 1 1 [k] _ rfl hk6 (by simp)) ?_;rintro v7 w3 ⟨rfl,rfl⟩;refine mvb rfl (AL (t:=8) rfl (fun Q4=>?_) (fun Q4=>?_))
 ·simp only [bp,bu,and_true] at Q4;have h8:=Q4;refine ae rfl (aa (ab cH rfl) (ae rfl (aa (ar ao rfl (by exact (hk1.from_ (ah.rfl_.next E6)).rd 1 rfl)) ?_)));refine ae rfl (aa (ab en rfl) (ae rfl (aa (ar ao rfl (by exact (hk1.from_ (ah.rfl_.next E6)).rd 2 rfl)) ?_)));refine ae rfl (lJ [.tmp 10,.tmp 12] [.int _ _,.int _ _] bB rfl rfl rfl rfl (by simp [Value.cells]) ?_);intro b13 w5 E13 hb13 hk13;refine ae rfl (ay jX (lE 1 7 b13 2 2 [f,t] _ rfl hk13 (by simp)) ?_);rintro v14 w6 ⟨rfl,rfl⟩;refine aa (aL (v:=.bool _) rfl rfl) (mvb rfl (AL (t:=16) rfl (fun Q7=>?_) (fun Q7=>?_)))
  ·simp only [bp,bu,and_true] at Q7;have h16:=Q7;refine ae rfl (aa (ab bt rfl) (ae rfl (aa (ar ao rfl (by exact (hk1.from_ ((ah.rfl_.next E6).next E13)).rd 3 rfl)) ?_)));refine ae rfl (aa (ab ij rfl) (ae rfl (aa (ar ao rfl (by exact (hk1.from_ ((ah.rfl_.next E6).next E13)).rd 4 rfl)) ?_)));refine ae rfl (aa (ab fE rfl) (ae rfl (aa (ar ao rfl (by exact (hk1.from_ ((ah.rfl_.next E6).next E13)).rd 5 rfl)) ?_)));refine ae rfl (aa (ab ig rfl) (ae rfl (aa (ar ao rfl (by exact (hk1.from_ ((ah.rfl_.next E6).next E13)).rd 6 rfl)) ?_)));refine ae rfl (aa (ab fo rfl) (ae rfl (aa (ar ao rfl (by exact (hk1.from_ ((ah.rfl_.next E6).next E13)).rd 7 rfl)) ?_)));refine ae rfl (aa (ab gz rfl) (ae rfl (aa (ar ao rfl (by exact (hk1.from_ ((ah.rfl_.next E6).next E13)).rd 10 rfl)) ?_)));refine ae rfl (lJ [.tmp 18,.tmp 20,.tmp 22,.tmp 24,.tmp 26,.tmp 28] [.int _ _,.int _ _,.int _ _,.int _ _,.int _ _,.int _ _] bB rfl rfl rfl rfl (by simp [Value.cells]) ?_);intro b29 w8 E29 hb29 hk29;refine ae rfl (ay jX (lE 0 1099511627775 b29 6 6 [tm,ix,lt,cm,rd,a] _ rfl hk29 (by simp)) ?_);rintro v30 w9 ⟨rfl,rfl⟩;refine aa (aL (v:=.bool _) rfl rfl) (mvb rfl (AL (t:=32) rfl (fun Q10=>?_) (fun Q10=>?_)))
   ·simp only [bp,bu,and_true] at Q10;have h32:=Q10;refine ae rfl (aa (aG (cs:=[_,_,_,_,_,_,_,_,_,_,_,_,_]) bk aY rfl (by exact (hk1.from_ (((ah.rfl_.next E6).next E13).next E29)).whole)) ?_);refine ae rfl (ay sM (tb k f t tm ix lt cm rd ok E n c a d dn _ hk) ?_);rintro v34 w11 ⟨⟨ix',lt',cm',rd',ok',E',n',c',a',d',dn',rfl,hex⟩,E34⟩;refine ae rfl (ay sN (zm k f t tm ix' lt' cm' rd' ok' E' n' c' a' d' dn' _) ?_);rintro v35 w12 ⟨rfl,E35⟩;refine aa (aL (v:=.bool _) rfl rfl) (mvb rfl (AL (t:=37) rfl (fun Q13=>?_) (fun Q13=>?_)))
    ·have hx:=hex.1 Q13;have h37:=Q13;refine ae rfl (aa (aG (cs:=[_,_,_,_,_,_,_,_,_,_,_,_,_]) bk aY rfl (by exact (hk1.from_ (((((ah.rfl_.next E6).next E13).next E29).next E34).next E35)).whole)) ?_);refine ae rfl (ay sL (nP k f t tm ix lt cm rd ok E n c a d dn _ hk es hn (he.from_ ((((((ah.rfl_.next E1).next E6).next E13).next E29).next E34).next E35)) hl (by omega) (by omega)) ?_);rintro v39 w14 ⟨rfl,E39⟩;refine aa (aL (v:=.bool _) rfl rfl) (mvb rfl (AL (t:=41) rfl (fun Q15=>?_) (fun Q15=>?_)))
     ·have h41:=Q15;refine ae rfl (aa (aG (cs:=[_,_,_,_,_,_,_,_,_,_,_,_,_]) bk aY rfl (by exact (hk1.from_ ((((((ah.rfl_.next E6).next E13).next E29).next E34).next E35).next E39)).whole)) ?_);refine ae rfl (ay sK (qj k f t tm ix lt cm rd ok E n c a d dn _ hk) ?_);rintro v43 w16 ⟨rfl,E43⟩;refine aa (aL (v:=.bool _) rfl rfl) (asb rfl (aj (ag (ak (ak (af (mvb rfl (aa (cd rfl) (aj (ag (aR rfl (fun Q17=>?_) (fun Q17=>?_))))))))))))
      ·replace Q17:=dK Q17;replace Q17:=dF_ Q17;have hno:¬ (OkR k f t tm ix lt cm rd ok es a d dn):=fun h=>Q17 h.2.2.2
       refine ak (af (asi rfl (aj (ag (aB (aD (bn (v:=.int _ _) rfl rfl (⟨br (by rw [if_neg hno]),((((((((ah.rfl_.next E1).next E6).next E13).next E29).next E34).next E35).next E39).next E43)⟩))))))))
      replace Q17:=dL Q17;replace Q17:=dT_ Q17;have hyes:OkR k f t tm ix lt cm rd ok es a d dn:=⟨by unfold jw;omega,hn ▸ hx,h41,Q17⟩;refine aM (ag (ak (af (asi rfl (aj (ag (aB (bn (v:=.int _ _) rfl rfl (⟨br (by rw [if_pos hyes]),((((((((ah.rfl_.next E1).next E6).next E13).next E29).next E34).next E35).next E39).next E43)⟩)))))))))
     have hno:¬ (OkR k f t tm ix lt cm rd ok es a d dn):=fun h=>Q15 h.2.2.1
     refine an rfl rfl (an rfl rfl (aa (aw (v:=.bool _) rfl rfl) (asb rfl (aj (ag (ak (ak (af (mvb rfl (aa (cd rfl) (aj (ag (aS rfl ?_)))))))))))));refine ak (af (asi rfl (aj (ag (aB (aD (bn (v:=.int _ _) rfl rfl (⟨br (by rw [if_neg hno]),(((((((ah.rfl_.next E1).next E6).next E13).next E29).next E34).next E35).next E39)⟩))))))))
    have hno:¬ (OkR k f t tm ix lt cm rd ok es a d dn):=fun h=>Q13 (hex.2 (hn ▸ h.2.1))
    refine an rfl rfl (an rfl rfl (aa (aw (v:=.bool _) rfl rfl) (mvb rfl (an rfl rfl (an rfl rfl (aa (aw (v:=.bool _) rfl rfl) (asb rfl (aj (ag (ak (ak (af ?_))))))))))));refine mvb rfl (aa (cd rfl) (aj (ag (aS rfl (ak (af (asi rfl (aj (ag (aB (aD (bn (v:=.int _ _) rfl rfl (⟨br (by rw [if_neg hno]),((((((ah.rfl_.next E1).next E6).next E13).next E29).next E34).next E35)⟩)))))))))))))
   simp only [bp,bu,and_true] at Q10;have hno:¬ (OkR k f t tm ix lt cm rd ok es a d dn):=fun h=>Q10 (by have:=h.1;unfold jw at this;omega)
   refine an rfl rfl (an rfl rfl (an rfl rfl (aa (aw (v:=.bool _) rfl rfl) (mvb rfl (an rfl rfl (an rfl rfl (aa (aw (v:=.bool _) rfl rfl) (mvb rfl ?_))))))));refine an rfl rfl (an rfl rfl (aa (aw (v:=.bool _) rfl rfl) (asb rfl (aj (ag (ak (ak (af (mvb rfl (aa (cd rfl) (aj (ag (aS rfl ?_)))))))))))));refine ak (af (asi rfl (aj (ag (aB (aD (bn (v:=.int _ _) rfl rfl (⟨br (by rw [if_neg hno]),((((ah.rfl_.next E1).next E6).next E13).next E29)⟩))))))))
  simp only [bp,bu,and_true] at Q7;have hno:¬ (OkR k f t tm ix lt cm rd ok es a d dn):=fun h=>Q7 (by have:=h.1;unfold jw at this;omega)
  refine an rfl rfl (an rfl rfl (an rfl rfl (an rfl rfl (an rfl rfl (an rfl rfl (an rfl rfl (an rfl rfl (an rfl rfl ?_))))))));refine an rfl rfl (an rfl rfl (an rfl rfl (an rfl rfl (an rfl rfl (aa (aw (v:=.bool _) rfl rfl) (mvb rfl (an rfl rfl (an rfl rfl ?_))))))));refine an rfl rfl (aa (aw (v:=.bool _) rfl rfl) (mvb rfl (an rfl rfl (an rfl rfl (aa (aw (v:=.bool _) rfl rfl) (mvb rfl (an rfl rfl (an rfl rfl ?_))))))));refine aa (aw (v:=.bool _) rfl rfl) (asb rfl (aj (ag (ak (ak (af (mvb rfl (aa (cd rfl) (aj (ag (aS rfl (ak (af (asi rfl ?_))))))))))))));refine aj (ag (aB (aD (bn (v:=.int _ _) rfl rfl (⟨br (by rw [if_neg hno]),(((ah.rfl_.next E1).next E6).next E13)⟩)))))
 simp only [bp,bu,and_true] at Q4;have hno:¬ (OkR k f t tm ix lt cm rd ok es a d dn):=fun h=>Q4 (by have:=h.1;unfold jw at this;omega)
 refine an rfl rfl (an rfl rfl (an rfl rfl (an rfl rfl (an rfl rfl (an rfl rfl (aa (aw (v:=.bool _) rfl rfl) (mvb rfl (an rfl rfl ?_))))))));refine an rfl rfl (an rfl rfl (an rfl rfl (an rfl rfl (an rfl rfl (an rfl rfl (an rfl rfl (an rfl rfl (an rfl rfl ?_))))))));refine an rfl rfl (an rfl rfl (an rfl rfl (an rfl rfl (aa (aw (v:=.bool _) rfl rfl) (mvb rfl (an rfl rfl (an rfl rfl (an rfl rfl ?_))))))));refine aa (aw (v:=.bool _) rfl rfl) (mvb rfl (an rfl rfl (an rfl rfl (aa (aw (v:=.bool _) rfl rfl) (mvb rfl (an rfl rfl (an rfl rfl (aa (aw (v:=.bool _) rfl rfl) ?_))))))));refine asb rfl (aj (ag (ak (ak (af (mvb rfl (aa (cd rfl) (aj (ag (aS rfl (ak (af (asi rfl (aj (ag (aB (aD ?_)))))))))))))))));refine bn (v:=.int _ _) rfl rfl (⟨br (by rw [if_neg hno]),((ah.rfl_.next E1).next E6)⟩)
theorem An (k f t tm ix lt cm rd:Int) (ok:Bool) (E:Option Addr) (n c:Nat) (a:Int) (d:ByteArray) (dn:Bool) (w:World) (hk:k=2) (es:List Ent) (hn:n=es.length) (he:cz w (.slice E n c) es) (hl:es.length≤400000000000) :
 Rt prog 88 [.agg #[.int .i64 k,.int .i64 f,.int .i64 t,.int .i64 tm,.int .i64 ix,.int .i64 lt,.int .i64 cm,.int .i64 rd,.bool ok,.slice E n c,.int .i64 a,.string d,.bool dn]] w (fun v w'=>v=.bool (decide (OkR k f t tm ix lt cm rd ok es a d dn))∧ah w w'):=by
 refine enter (n:=169) Tryz.func88 rfl rfl rfl (ak (af (bK (v:=.agg _) rfl ?_)));intro b1 w1 E1 hb1 hk1;have hg1:w.heap.size≤b1:=by rw [hb1];exact Nat.le_refl _
 refine asb rfl (aj (ag (ak (af (aa (ab cr rfl) (aa (ar ao rfl (by exact hk1.rd 0 rfl)) ?_))))));refine aa (ab cH rfl) (aa (ar ao rfl (by exact hk1.rd 1 rfl)) ?_);refine aa (ab en rfl) (aa (ar ao rfl (by exact hk1.rd 2 rfl)) ?_);refine aa (ab bt rfl) (aa (ar ao rfl (by exact hk1.rd 3 rfl)) ?_);refine aa (cV (l:=[(0,.tmp 5),(1,.tmp 7),(2,.tmp 9),(3,.tmp 11)]) (lz _ _ _ _)) (bP du ?_);intro b3 w2 E3 hb3 hk3;have hg3:w.heap.size≤b3:=by rw [hb3];exact ((ah.rfl_.next E1)).size
 have hlt:b1<b3:=by have:=hk1.lt;omega
 replace hk1:=hk1.from_ E3;refine cg (vs:=[_,_,_,_,_,_,_,_,_,_,_,_,_]) aY rfl rfl (by simp [Value.oneCell']) (hk3) rfl ?_;intro w3 O1 P1;replace hk1:=hk1.only O1 (by omega);have hX:=P1;refine aj (ag (ak (ak (af (aa (ab cH rfl) (aa (ar ao rfl (by exact (hk1.from_ ah.rfl_).rd 1 rfl)) ?_))))));refine ay mW (xA _ _) ?_;rintro v15 w4 ⟨rfl,rfl⟩;refine aa (cd rfl) (mvb rfl (aK (t:=17) rfl (fun Q5=>?_) (fun Q5=>?_)))
 ·replace Q5:=dK Q5;replace Q5:=dF_ Q5;refine bw rfl (aj (ag (aS rfl (ak (af (asb rfl (aj (ag (aB (aD (bn (v:=.bool _) rfl rfl (⟨congrArg Value.bool (decide_eq_false (fun h=>by have h1:=h.1;unfold jw at h1;omega)).symm,(((ah.rfl_.next E1).next E3).only O1 (hg3))⟩))))))))))))
 replace Q5:=dL Q5;replace Q5:=dT_ Q5;refine ae rfl (aa (ab en rfl) (ae rfl (aa (ar ao rfl (by exact (hk1.from_ ah.rfl_).rd 2 rfl)) ?_)));refine ae rfl (ay mW (xA _ _) ?_);rintro v20 w6 ⟨rfl,rfl⟩;refine ae rfl (aa (cd rfl) (aa (aw (v:=.bool _) rfl rfl) (mvb rfl (aK (t:=23) rfl (fun Q7=>?_) (fun Q7=>?_)))))
 ·replace Q7:=dK Q7;replace Q7:=dF_ Q7;refine bw rfl (aj (ag (aS rfl (ak (af (asb rfl (aj (ag (aB (aD (bn (v:=.bool _) rfl rfl (⟨congrArg Value.bool (decide_eq_false (fun h=>by have h1:=h.1;unfold jw at h1;omega)).symm,(((ah.rfl_.next E1).next E3).only O1 (hg3))⟩))))))))))))
 replace Q7:=dL Q7;replace Q7:=dT_ Q7;refine ae rfl (aa (ab bt rfl) (ae rfl (aa (ar ao rfl (by exact (hk1.from_ ah.rfl_).rd 3 rfl)) ?_)));refine ae rfl (ay eJ (pT _ _) ?_);rintro v26 w8 ⟨rfl,rfl⟩;refine ae rfl (aa (cd rfl) (aa (aw (v:=.bool _) rfl rfl) (mvb rfl (aK (t:=29) rfl (fun Q9=>?_) (fun Q9=>?_)))))
 ·replace Q9:=dK Q9;replace Q9:=dF_ Q9;refine bw rfl (aj (ag (aS rfl (ak (af (asb rfl (aj (ag (aB (aD (bn (v:=.bool _) rfl rfl (⟨congrArg Value.bool (decide_eq_false (fun h=>by have h1:=h.1;unfold jw at h1;omega)).symm,(((ah.rfl_.next E1).next E3).only O1 (hg3))⟩))))))))))))
 replace Q9:=dL Q9;replace Q9:=dT_ Q9;refine ae rfl (aa (ab ij rfl) (ae rfl (aa (ar ao rfl (by exact (hk1.from_ ah.rfl_).rd 4 rfl)) ?_)));refine ae rfl (ay eJ (pT _ _) ?_);rintro v32 w10 ⟨rfl,rfl⟩;refine ae rfl (aa (cd rfl) (aa (aw (v:=.bool _) rfl rfl) (mvb rfl (aK (t:=35) rfl (fun Q11=>?_) (fun Q11=>?_)))))
 ·replace Q11:=dK Q11;replace Q11:=dF_ Q11;refine bw rfl (aj (ag (aS rfl (ak (af (asb rfl (aj (ag (aB (aD (bn (v:=.bool _) rfl rfl (⟨congrArg Value.bool (decide_eq_false (fun h=>by have h1:=h.1;unfold jw at h1;omega)).symm,(((ah.rfl_.next E1).next E3).only O1 (hg3))⟩))))))))))))
 replace Q11:=dL Q11;replace Q11:=dT_ Q11;refine ae rfl (aa (ab fE rfl) (ae rfl (aa (ar ao rfl (by exact (hk1.from_ ah.rfl_).rd 5 rfl)) ?_)));refine ae rfl (ay eJ (pT _ _) ?_);rintro v38 w12 ⟨rfl,rfl⟩;refine ae rfl (aa (cd rfl) (aa (aw (v:=.bool _) rfl rfl) (mvb rfl (aK (t:=41) rfl (fun Q13=>?_) (fun Q13=>?_)))))
 ·replace Q13:=dK Q13;replace Q13:=dF_ Q13;refine bw rfl (aj (ag (aS rfl (ak (af (asb rfl (aj (ag (aB (aD (bn (v:=.bool _) rfl rfl (⟨congrArg Value.bool (decide_eq_false (fun h=>by have h1:=h.1;unfold jw at h1;omega)).symm,(((ah.rfl_.next E1).next E3).only O1 (hg3))⟩))))))))))))
 replace Q13:=dL Q13;replace Q13:=dT_ Q13;refine ae rfl (aa (ab ig rfl) (ae rfl (aa (ar ao rfl (by exact (hk1.from_ ah.rfl_).rd 6 rfl)) ?_)));refine ae rfl (ay eJ (pT _ _) ?_);rintro v44 w14 ⟨rfl,rfl⟩;refine ae rfl (aa (cd rfl) (aa (aw (v:=.bool _) rfl rfl) (mvb rfl (aK (t:=47) rfl (fun Q15=>?_) (fun Q15=>?_)))))
 ·replace Q15:=dK Q15;replace Q15:=dF_ Q15;refine bw rfl (aj (ag (aS rfl (ak (af (asb rfl (aj (ag (aB (aD (bn (v:=.bool _) rfl rfl (⟨congrArg Value.bool (decide_eq_false (fun h=>by have h1:=h.1;unfold jw at h1;omega)).symm,(((ah.rfl_.next E1).next E3).only O1 (hg3))⟩))))))))))))
 replace Q15:=dL Q15;replace Q15:=dT_ Q15;refine ae rfl (aa (ab fo rfl) (ae rfl (aa (ar ao rfl (by exact (hk1.from_ ah.rfl_).rd 7 rfl)) ?_)));refine ae rfl (ay eJ (pT _ _) ?_);rintro v50 w16 ⟨rfl,rfl⟩;refine ae rfl (aa (cd rfl) (aa (aw (v:=.bool _) rfl rfl) (mvb rfl (aK (t:=53) rfl (fun Q17=>?_) (fun Q17=>?_)))))
 ·replace Q17:=dK Q17;replace Q17:=dF_ Q17;refine bw rfl (aj (ag (aS rfl (ak (af (asb rfl (aj (ag (aB (aD (bn (v:=.bool _) rfl rfl (⟨congrArg Value.bool (decide_eq_false (fun h=>by have h1:=h.1;unfold jw at h1;omega)).symm,(((ah.rfl_.next E1).next E3).only O1 (hg3))⟩))))))))))))
 replace Q17:=dL Q17;replace Q17:=dT_ Q17;refine ae rfl (aa (ab gz rfl) (ae rfl (aa (ar ao rfl (by exact (hk1.from_ ah.rfl_).rd 10 rfl)) ?_)));refine ae rfl (ay eJ (pT _ _) ?_);rintro v56 w18 ⟨rfl,rfl⟩;refine ae rfl (aa (cd rfl) (aa (aw (v:=.bool _) rfl rfl) (aj (ag (aR rfl (fun Q19=>?_) (fun Q19=>?_))))))
 ·replace Q19:=dK Q19;replace Q19:=dF_ Q19;refine ak (af (asb rfl (aj (ag (aB (aD (bn (v:=.bool _) rfl rfl (⟨congrArg Value.bool (decide_eq_false (fun h=>by have h1:=h.1;unfold jw at h1;omega)).symm,(((ah.rfl_.next E1).next E3).only O1 (hg3))⟩))))))))
 replace Q19:=dL Q19;replace Q19:=dT_ Q19;refine aM (ag (oO (G:=(Int×Int×Int×Int)×Bool×(Option Addr×Nat×Nat×List Ent)×Int×ByteArray×Bool) [2,59,60,61,62,63,64,65,66,67,68,69,70,71,72,73,74,75,76,77,78,79,80,81,82,83,84,85,86,87,88,89,90,91,92,93,94,95,96,97,98,99,100,101,102,103,104,105,106,107,108,109,110,111,112,113,114,115,116,117,118,119,120,121,122,123,124,125,126,127,128,129,130,131,132,133,134,135,136,137,138,139,140,141,142,143,144,145,146,147,148,149,150,151,152,153,154,155,156,157,158,159,160,161,162,163,164,165] (fun _=>[]) (fun ((ix',lt',cm',rd'),ok',(E',n',c',es'),a',d',dn') w'=>Blk w' b3 39 #[.int .i64 k,.int .i64 f,.int .i64 t,.int .i64 tm,.int .i64 ix',.int .i64 lt',.int .i64 cm',.int .i64 rd',.bool ok',.slice E' n' c',.int .i64 a',.string d',.bool dn']∧Blk w' b1 39 #[.int .i64 k,.int .i64 f,.int .i64 t,.int .i64 tm,.int .i64 ix,.int .i64 lt,.int .i64 cm,.int .i64 rd,.bool ok,.slice E n c,.int .i64 a,.string d,.bool dn]∧cz w' (.slice E' n' c') es'∧n'=es'.length∧es'.length≤es.length∧((ix'=ix∧lt'=lt∧cm'=cm∧rd'=rd∧ok'=ok∧es'=es∧a'=a∧d'=d∧dn'=dn)↔OkR k f t tm ix lt cm rd ok es a d dn)∧ah w w') ?_ ?_))
 ·refine ak (af (aa (ab cr rfl) (aa (ar ao rfl (by exact (hk1.from_ ah.rfl_).rd 0 rfl)) ?_)));refine aj (ag (aU (ak (af (aa (bg rfl rfl) (asb rfl (aj (ag (Bj rfl (fun Q20=>?_) (fun Q20=>?_))))))))))
  ·have hap:uF k ix lt es:=fun h=>by omega
   have hsn:pq k ix a d:=fun h=>by omega
   have hnm:jw k f t tm ix lt cm rd a:=by unfold jw;omega
   exfalso;omega
  refine ak (af (aa (bg rfl rfl) (asb rfl (aj (ag (Bj rfl (fun Q23=>?_) (fun Q23=>?_)))))));rotate_left
  ·exfalso;omega
  have hap:uF k ix lt es:=fun h=>by omega
  have hsn:pq k ix a d:=fun h=>by omega
  have hnm:jw k f t tm ix lt cm rd a:=by unfold jw;omega
  refine af (aa (ab dQ rfl) (aa (ar eb rfl (by exact (hk1.from_ ah.rfl_).rd 8 rfl)) ?_));refine aa (ab dQ rfl) (fR (v:=.bool _) pb rfl rfl rfl (hX) (by show 0+8<13;decide) ?_);intro w43 O9 P9;replace hk1:=hk1.only O9 (by omega);replace hX:Blk w43 b3 39 #[.int .i64 k,.int .i64 f,.int .i64 t,.int .i64 tm,.int .i64 0,.int .i64 0,.int .i64 0,.int .i64 0,.bool ok,.slice none 0 0,.int .i64 0,.string ⟨#[]⟩,.bool false]:=P9;refine aj (bo ?_);refine cp (((0,0,0,0),ok,(none,0,0,[]),0,⟨#[]⟩,false)) trivial (by (iterate 9 refine bA rfl ?_);exact bN) ?_;refine ⟨hX.from_ ah.rfl_,hk1.from_ ah.rfl_,cz.nil_ _,rfl,by simp,?_,((((ah.rfl_.next E1).next E3).only O1 (hg3)).only O9 (hg3))⟩;rw [yY hnm hap hsn];simp only [yZ,zX,AA,true_and];unfold ExR;rw [if_neg (by omega),if_pos (by omega)]
  first | done | omega
 rintro ⟨⟨ix',lt',cm',rd'⟩,ok',⟨E',n',c',es'⟩,a',d',dn'⟩ ρ44 w44 ⟨hX,hk1,heX,hnX,hlX,hiff,hB⟩;refine ak (af (aa (aG (cs:=[_,_,_,_,_,_,_,_,_,_,_,_,_]) bk aY rfl (by exact hX.whole)) ?_));refine aa (aG (cs:=[_,_,_,_,_,_,_,_,_,_,_,_,_]) bk aY rfl (by exact hk1.whole)) ?_;refine ay jK (u2 k f t tm ix' lt' cm' rd' ok' E' n' c' a' d' dn' k f t tm ix lt cm rd ok E n c a d dn _ es' es hnX hn heX (he.from_ hB) (by omega)) ?_;rintro v168 w45 ⟨rfl,E168⟩;refine asb rfl (aj (ag (aB (bn (v:=.bool _) rfl rfl (⟨congrArg Value.bool ?_,(hB.next E168)⟩)))));rw [decide_eq_decide,←hiff];constructor
 ·rintro ⟨-,-,-,-,e5,e6,e7,e8,e9,e10,e11,e12,e13⟩;exact ⟨e5,e6,e7,e8,e9,e10,e11,e12,e13⟩
 ·rintro ⟨e5,e6,e7,e8,e9,e10,e11,e12,e13⟩;exact ⟨rfl,rfl,rfl,rfl,e5,e6,e7,e8,e9,e10,e11,e12,e13⟩
theorem sk {m:Msg} (hl:m.es.length≤1000000) (hk:m.k=2):rh m:=fun w he=>yh m.k m.f m.t m.tm m.ix m.lt m.cm m.rd m.ok m.E m.es.length m.c m.a m.d m.dn w hk m.es rfl he (by omega)
theorem xL {m:Msg} (hl:m.es.length≤1000000) (hk:m.k=2):wi m:=fun w he=>An m.k m.f m.t m.tm m.ix m.lt m.cm m.rd m.ok m.E m.es.length m.c m.a m.d m.dn w hk m.es rfl he (by omega)
theorem sA:aO prog 21=true:=by kernel_rfl
theorem h_:aO prog 22=true:=by kernel_rfl
theorem sy:aO prog 23=true:=by kernel_rfl
def wkA (k:Int):Rf:={ rW 1 1 1 with elapsed:=k }
def wkB (e r:Int):Rf:=⟨1,1,2,1,1,1,0,0,[⟨1,1,⟨#[]⟩⟩],⟨#[]⟩,1,e,10+bl (nx 1) 10,nx (nx 1),[],[1],[1],[0],r,[],⟨#[]⟩,0⟩
def wkR:Nat→Rf
 |0=>rW 1 1 1
 |k+1=>(iw (wkR k)).s
theorem y7:med [1]=1:=by
 have h:srt [1]=[1]:=List.perm_singleton.1 (lL [1]);unfold med;rw [h];rfl
theorem wq (k:Int):(iR (wkA k)).s=wkB 0 0:=by
 rw [sd (show (wkA k).term≠eF by show (0:Int)≠1099511627775;decide)];show (iv ⟨ed (wkA k),[]⟩).s=_;unfold iv;rw [if_pos (show dU (⟨ed (wkA k),[]⟩:Sp).s.nodes (⟨ed (wkA k),[]⟩:Sp).s.votes=true from (by decide:dU 1 [1]=true))];unfold j5;rw [if_neg (show ¬ fA (⟨ed (wkA k),[]⟩:Sp).s=true from fun h=>Bool.noConfusion (show false=true from h))];show ck (Sp.all ⟨ec (c_ (ed (wkA k))) ⟨#[]⟩,[]⟩).s=_;rw [kA];show ck (ec (c_ (ed (wkA k))) ⟨#[]⟩)=_;unfold ck;simp only;rw [show dc (ec (c_ (ed (wkA k))) ⟨#[]⟩).mtch (ec (c_ (ed (wkA k))) ⟨#[]⟩).id (a_ (ec (c_ (ed (wkA k))) ⟨#[]⟩))=[1] from rfl,y7];rfl
theorem yy {k:Int} (h:0≤k∧k≤20):gZ (wkA k)=true:=by
 have hb:=ud 1;refine bR.2 ⟨?_,?_,rfl,?_,?_⟩
 ·unfold iF wkA rW ir zR;simp only;omega
 ·exact ⟨rfl,Int.le_refl 0,⟨Int.le_refl 0,Int.le_refl 0⟩,Nat.zero_le _,.inr rfl⟩
 ·exact (dS (show (0:Int)≠2 by decide)).2 rfl
 ·exact ⟨Nat.zero_le _,⟨Int.le_refl 0,z11⟩,.inr rfl⟩
theorem yx {e r:Int} (he:0≤e∧e≤1) (hr:0≤r∧r≤20):gZ (wkB e r)=true:=by
 have hb:=ud (nx 1);refine bR.2 ⟨?_,?_,rfl,?_,?_⟩
 ·unfold iF wkB;simp only;omega
 ·exact ⟨(by decide:cJ 0 0 [⟨1,1,⟨#[]⟩⟩]=true),Int.le_refl 1,⟨(by decide:(0:Int)≤1),Int.le_refl 1⟩,Nat.zero_le _,.inr rfl⟩
 ·exact (cF rfl).2 ⟨⟨rfl,rfl,rfl,Nat.zero_le _⟩,⟨fun x hx=>by rw [List.mem_singleton.1 hx];exact ⟨Int.le_refl 1,(by decide:(1:Int)≤1+1)⟩,fun x hx=>by rw [List.mem_singleton.1 hx];exact ⟨(by decide:(0:Int)≤1),Int.le_refl 1⟩,fun x hx=>by rw [List.mem_singleton.1 hx];exact ⟨Int.le_refl 0,Int.le_refl 0⟩⟩,fun q hq=>by cases hq⟩
 ·exact ⟨Nat.zero_le _,⟨Int.le_refl 0,z11⟩,.inr rfl⟩
theorem wt:∀ k:Nat,k≤20→((k:Int)<10+bl 1 10∧wkR k=wkA k)∨(10+bl 1 10≤(k:Int)∧∃ e r:Int,(0≤e∧e≤1)∧(0≤r∧r≤k)∧wkR k=wkB e r)
 |0,_=>by
  have hb:=ud 1;exact .inl ⟨by show (0:Int)<_;omega,rfl⟩
 |k+1,hk=>by
  have hb:=ud 1;rcases wt k (by omega) with ⟨h1,h2⟩ | ⟨h1,e,r,he,hr,h2⟩
  ·have ht:wkR (k+1)=(iw (wkA k)).s:=by rw [←h2];rfl
   have hm:min ((k:Int)+1) eF=((k+1:Nat):Int):=by unfold eF;omega
   have h3:iw (wkA k)=if 10+bl 1 10≤((k+1:Nat):Int) then iR (wkA ((k+1:Nat):Int)) else ⟨wkA ((k+1:Nat):Int),[]⟩:=by
    unfold iw;simp only;rw [if_neg (show ¬ (wkA k).role=2 by show ¬ (0:Int)=2;decide),show min ((wkA (k:Int)).elapsed+1) eF=((k+1:Nat):Int) from hm];rfl
   rw [ht,h3];by_cases h4:10+bl 1 10≤((k+1:Nat):Int)
   ·rw [if_pos h4,wq];exact .inr ⟨h4,0,0,⟨by omega,by omega⟩,⟨by omega,by omega⟩,rfl⟩
   ·rw [if_neg h4];exact .inl ⟨by omega,rfl⟩
  ·have ht:wkR (k+1)=(iw (wkB e r)).s:=by rw [←h2];rfl
   have hm:min (e+1) eF=e+1:=by unfold eF;omega
   have hm2:min (r+1) eF=r+1:=by unfold eF;omega
   have h3:(iw (wkB e r)).s=if 2≤e+1 then wkB 0 (r+1) else wkB (e+1) r:=by
    unfold iw;simp only;rw [if_pos (show (wkB e r).role=2 from rfl),show min ((wkB e r).elapsed+1) eF=e+1 from hm,show min ((wkB e r).round+1) eF=r+1 from hm2];split
    ·rw [kA];rfl
    ·rfl
   rw [ht,h3];refine .inr ⟨by omega,?_⟩;split
   ·exact ⟨0,r+1,⟨by omega,by omega⟩,⟨by omega,by omega⟩,rfl⟩
   ·exact ⟨e+1,r,⟨by omega,by omega⟩,⟨by omega,by omega⟩,rfl⟩
theorem zQ {k:Nat} (hk:k≤20):gZ (wkR k)=true:=by
 rcases wt k hk with ⟨_,h2⟩ | ⟨_,e,r,he,hr,h2⟩
 ·rw [h2];exact yy (by omega)
 ·rw [h2];exact yx he (by omega)
theorem zT:(wkR 20).role=2∧(wkR 20).term=1∧(wkR 20).commit=1:=by
 have hb:=ud 1;rcases wt 20 (Nat.le_refl _) with ⟨h1,_⟩ | ⟨_,e,r,_,_,h2⟩
 ·omega
 ·rw [h2];exact ⟨rfl,rfl,rfl⟩
theorem RfF.sizes {s:Rf} (h:RfF s):(s.votes.length≤1000000∧s.next.length≤1000000∧s.mtch.length≤1000000∧s.sent.length≤1000000∧s.reads.length≤1000000∧∀ q∈s.reads,q.acks.length≤1000000)∧s.es.length≤1000000:=by
 have h1:=h.vl;have h2:=h.n
 have h3:fN s≤7:=by
  by_cases hr:s.role=2
  ·rw [gx hr];omega
  ·rw [nH hr];omega
 have h4:=h.nx.1;have h5:=h.ma.1;have h6:=h.se.1;have h7:=h.rl;have h8:=h.last;refine ⟨⟨by omega,by omega,by omega,by omega,by omega,fun q hq=>?_⟩,by omega⟩;have h9:=(ey.1 (h.rd q hq)).2.2.2;have h10:=kq h9;have h11:=kT q.acks 0 s.nodes h10.2 fun x hx=>⟨by have:=(h10.1 x hx).1;omega,(h10.1 x hx).2⟩
 omega
theorem AV {w:World} {id n seed:Int}:eM w (rW id n seed) a0:=bh.rd (bh.same (s':=rW id n seed) (bh.zero (w:=w) (tag:=fun _=>8)) rfl rfl rfl rfl rfl rfl)
theorem Ak (w:World):Rt prog 21 [.int .i64 1,.int .i64 1,.int .u64 1] w fun v w'=>v=.tuple #[.agg (rfV (rW 1 1 1) a0).toArray,.int .i64 0]∧ah w w':=
 (y3 1 1 1 w).mono fun v w' h=>⟨h.1.elim (fun e=>e.2) (fun e=>absurd (by unfold nA;omega) e.1),h.2⟩
theorem kp (e:Int) (w:World) :
 Rt prog 22 [.int .i64 e] w (fun v w'=>v=.int .i64 e∧w=w'):=by
 refine enter (n:=4) Tryz.func22 rfl rfl rfl (ak (af (asi rfl (aj (ag (ak (af (mvi rfl (asi rfl (aj (ag (aB (bn (v:=.int _ _) rfl rfl (⟨rfl,rfl⟩))))))))))))))
theorem rm (w:World) :
 Rt prog 18 [] w (fun v w'=>v=.bool true∧ah w w'):=by
 refine enter (n:=37) Tryz.func18 rfl rfl rfl (ak (af (asb rfl (aj (ag (ak (af (ay sA (Ak _) ?_))))))));rintro v5 w1 ⟨rfl,E5⟩;refine mvt rfl (aa (aZ rfl rfl) (aa (aZ rfl rfl) ?_));have hz1:=((ah.rfl_.next E5)).size;refine bP cZ ?_;intro b1 w2 E1 hb1 hk1;have hg1:w.heap.size≤b1:=by omega
 refine cg (vs:=[_,_,_,_,_,_,_,_,_,_,_,_,_,_,_,_,_,_,_,_,_,_]) aF rfl rfl (by simp [Value.oneCell']) (hk1) rfl ?_;intro w3 O1 P1;refine asi rfl (aj (ag (ak (ak (af (mvi rfl (ay h_ (kp _ _) ?_)))))));rintro v9 w4 ⟨rfl,rfl⟩;refine aa (ch (dk rfl rfl) rfl) (aj (ag (bd rfl (aM (ag (ak (ak (af (asi rfl (aj (ag (aU (cM (G:=Nat×Ra) [0,11,12,13,14,15,16,17,18,19,20,21,22,23] (fun (k,_)=>[(2,.int .i64 0),(3,.int .i64 (k:Nat))]) (fun (k,a) w'=>k≤20∧Blk w' b1 29 (rfV (wkR k) a).toArray∧eM w' (wkR k) a∧ah w w') (fun (k,_)=>20-k) ((0,a0)) ⟨rfl,rfl,trivial⟩ ?_ ?_)))))))))))))
 ·exact ⟨Nat.zero_le _,P1.from_ ah.rfl_,AV,(((ah.rfl_.next E5).next E1).only O1 (hg1))⟩
 rintro ⟨k,a⟩ ρ5 w5 ⟨hk,hkb,hrd,hB⟩;refine ak (ak (af (mvi rfl (aa (bM rfl rfl) (aj (ag (Bk rfl (fun Q6=>?_) (fun Q6=>?_))))))))
 ·have hmk:=zQ (k:=k) (by omega);have hszs:=(mM hmk).sizes;refine aM (ag (ak (aU (ak (af (aa (aG (cs:=rfV (wkR k) a) aP aF rfl ((hkb.from_ ah.rfl_).whole)) ?_))))));have hM17:ah _ w5:=ah.rfl_;have hlt1:b1<(w5).heap.size:=(hkb.from_ ah.rfl_).lt;refine ay sy (wD (wkR k) a _ (hrd.from_ ah.rfl_) hszs.1 hszs.2 hmk) ?_;rintro v17 w7 ⟨⟨tag9,a9,O9,oc9,L9,rfl,hf9,hm9,ht9⟩,E17⟩;refine mvt rfl (aa (aZ rfl rfl) (aa (aZ rfl rfl) (aa (aZ rfl rfl) (cg (vs:=[_,_,_,_,_,_,_,_,_,_,_,_,_,_,_,_,_,_,_,_,_,_]) aF rfl rfl (by simp [Value.oneCell']) (((hkb.from_ hM17).from_ E17)) rfl ?_))));intro w8 O7 P7;have hrd9:eM w8 (wkR (k+1)) a9:=bh.rd (cD.chg8 hf9 (O7.toChg rfl) (ht9 b1 hlt1));refine asi rfl (aj (ag (ak (af (mvi rfl (ay h_ (kp _ _) ?_))))));rintro v22 w9 ⟨rfl,rfl⟩;refine aa (ch (dk rfl rfl) rfl) (aj (ag (bd rfl (aM (bo (ag (af (mvi rfl (aa (b0 rfl rfl (by omega)) (asi rfl (aj ?_)))))))))));refine cp ((k+1,a9)) ⟨(by first | rfl | (refine br ?_;omega)),(by first | rfl | (refine br ?_;omega)),trivial⟩ (by (iterate 31 refine bA rfl ?_);exact bN) ⟨?_,?_⟩
  ·exact ⟨by omega,P7.from_ ah.rfl_,hrd9.from_ ah.rfl_,((hB.next E17).only O7 (hg1))⟩
  ·show 20-(k+1)<20-k;omega
 have h20:k=20:=by omega
 have hwe:=zT;rw [←h20] at hwe;refine b_ (bf (bf (bL (ag (ak (af (aa (ab cG rfl) (aa (ar ao rfl (by exact (show _=some (Value.int .i64 (wkR k).role) from (hkb.from_ ah.rfl_).rd 2 rfl))) ?_))))))));refine aa (c6 (bg rfl rfl) (by rw [hwe.1];rfl)) ?_;refine mvb rfl (ae rfl (aa (ab bm rfl) (ae rfl (aa (ar ao rfl (by exact (show _=some (Value.int .i64 (wkR k).term) from (hkb.from_ ah.rfl_).rd 3 rfl))) ?_))));refine ae rfl (aa (c6 (bg rfl rfl) (by rw [hwe.2.1];rfl)) ?_);refine aa (aL (v:=.bool _) rfl rfl) (mvb rfl (ae rfl (aa (ab dh rfl) (ae rfl (aa (ar ao rfl (by exact (show _=some (Value.int .i64 (wkR k).commit) from (hkb.from_ ah.rfl_).rd 10 rfl))) ?_)))));refine ae rfl (aa (c6 (bg rfl rfl) (by rw [hwe.2.2];rfl)) ?_);refine aa (aL (v:=.bool _) rfl rfl) (asb rfl (aj (ag (aB (bn (v:=.bool _) rfl rfl (⟨rfl,hB⟩))))))
theorem Small.l6 {s:Rf} {X:List Ac} (h:Small s X):(s.votes.length≤1000000∧s.next.length≤1000000∧s.mtch.length≤1000000∧s.sent.length≤1000000∧s.reads.length≤1000000∧∀ q∈s.reads,q.acks.length≤1000000)∧s.es.length≤1000000:=by
 obtain ⟨⟨h1,h2,h3,h4,h5,h6⟩,h7,_⟩:=h;exact ⟨⟨by omega,by omega,by omega,by omega,by omega,fun q hq=>by have:=h6 q hq;omega⟩,by omega⟩
theorem yv:zR.votes.length≤1000000∧zR.next.length≤1000000∧zR.mtch.length≤1000000∧zR.sent.length≤1000000∧zR.reads.length≤1000000∧∀ q∈zR.reads,q.acks.length≤1000000:=⟨Nat.zero_le _,Nat.zero_le _,Nat.zero_le _,Nat.zero_le _,Nat.zero_le _,fun q hq=>by cases hq⟩
theorem kM:zR.es.length≤1000000∧zR.votes.length≤1000000∧zR.next.length≤1000000∧zR.mtch.length≤1000000∧zR.sent.length≤1000000∧zR.reads.length≤1000000∧∀ q∈zR.reads,q.acks.length≤1000000:=⟨Nat.zero_le _,yv⟩
theorem u1 (w:World):Rt prog 50 [.slice none 0 0,.slice none 0 0] w fun v w'=>v=.bool true∧ah w w':=
 sa none none 0 0 0 [] [] w (fun h=>absurd h (Nat.lt_irrefl _)) (fun h=>absurd h (Nat.lt_irrefl _)) rfl rfl rfl (fun x hx=>by cases hx) (fun x hx=>by cases hx) (fun x hx=>by cases hx) (Nat.zero_le _)
theorem nU (tag:Nat→Nat) (w:World):Rt prog 52 [.slice none 0 0] w fun v w'=>v=.tuple #[]∧Chg (fun q=>tag q=6∨∃ i,tag q=1000+2*i) w w':=
 lN tag [] none 0 [] w ⟨World.ownsRow_nil _ _ _ _,rfl,fun j hj=>absurd hj (Nat.not_lt_zero _),Col.none⟩ (Nat.zero_le _) (fun x hx=>by cases hx)
theorem gR:aO prog 47=true:=by kernel_rfl
theorem jm:cK prog 41 2=some 14:=by kernel_rfl
theorem iI:aO prog 30=true:=by kernel_rfl
theorem jJ:aO prog 31=true:=by kernel_rfl
theorem pz (i:Int) (n:Nat) (h:0<n):wiN i n<n:=Nat.mod_lt _ h
theorem r5:∀ (xs:List Ent) (p t:Int),0≤t→eC xs p t=true→0≤de t xs
 |[],_,_,h,_=>h
 |e::r,p,t,h,hr=>by
  have h':(fO e p t&&eC r (p+1) e.t)=true:=hr;rw [Bool.and_eq_true] at h';have h1:=h'.1;unfold fO at h1;simp only [Bool.and_eq_true] at h1;have h2:=dm h1.1.2;rw [nh];exact r5 r (p+1) e.t (by omega) h'.2
theorem r6 {s:Rf} (h:RfF s):0≤de s.t s.es:=by
 have hm:=h.lg;unfold cJ at hm;simp only [Bool.and_eq_true] at hm;have h2:=dm hm.1.1.2;exact r5 s.es s.b s.t (by omega) hm.2
def j7 (s:Rf) (m:Msg):Msg:={ m with t:=s.id,f:=if m.f=s.id then s.id%s.nodes+1 else m.f,tm:=max 0 (min (s.term+(wiN m.tm 3:Nat)-1) 1099511627775) }
def BR (s:Rf) (m:Msg):Msg:={ j7 s m with ix:=max 0 (a_ s+(wiN m.ix 3:Nat)-1),lt:=max 0 (de s.t s.es+(wiN m.lt 3:Nat)-1) }
structure Mo (z:Nat) (w:World) (m:Msg):Prop where
 o:w.ownsRow z 99 3 (.slice m.E m.es.length m.c) m.es.length (dF m.es)
theorem Mo.from_ {z:Nat} {w w':World} {m:Msg} (h:Mo z w m) (hF:ah w w'):Mo z w' m:=⟨h.o.kept_from hF⟩
theorem Mo.em {z:Nat} {w:World} {m:Msg} (h:Mo z w m):Em w m:=cz.of_own h.o rfl
theorem Mo.chg {z:Nat} {w w':World} {m:Msg} {U:Nat→Prop} (h:Mo z w m) (hC:Chg U w w') (hU:∀ k,U k→k<z∨w.heap.size≤k):Mo z w' m:=
 ⟨ew h.o hC fun k hk e=>by have:=d_ h.o k hk;rcases hU k e with e | e <;> omega⟩
theorem Mo.off {z g:Nat} {w w':World} {m:Msg} {cs:Array Value} {T:TypeId} (h:Mo z w m) (hb:Blk w g T cs) (hT:T≠99) (hO:ep g w w'):Mo z w' m:=⟨gi h.o hO (kU h.o hb hT)⟩
def at9 (m:Msg) (E:Option Addr) (c:Nat):Msg:={ m with E:=E,c:=c }
theorem u0 (s:Rf) (a:Ra) (x:Ac) (w:World) (_:eM w s a) (_:s.votes.length≤1000000∧s.next.length≤1000000∧s.mtch.length≤1000000∧s.sent.length≤1000000∧s.reads.length≤1000000∧∀ q∈s.reads,q.acks.length≤1000000) (he:Em w x.m) (hlm:x.m.es.length≤1000000) (hf:x.fit=false) :
 Rt prog 44 [.agg (rfV s a).toArray,.agg (acV x).toArray] w (fun v w'=>(∃ E c,v=.agg (bD (at9 x.m E c)).toArray∧Mo w.heap.size w' (at9 x.m E c))∧ah w w'):=by
 refine enter (n:=206) Tryz.func44 rfl rfl rfl (ak (af (bK (v:=.agg _) rfl ?_)));intro b2 w1 E2 hb2 hk2;refine bK (v:=.agg _) rfl ?_;intro b3 w2 E3 hb3 hk3;replace hk2:=hk2.from_ E3;refine bP du ?_;intro b4 w3 E4 hb4 hk4;have hg4:w.heap.size≤b4:=by rw [hb4];exact (((ah.rfl_.next E2).next E3)).size
 replace hk2:=hk2.from_ E4;replace hk3:=hk3.from_ E4;refine aj (ag (ak (af (aa (ab eW rfl) (aa (aG (cs:=bD x.m) bk aY rfl (k7 ((hk3.from_ ah.rfl_).whole))) ?_)))));have hM13:ah _ w3:=ah.rfl_;replace hk2:=hk2.from_ hM13;replace hk3:=hk3.from_ hM13;replace hk4:=hk4.from_ hM13;have hz13:=((((ah.rfl_.next E2).next E3).next E4)).size;have hlt2:=hk2.lt;have hlt3:=hk3.lt;have hlt4a:=hk4.lt;refine ay gR (iS x.m _ (he.from_ (((ah.rfl_.next E2).next E3).next E4)) (by omega)) ?_;rintro v13 w4 ⟨⟨A13,c13,rfl,ho13⟩,E13⟩;have ho13m:Mo _ w4 (at9 x.m A13 c13):=⟨ho13⟩;have hz13b:=E13.size;replace hk2:=hk2.from_ E13;replace hk3:=hk3.from_ E13;replace hk4:=hk4.from_ E13;have hM5:ah _ w4:=ah.rfl_;have hz5:=hM5.size;have hlt4b:=(hk4.from_ hM5).lt;refine bP du ?_;intro b5 w5 E5 hb5 hk5;have hg5:w.heap.size≤b5:=by rw [hb5];exact (((((ah.rfl_.next E2).next E3).next E4).next E13)).size
 have hlt4:=hk4.lt;replace hk2:=hk2.from_ (hM5.next E5);replace hk3:=hk3.from_ (hM5.next E5);replace hk4:=hk4.from_ (hM5.next E5);replace ho13m:=ho13m.from_ (hM5.next E5);have h45:b4<b5:=by omega
 have h25:b2<b5:=by omega
 have h35:b3<b5:=by omega
 refine cg (vs:=[_,_,_,_,_,_,_,_,_,_,_,_,_]) aY rfl rfl (by simp [Value.oneCell']) (hk5) rfl ?_;intro w6 O1 P1;replace hk2:=hk2.only O1 (by omega);replace hk3:=hk3.only O1 (by omega);replace hk4:=hk4.only O1 (by omega);replace ho13m:=ho13m.off hk5 (by decide) O1;have hm5:Blk w6 b5 39 (bD (at9 x.m A13 c13)).toArray:=P1;refine aj (ag (ak (ak (af (aa (ab jm rfl) (aa (ar eb rfl (by exact (show _=some (Value.bool x.fit) from (hk3.from_ ah.rfl_).rd 14 rfl))) ?_))))));refine aa (c6 (cd rfl) (by rw [hf];rfl)) ?_;refine mvb rfl (an rfl rfl (an rfl rfl (an rfl rfl (aa (aL (v:=.bool _) rfl rfl) (aj (ag (aS rfl (ak (af (aa (aG (cs:=bD (at9 x.m A13 c13)) bk aY rfl ((hm5.from_ ah.rfl_).whole)) ?_))))))))));have hMe:ah _ w6:=ah.rfl_;have hke:=hk4.from_ hMe;refine cg (vs:=[_,_,_,_,_,_,_,_,_,_,_,_,_]) aY rfl rfl (by simp [Value.oneCell']) (hke) rfl ?_;intro w7 O3 P3;have hoe:=(ho13m.from_ hMe).off hke (by decide) O3;refine aj (ag (aB (aD (lR rfl (dM (cs:=[_,_,_,_,_,_,_,_,_,_,_,_,_]) bk aY rfl (by exact P3.whole)) ?_))));exact ⟨⟨A13,c13,rfl,⟨ei hoe.o hz13⟩⟩,(((((((ah.rfl_.next E2).next E3).next E4).next E13).next E5).only O1 (hg5)).only O3 (hg4))⟩
theorem zg (s:Rf) (a:Ra) (x:Ac) (w:World) (hrd:eM w s a) (hl:s.votes.length≤1000000∧s.next.length≤1000000∧s.mtch.length≤1000000∧s.sent.length≤1000000∧s.reads.length≤1000000∧∀ q∈s.reads,q.acks.length≤1000000) (he:Em w x.m) (hlm:x.m.es.length≤1000000) (hf:x.fit=true) (hm:gZ s=false) :
 Rt prog 44 [.agg (rfV s a).toArray,.agg (acV x).toArray] w (fun v w'=>(∃ E c,v=.agg (bD (at9 x.m E c)).toArray∧Mo w.heap.size w' (at9 x.m E c))∧ah w w'):=by
 refine enter (n:=206) Tryz.func44 rfl rfl rfl (ak (af (bK (v:=.agg _) rfl ?_)));intro b2 w1 E2 hb2 hk2;refine bK (v:=.agg _) rfl ?_;intro b3 w2 E3 hb3 hk3;replace hk2:=hk2.from_ E3;refine bP du ?_;intro b4 w3 E4 hb4 hk4;have hg4:w.heap.size≤b4:=by rw [hb4];exact (((ah.rfl_.next E2).next E3)).size
 replace hk2:=hk2.from_ E4;replace hk3:=hk3.from_ E4;refine aj (ag (ak (af (aa (ab eW rfl) (aa (aG (cs:=bD x.m) bk aY rfl (k7 ((hk3.from_ ah.rfl_).whole))) ?_)))));have hM13:ah _ w3:=ah.rfl_;replace hk2:=hk2.from_ hM13;replace hk3:=hk3.from_ hM13;replace hk4:=hk4.from_ hM13;have hz13:=((((ah.rfl_.next E2).next E3).next E4)).size;have hlt2:=hk2.lt;have hlt3:=hk3.lt;have hlt4a:=hk4.lt;refine ay gR (iS x.m _ (he.from_ (((ah.rfl_.next E2).next E3).next E4)) (by omega)) ?_;rintro v13 w4 ⟨⟨A13,c13,rfl,ho13⟩,E13⟩;have ho13m:Mo _ w4 (at9 x.m A13 c13):=⟨ho13⟩;have hz13b:=E13.size;replace hk2:=hk2.from_ E13;replace hk3:=hk3.from_ E13;replace hk4:=hk4.from_ E13;have hM5:ah _ w4:=ah.rfl_;have hz5:=hM5.size;have hlt4b:=(hk4.from_ hM5).lt;refine bP du ?_;intro b5 w5 E5 hb5 hk5;have hg5:w.heap.size≤b5:=by rw [hb5];exact (((((ah.rfl_.next E2).next E3).next E4).next E13)).size
 have hlt4:=hk4.lt;replace hk2:=hk2.from_ (hM5.next E5);replace hk3:=hk3.from_ (hM5.next E5);replace hk4:=hk4.from_ (hM5.next E5);replace ho13m:=ho13m.from_ (hM5.next E5);have h45:b4<b5:=by omega
 have h25:b2<b5:=by omega
 have h35:b3<b5:=by omega
 refine cg (vs:=[_,_,_,_,_,_,_,_,_,_,_,_,_]) aY rfl rfl (by simp [Value.oneCell']) (hk5) rfl ?_;intro w6 O1 P1;replace hk2:=hk2.only O1 (by omega);replace hk3:=hk3.only O1 (by omega);replace hk4:=hk4.only O1 (by omega);replace ho13m:=ho13m.off hk5 (by decide) O1;have hm5:Blk w6 b5 39 (bD (at9 x.m A13 c13)).toArray:=P1;refine aj (ag (ak (ak (af (aa (ab jm rfl) (aa (ar eb rfl (by exact (show _=some (Value.bool x.fit) from (hk3.from_ ah.rfl_).rd 14 rfl))) ?_))))));refine aa (ch (cd rfl) (by rw [hf];rfl)) ?_;refine mvb rfl (ae rfl (aa (aG (cs:=rfV s a) aP aF rfl ((hk2.from_ ah.rfl_).whole)) (ae rfl (ay iI (mD s a _ (hrd.from_ ((((((ah.rfl_.next E2).next E3).next E4).next E13).next E5).only O1 (hg5))) hl hm) ?_))));rintro v19 w7 ⟨rfl,E19⟩;refine ae rfl (aa (c6 (cd rfl) rfl) (aa (aw (v:=.bool _) rfl rfl) (aj (ag (aS rfl (ak (af (aa (aG (cs:=bD (at9 x.m A13 c13)) bk aY rfl ((hm5.from_ (ah.rfl_.next E19)).whole)) ?_))))))));have hMe:ah _ w7:=(ah.rfl_.next E19);have hke:=hk4.from_ hMe;refine cg (vs:=[_,_,_,_,_,_,_,_,_,_,_,_,_]) aY rfl rfl (by simp [Value.oneCell']) (hke) rfl ?_;intro w8 O3 P3;have hoe:=(ho13m.from_ hMe).off hke (by decide) O3;refine aj (ag (aB (aD (lR rfl (dM (cs:=[_,_,_,_,_,_,_,_,_,_,_,_,_]) bk aY rfl (by exact P3.whole)) ?_))));exact ⟨⟨A13,c13,rfl,⟨ei hoe.o hz13⟩⟩,((((((((ah.rfl_.next E2).next E3).next E4).next E13).next E5).only O1 (hg5)).next E19).only O3 (hg4))⟩
theorem ze (s:Rf) (a:Ra) (x:Ac) (w:World) (hrd:eM w s a) (hl:s.votes.length≤1000000∧s.next.length≤1000000∧s.mtch.length≤1000000∧s.sent.length≤1000000∧s.reads.length≤1000000∧∀ q∈s.reads,q.acks.length≤1000000) (he:Em w x.m) (hlm:x.m.es.length≤1000000) (hf:x.fit=true) (hm:gZ s=true) (hk:x.m.k=2) (hff:x.m.f=s.id) :
 Rt prog 44 [.agg (rfV s a).toArray,.agg (acV x).toArray] w (fun v w'=>(∃ E c,v=.agg (bD (at9 (j7 s x.m) E c)).toArray∧Mo w.heap.size w' (at9 (j7 s x.m) E c))∧ah w w'):=by
 have hF:=mM hm;have hnn:=hF.n;have hid:=hF.i;have hte:=hF.te;have hla:=hF.last;have hltb:=hF.lt;have hw1:=pz x.m.tm 3 (by decide);have hw2:=pz x.m.ix 3 (by decide);have hw3:=pz x.m.lt 3 (by decide);have hmod:0≤s.id%s.nodes∧s.id%s.nodes<s.nodes:=⟨Int.emod_nonneg _ (by omega),Int.emod_lt_of_pos _ (by omega)⟩
 have hlt0:-1≤de s.t s.es:=by
  have:=r6 hF;omega
 refine enter (n:=206) Tryz.func44 rfl rfl rfl (ak (af (bK (v:=.agg _) rfl ?_)));intro b2 w1 E2 hb2 hk2;refine bK (v:=.agg _) rfl ?_;intro b3 w2 E3 hb3 hk3;replace hk2:=hk2.from_ E3;refine bP du ?_;intro b4 w3 E4 hb4 hk4;have hg4:w.heap.size≤b4:=by rw [hb4];exact (((ah.rfl_.next E2).next E3)).size
 replace hk2:=hk2.from_ E4;replace hk3:=hk3.from_ E4;refine aj (ag (ak (af (aa (ab eW rfl) (aa (aG (cs:=bD x.m) bk aY rfl (k7 ((hk3.from_ ah.rfl_).whole))) ?_)))));have hM13:ah _ w3:=ah.rfl_;replace hk2:=hk2.from_ hM13;replace hk3:=hk3.from_ hM13;replace hk4:=hk4.from_ hM13;have hz13:=((((ah.rfl_.next E2).next E3).next E4)).size;have hlt2:=hk2.lt;have hlt3:=hk3.lt;have hlt4a:=hk4.lt;refine ay gR (iS x.m _ (he.from_ (((ah.rfl_.next E2).next E3).next E4)) (by omega)) ?_;rintro v13 w4 ⟨⟨A13,c13,rfl,ho13⟩,E13⟩;have ho13m:Mo _ w4 (at9 x.m A13 c13):=⟨ho13⟩;have hz13b:=E13.size;replace hk2:=hk2.from_ E13;replace hk3:=hk3.from_ E13;replace hk4:=hk4.from_ E13;have hM5:ah _ w4:=ah.rfl_;have hz5:=hM5.size;have hlt4b:=(hk4.from_ hM5).lt;refine bP du ?_;intro b5 w5 E5 hb5 hk5;have hg5:w.heap.size≤b5:=by rw [hb5];exact (((((ah.rfl_.next E2).next E3).next E4).next E13)).size
 have hlt4:=hk4.lt;replace hk2:=hk2.from_ (hM5.next E5);replace hk3:=hk3.from_ (hM5.next E5);replace hk4:=hk4.from_ (hM5.next E5);replace ho13m:=ho13m.from_ (hM5.next E5);have h45:b4<b5:=by omega
 have h25:b2<b5:=by omega
 have h35:b3<b5:=by omega
 refine cg (vs:=[_,_,_,_,_,_,_,_,_,_,_,_,_]) aY rfl rfl (by simp [Value.oneCell']) (hk5) rfl ?_;intro w6 O1 P1;replace hk2:=hk2.only O1 (by omega);replace hk3:=hk3.only O1 (by omega);replace hk4:=hk4.only O1 (by omega);replace ho13m:=ho13m.off hk5 (by decide) O1;have hm5:Blk w6 b5 39 (bD (at9 x.m A13 c13)).toArray:=P1;refine aj (ag (ak (ak (af (aa (ab jm rfl) (aa (ar eb rfl (by exact (show _=some (Value.bool x.fit) from (hk3.from_ ah.rfl_).rd 14 rfl))) ?_))))));refine aa (ch (cd rfl) (by rw [hf];rfl)) ?_;refine mvb rfl (ae rfl (aa (aG (cs:=rfV s a) aP aF rfl ((hk2.from_ ah.rfl_).whole)) (ae rfl (ay iI (mD s a _ (hrd.from_ ((((((ah.rfl_.next E2).next E3).next E4).next E13).next E5).only O1 (hg5))) hl hm) ?_))));rintro v19 w7 ⟨rfl,E19⟩;refine ae rfl (aa (ch (cd rfl) rfl) (aa (aw (v:=.bool _) rfl rfl) (aj (ag (bd rfl (aM (ag (ak (af (aa (ab bZ rfl) (aa (ar ao rfl (by exact (show _=some (Value.int .i64 s.id) from (hk2.from_ (ah.rfl_.next E19)).rd 0 rfl))) ?_)))))))))));refine aa (ab en rfl) ?_;have hMp:ah _ w7:=(ah.rfl_.next E19);have hm59:=hm5.from_ hMp;replace hk2:=hk2.from_ hMp;replace hk3:=hk3.from_ hMp;replace hk4:=hk4.from_ hMp;replace ho13m:=ho13m.from_ hMp;refine fR (v:=.int _ _) bF rfl rfl rfl (hm59) (by show 2<13;decide) ?_;intro w8 O4 P4;replace hk2:=hk2.only O4 (by omega);replace hk3:=hk3.only O4 (by omega);replace hk4:=hk4.only O4 (by omega);replace ho13m:=ho13m.off hm59 (by decide) O4;have hm4:Blk w8 b5 39 (bD (at9 { x.m with t:=s.id } A13 c13)).toArray:=P4;refine aj (ag (ak (ak (af (aa (ab cH rfl) (aa (ar ao rfl (by exact (show _=some (Value.int .i64 x.m.f) from (hm4.from_ ah.rfl_).rd 1 rfl))) ?_))))));refine aa (ab bZ rfl) (aa (ar ao rfl (by exact (show _=some (Value.int .i64 s.id) from (hk2.from_ ah.rfl_).rd 0 rfl))) ?_);refine aa (c6 (bg rfl rfl) (beq_iff_eq.2 hff)) (aj (ag (aS rfl (af (aa (ab bZ rfl) (aa (ar ao rfl (by exact (show _=some (Value.int .i64 s.id) from (hk2.from_ ah.rfl_).rd 0 rfl))) ?_))))));refine aa (ab bJ rfl) (aa (ar ao rfl (by exact (show _=some (Value.int .i64 s.nodes) from (hk2.from_ ah.rfl_).rd 1 rfl))) ?_);refine aa (wV rfl rfl (by omega)) (aa (b0 rfl rfl (by omega)) (aa (ab cH rfl) ?_));have hMp:ah _ w8:=ah.rfl_;have hm49:=hm4.from_ hMp;replace hk2:=hk2.from_ hMp;replace hk3:=hk3.from_ hMp;replace hk4:=hk4.from_ hMp;replace ho13m:=ho13m.from_ hMp;refine fR (v:=.int _ _) bF rfl rfl rfl (hm49) (by show 1<13;decide) ?_;intro w9 O6 P6;replace hk2:=hk2.only O6 (by omega);replace hk3:=hk3.only O6 (by omega);replace hk4:=hk4.only O6 (by omega);replace ho13m:=ho13m.off hm49 (by decide) O6;have hm6:Blk w9 b5 39 (bD (at9 { x.m with t:=s.id,f:=s.id%s.nodes+1 } A13 c13)).toArray:=P6;refine aj (ag (ak (af (aa (ab bq rfl) (aa (aG (cs:=[.int .i64 s.b,.int .i64 s.t,.slice a.E s.es.length a.Ec]) dd cT rfl (js (show Blk _ b2 29 (rfV s a++[]).toArray from hk2.from_ ah.rfl_))) (ay jZ (lU s a.E s.es.length a.Ec _ (hrd.e.from_ (((((((((ah.rfl_.next E2).next E3).next E4).next E13).next E5).only O1 (hg5)).next E19).only O4 (hg5)).only O6 (hg5))) hF.lg) ?_))))));rintro v41 w10 ⟨rfl,E41⟩;refine mvt rfl (aa (aZ rfl rfl) (aa (aZ rfl rfl) (asi rfl (asi rfl (aj (ag (ak ?_)))))));apply bQ 10 [(44,eqp _),(45,eqp (.int .i64 s.term)),(46,eqp _),(47,eqp (.int .i64 x.m.tm)),(48,eqp _),(49,eqp _),(50,eqp _),(51,eqp _),(52,eqp _),(53,eqp _)] (by repeat first | exact cB | refine cA ?_ | refine bW ?_) (by kernel_rfl) (by kernel_rfl) ⟨aq _,aq _,aq _,aq _,aq _,aq _,aq _,aq _,aq _,aq _,trivial⟩
 case hop=>
  constructor
  ·rintro-w12 D12;exact au (ab bm rfl) rfl
  constructor
  ·rintro-w13 D13;rintro _ rfl;exact au (ar ao rfl (by exact (show _=some (Value.int .i64 s.term) from (hk2.from_ ((ah.rfl_.next E41).next D13)).rd 3 rfl))) rfl
  constructor
  ·rintro-w14 D14;exact au (ab bt rfl) rfl
  constructor
  ·rintro-w15 D15;rintro _ rfl;exact au (ar ao rfl (by exact (show _=some (Value.int .i64 x.m.tm) from (hm6.from_ ((ah.rfl_.next E41).next D15)).rd 3 rfl))) rfl
  constructor
  ·rintro-w16 D16;rintro v16_47 rfl;refine fJ jJ ((nM x.m.tm 3 _ (by decide)).mono ?_);rintro v _ ⟨rfl,rfl⟩;exact ⟨ah.rfl_,rfl⟩
  constructor
  ·rintro-w17 D17;rintro v17_45 rfl _ rfl;exact au (b0 rfl rfl (by omega)) rfl
  constructor
  ·rintro-w18 D18;rintro _ rfl;exact au (ef rfl rfl (by omega)) rfl
  constructor
  ·rintro-w19 D19;rintro _ rfl;exact au (km rfl rfl) rfl
  constructor
  ·rintro-w20 D20;rintro _ rfl;exact au (ts rfl rfl) rfl
  constructor
  ·rintro-w21 D21;exact au (ab bt rfl) rfl
  exact trivial
 case hend=>
  intro w22 D22;rintro _ rfl v45 rfl _ rfl v47 rfl _ rfl _ rfl _ rfl _ rfl _ rfl _ rfl;show St ..;have hMp:ah _ w22:=((ah.rfl_.next E41).next D22);have hm69:=hm6.from_ hMp;replace hk2:=hk2.from_ hMp;replace hk3:=hk3.from_ hMp;replace hk4:=hk4.from_ hMp;replace ho13m:=ho13m.from_ hMp;refine fR (v:=.int _ _) bF rfl rfl rfl (hm69) (by show 3<13;decide) ?_;intro w23 O8 P8;replace hk2:=hk2.only O8 (by omega);replace hk3:=hk3.only O8 (by omega);replace hk4:=hk4.only O8 (by omega);replace ho13m:=ho13m.off hm69 (by decide) O8;have hm8:Blk w23 b5 39 (bD (at9 { x.m with t:=s.id,f:=s.id%s.nodes+1,tm:=max 0 (min (s.term+(wiN x.m.tm 3:Nat)-1) 1099511627775) } A13 c13)).toArray:=P8;refine aj (ag (ak (ak (af (aa (ab cr rfl) (aa (ar ao rfl (by exact (show _=some (Value.int .i64 x.m.k) from (hm8.from_ ah.rfl_).rd 0 rfl))) ?_))))));refine aj (ag (aU (ak (af (aa (ch (bg rfl rfl) (beq_eq_false_iff_ne.2 (by show x.m.k≠_;omega))) ?_)))));refine asb rfl (aj (ag (bd rfl (ak (af (aa (ch (bg rfl rfl) (beq_eq_false_iff_ne.2 (by show x.m.k≠_;omega))) ?_))))));refine asb rfl (aj (ag (bd rfl (ak (af (aa (ch (bg rfl rfl) (beq_eq_false_iff_ne.2 (by show x.m.k≠_;omega))) ?_))))));refine asb rfl (aj (ag (bd rfl (ak (af (aa (ch (bg rfl rfl) (beq_eq_false_iff_ne.2 (by show x.m.k≠_;omega))) ?_))))));refine asb rfl (aj (ag (bd rfl (ak (af (aa (ch (bg rfl rfl) (beq_eq_false_iff_ne.2 (by show x.m.k≠_;omega))) ?_))))));refine asb rfl (aj (ag (bd rfl (aM (bo (ag (ak (af (aa (aG (cs:=bD (at9 { x.m with t:=s.id,f:=s.id%s.nodes+1,tm:=max 0 (min (s.term+(wiN x.m.tm 3:Nat)-1) 1099511627775) } A13 c13)) bk aY rfl ((hm8.from_ ah.rfl_).whole)) ?_)))))))));have hMe:ah _ w23:=ah.rfl_;have hke:=hk4.from_ hMe;refine cg (vs:=[_,_,_,_,_,_,_,_,_,_,_,_,_]) aY rfl rfl (by simp [Value.oneCell']) (hke) rfl ?_;intro w24 O39 P39;have hoe:=(ho13m.from_ hMe).off hke (by decide) O39;refine aj (ag (aB (lR rfl (dM (cs:=[_,_,_,_,_,_,_,_,_,_,_,_,_]) bk aY rfl (by exact P39.whole)) ?_)))
  have e9:(j7 s x.m)=({ x.m with t:=s.id,f:=s.id%s.nodes+1,tm:=max 0 (min (s.term+(wiN x.m.tm 3:Nat)-1) 1099511627775) }:Msg):=by
   unfold j7;rw [if_pos hff]
  rw [e9];exact ⟨⟨A13,c13,rfl,⟨ei hoe.o hz13⟩⟩,(((((((((((((ah.rfl_.next E2).next E3).next E4).next E13).next E5).only O1 (hg5)).next E19).only O4 (hg5)).only O6 (hg5)).next E41).next D22).only O8 (hg5)).only O39 (hg4))⟩
theorem zf (s:Rf) (a:Ra) (x:Ac) (w:World) (hrd:eM w s a) (hl:s.votes.length≤1000000∧s.next.length≤1000000∧s.mtch.length≤1000000∧s.sent.length≤1000000∧s.reads.length≤1000000∧∀ q∈s.reads,q.acks.length≤1000000) (he:Em w x.m) (hlm:x.m.es.length≤1000000) (hf:x.fit=true) (hm:gZ s=true) (hk:x.m.k=2) (hff:x.m.f≠s.id) :
 Rt prog 44 [.agg (rfV s a).toArray,.agg (acV x).toArray] w (fun v w'=>(∃ E c,v=.agg (bD (at9 (j7 s x.m) E c)).toArray∧Mo w.heap.size w' (at9 (j7 s x.m) E c))∧ah w w'):=by
 have hF:=mM hm;have hnn:=hF.n;have hid:=hF.i;have hte:=hF.te;have hla:=hF.last;have hltb:=hF.lt;have hw1:=pz x.m.tm 3 (by decide);have hw2:=pz x.m.ix 3 (by decide);have hw3:=pz x.m.lt 3 (by decide);have hmod:0≤s.id%s.nodes∧s.id%s.nodes<s.nodes:=⟨Int.emod_nonneg _ (by omega),Int.emod_lt_of_pos _ (by omega)⟩
 have hlt0:-1≤de s.t s.es:=by
  have:=r6 hF;omega
 refine enter (n:=206) Tryz.func44 rfl rfl rfl (ak (af (bK (v:=.agg _) rfl ?_)));intro b2 w1 E2 hb2 hk2;refine bK (v:=.agg _) rfl ?_;intro b3 w2 E3 hb3 hk3;replace hk2:=hk2.from_ E3;refine bP du ?_;intro b4 w3 E4 hb4 hk4;have hg4:w.heap.size≤b4:=by rw [hb4];exact (((ah.rfl_.next E2).next E3)).size
 replace hk2:=hk2.from_ E4;replace hk3:=hk3.from_ E4;refine aj (ag (ak (af (aa (ab eW rfl) (aa (aG (cs:=bD x.m) bk aY rfl (k7 ((hk3.from_ ah.rfl_).whole))) ?_)))));have hM13:ah _ w3:=ah.rfl_;replace hk2:=hk2.from_ hM13;replace hk3:=hk3.from_ hM13;replace hk4:=hk4.from_ hM13;have hz13:=((((ah.rfl_.next E2).next E3).next E4)).size;have hlt2:=hk2.lt;have hlt3:=hk3.lt;have hlt4a:=hk4.lt;refine ay gR (iS x.m _ (he.from_ (((ah.rfl_.next E2).next E3).next E4)) (by omega)) ?_;rintro v13 w4 ⟨⟨A13,c13,rfl,ho13⟩,E13⟩;have ho13m:Mo _ w4 (at9 x.m A13 c13):=⟨ho13⟩;have hz13b:=E13.size;replace hk2:=hk2.from_ E13;replace hk3:=hk3.from_ E13;replace hk4:=hk4.from_ E13;have hM5:ah _ w4:=ah.rfl_;have hz5:=hM5.size;have hlt4b:=(hk4.from_ hM5).lt;refine bP du ?_;intro b5 w5 E5 hb5 hk5;have hg5:w.heap.size≤b5:=by rw [hb5];exact (((((ah.rfl_.next E2).next E3).next E4).next E13)).size
 have hlt4:=hk4.lt;replace hk2:=hk2.from_ (hM5.next E5);replace hk3:=hk3.from_ (hM5.next E5);replace hk4:=hk4.from_ (hM5.next E5);replace ho13m:=ho13m.from_ (hM5.next E5);have h45:b4<b5:=by omega
 have h25:b2<b5:=by omega
 have h35:b3<b5:=by omega
 refine cg (vs:=[_,_,_,_,_,_,_,_,_,_,_,_,_]) aY rfl rfl (by simp [Value.oneCell']) (hk5) rfl ?_;intro w6 O1 P1;replace hk2:=hk2.only O1 (by omega);replace hk3:=hk3.only O1 (by omega);replace hk4:=hk4.only O1 (by omega);replace ho13m:=ho13m.off hk5 (by decide) O1;have hm5:Blk w6 b5 39 (bD (at9 x.m A13 c13)).toArray:=P1;refine aj (ag (ak (ak (af (aa (ab jm rfl) (aa (ar eb rfl (by exact (show _=some (Value.bool x.fit) from (hk3.from_ ah.rfl_).rd 14 rfl))) ?_))))));refine aa (ch (cd rfl) (by rw [hf];rfl)) ?_;refine mvb rfl (ae rfl (aa (aG (cs:=rfV s a) aP aF rfl ((hk2.from_ ah.rfl_).whole)) (ae rfl (ay iI (mD s a _ (hrd.from_ ((((((ah.rfl_.next E2).next E3).next E4).next E13).next E5).only O1 (hg5))) hl hm) ?_))));rintro v19 w7 ⟨rfl,E19⟩;refine ae rfl (aa (ch (cd rfl) rfl) (aa (aw (v:=.bool _) rfl rfl) (aj (ag (bd rfl (aM (ag (ak (af (aa (ab bZ rfl) (aa (ar ao rfl (by exact (show _=some (Value.int .i64 s.id) from (hk2.from_ (ah.rfl_.next E19)).rd 0 rfl))) ?_)))))))))));refine aa (ab en rfl) ?_;have hMp:ah _ w7:=(ah.rfl_.next E19);have hm59:=hm5.from_ hMp;replace hk2:=hk2.from_ hMp;replace hk3:=hk3.from_ hMp;replace hk4:=hk4.from_ hMp;replace ho13m:=ho13m.from_ hMp;refine fR (v:=.int _ _) bF rfl rfl rfl (hm59) (by show 2<13;decide) ?_;intro w8 O4 P4;replace hk2:=hk2.only O4 (by omega);replace hk3:=hk3.only O4 (by omega);replace hk4:=hk4.only O4 (by omega);replace ho13m:=ho13m.off hm59 (by decide) O4;have hm4:Blk w8 b5 39 (bD (at9 { x.m with t:=s.id } A13 c13)).toArray:=P4;refine aj (ag (ak (ak (af (aa (ab cH rfl) (aa (ar ao rfl (by exact (show _=some (Value.int .i64 x.m.f) from (hm4.from_ ah.rfl_).rd 1 rfl))) ?_))))));refine aa (ab bZ rfl) (aa (ar ao rfl (by exact (show _=some (Value.int .i64 s.id) from (hk2.from_ ah.rfl_).rd 0 rfl))) ?_);refine aa (ch (bg rfl rfl) (beq_eq_false_iff_ne.2 hff)) (aj (ag (bd rfl (aM (ag (ak (af (aa (ab bq rfl) (aa (aG (cs:=[.int .i64 s.b,.int .i64 s.t,.slice a.E s.es.length a.Ec]) dd cT rfl (js (show Blk _ b2 29 (rfV s a++[]).toArray from hk2.from_ ah.rfl_))) (ay jZ (lU s a.E s.es.length a.Ec _ (hrd.e.from_ ((((((((ah.rfl_.next E2).next E3).next E4).next E13).next E5).only O1 (hg5)).next E19).only O4 (hg5))) hF.lg) ?_))))))))));rintro v41 w9 ⟨rfl,E41⟩;refine mvt rfl (aa (aZ rfl rfl) (aa (aZ rfl rfl) (asi rfl (asi rfl (aj (ag (ak ?_)))))));apply bQ 10 [(44,eqp _),(45,eqp (.int .i64 s.term)),(46,eqp _),(47,eqp (.int .i64 x.m.tm)),(48,eqp _),(49,eqp _),(50,eqp _),(51,eqp _),(52,eqp _),(53,eqp _)] (by repeat first | exact cB | refine cA ?_ | refine bW ?_) (by kernel_rfl) (by kernel_rfl) ⟨aq _,aq _,aq _,aq _,aq _,aq _,aq _,aq _,aq _,aq _,trivial⟩
 case hop=>
  constructor
  ·rintro-w11 D11;exact au (ab bm rfl) rfl
  constructor
  ·rintro-w12 D12;rintro _ rfl;exact au (ar ao rfl (by exact (show _=some (Value.int .i64 s.term) from (hk2.from_ ((ah.rfl_.next E41).next D12)).rd 3 rfl))) rfl
  constructor
  ·rintro-w13 D13;exact au (ab bt rfl) rfl
  constructor
  ·rintro-w14 D14;rintro _ rfl;exact au (ar ao rfl (by exact (show _=some (Value.int .i64 x.m.tm) from (hm4.from_ ((ah.rfl_.next E41).next D14)).rd 3 rfl))) rfl
  constructor
  ·rintro-w15 D15;rintro v15_47 rfl;refine fJ jJ ((nM x.m.tm 3 _ (by decide)).mono ?_);rintro v _ ⟨rfl,rfl⟩;exact ⟨ah.rfl_,rfl⟩
  constructor
  ·rintro-w16 D16;rintro v16_45 rfl _ rfl;exact au (b0 rfl rfl (by omega)) rfl
  constructor
  ·rintro-w17 D17;rintro _ rfl;exact au (ef rfl rfl (by omega)) rfl
  constructor
  ·rintro-w18 D18;rintro _ rfl;exact au (km rfl rfl) rfl
  constructor
  ·rintro-w19 D19;rintro _ rfl;exact au (ts rfl rfl) rfl
  constructor
  ·rintro-w20 D20;exact au (ab bt rfl) rfl
  exact trivial
 case hend=>
  intro w21 D21;rintro _ rfl v45 rfl _ rfl v47 rfl _ rfl _ rfl _ rfl _ rfl _ rfl _ rfl;show St ..;have hMp:ah _ w21:=((ah.rfl_.next E41).next D21);have hm49:=hm4.from_ hMp;replace hk2:=hk2.from_ hMp;replace hk3:=hk3.from_ hMp;replace hk4:=hk4.from_ hMp;replace ho13m:=ho13m.from_ hMp;refine fR (v:=.int _ _) bF rfl rfl rfl (hm49) (by show 3<13;decide) ?_;intro w22 O8 P8;replace hk2:=hk2.only O8 (by omega);replace hk3:=hk3.only O8 (by omega);replace hk4:=hk4.only O8 (by omega);replace ho13m:=ho13m.off hm49 (by decide) O8;have hm8:Blk w22 b5 39 (bD (at9 { x.m with t:=s.id,tm:=max 0 (min (s.term+(wiN x.m.tm 3:Nat)-1) 1099511627775) } A13 c13)).toArray:=P8;refine aj (ag (ak (ak (af (aa (ab cr rfl) (aa (ar ao rfl (by exact (show _=some (Value.int .i64 x.m.k) from (hm8.from_ ah.rfl_).rd 0 rfl))) ?_))))));refine aj (ag (aU (ak (af (aa (ch (bg rfl rfl) (beq_eq_false_iff_ne.2 (by show x.m.k≠_;omega))) ?_)))));refine asb rfl (aj (ag (bd rfl (ak (af (aa (ch (bg rfl rfl) (beq_eq_false_iff_ne.2 (by show x.m.k≠_;omega))) ?_))))));refine asb rfl (aj (ag (bd rfl (ak (af (aa (ch (bg rfl rfl) (beq_eq_false_iff_ne.2 (by show x.m.k≠_;omega))) ?_))))));refine asb rfl (aj (ag (bd rfl (ak (af (aa (ch (bg rfl rfl) (beq_eq_false_iff_ne.2 (by show x.m.k≠_;omega))) ?_))))));refine asb rfl (aj (ag (bd rfl (ak (af (aa (ch (bg rfl rfl) (beq_eq_false_iff_ne.2 (by show x.m.k≠_;omega))) ?_))))));refine asb rfl (aj (ag (bd rfl (aM (bo (ag (ak (af (aa (aG (cs:=bD (at9 { x.m with t:=s.id,tm:=max 0 (min (s.term+(wiN x.m.tm 3:Nat)-1) 1099511627775) } A13 c13)) bk aY rfl ((hm8.from_ ah.rfl_).whole)) ?_)))))))));have hMe:ah _ w22:=ah.rfl_;have hke:=hk4.from_ hMe;refine cg (vs:=[_,_,_,_,_,_,_,_,_,_,_,_,_]) aY rfl rfl (by simp [Value.oneCell']) (hke) rfl ?_;intro w23 O39 P39;have hoe:=(ho13m.from_ hMe).off hke (by decide) O39;refine aj (ag (aB (lR rfl (dM (cs:=[_,_,_,_,_,_,_,_,_,_,_,_,_]) bk aY rfl (by exact P39.whole)) ?_)))
  have e9:(j7 s x.m)=({ x.m with t:=s.id,tm:=max 0 (min (s.term+(wiN x.m.tm 3:Nat)-1) 1099511627775) }:Msg):=by
   unfold j7;rw [if_neg hff]
  rw [e9];exact ⟨⟨A13,c13,rfl,⟨ei hoe.o hz13⟩⟩,((((((((((((ah.rfl_.next E2).next E3).next E4).next E13).next E5).only O1 (hg5)).next E19).only O4 (hg5)).next E41).next D21).only O8 (hg5)).only O39 (hg4))⟩
theorem oX:aO prog 57=true:=by kernel_rfl
theorem uq:aO prog 58=true:=by kernel_rfl
theorem jW:aO prog 16=true:=by kernel_rfl
theorem ps:∀ (a0:Int) (a1:Int) (a2:Int) (a3:Int) (a4:Int) (a5:Int) (a6:Int) (a7:Int) (a8:Option Addr) (a9 a10:Nat) (a11:ByteArray) (a12:Int) (a13:Int) (a14:Int) (a15:Int) (a16:Option Addr) (a17 a18:Nat) (a19:Option Addr) (a20 a21:Nat) (a22:Option Addr) (a23 a24:Nat) (a25:Option Addr) (a26 a27:Nat) (a28:Int) (a29:Option Addr) (a30 a31:Nat) (a32:ByteArray) (a33:Int),prog.built 111 [(0,.agg #[.int .i64 a0,.int .i64 a1,.int .i64 a2,.int .i64 a3,.int .i64 a4,.int .i64 a5,.int .i64 a6,.int .i64 a7,.slice a8 a9 a10,.string a11,.int .i64 a12,.int .i64 a13,.int .i64 a14,.int .u64 a15,.slice a16 a17 a18,.slice a19 a20 a21,.slice a22 a23 a24,.slice a25 a26 a27,.int .i64 a28,.slice a29 a30 a31,.string a32,.int .i64 a33])]=some #[.int .i64 a0,.int .i64 a1,.int .i64 a2,.int .i64 a3,.int .i64 a4,.int .i64 a5,.int .i64 a6,.int .i64 a7,.slice a8 a9 a10,.string a11,.int .i64 a12,.int .i64 a13,.int .i64 a14,.int .u64 a15,.slice a16 a17 a18,.slice a19 a20 a21,.slice a22 a23 a24,.slice a25 a26 a27,.int .i64 a28,.slice a29 a30 a31,.string a32,.int .i64 a33,.slice none 0 0]:=by intros;kernel_rfl
theorem uo:aO prog 89=true:=by kernel_rfl
theorem wH (s:Rf) (a:Ra) (m:Msg) (w:World) (hrd:eM w s a) (hl:s.votes.length≤1000000∧s.next.length≤1000000∧s.mtch.length≤1000000∧s.sent.length≤1000000∧s.reads.length≤1000000∧∀ q∈s.reads,q.acks.length≤1000000) (hel:s.es.length≤1000000) (hm:gZ s=false) :
 Rt prog 24 [.agg (rfV s a).toArray,.agg (bD m).toArray] w (fun v w'=>v=.tuple #[.agg (rfV zR a0).toArray,.slice none 0 0,.int .i64 1]∧ah w w'):=by
 refine enter (n:=35) Tryz.func24 rfl rfl rfl (ak (af (bK (v:=.agg _) rfl ?_)));intro b2 w1 E2 hb2 hk2;refine bK (v:=.agg _) rfl ?_;intro b3 w2 E3 hb3 hk3;replace hk2:=hk2.from_ E3;refine bP cZ ?_;intro b4 w3 E4 hb4 hk4;have hg4:w.heap.size≤b4:=by rw [hb4];exact (((ah.rfl_.next E2).next E3)).size
 replace hk2:=hk2.from_ E4;replace hk3:=hk3.from_ E4;refine ass rfl (asi rfl (aj (ag (ak (af (aa (aG (cs:=rfV s a) aP aF rfl ((hk2.from_ ah.rfl_).whole)) (ay k8 (yk s a _ (hrd.from_ (((ah.rfl_.next E2).next E3).next E4)) hl hel hm) ?_)))))));rintro v11 w4 ⟨rfl,E11⟩;refine mvt rfl (aa (aZ rfl rfl) (aa (aZ rfl rfl) (asp rfl (asi rfl (aj (ag (ak (ak (af (mvi rfl (aa (c6 (dk rfl rfl) rfl) (mvb rfl ?_))))))))))));refine an rfl rfl (an rfl rfl (an rfl rfl (an rfl rfl (aa (aL (v:=.bool _) rfl rfl) (aj (ag (aS rfl (ak (af (aa (cV (l:=[]) (fu)) ?_))))))))));refine cg (vs:=[_,_,_,_,_,_,_,_,_,_,_,_,_,_,_,_,_,_,_,_,_,_]) aF rfl rfl (by simp [Value.oneCell']) ((hk4.from_ (ah.rfl_.next E11))) rfl ?_;intro w5 O3 P3;refine ass rfl (asi rfl (aj (ag (aB (aD (uS rfl (dM (cs:=[_,_,_,_,_,_,_,_,_,_,_,_,_,_,_,_,_,_,_,_,_,_]) aP aF rfl (by exact P3.whole)) (fY (v:=.slice _ _ _) rfl) (fY (v:=.int _ _) rfl) ?_))))));exact ⟨rfl,(((((ah.rfl_.next E2).next E3).next E4).next E11).only O3 (hg4))⟩
theorem vi (s:Rf) (a:Ra) (m:Msg) (w:World) (hrd:eM w s a) (hl:s.votes.length≤1000000∧s.next.length≤1000000∧s.mtch.length≤1000000∧s.sent.length≤1000000∧s.reads.length≤1000000∧∀ q∈s.reads,q.acks.length≤1000000) (hel:s.es.length≤1000000) (he:Em w m) (hlm:m.es.length≤1000000) (hck:rh m) (hm:gZ s=true) (hf:¬ px s m) :
 Rt prog 24 [.agg (rfV s a).toArray,.agg (bD m).toArray] w (fun v w'=>v=.tuple #[.agg (rfV zR a0).toArray,.slice none 0 0,.int .i64 1]∧ah w w'):=by
 refine enter (n:=35) Tryz.func24 rfl rfl rfl (ak (af (bK (v:=.agg _) rfl ?_)));intro b2 w1 E2 hb2 hk2;refine bK (v:=.agg _) rfl ?_;intro b3 w2 E3 hb3 hk3;replace hk2:=hk2.from_ E3;refine bP cZ ?_;intro b4 w3 E4 hb4 hk4;have hg4:w.heap.size≤b4:=by rw [hb4];exact (((ah.rfl_.next E2).next E3)).size
 replace hk2:=hk2.from_ E4;replace hk3:=hk3.from_ E4;refine ass rfl (asi rfl (aj (ag (ak (af (aa (aG (cs:=rfV s a) aP aF rfl ((hk2.from_ ah.rfl_).whole)) ?_))))));have hB9:ah w w3:=(((ah.rfl_.next E2).next E3).next E4);have hk2b:=hk2.from_ ah.rfl_;have hk3b:=hk3.from_ ah.rfl_;have hk4b:=hk4.from_ ah.rfl_;have hlt2:=hk2b.lt;have hlt3:=hk3b.lt;have hlt4:=hk4b.lt;obtain ⟨wb,hw9⟩:∃ x,x=w3:=⟨_,rfl⟩;obtain ⟨Z,hZ⟩:∃ Z:Nat→Prop,Z=fun k=>k<wb.heap.size:=⟨_,rfl⟩
 refine ay k8 (oQ s a _ (hrd.from_ (((ah.rfl_.next E2).next E3).next E4)) hl hel hm) ?_;rintro v11 w4 ⟨g,rfl,h9⟩;rw [←hw9] at hB9 hk2b hk3b hk4b hlt2 hlt3 hlt4;rw [←hw9,←hZ] at h9;have stB:∀ {w':World} {p:Sp},aQ wb Z w' 96 g p→ah w w':=fun h=>hB9.next (jy (by rw [hZ] at h;exact h))
 have hz2:Z b2:=by rw [hZ];exact hlt2
 have hz3:Z b3:=by rw [hZ];exact hlt3
 have hz4:Z b4:=by rw [hZ];exact hlt4
 have hzw:∀ k,k<w.heap.size→Z k:=fun k hk=>by rw [hZ];exact Nat.lt_of_lt_of_le hk hB9.size
 refine mvt rfl (aa (aZ rfl rfl) (aa (aZ rfl rfl) (asp rfl (asi rfl (aj (ag (ak (ak (af (mvi rfl (aa (ch (dk rfl rfl) rfl) (mvb rfl ?_))))))))))));refine ae rfl (aa (aG (cs:=rfV s a) aP aF rfl (((h9.kept hz2 hk2b).from_ ah.rfl_).whole)) (ae rfl (aa (aG (cs:=bD m) bk aY rfl (((h9.kept hz3 hk3b).from_ ah.rfl_).whole)) (ae rfl (ay oX (oU s a m _ (he.from_ (stB h9)) hlm hck (decide_eq_false hf)) ?_)))));rintro v19 w5 ⟨rfl,E19⟩;refine ae rfl (aa (c6 (cd rfl) rfl) (aa (aw (v:=.bool _) rfl rfl) (aj (ag (aS rfl (ak (af (aa (cV (l:=[]) (fu)) (cg (vs:=[_,_,_,_,_,_,_,_,_,_,_,_,_,_,_,_,_,_,_,_,_,_]) aF rfl rfl (by simp [Value.oneCell']) (((h9.kept hz4 hk4b).from_ (ah.rfl_.next E19))) rfl ?_)))))))));intro w6 O3 P3;refine ass rfl (asi rfl (aj (ag (aB (aD (uS rfl (dM (cs:=[_,_,_,_,_,_,_,_,_,_,_,_,_,_,_,_,_,_,_,_,_,_]) aP aF rfl (by exact P3.whole)) (fY (v:=.slice _ _ _) rfl) (fY (v:=.int _ _) rfl) ?_))))));exact ⟨rfl,(((stB h9).next E19).only O3 (hg4))⟩
theorem wG (s:Rf) (a:Ra) (m:Msg) (w:World) (hrd:eM w s a) (hl:s.votes.length≤1000000∧s.next.length≤1000000∧s.mtch.length≤1000000∧s.sent.length≤1000000∧s.reads.length≤1000000∧∀ q∈s.reads,q.acks.length≤1000000) (hel:s.es.length≤1000000) (he:Em w m) (hlm:m.es.length≤1000000) (hck:rh m) (hm:gZ s=true) (hf:px s m) (htk:∀ (w0:World) (Z:Nat→Prop) (g:Nat) (wv:World),aQ w0 Z wv 96 g ⟨s,[]⟩→Em wv m→Rt prog 58 [.pointer (some ⟨g,0,none⟩),.agg (bD m).toArray] wv fun v w'=>v=.tuple #[]∧aQ w0 Z w' 96 g (cO s m)) :
 Rt prog 24 [.agg (rfV s a).toArray,.agg (bD m).toArray] w (fun v w'=>(∃ tag a' O oc L,v=.tuple #[.agg (rfV (cO s m).s a').toArray,.slice O (List.length L) oc,.int .i64 0]∧bh w' tag (cO s m).s a'∧eu w' tag (cO s m).out O oc L∧∀ k,k<w.heap.size→tag k=8)∧ah w w'):=by
 refine enter (n:=35) Tryz.func24 rfl rfl rfl (ak (af (bK (v:=.agg _) rfl ?_)));intro b2 w1 E2 hb2 hk2;refine bK (v:=.agg _) rfl ?_;intro b3 w2 E3 hb3 hk3;replace hk2:=hk2.from_ E3;refine bP cZ ?_;intro b4 w3 E4 hb4 hk4;have hg4:w.heap.size≤b4:=by rw [hb4];exact (((ah.rfl_.next E2).next E3)).size
 replace hk2:=hk2.from_ E4;replace hk3:=hk3.from_ E4;refine ass rfl (asi rfl (aj (ag (ak (af (aa (aG (cs:=rfV s a) aP aF rfl ((hk2.from_ ah.rfl_).whole)) ?_))))));have hB9:ah w w3:=(((ah.rfl_.next E2).next E3).next E4);have hk2b:=hk2.from_ ah.rfl_;have hk3b:=hk3.from_ ah.rfl_;have hk4b:=hk4.from_ ah.rfl_;have hlt2:=hk2b.lt;have hlt3:=hk3b.lt;have hlt4:=hk4b.lt;obtain ⟨wb,hw9⟩:∃ x,x=w3:=⟨_,rfl⟩;obtain ⟨Z,hZ⟩:∃ Z:Nat→Prop,Z=fun k=>k<wb.heap.size:=⟨_,rfl⟩
 refine ay k8 (oQ s a _ (hrd.from_ (((ah.rfl_.next E2).next E3).next E4)) hl hel hm) ?_;rintro v11 w4 ⟨g,rfl,h9⟩;rw [←hw9] at hB9 hk2b hk3b hk4b hlt2 hlt3 hlt4;rw [←hw9,←hZ] at h9;have stB:∀ {w':World} {p:Sp},aQ wb Z w' 96 g p→ah w w':=fun h=>hB9.next (jy (by rw [hZ] at h;exact h))
 have hz2:Z b2:=by rw [hZ];exact hlt2
 have hz3:Z b3:=by rw [hZ];exact hlt3
 have hz4:Z b4:=by rw [hZ];exact hlt4
 have hzw:∀ k,k<w.heap.size→Z k:=fun k hk=>by rw [hZ];exact Nat.lt_of_lt_of_le hk hB9.size
 refine mvt rfl (aa (aZ rfl rfl) (aa (aZ rfl rfl) (asp rfl (asi rfl (aj (ag (ak (ak (af (mvi rfl (aa (ch (dk rfl rfl) rfl) (mvb rfl ?_))))))))))));refine ae rfl (aa (aG (cs:=rfV s a) aP aF rfl (((h9.kept hz2 hk2b).from_ ah.rfl_).whole)) (ae rfl (aa (aG (cs:=bD m) bk aY rfl (((h9.kept hz3 hk3b).from_ ah.rfl_).whole)) (ae rfl (ay oX (oU s a m _ (he.from_ (stB h9)) hlm hck (decide_eq_true hf)) ?_)))));rintro v19 w5 ⟨rfl,E19⟩;refine ae rfl (aa (ch (cd rfl) rfl) (aa (aw (v:=.bool _) rfl rfl) (aj (ag (bd rfl (aM (ag (ak (af (mvp rfl (aa (aG (cs:=bD m) bk aY rfl (((h9.kept hz3 hk3b).from_ (ah.rfl_.next E19)).whole)) (ay uq (htk wb Z g _ (h9.from_ (ah.rfl_.next E19)) (he.from_ ((stB h9).next E19))) ?_))))))))))));rintro v25 w6 ⟨rfl,h12⟩;have hT:aQ wb Z w6 96 g (cO s m):=h12;obtain ⟨tgX,aX,OX,ocX,LX,hsX⟩:=hT.ex;have hBq:ah w w6:=stB hT;have hk4d:=hT.kept hz4 hk4b;have hn4:g≠b4:=fun e=>by have h1:=hsX.z b4 hz4;rw [←e,hsX.gc] at h1;cases h1
 refine aj (ag (ak ?_));have hU7:ly [(0,26,.pointer (some ⟨g,0,none⟩)),(1,27,.pointer (some ⟨g,0,none⟩)),(2,28,.pointer (some ⟨g,0+0,none⟩)),(3,29,.pointer (some ⟨g,0+0+0,none⟩)),(4,30,.agg (rfV (cO s m).s aX).toArray),(5,31,.pointer (some ⟨g,0,none⟩)),(6,32,.pointer (some ⟨g,0,none⟩)),(7,33,.pointer (some ⟨g,0+22,none⟩)),(8,34,.slice OX LX.length ocX),(10,5,.slice OX LX.length ocX),(11,6,.int .i64 0)]:=by simp [ly]
 refine nK [(0,26,.pointer (some ⟨g,0,none⟩)),(1,27,.pointer (some ⟨g,0,none⟩)),(2,28,.pointer (some ⟨g,0+0,none⟩)),(3,29,.pointer (some ⟨g,0+0+0,none⟩)),(4,30,.agg (rfV (cO s m).s aX).toArray),(5,31,.pointer (some ⟨g,0,none⟩)),(6,32,.pointer (some ⟨g,0,none⟩)),(7,33,.pointer (some ⟨g,0+22,none⟩)),(8,34,.slice OX LX.length ocX),(10,5,.slice OX LX.length ocX),(11,6,.int .i64 0)] (fun S w'=>Blk w' g 96 ((rfV (cO s m).s aX)++[Value.slice OX LX.length ocX]).toArray∧(∃ cs:Array Value,cs.size=22∧Blk w' b4 29 cs∧(S 9=true→cs=(rfV (cO s m).s aX).toArray))∧Chg (fun k=>k=b4) w6 w') (by kernel_rfl) (by kernel_rfl) hU7 (by simp) (⟨(hsX.b.from_ ah.rfl_).from_ ah.rfl_.d1,⟨_,rfl,(hk4d.from_ ah.rfl_).from_ ah.rfl_.d1,fun h=>(by cases h)⟩,ah.rfl_.d1.toChg⟩) ?_ ?_
 ·constructor
  ·rintro S L' wS hI hM hS0 ⟨-⟩;have e7:=hI.1 7 (by simp);have hM':=hM;obtain ⟨hgB,⟨cs9,hs9z,hq9,hqe⟩,hC9⟩:=hM';exact cw (aH e7) ⟨hI.put hU7 (.head _),hM⟩
  constructor
  ·rintro S L' wS hI hM hS0 ⟨d0,-⟩;have e26:bE L' 26=.pointer (some ⟨g,0,none⟩):=hI.get (i:=0) (.head _) d0;have hM':=hM;obtain ⟨hgB,⟨cs9,hs9z,hq9,hqe⟩,hC9⟩:=hM';exact cw (av e26) ⟨hI.put hU7 (.tail _ (.head _)),hM⟩
  constructor
  ·rintro S L' wS hI hM hS0 ⟨d1,-⟩;have e27:bE L' 27=.pointer (some ⟨g,0,none⟩):=hI.get (i:=1) (.tail _ (.head _)) d1;have hM':=hM;obtain ⟨hgB,⟨cs9,hs9z,hq9,hqe⟩,hC9⟩:=hM';exact cw (ab aN e27) ⟨hI.put hU7 (gM 2 rfl),hM⟩
  constructor
  ·rintro S L' wS hI hM hS0 ⟨d2,-⟩;have e28:bE L' 28=.pointer (some ⟨g,0+0,none⟩):=hI.get (i:=2) (gM 2 rfl) d2;have hM':=hM;obtain ⟨hgB,⟨cs9,hs9z,hq9,hqe⟩,hC9⟩:=hM';exact cw (ab aC e28) ⟨hI.put hU7 (gM 3 rfl),hM⟩
  constructor
  ·rintro S L' wS hI hM hS0 ⟨d3,-⟩;have e29:bE L' 29=.pointer (some ⟨g,0+0+0,none⟩):=hI.get (i:=3) (gM 3 rfl) d3;have hM':=hM;obtain ⟨hgB,⟨cs9,hs9z,hq9,hqe⟩,hC9⟩:=hM';exact cw (aG (cs:=(rfV (cO s m).s aX)) aP aF e29 (mF hgB)) ⟨hI.put hU7 (gM 4 rfl),hM⟩
  constructor
  ·rintro S L' wS hI hM hS0 ⟨-,-⟩;have e7:=hI.1 7 (by simp);have hM':=hM;obtain ⟨hgB,⟨cs9,hs9z,hq9,hqe⟩,hC9⟩:=hM';exact cw (aH e7) ⟨hI.put hU7 (gM 5 rfl),hM⟩
  constructor
  ·rintro S L' wS hI hM hS0 ⟨d5,-,-⟩;have e31:bE L' 31=.pointer (some ⟨g,0,none⟩):=hI.get (i:=5) (gM 5 rfl) d5;have hM':=hM;obtain ⟨hgB,⟨cs9,hs9z,hq9,hqe⟩,hC9⟩:=hM';exact cw (av e31) ⟨hI.put hU7 (gM 6 rfl),hM⟩
  constructor
  ·rintro S L' wS hI hM hS0 ⟨d6,-,-⟩;have e32:bE L' 32=.pointer (some ⟨g,0,none⟩):=hI.get (i:=6) (gM 6 rfl) d6;have hM':=hM;obtain ⟨hgB,⟨cs9,hs9z,hq9,hqe⟩,hC9⟩:=hM';exact cw (ab iD e32) ⟨hI.put hU7 (gM 7 rfl),hM⟩
  constructor
  ·rintro S L' wS hI hM hS0 ⟨d7,-,-⟩;have e33:bE L' 33=.pointer (some ⟨g,0+22,none⟩):=hI.get (i:=7) (gM 7 rfl) d7;have hM':=hM;obtain ⟨hgB,⟨cs9,hs9z,hq9,hqe⟩,hC9⟩:=hM';exact cw (ar iX e33 (by exact (show _=some (Value.slice OX LX.length ocX) from hgB.rd 22 rfl))) ⟨hI.put hU7 (gM 8 rfl),hM⟩
  constructor
  ·rintro S L' wS hI hM hS0 ⟨d4,d0,d1,d2,d3,d4,-,-,-,-,-⟩;have e4:=hI.1 4 (by simp);have e30:bE L' 30=.agg (rfV (cO s m).s aX).toArray:=hI.get (i:=4) (gM 4 rfl) d4;have hM':=hM;obtain ⟨hgB,⟨cs9,hs9z,hq9,hqe⟩,hC9⟩:=hM';obtain ⟨w2,hR,hO,hb⟩:=kR (n:=35) (L:=L') (x:=.tmp 4) (y:=.tmp 30) (vs:=(rfV (cO s m).s aX)) aF e4 e30 (by simp [rfV,Value.oneCell']) hq9 (by rw [hs9z];rfl);exact kO hR ⟨hI.skip (by simp),hgB.only hO hn4,⟨_,rfl,hb,fun _=>rfl⟩,hC9.next (hO.toChg rfl)⟩
  constructor
  ·rintro S L' wS hI hM hS0 ⟨d8,d9,d0,d1,d2,d3,d4,d5,d6,d7,d8,d9,-⟩;have e34:bE L' 34=.slice OX LX.length ocX:=hI.get (i:=8) (gM 8 rfl) d8;have hM':=hM;obtain ⟨hgB,⟨cs9,hs9z,hq9,hqe⟩,hC9⟩:=hM';exact cw (dN e34) ⟨hI.put hU7 (gM 9 rfl),hM⟩
  constructor
  ·rintro S L' wS hI hM hS0 ⟨d10,d0,d1,d2,d3,d4,d5,d6,d7,d8,d9,d10,-⟩;have hM':=hM;obtain ⟨hgB,⟨cs9,hs9z,hq9,hqe⟩,hC9⟩:=hM';exact cw (dN rfl) ⟨hI.put hU7 (gM 10 rfl),hM⟩
  exact trivial
 ·intro w8 hM;obtain ⟨hgB,⟨cs9,hs9z,hq9,hqe⟩,hC9⟩:=hM;have hqe:=hqe rfl;subst hqe;refine ag (aB (uS rfl (dM (cs:=[_,_,_,_,_,_,_,_,_,_,_,_,_,_,_,_,_,_,_,_,_,_]) aP aF rfl (by exact hq9.whole)) (fY (v:=.slice _ _ _) rfl) (fY (v:=.int _ _) rfl) ?_));exact ⟨⟨tgX,aX,OX,ocX,LX,rfl,vd.mk_ hsX hzw (hC9.wide (fun k hk=>.inl (by rw [show k=b4 from hk];exact hz4)))⟩,(hBq.chg hC9 (fun k hk=>by rw [show k=b4 from hk];exact hg4))⟩
theorem wR (s:Rf) (a:Ra) (m:Msg) (w:World) (hrd:eM w s a) (hl:s.votes.length≤1000000∧s.next.length≤1000000∧s.mtch.length≤1000000∧s.sent.length≤1000000∧s.reads.length≤1000000∧∀ q∈s.reads,q.acks.length≤1000000) (hel:s.es.length≤1000000) (he:Em w m) (_:m.es.length≤1000000) (htk:∀ (w0:World) (Z:Nat→Prop) (g:Nat) (wv:World),aQ w0 Z wv 111 g ⟨s,[]⟩→Em wv m→Rt prog 89 [.pointer (some ⟨g,0,none⟩),.agg (bD m).toArray] wv fun v w'=>v=.tuple #[]∧aQ w0 Z w' 111 g (cO s m)) :
 Rt prog 46 [.agg (rfV s a).toArray,.agg (bD m).toArray] w (fun v w'=>(∃ tag a' O oc L,v=.tuple #[.agg (rfV (cO s m).s a').toArray,.slice O (List.length L) oc]∧bh w' tag (cO s m).s a'∧eu w' tag (cO s m).out O oc L∧∀ k,k<w.heap.size→tag k=8)∧ah w w'):=by
 refine enter (n:=22) Tryz.func46 rfl rfl rfl (ak (af (bK (v:=.agg _) rfl ?_)));intro b2 w1 E2 hb2 hk2;refine bK (v:=.agg _) rfl ?_;intro b3 w2 E3 hb3 hk3;replace hk2:=hk2.from_ E3;refine bP cZ ?_;intro b4 w3 E4 hb4 hk4;have hg4:w.heap.size≤b4:=by rw [hb4];exact (((ah.rfl_.next E2).next E3)).size
 replace hk2:=hk2.from_ E4;replace hk3:=hk3.from_ E4;refine ass rfl (aj (ag (ak (af (aa (aG (cs:=rfV s a) aP aF rfl ((hk2.from_ ah.rfl_).whole)) ?_)))));have hk3b:=hk3.from_ ah.rfl_;have hk4b:=hk4.from_ ah.rfl_;have hlt3:=hk3b.lt;have hlt4:=hk4b.lt;have hB9:ah w w3:=(((ah.rfl_.next E2).next E3).next E4);have hk2b:=hk2.from_ ah.rfl_;have hlt2:=hk2b.lt;obtain ⟨wb,hw9⟩:∃ x,x=w3:=⟨_,rfl⟩;obtain ⟨Z,hZ⟩:∃ Z:Nat→Prop,Z=fun k=>k<wb.heap.size:=⟨_,rfl⟩
 refine ay jW (jk s a _ (hrd.from_ (((ah.rfl_.next E2).next E3).next E4)) hl hel) ?_;rintro v8 w4 ⟨⟨tag9,a9,rfl,hf9,ht9⟩,E8⟩;refine aa (cV (l:=[(0,.tmp 8)]) (ps _ _ _ _ _ _ _ _ _ _ _ _ _ _ _ _ _ _ _ _ _ _ _ _ _ _ _ _ _ _ _ _ _ _)) (bK (v:=.agg _) rfl ?_);intro b10 w5 E10 hb10 hk10
 have h11:aQ wb Z w5 111 b10 ⟨s,[]⟩:=by
  rw [hZ,hw9];exact rA E8 hf9 ht9 E10 hb10 (show Blk _ b10 111 (rfV s a9++[Value.slice none 0 0]).toArray from hk10)
 rw [←hw9] at hB9 hk2b hlt2;have stB:∀ {w':World} {p:Sp},aQ wb Z w' 111 b10 p→ah w w':=fun h=>hB9.next (jy (by rw [hZ] at h;exact h))
 have hzB:=hB9.size;have hz2:Z b2:=by rw [hZ];exact hlt2
 have hzw:∀ k,k<w.heap.size→Z k:=fun k hk=>by rw [hZ];exact Nat.lt_of_lt_of_le hk hzB
 rw [←hw9] at hk3b hk4b hlt3 hlt4;have hz3:Z b3:=by rw [hZ];exact hlt3
 have hz4:Z b4:=by rw [hZ];exact hlt4
 refine asp rfl (aj (ag (ak (af (mvp rfl (aa (aG (cs:=bD m) bk aY rfl (((h11.kept hz3 hk3b).from_ ah.rfl_).whole)) (ay uo (htk wb Z b10 _ (h11.from_ ah.rfl_) (he.from_ (((((ah.rfl_.next E2).next E3).next E4).next E8).next E10))) ?_)))))));rintro v13 w6 ⟨rfl,h12⟩;have hT:aQ wb Z w6 111 b10 (cO s m):=h12;obtain ⟨tgX,aX,OX,ocX,LX,hsX⟩:=hT.ex;have hBq:ah w w6:=stB hT;have hk4d:=hT.kept hz4 hk4b;have hn4:b10≠b4:=fun e=>by have h1:=hsX.z b4 hz4;rw [←e,hsX.gc] at h1;cases h1
 refine aj (ag (ak ?_));have hU7:ly [(0,14,.pointer (some ⟨b10,0,none⟩)),(1,15,.pointer (some ⟨b10,0,none⟩)),(2,16,.pointer (some ⟨b10,0+0,none⟩)),(3,17,.agg (rfV (cO s m).s aX).toArray),(4,18,.pointer (some ⟨b10,0,none⟩)),(5,19,.pointer (some ⟨b10,0,none⟩)),(6,20,.pointer (some ⟨b10,0+22,none⟩)),(7,21,.slice OX LX.length ocX),(9,5,.slice OX LX.length ocX)]:=by simp [ly]
 refine nK [(0,14,.pointer (some ⟨b10,0,none⟩)),(1,15,.pointer (some ⟨b10,0,none⟩)),(2,16,.pointer (some ⟨b10,0+0,none⟩)),(3,17,.agg (rfV (cO s m).s aX).toArray),(4,18,.pointer (some ⟨b10,0,none⟩)),(5,19,.pointer (some ⟨b10,0,none⟩)),(6,20,.pointer (some ⟨b10,0+22,none⟩)),(7,21,.slice OX LX.length ocX),(9,5,.slice OX LX.length ocX)] (fun S w'=>Blk w' b10 111 ((rfV (cO s m).s aX)++[Value.slice OX LX.length ocX]).toArray∧(∃ cs:Array Value,cs.size=22∧Blk w' b4 29 cs∧(S 8=true→cs=(rfV (cO s m).s aX).toArray))∧Chg (fun k=>k=b4) w6 w') (by kernel_rfl) (by kernel_rfl) hU7 (by simp) (⟨(hsX.b.from_ ah.rfl_).from_ ah.rfl_.d1,⟨_,rfl,(hk4d.from_ ah.rfl_).from_ ah.rfl_.d1,fun h=>(by cases h)⟩,ah.rfl_.d1.toChg⟩) ?_ ?_
 ·constructor
  ·rintro S L' wS hI hM hS0 ⟨-⟩;have e6:=hI.1 6 (by simp);have hM':=hM;obtain ⟨hgB,⟨cs9,hs9z,hq9,hqe⟩,hC9⟩:=hM';exact cw (aH e6) ⟨hI.put hU7 (.head _),hM⟩
  constructor
  ·rintro S L' wS hI hM hS0 ⟨d0,-⟩;have e14:bE L' 14=.pointer (some ⟨b10,0,none⟩):=hI.get (i:=0) (.head _) d0;have hM':=hM;obtain ⟨hgB,⟨cs9,hs9z,hq9,hqe⟩,hC9⟩:=hM';exact cw (av e14) ⟨hI.put hU7 (.tail _ (.head _)),hM⟩
  constructor
  ·rintro S L' wS hI hM hS0 ⟨d1,-⟩;have e15:bE L' 15=.pointer (some ⟨b10,0,none⟩):=hI.get (i:=1) (.tail _ (.head _)) d1;have hM':=hM;obtain ⟨hgB,⟨cs9,hs9z,hq9,hqe⟩,hC9⟩:=hM';exact cw (ab aJ e15) ⟨hI.put hU7 (gM 2 rfl),hM⟩
  constructor
  ·rintro S L' wS hI hM hS0 ⟨d2,-⟩;have e16:bE L' 16=.pointer (some ⟨b10,0+0,none⟩):=hI.get (i:=2) (gM 2 rfl) d2;have hM':=hM;obtain ⟨hgB,⟨cs9,hs9z,hq9,hqe⟩,hC9⟩:=hM';exact cw (aG (cs:=(rfV (cO s m).s aX)) aP aF e16 (mF hgB)) ⟨hI.put hU7 (gM 3 rfl),hM⟩
  constructor
  ·rintro S L' wS hI hM hS0 ⟨-,-⟩;have e6:=hI.1 6 (by simp);have hM':=hM;obtain ⟨hgB,⟨cs9,hs9z,hq9,hqe⟩,hC9⟩:=hM';exact cw (aH e6) ⟨hI.put hU7 (gM 4 rfl),hM⟩
  constructor
  ·rintro S L' wS hI hM hS0 ⟨d4,-,-⟩;have e18:bE L' 18=.pointer (some ⟨b10,0,none⟩):=hI.get (i:=4) (gM 4 rfl) d4;have hM':=hM;obtain ⟨hgB,⟨cs9,hs9z,hq9,hqe⟩,hC9⟩:=hM';exact cw (av e18) ⟨hI.put hU7 (gM 5 rfl),hM⟩
  constructor
  ·rintro S L' wS hI hM hS0 ⟨d5,-,-⟩;have e19:bE L' 19=.pointer (some ⟨b10,0,none⟩):=hI.get (i:=5) (gM 5 rfl) d5;have hM':=hM;obtain ⟨hgB,⟨cs9,hs9z,hq9,hqe⟩,hC9⟩:=hM';exact cw (ab jv e19) ⟨hI.put hU7 (gM 6 rfl),hM⟩
  constructor
  ·rintro S L' wS hI hM hS0 ⟨d6,-,-⟩;have e20:bE L' 20=.pointer (some ⟨b10,0+22,none⟩):=hI.get (i:=6) (gM 6 rfl) d6;have hM':=hM;obtain ⟨hgB,⟨cs9,hs9z,hq9,hqe⟩,hC9⟩:=hM';exact cw (ar iX e20 (by exact (show _=some (Value.slice OX LX.length ocX) from hgB.rd 22 rfl))) ⟨hI.put hU7 (gM 7 rfl),hM⟩
  constructor
  ·rintro S L' wS hI hM hS0 ⟨d3,d0,d1,d2,d3,-,-,-,-,-⟩;have e4:=hI.1 4 (by simp);have e17:bE L' 17=.agg (rfV (cO s m).s aX).toArray:=hI.get (i:=3) (gM 3 rfl) d3;have hM':=hM;obtain ⟨hgB,⟨cs9,hs9z,hq9,hqe⟩,hC9⟩:=hM';obtain ⟨w2,hR,hO,hb⟩:=kR (n:=22) (L:=L') (x:=.tmp 4) (y:=.tmp 17) (vs:=(rfV (cO s m).s aX)) aF e4 e17 (by simp [rfV,Value.oneCell']) hq9 (by rw [hs9z];rfl);exact kO hR ⟨hI.skip (by simp),hgB.only hO hn4,⟨_,rfl,hb,fun _=>rfl⟩,hC9.next (hO.toChg rfl)⟩
  constructor
  ·rintro S L' wS hI hM hS0 ⟨d7,d8,d0,d1,d2,d3,d4,d5,d6,d7,d8,-⟩;have e21:bE L' 21=.slice OX LX.length ocX:=hI.get (i:=7) (gM 7 rfl) d7;have hM':=hM;obtain ⟨hgB,⟨cs9,hs9z,hq9,hqe⟩,hC9⟩:=hM';exact cw (dN e21) ⟨hI.put hU7 (gM 8 rfl),hM⟩
  exact trivial
 ·intro w8 hM;obtain ⟨hgB,⟨cs9,hs9z,hq9,hqe⟩,hC9⟩:=hM;have hqe:=hqe rfl;subst hqe;refine ag (aB (oi rfl (dM (cs:=[_,_,_,_,_,_,_,_,_,_,_,_,_,_,_,_,_,_,_,_,_,_]) aP aF rfl (by exact hq9.whole)) (fY (v:=.slice _ _ _) rfl) ?_));exact ⟨⟨tgX,aX,OX,ocX,LX,rfl,vd.mk_ hsX hzw (hC9.wide (fun k hk=>.inl (by rw [show k=b4 from hk];exact hz4)))⟩,(hBq.chg hC9 (fun k hk=>by rw [show k=b4 from hk];exact hg4))⟩
end Go.Proofs.YtkpooenofjdpmaaGreat
