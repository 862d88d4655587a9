/- texts that the claim stands on. -/
import Derived.Test.YtkpooenofjdpmaaGreatSlRfLawV36

set_option maxRecDepth 100000
set_option maxHeartbeats 4000000
namespace Go.Proofs.YtkpooenofjdpmaaGreat
open Go.Proofs.Tryz (prog)
open Go.RowKit
open Go.ChangeShapes Go.WideShapes Go.ChangeAt
theorem mO:aN prog 103=true:=by kernel_rfl
theorem kv:aN prog 124=true:=by kernel_rfl
theorem mN:aN prog 127=true:=by kernel_rfl
theorem mV {s:Rf} {m:Msg} (h:s.term=m.tm) (hk:m.k=3):cT s m=nR s m:=by
 unfold cT;simp only;rw [if_neg (show ¬ s.term<m.tm by omega),if_neg (show ¬ m.tm<s.term by omega),if_neg (by omega),if_neg (by omega),if_pos (.inl hk)]
theorem yK (w0:World) (Z:Nat→Prop) (T g:Nat) (s:Rf) (m:Msg) (w:World) (h:aZ w0 Z w T g ⟨s,[]⟩) (hF:RfF s) (_:m.tm≤1099511627775) (hk:m.k=3) (hf:1≤m.f∧m.f≤s.nodes) (he:Em w m) (hze:Ez Z m) (hel:m.es.length≤1000000) (hix:0≤m.ix∧m.ix≤1099511627775) (_:dm m.es m.ix m.lt=true) (_:inb 0 1099511627775 m.lt=true) (hgt:s.term=m.tm) :
 Rt prog 58 [.pointer (some ⟨g,0,none⟩),.agg (bH m).toArray] w (fun v w'=>v=.tuple #[]∧aZ w0 Z w' T g (cT s m)):=by
 refine enter (n:=55) Tryz.func58 rfl rfl rfl (ak (af (bZ (v:=.agg _) rfl ?_)));intro b3 w1 E3 hb3 hk3;obtain ⟨wm,hwm⟩:∃ x,x=w1:=⟨_,rfl⟩
 have h3a:=h.at_ (Z':=fun k=>Z k∨k=b3) E3 (fun k hk=>by
  rcases hk with e | e
  ·exact ⟨Nat.lt_of_lt_of_le (h.zw k e) E3.size,.inl e⟩
  ·subst e;exact ⟨hk3.lt,.inr (by omega)⟩)
 obtain ⟨Z7,hZ7⟩:∃ Z7,Z7=fun k=>Z k∨k=b3:=⟨_,rfl⟩
 have h3:aZ wm Z7 w1 T g ⟨s,[]⟩:=by
  rw [hZ7,hwm];exact h3a
 have hzi:∀ k,Z k→Z7 k:=fun k hk=>by rw [hZ7];exact .inl hk
 have hzb:Z7 b3:=by rw [hZ7];exact .inr rfl
 have hE3:ah w wm:=by rw [hwm];exact E3
 have hm9:Blk wm b3 39 (bH m).toArray:=by rw [hwm];exact hk3
 have hm3:=h3.kept hzb hm9;refine ai (ag (ak (ak ?_)))
 skip
 apply bY 9 [(4,eqp _),(5,eqp (.int .i64 m.tm)),(6,eqp _),(7,eqp _),(8,eqp _),(9,eqp _),(10,eqp _),(11,eqp (.int .i64 s.term)),(12,eqp _)] (by repeat first | exact cB | refine cz ?_ | refine ck ?_) (by kernel_rfl) (by kernel_rfl) ⟨aj _,aj _,aj _,aj _,aj _,aj _,aj _,aj _,aj _,trivial⟩
 case hop=>
  constructor
  ·rintro-w3 D3;exact au (ab bJ rfl) rfl
  constructor
  ·rintro-w4 D4;rintro _ rfl;exact au (ar ao rfl (by exact (show _=some (Value.int .i64 m.tm) from (hm3.from_ (ah.rfl_.next D4)).rd 3 rfl))) rfl
  constructor
  ·rintro-w5 D5;exact au (aK (v:=.pointer _) rfl) rfl
  constructor
  ·rintro-w6 D6;rintro _ rfl;exact au (aw rfl) rfl
  constructor
  ·rintro-w7 D7;rintro _ rfl;exact au (ab aH rfl) rfl
  constructor
  ·rintro-w8 D8;rintro _ rfl;exact au (ab aB rfl) rfl
  constructor
  ·rintro-w9 D9;rintro _ rfl;exact au (ab bL rfl) rfl
  constructor
  ·rintro-w10 D10;rintro _ rfl;exact au (ar ao rfl (by exact (show _=some (Value.int .i64 s.term) from (h3.from_ (ah.rfl_.next D10)).rd (fun _=>rfl)))) rfl
  constructor
  ·rintro-w11 D11;rintro v11_5 rfl v11_11 rfl;exact au (c8 (ch rfl rfl) (decide_eq_false (by omega))) rfl
  exact trivial
 case hend=>
  intro w12 D12;rintro _ rfl v5 rfl _ rfl _ rfl _ rfl _ rfl _ rfl v11 rfl _ rfl;show St ..;refine ai (ag (bA rfl (aM (ag (ak (ak ?_))))))
  skip
  apply bY 9 [(19,eqp _),(20,eqp (.int .i64 m.tm)),(21,eqp _),(22,eqp _),(23,eqp _),(24,eqp _),(25,eqp _),(26,eqp (.int .i64 s.term)),(27,eqp _)] (by repeat first | exact cB | refine cz ?_ | refine ck ?_) (by kernel_rfl) (by kernel_rfl) ⟨aj _,aj _,aj _,aj _,aj _,aj _,aj _,aj _,aj _,trivial⟩
  case hop=>
   constructor
   ·rintro-w14 D14;exact au (ab bJ rfl) rfl
   constructor
   ·rintro-w15 D15;rintro _ rfl;exact au (ar ao rfl (by exact (show _=some (Value.int .i64 m.tm) from ((h3.kept hzb hm9).from_ ((ah.rfl_.next D12).next D15)).rd 3 rfl))) rfl
   constructor
   ·rintro-w16 D16;exact au (aK (v:=.pointer _) rfl) rfl
   constructor
   ·rintro-w17 D17;rintro _ rfl;exact au (aw rfl) rfl
   constructor
   ·rintro-w18 D18;rintro _ rfl;exact au (ab aH rfl) rfl
   constructor
   ·rintro-w19 D19;rintro _ rfl;exact au (ab aB rfl) rfl
   constructor
   ·rintro-w20 D20;rintro _ rfl;exact au (ab bL rfl) rfl
   constructor
   ·rintro-w21 D21;rintro _ rfl;exact au (ar ao rfl (by exact (show _=some (Value.int .i64 s.term) from (h3.from_ ((ah.rfl_.next D12).next D21)).rd (fun _=>rfl)))) rfl
   constructor
   ·rintro-w22 D22;rintro v22_20 rfl v22_26 rfl;exact au (c8 (cg rfl rfl) (decide_eq_false (by have:=fJ s m.tm;omega))) rfl
   exact trivial
  case hend=>
   intro w23 D23;rintro _ rfl v20 rfl _ rfl _ rfl _ rfl _ rfl _ rfl v26 rfl _ rfl;show St ..;refine ai (ag (bA rfl (aM (ag (ak (af (aa (ab cM rfl) (aa (ar ao rfl (by exact (show _=some (Value.int .i64 m.k) from ((h3.kept hzb hm9).from_ ((ah.rfl_.next D12).next D23)).rd 0 rfl))) ?_))))))));refine ai (ag (a_ (ak (af (aa (c8 (bt rfl rfl) (beq_eq_false_iff_ne.2 (by omega))) (asb rfl (ai (ag (bA rfl (ak (af (aa (c8 (bt rfl rfl) (beq_eq_false_iff_ne.2 (by omega))) (asb rfl (ai (ag ?_)))))))))))))));refine bA rfl (ak (ak (af (aa (dh (bt rfl rfl) (beq_iff_eq.2 hk)) (asb rfl (ai (ag (aR rfl (aM (ag (aR rfl (af ?_))))))))))));refine mvp rfl (aa (aD (cs:=bH m) bh aU rfl (((h3.kept hzb hm9).from_ ((ah.rfl_.next D12).next D23)).whole)) (az mO (uS wm Z7 T g s m _ (h3.from_ ((ah.rfl_.next D12).next D23)) hF hf hk (((he.from_ hE3).chg (fun h0 k hk9=>hzi k (hze h0 k hk9)) h3.fr).from_ ((ah.rfl_.next D12).next D23)) (fun h0 k hk9=>hzi k (hze h0 k hk9)) hel hix) ?_));rintro v48 w24 ⟨rfl,h6⟩;refine ai (bN (du (eB rfl ?_)));rw [mV (by omega) hk];exact ⟨rfl,h.back hE3 (h6.from_ ah.rfl_) hzi⟩
theorem yJ (w0:World) (Z:Nat→Prop) (T g:Nat) (s:Rf) (m:Msg) (w:World) (h:aZ w0 Z w T g ⟨s,[]⟩) (hF:RfF s) (ht:m.tm≤1099511627775) (hk:m.k=3) (hf:1≤m.f∧m.f≤s.nodes) (he:Em w m) (hze:Ez Z m) (hel:m.es.length≤1000000) (hix:0≤m.ix∧m.ix≤1099511627775) (_:dm m.es m.ix m.lt=true) (_:inb 0 1099511627775 m.lt=true) (hgt:s.term<m.tm) :
 Rt prog 58 [.pointer (some ⟨g,0,none⟩),.agg (bH m).toArray] w (fun v w'=>v=.tuple #[]∧aZ w0 Z w' T g (cT s m)):=by
 have hFf:RfF (cH s m.tm):=hF.falls ht;have hf9:1≤m.f∧m.f≤(cH s m.tm).nodes:=by rw [(im s m.tm).2.2.2.2.1];exact hf
 refine enter (n:=55) Tryz.func58 rfl rfl rfl (ak (af (bZ (v:=.agg _) rfl ?_)));intro b3 w1 E3 hb3 hk3;obtain ⟨wm,hwm⟩:∃ x,x=w1:=⟨_,rfl⟩
 have h3a:=h.at_ (Z':=fun k=>Z k∨k=b3) E3 (fun k hk=>by
  rcases hk with e | e
  ·exact ⟨Nat.lt_of_lt_of_le (h.zw k e) E3.size,.inl e⟩
  ·subst e;exact ⟨hk3.lt,.inr (by omega)⟩)
 obtain ⟨Z7,hZ7⟩:∃ Z7,Z7=fun k=>Z k∨k=b3:=⟨_,rfl⟩
 have h3:aZ wm Z7 w1 T g ⟨s,[]⟩:=by
  rw [hZ7,hwm];exact h3a
 have hzi:∀ k,Z k→Z7 k:=fun k hk=>by rw [hZ7];exact .inl hk
 have hzb:Z7 b3:=by rw [hZ7];exact .inr rfl
 have hE3:ah w wm:=by rw [hwm];exact E3
 have hm9:Blk wm b3 39 (bH m).toArray:=by rw [hwm];exact hk3
 have hm3:=h3.kept hzb hm9;refine ai (ag (ak (ak ?_)))
 skip
 apply bY 9 [(4,eqp _),(5,eqp (.int .i64 m.tm)),(6,eqp _),(7,eqp _),(8,eqp _),(9,eqp _),(10,eqp _),(11,eqp (.int .i64 s.term)),(12,eqp _)] (by repeat first | exact cB | refine cz ?_ | refine ck ?_) (by kernel_rfl) (by kernel_rfl) ⟨aj _,aj _,aj _,aj _,aj _,aj _,aj _,aj _,aj _,trivial⟩
 case hop=>
  constructor
  ·rintro-w3 D3;exact au (ab bJ rfl) rfl
  constructor
  ·rintro-w4 D4;rintro _ rfl;exact au (ar ao rfl (by exact (show _=some (Value.int .i64 m.tm) from (hm3.from_ (ah.rfl_.next D4)).rd 3 rfl))) rfl
  constructor
  ·rintro-w5 D5;exact au (aK (v:=.pointer _) rfl) rfl
  constructor
  ·rintro-w6 D6;rintro _ rfl;exact au (aw rfl) rfl
  constructor
  ·rintro-w7 D7;rintro _ rfl;exact au (ab aH rfl) rfl
  constructor
  ·rintro-w8 D8;rintro _ rfl;exact au (ab aB rfl) rfl
  constructor
  ·rintro-w9 D9;rintro _ rfl;exact au (ab bL rfl) rfl
  constructor
  ·rintro-w10 D10;rintro _ rfl;exact au (ar ao rfl (by exact (show _=some (Value.int .i64 s.term) from (h3.from_ (ah.rfl_.next D10)).rd (fun _=>rfl)))) rfl
  constructor
  ·rintro-w11 D11;rintro v11_5 rfl v11_11 rfl;exact au (dh (ch rfl rfl) (decide_eq_true hgt)) rfl
  exact trivial
 case hend=>
  intro w12 D12;rintro _ rfl v5 rfl _ rfl _ rfl _ rfl _ rfl _ rfl v11 rfl _ rfl;show St ..;refine ai (ag (aR rfl ?_));apply mM [(0,13,fun _ v _=>v=_),(1,14,fun _ v _=>v=_),(2,15,fun _ v _=>v=_),(3,16,fun _ v _=>v=_),(4,17,fun S v w9=>S 5=false→(eqp (.int .i64 m.tm)) v w9),(5,18,fun _ v _=>v=_)] [5] (fun S w'=>(S 5=false→ah w12 w')∧(S 5=true→aZ wm Z7 w' T g ⟨cH s m.tm,[]⟩)) (by kernel_rfl) (by kernel_rfl) rfl rfl ⟨fun _ _ _ _ _ _ _ h=>h,fun _ _ _ _ _ _ _ h=>h,fun _ _ _ _ _ _ _ h=>h,fun _ _ _ _ _ _ _ h=>h,fun S i v w1 w2 hq hF h h0=>(aj _) v w1 w2 hF (h (oo h0)),fun _ _ _ _ _ _ _ h=>h,trivial⟩ (fun S i w1 w2 hq hF h=>⟨fun h0=>(h.1 (oo h0)).next hF,fun h1=>(fun h=>h.from_ hF) (h.2 (oW (show 5≠i by rintro rfl;exact absurd hq (by decide)) h1))⟩) ⟨fun _=>ah.rfl_.d1,fun h=>by cases h⟩
  case hstep=>
   constructor
   ·rintro S L' w13 hU hmo hme hI hM hC hS ⟨-⟩;have hS0:S 5=false:=(aq hC (j:=5) rfl (by kernel_rfl) (aq hC (j:=2) rfl (by kernel_rfl) (aq hC (j:=1) rfl (by kernel_rfl) hS)));have hM13:=hM.1 hS0;have e0:=hI.1 0 (fH rfl);exact aS [(0,_)] hU hmo hme hI hM (.head _) rfl rfl (by kernel_rfl) ⟨e0,trivial⟩ (aK (v:=.pointer _) rfl) ah.rfl_ (rfl)
   constructor
   ·rintro S L' w14 hU hmo hme hI hM hC hS ⟨d0,-⟩;have hS0:S 5=false:=(aq hC (j:=5) rfl (by kernel_rfl) (aq hC (j:=2) rfl (by kernel_rfl) hS));have hM14:=hM.1 hS0;obtain ⟨v14_13,e13,h13⟩:=hI.get (i:=0) (.head _) d0;obtain rfl:=h13;exact aS [(13,_)] hU hmo hme hI hM (.tail _ (.head _)) rfl rfl (by kernel_rfl) ⟨e13,trivial⟩ (aw rfl) ah.rfl_ (rfl)
   constructor
   ·rintro S L' w15 hU hmo hme hI hM hC hS ⟨d1,-⟩;have hS0:S 5=false:=(aq hC (j:=5) rfl (by kernel_rfl) hS);have hM15:=hM.1 hS0;obtain ⟨v15_14,e14,h14⟩:=hI.get (i:=1) (.tail _ (.head _)) d1;obtain rfl:=h14;exact aS [(14,_)] hU hmo hme hI hM (gM 2 rfl) rfl rfl (by kernel_rfl) ⟨e14,trivial⟩ (ab aH rfl) ah.rfl_ (rfl)
   constructor
   ·rintro S L' w16 hU hmo hme hI hM hC hS ⟨-⟩;have hS0:S 5=false:=(aq hC (j:=5) rfl (by kernel_rfl) (aq hC (j:=4) rfl (by kernel_rfl) hS));have hM16:=hM.1 hS0;have e3:=hI.1 3 (fH rfl);exact aS [(3,_)] hU hmo hme hI hM (gM 3 rfl) rfl rfl (by kernel_rfl) ⟨e3,trivial⟩ (ab bJ rfl) ah.rfl_ (rfl)
   constructor
   ·rintro S L' w17 hU hmo hme hI hM hC hS ⟨d3,-⟩;have hS0:S 5=false:=(aq hC (j:=5) rfl (by kernel_rfl) hS);have hM17:=hM.1 hS0;obtain ⟨v17_16,e16,h16⟩:=hI.get (i:=3) (gM 3 rfl) d3;obtain rfl:=h16;exact aS [(16,_)] hU hmo hme hI hM (gM 4 rfl) rfl rfl (by kernel_rfl) ⟨e16,trivial⟩ (ar ao rfl (by exact (show _=some (Value.int .i64 m.tm) from (hm3.from_ ((ah.rfl_.next D12).next hM17)).rd 3 rfl))) ah.rfl_ (fun _=>rfl)
   constructor
   ·rintro S L' w18 hU hmo hme hI hM hC hS ⟨d2,d4,-⟩;have hS0:S 5=false:=hS;have hM18:=hM.1 hS0;obtain ⟨v18_15,e15,h15⟩:=hI.get (i:=2) (gM 2 rfl) d2;obtain rfl:=h15;obtain ⟨v18_17,e17,h17⟩:=hI.get (i:=4) (gM 4 rfl) d4;obtain rfl:=h17 hS0;refine jg (al:=[.tmp 15,.tmp 17]) [(15,_),(17,_)] hU hI (gM 5 rfl) (by kernel_rfl) ⟨e15,e17,trivial⟩ mg ((ns wm Z7 T g ⟨s,[]⟩ _ (h3.from_ ((ah.rfl_.next D12).next hM18)) m.tm).mono ?_);rintro v9 w2 ⟨rfl,hS2⟩;exact ⟨⟨fun h0=>(by rw [mr] at h0;cases h0),fun _=>hS2⟩,rfl,⟨fun _ _ _ h=>h,fun _ _ _ h=>h,fun _ _ _ h=>h,fun _ _ _ h=>h,fun _ _ _ _ h0=>(by rw [mr] at h0;cases h0),fun _ _ _ h=>h,trivial⟩⟩
   exact trivial
  case hend=>
   intro w19 hM;obtain hS9:=hM.2 rfl;rintro v19_13 rfl v19_14 rfl v19_15 rfl v19_16 rfl v19_17-v19_18 rfl;refine iD (ag (ak (ak ?_)))
   skip
   apply bY 9 [(19,eqp _),(20,eqp (.int .i64 m.tm)),(21,eqp _),(22,eqp _),(23,eqp _),(24,eqp _),(25,eqp _),(26,eqp (.int .i64 (cH s m.tm).term)),(27,eqp _)] (by repeat first | exact cB | refine cz ?_ | refine ck ?_) (by kernel_rfl) (by kernel_rfl) ⟨aj _,aj _,aj _,aj _,aj _,aj _,aj _,aj _,aj _,trivial⟩
   case hop=>
    constructor
    ·rintro-w21 D21;exact au (ab bJ rfl) rfl
    constructor
    ·rintro-w22 D22;rintro _ rfl;exact au (ar ao rfl (by exact (show _=some (Value.int .i64 m.tm) from ((hS9.kept hzb hm9).from_ (ah.rfl_.next D22)).rd 3 rfl))) rfl
    constructor
    ·rintro-w23 D23;exact au (aK (v:=.pointer _) rfl) rfl
    constructor
    ·rintro-w24 D24;rintro _ rfl;exact au (aw rfl) rfl
    constructor
    ·rintro-w25 D25;rintro _ rfl;exact au (ab aH rfl) rfl
    constructor
    ·rintro-w26 D26;rintro _ rfl;exact au (ab aB rfl) rfl
    constructor
    ·rintro-w27 D27;rintro _ rfl;exact au (ab bL rfl) rfl
    constructor
    ·rintro-w28 D28;rintro _ rfl;exact au (ar ao rfl (by exact (show _=some (Value.int .i64 (cH s m.tm).term) from (hS9.from_ (ah.rfl_.next D28)).rd (fun _=>rfl)))) rfl
    constructor
    ·rintro-w29 D29;rintro v29_20 rfl v29_26 rfl;exact au (c8 (cg rfl rfl) (decide_eq_false (by have:=fJ s m.tm;omega))) rfl
    exact trivial
   case hend=>
    intro w30 D30;rintro _ rfl v20 rfl _ rfl _ rfl _ rfl _ rfl _ rfl v26 rfl _ rfl;show St ..;refine ai (ag (bA rfl (aM (ag (ak (af (aa (ab cM rfl) (aa (ar ao rfl (by exact (show _=some (Value.int .i64 m.k) from ((hS9.kept hzb hm9).from_ (ah.rfl_.next D30)).rd 0 rfl))) ?_))))))));refine ai (ag (a_ (ak (af (aa (c8 (bt rfl rfl) (beq_eq_false_iff_ne.2 (by omega))) (asb rfl (ai (ag (bA rfl (ak (af (aa (c8 (bt rfl rfl) (beq_eq_false_iff_ne.2 (by omega))) (asb rfl (ai (ag ?_)))))))))))))));refine bA rfl (ak (ak (af (aa (dh (bt rfl rfl) (beq_iff_eq.2 hk)) (asb rfl (ai (ag (aR rfl (aM (ag (aR rfl (af ?_))))))))))));refine mvp rfl (aa (aD (cs:=bH m) bh aU rfl (((hS9.kept hzb hm9).from_ (ah.rfl_.next D30)).whole)) (az mO (uS wm Z7 T g (cH s m.tm) m _ (hS9.from_ (ah.rfl_.next D30)) hFf hf9 hk (((he.from_ hE3).chg (fun h0 k hk9=>hzi k (hze h0 k hk9)) hS9.fr).from_ (ah.rfl_.next D30)) (fun h0 k hk9=>hzi k (hze h0 k hk9)) hel hix) ?_));rintro v48 w31 ⟨rfl,h6⟩;refine ai (bN (du (eB rfl ?_)));rw [oM hgt,mV (by have:=fJ s m.tm;omega) hk];exact ⟨rfl,h.back hE3 (h6.from_ ah.rfl_) hzi⟩
theorem uB (w0:World) (Z:Nat→Prop) (T g:Nat) (s:Rf) (m:Msg) (w:World) (h:aZ w0 Z w T g ⟨s,[]⟩) (hF:RfF s) (ht:m.tm≤1099511627775) (hk:m.k=3) (hf:1≤m.f∧m.f≤s.nodes) (he:Em w m) (hze:Ez Z m) (hel:m.es.length≤1000000) (hix:0≤m.ix∧m.ix≤1099511627775) (hrun:dm m.es m.ix m.lt=true) (hq:inb 0 1099511627775 m.lt=true):Rt prog 58 [.pointer (some ⟨g,0,none⟩),.agg (bH m).toArray] w fun v w'=>v=.tuple #[]∧aZ w0 Z w' T g (cT s m):=by
 rcases Int.lt_trichotomy m.tm s.term with h1 | h1 | h1
 ·exact zY w0 Z T g s m w h h1
 ·exact yK w0 Z T g s m w h hF ht hk hf he hze hel hix hrun hq h1.symm
 ·exact yJ w0 Z T g s m w h hF ht hk hf he hze hel hix hrun hq h1
theorem wP (w0:World) (Z:Nat→Prop) (T g:Nat) (s:Rf) (m:Msg) (w:World) (h:aZ w0 Z w T g ⟨s,[]⟩) (hF:RfF s) (_:m.tm≤1099511627775) (hk:m.k=3) (hgt:s.term=m.tm) (hf:1≤m.f∧m.f≤s.nodes) (he:Em w m) (hze:Ez Z m) (hel:m.es.length≤1000000) (hix:0≤m.ix∧m.ix≤1099511627775) (hrun:dm m.es m.ix m.lt=true) (hq:inb 0 1099511627775 m.lt=true) :
 Rt prog 89 [.pointer (some ⟨g,0,none⟩),.agg (bH m).toArray] w (fun v w'=>v=.tuple #[]∧aZ w0 Z w' T g (cT s m)):=by
 have hrr:=hF.ro;refine enter (n:=169) Tryz.func89 rfl rfl rfl (ak (af (bZ (v:=.agg _) rfl ?_)));intro b3 w1 E3 hb3 hk3;obtain ⟨wm,hwm⟩:∃ x,x=w1:=⟨_,rfl⟩
 have h3a:=h.at_ (Z':=fun k=>Z k∨k=b3) E3 (fun k hk=>by
  rcases hk with e | e
  ·exact ⟨Nat.lt_of_lt_of_le (h.zw k e) E3.size,.inl e⟩
  ·subst e;exact ⟨hk3.lt,.inr (by omega)⟩)
 obtain ⟨Z7,hZ7⟩:∃ Z7,Z7=fun k=>Z k∨k=b3:=⟨_,rfl⟩
 have h3:aZ wm Z7 w1 T g ⟨s,[]⟩:=by
  rw [hZ7,hwm];exact h3a
 have hzi:∀ k,Z k→Z7 k:=fun k hk=>by rw [hZ7];exact .inl hk
 have hzb:Z7 b3:=by rw [hZ7];exact .inr rfl
 have hE3:ah w wm:=by rw [hwm];exact E3
 have hm9:Blk wm b3 39 (bH m).toArray:=by rw [hwm];exact hk3
 have hm3:=h3.kept hzb hm9;refine ai (ag (ak (ak ?_)))
 skip
 apply bY 8 [(5,eqp _),(6,eqp (.int .i64 m.tm)),(7,eqp _),(8,eqp _),(9,eqp _),(10,eqp _),(11,eqp (.int .i64 s.term)),(12,eqp _)] (by repeat first | exact cB | refine cz ?_ | refine ck ?_) (by kernel_rfl) (by kernel_rfl) ⟨aj _,aj _,aj _,aj _,aj _,aj _,aj _,aj _,trivial⟩
 case hop=>
  constructor
  ·rintro-w3 D3;exact au (ab bJ rfl) rfl
  constructor
  ·rintro-w4 D4;rintro _ rfl;exact au (ar ao rfl (by exact (show _=some (Value.int .i64 m.tm) from (hm3.from_ (ah.rfl_.next D4)).rd 3 rfl))) rfl
  constructor
  ·rintro-w5 D5;exact au (aK (v:=.pointer _) rfl) rfl
  constructor
  ·rintro-w6 D6;rintro _ rfl;exact au (aw rfl) rfl
  constructor
  ·rintro-w7 D7;rintro _ rfl;exact au (ab br rfl) rfl
  constructor
  ·rintro-w8 D8;rintro _ rfl;exact au (ab bL rfl) rfl
  constructor
  ·rintro-w9 D9;rintro _ rfl;exact au (ar ao rfl (by exact (show _=some (Value.int .i64 s.term) from (h3.from_ (ah.rfl_.next D9)).rd (fun _=>rfl)))) rfl
  constructor
  ·rintro-w10 D10;rintro v10_6 rfl v10_11 rfl;exact au (c8 (ch rfl rfl) (decide_eq_false (by omega))) rfl
  exact trivial
 case hend=>
  intro w11 D11;rintro _ rfl v6 rfl _ rfl _ rfl _ rfl _ rfl v11 rfl _ rfl;show St ..;refine ai (ag (bA rfl (aM (ag (ak (ak ?_))))))
  skip
  apply bY 8 [(17,eqp _),(18,eqp (.int .i64 m.tm)),(19,eqp _),(20,eqp _),(21,eqp _),(22,eqp _),(23,eqp (.int .i64 s.term)),(24,eqp _)] (by repeat first | exact cB | refine cz ?_ | refine ck ?_) (by kernel_rfl) (by kernel_rfl) ⟨aj _,aj _,aj _,aj _,aj _,aj _,aj _,aj _,trivial⟩
  case hop=>
   constructor
   ·rintro-w13 D13;exact au (ab bJ rfl) rfl
   constructor
   ·rintro-w14 D14;rintro _ rfl;exact au (ar ao rfl (by exact (show _=some (Value.int .i64 m.tm) from ((h3.kept hzb hm9).from_ ((ah.rfl_.next D11).next D14)).rd 3 rfl))) rfl
   constructor
   ·rintro-w15 D15;exact au (aK (v:=.pointer _) rfl) rfl
   constructor
   ·rintro-w16 D16;rintro _ rfl;exact au (aw rfl) rfl
   constructor
   ·rintro-w17 D17;rintro _ rfl;exact au (ab br rfl) rfl
   constructor
   ·rintro-w18 D18;rintro _ rfl;exact au (ab bL rfl) rfl
   constructor
   ·rintro-w19 D19;rintro _ rfl;exact au (ar ao rfl (by exact (show _=some (Value.int .i64 s.term) from (h3.from_ ((ah.rfl_.next D11).next D19)).rd (fun _=>rfl)))) rfl
   constructor
   ·rintro-w20 D20;rintro v20_18 rfl v20_23 rfl;exact au (c8 (cg rfl rfl) (decide_eq_false (by have:=fJ s m.tm;omega))) rfl
   exact trivial
  case hend=>
   intro w21 D21;rintro _ rfl v18 rfl _ rfl _ rfl _ rfl _ rfl v23 rfl _ rfl;show St ..;refine ai (ag (bA rfl (aM (ag (ak (af (aa (ab cM rfl) (aa (ar ao rfl (by exact (show _=some (Value.int .i64 m.k) from ((h3.kept hzb hm9).from_ ((ah.rfl_.next D11).next D21)).rd 0 rfl))) ?_))))))));refine ai (ag (a_ (ak (af (aa (c8 (bt rfl rfl) (beq_eq_false_iff_ne.2 (by omega))) (asb rfl (ai (ag (bA rfl (ak (af (aa (c8 (bt rfl rfl) (beq_eq_false_iff_ne.2 (by omega))) (asb rfl (ai (ag ?_)))))))))))))));refine bA rfl (ak (ak (af (aa (dh (bt rfl rfl) (beq_iff_eq.2 hk)) (asb rfl (ai (ag (aR rfl (aM (ag (aR rfl (ak (ak (af ?_))))))))))))));refine mvp rfl (aa (aw rfl) (aa (ab br rfl) (aa (ab cZ rfl) (aa (ar ao rfl (by exact (show _=some (Value.int .i64 s.role) from (h3.from_ ((ah.rfl_.next D11).next D21)).rd (fun _=>rfl)))) ?_))));refine aa (bt rfl rfl) (ai (ag (Bm rfl (fun Q22=>?_) (fun Q22=>?_))))
   ·refine aC (aE (bD (eB rfl ?_)));rw [mV (by omega) hk,tM (by omega)];exact ⟨rfl,h.back hE3 (h3.from_ ((ah.rfl_.next D11).next D21)) hzi⟩
   refine aM (ag (fY (G:=Unit) [137,138,139,140,141,142,143,144,145,146,147,148,149] (fun _=>[]) (fun _ w'=>aZ wm Z7 w' T g ⟨cR s,[]⟩) ?_ ?_))
   ·refine ak (af (mvp rfl (aa (aw rfl) (aa (ab br rfl) (aa (ab cZ rfl) (aa (ar ao rfl (by exact (show _=some (Value.int .i64 s.role) from (h3.from_ ((ah.rfl_.next D11).next D21)).rd (fun _=>rfl)))) ?_))))));refine aa (dp rfl rfl) (ai (ag (aQ rfl (fun Q23=>?_) (fun Q23=>?_))))
    ·replace Q23:=dF Q23;replace Q23:=en Q23;refine af (mvp rfl (mvp rfl (aa (aw rfl) (aa (ab br rfl) (aa (ab bL rfl) (aa (ar ao rfl (by exact (show _=some (Value.int .i64 s.term) from (h3.from_ ((ah.rfl_.next D11).next D21)).rd (fun _=>rfl)))) ?_))))));refine az kv (ps wm Z7 T g ⟨s,[]⟩ _ (h3.from_ ((ah.rfl_.next D11).next D21)) s.term) ?_;rintro v149 w24 ⟨rfl,h9⟩;refine ai ?_;refine bT (()) trivial (by (iterate 13 refine bf rfl ?_);exact bB) ?_
     first
      |(rw [vU (by omega)];exact h9.from_ ah.rfl_)
      |(rw [vT (by omega)];exact h3.from_ ah.rfl_)
    replace Q23:=dG Q23;replace Q23:=ek Q23;refine aM ?_;refine bT (()) trivial (by (iterate 6 refine bf rfl ?_);exact bB) ?_
    first
     |(rw [vU (by omega)];exact h9.from_ ((ah.rfl_.next D11).next D21))
     |(rw [vT (by omega)];exact h3.from_ ((ah.rfl_.next D11).next D21))
   rintro _ ρ25 w25 h5;refine ak (af (mvp rfl (aa (ab cu rfl) (aa (ar ao rfl (by exact (show _=some (Value.int .i64 m.f) from ((h5.kept hzb hm9).from_ ah.rfl_).rd 1 rfl))) ?_))));refine aa (aw rfl) (aa (ab br rfl) (aa (ab dX rfl) (iA (s':=({ cR s with leader:=m.f }:Rf)) bd rfl rfl rfl (h5.from_ ah.rfl_) (fun _=>⟨by decide,rfl⟩) ⟨rfl,rfl,rfl,rfl,rfl,rfl⟩ ?_)));intro w26 h7;refine ai (ag (ak (af (mvp rfl (aa (aw rfl) (aa (ab br rfl) (aa (ab dq rfl) (iA (s':=(dR s m)) bd rfl rfl rfl (h7.from_ ah.rfl_) (fun _=>⟨by decide,rfl⟩) ⟨rfl,rfl,rfl,rfl,rfl,rfl⟩ ?_))))))));intro w27 h8;refine ai (ag (ak (af (aa (ab cM rfl) (aa (ar ao rfl (by exact (show _=some (Value.int .i64 m.k) from ((h8.kept hzb hm9).from_ ah.rfl_).rd 0 rfl))) ?_)))));refine aa (dh (bt rfl rfl) (beq_iff_eq.2 hk)) (ai (ag (aR rfl (af (mvp rfl (aa (aD (cs:=bH m) bh aU rfl (((h8.kept hzb hm9).from_ ah.rfl_).whole)) (az mN (nN wm Z7 T g (dR s m) m _ (h8.from_ ah.rfl_) (AB hF hf) (((he.from_ hE3).chg (fun h0 k hk9=>hzi k (hze h0 k hk9)) h8.fr).from_ ah.rfl_) hel hix hrun hq) ?_)))))));rintro v165 w28 ⟨rfl,h6⟩;refine ai (bN (du (eB rfl ?_)));rw [mV (by omega) hk,tN (by omega) hk];exact ⟨rfl,h.back hE3 (h6.from_ ah.rfl_) hzi⟩
theorem wO (w0:World) (Z:Nat→Prop) (T g:Nat) (s:Rf) (m:Msg) (w:World) (h:aZ w0 Z w T g ⟨s,[]⟩) (hF:RfF s) (ht:m.tm≤1099511627775) (hk:m.k=3) (hgt:s.term<m.tm) (hf:1≤m.f∧m.f≤s.nodes) (he:Em w m) (hze:Ez Z m) (hel:m.es.length≤1000000) (hix:0≤m.ix∧m.ix≤1099511627775) (hrun:dm m.es m.ix m.lt=true) (hq:inb 0 1099511627775 m.lt=true) :
 Rt prog 89 [.pointer (some ⟨g,0,none⟩),.agg (bH m).toArray] w (fun v w'=>v=.tuple #[]∧aZ w0 Z w' T g (cT s m)):=by
 have hFf:RfF (cH s m.tm):=hF.falls ht;have hrr:=hFf.ro;have hf9:1≤m.f∧m.f≤(cH s m.tm).nodes:=by rw [(im s m.tm).2.2.2.2.1];exact hf
 refine enter (n:=169) Tryz.func89 rfl rfl rfl (ak (af (bZ (v:=.agg _) rfl ?_)));intro b3 w1 E3 hb3 hk3;obtain ⟨wm,hwm⟩:∃ x,x=w1:=⟨_,rfl⟩
 have h3a:=h.at_ (Z':=fun k=>Z k∨k=b3) E3 (fun k hk=>by
  rcases hk with e | e
  ·exact ⟨Nat.lt_of_lt_of_le (h.zw k e) E3.size,.inl e⟩
  ·subst e;exact ⟨hk3.lt,.inr (by omega)⟩)
 obtain ⟨Z7,hZ7⟩:∃ Z7,Z7=fun k=>Z k∨k=b3:=⟨_,rfl⟩
 have h3:aZ wm Z7 w1 T g ⟨s,[]⟩:=by
  rw [hZ7,hwm];exact h3a
 have hzi:∀ k,Z k→Z7 k:=fun k hk=>by rw [hZ7];exact .inl hk
 have hzb:Z7 b3:=by rw [hZ7];exact .inr rfl
 have hE3:ah w wm:=by rw [hwm];exact E3
 have hm9:Blk wm b3 39 (bH m).toArray:=by rw [hwm];exact hk3
 have hm3:=h3.kept hzb hm9;refine ai (ag (ak (ak ?_)))
 skip
 apply bY 8 [(5,eqp _),(6,eqp (.int .i64 m.tm)),(7,eqp _),(8,eqp _),(9,eqp _),(10,eqp _),(11,eqp (.int .i64 s.term)),(12,eqp _)] (by repeat first | exact cB | refine cz ?_ | refine ck ?_) (by kernel_rfl) (by kernel_rfl) ⟨aj _,aj _,aj _,aj _,aj _,aj _,aj _,aj _,trivial⟩
 case hop=>
  constructor
  ·rintro-w3 D3;exact au (ab bJ rfl) rfl
  constructor
  ·rintro-w4 D4;rintro _ rfl;exact au (ar ao rfl (by exact (show _=some (Value.int .i64 m.tm) from (hm3.from_ (ah.rfl_.next D4)).rd 3 rfl))) rfl
  constructor
  ·rintro-w5 D5;exact au (aK (v:=.pointer _) rfl) rfl
  constructor
  ·rintro-w6 D6;rintro _ rfl;exact au (aw rfl) rfl
  constructor
  ·rintro-w7 D7;rintro _ rfl;exact au (ab br rfl) rfl
  constructor
  ·rintro-w8 D8;rintro _ rfl;exact au (ab bL rfl) rfl
  constructor
  ·rintro-w9 D9;rintro _ rfl;exact au (ar ao rfl (by exact (show _=some (Value.int .i64 s.term) from (h3.from_ (ah.rfl_.next D9)).rd (fun _=>rfl)))) rfl
  constructor
  ·rintro-w10 D10;rintro v10_6 rfl v10_11 rfl;exact au (dh (ch rfl rfl) (decide_eq_true hgt)) rfl
  exact trivial
 case hend=>
  intro w11 D11;rintro _ rfl v6 rfl _ rfl _ rfl _ rfl _ rfl v11 rfl _ rfl;show St ..;refine ai (ag (aR rfl (af (mvp rfl (aa (ab bJ rfl) (aa (ar ao rfl (by exact (show _=some (Value.int .i64 m.tm) from (hm3.from_ (ah.rfl_.next D11)).rd 3 rfl))) ?_))))));refine az kv (ps wm Z7 T g ⟨s,[]⟩ _ (h3.from_ (ah.rfl_.next D11)) m.tm) ?_;rintro v16 w12 ⟨rfl,h4⟩;refine ai (ag (ak (ak ?_)))
  skip
  apply bY 8 [(17,eqp _),(18,eqp (.int .i64 m.tm)),(19,eqp _),(20,eqp _),(21,eqp _),(22,eqp _),(23,eqp (.int .i64 (cH s m.tm).term)),(24,eqp _)] (by repeat first | exact cB | refine cz ?_ | refine ck ?_) (by kernel_rfl) (by kernel_rfl) ⟨aj _,aj _,aj _,aj _,aj _,aj _,aj _,aj _,trivial⟩
  case hop=>
   constructor
   ·rintro-w14 D14;exact au (ab bJ rfl) rfl
   constructor
   ·rintro-w15 D15;rintro _ rfl;exact au (ar ao rfl (by exact (show _=some (Value.int .i64 m.tm) from ((h4.kept hzb hm9).from_ (ah.rfl_.next D15)).rd 3 rfl))) rfl
   constructor
   ·rintro-w16 D16;exact au (aK (v:=.pointer _) rfl) rfl
   constructor
   ·rintro-w17 D17;rintro _ rfl;exact au (aw rfl) rfl
   constructor
   ·rintro-w18 D18;rintro _ rfl;exact au (ab br rfl) rfl
   constructor
   ·rintro-w19 D19;rintro _ rfl;exact au (ab bL rfl) rfl
   constructor
   ·rintro-w20 D20;rintro _ rfl;exact au (ar ao rfl (by exact (show _=some (Value.int .i64 (cH s m.tm).term) from (h4.from_ (ah.rfl_.next D20)).rd (fun _=>rfl)))) rfl
   constructor
   ·rintro-w21 D21;rintro v21_18 rfl v21_23 rfl;exact au (c8 (cg rfl rfl) (decide_eq_false (by have:=fJ s m.tm;omega))) rfl
   exact trivial
  case hend=>
   intro w22 D22;rintro _ rfl v18 rfl _ rfl _ rfl _ rfl _ rfl v23 rfl _ rfl;show St ..;refine ai (ag (bA rfl (aM (ag (ak (af (aa (ab cM rfl) (aa (ar ao rfl (by exact (show _=some (Value.int .i64 m.k) from ((h4.kept hzb hm9).from_ (ah.rfl_.next D22)).rd 0 rfl))) ?_))))))));refine ai (ag (a_ (ak (af (aa (c8 (bt rfl rfl) (beq_eq_false_iff_ne.2 (by omega))) (asb rfl (ai (ag (bA rfl (ak (af (aa (c8 (bt rfl rfl) (beq_eq_false_iff_ne.2 (by omega))) (asb rfl (ai (ag ?_)))))))))))))));refine bA rfl (ak (ak (af (aa (dh (bt rfl rfl) (beq_iff_eq.2 hk)) (asb rfl (ai (ag (aR rfl (aM (ag (aR rfl (ak (ak (af ?_))))))))))))));refine mvp rfl (aa (aw rfl) (aa (ab br rfl) (aa (ab cZ rfl) (aa (ar ao rfl (by exact (show _=some (Value.int .i64 (cH s m.tm).role) from (h4.from_ (ah.rfl_.next D22)).rd (fun _=>rfl)))) ?_))));refine aa (bt rfl rfl) (ai (ag (Bm rfl (fun Q23=>?_) (fun Q23=>?_))))
   ·refine aC (aE (bD (eB rfl ?_)));rw [oM hgt,mV (by have:=fJ s m.tm;omega) hk,tM (by omega)];exact ⟨rfl,h.back hE3 (h4.from_ (ah.rfl_.next D22)) hzi⟩
   refine aM (ag (fY (G:=Unit) [137,138,139,140,141,142,143,144,145,146,147,148,149] (fun _=>[]) (fun _ w'=>aZ wm Z7 w' T g ⟨cR (cH s m.tm),[]⟩) ?_ ?_))
   ·refine ak (af (mvp rfl (aa (aw rfl) (aa (ab br rfl) (aa (ab cZ rfl) (aa (ar ao rfl (by exact (show _=some (Value.int .i64 (cH s m.tm).role) from (h4.from_ (ah.rfl_.next D22)).rd (fun _=>rfl)))) ?_))))));refine aa (dp rfl rfl) (ai (ag (aQ rfl (fun Q24=>?_) (fun Q24=>?_))))
    ·replace Q24:=dF Q24;replace Q24:=en Q24;refine af (mvp rfl (mvp rfl (aa (aw rfl) (aa (ab br rfl) (aa (ab bL rfl) (aa (ar ao rfl (by exact (show _=some (Value.int .i64 (cH s m.tm).term) from (h4.from_ (ah.rfl_.next D22)).rd (fun _=>rfl)))) ?_))))));refine az kv (ps wm Z7 T g ⟨(cH s m.tm),[]⟩ _ (h4.from_ (ah.rfl_.next D22)) (cH s m.tm).term) ?_;rintro v149 w25 ⟨rfl,h9⟩;refine ai ?_;refine bT (()) trivial (by (iterate 13 refine bf rfl ?_);exact bB) ?_
     first
      |(rw [vU (by omega)];exact h9.from_ ah.rfl_)
      |(rw [vT (by omega)];exact h4.from_ ah.rfl_)
    replace Q24:=dG Q24;replace Q24:=ek Q24;refine aM ?_;refine bT (()) trivial (by (iterate 6 refine bf rfl ?_);exact bB) ?_
    first
     |(rw [vU (by omega)];exact h9.from_ (ah.rfl_.next D22))
     |(rw [vT (by omega)];exact h4.from_ (ah.rfl_.next D22))
   rintro _ ρ26 w26 h5;refine ak (af (mvp rfl (aa (ab cu rfl) (aa (ar ao rfl (by exact (show _=some (Value.int .i64 m.f) from ((h5.kept hzb hm9).from_ ah.rfl_).rd 1 rfl))) ?_))));refine aa (aw rfl) (aa (ab br rfl) (aa (ab dX rfl) (iA (s':=({ cR (cH s m.tm) with leader:=m.f }:Rf)) bd rfl rfl rfl (h5.from_ ah.rfl_) (fun _=>⟨by decide,rfl⟩) ⟨rfl,rfl,rfl,rfl,rfl,rfl⟩ ?_)));intro w27 h7;refine ai (ag (ak (af (mvp rfl (aa (aw rfl) (aa (ab br rfl) (aa (ab dq rfl) (iA (s':=(dR (cH s m.tm) m)) bd rfl rfl rfl (h7.from_ ah.rfl_) (fun _=>⟨by decide,rfl⟩) ⟨rfl,rfl,rfl,rfl,rfl,rfl⟩ ?_))))))));intro w28 h8;refine ai (ag (ak (af (aa (ab cM rfl) (aa (ar ao rfl (by exact (show _=some (Value.int .i64 m.k) from ((h8.kept hzb hm9).from_ ah.rfl_).rd 0 rfl))) ?_)))));refine aa (dh (bt rfl rfl) (beq_iff_eq.2 hk)) (ai (ag (aR rfl (af (mvp rfl (aa (aD (cs:=bH m) bh aU rfl (((h8.kept hzb hm9).from_ ah.rfl_).whole)) (az mN (nN wm Z7 T g (dR (cH s m.tm) m) m _ (h8.from_ ah.rfl_) (AB hFf hf9) (((he.from_ hE3).chg (fun h0 k hk9=>hzi k (hze h0 k hk9)) h8.fr).from_ ah.rfl_) hel hix hrun hq) ?_)))))));rintro v165 w29 ⟨rfl,h6⟩;refine ai (bN (du (eB rfl ?_)));rw [oM hgt,mV (by have:=fJ s m.tm;omega) hk,tN (by omega) hk];exact ⟨rfl,h.back hE3 (h6.from_ ah.rfl_) hzi⟩
theorem rY (w0:World) (Z:Nat→Prop) (T g:Nat) (s:Rf) (m:Msg) (w:World) (h:aZ w0 Z w T g ⟨s,[]⟩) (hF:RfF s) (ht:m.tm≤1099511627775) (hk:m.k=3) (hf:1≤m.f∧m.f≤s.nodes) (he:Em w m) (hze:Ez Z m) (hel:m.es.length≤1000000) (hix:0≤m.ix∧m.ix≤1099511627775) (hrun:dm m.es m.ix m.lt=true) (hq:inb 0 1099511627775 m.lt=true):Rt prog 89 [.pointer (some ⟨g,0,none⟩),.agg (bH m).toArray] w fun v w'=>v=.tuple #[]∧aZ w0 Z w' T g (cT s m):=by
 rcases Int.lt_trichotomy m.tm s.term with h1 | h1 | h1
 ·exact yM w0 Z T g s m w h h1
 ·exact wP w0 Z T g s m w h hF ht hk h1.symm hf he hze hel hix hrun hq
 ·exact wO w0 Z T g s m w h hF ht hk h1 hf he hze hel hix hrun hq
theorem uq:aN prog 88=true:=by kernel_rfl
theorem xA (m:Msg):m.tm<m.lt∨(¬ m.tm<m.lt∧m.es.length=0)∨(¬ m.tm<m.lt∧∃ h:m.es.length-1<m.es.length,m.tm<(m.es[m.es.length-1]'h).t)∨(¬ m.tm<m.lt∧∃ h:m.es.length-1<m.es.length,¬ m.tm<(m.es[m.es.length-1]'h).t):=by
 by_cases h1:m.tm<m.lt
 ·exact .inl h1
 ·by_cases h2:m.es.length=0
  ·exact .inr (.inl ⟨h1,h2⟩)
  ·have h:m.es.length-1<m.es.length:=by omega
   by_cases h3:m.tm<(m.es[m.es.length-1]'h).t
   ·exact .inr (.inr (.inl ⟨h1,h,h3⟩))
   ·exact .inr (.inr (.inr ⟨h1,h,h3⟩))
theorem uG:∀ (l:List Ent) (p t:Int) (h:l.length-1<l.length),dm l p t=true→∀ e∈l,e.t≤(l[l.length-1]'h).t
 |[e],_,_,_,_,x,hx=>by
  rw [List.mem_singleton] at hx;subst hx;exact Int.le_refl _
 |e::e2::r,p,t,_,hr,x,hx=>by
  have h1:=(et hr).2;have h2:=uG (e2::r) (p+1) e.t (by simp) h1;have h3:(e::e2::r)[(e::e2::r).length-1]'(by simp)=(e2::r)[(e2::r).length-1]'(by simp):=by simp
  rw [h3];rcases List.mem_cons.1 hx with e9 | e9
  ·subst e9
   have h4:x.t≤e2.t:=by
    simp only [dm,fL,Bool.and_eq_true,decide_eq_true_eq] at h1;have:=dk h1.1.1.2;omega
   exact Int.le_trans h4 (h2 e2 (List.mem_cons_self ..))
  ·exact h2 x e9
def nH (m:Msg):Prop:=m.lt≤m.tm∧∀ h:m.es.length-1<m.es.length,(m.es[m.es.length-1]'h).t≤m.tm
theorem gd {s:Rf} {m:Msg} (hk:m.k=3∨m.k=5) (hok:OkM m):vK s m=true↔m.t=s.id∧m.f≠s.id∧m.f≤s.nodes∧nH m:=by
 rw [fu];constructor
 ·rintro ⟨h1,h2,h3,h4⟩;have h5:=h4 hk;exact ⟨h1,h2,h3,h5.1,fun h=>h5.2 _ (List.getElem_mem h)⟩
 ·rintro ⟨h1,h2,h3,h4,h5⟩;refine ⟨h1,h2,h3,fun _=>⟨h4,fun e he=>?_⟩⟩
  have hl:m.es.length-1<m.es.length:=by
   have:=List.length_pos_of_mem he;omega
  rcases hk with hk | hk
  ·exact Int.le_trans (uG m.es m.ix m.lt hl (hok.2.2.1 hk).2 e he) (h5 hl)
  ·have h6:=hok.2.1;unfold ExR at h6;rw [if_neg (by omega),if_neg (by omega),if_neg (by omega),if_neg (by omega),if_pos hk] at h6;exact absurd h6.2.2 (by omega)
theorem tE (s:Rf) (a:Ra) (m:Msg) (w:World) (he:Em w m) (hl:m.es.length≤1000000) (hk:m.k=3) (hmr:yv m) (bb:Bool) (hbb:bb=decide (OkM m)) :
 Rt prog 45 [.agg (rfV s a).toArray,.agg (bH m).toArray] w (fun v w'=>v=.bool (bb&&vK s m)∧ah w w'):=by
 obtain ⟨Ee,hEe⟩:∃ x,x=m.E:=⟨_,rfl⟩;refine enter (n:=61) Tryz.func45 rfl rfl rfl (ak (af (bZ (v:=.agg _) rfl ?_)));intro b2 w1 E2 hb2 hk2;refine bZ (v:=.agg _) rfl ?_;intro b3 w2 E3 hb3 hk3;replace hk2:=hk2.from_ E3;refine asb rfl (ai (ag (fY (G:=Unit) [4,5,6,7,8,9,10,11,12,13,14,15,16,17,18,19,20,21,22,23,24,25,26,27,28,29,30,31,32,33,34,35,36,37] (fun _=>[]) (fun _ w'=>nH m∧Blk w' b2 29 (rfV s a).toArray∧Blk w' b3 39 (bH m).toArray∧ah w w') ?_ ?_)))
 ·refine ak (af (aa (ab cM rfl) (aa (ar ao rfl (by exact (show _=some (Value.int .i64 m.k) from (hk3.from_ ah.rfl_).rd 0 rfl))) ?_)));refine aa (dh (bt rfl rfl) (beq_iff_eq.2 hk)) (mvb rfl (an rfl rfl (an rfl rfl (an rfl rfl (aa (aG (v:=.bool _) rfl rfl) (ai (ag (aR rfl (ak ?_)))))))));rcases xA m with h1 | ⟨h1,h2⟩ | ⟨h1,hx,h3⟩ | ⟨h1,hx,h3⟩
  ·have hno:¬ nH m:=fun e=>by have:=e.1;omega
   apply bY 25 [(13,eqp _),(14,eqp (.int .i64 m.lt)),(15,eqp _),(16,eqp (.int .i64 m.tm)),(17,eqp _),(18,eqp _),(19,eqp _),(20,eqp _),(21,eqp _),(22,eqp _),(23,eqp _),(24,eqp _),(25,eqp _),(26,eqp _),(27,eqp _),(28,eqp _),(29,eqp _),(30,eqp _),(31,eqp _),(32,eqp _),(33,eqp _),(34,eqp _),(35,eqp _),(36,eqp _),(37,eqp _)] (by repeat first | exact cB | refine cz ?_ | refine ck ?_) (by kernel_rfl) (by kernel_rfl) ⟨aj _,aj _,aj _,aj _,aj _,aj _,aj _,aj _,aj _,aj _,aj _,aj _,aj _,aj _,aj _,aj _,aj _,aj _,aj _,aj _,aj _,aj _,aj _,aj _,aj _,trivial⟩
   case hop=>
    constructor
    ·rintro-w4 D4;exact au (ab cV rfl) rfl
    constructor
    ·rintro-w5 D5;rintro _ rfl;exact au (ar ao rfl (by exact (show _=some (Value.int .i64 m.lt) from (hk3.from_ (ah.rfl_.next D5)).rd 5 rfl))) rfl
    constructor
    ·rintro-w6 D6;exact au (ab bJ rfl) rfl
    constructor
    ·rintro-w7 D7;rintro _ rfl;exact au (ar ao rfl (by exact (show _=some (Value.int .i64 m.tm) from (hk3.from_ (ah.rfl_.next D7)).rd 3 rfl))) rfl
    constructor
    ·rintro-w8 D8;rintro v8_14 rfl v8_16 rfl;exact au (dh (ch rfl rfl) (decide_eq_true h1)) rfl
    constructor
    ·rintro-w9 D9;rintro _ rfl;exact au (aK (v:=.bool _) rfl) rfl
    constructor
    ·rintro-w10 D10;rintro _ rfl;exact cG rfl rfl rfl
    constructor
    ·rintro-w11 D11;rintro _ rfl _ rfl;exact cG rfl rfl rfl
    constructor
    ·rintro-w12 D12;rintro _ rfl _ rfl;exact cG rfl rfl rfl
    constructor
    ·rintro-w13 D13;rintro _ rfl _ rfl;exact cG rfl rfl rfl
    constructor
    ·rintro-w14 D14;rintro _ rfl _ rfl;exact cG rfl rfl rfl
    constructor
    ·rintro-w15 D15;rintro _ rfl;exact gG rfl rfl
    constructor
    ·rintro-w16 D16;rintro _ rfl _ rfl;exact gG rfl rfl
    constructor
    ·rintro-w17 D17;rintro _ rfl;exact gG rfl rfl
    constructor
    ·rintro-w18 D18;rintro _ rfl _ rfl;exact gG rfl rfl
    constructor
    ·rintro-w19 D19;rintro _ rfl _ rfl;exact gG rfl rfl
    constructor
    ·rintro-w20 D20;rintro _ rfl _ rfl;exact gG rfl rfl
    constructor
    ·rintro-w21 D21;rintro _ rfl _ rfl _ rfl;exact gG rfl rfl
    constructor
    ·rintro-w22 D22;rintro _ rfl _ rfl;exact gG rfl rfl
    constructor
    ·rintro-w23 D23;rintro _ rfl _ rfl;exact gG rfl rfl
    constructor
    ·rintro-w24 D24;rintro _ rfl;exact gG rfl rfl
    constructor
    ·rintro-w25 D25;rintro _ rfl _ rfl;exact gG rfl rfl
    constructor
    ·rintro-w26 D26;rintro _ rfl _ rfl _ rfl;exact gG rfl rfl
    constructor
    ·rintro-w27 D27;rintro _ rfl _ rfl _ rfl;exact cG rfl rfl rfl
    constructor
    ·rintro-w28 D28;rintro _ rfl _ rfl;exact au (aG (v:=.bool _) rfl rfl) rfl
    exact trivial
   case hend=>
    intro w29 D29;rintro _ rfl v14 rfl _ rfl v16 rfl _ rfl _ rfl _ rfl _ rfl _ rfl _ rfl _ rfl _ rfl _ rfl _ rfl _ rfl _ rfl _ rfl _ rfl _ rfl _ rfl _ rfl _ rfl _ rfl _ rfl _ rfl;show St ..;refine ai (ag (aR rfl (ak (af (asb rfl (ai (ag (aC (aE (bw (v:=.bool _) rfl rfl (⟨congrArg Value.bool ?_,(((ah.rfl_.next E2).next E3).next D29)⟩)))))))))));rw [eq_comm,Bool.and_eq_false_iff];by_cases hb9:bb=true
    ·right
     rw [hbb,decide_eq_true_eq] at hb9;rw [←Bool.not_eq_true,gd (by omega) hb9];exact fun e=>hno e.2.2.2
    ·left
     simpa using hb9
  ·have hle:nH m:=⟨by omega,fun h=>by omega⟩;apply bY 25 [(13,eqp _),(14,eqp (.int .i64 m.lt)),(15,eqp _),(16,eqp (.int .i64 m.tm)),(17,eqp _),(18,eqp _),(19,eqp _),(20,eqp (.slice Ee m.es.length m.c)),(21,eqp _),(22,eqp _),(23,eqp _),(24,eqp _),(25,eqp _),(26,eqp _),(27,eqp _),(28,eqp _),(29,eqp _),(30,eqp _),(31,eqp _),(32,eqp _),(33,eqp _),(34,eqp _),(35,eqp _),(36,eqp _),(37,eqp _)] (by repeat first | exact cB | refine cz ?_ | refine ck ?_) (by kernel_rfl) (by kernel_rfl) ⟨aj _,aj _,aj _,aj _,aj _,aj _,aj _,aj _,aj _,aj _,aj _,aj _,aj _,aj _,aj _,aj _,aj _,aj _,aj _,aj _,aj _,aj _,aj _,aj _,aj _,trivial⟩
   case hop=>
    constructor
    ·rintro-w31 D31;exact au (ab cV rfl) rfl
    constructor
    ·rintro-w32 D32;rintro _ rfl;exact au (ar ao rfl (by exact (show _=some (Value.int .i64 m.lt) from (hk3.from_ (ah.rfl_.next D32)).rd 5 rfl))) rfl
    constructor
    ·rintro-w33 D33;exact au (ab bJ rfl) rfl
    constructor
    ·rintro-w34 D34;rintro _ rfl;exact au (ar ao rfl (by exact (show _=some (Value.int .i64 m.tm) from (hk3.from_ (ah.rfl_.next D34)).rd 3 rfl))) rfl
    constructor
    ·rintro-w35 D35;rintro v35_14 rfl v35_16 rfl;exact au (c8 (ch rfl rfl) (decide_eq_false h1)) rfl
    constructor
    ·rintro-w36 D36;rintro _ rfl;exact au (aK (v:=.bool _) rfl) rfl
    constructor
    ·rintro-w37 D37;rintro _ rfl;exact bc rfl (ab bS rfl) rfl
    constructor
    ·rintro-w38 D38;rintro _ rfl _ rfl;exact bc rfl (ar bk rfl (by first | exact (show _=some (Value.slice Ee m.es.length m.c) from by rw [hEe];exact (hk3.from_ (ah.rfl_.next D38)).rd 9 rfl) | exact (show _=some (Value.slice (some ⟨ba,oa,none⟩) m.es.length m.c) from by rw [hEe];exact (hk3.from_ (ah.rfl_.next D38)).rd 9 rfl))) rfl
    constructor
    ·rintro-w39 D39;rintro _ rfl v39_20 rfl;exact bc rfl (bF bC rfl) rfl
    constructor
    ·rintro-w40 D40;rintro _ rfl _ rfl;exact bc rfl (c8 (ch rfl rfl) (decide_eq_false (by omega))) rfl
    constructor
    ·rintro-w41 D41;rintro _ rfl _ rfl;exact bc rfl (aK (v:=.bool _) rfl) rfl
    constructor
    ·rintro-w42 D42;rintro _ rfl;exact cG rfl rfl rfl
    constructor
    ·rintro-w43 D43;rintro _ rfl _ rfl;exact cG rfl rfl rfl
    constructor
    ·rintro-w44 D44;rintro _ rfl;exact cG rfl rfl rfl
    constructor
    ·rintro-w45 D45;rintro _ rfl _ rfl;exact cG rfl rfl rfl
    constructor
    ·rintro-w46 D46;rintro _ rfl _ rfl;exact cG rfl rfl rfl
    constructor
    ·rintro-w47 D47;rintro _ rfl _ rfl;exact cG rfl rfl rfl
    constructor
    ·rintro-w48 D48;rintro _ rfl _ rfl _ rfl;exact cG rfl rfl rfl
    constructor
    ·rintro-w49 D49;rintro _ rfl _ rfl;exact cG rfl rfl rfl
    constructor
    ·rintro-w50 D50;rintro _ rfl _ rfl;exact cG rfl rfl rfl
    constructor
    ·rintro-w51 D51;rintro _ rfl;exact cG rfl rfl rfl
    constructor
    ·rintro-w52 D52;rintro _ rfl _ rfl;exact cG rfl rfl rfl
    constructor
    ·rintro-w53 D53;rintro _ rfl _ rfl _ rfl;exact cG rfl rfl rfl
    constructor
    ·rintro-w54 D54;rintro _ rfl _ rfl _ rfl;exact bc rfl (av (v:=.bool _) rfl rfl) rfl
    constructor
    ·rintro-w55 D55;rintro _ rfl _ rfl;exact au (av (v:=.bool _) rfl rfl) rfl
    exact trivial
   case hend=>
    intro w56 D56;rintro _ rfl v14 rfl _ rfl v16 rfl _ rfl _ rfl _ rfl v20 rfl _ rfl _ rfl _ rfl _ rfl _ rfl _ rfl _ rfl _ rfl _ rfl _ rfl _ rfl _ rfl _ rfl _ rfl _ rfl _ rfl _ rfl;show St ..;refine ai (ag (bA rfl (aM ?_)));refine bT (()) trivial (by (iterate 33 refine bf rfl ?_);exact bB) ?_;exact ⟨hle,hk2.from_ (ah.rfl_.next D56),hk3.from_ (ah.rfl_.next D56),(((ah.rfl_.next E2).next E3).next D56)⟩
  ·have hno:¬ nH m:=fun e=>by have:=e.2 hx;omega
   obtain ⟨ba,oa,hE2,hca⟩:=jT he (by omega);obtain rfl:Ee=some ⟨ba,oa,none⟩:=hEe.trans hE2;apply bY 25 [(13,eqp _),(14,eqp (.int .i64 m.lt)),(15,eqp _),(16,eqp (.int .i64 m.tm)),(17,eqp _),(18,eqp _),(19,eqp _),(20,eqp (.slice (some ⟨ba,oa,none⟩) m.es.length m.c)),(21,eqp _),(22,eqp _),(23,eqp _),(24,eqp _),(25,eqp (.slice (some ⟨ba,oa,none⟩) m.es.length m.c)),(26,eqp _),(27,eqp (.slice (some ⟨ba,oa,none⟩) m.es.length m.c)),(28,eqp _),(29,eqp (.int .i64 ((m.es.length-1:Nat):Int))),(30,eqp (.pointer (some ⟨ba,oa+(m.es.length-1)*3,none⟩))),(31,eqp _),(32,eqp (.int .i64 (m.es[m.es.length-1]'hx).t)),(33,eqp _),(34,eqp (.int .i64 m.tm)),(35,eqp _),(36,eqp _),(37,eqp _)] (by repeat first | exact cB | refine cz ?_ | refine ck ?_) (by kernel_rfl) (by kernel_rfl) ⟨aj _,aj _,aj _,aj _,aj _,aj _,aj _,aj _,aj _,aj _,aj _,aj _,aj _,aj _,aj _,aj _,aj _,aj _,aj _,aj _,aj _,aj _,aj _,aj _,aj _,trivial⟩
   case hop=>
    constructor
    ·rintro-w58 D58;exact au (ab cV rfl) rfl
    constructor
    ·rintro-w59 D59;rintro _ rfl;exact au (ar ao rfl (by exact (show _=some (Value.int .i64 m.lt) from (hk3.from_ (ah.rfl_.next D59)).rd 5 rfl))) rfl
    constructor
    ·rintro-w60 D60;exact au (ab bJ rfl) rfl
    constructor
    ·rintro-w61 D61;rintro _ rfl;exact au (ar ao rfl (by exact (show _=some (Value.int .i64 m.tm) from (hk3.from_ (ah.rfl_.next D61)).rd 3 rfl))) rfl
    constructor
    ·rintro-w62 D62;rintro v62_14 rfl v62_16 rfl;exact au (c8 (ch rfl rfl) (decide_eq_false h1)) rfl
    constructor
    ·rintro-w63 D63;rintro _ rfl;exact au (aK (v:=.bool _) rfl) rfl
    constructor
    ·rintro-w64 D64;rintro _ rfl;exact bc rfl (ab bS rfl) rfl
    constructor
    ·rintro-w65 D65;rintro _ rfl _ rfl;exact bc rfl (ar bk rfl (by first | exact (show _=some (Value.slice Ee m.es.length m.c) from by rw [hEe];exact (hk3.from_ (ah.rfl_.next D65)).rd 9 rfl) | exact (show _=some (Value.slice (some ⟨ba,oa,none⟩) m.es.length m.c) from by rw [hEe];exact (hk3.from_ (ah.rfl_.next D65)).rd 9 rfl))) rfl
    constructor
    ·rintro-w66 D66;rintro _ rfl v66_20 rfl;exact bc rfl (bF bC rfl) rfl
    constructor
    ·rintro-w67 D67;rintro _ rfl _ rfl;exact bc rfl (dh (ch rfl rfl) (decide_eq_true (by omega))) rfl
    constructor
    ·rintro-w68 D68;rintro _ rfl _ rfl;exact bc rfl (aK (v:=.bool _) rfl) rfl
    constructor
    ·rintro-w69 D69;rintro _ rfl;exact bc rfl (ab bS rfl) rfl
    constructor
    ·rintro-w70 D70;rintro _ rfl _ rfl;exact bc rfl (ar bk rfl (by first | exact (show _=some (Value.slice Ee m.es.length m.c) from by rw [hEe];exact (hk3.from_ (ah.rfl_.next D70)).rd 9 rfl) | exact (show _=some (Value.slice (some ⟨ba,oa,none⟩) m.es.length m.c) from by rw [hEe];exact (hk3.from_ (ah.rfl_.next D70)).rd 9 rfl))) rfl
    constructor
    ·rintro-w71 D71;rintro _ rfl;exact bc rfl (ab bS rfl) rfl
    constructor
    ·rintro-w72 D72;rintro _ rfl _ rfl;exact bc rfl (ar bk rfl (by first | exact (show _=some (Value.slice Ee m.es.length m.c) from by rw [hEe];exact (hk3.from_ (ah.rfl_.next D72)).rd 9 rfl) | exact (show _=some (Value.slice (some ⟨ba,oa,none⟩) m.es.length m.c) from by rw [hEe];exact (hk3.from_ (ah.rfl_.next D72)).rd 9 rfl))) rfl
    constructor
    ·rintro-w73 D73;rintro _ rfl v73_27 rfl;exact bc rfl (bF bC rfl) rfl
    constructor
    ·rintro-w74 D74;rintro _ rfl _ rfl;exact bc rfl (nc rfl rfl (by omega) (by omega)) rfl
    constructor
    ·rintro-w75 D75;rintro _ rfl v75_25 rfl v75_29 rfl;exact bc rfl (bq bU rfl rfl hx) rfl
    constructor
    ·rintro-w76 D76;rintro _ rfl v76_30 rfl;exact bc rfl (ab dC rfl) rfl
    constructor
    ·rintro-w77 D77;rintro _ rfl _ rfl;exact bc rfl (ar ao rfl (by exact (show _=some (Value.int .i64 (m.es[m.es.length-1]'hx).t) from dT (((ah.rfl_.next E2).next E3).next D77) (hca _ hx) 1 _ rfl))) rfl
    constructor
    ·rintro-w78 D78;rintro _ rfl;exact bc rfl (ab bJ rfl) rfl
    constructor
    ·rintro-w79 D79;rintro _ rfl _ rfl;exact bc rfl (ar ao rfl (by exact (show _=some (Value.int .i64 m.tm) from (hk3.from_ (ah.rfl_.next D79)).rd 3 rfl))) rfl
    constructor
    ·rintro-w80 D80;rintro _ rfl v80_32 rfl v80_34 rfl;exact bc rfl (dh (ch rfl rfl) (decide_eq_true h3)) rfl
    constructor
    ·rintro-w81 D81;rintro _ rfl _ rfl _ rfl;exact bc rfl (aG (v:=.bool _) rfl rfl) rfl
    constructor
    ·rintro-w82 D82;rintro _ rfl _ rfl;exact au (av (v:=.bool _) rfl rfl) rfl
    exact trivial
   case hend=>
    intro w83 D83;rintro _ rfl v14 rfl _ rfl v16 rfl _ rfl _ rfl _ rfl v20 rfl _ rfl _ rfl _ rfl _ rfl v25 rfl _ rfl v27 rfl _ rfl v29 rfl v30 rfl _ rfl v32 rfl _ rfl v34 rfl _ rfl _ rfl _ rfl;show St ..;refine ai (ag (aR rfl (ak (af (asb rfl (ai (ag (aC (aE (bw (v:=.bool _) rfl rfl (⟨congrArg Value.bool ?_,(((ah.rfl_.next E2).next E3).next D83)⟩)))))))))));rw [eq_comm,Bool.and_eq_false_iff];by_cases hb9:bb=true
    ·right
     rw [hbb,decide_eq_true_eq] at hb9;rw [←Bool.not_eq_true,gd (by omega) hb9];exact fun e=>hno e.2.2.2
    ·left
     simpa using hb9
  have hle:nH m:=⟨by omega,fun h=>by omega⟩;obtain ⟨ba,oa,hE2,hca⟩:=jT he (by omega);obtain rfl:Ee=some ⟨ba,oa,none⟩:=hEe.trans hE2;apply bY 25 [(13,eqp _),(14,eqp (.int .i64 m.lt)),(15,eqp _),(16,eqp (.int .i64 m.tm)),(17,eqp _),(18,eqp _),(19,eqp _),(20,eqp (.slice (some ⟨ba,oa,none⟩) m.es.length m.c)),(21,eqp _),(22,eqp _),(23,eqp _),(24,eqp _),(25,eqp (.slice (some ⟨ba,oa,none⟩) m.es.length m.c)),(26,eqp _),(27,eqp (.slice (some ⟨ba,oa,none⟩) m.es.length m.c)),(28,eqp _),(29,eqp (.int .i64 ((m.es.length-1:Nat):Int))),(30,eqp (.pointer (some ⟨ba,oa+(m.es.length-1)*3,none⟩))),(31,eqp _),(32,eqp (.int .i64 (m.es[m.es.length-1]'hx).t)),(33,eqp _),(34,eqp (.int .i64 m.tm)),(35,eqp _),(36,eqp _),(37,eqp _)] (by repeat first | exact cB | refine cz ?_ | refine ck ?_) (by kernel_rfl) (by kernel_rfl) ⟨aj _,aj _,aj _,aj _,aj _,aj _,aj _,aj _,aj _,aj _,aj _,aj _,aj _,aj _,aj _,aj _,aj _,aj _,aj _,aj _,aj _,aj _,aj _,aj _,aj _,trivial⟩
  case hop=>
   constructor
   ·rintro-w85 D85;exact au (ab cV rfl) rfl
   constructor
   ·rintro-w86 D86;rintro _ rfl;exact au (ar ao rfl (by exact (show _=some (Value.int .i64 m.lt) from (hk3.from_ (ah.rfl_.next D86)).rd 5 rfl))) rfl
   constructor
   ·rintro-w87 D87;exact au (ab bJ rfl) rfl
   constructor
   ·rintro-w88 D88;rintro _ rfl;exact au (ar ao rfl (by exact (show _=some (Value.int .i64 m.tm) from (hk3.from_ (ah.rfl_.next D88)).rd 3 rfl))) rfl
   constructor
   ·rintro-w89 D89;rintro v89_14 rfl v89_16 rfl;exact au (c8 (ch rfl rfl) (decide_eq_false h1)) rfl
   constructor
   ·rintro-w90 D90;rintro _ rfl;exact au (aK (v:=.bool _) rfl) rfl
   constructor
   ·rintro-w91 D91;rintro _ rfl;exact bc rfl (ab bS rfl) rfl
   constructor
   ·rintro-w92 D92;rintro _ rfl _ rfl;exact bc rfl (ar bk rfl (by first | exact (show _=some (Value.slice Ee m.es.length m.c) from by rw [hEe];exact (hk3.from_ (ah.rfl_.next D92)).rd 9 rfl) | exact (show _=some (Value.slice (some ⟨ba,oa,none⟩) m.es.length m.c) from by rw [hEe];exact (hk3.from_ (ah.rfl_.next D92)).rd 9 rfl))) rfl
   constructor
   ·rintro-w93 D93;rintro _ rfl v93_20 rfl;exact bc rfl (bF bC rfl) rfl
   constructor
   ·rintro-w94 D94;rintro _ rfl _ rfl;exact bc rfl (dh (ch rfl rfl) (decide_eq_true (by omega))) rfl
   constructor
   ·rintro-w95 D95;rintro _ rfl _ rfl;exact bc rfl (aK (v:=.bool _) rfl) rfl
   constructor
   ·rintro-w96 D96;rintro _ rfl;exact bc rfl (ab bS rfl) rfl
   constructor
   ·rintro-w97 D97;rintro _ rfl _ rfl;exact bc rfl (ar bk rfl (by first | exact (show _=some (Value.slice Ee m.es.length m.c) from by rw [hEe];exact (hk3.from_ (ah.rfl_.next D97)).rd 9 rfl) | exact (show _=some (Value.slice (some ⟨ba,oa,none⟩) m.es.length m.c) from by rw [hEe];exact (hk3.from_ (ah.rfl_.next D97)).rd 9 rfl))) rfl
   constructor
   ·rintro-w98 D98;rintro _ rfl;exact bc rfl (ab bS rfl) rfl
   constructor
   ·rintro-w99 D99;rintro _ rfl _ rfl;exact bc rfl (ar bk rfl (by first | exact (show _=some (Value.slice Ee m.es.length m.c) from by rw [hEe];exact (hk3.from_ (ah.rfl_.next D99)).rd 9 rfl) | exact (show _=some (Value.slice (some ⟨ba,oa,none⟩) m.es.length m.c) from by rw [hEe];exact (hk3.from_ (ah.rfl_.next D99)).rd 9 rfl))) rfl
   constructor
   ·rintro-w100 D100;rintro _ rfl v100_27 rfl;exact bc rfl (bF bC rfl) rfl
   constructor
   ·rintro-w101 D101;rintro _ rfl _ rfl;exact bc rfl (nc rfl rfl (by omega) (by omega)) rfl
   constructor
   ·rintro-w102 D102;rintro _ rfl v102_25 rfl v102_29 rfl;exact bc rfl (bq bU rfl rfl hx) rfl
   constructor
   ·rintro-w103 D103;rintro _ rfl v103_30 rfl;exact bc rfl (ab dC rfl) rfl
   constructor
   ·rintro-w104 D104;rintro _ rfl _ rfl;exact bc rfl (ar ao rfl (by exact (show _=some (Value.int .i64 (m.es[m.es.length-1]'hx).t) from dT (((ah.rfl_.next E2).next E3).next D104) (hca _ hx) 1 _ rfl))) rfl
   constructor
   ·rintro-w105 D105;rintro _ rfl;exact bc rfl (ab bJ rfl) rfl
   constructor
   ·rintro-w106 D106;rintro _ rfl _ rfl;exact bc rfl (ar ao rfl (by exact (show _=some (Value.int .i64 m.tm) from (hk3.from_ (ah.rfl_.next D106)).rd 3 rfl))) rfl
   constructor
   ·rintro-w107 D107;rintro _ rfl v107_32 rfl v107_34 rfl;exact bc rfl (c8 (ch rfl rfl) (decide_eq_false h3)) rfl
   constructor
   ·rintro-w108 D108;rintro _ rfl _ rfl _ rfl;exact bc rfl (aG (v:=.bool _) rfl rfl) rfl
   constructor
   ·rintro-w109 D109;rintro _ rfl _ rfl;exact au (av (v:=.bool _) rfl rfl) rfl
   exact trivial
  case hend=>
   intro w110 D110;rintro _ rfl v14 rfl _ rfl v16 rfl _ rfl _ rfl _ rfl v20 rfl _ rfl _ rfl _ rfl _ rfl v25 rfl _ rfl v27 rfl _ rfl v29 rfl v30 rfl _ rfl v32 rfl _ rfl v34 rfl _ rfl _ rfl _ rfl;show St ..;refine ai (ag (bA rfl (aM ?_)));refine bT (()) trivial (by (iterate 33 refine bf rfl ?_);exact bB) ?_;exact ⟨hle,hk2.from_ (ah.rfl_.next D110),hk3.from_ (ah.rfl_.next D110),(((ah.rfl_.next E2).next E3).next D110)⟩
 rintro _ ρ111 w111 ⟨hle,hk2,hk3,hB⟩;refine ak (af (aa (aD (cs:=bH m) bh aU rfl ((hk3.from_ ah.rfl_).whole)) (az uq (hmr.is (he.from_ hB) hbb.symm) ?_)));rintro v39 w112 ⟨rfl,E39⟩;refine mvb rfl (aJ (t:=40) rfl (fun Q113=>?_) (fun Q113=>?_))
 ·have hbt:bb=true:=Q113;refine ae rfl (aa (ab eC rfl) (ae rfl (aa (ar ao rfl (by exact (show _=some (Value.int .i64 m.t) from (hk3.from_ (ah.rfl_.next E39)).rd 2 rfl))) ?_)));refine ae rfl (aa (ab cw rfl) (ae rfl (aa (ar ao rfl (by exact (show _=some (Value.int .i64 s.id) from (hk2.from_ (ah.rfl_.next E39)).rd 0 rfl))) ?_)));refine ae rfl (aa (bt rfl rfl) (aa (aG (v:=.bool _) rfl rfl) (mvb rfl (AO (t:=47) rfl (fun Q114=>?_) (fun Q114=>?_)))))
  ·refine ae rfl (aa (ab cu rfl) (ae rfl (aa (ar ao rfl (by exact (show _=some (Value.int .i64 m.f) from (hk3.from_ (ah.rfl_.next E39)).rd 1 rfl))) ?_)));refine ae rfl (aa (ab cw rfl) (ae rfl (aa (ar ao rfl (by exact (show _=some (Value.int .i64 s.id) from (hk2.from_ (ah.rfl_.next E39)).rd 0 rfl))) ?_)));refine ae rfl (aa (dp rfl rfl) (aa (aG (v:=.bool _) rfl rfl) (mvb rfl (aJ (t:=54) rfl (fun Q115=>?_) (fun Q115=>?_)))))
   ·replace Q115:=dF Q115;replace Q115:=en Q115;refine ae rfl (aa (ab cu rfl) (ae rfl (aa (ar ao rfl (by exact (show _=some (Value.int .i64 m.f) from (hk3.from_ (ah.rfl_.next E39)).rd 1 rfl))) ?_)));refine ae rfl (aa (ab cf rfl) (ae rfl (aa (ar ao rfl (by exact (show _=some (Value.int .i64 s.nodes) from (hk2.from_ (ah.rfl_.next E39)).rd 1 rfl))) ?_)));refine ae rfl (aa (gH rfl rfl) (aa (aG (v:=.bool _) rfl rfl) (asb rfl (ai (ag (aC (bw (v:=.bool _) rfl rfl (⟨congrArg Value.bool ?_,(hB.next E39)⟩))))))))
    first
     |(rw [hbf];rfl)
     |(have hok:OkM m:=by rw [hbb,decide_eq_true_eq] at hbt;exact hbt
       rw [hbt,Bool.true_and,eq_comm]
       first
        |(rw [←Bool.not_eq_true,gd (by omega) hok];rintro ⟨h1,h2,h3,-⟩;omega)
        |(rw [Bool.eq_iff_iff,gd (by omega) hok,decide_eq_true_eq];exact ⟨fun h=>h.2.2.1,fun h=>⟨by omega,by omega,h,hle⟩⟩)
        |(rw [gd (by omega) hok];exact ⟨by omega,by omega,by omega,hle⟩))
   replace Q115:=dG Q115;replace Q115:=ek Q115;refine an rfl rfl (an rfl rfl (an rfl rfl (an rfl rfl (an rfl rfl (aa (av (v:=.bool _) rfl rfl) (asb rfl (ai (ag (aC (bw (v:=.bool _) rfl rfl ?_))))))))));refine ⟨congrArg Value.bool ?_,(hB.next E39)⟩
   first
    |(rw [hbf];rfl)
    |(have hok:OkM m:=by rw [hbb,decide_eq_true_eq] at hbt;exact hbt
      rw [hbt,Bool.true_and,eq_comm]
      first
       |(rw [←Bool.not_eq_true,gd (by omega) hok];rintro ⟨h1,h2,h3,-⟩;omega)
       |(rw [Bool.eq_iff_iff,gd (by omega) hok,decide_eq_true_eq];exact ⟨fun h=>h.2.2.1,fun h=>⟨by omega,by omega,h,hle⟩⟩)
       |(rw [gd (by omega) hok];exact ⟨by omega,by omega,by omega,hle⟩))
  refine an rfl rfl (an rfl rfl (an rfl rfl (an rfl rfl (an rfl rfl (aa (av (v:=.bool _) rfl rfl) (mvb rfl (an rfl rfl (an rfl rfl ?_))))))));refine an rfl rfl (an rfl rfl (an rfl rfl (aa (av (v:=.bool _) rfl rfl) (asb rfl (ai (ag (aC (bw (v:=.bool _) rfl rfl (⟨congrArg Value.bool ?_,(hB.next E39)⟩)))))))))
  first
   |(rw [hbf];rfl)
   |(have hok:OkM m:=by rw [hbb,decide_eq_true_eq] at hbt;exact hbt
     rw [hbt,Bool.true_and,eq_comm]
     first
      |(rw [←Bool.not_eq_true,gd (by omega) hok];rintro ⟨h1,h2,h3,-⟩;omega)
      |(rw [Bool.eq_iff_iff,gd (by omega) hok,decide_eq_true_eq];exact ⟨fun h=>h.2.2.1,fun h=>⟨by omega,by omega,h,hle⟩⟩)
      |(rw [gd (by omega) hok];exact ⟨by omega,by omega,by omega,hle⟩))
 have hbf:bb=false:=Q113;refine an rfl rfl (an rfl rfl (an rfl rfl (an rfl rfl (an rfl rfl (aa (av (v:=.bool _) rfl rfl) (mvb rfl (an rfl rfl (an rfl rfl ?_))))))));refine an rfl rfl (an rfl rfl (an rfl rfl (aa (av (v:=.bool _) rfl rfl) (mvb rfl (an rfl rfl (an rfl rfl (an rfl rfl (an rfl rfl ?_))))))));refine an rfl rfl (aa (av (v:=.bool _) rfl rfl) (asb rfl (ai (ag (aC (bw (v:=.bool _) rfl rfl (⟨congrArg Value.bool ?_,(hB.next E39)⟩)))))))
 first
  |(rw [hbf];rfl)
  |(have hok:OkM m:=by rw [hbb,decide_eq_true_eq] at hbt;exact hbt
    rw [hbt,Bool.true_and,eq_comm]
    first
     |(rw [←Bool.not_eq_true,gd (by omega) hok];rintro ⟨h1,h2,h3,-⟩;omega)
     |(rw [Bool.eq_iff_iff,gd (by omega) hok,decide_eq_true_eq];exact ⟨fun h=>h.2.2.1,fun h=>⟨by omega,by omega,h,hle⟩⟩)
     |(rw [gd (by omega) hok];exact ⟨by omega,by omega,by omega,hle⟩))
theorem nQ (s:Rf) (a:Ra) (m:Msg) (w:World) (he:Em w m) (hl:m.es.length≤1000000) (hk:m.k=3) (hmr:yv m) {b:Bool} (h:decide (p9 s m)=b):Rt prog 45 [.agg (rfV s a).toArray,.agg (bH m).toArray] w fun v w'=>v=.bool b∧ah w w':=by
 subst h;refine (tE s a m w he hl hk hmr _ rfl).mono fun v w' h=>⟨h.1.trans (congrArg Value.bool ?_),h.2⟩
 rw [Bool.eq_iff_iff,Bool.and_eq_true,decide_eq_true_eq,decide_eq_true_eq];exact Iff.rfl
theorem iv:aN prog 47=true:=by kernel_rfl
theorem jQ:cD prog 41 2=some 14:=by kernel_rfl
theorem jc:aN prog 30=true:=by kernel_rfl
theorem nJ (i:Int) (n:Nat) (h:0<n):wiN i n<n:=Nat.mod_lt _ h
theorem sq:∀ (xs:List Ent) (p t:Int),0≤t→dm xs p t=true→0≤di t xs
 |[],_,_,h,_=>h
 |e::r,p,t,h,hr=>by
  have h':(fL e p t&&dm r (p+1) e.t)=true:=hr;rw [Bool.and_eq_true] at h';have h1:=h'.1;unfold fL at h1;simp only [Bool.and_eq_true] at h1;have h2:=dk h1.1.2;rw [kV];exact sq r (p+1) e.t (by omega) h'.2
theorem sr {s:Rf} (h:RfF s):0≤di s.t s.es:=by
 have hm:=h.lg;unfold bR at hm;simp only [Bool.and_eq_true] at hm;have h2:=dk hm.1.1.2;exact sq s.es s.b s.t (by omega) hm.2
def zm (s:Rf) (m:Msg):Msg:={ m with t:=s.id,f:=if m.f=s.id then s.id%s.nodes+1 else m.f,tm:=max 0 (min (s.term+(wiN m.tm 3:Nat)-1) 1099511627775) }
def BX (s:Rf) (m:Msg):Msg:={ zm s m with ix:=max 0 (bn s+(wiN m.ix 3:Nat)-1),lt:=max 0 (di s.t s.es+(wiN m.lt 3:Nat)-1) }
structure Mo (z:Nat) (w:World) (m:Msg):Prop where
 o:w.ownsRow z 99 3 (.slice m.E m.es.length m.c) m.es.length (cN m.es)
theorem Mo.from_ {z:Nat} {w w':World} {m:Msg} (h:Mo z w m) (hF:ah w w'):Mo z w' m:=⟨h.o.kept_from hF⟩
theorem Mo.em {z:Nat} {w:World} {m:Msg} (h:Mo z w m):Em w m:=bX.of_own h.o rfl
theorem Mo.chg {z:Nat} {w w':World} {m:Msg} {U:Nat→Prop} (h:Mo z w m) (hC:Chg U w w') (hU:∀ k,U k→k<z∨w.heap.size≤k):Mo z w' m:=
 ⟨eJ h.o hC fun k hk e=>by have:=eN h.o k hk;rcases hU k e with e | e <;> omega⟩
theorem Mo.off {z g:Nat} {w w':World} {m:Msg} {cs:Array Value} {T:TypeId} (h:Mo z w m) (hb:Blk w g T cs) (hT:T≠99) (hO:e_ g w w'):Mo z w' m:=⟨eY h.o hO (eS h.o hb hT)⟩
def at9 (m:Msg) (E:Option Addr) (c:Nat):Msg:={ m with E:=E,c:=c }
theorem uW (s:Rf) (a:Ra) (x:Ac) (w:World) (_:fo w s a) (_:s.votes.length≤1000000∧s.next.length≤1000000∧s.mtch.length≤1000000∧s.sent.length≤1000000∧s.reads.length≤1000000∧∀ q∈s.reads,q.acks.length≤1000000) (he:Em w x.m) (hlm:x.m.es.length≤1000000) (hf:x.fit=false) :
 Rt prog 44 [.agg (rfV s a).toArray,.agg (acV x).toArray] w (fun v w'=>(∃ E c,v=.agg (bH (at9 x.m E c)).toArray∧Mo w.heap.size w' (at9 x.m E c))∧ah w w'):=by
 refine enter (n:=206) Tryz.func44 rfl rfl rfl (ak (af (bZ (v:=.agg _) rfl ?_)));intro b2 w1 E2 hb2 hk2;refine bZ (v:=.agg _) rfl ?_;intro b3 w2 E3 hb3 hk3;replace hk2:=hk2.from_ E3;refine bQ dI ?_;intro b4 w3 E4 hb4 hk4;have hg4:w.heap.size≤b4:=by rw [hb4];exact (((ah.rfl_.next E2).next E3)).size
 replace hk2:=hk2.from_ E4;replace hk3:=hk3.from_ E4;refine ai (ag (ak (af (aa (ab fA rfl) (aa (aD (cs:=bH x.m) bh aU rfl (lE ((hk3.from_ ah.rfl_).whole))) ?_)))));have hM13:ah _ w3:=ah.rfl_;replace hk2:=hk2.from_ hM13;replace hk3:=hk3.from_ hM13;replace hk4:=hk4.from_ hM13;have hz13:=((((ah.rfl_.next E2).next E3).next E4)).size;have hlt2:=hk2.lt;have hlt3:=hk3.lt;have hlt4a:=hk4.lt;refine az iv (ju x.m _ (he.from_ (((ah.rfl_.next E2).next E3).next E4)) (by omega)) ?_;rintro v13 w4 ⟨⟨A13,c13,rfl,ho13⟩,E13⟩;have ho13m:Mo _ w4 (at9 x.m A13 c13):=⟨ho13⟩;have hz13b:=E13.size;replace hk2:=hk2.from_ E13;replace hk3:=hk3.from_ E13;replace hk4:=hk4.from_ E13;have hM5:ah _ w4:=ah.rfl_;have hz5:=hM5.size;have hlt4b:=(hk4.from_ hM5).lt;refine bQ dI ?_;intro b5 w5 E5 hb5 hk5;have hg5:w.heap.size≤b5:=by rw [hb5];exact (((((ah.rfl_.next E2).next E3).next E4).next E13)).size
 have hlt4:=hk4.lt;replace hk2:=hk2.from_ (hM5.next E5);replace hk3:=hk3.from_ (hM5.next E5);replace hk4:=hk4.from_ (hM5.next E5);replace ho13m:=ho13m.from_ (hM5.next E5);have h45:b4<b5:=by omega
 have h25:b2<b5:=by omega
 have h35:b3<b5:=by omega
 refine bK (vs:=[_,_,_,_,_,_,_,_,_,_,_,_,_]) aU rfl rfl (by simp [Value.oneCell']) (hk5) rfl ?_;intro w6 O1 P1;replace hk2:=hk2.only O1 (by omega);replace hk3:=hk3.only O1 (by omega);replace hk4:=hk4.only O1 (by omega);replace ho13m:=ho13m.off hk5 (by decide) O1;have hm5:Blk w6 b5 39 (bH (at9 x.m A13 c13)).toArray:=P1;refine ai (ag (ak (ak (af (aa (ab jQ rfl) (aa (ar gm rfl (by exact (show _=some (Value.bool x.fit) from (hk3.from_ ah.rfl_).rd 14 rfl))) ?_))))));refine aa (dh (cn rfl) (by rw [hf];rfl)) ?_;refine mvb rfl (an rfl rfl (an rfl rfl (an rfl rfl (aa (aG (v:=.bool _) rfl rfl) (ai (ag (aR rfl (ak (af (aa (aD (cs:=bH (at9 x.m A13 c13)) bh aU rfl ((hm5.from_ ah.rfl_).whole)) ?_))))))))));have hMe:ah _ w6:=ah.rfl_;have hke:=hk4.from_ hMe;refine bK (vs:=[_,_,_,_,_,_,_,_,_,_,_,_,_]) aU rfl rfl (by simp [Value.oneCell']) (hke) rfl ?_;intro w7 O3 P3;have hoe:=(ho13m.from_ hMe).off hke (by decide) O3;refine ai (ag (aC (aE (lK rfl (cL (cs:=[_,_,_,_,_,_,_,_,_,_,_,_,_]) bh aU rfl (by exact P3.whole)) ?_))));exact ⟨⟨A13,c13,rfl,⟨ec hoe.o hz13⟩⟩,(((((((ah.rfl_.next E2).next E3).next E4).next E13).next E5).only O1 (hg5)).only O3 (hg4))⟩
theorem zj (s:Rf) (a:Ra) (x:Ac) (w:World) (hrd:fo w s a) (hl:s.votes.length≤1000000∧s.next.length≤1000000∧s.mtch.length≤1000000∧s.sent.length≤1000000∧s.reads.length≤1000000∧∀ q∈s.reads,q.acks.length≤1000000) (he:Em w x.m) (hlm:x.m.es.length≤1000000) (hf:x.fit=true) (hm:iB s=false) :
 Rt prog 44 [.agg (rfV s a).toArray,.agg (acV x).toArray] w (fun v w'=>(∃ E c,v=.agg (bH (at9 x.m E c)).toArray∧Mo w.heap.size w' (at9 x.m E c))∧ah w w'):=by
 refine enter (n:=206) Tryz.func44 rfl rfl rfl (ak (af (bZ (v:=.agg _) rfl ?_)));intro b2 w1 E2 hb2 hk2;refine bZ (v:=.agg _) rfl ?_;intro b3 w2 E3 hb3 hk3;replace hk2:=hk2.from_ E3;refine bQ dI ?_;intro b4 w3 E4 hb4 hk4;have hg4:w.heap.size≤b4:=by rw [hb4];exact (((ah.rfl_.next E2).next E3)).size
 replace hk2:=hk2.from_ E4;replace hk3:=hk3.from_ E4;refine ai (ag (ak (af (aa (ab fA rfl) (aa (aD (cs:=bH x.m) bh aU rfl (lE ((hk3.from_ ah.rfl_).whole))) ?_)))));have hM13:ah _ w3:=ah.rfl_;replace hk2:=hk2.from_ hM13;replace hk3:=hk3.from_ hM13;replace hk4:=hk4.from_ hM13;have hz13:=((((ah.rfl_.next E2).next E3).next E4)).size;have hlt2:=hk2.lt;have hlt3:=hk3.lt;have hlt4a:=hk4.lt;refine az iv (ju x.m _ (he.from_ (((ah.rfl_.next E2).next E3).next E4)) (by omega)) ?_;rintro v13 w4 ⟨⟨A13,c13,rfl,ho13⟩,E13⟩;have ho13m:Mo _ w4 (at9 x.m A13 c13):=⟨ho13⟩;have hz13b:=E13.size;replace hk2:=hk2.from_ E13;replace hk3:=hk3.from_ E13;replace hk4:=hk4.from_ E13;have hM5:ah _ w4:=ah.rfl_;have hz5:=hM5.size;have hlt4b:=(hk4.from_ hM5).lt;refine bQ dI ?_;intro b5 w5 E5 hb5 hk5;have hg5:w.heap.size≤b5:=by rw [hb5];exact (((((ah.rfl_.next E2).next E3).next E4).next E13)).size
 have hlt4:=hk4.lt;replace hk2:=hk2.from_ (hM5.next E5);replace hk3:=hk3.from_ (hM5.next E5);replace hk4:=hk4.from_ (hM5.next E5);replace ho13m:=ho13m.from_ (hM5.next E5);have h45:b4<b5:=by omega
 have h25:b2<b5:=by omega
 have h35:b3<b5:=by omega
 refine bK (vs:=[_,_,_,_,_,_,_,_,_,_,_,_,_]) aU rfl rfl (by simp [Value.oneCell']) (hk5) rfl ?_;intro w6 O1 P1;replace hk2:=hk2.only O1 (by omega);replace hk3:=hk3.only O1 (by omega);replace hk4:=hk4.only O1 (by omega);replace ho13m:=ho13m.off hk5 (by decide) O1;have hm5:Blk w6 b5 39 (bH (at9 x.m A13 c13)).toArray:=P1;refine ai (ag (ak (ak (af (aa (ab jQ rfl) (aa (ar gm rfl (by exact (show _=some (Value.bool x.fit) from (hk3.from_ ah.rfl_).rd 14 rfl))) ?_))))));refine aa (c8 (cn rfl) (by rw [hf];rfl)) ?_;refine mvb rfl (ae rfl (aa (aD (cs:=rfV s a) aP aF rfl ((hk2.from_ ah.rfl_).whole)) (ae rfl (az jc (nf s a _ (hrd.from_ ((((((ah.rfl_.next E2).next E3).next E4).next E13).next E5).only O1 (hg5))) hl hm) ?_))));rintro v19 w7 ⟨rfl,E19⟩;refine ae rfl (aa (dh (cn rfl) rfl) (aa (av (v:=.bool _) rfl rfl) (ai (ag (aR rfl (ak (af (aa (aD (cs:=bH (at9 x.m A13 c13)) bh aU rfl ((hm5.from_ (ah.rfl_.next E19)).whole)) ?_))))))));have hMe:ah _ w7:=(ah.rfl_.next E19);have hke:=hk4.from_ hMe;refine bK (vs:=[_,_,_,_,_,_,_,_,_,_,_,_,_]) aU rfl rfl (by simp [Value.oneCell']) (hke) rfl ?_;intro w8 O3 P3;have hoe:=(ho13m.from_ hMe).off hke (by decide) O3;refine ai (ag (aC (aE (lK rfl (cL (cs:=[_,_,_,_,_,_,_,_,_,_,_,_,_]) bh aU rfl (by exact P3.whole)) ?_))));exact ⟨⟨A13,c13,rfl,⟨ec hoe.o hz13⟩⟩,((((((((ah.rfl_.next E2).next E3).next E4).next E13).next E5).only O1 (hg5)).next E19).only O3 (hg4))⟩
theorem fR:aN prog 31=true:=by kernel_rfl
def kE (tm:Int):Int→Int→List Ent→List Ent
 |_,_,[]=>[]
 |p,t,e::r=>⟨p+1,max t (min e.t tm),e.d⟩::kE tm (p+1) (max t (min e.t tm)) r
theorem sw (tm:Int):∀ (es:List Ent) (p t:Int),(kE tm p t es).length=es.length
 |[],_,_=>rfl
 |e::r,p,t=>by
  show (kE tm (p+1) (max t (min e.t tm)) r).length+1=_;rw [sw tm r];rfl
def ix3 (s:Rf) (m:Msg):Int:=max 0 (bn s-(wiN m.ix 3:Nat))
def lt3 (s:Rf) (m:Msg):Int:=if s.b≤ix3 s m then dw s.b s.t s.es (ix3 s m) else m.lt
def tmH (s:Rf) (m:Msg):Int:=max 0 (min (s.term+(wiN m.tm 3:Nat)-1) 1099511627775)
def mK (s:Rf) (m:Msg):Msg:={ zm s m with ix:=ix3 s m,lt:=lt3 s m,es:=kE (tmH s m) (ix3 s m) (lt3 s m) m.es,cm:=max 0 (min (s.commit+(wiN m.cm 4:Nat)) 1099511627775) }
theorem j_ (s:Rf) (m:Msg):(mK s m).es.length=m.es.length:=sw _ _ _ _
theorem sB (d r:List Ent) (e:Ent) (i:Int):(cN (d++e::r)).set (d.length*3) (.int .i64 i)=cN (d++⟨i,e.t,e.d⟩::r):=by
 rw [fK,fK,List.set_append_right _ _ (by rw [eW];omega),eW,Nat.sub_self];rfl
theorem sA (d r:List Ent) (e:Ent) (t:Int):(cN (d++e::r)).set (d.length*3+1) (.int .i64 t)=cN (d++⟨e.i,t,e.d⟩::r):=by
 rw [fK,fK,List.set_append_right _ _ (by rw [eW];omega),eW,Nat.add_sub_cancel_left];rfl
theorem uL {w:World} {base n c g:Nat} {d r:List Ent} {e:Ent} (h:w.ownsRow base 99 3 (.slice (some ⟨g,0,none⟩) n c) n (cN (d++e::r))) (hn:(d++e::r).length=n):w.rangeAt g (0+d.length*3) [.int .i64 e.i,.int .i64 e.t,.string e.d]:=by
 subst hn;obtain ⟨b,o,hA,hc⟩:=jT (bX.of_own h rfl) (by rw [List.length_append,List.length_cons];omega);simp only [Option.some.injEq,Addr.mk.injEq,and_true] at hA;obtain ⟨rfl,rfl⟩:=hA;have hl:d.length<(d++e::r).length:=by rw [List.length_append,List.length_cons];omega
 have h9:=hc d.length hl;have e9:(d++e::r)[d.length]=e:=by rw [List.getElem_append_right (Nat.le_refl _)];simp
 rw [e9] at h9;exact h9
def TmF (s:Rf) (i tt:Int) (bb:Bool):Prop:=(bb=true∧s.b≤i∧tt=dw s.b s.t s.es i)∨(bb=false∧¬ s.b≤i)
theorem wz (s:Rf) (i:Int):∃ tt bb,TmF s i tt bb∧(bb=false→tt=0):=by
 by_cases h:s.b≤i
 ·exact ⟨_,_,.inl ⟨rfl,h,rfl⟩,fun e=>by cases e⟩
 ·exact ⟨0,false,.inr ⟨rfl,h⟩,fun _=>rfl⟩
theorem r8 (s:Rf) (i:Int) (A:Option Addr) (c:Nat) (w:World) (h:bX w (.slice A s.es.length c) s.es) (hm:bR s.b s.t s.es=true) (hi:i≤bn s) {tt:Int} {bb:Bool} (hv:TmF s i tt bb∧(bb=false→tt=0)):Rt prog 82 [.agg #[.int .i64 s.b,.int .i64 s.t,.slice A s.es.length c],.int .i64 i] w fun v w'=>v=.tuple #[.int .i64 tt,.bool bb]∧ah w w':=
 (Rt.of (nM s.b s.t i (.slice A s.es.length c) s.es w h hm)).mono fun v w' h9=>⟨by
  have hl:dy s.b s.es=bn s:=rfl;rw [h9.1];unfold mz;rcases hv with ⟨⟨rfl,h1,rfl⟩ | ⟨rfl,h1⟩,h2⟩
  ·rw [if_pos (by omega)]
  ·rw [if_neg (by omega),h2 rfl],h9.2⟩
theorem zh (s:Rf) (a:Ra) (x:Ac) (w:World) (hrd:fo w s a) (hl:s.votes.length≤1000000∧s.next.length≤1000000∧s.mtch.length≤1000000∧s.sent.length≤1000000∧s.reads.length≤1000000∧∀ q∈s.reads,q.acks.length≤1000000) (he:Em w x.m) (hlm:x.m.es.length≤1000000) (hf:x.fit=true) (hm:iB s=true) (hk:x.m.k=3) (hff:x.m.f=s.id) :
 Rt prog 44 [.agg (rfV s a).toArray,.agg (acV x).toArray] w (fun v w'=>(∃ E c,v=.agg (bH (at9 (mK s x.m) E c)).toArray∧Mo w.heap.size w' (at9 (mK s x.m) E c))∧ah w w'):=by
 have hF:=nq hm;have hnn:=hF.n;have hid:=hF.i;have hte:=hF.te;have hla:=hF.last;have hltb:=hF.lt;obtain ⟨I3,hI3⟩:∃ q,q=ix3 s x.m:=⟨_,rfl⟩;obtain ⟨tt,bb,htb⟩:=wz s I3;have hI4:I3=max 0 (bn s-(wiN x.m.ix 3:Nat)):=hI3;have hco3:=hF.co;have hw7:=nJ x.m.cm 4 (by decide);have hw1:=nJ x.m.tm 3 (by decide);have hw2:=nJ x.m.ix 3 (by decide);have hw3:=nJ x.m.lt 3 (by decide);have hmod:0≤s.id%s.nodes∧s.id%s.nodes<s.nodes:=⟨Int.emod_nonneg _ (by omega),Int.emod_lt_of_pos _ (by omega)⟩
 have hlt0:-1≤di s.t s.es:=by
  have:=sr hF;omega
 refine enter (n:=206) Tryz.func44 rfl rfl rfl (ak (af (bZ (v:=.agg _) rfl ?_)));intro b2 w1 E2 hb2 hk2;refine bZ (v:=.agg _) rfl ?_;intro b3 w2 E3 hb3 hk3;replace hk2:=hk2.from_ E3;refine bQ dI ?_;intro b4 w3 E4 hb4 hk4;have hg4:w.heap.size≤b4:=by rw [hb4];exact (((ah.rfl_.next E2).next E3)).size
 replace hk2:=hk2.from_ E4;replace hk3:=hk3.from_ E4;refine ai (ag (ak (af (aa (ab fA rfl) (aa (aD (cs:=bH x.m) bh aU rfl (lE ((hk3.from_ ah.rfl_).whole))) ?_)))));have hM13:ah _ w3:=ah.rfl_;replace hk2:=hk2.from_ hM13;replace hk3:=hk3.from_ hM13;replace hk4:=hk4.from_ hM13;have hz13:=((((ah.rfl_.next E2).next E3).next E4)).size;have hlt2:=hk2.lt;have hlt3:=hk3.lt;have hlt4a:=hk4.lt;refine az iv (ju x.m _ (he.from_ (((ah.rfl_.next E2).next E3).next E4)) (by omega)) ?_;rintro v13 w4 ⟨⟨A13,c13,rfl,ho13⟩,E13⟩;have ho13m:Mo _ w4 (at9 x.m A13 c13):=⟨ho13⟩;have hz13b:=E13.size;replace hk2:=hk2.from_ E13;replace hk3:=hk3.from_ E13;replace hk4:=hk4.from_ E13;have hM5:ah _ w4:=ah.rfl_;have hz5:=hM5.size;have hlt4b:=(hk4.from_ hM5).lt;refine bQ dI ?_;intro b5 w5 E5 hb5 hk5;have hg5:w.heap.size≤b5:=by rw [hb5];exact (((((ah.rfl_.next E2).next E3).next E4).next E13)).size
 have hlt4:=hk4.lt;replace hk2:=hk2.from_ (hM5.next E5);replace hk3:=hk3.from_ (hM5.next E5);replace hk4:=hk4.from_ (hM5.next E5);replace ho13m:=ho13m.from_ (hM5.next E5);have h45:b4<b5:=by omega
 have h25:b2<b5:=by omega
 have h35:b3<b5:=by omega
 refine bK (vs:=[_,_,_,_,_,_,_,_,_,_,_,_,_]) aU rfl rfl (by simp [Value.oneCell']) (hk5) rfl ?_;intro w6 O1 P1;replace hk2:=hk2.only O1 (by omega);replace hk3:=hk3.only O1 (by omega);replace hk4:=hk4.only O1 (by omega);replace ho13m:=ho13m.off hk5 (by decide) O1;have hm5:Blk w6 b5 39 (bH (at9 x.m A13 c13)).toArray:=P1;refine ai (ag (ak (ak (af (aa (ab jQ rfl) (aa (ar gm rfl (by exact (show _=some (Value.bool x.fit) from (hk3.from_ ah.rfl_).rd 14 rfl))) ?_))))));refine aa (c8 (cn rfl) (by rw [hf];rfl)) ?_;refine mvb rfl (ae rfl (aa (aD (cs:=rfV s a) aP aF rfl ((hk2.from_ ah.rfl_).whole)) (ae rfl (az jc (nf s a _ (hrd.from_ ((((((ah.rfl_.next E2).next E3).next E4).next E13).next E5).only O1 (hg5))) hl hm) ?_))));rintro v19 w7 ⟨rfl,E19⟩;refine ae rfl (aa (c8 (cn rfl) rfl) (aa (av (v:=.bool _) rfl rfl) (ai (ag (bA rfl (aM (ag (ak (af (aa (ab cw rfl) (aa (ar ao rfl (by exact (show _=some (Value.int .i64 s.id) from (hk2.from_ (ah.rfl_.next E19)).rd 0 rfl))) ?_)))))))))));refine aa (ab eC rfl) ?_;have hMp:ah _ w7:=(ah.rfl_.next E19);have hm59:=hm5.from_ hMp;replace hk2:=hk2.from_ hMp;replace hk3:=hk3.from_ hMp;replace hk4:=hk4.from_ hMp;replace ho13m:=ho13m.from_ hMp;refine eE (v:=.int _ _) bd rfl rfl rfl (hm59) (by show 2<13;decide) ?_;intro w8 O4 P4;replace hk2:=hk2.only O4 (by omega);replace hk3:=hk3.only O4 (by omega);replace hk4:=hk4.only O4 (by omega);replace ho13m:=ho13m.off hm59 (by decide) O4;have hm4:Blk w8 b5 39 (bH (at9 { x.m with t:=s.id } A13 c13)).toArray:=P4;refine ai (ag (ak (ak (af (aa (ab cu rfl) (aa (ar ao rfl (by exact (show _=some (Value.int .i64 x.m.f) from (hm4.from_ ah.rfl_).rd 1 rfl))) ?_))))));refine aa (ab cw rfl) (aa (ar ao rfl (by exact (show _=some (Value.int .i64 s.id) from (hk2.from_ ah.rfl_).rd 0 rfl))) ?_);refine aa (dh (bt rfl rfl) (beq_iff_eq.2 hff)) (ai (ag (aR rfl (af (aa (ab cw rfl) (aa (ar ao rfl (by exact (show _=some (Value.int .i64 s.id) from (hk2.from_ ah.rfl_).rd 0 rfl))) ?_))))));refine aa (ab cf rfl) (aa (ar ao rfl (by exact (show _=some (Value.int .i64 s.nodes) from (hk2.from_ ah.rfl_).rd 1 rfl))) ?_);refine aa (wR rfl rfl (by omega)) (aa (bW rfl rfl (by omega)) (aa (ab cu rfl) ?_));have hMp:ah _ w8:=ah.rfl_;have hm49:=hm4.from_ hMp;replace hk2:=hk2.from_ hMp;replace hk3:=hk3.from_ hMp;replace hk4:=hk4.from_ hMp;replace ho13m:=ho13m.from_ hMp;refine eE (v:=.int _ _) bd rfl rfl rfl (hm49) (by show 1<13;decide) ?_;intro w9 O6 P6;replace hk2:=hk2.only O6 (by omega);replace hk3:=hk3.only O6 (by omega);replace hk4:=hk4.only O6 (by omega);replace ho13m:=ho13m.off hm49 (by decide) O6;have hm6:Blk w9 b5 39 (bH (at9 { x.m with t:=s.id,f:=s.id%s.nodes+1 } A13 c13)).toArray:=P6;refine ai (ag (ak (af (aa (ab bj rfl) (aa (aD (cs:=[.int .i64 s.b,.int .i64 s.t,.slice a.E s.es.length a.Ec]) aY aL rfl (iM (show Blk _ b2 29 (rfV s a++[]).toArray from hk2.from_ ah.rfl_))) (az kz (mA s a.E s.es.length a.Ec _ (hrd.e.from_ (((((((((ah.rfl_.next E2).next E3).next E4).next E13).next E5).only O1 (hg5)).next E19).only O4 (hg5)).only O6 (hg5))) hF.lg) ?_))))));rintro v41 w10 ⟨rfl,E41⟩;refine mvt rfl (aa (aO rfl rfl) (aa (aO rfl rfl) (asi rfl (asi rfl (ai (ag (ak ?_)))))));apply bY 10 [(44,eqp _),(45,eqp (.int .i64 s.term)),(46,eqp _),(47,eqp (.int .i64 x.m.tm)),(48,eqp _),(49,eqp _),(50,eqp _),(51,eqp _),(52,eqp _),(53,eqp _)] (by repeat first | exact cB | refine cz ?_ | refine ck ?_) (by kernel_rfl) (by kernel_rfl) ⟨aj _,aj _,aj _,aj _,aj _,aj _,aj _,aj _,aj _,aj _,trivial⟩
 case hop=>
  constructor
  ·rintro-w12 D12;exact au (ab bL rfl) rfl
  constructor
  ·rintro-w13 D13;rintro _ rfl;exact au (ar ao rfl (by exact (show _=some (Value.int .i64 s.term) from (hk2.from_ ((ah.rfl_.next E41).next D13)).rd 3 rfl))) rfl
  constructor
  ·rintro-w14 D14;exact au (ab bJ rfl) rfl
  constructor
  ·rintro-w15 D15;rintro _ rfl;exact au (ar ao rfl (by exact (show _=some (Value.int .i64 x.m.tm) from (hm6.from_ ((ah.rfl_.next E41).next D15)).rd 3 rfl))) rfl
  constructor
  ·rintro-w16 D16;rintro v16_47 rfl;refine fD fR ((je x.m.tm 3 _ (by decide)).mono ?_);rintro v _ ⟨rfl,rfl⟩;exact ⟨ah.rfl_,rfl⟩
  constructor
  ·rintro-w17 D17;rintro v17_45 rfl _ rfl;exact au (bW rfl rfl (by omega)) rfl
  constructor
  ·rintro-w18 D18;rintro _ rfl;exact au (dM rfl rfl (by omega)) rfl
  constructor
  ·rintro-w19 D19;rintro _ rfl;exact au (gA rfl rfl) rfl
  constructor
  ·rintro-w20 D20;rintro _ rfl;exact au (gP rfl rfl) rfl
  constructor
  ·rintro-w21 D21;exact au (ab bJ rfl) rfl
  exact trivial
 case hend=>
  intro w22 D22;rintro _ rfl v45 rfl _ rfl v47 rfl _ rfl _ rfl _ rfl _ rfl _ rfl _ rfl;show St ..;have hMp:ah _ w22:=((ah.rfl_.next E41).next D22);have hm69:=hm6.from_ hMp;replace hk2:=hk2.from_ hMp;replace hk3:=hk3.from_ hMp;replace hk4:=hk4.from_ hMp;replace ho13m:=ho13m.from_ hMp;refine eE (v:=.int _ _) bd rfl rfl rfl (hm69) (by show 3<13;decide) ?_;intro w23 O8 P8;replace hk2:=hk2.only O8 (by omega);replace hk3:=hk3.only O8 (by omega);replace hk4:=hk4.only O8 (by omega);replace ho13m:=ho13m.off hm69 (by decide) O8;have hm8:Blk w23 b5 39 (bH (at9 { x.m with t:=s.id,f:=s.id%s.nodes+1,tm:=max 0 (min (s.term+(wiN x.m.tm 3:Nat)-1) 1099511627775) } A13 c13)).toArray:=P8;refine ai (ag (ak (ak (af (aa (ab cM rfl) (aa (ar ao rfl (by exact (show _=some (Value.int .i64 x.m.k) from (hm8.from_ ah.rfl_).rd 0 rfl))) ?_))))));refine ai (ag (a_ (ak (af (aa (dh (bt rfl rfl) (beq_iff_eq.2 hk)) (asb rfl (ai (ag (aR rfl (ak (af (mvi rfl (aa (ab cF rfl) (aa (ar ao rfl (by exact (show _=some (Value.int .i64 x.m.ix) from (hm8.from_ ah.rfl_).rd 4 rfl))) ?_))))))))))))));refine az fR (je x.m.ix 3 _ (by decide)) ?_;rintro v61 w24 ⟨rfl,rfl⟩;refine aa (dM rfl rfl (by omega)) (aa (gP rfl rfl) (dP (t:=63) (v:=.int _ _) (v':=.int .i64 I3) rfl (by exact bM (by omega)) ?_));refine aa (ab cF rfl) ?_;have hMp:ah _ w23:=ah.rfl_;have hm89:=hm8.from_ hMp;replace hk2:=hk2.from_ hMp;replace hk3:=hk3.from_ hMp;replace hk4:=hk4.from_ hMp;replace ho13m:=ho13m.from_ hMp;refine eE (v:=.int _ _) bd rfl rfl rfl (hm89) (by show 4<13;decide) ?_;intro w25 O11 P11;replace hk2:=hk2.only O11 (by omega);replace hk3:=hk3.only O11 (by omega);replace hk4:=hk4.only O11 (by omega);replace ho13m:=ho13m.off hm89 (by decide) O11;have hm11:Blk w25 b5 39 (bH (at9 { x.m with t:=s.id,f:=s.id%s.nodes+1,tm:=max 0 (min (s.term+(wiN x.m.tm 3:Nat)-1) 1099511627775),ix:=I3 } A13 c13)).toArray:=P11;refine ai (ag (ak (af (aa (ab bj rfl) (aa (aD (cs:=[.int .i64 s.b,.int .i64 s.t,.slice a.E s.es.length a.Ec]) aY aL rfl (iM (show Blk _ b2 29 (rfV s a++[]).toArray from hk2.from_ ah.rfl_))) (aa (ab cF rfl) (aa (ar ao rfl (by exact (show _=some (Value.int .i64 I3) from (hm11.from_ ah.rfl_).rd 4 rfl))) ?_)))))));refine az gT (r8 s I3 a.E a.Ec _ (hrd.e.from_ (((((((((((((ah.rfl_.next E2).next E3).next E4).next E13).next E5).only O1 (hg5)).next E19).only O4 (hg5)).only O6 (hg5)).next E41).next D22).only O8 (hg5)).only O11 (hg5))) hF.lg (by omega) htb) ?_;rintro v70 w26 ⟨rfl,E70⟩;refine mvt rfl (aa (aO rfl rfl) (aa (aO rfl rfl) (asi rfl (asb rfl (ai (ag (fY (G:=Int) [73,74,75] (fun _=>[]) (fun L9 w'=>Blk w' b2 29 (rfV s a).toArray∧Blk w' b3 41 (acV x).toArray∧Blk w' b4 39 (.agg (bH zM).toArray:Value).cells∧L9=lt3 s x.m∧Blk w' b5 39 (bH (at9 { x.m with t:=s.id,f:=s.id%s.nodes+1,tm:=max 0 (min (s.term+(wiN x.m.tm 3:Nat)-1) 1099511627775),ix:=I3,lt:=L9 } A13 c13)).toArray∧w'.ownsRow w.heap.size 99 3 (.slice A13 x.m.es.length c13) x.m.es.length (cN x.m.es)∧ah w w') ?_ ?_)))))))
  ·refine ak (af (mvb rfl (ai (ag (aQ rfl (fun Q27=>?_) (fun Q27=>?_))))))
   ·obtain rfl:bb=true:=Q27
    have hlt:tt=lt3 s x.m:=by
     rcases htb.1 with ⟨_,e1,e2⟩ | ⟨e,_⟩
     ·unfold lt3;rw [show ix3 s x.m=I3 from hI3.symm,if_pos e1];exact e2
     ·cases e
    refine af (mvi rfl (aa (ab cV rfl) ?_));have hMp:ah _ w26:=(ah.rfl_.next E70);have hm119:=hm11.from_ hMp;replace hk2:=hk2.from_ hMp;replace hk3:=hk3.from_ hMp;replace hk4:=hk4.from_ hMp;replace ho13m:=ho13m.from_ hMp;refine eE (v:=.int _ _) bd rfl rfl rfl (hm119) (by show 5<13;decide) ?_;intro w28 O14 P14;replace hk2:=hk2.only O14 (by omega);replace hk3:=hk3.only O14 (by omega);replace hk4:=hk4.only O14 (by omega);replace ho13m:=ho13m.off hm119 (by decide) O14;have hm14:Blk w28 b5 39 (bH (at9 { x.m with t:=s.id,f:=s.id%s.nodes+1,tm:=max 0 (min (s.term+(wiN x.m.tm 3:Nat)-1) 1099511627775),ix:=I3,lt:=tt } A13 c13)).toArray:=P14;refine ai ?_;refine bT (tt) trivial (by (iterate 3 refine bf rfl ?_);exact bB) ?_;exact ⟨hk2.from_ ah.rfl_,hk3.from_ ah.rfl_,hk4.from_ ah.rfl_,hlt,hm14.from_ ah.rfl_,(ec ho13m.o hz13).kept_from ah.rfl_,(((((((((((((((ah.rfl_.next E2).next E3).next E4).next E13).next E5).only O1 (hg5)).next E19).only O4 (hg5)).only O6 (hg5)).next E41).next D22).only O8 (hg5)).only O11 (hg5)).next E70).only O14 (hg5))⟩
   obtain rfl:bb=false:=Q27
   have hlt:x.m.lt=lt3 s x.m:=by
    rcases htb.1 with ⟨e,_,_⟩ | ⟨_,e1⟩
    ·cases e
    ·unfold lt3;rw [show ix3 s x.m=I3 from hI3.symm,if_neg e1]
   refine aM ?_;refine bT (x.m.lt) trivial (by (iterate 1 refine bf rfl ?_);exact bB) ?_;exact ⟨hk2.from_ (ah.rfl_.next E70),hk3.from_ (ah.rfl_.next E70),hk4.from_ (ah.rfl_.next E70),hlt,hm11.from_ (ah.rfl_.next E70),(ec ho13m.o hz13).kept_from (ah.rfl_.next E70),((((((((((((((ah.rfl_.next E2).next E3).next E4).next E13).next E5).only O1 (hg5)).next E19).only O4 (hg5)).only O6 (hg5)).next E41).next D22).only O8 (hg5)).only O11 (hg5)).next E70)⟩
  rintro L9 ρ29 w29 ⟨hk2,hk3,hk4,hL9,hmL,hrw0,hB⟩;refine ak (af (aa (ab cV rfl) (aa (ar ao rfl (by exact (show _=some (Value.int .i64 L9) from (hmL.from_ ah.rfl_).rd 5 rfl))) ?_)));refine asi rfl (ai (ag (ak (ak (af (asi rfl (ai (ag (a_ (cY (G:=List Ent×List Ent×Int) [78,79,80,81,82,83,84,85,86,87,88,89,90,91,92,93,94,95,96,97,98,99,100,101,102,103,104,105,106,107,108,109,110,111] (fun (d,r,t)=>[(10,.int .i64 (d.length:Nat)),(7,.int .i64 t)]) (fun (d,r,t) w'=>kE (max 0 (min (s.term+(wiN x.m.tm 3:Nat)-1) 1099511627775)) I3 L9 x.m.es=d++kE (max 0 (min (s.term+(wiN x.m.tm 3:Nat)-1) 1099511627775)) (I3+(d.length:Nat)) t r∧(d++r).length=x.m.es.length∧Blk w' b2 29 (rfV s a).toArray∧Blk w' b3 41 (acV x).toArray∧Blk w' b4 39 (.agg (bH zM).toArray:Value).cells∧Blk w' b5 39 (bH (at9 { x.m with t:=s.id,f:=s.id%s.nodes+1,tm:=max 0 (min (s.term+(wiN x.m.tm 3:Nat)-1) 1099511627775),ix:=I3,lt:=L9 } A13 c13)).toArray∧w'.ownsRow w.heap.size 99 3 (.slice A13 x.m.es.length c13) x.m.es.length (cN (d++r))∧ah w w') (fun (d,r,t)=>r.length) (([],x.m.es,L9)) ⟨rfl,rfl,trivial⟩ ?_ ?_))))))))))
  ·exact ⟨by simp,rfl,hk2.from_ ah.rfl_,hk3.from_ ah.rfl_,hk4.from_ ah.rfl_,hmL.from_ ah.rfl_,hrw0.kept_from ah.rfl_,hB⟩
  rintro ⟨d,r,t⟩ ρ30 w30 ⟨hfe,hlen,hk2,hk3,hk4,hmJ,hrw,hB⟩;refine ak (ak (af (mvi rfl (aa (ab bS rfl) (aa (ar bk rfl (by exact (show _=some (Value.slice A13 x.m.es.length c13) from (hmJ.from_ ah.rfl_).rd 9 rfl))) ?_)))));refine aa (bF bC rfl) (aa (cg rfl rfl) (ai (ag (Bn rfl (fun Q31=>?_) (fun Q31=>?_)))))
  ·have hil:d.length<x.m.es.length:=by omega
   obtain ⟨e,r2,rfl⟩:∃ e r2,r=e::r2:=by
    cases r with
    |nil=>(rw [List.append_nil] at hlen;omega)
    |cons e r2=>exact ⟨e,r2,rfl⟩
   obtain ⟨g13,hA13⟩:=ft hrw (by omega);have hrow:=hrw;rw [hA13] at hrow;have hg13:w.heap.size≤g13:=(eN hrow g13 rfl).1;have hn2:b2≠g13:=fun e9=>absurd (eS hrow hk2 (by decide)) (fun h9=>by have h8:=h9 g13 rfl;omega)
   have hn3:b3≠g13:=fun e9=>absurd (eS hrow hk3 (by decide)) (fun h9=>by have h8:=h9 g13 rfl;omega)
   have hn4:b4≠g13:=fun e9=>absurd (eS hrow hk4 (by decide)) (fun h9=>by have h8:=h9 g13 rfl;omega)
   have hn5:b5≠g13:=fun e9=>absurd (eS hrow hmJ (by decide)) (fun h9=>by have h8:=h9 g13 rfl;omega)
   refine aM (ag (ak (a_ (ak (af (aa (ab bS rfl) (aa (ar bk rfl (by exact (show _=some (Value.slice A13 x.m.es.length c13) from (hmJ.from_ ah.rfl_).rd 9 rfl))) ?_)))))));refine mvi rfl (aa (ab cF rfl) (aa (ar ao rfl (by exact (show _=some (Value.int .i64 I3) from (hmJ.from_ ah.rfl_).rd 4 rfl))) ?_));refine aa (bW rfl rfl (by omega)) (mvi rfl (aa (bW rfl rfl (by omega)) ?_));refine aa (bq bU (show _=Value.slice (some ⟨g13,0,none⟩) x.m.es.length c13 from by rw [←hA13];rfl) rfl hil) ?_;refine aa (ab eg rfl) ?_;have hM19:ah _ w30:=ah.rfl_;have hB19:ah w w30:=hB;refine jh (o:=d.length*3) (v:=.int .i64 (I3+1+(d.length:Nat))) bd (show Value.pointer (some ⟨g13,0+d.length*3+0,none⟩)=Value.pointer (some ⟨g13,d.length*3,none⟩) from by rw [Nat.zero_add,Nat.add_zero]) rfl rfl (hrow.kept_from hM19) (by omega) ?_;intro w32 O19 P19;rw [sB] at P19;have hk2m:=(hk2.from_ hM19).only O19 hn2;have hk3m:=(hk3.from_ hM19).only O19 hn3;have hk4m:=(hk4.from_ hM19).only O19 hn4;have hmJ2:=(hmJ.from_ hM19).only O19 hn5;have hcq:=uL P19 (by rw [←hlen];simp only [List.length_append,List.length_cons]);refine ai (ag (ak ?_));apply bY 12 [(95,eqp _),(96,eqp _),(97,eqp (.slice A13 x.m.es.length c13)),(98,eqp _),(99,eqp (.pointer (some ⟨g13,0+d.length*3,none⟩))),(100,eqp _),(101,eqp (.int .i64 e.t)),(102,eqp _),(103,eqp (.int .i64 (max 0 (min (s.term+(wiN x.m.tm 3:Nat)-1) 1099511627775)))),(104,eqp _),(105,eqp _),(7,eqp _)] (by repeat first | exact cB | refine cz ?_ | refine ck ?_) (by kernel_rfl) (by kernel_rfl) ⟨aj _,aj _,aj _,aj _,aj _,aj _,aj _,aj _,aj _,aj _,aj _,aj _,trivial⟩
   case hop=>
    constructor
    ·rintro-w34 D34;exact au (aK (v:=.int _ _) rfl) rfl
    constructor
    ·rintro-w35 D35;exact au (ab bS rfl) rfl
    constructor
    ·rintro-w36 D36;rintro _ rfl;exact au (ar bk rfl (by exact (show _=some (Value.slice A13 x.m.es.length c13) from (hmJ2.from_ (ah.rfl_.next D36)).rd 9 rfl))) rfl
    constructor
    ·rintro-w37 D37;exact au (aK (v:=.int _ _) rfl) rfl
    constructor
    ·rintro-w38 D38;rintro v38_97 rfl _ rfl;exact au (bq bU (show _=Value.slice (some ⟨g13,0,none⟩) x.m.es.length c13 from by rw [←hA13];rfl) rfl hil) rfl
    constructor
    ·rintro-w39 D39;rintro v39_99 rfl;exact au (ab dC rfl) rfl
    constructor
    ·rintro-w40 D40;rintro _ rfl;exact au (ar ao rfl (by exact dT (ah.rfl_.next D40) hcq 1 _ rfl)) rfl
    constructor
    ·rintro-w41 D41;exact au (ab bJ rfl) rfl
    constructor
    ·rintro-w42 D42;rintro _ rfl;exact au (ar ao rfl (by exact (show _=some (Value.int .i64 (max 0 (min (s.term+(wiN x.m.tm 3:Nat)-1) 1099511627775))) from (hmJ2.from_ (ah.rfl_.next D42)).rd 3 rfl))) rfl
    constructor
    ·rintro-w43 D43;rintro v43_101 rfl v43_103 rfl;exact au (gA rfl rfl) rfl
    constructor
    ·rintro-w44 D44;rintro _ rfl _ rfl;exact au (gP rfl rfl) rfl
    constructor
    ·rintro-w45 D45;rintro _ rfl;exact au (dt (v:=.int _ _) rfl) rfl
    exact trivial
   case hend=>
    intro w46 D46;rintro _ rfl _ rfl v97 rfl _ rfl v99 rfl _ rfl v101 rfl _ rfl v103 rfl _ rfl _ rfl _ rfl;show St ..;refine ai (ag (af (aa (ab bS rfl) (aa (ar bk rfl (by exact (show _=some (Value.slice A13 x.m.es.length c13) from (hmJ2.from_ (ah.rfl_.next D46)).rd 9 rfl))) ?_))));refine mvi rfl (mvi rfl ?_);refine aa (bq bU (show _=Value.slice (some ⟨g13,0,none⟩) x.m.es.length c13 from by rw [←hA13];rfl) rfl hil) ?_;refine aa (ab dC rfl) ?_;have hM21:ah _ w46:=(ah.rfl_.next D46);have hB21:ah w w46:=((hB19.only O19 hg13).next D46);refine jh (o:=d.length*3+1) (v:=.int .i64 (max t (min e.t (max 0 (min (s.term+(wiN x.m.tm 3:Nat)-1) 1099511627775))))) bd (show Value.pointer (some ⟨g13,0+d.length*3+1,none⟩)=Value.pointer (some ⟨g13,d.length*3+1,none⟩) from by rw [Nat.zero_add]) rfl rfl (P19.kept_from hM21) (by omega) ?_;intro w47 O21 P21;rw [sA] at P21;have hk2n:=(hk2m.from_ hM21).only O21 hn2;have hk3n:=(hk3m.from_ hM21).only O21 hn3;have hk4n:=(hk4m.from_ hM21).only O21 hn4;have hmJn:=(hmJ2.from_ hM21).only O21 hn5;have hln2:(d++[(⟨I3+1+(d.length:Nat),max t (min e.t (max 0 (min (s.term+(wiN x.m.tm 3:Nat)-1) 1099511627775))),e.d⟩:Ent)]++r2).length=x.m.es.length:=by rw [←hlen];simp only [List.length_append,List.length_cons,List.length_nil];omega
    have hrwn:(w47).ownsRow w.heap.size 99 3 (.slice A13 x.m.es.length c13) x.m.es.length (cN (d++[(⟨I3+1+(d.length:Nat),max t (min e.t (max 0 (min (s.term+(wiN x.m.tm 3:Nat)-1) 1099511627775))),e.d⟩:Ent)]++r2)):=by
     rw [hA13,List.append_assoc];exact P21
    have hfe2:kE (max 0 (min (s.term+(wiN x.m.tm 3:Nat)-1) 1099511627775)) I3 L9 x.m.es=(d++[(⟨I3+1+(d.length:Nat),max t (min e.t (max 0 (min (s.term+(wiN x.m.tm 3:Nat)-1) 1099511627775))),e.d⟩:Ent)])++kE (max 0 (min (s.term+(wiN x.m.tm 3:Nat)-1) 1099511627775)) (I3+((d++[(⟨I3+1+(d.length:Nat),max t (min e.t (max 0 (min (s.term+(wiN x.m.tm 3:Nat)-1) 1099511627775))),e.d⟩:Ent)]).length:Nat)) (max t (min e.t (max 0 (min (s.term+(wiN x.m.tm 3:Nat)-1) 1099511627775)))) r2:=by
     rw [hfe,List.append_assoc,List.length_append];show d++(⟨I3+(d.length:Nat)+1,max t (min e.t (max 0 (min (s.term+(wiN x.m.tm 3:Nat)-1) 1099511627775))),e.d⟩::kE (max 0 (min (s.term+(wiN x.m.tm 3:Nat)-1) 1099511627775)) (I3+(d.length:Nat)+1) (max t (min e.t (max 0 (min (s.term+(wiN x.m.tm 3:Nat)-1) 1099511627775)))) r2)=_;rw [show I3+(d.length:Nat)+1=I3+1+(d.length:Nat) by omega,show I3+((d.length+[(⟨I3+1+(d.length:Nat),max t (min e.t (max 0 (min (s.term+(wiN x.m.tm 3:Nat)-1) 1099511627775))),e.d⟩:Ent)].length:Nat):Int)=I3+1+(d.length:Nat) by simp only [List.length_cons,List.length_nil];omega];rfl
    refine ai (bN (ag (af (mvi rfl (aa (bW rfl rfl (by omega)) (asi rfl (ai ?_)))))));refine bT ((d++[(⟨I3+1+(d.length:Nat),max t (min e.t (max 0 (min (s.term+(wiN x.m.tm 3:Nat)-1) 1099511627775))),e.d⟩:Ent)],r2,max t (min e.t (max 0 (min (s.term+(wiN x.m.tm 3:Nat)-1) 1099511627775))))) ⟨bM (by simp only [List.length_append,List.length_cons,List.length_nil];omega),rfl,trivial⟩ (by (iterate 72 refine bf rfl ?_);exact bB) ⟨?_,?_⟩
    ·exact ⟨hfe2,hln2,hk2n.from_ ah.rfl_,hk3n.from_ ah.rfl_,hk4n.from_ ah.rfl_,hmJn.from_ ah.rfl_,hrwn.kept_from ah.rfl_,(hB21.only O21 hg13)⟩
    ·simp
  obtain rfl:r=[]:=List.eq_nil_of_length_eq_zero (by rw [List.length_append] at hlen;omega);rw [List.append_nil] at hlen hrw;have hfd:kE (max 0 (min (s.term+(wiN x.m.tm 3:Nat)-1) 1099511627775)) I3 L9 x.m.es=d:=by rw [hfe];exact List.append_nil _
  have ho13m:Mo w.heap.size _ (at9 { x.m with es:=d } A13 c13):=⟨(by show World.ownsRow _ _ _ _ (.slice A13 d.length c13) d.length (cN d);rw [hlen];exact hrw)⟩;refine cq (bg (bg (b_ (ag ?_))));apply bY 9 [(112,eqp _),(113,eqp (.int .i64 s.commit)),(114,eqp _),(115,eqp (.int .i64 x.m.cm)),(116,eqp _),(117,eqp _),(118,eqp _),(119,eqp _),(120,eqp _)] (by repeat first | exact cB | refine cz ?_ | refine ck ?_) (by kernel_rfl) (by kernel_rfl) ⟨aj _,aj _,aj _,aj _,aj _,aj _,aj _,aj _,aj _,trivial⟩
  case hop=>
   constructor
   ·rintro-w49 D49;exact au (ab cQ rfl) rfl
   constructor
   ·rintro-w50 D50;rintro _ rfl;exact au (ar ao rfl (by exact (show _=some (Value.int .i64 s.commit) from (hk2.from_ (ah.rfl_.next D50)).rd 10 rfl))) rfl
   constructor
   ·rintro-w51 D51;exact au (ab dU rfl) rfl
   constructor
   ·rintro-w52 D52;rintro _ rfl;exact au (ar ao rfl (by exact (show _=some (Value.int .i64 x.m.cm) from (hmJ.from_ (ah.rfl_.next D52)).rd 6 rfl))) rfl
   constructor
   ·rintro-w53 D53;rintro v53_115 rfl;refine fD fR ((je x.m.cm 4 _ (by decide)).mono ?_);rintro v _ ⟨rfl,rfl⟩;exact ⟨ah.rfl_,rfl⟩
   constructor
   ·rintro-w54 D54;rintro v54_113 rfl _ rfl;exact au (bW rfl rfl (by omega)) rfl
   constructor
   ·rintro-w55 D55;rintro _ rfl;exact au (gA rfl rfl) rfl
   constructor
   ·rintro-w56 D56;rintro _ rfl;exact au (gP rfl rfl) rfl
   constructor
   ·rintro-w57 D57;exact au (ab dU rfl) rfl
   exact trivial
  case hend=>
   intro w58 D58;rintro _ rfl v113 rfl _ rfl v115 rfl _ rfl _ rfl _ rfl _ rfl _ rfl;show St ..;have hMp:ah _ w58:=(ah.rfl_.next D58);have hmJ9:=hmJ.from_ hMp;replace hk2:=hk2.from_ hMp;replace hk3:=hk3.from_ hMp;replace hk4:=hk4.from_ hMp;replace ho13m:=ho13m.from_ hMp;refine eE (v:=.int _ _) bd rfl rfl rfl (hmJ9) (by show 6<13;decide) ?_;intro w59 O22 P22;replace hk2:=hk2.only O22 (by omega);replace hk3:=hk3.only O22 (by omega);replace hk4:=hk4.only O22 (by omega);replace ho13m:=ho13m.off hmJ9 (by decide) O22;have hm22:Blk w59 b5 39 (bH (at9 { x.m with t:=s.id,f:=s.id%s.nodes+1,tm:=max 0 (min (s.term+(wiN x.m.tm 3:Nat)-1) 1099511627775),ix:=I3,lt:=L9,cm:=max 0 (min (s.commit+(wiN x.m.cm 4:Nat)) 1099511627775) } A13 c13)).toArray:=P22;refine ai (bN (ag (ak (af (aa (aD (cs:=bH (at9 { x.m with t:=s.id,f:=s.id%s.nodes+1,tm:=max 0 (min (s.term+(wiN x.m.tm 3:Nat)-1) 1099511627775),ix:=I3,lt:=L9,cm:=max 0 (min (s.commit+(wiN x.m.cm 4:Nat)) 1099511627775) } A13 c13)) bh aU rfl ((hm22.from_ ah.rfl_).whole)) ?_)))));have hMe:ah _ w59:=ah.rfl_;have hke:=hk4.from_ hMe;refine bK (vs:=[_,_,_,_,_,_,_,_,_,_,_,_,_]) aU rfl rfl (by simp [Value.oneCell']) (hke) rfl ?_;intro w60 O39 P39;have hoe:=(ho13m.from_ hMe).off hke (by decide) O39;refine ai (ag (aC (lK rfl (cL (cs:=[_,_,_,_,_,_,_,_,_,_,_,_,_]) bh aU rfl (by exact P39.whole)) ?_)))
   have e9:(mK s x.m)={ ({ x.m with t:=s.id,f:=s.id%s.nodes+1,tm:=max 0 (min (s.term+(wiN x.m.tm 3:Nat)-1) 1099511627775),ix:=I3,lt:=L9,cm:=max 0 (min (s.commit+(wiN x.m.cm 4:Nat)) 1099511627775) }:Msg) with es:=d }:=by
    have h9:kE (tmH s x.m) (ix3 s x.m) (lt3 s x.m) x.m.es=d:=by rw [←hL9,show ix3 s x.m=I3 from hI3.symm];exact hfd
    unfold mK zm;rw [h9,←hL9,show ix3 s x.m=I3 from hI3.symm,if_pos hff]
   refine ⟨⟨A13,c13,?_,?_⟩,(((hB.next D58).only O22 (hg5)).only O39 (hg4))⟩
   ·rw [e9];unfold bH at9;simp only [hlen]
   ·rw [e9];exact ⟨hoe.o⟩
theorem zi (s:Rf) (a:Ra) (x:Ac) (w:World) (hrd:fo w s a) (hl:s.votes.length≤1000000∧s.next.length≤1000000∧s.mtch.length≤1000000∧s.sent.length≤1000000∧s.reads.length≤1000000∧∀ q∈s.reads,q.acks.length≤1000000) (he:Em w x.m) (hlm:x.m.es.length≤1000000) (hf:x.fit=true) (hm:iB s=true) (hk:x.m.k=3) (hff:x.m.f≠s.id) :
 Rt prog 44 [.agg (rfV s a).toArray,.agg (acV x).toArray] w (fun v w'=>(∃ E c,v=.agg (bH (at9 (mK s x.m) E c)).toArray∧Mo w.heap.size w' (at9 (mK s x.m) E c))∧ah w w'):=by
 have hF:=nq hm;have hnn:=hF.n;have hid:=hF.i;have hte:=hF.te;have hla:=hF.last;have hltb:=hF.lt;obtain ⟨I3,hI3⟩:∃ q,q=ix3 s x.m:=⟨_,rfl⟩;obtain ⟨tt,bb,htb⟩:=wz s I3;have hI4:I3=max 0 (bn s-(wiN x.m.ix 3:Nat)):=hI3;have hco3:=hF.co;have hw7:=nJ x.m.cm 4 (by decide);have hw1:=nJ x.m.tm 3 (by decide);have hw2:=nJ x.m.ix 3 (by decide);have hw3:=nJ x.m.lt 3 (by decide);have hmod:0≤s.id%s.nodes∧s.id%s.nodes<s.nodes:=⟨Int.emod_nonneg _ (by omega),Int.emod_lt_of_pos _ (by omega)⟩
 have hlt0:-1≤di s.t s.es:=by
  have:=sr hF;omega
 refine enter (n:=206) Tryz.func44 rfl rfl rfl (ak (af (bZ (v:=.agg _) rfl ?_)));intro b2 w1 E2 hb2 hk2;refine bZ (v:=.agg _) rfl ?_;intro b3 w2 E3 hb3 hk3;replace hk2:=hk2.from_ E3;refine bQ dI ?_;intro b4 w3 E4 hb4 hk4;have hg4:w.heap.size≤b4:=by rw [hb4];exact (((ah.rfl_.next E2).next E3)).size
 replace hk2:=hk2.from_ E4;replace hk3:=hk3.from_ E4;refine ai (ag (ak (af (aa (ab fA rfl) (aa (aD (cs:=bH x.m) bh aU rfl (lE ((hk3.from_ ah.rfl_).whole))) ?_)))));have hM13:ah _ w3:=ah.rfl_;replace hk2:=hk2.from_ hM13;replace hk3:=hk3.from_ hM13;replace hk4:=hk4.from_ hM13;have hz13:=((((ah.rfl_.next E2).next E3).next E4)).size;have hlt2:=hk2.lt;have hlt3:=hk3.lt;have hlt4a:=hk4.lt;refine az iv (ju x.m _ (he.from_ (((ah.rfl_.next E2).next E3).next E4)) (by omega)) ?_;rintro v13 w4 ⟨⟨A13,c13,rfl,ho13⟩,E13⟩;have ho13m:Mo _ w4 (at9 x.m A13 c13):=⟨ho13⟩;have hz13b:=E13.size;replace hk2:=hk2.from_ E13;replace hk3:=hk3.from_ E13;replace hk4:=hk4.from_ E13;have hM5:ah _ w4:=ah.rfl_;have hz5:=hM5.size;have hlt4b:=(hk4.from_ hM5).lt;refine bQ dI ?_;intro b5 w5 E5 hb5 hk5;have hg5:w.heap.size≤b5:=by rw [hb5];exact (((((ah.rfl_.next E2).next E3).next E4).next E13)).size
 have hlt4:=hk4.lt;replace hk2:=hk2.from_ (hM5.next E5);replace hk3:=hk3.from_ (hM5.next E5);replace hk4:=hk4.from_ (hM5.next E5);replace ho13m:=ho13m.from_ (hM5.next E5);have h45:b4<b5:=by omega
 have h25:b2<b5:=by omega
 have h35:b3<b5:=by omega
 refine bK (vs:=[_,_,_,_,_,_,_,_,_,_,_,_,_]) aU rfl rfl (by simp [Value.oneCell']) (hk5) rfl ?_;intro w6 O1 P1;replace hk2:=hk2.only O1 (by omega);replace hk3:=hk3.only O1 (by omega);replace hk4:=hk4.only O1 (by omega);replace ho13m:=ho13m.off hk5 (by decide) O1;have hm5:Blk w6 b5 39 (bH (at9 x.m A13 c13)).toArray:=P1;refine ai (ag (ak (ak (af (aa (ab jQ rfl) (aa (ar gm rfl (by exact (show _=some (Value.bool x.fit) from (hk3.from_ ah.rfl_).rd 14 rfl))) ?_))))));refine aa (c8 (cn rfl) (by rw [hf];rfl)) ?_;refine mvb rfl (ae rfl (aa (aD (cs:=rfV s a) aP aF rfl ((hk2.from_ ah.rfl_).whole)) (ae rfl (az jc (nf s a _ (hrd.from_ ((((((ah.rfl_.next E2).next E3).next E4).next E13).next E5).only O1 (hg5))) hl hm) ?_))));rintro v19 w7 ⟨rfl,E19⟩;refine ae rfl (aa (c8 (cn rfl) rfl) (aa (av (v:=.bool _) rfl rfl) (ai (ag (bA rfl (aM (ag (ak (af (aa (ab cw rfl) (aa (ar ao rfl (by exact (show _=some (Value.int .i64 s.id) from (hk2.from_ (ah.rfl_.next E19)).rd 0 rfl))) ?_)))))))))));refine aa (ab eC rfl) ?_;have hMp:ah _ w7:=(ah.rfl_.next E19);have hm59:=hm5.from_ hMp;replace hk2:=hk2.from_ hMp;replace hk3:=hk3.from_ hMp;replace hk4:=hk4.from_ hMp;replace ho13m:=ho13m.from_ hMp;refine eE (v:=.int _ _) bd rfl rfl rfl (hm59) (by show 2<13;decide) ?_;intro w8 O4 P4;replace hk2:=hk2.only O4 (by omega);replace hk3:=hk3.only O4 (by omega);replace hk4:=hk4.only O4 (by omega);replace ho13m:=ho13m.off hm59 (by decide) O4;have hm4:Blk w8 b5 39 (bH (at9 { x.m with t:=s.id } A13 c13)).toArray:=P4;refine ai (ag (ak (ak (af (aa (ab cu rfl) (aa (ar ao rfl (by exact (show _=some (Value.int .i64 x.m.f) from (hm4.from_ ah.rfl_).rd 1 rfl))) ?_))))));refine aa (ab cw rfl) (aa (ar ao rfl (by exact (show _=some (Value.int .i64 s.id) from (hk2.from_ ah.rfl_).rd 0 rfl))) ?_);refine aa (c8 (bt rfl rfl) (beq_eq_false_iff_ne.2 hff)) (ai (ag (bA rfl (aM (ag (ak (af (aa (ab bj rfl) (aa (aD (cs:=[.int .i64 s.b,.int .i64 s.t,.slice a.E s.es.length a.Ec]) aY aL rfl (iM (show Blk _ b2 29 (rfV s a++[]).toArray from hk2.from_ ah.rfl_))) (az kz (mA s a.E s.es.length a.Ec _ (hrd.e.from_ ((((((((ah.rfl_.next E2).next E3).next E4).next E13).next E5).only O1 (hg5)).next E19).only O4 (hg5))) hF.lg) ?_))))))))));rintro v41 w9 ⟨rfl,E41⟩;refine mvt rfl (aa (aO rfl rfl) (aa (aO rfl rfl) (asi rfl (asi rfl (ai (ag (ak ?_)))))));apply bY 10 [(44,eqp _),(45,eqp (.int .i64 s.term)),(46,eqp _),(47,eqp (.int .i64 x.m.tm)),(48,eqp _),(49,eqp _),(50,eqp _),(51,eqp _),(52,eqp _),(53,eqp _)] (by repeat first | exact cB | refine cz ?_ | refine ck ?_) (by kernel_rfl) (by kernel_rfl) ⟨aj _,aj _,aj _,aj _,aj _,aj _,aj _,aj _,aj _,aj _,trivial⟩
 case hop=>
  constructor
  ·rintro-w11 D11;exact au (ab bL rfl) rfl
  constructor
  ·rintro-w12 D12;rintro _ rfl;exact au (ar ao rfl (by exact (show _=some (Value.int .i64 s.term) from (hk2.from_ ((ah.rfl_.next E41).next D12)).rd 3 rfl))) rfl
  constructor
  ·rintro-w13 D13;exact au (ab bJ rfl) rfl
  constructor
  ·rintro-w14 D14;rintro _ rfl;exact au (ar ao rfl (by exact (show _=some (Value.int .i64 x.m.tm) from (hm4.from_ ((ah.rfl_.next E41).next D14)).rd 3 rfl))) rfl
  constructor
  ·rintro-w15 D15;rintro v15_47 rfl;refine fD fR ((je x.m.tm 3 _ (by decide)).mono ?_);rintro v _ ⟨rfl,rfl⟩;exact ⟨ah.rfl_,rfl⟩
  constructor
  ·rintro-w16 D16;rintro v16_45 rfl _ rfl;exact au (bW rfl rfl (by omega)) rfl
  constructor
  ·rintro-w17 D17;rintro _ rfl;exact au (dM rfl rfl (by omega)) rfl
  constructor
  ·rintro-w18 D18;rintro _ rfl;exact au (gA rfl rfl) rfl
  constructor
  ·rintro-w19 D19;rintro _ rfl;exact au (gP rfl rfl) rfl
  constructor
  ·rintro-w20 D20;exact au (ab bJ rfl) rfl
  exact trivial
 case hend=>
  intro w21 D21;rintro _ rfl v45 rfl _ rfl v47 rfl _ rfl _ rfl _ rfl _ rfl _ rfl _ rfl;show St ..;have hMp:ah _ w21:=((ah.rfl_.next E41).next D21);have hm49:=hm4.from_ hMp;replace hk2:=hk2.from_ hMp;replace hk3:=hk3.from_ hMp;replace hk4:=hk4.from_ hMp;replace ho13m:=ho13m.from_ hMp;refine eE (v:=.int _ _) bd rfl rfl rfl (hm49) (by show 3<13;decide) ?_;intro w22 O8 P8;replace hk2:=hk2.only O8 (by omega);replace hk3:=hk3.only O8 (by omega);replace hk4:=hk4.only O8 (by omega);replace ho13m:=ho13m.off hm49 (by decide) O8;have hm8:Blk w22 b5 39 (bH (at9 { x.m with t:=s.id,tm:=max 0 (min (s.term+(wiN x.m.tm 3:Nat)-1) 1099511627775) } A13 c13)).toArray:=P8;refine ai (ag (ak (ak (af (aa (ab cM rfl) (aa (ar ao rfl (by exact (show _=some (Value.int .i64 x.m.k) from (hm8.from_ ah.rfl_).rd 0 rfl))) ?_))))));refine ai (ag (a_ (ak (af (aa (dh (bt rfl rfl) (beq_iff_eq.2 hk)) (asb rfl (ai (ag (aR rfl (ak (af (mvi rfl (aa (ab cF rfl) (aa (ar ao rfl (by exact (show _=some (Value.int .i64 x.m.ix) from (hm8.from_ ah.rfl_).rd 4 rfl))) ?_))))))))))))));refine az fR (je x.m.ix 3 _ (by decide)) ?_;rintro v61 w23 ⟨rfl,rfl⟩;refine aa (dM rfl rfl (by omega)) (aa (gP rfl rfl) (dP (t:=63) (v:=.int _ _) (v':=.int .i64 I3) rfl (by exact bM (by omega)) ?_));refine aa (ab cF rfl) ?_;have hMp:ah _ w22:=ah.rfl_;have hm89:=hm8.from_ hMp;replace hk2:=hk2.from_ hMp;replace hk3:=hk3.from_ hMp;replace hk4:=hk4.from_ hMp;replace ho13m:=ho13m.from_ hMp;refine eE (v:=.int _ _) bd rfl rfl rfl (hm89) (by show 4<13;decide) ?_;intro w24 O11 P11;replace hk2:=hk2.only O11 (by omega);replace hk3:=hk3.only O11 (by omega);replace hk4:=hk4.only O11 (by omega);replace ho13m:=ho13m.off hm89 (by decide) O11;have hm11:Blk w24 b5 39 (bH (at9 { x.m with t:=s.id,tm:=max 0 (min (s.term+(wiN x.m.tm 3:Nat)-1) 1099511627775),ix:=I3 } A13 c13)).toArray:=P11;refine ai (ag (ak (af (aa (ab bj rfl) (aa (aD (cs:=[.int .i64 s.b,.int .i64 s.t,.slice a.E s.es.length a.Ec]) aY aL rfl (iM (show Blk _ b2 29 (rfV s a++[]).toArray from hk2.from_ ah.rfl_))) (aa (ab cF rfl) (aa (ar ao rfl (by exact (show _=some (Value.int .i64 I3) from (hm11.from_ ah.rfl_).rd 4 rfl))) ?_)))))));refine az gT (r8 s I3 a.E a.Ec _ (hrd.e.from_ ((((((((((((ah.rfl_.next E2).next E3).next E4).next E13).next E5).only O1 (hg5)).next E19).only O4 (hg5)).next E41).next D21).only O8 (hg5)).only O11 (hg5))) hF.lg (by omega) htb) ?_;rintro v70 w25 ⟨rfl,E70⟩;refine mvt rfl (aa (aO rfl rfl) (aa (aO rfl rfl) (asi rfl (asb rfl (ai (ag (fY (G:=Int) [73,74,75] (fun _=>[]) (fun L9 w'=>Blk w' b2 29 (rfV s a).toArray∧Blk w' b3 41 (acV x).toArray∧Blk w' b4 39 (.agg (bH zM).toArray:Value).cells∧L9=lt3 s x.m∧Blk w' b5 39 (bH (at9 { x.m with t:=s.id,tm:=max 0 (min (s.term+(wiN x.m.tm 3:Nat)-1) 1099511627775),ix:=I3,lt:=L9 } A13 c13)).toArray∧w'.ownsRow w.heap.size 99 3 (.slice A13 x.m.es.length c13) x.m.es.length (cN x.m.es)∧ah w w') ?_ ?_)))))))
  ·refine ak (af (mvb rfl (ai (ag (aQ rfl (fun Q26=>?_) (fun Q26=>?_))))))
   ·obtain rfl:bb=true:=Q26
    have hlt:tt=lt3 s x.m:=by
     rcases htb.1 with ⟨_,e1,e2⟩ | ⟨e,_⟩
     ·unfold lt3;rw [show ix3 s x.m=I3 from hI3.symm,if_pos e1];exact e2
     ·cases e
    refine af (mvi rfl (aa (ab cV rfl) ?_));have hMp:ah _ w25:=(ah.rfl_.next E70);have hm119:=hm11.from_ hMp;replace hk2:=hk2.from_ hMp;replace hk3:=hk3.from_ hMp;replace hk4:=hk4.from_ hMp;replace ho13m:=ho13m.from_ hMp;refine eE (v:=.int _ _) bd rfl rfl rfl (hm119) (by show 5<13;decide) ?_;intro w27 O14 P14;replace hk2:=hk2.only O14 (by omega);replace hk3:=hk3.only O14 (by omega);replace hk4:=hk4.only O14 (by omega);replace ho13m:=ho13m.off hm119 (by decide) O14;have hm14:Blk w27 b5 39 (bH (at9 { x.m with t:=s.id,tm:=max 0 (min (s.term+(wiN x.m.tm 3:Nat)-1) 1099511627775),ix:=I3,lt:=tt } A13 c13)).toArray:=P14;refine ai ?_;refine bT (tt) trivial (by (iterate 3 refine bf rfl ?_);exact bB) ?_;exact ⟨hk2.from_ ah.rfl_,hk3.from_ ah.rfl_,hk4.from_ ah.rfl_,hlt,hm14.from_ ah.rfl_,(ec ho13m.o hz13).kept_from ah.rfl_,((((((((((((((ah.rfl_.next E2).next E3).next E4).next E13).next E5).only O1 (hg5)).next E19).only O4 (hg5)).next E41).next D21).only O8 (hg5)).only O11 (hg5)).next E70).only O14 (hg5))⟩
   obtain rfl:bb=false:=Q26
   have hlt:x.m.lt=lt3 s x.m:=by
    rcases htb.1 with ⟨e,_,_⟩ | ⟨_,e1⟩
    ·cases e
    ·unfold lt3;rw [show ix3 s x.m=I3 from hI3.symm,if_neg e1]
   refine aM ?_;refine bT (x.m.lt) trivial (by (iterate 1 refine bf rfl ?_);exact bB) ?_;exact ⟨hk2.from_ (ah.rfl_.next E70),hk3.from_ (ah.rfl_.next E70),hk4.from_ (ah.rfl_.next E70),hlt,hm11.from_ (ah.rfl_.next E70),(ec ho13m.o hz13).kept_from (ah.rfl_.next E70),(((((((((((((ah.rfl_.next E2).next E3).next E4).next E13).next E5).only O1 (hg5)).next E19).only O4 (hg5)).next E41).next D21).only O8 (hg5)).only O11 (hg5)).next E70)⟩
  rintro L9 ρ28 w28 ⟨hk2,hk3,hk4,hL9,hmL,hrw0,hB⟩;refine ak (af (aa (ab cV rfl) (aa (ar ao rfl (by exact (show _=some (Value.int .i64 L9) from (hmL.from_ ah.rfl_).rd 5 rfl))) ?_)));refine asi rfl (ai (ag (ak (ak (af (asi rfl (ai (ag (a_ (cY (G:=List Ent×List Ent×Int) [78,79,80,81,82,83,84,85,86,87,88,89,90,91,92,93,94,95,96,97,98,99,100,101,102,103,104,105,106,107,108,109,110,111] (fun (d,r,t)=>[(10,.int .i64 (d.length:Nat)),(7,.int .i64 t)]) (fun (d,r,t) w'=>kE (max 0 (min (s.term+(wiN x.m.tm 3:Nat)-1) 1099511627775)) I3 L9 x.m.es=d++kE (max 0 (min (s.term+(wiN x.m.tm 3:Nat)-1) 1099511627775)) (I3+(d.length:Nat)) t r∧(d++r).length=x.m.es.length∧Blk w' b2 29 (rfV s a).toArray∧Blk w' b3 41 (acV x).toArray∧Blk w' b4 39 (.agg (bH zM).toArray:Value).cells∧Blk w' b5 39 (bH (at9 { x.m with t:=s.id,tm:=max 0 (min (s.term+(wiN x.m.tm 3:Nat)-1) 1099511627775),ix:=I3,lt:=L9 } A13 c13)).toArray∧w'.ownsRow w.heap.size 99 3 (.slice A13 x.m.es.length c13) x.m.es.length (cN (d++r))∧ah w w') (fun (d,r,t)=>r.length) (([],x.m.es,L9)) ⟨rfl,rfl,trivial⟩ ?_ ?_))))))))))
  ·exact ⟨by simp,rfl,hk2.from_ ah.rfl_,hk3.from_ ah.rfl_,hk4.from_ ah.rfl_,hmL.from_ ah.rfl_,hrw0.kept_from ah.rfl_,hB⟩
  rintro ⟨d,r,t⟩ ρ29 w29 ⟨hfe,hlen,hk2,hk3,hk4,hmJ,hrw,hB⟩;refine ak (ak (af (mvi rfl (aa (ab bS rfl) (aa (ar bk rfl (by exact (show _=some (Value.slice A13 x.m.es.length c13) from (hmJ.from_ ah.rfl_).rd 9 rfl))) ?_)))));refine aa (bF bC rfl) (aa (cg rfl rfl) (ai (ag (Bn rfl (fun Q30=>?_) (fun Q30=>?_)))))
  ·have hil:d.length<x.m.es.length:=by omega
   obtain ⟨e,r2,rfl⟩:∃ e r2,r=e::r2:=by
    cases r with
    |nil=>(rw [List.append_nil] at hlen;omega)
    |cons e r2=>exact ⟨e,r2,rfl⟩
   obtain ⟨g13,hA13⟩:=ft hrw (by omega);have hrow:=hrw;rw [hA13] at hrow;have hg13:w.heap.size≤g13:=(eN hrow g13 rfl).1;have hn2:b2≠g13:=fun e9=>absurd (eS hrow hk2 (by decide)) (fun h9=>by have h8:=h9 g13 rfl;omega)
   have hn3:b3≠g13:=fun e9=>absurd (eS hrow hk3 (by decide)) (fun h9=>by have h8:=h9 g13 rfl;omega)
   have hn4:b4≠g13:=fun e9=>absurd (eS hrow hk4 (by decide)) (fun h9=>by have h8:=h9 g13 rfl;omega)
   have hn5:b5≠g13:=fun e9=>absurd (eS hrow hmJ (by decide)) (fun h9=>by have h8:=h9 g13 rfl;omega)
   refine aM (ag (ak (a_ (ak (af (aa (ab bS rfl) (aa (ar bk rfl (by exact (show _=some (Value.slice A13 x.m.es.length c13) from (hmJ.from_ ah.rfl_).rd 9 rfl))) ?_)))))));refine mvi rfl (aa (ab cF rfl) (aa (ar ao rfl (by exact (show _=some (Value.int .i64 I3) from (hmJ.from_ ah.rfl_).rd 4 rfl))) ?_));refine aa (bW rfl rfl (by omega)) (mvi rfl (aa (bW rfl rfl (by omega)) ?_));refine aa (bq bU (show _=Value.slice (some ⟨g13,0,none⟩) x.m.es.length c13 from by rw [←hA13];rfl) rfl hil) ?_;refine aa (ab eg rfl) ?_;have hM19:ah _ w29:=ah.rfl_;have hB19:ah w w29:=hB;refine jh (o:=d.length*3) (v:=.int .i64 (I3+1+(d.length:Nat))) bd (show Value.pointer (some ⟨g13,0+d.length*3+0,none⟩)=Value.pointer (some ⟨g13,d.length*3,none⟩) from by rw [Nat.zero_add,Nat.add_zero]) rfl rfl (hrow.kept_from hM19) (by omega) ?_;intro w31 O19 P19;rw [sB] at P19;have hk2m:=(hk2.from_ hM19).only O19 hn2;have hk3m:=(hk3.from_ hM19).only O19 hn3;have hk4m:=(hk4.from_ hM19).only O19 hn4;have hmJ2:=(hmJ.from_ hM19).only O19 hn5;have hcq:=uL P19 (by rw [←hlen];simp only [List.length_append,List.length_cons]);refine ai (ag (ak ?_));apply bY 12 [(95,eqp _),(96,eqp _),(97,eqp (.slice A13 x.m.es.length c13)),(98,eqp _),(99,eqp (.pointer (some ⟨g13,0+d.length*3,none⟩))),(100,eqp _),(101,eqp (.int .i64 e.t)),(102,eqp _),(103,eqp (.int .i64 (max 0 (min (s.term+(wiN x.m.tm 3:Nat)-1) 1099511627775)))),(104,eqp _),(105,eqp _),(7,eqp _)] (by repeat first | exact cB | refine cz ?_ | refine ck ?_) (by kernel_rfl) (by kernel_rfl) ⟨aj _,aj _,aj _,aj _,aj _,aj _,aj _,aj _,aj _,aj _,aj _,aj _,trivial⟩
   case hop=>
    constructor
    ·rintro-w33 D33;exact au (aK (v:=.int _ _) rfl) rfl
    constructor
    ·rintro-w34 D34;exact au (ab bS rfl) rfl
    constructor
    ·rintro-w35 D35;rintro _ rfl;exact au (ar bk rfl (by exact (show _=some (Value.slice A13 x.m.es.length c13) from (hmJ2.from_ (ah.rfl_.next D35)).rd 9 rfl))) rfl
    constructor
    ·rintro-w36 D36;exact au (aK (v:=.int _ _) rfl) rfl
    constructor
    ·rintro-w37 D37;rintro v37_97 rfl _ rfl;exact au (bq bU (show _=Value.slice (some ⟨g13,0,none⟩) x.m.es.length c13 from by rw [←hA13];rfl) rfl hil) rfl
    constructor
    ·rintro-w38 D38;rintro v38_99 rfl;exact au (ab dC rfl) rfl
    constructor
    ·rintro-w39 D39;rintro _ rfl;exact au (ar ao rfl (by exact dT (ah.rfl_.next D39) hcq 1 _ rfl)) rfl
    constructor
    ·rintro-w40 D40;exact au (ab bJ rfl) rfl
    constructor
    ·rintro-w41 D41;rintro _ rfl;exact au (ar ao rfl (by exact (show _=some (Value.int .i64 (max 0 (min (s.term+(wiN x.m.tm 3:Nat)-1) 1099511627775))) from (hmJ2.from_ (ah.rfl_.next D41)).rd 3 rfl))) rfl
    constructor
    ·rintro-w42 D42;rintro v42_101 rfl v42_103 rfl;exact au (gA rfl rfl) rfl
    constructor
    ·rintro-w43 D43;rintro _ rfl _ rfl;exact au (gP rfl rfl) rfl
    constructor
    ·rintro-w44 D44;rintro _ rfl;exact au (dt (v:=.int _ _) rfl) rfl
    exact trivial
   case hend=>
    intro w45 D45;rintro _ rfl _ rfl v97 rfl _ rfl v99 rfl _ rfl v101 rfl _ rfl v103 rfl _ rfl _ rfl _ rfl;show St ..;refine ai (ag (af (aa (ab bS rfl) (aa (ar bk rfl (by exact (show _=some (Value.slice A13 x.m.es.length c13) from (hmJ2.from_ (ah.rfl_.next D45)).rd 9 rfl))) ?_))));refine mvi rfl (mvi rfl ?_);refine aa (bq bU (show _=Value.slice (some ⟨g13,0,none⟩) x.m.es.length c13 from by rw [←hA13];rfl) rfl hil) ?_;refine aa (ab dC rfl) ?_;have hM21:ah _ w45:=(ah.rfl_.next D45);have hB21:ah w w45:=((hB19.only O19 hg13).next D45);refine jh (o:=d.length*3+1) (v:=.int .i64 (max t (min e.t (max 0 (min (s.term+(wiN x.m.tm 3:Nat)-1) 1099511627775))))) bd (show Value.pointer (some ⟨g13,0+d.length*3+1,none⟩)=Value.pointer (some ⟨g13,d.length*3+1,none⟩) from by rw [Nat.zero_add]) rfl rfl (P19.kept_from hM21) (by omega) ?_;intro w46 O21 P21;rw [sA] at P21;have hk2n:=(hk2m.from_ hM21).only O21 hn2;have hk3n:=(hk3m.from_ hM21).only O21 hn3;have hk4n:=(hk4m.from_ hM21).only O21 hn4;have hmJn:=(hmJ2.from_ hM21).only O21 hn5;have hln2:(d++[(⟨I3+1+(d.length:Nat),max t (min e.t (max 0 (min (s.term+(wiN x.m.tm 3:Nat)-1) 1099511627775))),e.d⟩:Ent)]++r2).length=x.m.es.length:=by rw [←hlen];simp only [List.length_append,List.length_cons,List.length_nil];omega
    have hrwn:(w46).ownsRow w.heap.size 99 3 (.slice A13 x.m.es.length c13) x.m.es.length (cN (d++[(⟨I3+1+(d.length:Nat),max t (min e.t (max 0 (min (s.term+(wiN x.m.tm 3:Nat)-1) 1099511627775))),e.d⟩:Ent)]++r2)):=by
     rw [hA13,List.append_assoc];exact P21
    have hfe2:kE (max 0 (min (s.term+(wiN x.m.tm 3:Nat)-1) 1099511627775)) I3 L9 x.m.es=(d++[(⟨I3+1+(d.length:Nat),max t (min e.t (max 0 (min (s.term+(wiN x.m.tm 3:Nat)-1) 1099511627775))),e.d⟩:Ent)])++kE (max 0 (min (s.term+(wiN x.m.tm 3:Nat)-1) 1099511627775)) (I3+((d++[(⟨I3+1+(d.length:Nat),max t (min e.t (max 0 (min (s.term+(wiN x.m.tm 3:Nat)-1) 1099511627775))),e.d⟩:Ent)]).length:Nat)) (max t (min e.t (max 0 (min (s.term+(wiN x.m.tm 3:Nat)-1) 1099511627775)))) r2:=by
     rw [hfe,List.append_assoc,List.length_append];show d++(⟨I3+(d.length:Nat)+1,max t (min e.t (max 0 (min (s.term+(wiN x.m.tm 3:Nat)-1) 1099511627775))),e.d⟩::kE (max 0 (min (s.term+(wiN x.m.tm 3:Nat)-1) 1099511627775)) (I3+(d.length:Nat)+1) (max t (min e.t (max 0 (min (s.term+(wiN x.m.tm 3:Nat)-1) 1099511627775)))) r2)=_;rw [show I3+(d.length:Nat)+1=I3+1+(d.length:Nat) by omega,show I3+((d.length+[(⟨I3+1+(d.length:Nat),max t (min e.t (max 0 (min (s.term+(wiN x.m.tm 3:Nat)-1) 1099511627775))),e.d⟩:Ent)].length:Nat):Int)=I3+1+(d.length:Nat) by simp only [List.length_cons,List.length_nil];omega];rfl
    refine ai (bN (ag (af (mvi rfl (aa (bW rfl rfl (by omega)) (asi rfl (ai ?_)))))));refine bT ((d++[(⟨I3+1+(d.length:Nat),max t (min e.t (max 0 (min (s.term+(wiN x.m.tm 3:Nat)-1) 1099511627775))),e.d⟩:Ent)],r2,max t (min e.t (max 0 (min (s.term+(wiN x.m.tm 3:Nat)-1) 1099511627775))))) ⟨bM (by simp only [List.length_append,List.length_cons,List.length_nil];omega),rfl,trivial⟩ (by (iterate 72 refine bf rfl ?_);exact bB) ⟨?_,?_⟩
    ·exact ⟨hfe2,hln2,hk2n.from_ ah.rfl_,hk3n.from_ ah.rfl_,hk4n.from_ ah.rfl_,hmJn.from_ ah.rfl_,hrwn.kept_from ah.rfl_,(hB21.only O21 hg13)⟩
    ·simp
  obtain rfl:r=[]:=List.eq_nil_of_length_eq_zero (by rw [List.length_append] at hlen;omega);rw [List.append_nil] at hlen hrw;have hfd:kE (max 0 (min (s.term+(wiN x.m.tm 3:Nat)-1) 1099511627775)) I3 L9 x.m.es=d:=by rw [hfe];exact List.append_nil _
  have ho13m:Mo w.heap.size _ (at9 { x.m with es:=d } A13 c13):=⟨(by show World.ownsRow _ _ _ _ (.slice A13 d.length c13) d.length (cN d);rw [hlen];exact hrw)⟩;refine cq (bg (bg (b_ (ag ?_))));apply bY 9 [(112,eqp _),(113,eqp (.int .i64 s.commit)),(114,eqp _),(115,eqp (.int .i64 x.m.cm)),(116,eqp _),(117,eqp _),(118,eqp _),(119,eqp _),(120,eqp _)] (by repeat first | exact cB | refine cz ?_ | refine ck ?_) (by kernel_rfl) (by kernel_rfl) ⟨aj _,aj _,aj _,aj _,aj _,aj _,aj _,aj _,aj _,trivial⟩
  case hop=>
   constructor
   ·rintro-w48 D48;exact au (ab cQ rfl) rfl
   constructor
   ·rintro-w49 D49;rintro _ rfl;exact au (ar ao rfl (by exact (show _=some (Value.int .i64 s.commit) from (hk2.from_ (ah.rfl_.next D49)).rd 10 rfl))) rfl
   constructor
   ·rintro-w50 D50;exact au (ab dU rfl) rfl
   constructor
   ·rintro-w51 D51;rintro _ rfl;exact au (ar ao rfl (by exact (show _=some (Value.int .i64 x.m.cm) from (hmJ.from_ (ah.rfl_.next D51)).rd 6 rfl))) rfl
   constructor
   ·rintro-w52 D52;rintro v52_115 rfl;refine fD fR ((je x.m.cm 4 _ (by decide)).mono ?_);rintro v _ ⟨rfl,rfl⟩;exact ⟨ah.rfl_,rfl⟩
   constructor
   ·rintro-w53 D53;rintro v53_113 rfl _ rfl;exact au (bW rfl rfl (by omega)) rfl
   constructor
   ·rintro-w54 D54;rintro _ rfl;exact au (gA rfl rfl) rfl
   constructor
   ·rintro-w55 D55;rintro _ rfl;exact au (gP rfl rfl) rfl
   constructor
   ·rintro-w56 D56;exact au (ab dU rfl) rfl
   exact trivial
  case hend=>
   intro w57 D57;rintro _ rfl v113 rfl _ rfl v115 rfl _ rfl _ rfl _ rfl _ rfl _ rfl;show St ..;have hMp:ah _ w57:=(ah.rfl_.next D57);have hmJ9:=hmJ.from_ hMp;replace hk2:=hk2.from_ hMp;replace hk3:=hk3.from_ hMp;replace hk4:=hk4.from_ hMp;replace ho13m:=ho13m.from_ hMp;refine eE (v:=.int _ _) bd rfl rfl rfl (hmJ9) (by show 6<13;decide) ?_;intro w58 O22 P22;replace hk2:=hk2.only O22 (by omega);replace hk3:=hk3.only O22 (by omega);replace hk4:=hk4.only O22 (by omega);replace ho13m:=ho13m.off hmJ9 (by decide) O22;have hm22:Blk w58 b5 39 (bH (at9 { x.m with t:=s.id,tm:=max 0 (min (s.term+(wiN x.m.tm 3:Nat)-1) 1099511627775),ix:=I3,lt:=L9,cm:=max 0 (min (s.commit+(wiN x.m.cm 4:Nat)) 1099511627775) } A13 c13)).toArray:=P22;refine ai (bN (ag (ak (af (aa (aD (cs:=bH (at9 { x.m with t:=s.id,tm:=max 0 (min (s.term+(wiN x.m.tm 3:Nat)-1) 1099511627775),ix:=I3,lt:=L9,cm:=max 0 (min (s.commit+(wiN x.m.cm 4:Nat)) 1099511627775) } A13 c13)) bh aU rfl ((hm22.from_ ah.rfl_).whole)) ?_)))));have hMe:ah _ w58:=ah.rfl_;have hke:=hk4.from_ hMe;refine bK (vs:=[_,_,_,_,_,_,_,_,_,_,_,_,_]) aU rfl rfl (by simp [Value.oneCell']) (hke) rfl ?_;intro w59 O39 P39;have hoe:=(ho13m.from_ hMe).off hke (by decide) O39;refine ai (ag (aC (lK rfl (cL (cs:=[_,_,_,_,_,_,_,_,_,_,_,_,_]) bh aU rfl (by exact P39.whole)) ?_)))
   have e9:(mK s x.m)={ ({ x.m with t:=s.id,tm:=max 0 (min (s.term+(wiN x.m.tm 3:Nat)-1) 1099511627775),ix:=I3,lt:=L9,cm:=max 0 (min (s.commit+(wiN x.m.cm 4:Nat)) 1099511627775) }:Msg) with es:=d }:=by
    have h9:kE (tmH s x.m) (ix3 s x.m) (lt3 s x.m) x.m.es=d:=by rw [←hL9,show ix3 s x.m=I3 from hI3.symm];exact hfd
    unfold mK zm;rw [h9,←hL9,show ix3 s x.m=I3 from hI3.symm,if_neg hff]
   refine ⟨⟨A13,c13,?_,?_⟩,(((hB.next D57).only O22 (hg5)).only O39 (hg4))⟩
   ·rw [e9];unfold bH at9;simp only [hlen]
   ·rw [e9];exact ⟨hoe.o⟩
theorem sV:aN prog 141=true:=by kernel_rfl
theorem sW:aN prog 140=true:=by kernel_rfl
theorem sU:aN prog 142=true:=by kernel_rfl
theorem sT:aN prog 143=true:=by kernel_rfl
theorem me:∀ (a0:Int) (a1:Int) (a2:Int) (a3:Int),prog.built 39 [(0,.int .i64 a0),(1,.int .i64 a1),(2,.int .i64 a2),(3,.int .i64 a3)]=some #[.int .i64 a0,.int .i64 a1,.int .i64 a2,.int .i64 a3,.int .i64 0,.int .i64 0,.int .i64 0,.int .i64 0,.bool false,.slice none 0 0,.int .i64 0,.string ⟨#[]⟩,.bool false]:=by intros;kernel_rfl
theorem sX:aN prog 105=true:=by kernel_rfl
theorem tk (k f t tm ix lt cm rd:Int) (ok:Bool) (E:Option Addr) (n c:Nat) (a:Int) (d:ByteArray) (dn:Bool) (w:World) (hk:k=3) :
 Rt prog 141 [.agg #[.int .i64 k,.int .i64 f,.int .i64 t,.int .i64 tm,.int .i64 ix,.int .i64 lt,.int .i64 cm,.int .i64 rd,.bool ok,.slice E n c,.int .i64 a,.string d,.bool dn]] w (fun v w'=>(∃ ix' lt' cm' rd' ok' E' n' c' a' d' dn',v=.agg #[.int .i64 k,.int .i64 f,.int .i64 t,.int .i64 tm,.int .i64 ix',.int .i64 lt',.int .i64 cm',.int .i64 rd',.bool ok',.slice E' n' c',.int .i64 a',.string d',.bool dn']∧((ix'=0∧lt'=0∧cm'=0∧rd'=0∧a'=0∧ok'.toNat=0∧dn'.toNat=0∧d'.size=0∧n'=0)↔ExR k ix lt cm rd ok n a d dn))∧ah w w'):=by
 refine enter (n:=38) Tryz.func141 rfl rfl rfl (ak (af (bZ (v:=.agg _) rfl ?_)));intro b1 w1 E1 hb1 hk1;have hg1:w.heap.size≤b1:=by rw [hb1];exact Nat.le_refl _
 refine bQ dI ?_;intro b2 w2 E2 hb2 hk2;have hlt:=hk1.lt;have hg2:w.heap.size≤b2:=by rw [hb2];exact ((ah.rfl_.next E1)).size
 have h12:b1<b2:=by omega
 replace hk1:=hk1.from_ E2;refine ai (ag (ak (ak (af (aa (ab cM rfl) (aa (ar ao rfl (by exact hk1.rd 0 rfl)) ?_))))));refine ai (ag (a_ (ak (af (aa (bt rfl rfl) (asb rfl (ai (ag (Bm rfl (fun Q3=>?_) (fun Q3=>?_))))))))))
 ·exfalso;omega
 refine ak (af (aa (bt rfl rfl) (asb rfl (ai (ag (Bm rfl (fun Q7=>?_) (fun Q7=>?_)))))))
 ·exfalso;omega
 refine ak (af (aa (bt rfl rfl) (asb rfl (ai (ag (Bm rfl (fun Q10=>?_) (fun Q10=>?_)))))));rotate_left
 ·exfalso;omega
 refine af (aa (ab cF rfl) (eE (v:=.int _ _) bd rfl rfl rfl (hk1) (by show 0+4<13;decide) ?_));intro w30 O7_0 P7_0;replace hk2:=hk2.only O7_0 (by omega);replace hk1:Blk w30 b1 39 #[.int .i64 k,.int .i64 f,.int .i64 t,.int .i64 tm,.int .i64 0,.int .i64 lt,.int .i64 cm,.int .i64 rd,.bool ok,.slice E n c,.int .i64 a,.string d,.bool dn]:=P7_0;refine aa (ab cV rfl) (eE (v:=.int _ _) bd rfl rfl rfl (hk1) (by show 0+5<13;decide) ?_);intro w31 O7_1 P7_1;replace hk2:=hk2.only O7_1 (by omega);replace hk1:Blk w31 b1 39 #[.int .i64 k,.int .i64 f,.int .i64 t,.int .i64 tm,.int .i64 0,.int .i64 0,.int .i64 cm,.int .i64 rd,.bool ok,.slice E n c,.int .i64 a,.string d,.bool dn]:=P7_1;refine aa (ab dU rfl) (eE (v:=.int _ _) bd rfl rfl rfl (hk1) (by show 0+6<13;decide) ?_);intro w32 O7_2 P7_2;replace hk2:=hk2.only O7_2 (by omega);replace hk1:Blk w32 b1 39 #[.int .i64 k,.int .i64 f,.int .i64 t,.int .i64 tm,.int .i64 0,.int .i64 0,.int .i64 0,.int .i64 rd,.bool ok,.slice E n c,.int .i64 a,.string d,.bool dn]:=P7_2;refine aa (ab d_ rfl) (eE (v:=.int _ _) bd rfl rfl rfl (hk1) (by show 0+7<13;decide) ?_);intro w33 O7_3 P7_3;replace hk2:=hk2.only O7_3 (by omega);replace hk1:Blk w33 b1 39 #[.int .i64 k,.int .i64 f,.int .i64 t,.int .i64 tm,.int .i64 0,.int .i64 0,.int .i64 0,.int .i64 0,.bool ok,.slice E n c,.int .i64 a,.string d,.bool dn]:=P7_3;refine aa (ab bS rfl) (eE (v:=.slice _ _ _) gW rfl rfl rfl (hk1) (by show 0+9<13;decide) ?_);intro w34 O7_4 P7_4;replace hk2:=hk2.only O7_4 (by omega);replace hk1:Blk w34 b1 39 #[.int .i64 k,.int .i64 f,.int .i64 t,.int .i64 tm,.int .i64 0,.int .i64 0,.int .i64 0,.int .i64 0,.bool ok,.slice none 0 0,.int .i64 a,.string d,.bool dn]:=P7_4;refine ai (bN (ag (ak (af (aa (aD (cs:=[_,_,_,_,_,_,_,_,_,_,_,_,_]) bh aU rfl (by exact hk1.whole)) ?_)))));refine bK (vs:=[_,_,_,_,_,_,_,_,_,_,_,_,_]) aU rfl rfl (by simp [Value.oneCell']) (hk2) rfl ?_;intro w35 O14 P14;refine ai (ag (aC (lK rfl (cL (cs:=[_,_,_,_,_,_,_,_,_,_,_,_,_]) bh aU rfl (by exact P14.whole)) ?_)));refine ⟨⟨_,_,_,_,_,_,_,_,_,_,_,rfl,?_⟩,((((((((ah.rfl_.next E1).next E2).only O7_0 (hg1)).only O7_1 (hg1)).only O7_2 (hg1)).only O7_3 (hg1)).only O7_4 (hg1)).only O14 (hg2))⟩;unfold ExR
 first
  |(rw [if_pos (by omega)];(try simp only [Bool.toNat_false,bz,true_and,and_true]);first | done | omega)
  |(rw [if_neg (by omega),if_pos (by omega)];(try simp only [Bool.toNat_false,bz,true_and,and_true]);first | done | omega)
  |(rw [if_neg (by omega),if_neg (by omega),if_pos (by omega)];(try simp only [true_and,and_true]);first | done | omega)
  |(rw [if_neg (by omega),if_neg (by omega),if_neg (by omega),if_pos (by omega)];(try simp only [Bool.toNat_false,bz,true_and,and_true]);first | done | omega)
  |(rw [if_neg (by omega),if_neg (by omega),if_neg (by omega),if_neg (by omega),if_pos (by omega)];(try simp only [Bool.toNat_false,bz,true_and,and_true]);first | done | omega)
  |(rw [if_neg (by omega),if_neg (by omega),if_neg (by omega),if_neg (by omega),if_neg (by omega),if_pos (by omega)];(try simp only [Bool.toNat_false,bz,true_and,and_true]);first | done | omega)
  |(rw [if_neg (by omega),if_neg (by omega),if_neg (by omega),if_neg (by omega),if_neg (by omega),if_neg (by omega)];omega)
theorem oK (k f t tm ix lt cm rd:Int) (ok:Bool) (E:Option Addr) (n c:Nat) (a:Int) (d:ByteArray) (dn:Bool) (w:World) (hk:k=3) (es:List Ent) (hn:n=es.length) (he:bX w (.slice E n c) es) (hl:es.length≤400000000000) (hi:0≤ix∧ix≤1099511627775) (hlt:0≤lt∧lt≤1099511627775) :
 Rt prog 142 [.agg #[.int .i64 k,.int .i64 f,.int .i64 t,.int .i64 tm,.int .i64 ix,.int .i64 lt,.int .i64 cm,.int .i64 rd,.bool ok,.slice E n c,.int .i64 a,.string d,.bool dn]] w (fun v w'=>v=.bool (decide (oy k ix lt es))∧ah w w'):=by
 subst hn;refine enter (n:=29) Tryz.func142 rfl rfl rfl (ak (af (bZ (v:=.agg _) rfl ?_)));intro b1 w1 E1 hb1 hk1;refine asb rfl (ai (ag (ak (ak (af (aa (ab cM rfl) (aa (ar ao rfl (by exact (hk1.from_ ah.rfl_).rd 0 rfl)) ?_)))))));refine aa (dp rfl rfl) (ai (ag (aQ rfl (fun Q2=>?_) (fun Q2=>?_))))
 ·replace Q2:=dF Q2;replace Q2:=en Q2;refine ak (af (asb rfl (ai (ag (aC (aE (bw (v:=.bool _) rfl rfl (⟨congrArg Value.bool (decide_eq_true ?_).symm,(ah.rfl_.next E1)⟩))))))));intro h;omega
 replace Q2:=dG Q2;replace Q2:=ek Q2;refine aM (ag (ak (af (aa (cy (l:=[]) (eX)) (aa (ab cF rfl) (aa (ar ao rfl (by exact (hk1.from_ ah.rfl_).rd 4 rfl)) ?_))))));refine aa (ab cV rfl) (aa (ar ao rfl (by exact (hk1.from_ ah.rfl_).rd 5 rfl)) ?_);refine aa (ab bS rfl) (aa (ar bk rfl (by exact (hk1.from_ ah.rfl_).rd 9 rfl)) ?_);refine az lN (sj 0 0 ix lt none E 0 c [] es _ (bX.nil_ _) (he.from_ (ah.rfl_.next E1)) (by omega)) ?_;rintro v17 w3 ⟨⟨X,Y,A2,m2,c2,rfl,-,-⟩,E17⟩;refine mvt rfl (aa (aO rfl rfl) (aa (aO rfl rfl) (aa (aO rfl rfl) (bQ eD ?_))));intro b3 w4 E3 hb3 hk3;have hg3:w.heap.size≤b3:=by rw [hb3];exact (((ah.rfl_.next E1).next E17)).size
 have h13:b1<b3:=by have:=(hk1.from_ E17).lt;omega
 refine bK (vs:=[_,_,_]) aL rfl rfl (by simp [Value.oneCell']) (hk3) rfl ?_;intro w5 O3 P3;replace hk1:=((hk1.from_ (E17.next E3)).only O3 (by omega));refine asb rfl (asi rfl (ai (ag (ak (af (aa (ab bS rfl) (aa (ar bk rfl (by exact (hk1.from_ ah.rfl_).rd 9 rfl)) ?_)))))));refine aa (bF bC rfl) (aa (gH rfl rfl) (mvb rfl (AP (t:=25) rfl (fun Q6=>?_) (fun Q6=>?_))))
 ·refine ae rfl (mvi rfl (ae rfl (aa (bt rfl rfl) (aa (aG (v:=.bool _) rfl rfl) (asb rfl (ai (ag (aC (bw (v:=.bool _) rfl rfl (⟨congrArg Value.bool ?_,((((ah.rfl_.next E1).next E17).next E3).only O3 (hg3))⟩))))))))));have hk3:k=3:=by omega
  by_cases h16:es.length≤16
  ·have hm:=xH hi hlt h16;rw [Bool.eq_iff_iff,decide_eq_true_eq];unfold oy
   first
    |(rw [beq_iff_eq,hm];exact ⟨fun a _=>⟨h16,a⟩,fun a=>(a hk3).2⟩)
    |(exfalso;omega)
  ·rw [eq_comm,Bool.eq_iff_iff,decide_eq_true_eq];unfold oy
   first
    |(refine ⟨fun a=>absurd (a hk3).1 h16,fun a=>by cases a⟩)
    |(exfalso;omega)
 refine an rfl rfl (an rfl rfl (aa (av (v:=.bool _) rfl rfl) (asb rfl (ai (ag (aC (bw (v:=.bool _) rfl rfl (⟨congrArg Value.bool ?_,((((ah.rfl_.next E1).next E17).next E3).only O3 (hg3))⟩))))))));have hk3:k=3:=by omega
 by_cases h16:es.length≤16
 ·have hm:=xH hi hlt h16;rw [Bool.eq_iff_iff,decide_eq_true_eq];unfold oy
  first
   |(rw [beq_iff_eq,hm];exact ⟨fun a _=>⟨h16,a⟩,fun a=>(a hk3).2⟩)
   |(exfalso;omega)
 ·rw [eq_comm,Bool.eq_iff_iff,decide_eq_true_eq];unfold oy
  first
   |(refine ⟨fun a=>absurd (a hk3).1 h16,fun a=>by cases a⟩)
   |(exfalso;omega)
theorem qK (k f t tm ix lt cm rd:Int) (ok:Bool) (E:Option Addr) (n c:Nat) (a:Int) (d:ByteArray) (dn:Bool) (w:World) (hk:k=3) :
 Rt prog 143 [.agg #[.int .i64 k,.int .i64 f,.int .i64 t,.int .i64 tm,.int .i64 ix,.int .i64 lt,.int .i64 cm,.int .i64 rd,.bool ok,.slice E n c,.int .i64 a,.string d,.bool dn]] w (fun v w'=>v=.bool (decide (pI k ix a d))∧ah w w'):=by
 refine enter (n:=23) Tryz.func143 rfl rfl rfl (ak (af (bZ (v:=.agg _) rfl ?_)));intro b1 w1 E1 hb1 hk1;refine asb rfl (ai (ag (ak (af (aa (ab cM rfl) (aa (ar ao rfl (by exact (hk1.from_ ah.rfl_).rd 0 rfl)) ?_))))));refine aa (dp rfl rfl) (mvb rfl (aJ (t:=6) rfl (fun Q2=>?_) (fun Q2=>?_)));rotate_left
 ·replace Q2:=dG Q2;replace Q2:=ek Q2;exfalso;omega
 replace Q2:=dF Q2;replace Q2:=en Q2;refine an rfl rfl (an rfl rfl (an rfl rfl (an rfl rfl (an rfl rfl (dv rfl (dv rfl (dv rfl (an rfl rfl ?_))))))));refine an rfl rfl (dv rfl (dv rfl (dv rfl (dv rfl (an rfl rfl (aa (aG (v:=.bool _) rfl rfl) (asb rfl (ai (ag (aC ?_))))))))));refine bw (v:=.bool _) rfl rfl (⟨congrArg Value.bool ?_,(ah.rfl_.next E1)⟩)
 first
  |(rw [eq_comm,decide_eq_false_iff_not];unfold pI;omega)
  |(rw [decide_eq_decide];unfold pI;omega)
  |(rw [eq_comm,decide_eq_true_eq];unfold pI;omega)
theorem yb (k f t tm ix lt cm rd:Int) (ok:Bool) (E:Option Addr) (n c:Nat) (a:Int) (d:ByteArray) (dn:Bool) (w:World) (hk:k=3) (es:List Ent) (hn:n=es.length) (he:bX w (.slice E n c) es) (hl:es.length≤400000000000) :
 Rt prog 98 [.agg #[.int .i64 k,.int .i64 f,.int .i64 t,.int .i64 tm,.int .i64 ix,.int .i64 lt,.int .i64 cm,.int .i64 rd,.bool ok,.slice E n c,.int .i64 a,.string d,.bool dn]] w (fun v w'=>v=.int .i64 (if OkR k f t tm ix lt cm rd ok es a d dn then 0 else 1)∧ah w w'):=by
 refine enter (n:=47) Tryz.func98 rfl rfl rfl (ak (af (bZ (v:=.agg _) rfl ?_)));intro b1 w1 E1 hb1 hk1;refine asi rfl (ai (ag (ak (af (aa (ab cM rfl) (aa (ar ao rfl (by exact (hk1.from_ ah.rfl_).rd 0 rfl)) ?_))))));refine fq (v:=.int _ _) cj rfl rfl rfl ?_;intro b6 w2 E6 hb6 hk6;refine az kx (mi 1 6 b6 1 1 [k] _ rfl hk6 (by simp)) ?_;rintro v7 w3 ⟨rfl,rfl⟩;refine mvb rfl (AP (t:=8) rfl (fun Q4=>?_) (fun Q4=>?_))
 ·simp only [bp,bG,and_true] at Q4;have h8:=Q4;refine ae rfl (aa (ab cu rfl) (ae rfl (aa (ar ao rfl (by exact (hk1.from_ (ah.rfl_.next E6)).rd 1 rfl)) ?_)));refine ae rfl (aa (ab eC rfl) (ae rfl (aa (ar ao rfl (by exact (hk1.from_ (ah.rfl_.next E6)).rd 2 rfl)) ?_)));refine ae rfl (mo [.tmp 10,.tmp 12] [.int _ _,.int _ _] cj rfl rfl rfl rfl (by simp [Value.cells]) ?_);intro b13 w5 E13 hb13 hk13;refine ae rfl (az kx (mi 1 7 b13 2 2 [f,t] _ rfl hk13 (by simp)) ?_);rintro v14 w6 ⟨rfl,rfl⟩;refine aa (aG (v:=.bool _) rfl rfl) (mvb rfl (AP (t:=16) rfl (fun Q7=>?_) (fun Q7=>?_)))
  ·simp only [bp,bG,and_true] at Q7;have h16:=Q7;refine ae rfl (aa (ab bJ rfl) (ae rfl (aa (ar ao rfl (by exact (hk1.from_ ((ah.rfl_.next E6).next E13)).rd 3 rfl)) ?_)));refine ae rfl (aa (ab cF rfl) (ae rfl (aa (ar ao rfl (by exact (hk1.from_ ((ah.rfl_.next E6).next E13)).rd 4 rfl)) ?_)));refine ae rfl (aa (ab cV rfl) (ae rfl (aa (ar ao rfl (by exact (hk1.from_ ((ah.rfl_.next E6).next E13)).rd 5 rfl)) ?_)));refine ae rfl (aa (ab dU rfl) (ae rfl (aa (ar ao rfl (by exact (hk1.from_ ((ah.rfl_.next E6).next E13)).rd 6 rfl)) ?_)));refine ae rfl (aa (ab d_ rfl) (ae rfl (aa (ar ao rfl (by exact (hk1.from_ ((ah.rfl_.next E6).next E13)).rd 7 rfl)) ?_)));refine ae rfl (aa (ab gR rfl) (ae rfl (aa (ar ao rfl (by exact (hk1.from_ ((ah.rfl_.next E6).next E13)).rd 10 rfl)) ?_)));refine ae rfl (mo [.tmp 18,.tmp 20,.tmp 22,.tmp 24,.tmp 26,.tmp 28] [.int _ _,.int _ _,.int _ _,.int _ _,.int _ _,.int _ _] cj rfl rfl rfl rfl (by simp [Value.cells]) ?_);intro b29 w8 E29 hb29 hk29;refine ae rfl (az kx (mi 0 1099511627775 b29 6 6 [tm,ix,lt,cm,rd,a] _ rfl hk29 (by simp)) ?_);rintro v30 w9 ⟨rfl,rfl⟩;refine aa (aG (v:=.bool _) rfl rfl) (mvb rfl (AP (t:=32) rfl (fun Q10=>?_) (fun Q10=>?_)))
   ·simp only [bp,bG,and_true] at Q10;have h32:=Q10;refine ae rfl (aa (aD (cs:=[_,_,_,_,_,_,_,_,_,_,_,_,_]) bh aU rfl (by exact (hk1.from_ (((ah.rfl_.next E6).next E13).next E29)).whole)) ?_);refine ae rfl (az sV (tk k f t tm ix lt cm rd ok E n c a d dn _ hk) ?_);rintro v34 w11 ⟨⟨ix',lt',cm',rd',ok',E',n',c',a',d',dn',rfl,hex⟩,E34⟩;refine ae rfl (az sW (zq k f t tm ix' lt' cm' rd' ok' E' n' c' a' d' dn' _) ?_);rintro v35 w12 ⟨rfl,E35⟩;refine aa (aG (v:=.bool _) rfl rfl) (mvb rfl (AP (t:=37) rfl (fun Q13=>?_) (fun Q13=>?_)))
    ·have hx:=hex.1 Q13;have h37:=Q13;refine ae rfl (aa (aD (cs:=[_,_,_,_,_,_,_,_,_,_,_,_,_]) bh aU rfl (by exact (hk1.from_ (((((ah.rfl_.next E6).next E13).next E29).next E34).next E35)).whole)) ?_);refine ae rfl (az sU (oK k f t tm ix lt cm rd ok E n c a d dn _ hk es hn (he.from_ ((((((ah.rfl_.next E1).next E6).next E13).next E29).next E34).next E35)) hl (by omega) (by omega)) ?_);rintro v39 w14 ⟨rfl,E39⟩;refine aa (aG (v:=.bool _) rfl rfl) (mvb rfl (AP (t:=41) rfl (fun Q15=>?_) (fun Q15=>?_)))
     ·have h41:=Q15;refine ae rfl (aa (aD (cs:=[_,_,_,_,_,_,_,_,_,_,_,_,_]) bh aU rfl (by exact (hk1.from_ ((((((ah.rfl_.next E6).next E13).next E29).next E34).next E35).next E39)).whole)) ?_);refine ae rfl (az sT (qK k f t tm ix lt cm rd ok E n c a d dn _ hk) ?_);rintro v43 w16 ⟨rfl,E43⟩;refine aa (aG (v:=.bool _) rfl rfl) (asb rfl (ai (ag (ak (ak (af (mvb rfl (aa (cn rfl) (ai (ag (aQ rfl (fun Q17=>?_) (fun Q17=>?_))))))))))))
      ·replace Q17:=dF Q17;replace Q17:=dF_ Q17;have hno:¬ (OkR k f t tm ix lt cm rd ok es a d dn):=fun h=>Q17 h.2.2.2
       refine ak (af (asi rfl (ai (ag (aC (aE (bw (v:=.int _ _) rfl rfl (⟨bM (by rw [if_neg hno]),((((((((ah.rfl_.next E1).next E6).next E13).next E29).next E34).next E35).next E39).next E43)⟩))))))))
      replace Q17:=dG Q17;replace Q17:=dT_ Q17;have hyes:OkR k f t tm ix lt cm rd ok es a d dn:=⟨by unfold jF;omega,hn ▸ hx,h41,Q17⟩;refine aM (ag (ak (af (asi rfl (ai (ag (aC (bw (v:=.int _ _) rfl rfl (⟨bM (by rw [if_pos hyes]),((((((((ah.rfl_.next E1).next E6).next E13).next E29).next E34).next E35).next E39).next E43)⟩)))))))))
     have hno:¬ (OkR k f t tm ix lt cm rd ok es a d dn):=fun h=>Q15 h.2.2.1
     refine an rfl rfl (an rfl rfl (aa (av (v:=.bool _) rfl rfl) (asb rfl (ai (ag (ak (ak (af (mvb rfl (aa (cn rfl) (ai (ag (aR rfl ?_)))))))))))));refine ak (af (asi rfl (ai (ag (aC (aE (bw (v:=.int _ _) rfl rfl (⟨bM (by rw [if_neg hno]),(((((((ah.rfl_.next E1).next E6).next E13).next E29).next E34).next E35).next E39)⟩))))))))
    have hno:¬ (OkR k f t tm ix lt cm rd ok es a d dn):=fun h=>Q13 (hex.2 (hn ▸ h.2.1))
    refine an rfl rfl (an rfl rfl (aa (av (v:=.bool _) rfl rfl) (mvb rfl (an rfl rfl (an rfl rfl (aa (av (v:=.bool _) rfl rfl) (asb rfl (ai (ag (ak (ak (af ?_))))))))))));refine mvb rfl (aa (cn rfl) (ai (ag (aR rfl (ak (af (asi rfl (ai (ag (aC (aE (bw (v:=.int _ _) rfl rfl (⟨bM (by rw [if_neg hno]),((((((ah.rfl_.next E1).next E6).next E13).next E29).next E34).next E35)⟩)))))))))))))
   simp only [bp,bG,and_true] at Q10;have hno:¬ (OkR k f t tm ix lt cm rd ok es a d dn):=fun h=>Q10 (by have:=h.1;unfold jF at this;omega)
   refine an rfl rfl (an rfl rfl (an rfl rfl (aa (av (v:=.bool _) rfl rfl) (mvb rfl (an rfl rfl (an rfl rfl (aa (av (v:=.bool _) rfl rfl) (mvb rfl ?_))))))));refine an rfl rfl (an rfl rfl (aa (av (v:=.bool _) rfl rfl) (asb rfl (ai (ag (ak (ak (af (mvb rfl (aa (cn rfl) (ai (ag (aR rfl ?_)))))))))))));refine ak (af (asi rfl (ai (ag (aC (aE (bw (v:=.int _ _) rfl rfl (⟨bM (by rw [if_neg hno]),((((ah.rfl_.next E1).next E6).next E13).next E29)⟩))))))))
  simp only [bp,bG,and_true] at Q7;have hno:¬ (OkR k f t tm ix lt cm rd ok es a d dn):=fun h=>Q7 (by have:=h.1;unfold jF at this;omega)
  refine an rfl rfl (an rfl rfl (an rfl rfl (an rfl rfl (an rfl rfl (an rfl rfl (an rfl rfl (an rfl rfl (an rfl rfl ?_))))))));refine an rfl rfl (an rfl rfl (an rfl rfl (an rfl rfl (an rfl rfl (aa (av (v:=.bool _) rfl rfl) (mvb rfl (an rfl rfl (an rfl rfl ?_))))))));refine an rfl rfl (aa (av (v:=.bool _) rfl rfl) (mvb rfl (an rfl rfl (an rfl rfl (aa (av (v:=.bool _) rfl rfl) (mvb rfl (an rfl rfl (an rfl rfl ?_))))))));refine aa (av (v:=.bool _) rfl rfl) (asb rfl (ai (ag (ak (ak (af (mvb rfl (aa (cn rfl) (ai (ag (aR rfl (ak (af (asi rfl ?_))))))))))))));refine ai (ag (aC (aE (bw (v:=.int _ _) rfl rfl (⟨bM (by rw [if_neg hno]),(((ah.rfl_.next E1).next E6).next E13)⟩)))))
 simp only [bp,bG,and_true] at Q4;have hno:¬ (OkR k f t tm ix lt cm rd ok es a d dn):=fun h=>Q4 (by have:=h.1;unfold jF at this;omega)
 refine an rfl rfl (an rfl rfl (an rfl rfl (an rfl rfl (an rfl rfl (an rfl rfl (aa (av (v:=.bool _) rfl rfl) (mvb rfl (an rfl rfl ?_))))))));refine an rfl rfl (an rfl rfl (an rfl rfl (an rfl rfl (an rfl rfl (an rfl rfl (an rfl rfl (an rfl rfl (an rfl rfl ?_))))))));refine an rfl rfl (an rfl rfl (an rfl rfl (an rfl rfl (aa (av (v:=.bool _) rfl rfl) (mvb rfl (an rfl rfl (an rfl rfl (an rfl rfl ?_))))))));refine aa (av (v:=.bool _) rfl rfl) (mvb rfl (an rfl rfl (an rfl rfl (aa (av (v:=.bool _) rfl rfl) (mvb rfl (an rfl rfl (an rfl rfl (aa (av (v:=.bool _) rfl rfl) ?_))))))));refine asb rfl (ai (ag (ak (ak (af (mvb rfl (aa (cn rfl) (ai (ag (aR rfl (ak (af (asi rfl (ai (ag (aC (aE ?_)))))))))))))))));refine bw (v:=.int _ _) rfl rfl (⟨bM (by rw [if_neg hno]),((ah.rfl_.next E1).next E6)⟩)
theorem Aq (k f t tm ix lt cm rd:Int) (ok:Bool) (E:Option Addr) (n c:Nat) (a:Int) (d:ByteArray) (dn:Bool) (w:World) (hk:k=3) (es:List Ent) (hn:n=es.length) (he:bX w (.slice E n c) es) (hl:es.length≤400000000000) :
 Rt prog 88 [.agg #[.int .i64 k,.int .i64 f,.int .i64 t,.int .i64 tm,.int .i64 ix,.int .i64 lt,.int .i64 cm,.int .i64 rd,.bool ok,.slice E n c,.int .i64 a,.string d,.bool dn]] w (fun v w'=>v=.bool (decide (OkR k f t tm ix lt cm rd ok es a d dn))∧ah w w'):=by
 refine enter (n:=169) Tryz.func88 rfl rfl rfl (ak (af (bZ (v:=.agg _) rfl ?_)));intro b1 w1 E1 hb1 hk1;have hg1:w.heap.size≤b1:=by rw [hb1];exact Nat.le_refl _
 refine asb rfl (ai (ag (ak (af (aa (ab cM rfl) (aa (ar ao rfl (by exact hk1.rd 0 rfl)) ?_))))));refine aa (ab cu rfl) (aa (ar ao rfl (by exact hk1.rd 1 rfl)) ?_);refine aa (ab eC rfl) (aa (ar ao rfl (by exact hk1.rd 2 rfl)) ?_);refine aa (ab bJ rfl) (aa (ar ao rfl (by exact hk1.rd 3 rfl)) ?_);refine aa (cy (l:=[(0,.tmp 5),(1,.tmp 7),(2,.tmp 9),(3,.tmp 11)]) (me _ _ _ _)) (bQ dI ?_);intro b3 w2 E3 hb3 hk3;have hg3:w.heap.size≤b3:=by rw [hb3];exact ((ah.rfl_.next E1)).size
 have hlt:b1<b3:=by have:=hk1.lt;omega
 replace hk1:=hk1.from_ E3;refine bK (vs:=[_,_,_,_,_,_,_,_,_,_,_,_,_]) aU rfl rfl (by simp [Value.oneCell']) (hk3) rfl ?_;intro w3 O1 P1;replace hk1:=hk1.only O1 (by omega);have hX:=P1;refine ai (ag (ak (ak (af (aa (ab cu rfl) (aa (ar ao rfl (by exact (hk1.from_ ah.rfl_).rd 1 rfl)) ?_))))));refine az nF (xw _ _) ?_;rintro v15 w4 ⟨rfl,rfl⟩;refine aa (cn rfl) (mvb rfl (aJ (t:=17) rfl (fun Q5=>?_) (fun Q5=>?_)))
 ·replace Q5:=dF Q5;replace Q5:=dF_ Q5;refine bE rfl (ai (ag (aR rfl (ak (af (asb rfl (ai (ag (aC (aE (bw (v:=.bool _) rfl rfl (⟨congrArg Value.bool (decide_eq_false (fun h=>by have h1:=h.1;unfold jF at h1;omega)).symm,(((ah.rfl_.next E1).next E3).only O1 (hg3))⟩))))))))))))
 replace Q5:=dG Q5;replace Q5:=dT_ Q5;refine ae rfl (aa (ab eC rfl) (ae rfl (aa (ar ao rfl (by exact (hk1.from_ ah.rfl_).rd 2 rfl)) ?_)));refine ae rfl (az nF (xw _ _) ?_);rintro v20 w6 ⟨rfl,rfl⟩;refine ae rfl (aa (cn rfl) (aa (av (v:=.bool _) rfl rfl) (mvb rfl (aJ (t:=23) rfl (fun Q7=>?_) (fun Q7=>?_)))))
 ·replace Q7:=dF Q7;replace Q7:=dF_ Q7;refine bE rfl (ai (ag (aR rfl (ak (af (asb rfl (ai (ag (aC (aE (bw (v:=.bool _) rfl rfl (⟨congrArg Value.bool (decide_eq_false (fun h=>by have h1:=h.1;unfold jF at h1;omega)).symm,(((ah.rfl_.next E1).next E3).only O1 (hg3))⟩))))))))))))
 replace Q7:=dG Q7;replace Q7:=dT_ Q7;refine ae rfl (aa (ab bJ rfl) (ae rfl (aa (ar ao rfl (by exact (hk1.from_ ah.rfl_).rd 3 rfl)) ?_)));refine ae rfl (az eZ (qu _ _) ?_);rintro v26 w8 ⟨rfl,rfl⟩;refine ae rfl (aa (cn rfl) (aa (av (v:=.bool _) rfl rfl) (mvb rfl (aJ (t:=29) rfl (fun Q9=>?_) (fun Q9=>?_)))))
 ·replace Q9:=dF Q9;replace Q9:=dF_ Q9;refine bE rfl (ai (ag (aR rfl (ak (af (asb rfl (ai (ag (aC (aE (bw (v:=.bool _) rfl rfl (⟨congrArg Value.bool (decide_eq_false (fun h=>by have h1:=h.1;unfold jF at h1;omega)).symm,(((ah.rfl_.next E1).next E3).only O1 (hg3))⟩))))))))))))
 replace Q9:=dG Q9;replace Q9:=dT_ Q9;refine ae rfl (aa (ab cF rfl) (ae rfl (aa (ar ao rfl (by exact (hk1.from_ ah.rfl_).rd 4 rfl)) ?_)));refine ae rfl (az eZ (qu _ _) ?_);rintro v32 w10 ⟨rfl,rfl⟩;refine ae rfl (aa (cn rfl) (aa (av (v:=.bool _) rfl rfl) (mvb rfl (aJ (t:=35) rfl (fun Q11=>?_) (fun Q11=>?_)))))
 ·replace Q11:=dF Q11;replace Q11:=dF_ Q11;refine bE rfl (ai (ag (aR rfl (ak (af (asb rfl (ai (ag (aC (aE (bw (v:=.bool _) rfl rfl (⟨congrArg Value.bool (decide_eq_false (fun h=>by have h1:=h.1;unfold jF at h1;omega)).symm,(((ah.rfl_.next E1).next E3).only O1 (hg3))⟩))))))))))))
 replace Q11:=dG Q11;replace Q11:=dT_ Q11;refine ae rfl (aa (ab cV rfl) (ae rfl (aa (ar ao rfl (by exact (hk1.from_ ah.rfl_).rd 5 rfl)) ?_)));refine ae rfl (az eZ (qu _ _) ?_);rintro v38 w12 ⟨rfl,rfl⟩;refine ae rfl (aa (cn rfl) (aa (av (v:=.bool _) rfl rfl) (mvb rfl (aJ (t:=41) rfl (fun Q13=>?_) (fun Q13=>?_)))))
 ·replace Q13:=dF Q13;replace Q13:=dF_ Q13;refine bE rfl (ai (ag (aR rfl (ak (af (asb rfl (ai (ag (aC (aE (bw (v:=.bool _) rfl rfl (⟨congrArg Value.bool (decide_eq_false (fun h=>by have h1:=h.1;unfold jF at h1;omega)).symm,(((ah.rfl_.next E1).next E3).only O1 (hg3))⟩))))))))))))
 replace Q13:=dG Q13;replace Q13:=dT_ Q13;refine ae rfl (aa (ab dU rfl) (ae rfl (aa (ar ao rfl (by exact (hk1.from_ ah.rfl_).rd 6 rfl)) ?_)));refine ae rfl (az eZ (qu _ _) ?_);rintro v44 w14 ⟨rfl,rfl⟩;refine ae rfl (aa (cn rfl) (aa (av (v:=.bool _) rfl rfl) (mvb rfl (aJ (t:=47) rfl (fun Q15=>?_) (fun Q15=>?_)))))
 ·replace Q15:=dF Q15;replace Q15:=dF_ Q15;refine bE rfl (ai (ag (aR rfl (ak (af (asb rfl (ai (ag (aC (aE (bw (v:=.bool _) rfl rfl (⟨congrArg Value.bool (decide_eq_false (fun h=>by have h1:=h.1;unfold jF at h1;omega)).symm,(((ah.rfl_.next E1).next E3).only O1 (hg3))⟩))))))))))))
 replace Q15:=dG Q15;replace Q15:=dT_ Q15;refine ae rfl (aa (ab d_ rfl) (ae rfl (aa (ar ao rfl (by exact (hk1.from_ ah.rfl_).rd 7 rfl)) ?_)));refine ae rfl (az eZ (qu _ _) ?_);rintro v50 w16 ⟨rfl,rfl⟩;refine ae rfl (aa (cn rfl) (aa (av (v:=.bool _) rfl rfl) (mvb rfl (aJ (t:=53) rfl (fun Q17=>?_) (fun Q17=>?_)))))
 ·replace Q17:=dF Q17;replace Q17:=dF_ Q17;refine bE rfl (ai (ag (aR rfl (ak (af (asb rfl (ai (ag (aC (aE (bw (v:=.bool _) rfl rfl (⟨congrArg Value.bool (decide_eq_false (fun h=>by have h1:=h.1;unfold jF at h1;omega)).symm,(((ah.rfl_.next E1).next E3).only O1 (hg3))⟩))))))))))))
 replace Q17:=dG Q17;replace Q17:=dT_ Q17;refine ae rfl (aa (ab gR rfl) (ae rfl (aa (ar ao rfl (by exact (hk1.from_ ah.rfl_).rd 10 rfl)) ?_)));refine ae rfl (az eZ (qu _ _) ?_);rintro v56 w18 ⟨rfl,rfl⟩;refine ae rfl (aa (cn rfl) (aa (av (v:=.bool _) rfl rfl) (ai (ag (aQ rfl (fun Q19=>?_) (fun Q19=>?_))))))
 ·replace Q19:=dF Q19;replace Q19:=dF_ Q19;refine ak (af (asb rfl (ai (ag (aC (aE (bw (v:=.bool _) rfl rfl (⟨congrArg Value.bool (decide_eq_false (fun h=>by have h1:=h.1;unfold jF at h1;omega)).symm,(((ah.rfl_.next E1).next E3).only O1 (hg3))⟩))))))))
 replace Q19:=dG Q19;replace Q19:=dT_ Q19;refine aM (ag (fY (G:=(Int×Int×Int×Int)×Bool×(Option Addr×Nat×Nat×List Ent)×Int×ByteArray×Bool) [2,59,60,61,62,63,64,65,66,67,68,69,70,71,72,73,74,75,76,77,78,79,80,81,82,83,84,85,86,87,88,89,90,91,92,93,94,95,96,97,98,99,100,101,102,103,104,105,106,107,108,109,110,111,112,113,114,115,116,117,118,119,120,121,122,123,124,125,126,127,128,129,130,131,132,133,134,135,136,137,138,139,140,141,142,143,144,145,146,147,148,149,150,151,152,153,154,155,156,157,158,159,160,161,162,163,164,165] (fun _=>[]) (fun ((ix',lt',cm',rd'),ok',(E',n',c',es'),a',d',dn') w'=>Blk w' b3 39 #[.int .i64 k,.int .i64 f,.int .i64 t,.int .i64 tm,.int .i64 ix',.int .i64 lt',.int .i64 cm',.int .i64 rd',.bool ok',.slice E' n' c',.int .i64 a',.string d',.bool dn']∧Blk w' b1 39 #[.int .i64 k,.int .i64 f,.int .i64 t,.int .i64 tm,.int .i64 ix,.int .i64 lt,.int .i64 cm,.int .i64 rd,.bool ok,.slice E n c,.int .i64 a,.string d,.bool dn]∧bX w' (.slice E' n' c') es'∧n'=es'.length∧es'.length≤es.length∧((ix'=ix∧lt'=lt∧cm'=cm∧rd'=rd∧ok'=ok∧es'=es∧a'=a∧d'=d∧dn'=dn)↔OkR k f t tm ix lt cm rd ok es a d dn)∧ah w w') ?_ ?_))
 ·refine ak (af (aa (ab cM rfl) (aa (ar ao rfl (by exact (hk1.from_ ah.rfl_).rd 0 rfl)) ?_)));refine ai (ag (a_ (ak (af (aa (bt rfl rfl) (asb rfl (ai (ag (Bm rfl (fun Q20=>?_) (fun Q20=>?_))))))))))
  ·have hap:oy k ix lt es:=fun h=>by omega
   have hsn:pI k ix a d:=fun h=>by omega
   have hnm:jF k f t tm ix lt cm rd a:=by unfold jF;omega
   exfalso;omega
  refine ak (af (aa (bt rfl rfl) (asb rfl (ai (ag (Bm rfl (fun Q23=>?_) (fun Q23=>?_)))))))
  ·have hap:oy k ix lt es:=fun h=>by omega
   have hsn:pI k ix a d:=fun h=>by omega
   have hnm:jF k f t tm ix lt cm rd a:=by unfold jF;omega
   exfalso;omega
  refine ak (af (aa (bt rfl rfl) (asb rfl (ai (ag (Bm rfl (fun Q25=>?_) (fun Q25=>?_)))))));rotate_left
  ·exfalso;omega
  have hsn:pI k ix a d:=fun h=>by omega
  have hnm:jF k f t tm ix lt cm rd a:=by unfold jF;omega
  refine ak ?_;have hU39:k9 [(0,76,.pointer (some ⟨b1,4,none⟩)),(1,77,.int .i64 ix),(2,78,.pointer (some ⟨b1,5,none⟩)),(3,79,.int .i64 lt),(4,80,.pointer (some ⟨b1,6,none⟩)),(5,81,.int .i64 cm),(6,82,.pointer (some ⟨b1,7,none⟩)),(7,83,.int .i64 rd),(8,84,.pointer (some ⟨b1,9,none⟩)),(9,85,.slice E n c),(10,86,.pointer (some ⟨b3,4,none⟩)),(12,87,.pointer (some ⟨b3,5,none⟩)),(14,88,.pointer (some ⟨b3,6,none⟩)),(16,89,.pointer (some ⟨b3,7,none⟩)),(18,90,.pointer (some ⟨b3,9,none⟩))]:=by simp [k9]
  refine mL [(0,76,.pointer (some ⟨b1,4,none⟩)),(1,77,.int .i64 ix),(2,78,.pointer (some ⟨b1,5,none⟩)),(3,79,.int .i64 lt),(4,80,.pointer (some ⟨b1,6,none⟩)),(5,81,.int .i64 cm),(6,82,.pointer (some ⟨b1,7,none⟩)),(7,83,.int .i64 rd),(8,84,.pointer (some ⟨b1,9,none⟩)),(9,85,.slice E n c),(10,86,.pointer (some ⟨b3,4,none⟩)),(12,87,.pointer (some ⟨b3,5,none⟩)),(14,88,.pointer (some ⟨b3,6,none⟩)),(16,89,.pointer (some ⟨b3,7,none⟩)),(18,90,.pointer (some ⟨b3,9,none⟩))] (fun S w'=>Blk w' b1 39 #[.int .i64 k,.int .i64 f,.int .i64 t,.int .i64 tm,.int .i64 ix,.int .i64 lt,.int .i64 cm,.int .i64 rd,.bool ok,.slice E n c,.int .i64 a,.string d,.bool dn]∧Blk w' b3 39 #[.int .i64 k,.int .i64 f,.int .i64 t,.int .i64 tm,bif S 11 then .int .i64 ix else .int .i64 0,bif S 13 then .int .i64 lt else .int .i64 0,bif S 15 then .int .i64 cm else .int .i64 0,bif S 17 then .int .i64 rd else .int .i64 0,.bool false,bif S 19 then .slice E n c else .slice none 0 0,.int .i64 0,.string ⟨#[]⟩,.bool false]∧ah w w') (by kernel_rfl) (by kernel_rfl) hU39 (by simp) (⟨hk1.from_ ah.rfl_.d1,hX.from_ ah.rfl_.d1,((((ah.rfl_.next E1).next E3).only O1 (hg3))).d1⟩) ?_ ?_
  ·constructor
   ·rintro S L' wS hI hM hS0 ⟨-⟩;have e1:=hI.1 1 (by simp);have hM':=hM;obtain ⟨hk1,hX,hB⟩:=hM';exact b0 (ab cF e1) ⟨hI.put hU39 (.head _),hM⟩
   constructor
   ·rintro S L' wS hI hM hS0 ⟨d0,-⟩;have e76:bI L' 76=.pointer (some ⟨b1,4,none⟩):=hI.get (i:=0) (.head _) d0;have hM':=hM;obtain ⟨hk1,hX,hB⟩:=hM';exact b0 (ar ao e76 (by exact hk1.rd 4 rfl)) ⟨hI.put hU39 (.tail _ (.head _)),hM⟩
   constructor
   ·rintro S L' wS hI hM hS0 ⟨-,-⟩;have e1:=hI.1 1 (by simp);have hM':=hM;obtain ⟨hk1,hX,hB⟩:=hM';exact b0 (ab cV e1) ⟨hI.put hU39 (gM 2 rfl),hM⟩
   constructor
   ·rintro S L' wS hI hM hS0 ⟨d2,-,-⟩;have e78:bI L' 78=.pointer (some ⟨b1,5,none⟩):=hI.get (i:=2) (gM 2 rfl) d2;have hM':=hM;obtain ⟨hk1,hX,hB⟩:=hM';exact b0 (ar ao e78 (by exact hk1.rd 5 rfl)) ⟨hI.put hU39 (gM 3 rfl),hM⟩
   constructor
   ·rintro S L' wS hI hM hS0 ⟨-,-⟩;have e1:=hI.1 1 (by simp);have hM':=hM;obtain ⟨hk1,hX,hB⟩:=hM';exact b0 (ab dU e1) ⟨hI.put hU39 (gM 4 rfl),hM⟩
   constructor
   ·rintro S L' wS hI hM hS0 ⟨d4,-,-⟩;have e80:bI L' 80=.pointer (some ⟨b1,6,none⟩):=hI.get (i:=4) (gM 4 rfl) d4;have hM':=hM;obtain ⟨hk1,hX,hB⟩:=hM';exact b0 (ar ao e80 (by exact hk1.rd 6 rfl)) ⟨hI.put hU39 (gM 5 rfl),hM⟩
   constructor
   ·rintro S L' wS hI hM hS0 ⟨-,-⟩;have e1:=hI.1 1 (by simp);have hM':=hM;obtain ⟨hk1,hX,hB⟩:=hM';exact b0 (ab d_ e1) ⟨hI.put hU39 (gM 6 rfl),hM⟩
   constructor
   ·rintro S L' wS hI hM hS0 ⟨d6,-,-⟩;have e82:bI L' 82=.pointer (some ⟨b1,7,none⟩):=hI.get (i:=6) (gM 6 rfl) d6;have hM':=hM;obtain ⟨hk1,hX,hB⟩:=hM';exact b0 (ar ao e82 (by exact hk1.rd 7 rfl)) ⟨hI.put hU39 (gM 7 rfl),hM⟩
   constructor
   ·rintro S L' wS hI hM hS0 ⟨-,-⟩;have e1:=hI.1 1 (by simp);have hM':=hM;obtain ⟨hk1,hX,hB⟩:=hM';exact b0 (ab bS e1) ⟨hI.put hU39 (gM 8 rfl),hM⟩
   constructor
   ·rintro S L' wS hI hM hS0 ⟨d8,-,-⟩;have e84:bI L' 84=.pointer (some ⟨b1,9,none⟩):=hI.get (i:=8) (gM 8 rfl) d8;have hM':=hM;obtain ⟨hk1,hX,hB⟩:=hM';exact b0 (ar bk e84 (by exact hk1.rd 9 rfl)) ⟨hI.put hU39 (gM 9 rfl),hM⟩
   constructor
   ·rintro S L' wS hI hM hS0 ⟨d0,d1,-,-,-,-,-,-,-,-,-⟩;have e3:=hI.1 3 (by simp);have hM':=hM;obtain ⟨hk1,hX,hB⟩:=hM';exact b0 (ab cF e3) ⟨hI.put hU39 (gM 10 rfl),hM⟩
   constructor
   ·rintro S L' wS hI hM hS0 ⟨d10,d1,d0,d1,-,-,-,-,-,-,-,-,-⟩;have e77:bI L' 77=.int .i64 ix:=hI.get (i:=1) (.tail _ (.head _)) d1;have e86:bI L' 86=.pointer (some ⟨b3,4,none⟩):=hI.get (i:=10) (gM 10 rfl) d10;have hM':=hM;obtain ⟨hk1,hX,hB⟩:=hM';obtain ⟨w2,hR,hO,hb⟩:=ji (n:=169) (L:=L') (x:=.tmp 86) (y:=.tmp 77) bd e86 e77 rfl hX (by simp);exact gO hR ⟨hI.skip (by simp),hk1.only hO (by omega),hb,hB.only hO hg3⟩
   constructor
   ·rintro S L' wS hI hM hS0 ⟨d0,d1,d2,d3,-,-,-,-,-,-,d10,d11,-⟩;have e3:=hI.1 3 (by simp);have hM':=hM;obtain ⟨hk1,hX,hB⟩:=hM';exact b0 (ab cV e3) ⟨hI.put hU39 (gM 11 rfl),hM⟩
   constructor
   ·rintro S L' wS hI hM hS0 ⟨d12,d3,d11,d0,d1,d2,d3,-,-,-,-,-,-,d10,d11,-⟩;have e79:bI L' 79=.int .i64 lt:=hI.get (i:=3) (gM 3 rfl) d3;have e87:bI L' 87=.pointer (some ⟨b3,5,none⟩):=hI.get (i:=12) (gM 11 rfl) d12;have hM':=hM;obtain ⟨hk1,hX,hB⟩:=hM';obtain ⟨w2,hR,hO,hb⟩:=ji (n:=169) (L:=L') (x:=.tmp 87) (y:=.tmp 79) bd e87 e79 rfl hX (by simp);exact gO hR ⟨hI.skip (by simp),hk1.only hO (by omega),hb,hB.only hO hg3⟩
   constructor
   ·rintro S L' wS hI hM hS0 ⟨d0,d1,d2,d3,d4,d5,-,-,-,-,d10,d11,d12,d13,-⟩;have e3:=hI.1 3 (by simp);have hM':=hM;obtain ⟨hk1,hX,hB⟩:=hM';exact b0 (ab dU e3) ⟨hI.put hU39 (gM 12 rfl),hM⟩
   constructor
   ·rintro S L' wS hI hM hS0 ⟨d14,d5,d13,d0,d1,d2,d3,d4,d5,-,-,-,-,d10,d11,d12,d13,-⟩;have e81:bI L' 81=.int .i64 cm:=hI.get (i:=5) (gM 5 rfl) d5;have e88:bI L' 88=.pointer (some ⟨b3,6,none⟩):=hI.get (i:=14) (gM 12 rfl) d14;have hM':=hM;obtain ⟨hk1,hX,hB⟩:=hM';obtain ⟨w2,hR,hO,hb⟩:=ji (n:=169) (L:=L') (x:=.tmp 88) (y:=.tmp 81) bd e88 e81 rfl hX (by simp);exact gO hR ⟨hI.skip (by simp),hk1.only hO (by omega),hb,hB.only hO hg3⟩
   constructor
   ·rintro S L' wS hI hM hS0 ⟨d0,d1,d2,d3,d4,d5,d6,d7,-,-,d10,d11,d12,d13,d14,d15,-⟩;have e3:=hI.1 3 (by simp);have hM':=hM;obtain ⟨hk1,hX,hB⟩:=hM';exact b0 (ab d_ e3) ⟨hI.put hU39 (gM 13 rfl),hM⟩
   constructor
   ·rintro S L' wS hI hM hS0 ⟨d16,d7,d15,d0,d1,d2,d3,d4,d5,d6,d7,-,-,d10,d11,d12,d13,d14,d15,-⟩;have e83:bI L' 83=.int .i64 rd:=hI.get (i:=7) (gM 7 rfl) d7;have e89:bI L' 89=.pointer (some ⟨b3,7,none⟩):=hI.get (i:=16) (gM 13 rfl) d16;have hM':=hM;obtain ⟨hk1,hX,hB⟩:=hM';obtain ⟨w2,hR,hO,hb⟩:=ji (n:=169) (L:=L') (x:=.tmp 89) (y:=.tmp 83) bd e89 e83 rfl hX (by simp);exact gO hR ⟨hI.skip (by simp),hk1.only hO (by omega),hb,hB.only hO hg3⟩
   constructor
   ·rintro S L' wS hI hM hS0 ⟨d0,d1,d2,d3,d4,d5,d6,d7,d8,d9,d10,d11,d12,d13,d14,d15,d16,d17,-⟩;have e3:=hI.1 3 (by simp);have hM':=hM;obtain ⟨hk1,hX,hB⟩:=hM';exact b0 (ab bS e3) ⟨hI.put hU39 (gM 14 rfl),hM⟩
   constructor
   ·rintro S L' wS hI hM hS0 ⟨d18,d9,d17,d0,d1,d2,d3,d4,d5,d6,d7,d8,d9,d10,d11,d12,d13,d14,d15,d16,d17,-⟩;have e85:bI L' 85=.slice E n c:=hI.get (i:=9) (gM 9 rfl) d9;have e90:bI L' 90=.pointer (some ⟨b3,9,none⟩):=hI.get (i:=18) (gM 14 rfl) d18;have hM':=hM;obtain ⟨hk1,hX,hB⟩:=hM';obtain ⟨w2,hR,hO,hb⟩:=ji (n:=169) (L:=L') (x:=.tmp 90) (y:=.tmp 85) gW e90 e85 rfl hX (by simp);exact gO hR ⟨hI.skip (by simp),hk1.only hO (by omega),hb,hB.only hO hg3⟩
   exact trivial
  ·intro w40 hM;obtain ⟨hk1,hX,hB⟩:=hM;replace hX:Blk w40 b3 39 #[.int .i64 k,.int .i64 f,.int .i64 t,.int .i64 tm,.int .i64 ix,.int .i64 lt,.int .i64 cm,.int .i64 rd,.bool false,.slice E n c,.int .i64 0,.string ⟨#[]⟩,.bool false]:=hX;refine ag (ak (af (aa (ab bS rfl) (aa (ar bk rfl (by exact (hk1.from_ ah.rfl_).rd 9 rfl)) ?_))));refine aa (bF bC rfl) (aa (ch rfl rfl) (mvb rfl (AP (t:=95) rfl (fun Q41=>?_) (fun Q41=>?_))))
   ·refine bE rfl (ai (ag (aR rfl (ak (af (asb rfl (ai (ag (aC (bD (aE (bw (v:=.bool _) rfl rfl ?_))))))))))))
    exact ⟨congrArg Value.bool (decide_eq_false (fun h=>by
     have h2:=h.2.2.1 (by omega)
     first
      |omega
      |(have h3:dm es ix lt=false:=by assumption
        rw [h3] at h2;simp at h2))).symm,hB⟩
   refine ae rfl (aa (ab bS rfl) (ae rfl (aa (ar bk rfl (by exact (hk1.from_ ah.rfl_).rd 9 rfl)) ?_)));refine ae rfl (aa (ab cF rfl) (ae rfl (aa (ar ao rfl (by exact (hk1.from_ ah.rfl_).rd 4 rfl)) ?_)));refine ae rfl (aa (ab cV rfl) (ae rfl (aa (ar ao rfl (by exact (hk1.from_ ah.rfl_).rd 5 rfl)) ?_)));refine ae rfl (az sX (Aa ix lt E n c es _ (he.from_ hB) (by omega) (by omega) (by omega)) ?_);rintro v102 w42 ⟨rfl,E102⟩;refine ae rfl (aa (cn rfl) (aa (av (v:=.bool _) rfl rfl) (ai (ag (Bl rfl (fun Q43=>?_) (fun Q43=>?_))))))
   ·refine ak (af (asb rfl (ai (ag (aC (bD (aE (bw (v:=.bool _) rfl rfl ?_))))))))
    exact ⟨congrArg Value.bool (decide_eq_false (fun h=>by
     have h2:=h.2.2.1 (by omega)
     first
      |omega
      |(have h3:dm es ix lt=false:=by assumption
        rw [h3] at h2;simp at h2))).symm,(hB.next E102)⟩
   have hap:oy k ix lt es:=fun _=>⟨by omega,by simpa using Q43⟩
   refine aM (bN ?_);refine bT (((ix,lt,cm,rd),false,(E,n,c,es),0,⟨#[]⟩,false)) trivial (by (iterate 38 refine bf rfl ?_);exact bB) ?_;refine ⟨hX.from_ (ah.rfl_.next E102),hk1.from_ (ah.rfl_.next E102),he.from_ (hB.next E102),hn,by simp,?_,(hB.next E102)⟩;rw [y5 hnm hap hsn];simp only [z_,AE,true_and];unfold ExR;rw [if_neg (by omega),if_neg (by omega),if_pos (by omega)]
   first | done | omega
 rintro ⟨⟨ix',lt',cm',rd'⟩,ok',⟨E',n',c',es'⟩,a',d',dn'⟩ ρ44 w44 ⟨hX,hk1,heX,hnX,hlX,hiff,hB⟩;refine ak (af (aa (aD (cs:=[_,_,_,_,_,_,_,_,_,_,_,_,_]) bh aU rfl (by exact hX.whole)) ?_));refine aa (aD (cs:=[_,_,_,_,_,_,_,_,_,_,_,_,_]) bh aU rfl (by exact hk1.whole)) ?_;refine az kh (uY k f t tm ix' lt' cm' rd' ok' E' n' c' a' d' dn' k f t tm ix lt cm rd ok E n c a d dn _ es' es hnX hn heX (he.from_ hB) (by omega)) ?_;rintro v168 w45 ⟨rfl,E168⟩;refine asb rfl (ai (ag (aC (bw (v:=.bool _) rfl rfl (⟨congrArg Value.bool ?_,(hB.next E168)⟩)))));rw [decide_eq_decide,←hiff];constructor
 ·rintro ⟨-,-,-,-,e5,e6,e7,e8,e9,e10,e11,e12,e13⟩;exact ⟨e5,e6,e7,e8,e9,e10,e11,e12,e13⟩
 ·rintro ⟨e5,e6,e7,e8,e9,e10,e11,e12,e13⟩;exact ⟨rfl,rfl,rfl,rfl,e5,e6,e7,e8,e9,e10,e11,e12,e13⟩
theorem sG {m:Msg} (hl:m.es.length≤1000000) (hk:m.k=3):rI m:=fun w he=>yb m.k m.f m.t m.tm m.ix m.lt m.cm m.rd m.ok m.E m.es.length m.c m.a m.d m.dn w hk m.es rfl he (by omega)
theorem xK {m:Msg} (hl:m.es.length≤1000000) (hk:m.k=3):yv m:=fun w he=>Aq m.k m.f m.t m.tm m.ix m.lt m.cm m.rd m.ok m.E m.es.length m.c m.a m.d m.dn w hk m.es rfl he (by omega)
theorem sJ:aN prog 21=true:=by kernel_rfl
theorem iF:aN prog 22=true:=by kernel_rfl
theorem sI:aN prog 23=true:=by kernel_rfl
def wkA (k:Int):Rf:={ sh 1 1 1 with elapsed:=k }
def wkB (e r:Int):Rf:=⟨1,1,2,1,1,1,0,0,[⟨1,1,⟨#[]⟩⟩],⟨#[]⟩,1,e,10+bl (nx 1) 10,nx (nx 1),[],[1],[1],[0],r,[],⟨#[]⟩,0⟩
def wkR:Nat→Rf
 |0=>sh 1 1 1
 |k+1=>(iP (wkR k)).s
theorem y_:med [1]=1:=by
 have h:srt [1]=[1]:=List.perm_singleton.1 (oS [1]);unfold med;rw [h];rfl
theorem wj (k:Int):(jt (wkA k)).s=wkB 0 0:=by
 rw [sD (show (wkA k).term≠eT by show (0:Int)≠1099511627775;decide)];show (kC ⟨eh (wkA k),[]⟩).s=_;unfold kC;rw [if_pos (show fv (⟨eh (wkA k),[]⟩:Sp).s.nodes (⟨eh (wkA k),[]⟩:Sp).s.votes=true from (by decide:fv 1 [1]=true))];unfold mI;rw [if_neg (show ¬ ia (⟨eh (wkA k),[]⟩:Sp).s=true from fun h=>Bool.noConfusion (show false=true from h))];show dB (Sp.all ⟨fI (eH (eh (wkA k))) ⟨#[]⟩,[]⟩).s=_;rw [nw];show dB (fI (eH (eh (wkA k))) ⟨#[]⟩)=_;unfold dB;simp only;rw [show eP (fI (eH (eh (wkA k))) ⟨#[]⟩).mtch (fI (eH (eh (wkA k))) ⟨#[]⟩).id (bn (fI (eH (eh (wkA k))) ⟨#[]⟩))=[1] from rfl,y_];rfl
theorem yC {k:Int} (h:0≤k∧k≤20):iB (wkA k)=true:=by
 have hb:=t_ 1;refine cd.2 ⟨?_,?_,rfl,?_,?_⟩
 ·unfold iX wkA sh iN zR;simp only;omega
 ·exact ⟨rfl,Int.le_refl 0,⟨Int.le_refl 0,Int.le_refl 0⟩,Nat.zero_le _,.inr rfl⟩
 ·exact (eb (show (0:Int)≠2 by decide)).2 rfl
 ·exact ⟨Nat.zero_le _,⟨Int.le_refl 0,z11⟩,.inr rfl⟩
theorem yB {e r:Int} (he:0≤e∧e≤1) (hr:0≤r∧r≤20):iB (wkB e r)=true:=by
 have hb:=t_ (nx 1);refine cd.2 ⟨?_,?_,rfl,?_,?_⟩
 ·unfold iX wkB;simp only;omega
 ·exact ⟨(by decide:bR 0 0 [⟨1,1,⟨#[]⟩⟩]=true),Int.le_refl 1,⟨(by decide:(0:Int)≤1),Int.le_refl 1⟩,Nat.zero_le _,.inr rfl⟩
 ·exact (cC rfl).2 ⟨⟨rfl,rfl,rfl,Nat.zero_le _⟩,⟨fun x hx=>by rw [List.mem_singleton.1 hx];exact ⟨Int.le_refl 1,(by decide:(1:Int)≤1+1)⟩,fun x hx=>by rw [List.mem_singleton.1 hx];exact ⟨(by decide:(0:Int)≤1),Int.le_refl 1⟩,fun x hx=>by rw [List.mem_singleton.1 hx];exact ⟨Int.le_refl 0,Int.le_refl 0⟩⟩,fun q hq=>by cases hq⟩
 ·exact ⟨Nat.zero_le _,⟨Int.le_refl 0,z11⟩,.inr rfl⟩
theorem wk:∀ k:Nat,k≤20→((k:Int)<10+bl 1 10∧wkR k=wkA k)∨(10+bl 1 10≤(k:Int)∧∃ e r:Int,(0≤e∧e≤1)∧(0≤r∧r≤k)∧wkR k=wkB e r)
 |0,_=>by
  have hb:=t_ 1;exact .inl ⟨by show (0:Int)<_;omega,rfl⟩
 |k+1,hk=>by
  have hb:=t_ 1;rcases wk k (by omega) with ⟨h1,h2⟩ | ⟨h1,e,r,he,hr,h2⟩
  ·have ht:wkR (k+1)=(iP (wkA k)).s:=by rw [←h2];rfl
   have hm:min ((k:Int)+1) eT=((k+1:Nat):Int):=by unfold eT;omega
   have h3:iP (wkA k)=if 10+bl 1 10≤((k+1:Nat):Int) then jt (wkA ((k+1:Nat):Int)) else ⟨wkA ((k+1:Nat):Int),[]⟩:=by
    unfold iP;simp only;rw [if_neg (show ¬ (wkA k).role=2 by show ¬ (0:Int)=2;decide),show min ((wkA (k:Int)).elapsed+1) eT=((k+1:Nat):Int) from hm];rfl
   rw [ht,h3];by_cases h4:10+bl 1 10≤((k+1:Nat):Int)
   ·rw [if_pos h4,wj];exact .inr ⟨h4,0,0,⟨by omega,by omega⟩,⟨by omega,by omega⟩,rfl⟩
   ·rw [if_neg h4];exact .inl ⟨by omega,rfl⟩
  ·have ht:wkR (k+1)=(iP (wkB e r)).s:=by rw [←h2];rfl
   have hm:min (e+1) eT=e+1:=by unfold eT;omega
   have hm2:min (r+1) eT=r+1:=by unfold eT;omega
   have h3:(iP (wkB e r)).s=if 2≤e+1 then wkB 0 (r+1) else wkB (e+1) r:=by
    unfold iP;simp only;rw [if_pos (show (wkB e r).role=2 from rfl),show min ((wkB e r).elapsed+1) eT=e+1 from hm,show min ((wkB e r).round+1) eT=r+1 from hm2];split
    ·rw [nw];rfl
    ·rfl
   rw [ht,h3];refine .inr ⟨by omega,?_⟩;split
   ·exact ⟨0,r+1,⟨by omega,by omega⟩,⟨by omega,by omega⟩,rfl⟩
   ·exact ⟨e+1,r,⟨by omega,by omega⟩,⟨by omega,by omega⟩,rfl⟩
theorem zW {k:Nat} (hk:k≤20):iB (wkR k)=true:=by
 rcases wk k hk with ⟨_,h2⟩ | ⟨_,e,r,he,hr,h2⟩
 ·rw [h2];exact yC (by omega)
 ·rw [h2];exact yB he (by omega)
theorem zX:(wkR 20).role=2∧(wkR 20).term=1∧(wkR 20).commit=1:=by
 have hb:=t_ 1;rcases wk 20 (Nat.le_refl _) with ⟨h1,_⟩ | ⟨_,e,r,_,_,h2⟩
 ·omega
 ·rw [h2];exact ⟨rfl,rfl,rfl⟩
theorem RfF.sizes {s:Rf} (h:RfF s):(s.votes.length≤1000000∧s.next.length≤1000000∧s.mtch.length≤1000000∧s.sent.length≤1000000∧s.reads.length≤1000000∧∀ q∈s.reads,q.acks.length≤1000000)∧s.es.length≤1000000:=by
 have h1:=h.vl;have h2:=h.n
 have h3:gy s≤7:=by
  by_cases hr:s.role=2
  ·rw [jN hr];omega
  ·rw [oF hr];omega
 have h4:=h.nx.1;have h5:=h.ma.1;have h6:=h.se.1;have h7:=h.rl;have h8:=h.last;refine ⟨⟨by omega,by omega,by omega,by omega,by omega,fun q hq=>?_⟩,by omega⟩;have h9:=(eK.1 (h.rd q hq)).2.2.2;have h10:=mD h9;have h11:=lA q.acks 0 s.nodes h10.2 fun x hx=>⟨by have:=(h10.1 x hx).1;omega,(h10.1 x hx).2⟩
 omega
theorem AY {w:World} {id n seed:Int}:fo w (sh id n seed) a0:=bm.rd (bm.same (s':=sh id n seed) (bm.zero (w:=w) (tag:=fun _=>8)) rfl rfl rfl rfl rfl rfl)
theorem Al (w:World):Rt prog 21 [.int .i64 1,.int .i64 1,.int .u64 1] w fun v w'=>v=.tuple #[.agg (rfV (sh 1 1 1) a0).toArray,.int .i64 0]∧ah w w':=
 (y7 1 1 1 w).mono fun v w' h=>⟨h.1.elim (fun e=>e.2) (fun e=>absurd (by unfold oh;omega) e.1),h.2⟩
theorem kT (e:Int) (w:World) :
 Rt prog 22 [.int .i64 e] w (fun v w'=>v=.int .i64 e∧w=w'):=by
 refine enter (n:=4) Tryz.func22 rfl rfl rfl (ak (af (asi rfl (ai (ag (ak (af (mvi rfl (asi rfl (ai (ag (aC (bw (v:=.int _ _) rfl rfl (⟨rfl,rfl⟩))))))))))))))
theorem rM (w:World) :
 Rt prog 18 [] w (fun v w'=>v=.bool true∧ah w w'):=by
 refine enter (n:=37) Tryz.func18 rfl rfl rfl (ak (af (asb rfl (ai (ag (ak (af (az sJ (Al _) ?_))))))));rintro v5 w1 ⟨rfl,E5⟩;refine mvt rfl (aa (aO rfl rfl) (aa (aO rfl rfl) ?_));have hz1:=((ah.rfl_.next E5)).size;refine bQ dg ?_;intro b1 w2 E1 hb1 hk1;have hg1:w.heap.size≤b1:=by omega
 refine bK (vs:=[_,_,_,_,_,_,_,_,_,_,_,_,_,_,_,_,_,_,_,_,_,_]) aF rfl rfl (by simp [Value.oneCell']) (hk1) rfl ?_;intro w3 O1 P1;refine asi rfl (ai (ag (ak (ak (af (mvi rfl (az iF (kT _ _) ?_)))))));rintro v9 w4 ⟨rfl,rfl⟩;refine aa (c8 (dp rfl rfl) rfl) (ai (ag (bA rfl (aM (ag (ak (ak (af (asi rfl (ai (ag (a_ (cY (G:=Nat×Ra) [0,11,12,13,14,15,16,17,18,19,20,21,22,23] (fun (k,_)=>[(2,.int .i64 0),(3,.int .i64 (k:Nat))]) (fun (k,a) w'=>k≤20∧Blk w' b1 29 (rfV (wkR k) a).toArray∧fo w' (wkR k) a∧ah w w') (fun (k,_)=>20-k) ((0,a0)) ⟨rfl,rfl,trivial⟩ ?_ ?_)))))))))))))
 ·exact ⟨Nat.zero_le _,P1.from_ ah.rfl_,AY,(((ah.rfl_.next E5).next E1).only O1 (hg1))⟩
 rintro ⟨k,a⟩ ρ5 w5 ⟨hk,hkb,hrd,hB⟩;refine ak (ak (af (mvi rfl (aa (cg rfl rfl) (ai (ag (Bn rfl (fun Q6=>?_) (fun Q6=>?_))))))))
 ·have hmk:=zW (k:=k) (by omega);have hszs:=(nq hmk).sizes;refine aM (ag (ak (a_ (ak (af (aa (aD (cs:=rfV (wkR k) a) aP aF rfl ((hkb.from_ ah.rfl_).whole)) ?_))))));have hM17:ah _ w5:=ah.rfl_;have hlt1:b1<(w5).heap.size:=(hkb.from_ ah.rfl_).lt;refine az sI (wB (wkR k) a _ (hrd.from_ ah.rfl_) hszs.1 hszs.2 hmk) ?_;rintro v17 w7 ⟨⟨tag9,a9,O9,oc9,L9,rfl,hf9,hm9,ht9⟩,E17⟩;refine mvt rfl (aa (aO rfl rfl) (aa (aO rfl rfl) (aa (aO rfl rfl) (bK (vs:=[_,_,_,_,_,_,_,_,_,_,_,_,_,_,_,_,_,_,_,_,_,_]) aF rfl rfl (by simp [Value.oneCell']) (((hkb.from_ hM17).from_ E17)) rfl ?_))));intro w8 O7 P7;have hrd9:fo w8 (wkR (k+1)) a9:=bm.rd (cO.chg8 hf9 (O7.toChg rfl) (ht9 b1 hlt1));refine asi rfl (ai (ag (ak (af (mvi rfl (az iF (kT _ _) ?_))))));rintro v22 w9 ⟨rfl,rfl⟩;refine aa (c8 (dp rfl rfl) rfl) (ai (ag (bA rfl (aM (bN (ag (af (mvi rfl (aa (bW rfl rfl (by omega)) (asi rfl (ai ?_)))))))))));refine bT ((k+1,a9)) ⟨(by first | rfl | (refine bM ?_;omega)),(by first | rfl | (refine bM ?_;omega)),trivial⟩ (by (iterate 31 refine bf rfl ?_);exact bB) ⟨?_,?_⟩
  ·exact ⟨by omega,P7.from_ ah.rfl_,hrd9.from_ ah.rfl_,((hB.next E17).only O7 (hg1))⟩
  ·show 20-(k+1)<20-k;omega
 have h20:k=20:=by omega
 have hwe:=zX;rw [←h20] at hwe;refine cq (bg (bg (b_ (ag (ak (af (aa (ab cZ rfl) (aa (ar ao rfl (by exact (show _=some (Value.int .i64 (wkR k).role) from (hkb.from_ ah.rfl_).rd 2 rfl))) ?_))))))));refine aa (dh (bt rfl rfl) (by rw [hwe.1];rfl)) ?_;refine mvb rfl (ae rfl (aa (ab bL rfl) (ae rfl (aa (ar ao rfl (by exact (show _=some (Value.int .i64 (wkR k).term) from (hkb.from_ ah.rfl_).rd 3 rfl))) ?_))));refine ae rfl (aa (dh (bt rfl rfl) (by rw [hwe.2.1];rfl)) ?_);refine aa (aG (v:=.bool _) rfl rfl) (mvb rfl (ae rfl (aa (ab cQ rfl) (ae rfl (aa (ar ao rfl (by exact (show _=some (Value.int .i64 (wkR k).commit) from (hkb.from_ ah.rfl_).rd 10 rfl))) ?_)))));refine ae rfl (aa (dh (bt rfl rfl) (by rw [hwe.2.2];rfl)) ?_);refine aa (aG (v:=.bool _) rfl rfl) (asb rfl (ai (ag (aC (bw (v:=.bool _) rfl rfl (⟨rfl,hB⟩))))))
theorem Small.l6 {s:Rf} {X:List Ac} (h:Small s X):(s.votes.length≤1000000∧s.next.length≤1000000∧s.mtch.length≤1000000∧s.sent.length≤1000000∧s.reads.length≤1000000∧∀ q∈s.reads,q.acks.length≤1000000)∧s.es.length≤1000000:=by
 obtain ⟨⟨h1,h2,h3,h4,h5,h6⟩,h7,_⟩:=h;exact ⟨⟨by omega,by omega,by omega,by omega,by omega,fun q hq=>by have:=h6 q hq;omega⟩,by omega⟩
theorem yz:zR.votes.length≤1000000∧zR.next.length≤1000000∧zR.mtch.length≤1000000∧zR.sent.length≤1000000∧zR.reads.length≤1000000∧∀ q∈zR.reads,q.acks.length≤1000000:=⟨Nat.zero_le _,Nat.zero_le _,Nat.zero_le _,Nat.zero_le _,Nat.zero_le _,fun q hq=>by cases hq⟩
theorem lu:zR.es.length≤1000000∧zR.votes.length≤1000000∧zR.next.length≤1000000∧zR.mtch.length≤1000000∧zR.sent.length≤1000000∧zR.reads.length≤1000000∧∀ q∈zR.reads,q.acks.length≤1000000:=⟨Nat.zero_le _,yz⟩
theorem uX (w:World):Rt prog 50 [.slice none 0 0,.slice none 0 0] w fun v w'=>v=.bool true∧ah w w':=
 sy none none 0 0 0 [] [] w (fun h=>absurd h (Nat.lt_irrefl _)) (fun h=>absurd h (Nat.lt_irrefl _)) rfl rfl rfl (fun x hx=>by cases hx) (fun x hx=>by cases hx) (fun x hx=>by cases hx) (Nat.zero_le _)
theorem oT (tag:Nat→Nat) (w:World):Rt prog 52 [.slice none 0 0] w fun v w'=>v=.tuple #[]∧Chg (fun q=>tag q=6∨∃ i,tag q=1000+2*i) w w':=
 mq tag [] none 0 [] w ⟨World.ownsRow_nil _ _ _ _,rfl,fun j hj=>absurd hj (Nat.not_lt_zero _),Col.none⟩ (Nat.zero_le _) (fun x hx=>by cases hx)
theorem pK:aN prog 57=true:=by kernel_rfl
theorem uj:aN prog 58=true:=by kernel_rfl
theorem ku:aN prog 16=true:=by kernel_rfl
theorem p0:∀ (a0:Int) (a1:Int) (a2:Int) (a3:Int) (a4:Int) (a5:Int) (a6:Int) (a7:Int) (a8:Option Addr) (a9 a10:Nat) (a11:ByteArray) (a12:Int) (a13:Int) (a14:Int) (a15:Int) (a16:Option Addr) (a17 a18:Nat) (a19:Option Addr) (a20 a21:Nat) (a22:Option Addr) (a23 a24:Nat) (a25:Option Addr) (a26 a27:Nat) (a28:Int) (a29:Option Addr) (a30 a31:Nat) (a32:ByteArray) (a33:Int),prog.built 111 [(0,.agg #[.int .i64 a0,.int .i64 a1,.int .i64 a2,.int .i64 a3,.int .i64 a4,.int .i64 a5,.int .i64 a6,.int .i64 a7,.slice a8 a9 a10,.string a11,.int .i64 a12,.int .i64 a13,.int .i64 a14,.int .u64 a15,.slice a16 a17 a18,.slice a19 a20 a21,.slice a22 a23 a24,.slice a25 a26 a27,.int .i64 a28,.slice a29 a30 a31,.string a32,.int .i64 a33])]=some #[.int .i64 a0,.int .i64 a1,.int .i64 a2,.int .i64 a3,.int .i64 a4,.int .i64 a5,.int .i64 a6,.int .i64 a7,.slice a8 a9 a10,.string a11,.int .i64 a12,.int .i64 a13,.int .i64 a14,.int .u64 a15,.slice a16 a17 a18,.slice a19 a20 a21,.slice a22 a23 a24,.slice a25 a26 a27,.int .i64 a28,.slice a29 a30 a31,.string a32,.int .i64 a33,.slice none 0 0]:=by intros;kernel_rfl
theorem ui:aN prog 89=true:=by kernel_rfl
theorem wF (s:Rf) (a:Ra) (m:Msg) (w:World) (hrd:fo w s a) (hl:s.votes.length≤1000000∧s.next.length≤1000000∧s.mtch.length≤1000000∧s.sent.length≤1000000∧s.reads.length≤1000000∧∀ q∈s.reads,q.acks.length≤1000000) (hel:s.es.length≤1000000) (hm:iB s=false) :
 Rt prog 24 [.agg (rfV s a).toArray,.agg (bH m).toArray] w (fun v w'=>v=.tuple #[.agg (rfV zR a0).toArray,.slice none 0 0,.int .i64 1]∧ah w w'):=by
 refine enter (n:=35) Tryz.func24 rfl rfl rfl (ak (af (bZ (v:=.agg _) rfl ?_)));intro b2 w1 E2 hb2 hk2;refine bZ (v:=.agg _) rfl ?_;intro b3 w2 E3 hb3 hk3;replace hk2:=hk2.from_ E3;refine bQ dg ?_;intro b4 w3 E4 hb4 hk4;have hg4:w.heap.size≤b4:=by rw [hb4];exact (((ah.rfl_.next E2).next E3)).size
 replace hk2:=hk2.from_ E4;replace hk3:=hk3.from_ E4;refine ass rfl (asi rfl (ai (ag (ak (af (aa (aD (cs:=rfV s a) aP aF rfl ((hk2.from_ ah.rfl_).whole)) (az lF (yf s a _ (hrd.from_ (((ah.rfl_.next E2).next E3).next E4)) hl hel hm) ?_)))))));rintro v11 w4 ⟨rfl,E11⟩;refine mvt rfl (aa (aO rfl rfl) (aa (aO rfl rfl) (asp rfl (asi rfl (ai (ag (ak (ak (af (mvi rfl (aa (dh (dp rfl rfl) rfl) (mvb rfl ?_))))))))))));refine an rfl rfl (an rfl rfl (an rfl rfl (an rfl rfl (aa (aG (v:=.bool _) rfl rfl) (ai (ag (aR rfl (ak (af (aa (cy (l:=[]) (fQ)) ?_))))))))));refine bK (vs:=[_,_,_,_,_,_,_,_,_,_,_,_,_,_,_,_,_,_,_,_,_,_]) aF rfl rfl (by simp [Value.oneCell']) ((hk4.from_ (ah.rfl_.next E11))) rfl ?_;intro w5 O3 P3;refine ass rfl (asi rfl (ai (ag (aC (aE (jZ rfl (cL (cs:=[_,_,_,_,_,_,_,_,_,_,_,_,_,_,_,_,_,_,_,_,_,_]) aP aF rfl (by exact P3.whole)) (da (v:=.slice _ _ _) rfl) (da (v:=.int _ _) rfl) ?_))))));exact ⟨rfl,(((((ah.rfl_.next E2).next E3).next E4).next E11).only O3 (hg4))⟩
theorem ve (s:Rf) (a:Ra) (m:Msg) (w:World) (hrd:fo w s a) (hl:s.votes.length≤1000000∧s.next.length≤1000000∧s.mtch.length≤1000000∧s.sent.length≤1000000∧s.reads.length≤1000000∧∀ q∈s.reads,q.acks.length≤1000000) (hel:s.es.length≤1000000) (he:Em w m) (hlm:m.es.length≤1000000) (hck:rI m) (hm:iB s=true) (hf:¬ p9 s m) :
 Rt prog 24 [.agg (rfV s a).toArray,.agg (bH m).toArray] w (fun v w'=>v=.tuple #[.agg (rfV zR a0).toArray,.slice none 0 0,.int .i64 1]∧ah w w'):=by
 refine enter (n:=35) Tryz.func24 rfl rfl rfl (ak (af (bZ (v:=.agg _) rfl ?_)));intro b2 w1 E2 hb2 hk2;refine bZ (v:=.agg _) rfl ?_;intro b3 w2 E3 hb3 hk3;replace hk2:=hk2.from_ E3;refine bQ dg ?_;intro b4 w3 E4 hb4 hk4;have hg4:w.heap.size≤b4:=by rw [hb4];exact (((ah.rfl_.next E2).next E3)).size
 replace hk2:=hk2.from_ E4;replace hk3:=hk3.from_ E4;refine ass rfl (asi rfl (ai (ag (ak (af (aa (aD (cs:=rfV s a) aP aF rfl ((hk2.from_ ah.rfl_).whole)) ?_))))));have hB9:ah w w3:=(((ah.rfl_.next E2).next E3).next E4);have hk2b:=hk2.from_ ah.rfl_;have hk3b:=hk3.from_ ah.rfl_;have hk4b:=hk4.from_ ah.rfl_;have hlt2:=hk2b.lt;have hlt3:=hk3b.lt;have hlt4:=hk4b.lt;obtain ⟨wb,hw9⟩:∃ x,x=w3:=⟨_,rfl⟩;obtain ⟨Z,hZ⟩:∃ Z:Nat→Prop,Z=fun k=>k<wb.heap.size:=⟨_,rfl⟩
 refine az lF (pD s a _ (hrd.from_ (((ah.rfl_.next E2).next E3).next E4)) hl hel hm) ?_;rintro v11 w4 ⟨g,rfl,h9⟩;rw [←hw9] at hB9 hk2b hk3b hk4b hlt2 hlt3 hlt4;rw [←hw9,←hZ] at h9;have stB:∀ {w':World} {p:Sp},aZ wb Z w' 96 g p→ah w w':=fun h=>hB9.next (jW (by rw [hZ] at h;exact h))
 have hz2:Z b2:=by rw [hZ];exact hlt2
 have hz3:Z b3:=by rw [hZ];exact hlt3
 have hz4:Z b4:=by rw [hZ];exact hlt4
 have hzw:∀ k,k<w.heap.size→Z k:=fun k hk=>by rw [hZ];exact Nat.lt_of_lt_of_le hk hB9.size
 refine mvt rfl (aa (aO rfl rfl) (aa (aO rfl rfl) (asp rfl (asi rfl (ai (ag (ak (ak (af (mvi rfl (aa (c8 (dp rfl rfl) rfl) (mvb rfl ?_))))))))))));refine ae rfl (aa (aD (cs:=rfV s a) aP aF rfl (((h9.kept hz2 hk2b).from_ ah.rfl_).whole)) (ae rfl (aa (aD (cs:=bH m) bh aU rfl (((h9.kept hz3 hk3b).from_ ah.rfl_).whole)) (ae rfl (az pK (pH s a m _ (he.from_ (stB h9)) hlm hck (decide_eq_false hf)) ?_)))));rintro v19 w5 ⟨rfl,E19⟩;refine ae rfl (aa (dh (cn rfl) rfl) (aa (av (v:=.bool _) rfl rfl) (ai (ag (aR rfl (ak (af (aa (cy (l:=[]) (fQ)) (bK (vs:=[_,_,_,_,_,_,_,_,_,_,_,_,_,_,_,_,_,_,_,_,_,_]) aF rfl rfl (by simp [Value.oneCell']) (((h9.kept hz4 hk4b).from_ (ah.rfl_.next E19))) rfl ?_)))))))));intro w6 O3 P3;refine ass rfl (asi rfl (ai (ag (aC (aE (jZ rfl (cL (cs:=[_,_,_,_,_,_,_,_,_,_,_,_,_,_,_,_,_,_,_,_,_,_]) aP aF rfl (by exact P3.whole)) (da (v:=.slice _ _ _) rfl) (da (v:=.int _ _) rfl) ?_))))));exact ⟨rfl,(((stB h9).next E19).only O3 (hg4))⟩
theorem wE (s:Rf) (a:Ra) (m:Msg) (w:World) (hrd:fo w s a) (hl:s.votes.length≤1000000∧s.next.length≤1000000∧s.mtch.length≤1000000∧s.sent.length≤1000000∧s.reads.length≤1000000∧∀ q∈s.reads,q.acks.length≤1000000) (hel:s.es.length≤1000000) (he:Em w m) (hlm:m.es.length≤1000000) (hck:rI m) (hm:iB s=true) (hf:p9 s m) (htk:∀ (w0:World) (Z:Nat→Prop) (g:Nat) (wv:World),aZ w0 Z wv 96 g ⟨s,[]⟩→Em wv m→Ez Z m→Rt prog 58 [.pointer (some ⟨g,0,none⟩),.agg (bH m).toArray] wv fun v w'=>v=.tuple #[]∧aZ w0 Z w' 96 g (cT s m)) :
 Rt prog 24 [.agg (rfV s a).toArray,.agg (bH m).toArray] w (fun v w'=>(∃ tag a' O oc L,v=.tuple #[.agg (rfV (cT s m).s a').toArray,.slice O (List.length L) oc,.int .i64 0]∧bm w' tag (cT s m).s a'∧eI w' tag (cT s m).out O oc L∧∀ k,k<w.heap.size→tag k=8)∧ah w w'):=by
 refine enter (n:=35) Tryz.func24 rfl rfl rfl (ak (af (bZ (v:=.agg _) rfl ?_)));intro b2 w1 E2 hb2 hk2;refine bZ (v:=.agg _) rfl ?_;intro b3 w2 E3 hb3 hk3;replace hk2:=hk2.from_ E3;refine bQ dg ?_;intro b4 w3 E4 hb4 hk4;have hg4:w.heap.size≤b4:=by rw [hb4];exact (((ah.rfl_.next E2).next E3)).size
 replace hk2:=hk2.from_ E4;replace hk3:=hk3.from_ E4;refine ass rfl (asi rfl (ai (ag (ak (af (aa (aD (cs:=rfV s a) aP aF rfl ((hk2.from_ ah.rfl_).whole)) ?_))))));have hB9:ah w w3:=(((ah.rfl_.next E2).next E3).next E4);have hk2b:=hk2.from_ ah.rfl_;have hk3b:=hk3.from_ ah.rfl_;have hk4b:=hk4.from_ ah.rfl_;have hlt2:=hk2b.lt;have hlt3:=hk3b.lt;have hlt4:=hk4b.lt;obtain ⟨wb,hw9⟩:∃ x,x=w3:=⟨_,rfl⟩;obtain ⟨Z,hZ⟩:∃ Z:Nat→Prop,Z=fun k=>k<wb.heap.size:=⟨_,rfl⟩
 refine az lF (pD s a _ (hrd.from_ (((ah.rfl_.next E2).next E3).next E4)) hl hel hm) ?_;rintro v11 w4 ⟨g,rfl,h9⟩;rw [←hw9] at hB9 hk2b hk3b hk4b hlt2 hlt3 hlt4;rw [←hw9,←hZ] at h9;have stB:∀ {w':World} {p:Sp},aZ wb Z w' 96 g p→ah w w':=fun h=>hB9.next (jW (by rw [hZ] at h;exact h))
 have hz2:Z b2:=by rw [hZ];exact hlt2
 have hz3:Z b3:=by rw [hZ];exact hlt3
 have hz4:Z b4:=by rw [hZ];exact hlt4
 have hzw:∀ k,k<w.heap.size→Z k:=fun k hk=>by rw [hZ];exact Nat.lt_of_lt_of_le hk hB9.size
 refine mvt rfl (aa (aO rfl rfl) (aa (aO rfl rfl) (asp rfl (asi rfl (ai (ag (ak (ak (af (mvi rfl (aa (c8 (dp rfl rfl) rfl) (mvb rfl ?_))))))))))));refine ae rfl (aa (aD (cs:=rfV s a) aP aF rfl (((h9.kept hz2 hk2b).from_ ah.rfl_).whole)) (ae rfl (aa (aD (cs:=bH m) bh aU rfl (((h9.kept hz3 hk3b).from_ ah.rfl_).whole)) (ae rfl (az pK (pH s a m _ (he.from_ (stB h9)) hlm hck (decide_eq_true hf)) ?_)))));rintro v19 w5 ⟨rfl,E19⟩;refine ae rfl (aa (c8 (cn rfl) rfl) (aa (av (v:=.bool _) rfl rfl) (ai (ag (bA rfl (aM (ag (ak (af (mvp rfl (aa (aD (cs:=bH m) bh aU rfl (((h9.kept hz3 hk3b).from_ (ah.rfl_.next E19)).whole)) (az uj (htk wb Z g _ (h9.from_ (ah.rfl_.next E19)) (he.from_ ((stB h9).next E19)) (he.ez hzw)) ?_))))))))))));rintro v25 w6 ⟨rfl,h12⟩;have hT:aZ wb Z w6 96 g (cT s m):=h12;obtain ⟨tgX,aX,OX,ocX,LX,hsX⟩:=hT.ex;have hBq:ah w w6:=stB hT;have hk4d:=hT.kept hz4 hk4b;have hn4:g≠b4:=fun e=>by have h1:=hsX.z b4 hz4;rw [←e,hsX.gc] at h1;cases h1
 refine ai (ag (ak ?_));have hU7:k9 [(0,26,.pointer (some ⟨g,0,none⟩)),(1,27,.pointer (some ⟨g,0,none⟩)),(2,28,.pointer (some ⟨g,0+0,none⟩)),(3,29,.pointer (some ⟨g,0+0+0,none⟩)),(4,30,.agg (rfV (cT s m).s aX).toArray),(5,31,.pointer (some ⟨g,0,none⟩)),(6,32,.pointer (some ⟨g,0,none⟩)),(7,33,.pointer (some ⟨g,0+22,none⟩)),(8,34,.slice OX LX.length ocX),(10,5,.slice OX LX.length ocX),(11,6,.int .i64 0)]:=by simp [k9]
 refine mL [(0,26,.pointer (some ⟨g,0,none⟩)),(1,27,.pointer (some ⟨g,0,none⟩)),(2,28,.pointer (some ⟨g,0+0,none⟩)),(3,29,.pointer (some ⟨g,0+0+0,none⟩)),(4,30,.agg (rfV (cT s m).s aX).toArray),(5,31,.pointer (some ⟨g,0,none⟩)),(6,32,.pointer (some ⟨g,0,none⟩)),(7,33,.pointer (some ⟨g,0+22,none⟩)),(8,34,.slice OX LX.length ocX),(10,5,.slice OX LX.length ocX),(11,6,.int .i64 0)] (fun S w'=>Blk w' g 96 ((rfV (cT s m).s aX)++[Value.slice OX LX.length ocX]).toArray∧(∃ cs:Array Value,cs.size=22∧Blk w' b4 29 cs∧(S 9=true→cs=(rfV (cT s m).s aX).toArray))∧Chg (fun k=>k=b4) w6 w') (by kernel_rfl) (by kernel_rfl) hU7 (by simp) (⟨(hsX.b.from_ ah.rfl_).from_ ah.rfl_.d1,⟨_,rfl,(hk4d.from_ ah.rfl_).from_ ah.rfl_.d1,fun h=>(by cases h)⟩,ah.rfl_.d1.toChg⟩) ?_ ?_
 ·constructor
  ·rintro S L' wS hI hM hS0 ⟨-⟩;have e7:=hI.1 7 (by simp);have hM':=hM;obtain ⟨hgB,⟨cs9,hs9z,hq9,hqe⟩,hC9⟩:=hM';exact b0 (aK e7) ⟨hI.put hU7 (.head _),hM⟩
  constructor
  ·rintro S L' wS hI hM hS0 ⟨d0,-⟩;have e26:bI L' 26=.pointer (some ⟨g,0,none⟩):=hI.get (i:=0) (.head _) d0;have hM':=hM;obtain ⟨hgB,⟨cs9,hs9z,hq9,hqe⟩,hC9⟩:=hM';exact b0 (aw e26) ⟨hI.put hU7 (.tail _ (.head _)),hM⟩
  constructor
  ·rintro S L' wS hI hM hS0 ⟨d1,-⟩;have e27:bI L' 27=.pointer (some ⟨g,0,none⟩):=hI.get (i:=1) (.tail _ (.head _)) d1;have hM':=hM;obtain ⟨hgB,⟨cs9,hs9z,hq9,hqe⟩,hC9⟩:=hM';exact b0 (ab aH e27) ⟨hI.put hU7 (gM 2 rfl),hM⟩
  constructor
  ·rintro S L' wS hI hM hS0 ⟨d2,-⟩;have e28:bI L' 28=.pointer (some ⟨g,0+0,none⟩):=hI.get (i:=2) (gM 2 rfl) d2;have hM':=hM;obtain ⟨hgB,⟨cs9,hs9z,hq9,hqe⟩,hC9⟩:=hM';exact b0 (ab aB e28) ⟨hI.put hU7 (gM 3 rfl),hM⟩
  constructor
  ·rintro S L' wS hI hM hS0 ⟨d3,-⟩;have e29:bI L' 29=.pointer (some ⟨g,0+0+0,none⟩):=hI.get (i:=3) (gM 3 rfl) d3;have hM':=hM;obtain ⟨hgB,⟨cs9,hs9z,hq9,hqe⟩,hC9⟩:=hM';exact b0 (aD (cs:=(rfV (cT s m).s aX)) aP aF e29 (ng hgB)) ⟨hI.put hU7 (gM 4 rfl),hM⟩
  constructor
  ·rintro S L' wS hI hM hS0 ⟨-,-⟩;have e7:=hI.1 7 (by simp);have hM':=hM;obtain ⟨hgB,⟨cs9,hs9z,hq9,hqe⟩,hC9⟩:=hM';exact b0 (aK e7) ⟨hI.put hU7 (gM 5 rfl),hM⟩
  constructor
  ·rintro S L' wS hI hM hS0 ⟨d5,-,-⟩;have e31:bI L' 31=.pointer (some ⟨g,0,none⟩):=hI.get (i:=5) (gM 5 rfl) d5;have hM':=hM;obtain ⟨hgB,⟨cs9,hs9z,hq9,hqe⟩,hC9⟩:=hM';exact b0 (aw e31) ⟨hI.put hU7 (gM 6 rfl),hM⟩
  constructor
  ·rintro S L' wS hI hM hS0 ⟨d6,-,-⟩;have e32:bI L' 32=.pointer (some ⟨g,0,none⟩):=hI.get (i:=6) (gM 6 rfl) d6;have hM':=hM;obtain ⟨hgB,⟨cs9,hs9z,hq9,hqe⟩,hC9⟩:=hM';exact b0 (ab iU e32) ⟨hI.put hU7 (gM 7 rfl),hM⟩
  constructor
  ·rintro S L' wS hI hM hS0 ⟨d7,-,-⟩;have e33:bI L' 33=.pointer (some ⟨g,0+22,none⟩):=hI.get (i:=7) (gM 7 rfl) d7;have hM':=hM;obtain ⟨hgB,⟨cs9,hs9z,hq9,hqe⟩,hC9⟩:=hM';exact b0 (ar jA e33 (by exact (show _=some (Value.slice OX LX.length ocX) from hgB.rd 22 rfl))) ⟨hI.put hU7 (gM 8 rfl),hM⟩
  constructor
  ·rintro S L' wS hI hM hS0 ⟨d4,d0,d1,d2,d3,d4,-,-,-,-,-⟩;have e4:=hI.1 4 (by simp);have e30:bI L' 30=.agg (rfV (cT s m).s aX).toArray:=hI.get (i:=4) (gM 4 rfl) d4;have hM':=hM;obtain ⟨hgB,⟨cs9,hs9z,hq9,hqe⟩,hC9⟩:=hM';obtain ⟨w2,hR,hO,hb⟩:=ly (n:=35) (L:=L') (x:=.tmp 4) (y:=.tmp 30) (vs:=(rfV (cT s m).s aX)) aF e4 e30 (by simp [rfV,Value.oneCell']) hq9 (by rw [hs9z];rfl);exact gO hR ⟨hI.skip (by simp),hgB.only hO hn4,⟨_,rfl,hb,fun _=>rfl⟩,hC9.next (hO.toChg rfl)⟩
  constructor
  ·rintro S L' wS hI hM hS0 ⟨d8,d9,d0,d1,d2,d3,d4,d5,d6,d7,d8,d9,-⟩;have e34:bI L' 34=.slice OX LX.length ocX:=hI.get (i:=8) (gM 8 rfl) d8;have hM':=hM;obtain ⟨hgB,⟨cs9,hs9z,hq9,hqe⟩,hC9⟩:=hM';exact b0 (dt e34) ⟨hI.put hU7 (gM 9 rfl),hM⟩
  constructor
  ·rintro S L' wS hI hM hS0 ⟨d10,d0,d1,d2,d3,d4,d5,d6,d7,d8,d9,d10,-⟩;have hM':=hM;obtain ⟨hgB,⟨cs9,hs9z,hq9,hqe⟩,hC9⟩:=hM';exact b0 (dt rfl) ⟨hI.put hU7 (gM 10 rfl),hM⟩
  exact trivial
 ·intro w8 hM;obtain ⟨hgB,⟨cs9,hs9z,hq9,hqe⟩,hC9⟩:=hM;have hqe:=hqe rfl;subst hqe;refine ag (aC (jZ rfl (cL (cs:=[_,_,_,_,_,_,_,_,_,_,_,_,_,_,_,_,_,_,_,_,_,_]) aP aF rfl (by exact hq9.whole)) (da (v:=.slice _ _ _) rfl) (da (v:=.int _ _) rfl) ?_));exact ⟨⟨tgX,aX,OX,ocX,LX,rfl,u7.mk_ hsX hzw (hC9.wide (fun k hk=>.inl (by rw [show k=b4 from hk];exact hz4)))⟩,(hBq.chg hC9 (fun k hk=>by rw [show k=b4 from hk];exact hg4))⟩
theorem wN (s:Rf) (a:Ra) (m:Msg) (w:World) (hrd:fo w s a) (hl:s.votes.length≤1000000∧s.next.length≤1000000∧s.mtch.length≤1000000∧s.sent.length≤1000000∧s.reads.length≤1000000∧∀ q∈s.reads,q.acks.length≤1000000) (hel:s.es.length≤1000000) (he:Em w m) (_:m.es.length≤1000000) (htk:∀ (w0:World) (Z:Nat→Prop) (g:Nat) (wv:World),aZ w0 Z wv 111 g ⟨s,[]⟩→Em wv m→Ez Z m→Rt prog 89 [.pointer (some ⟨g,0,none⟩),.agg (bH m).toArray] wv fun v w'=>v=.tuple #[]∧aZ w0 Z w' 111 g (cT s m)) :
 Rt prog 46 [.agg (rfV s a).toArray,.agg (bH m).toArray] w (fun v w'=>(∃ tag a' O oc L,v=.tuple #[.agg (rfV (cT s m).s a').toArray,.slice O (List.length L) oc]∧bm w' tag (cT s m).s a'∧eI w' tag (cT s m).out O oc L∧∀ k,k<w.heap.size→tag k=8)∧ah w w'):=by
 refine enter (n:=22) Tryz.func46 rfl rfl rfl (ak (af (bZ (v:=.agg _) rfl ?_)));intro b2 w1 E2 hb2 hk2;refine bZ (v:=.agg _) rfl ?_;intro b3 w2 E3 hb3 hk3;replace hk2:=hk2.from_ E3;refine bQ dg ?_;intro b4 w3 E4 hb4 hk4;have hg4:w.heap.size≤b4:=by rw [hb4];exact (((ah.rfl_.next E2).next E3)).size
 replace hk2:=hk2.from_ E4;replace hk3:=hk3.from_ E4;refine ass rfl (ai (ag (ak (af (aa (aD (cs:=rfV s a) aP aF rfl ((hk2.from_ ah.rfl_).whole)) ?_)))));have hk3b:=hk3.from_ ah.rfl_;have hk4b:=hk4.from_ ah.rfl_;have hlt3:=hk3b.lt;have hlt4:=hk4b.lt;have hB9:ah w w3:=(((ah.rfl_.next E2).next E3).next E4);have hk2b:=hk2.from_ ah.rfl_;have hlt2:=hk2b.lt;obtain ⟨wb,hw9⟩:∃ x,x=w3:=⟨_,rfl⟩;obtain ⟨Z,hZ⟩:∃ Z:Nat→Prop,Z=fun k=>k<wb.heap.size:=⟨_,rfl⟩
 refine az ku (jO s a _ (hrd.from_ (((ah.rfl_.next E2).next E3).next E4)) hl hel) ?_;rintro v8 w4 ⟨⟨tag9,a9,rfl,hf9,ht9⟩,E8⟩;refine aa (cy (l:=[(0,.tmp 8)]) (p0 _ _ _ _ _ _ _ _ _ _ _ _ _ _ _ _ _ _ _ _ _ _ _ _ _ _ _ _ _ _ _ _ _ _)) (bZ (v:=.agg _) rfl ?_);intro b10 w5 E10 hb10 hk10
 have h11:aZ wb Z w5 111 b10 ⟨s,[]⟩:=by
  rw [hZ,hw9];exact rT E8 hf9 ht9 E10 hb10 (show Blk _ b10 111 (rfV s a9++[Value.slice none 0 0]).toArray from hk10)
 rw [←hw9] at hB9 hk2b hlt2;have stB:∀ {w':World} {p:Sp},aZ wb Z w' 111 b10 p→ah w w':=fun h=>hB9.next (jW (by rw [hZ] at h;exact h))
 have hzB:=hB9.size;have hz2:Z b2:=by rw [hZ];exact hlt2
 have hzw:∀ k,k<w.heap.size→Z k:=fun k hk=>by rw [hZ];exact Nat.lt_of_lt_of_le hk hzB
 rw [←hw9] at hk3b hk4b hlt3 hlt4;have hz3:Z b3:=by rw [hZ];exact hlt3
 have hz4:Z b4:=by rw [hZ];exact hlt4
 refine asp rfl (ai (ag (ak (af (mvp rfl (aa (aD (cs:=bH m) bh aU rfl (((h11.kept hz3 hk3b).from_ ah.rfl_).whole)) (az ui (htk wb Z b10 _ (h11.from_ ah.rfl_) (he.from_ (((((ah.rfl_.next E2).next E3).next E4).next E8).next E10)) (he.ez hzw)) ?_)))))));rintro v13 w6 ⟨rfl,h12⟩;have hT:aZ wb Z w6 111 b10 (cT s m):=h12;obtain ⟨tgX,aX,OX,ocX,LX,hsX⟩:=hT.ex;have hBq:ah w w6:=stB hT;have hk4d:=hT.kept hz4 hk4b;have hn4:b10≠b4:=fun e=>by have h1:=hsX.z b4 hz4;rw [←e,hsX.gc] at h1;cases h1
 refine ai (ag (ak ?_));have hU7:k9 [(0,14,.pointer (some ⟨b10,0,none⟩)),(1,15,.pointer (some ⟨b10,0,none⟩)),(2,16,.pointer (some ⟨b10,0+0,none⟩)),(3,17,.agg (rfV (cT s m).s aX).toArray),(4,18,.pointer (some ⟨b10,0,none⟩)),(5,19,.pointer (some ⟨b10,0,none⟩)),(6,20,.pointer (some ⟨b10,0+22,none⟩)),(7,21,.slice OX LX.length ocX),(9,5,.slice OX LX.length ocX)]:=by simp [k9]
 refine mL [(0,14,.pointer (some ⟨b10,0,none⟩)),(1,15,.pointer (some ⟨b10,0,none⟩)),(2,16,.pointer (some ⟨b10,0+0,none⟩)),(3,17,.agg (rfV (cT s m).s aX).toArray),(4,18,.pointer (some ⟨b10,0,none⟩)),(5,19,.pointer (some ⟨b10,0,none⟩)),(6,20,.pointer (some ⟨b10,0+22,none⟩)),(7,21,.slice OX LX.length ocX),(9,5,.slice OX LX.length ocX)] (fun S w'=>Blk w' b10 111 ((rfV (cT s m).s aX)++[Value.slice OX LX.length ocX]).toArray∧(∃ cs:Array Value,cs.size=22∧Blk w' b4 29 cs∧(S 8=true→cs=(rfV (cT s m).s aX).toArray))∧Chg (fun k=>k=b4) w6 w') (by kernel_rfl) (by kernel_rfl) hU7 (by simp) (⟨(hsX.b.from_ ah.rfl_).from_ ah.rfl_.d1,⟨_,rfl,(hk4d.from_ ah.rfl_).from_ ah.rfl_.d1,fun h=>(by cases h)⟩,ah.rfl_.d1.toChg⟩) ?_ ?_
 ·constructor
  ·rintro S L' wS hI hM hS0 ⟨-⟩;have e6:=hI.1 6 (by simp);have hM':=hM;obtain ⟨hgB,⟨cs9,hs9z,hq9,hqe⟩,hC9⟩:=hM';exact b0 (aK e6) ⟨hI.put hU7 (.head _),hM⟩
  constructor
  ·rintro S L' wS hI hM hS0 ⟨d0,-⟩;have e14:bI L' 14=.pointer (some ⟨b10,0,none⟩):=hI.get (i:=0) (.head _) d0;have hM':=hM;obtain ⟨hgB,⟨cs9,hs9z,hq9,hqe⟩,hC9⟩:=hM';exact b0 (aw e14) ⟨hI.put hU7 (.tail _ (.head _)),hM⟩
  constructor
  ·rintro S L' wS hI hM hS0 ⟨d1,-⟩;have e15:bI L' 15=.pointer (some ⟨b10,0,none⟩):=hI.get (i:=1) (.tail _ (.head _)) d1;have hM':=hM;obtain ⟨hgB,⟨cs9,hs9z,hq9,hqe⟩,hC9⟩:=hM';exact b0 (ab br e15) ⟨hI.put hU7 (gM 2 rfl),hM⟩
  constructor
  ·rintro S L' wS hI hM hS0 ⟨d2,-⟩;have e16:bI L' 16=.pointer (some ⟨b10,0+0,none⟩):=hI.get (i:=2) (gM 2 rfl) d2;have hM':=hM;obtain ⟨hgB,⟨cs9,hs9z,hq9,hqe⟩,hC9⟩:=hM';exact b0 (aD (cs:=(rfV (cT s m).s aX)) aP aF e16 (ng hgB)) ⟨hI.put hU7 (gM 3 rfl),hM⟩
  constructor
  ·rintro S L' wS hI hM hS0 ⟨-,-⟩;have e6:=hI.1 6 (by simp);have hM':=hM;obtain ⟨hgB,⟨cs9,hs9z,hq9,hqe⟩,hC9⟩:=hM';exact b0 (aK e6) ⟨hI.put hU7 (gM 4 rfl),hM⟩
  constructor
  ·rintro S L' wS hI hM hS0 ⟨d4,-,-⟩;have e18:bI L' 18=.pointer (some ⟨b10,0,none⟩):=hI.get (i:=4) (gM 4 rfl) d4;have hM':=hM;obtain ⟨hgB,⟨cs9,hs9z,hq9,hqe⟩,hC9⟩:=hM';exact b0 (aw e18) ⟨hI.put hU7 (gM 5 rfl),hM⟩
  constructor
  ·rintro S L' wS hI hM hS0 ⟨d5,-,-⟩;have e19:bI L' 19=.pointer (some ⟨b10,0,none⟩):=hI.get (i:=5) (gM 5 rfl) d5;have hM':=hM;obtain ⟨hgB,⟨cs9,hs9z,hq9,hqe⟩,hC9⟩:=hM';exact b0 (ab jU e19) ⟨hI.put hU7 (gM 6 rfl),hM⟩
  constructor
  ·rintro S L' wS hI hM hS0 ⟨d6,-,-⟩;have e20:bI L' 20=.pointer (some ⟨b10,0+22,none⟩):=hI.get (i:=6) (gM 6 rfl) d6;have hM':=hM;obtain ⟨hgB,⟨cs9,hs9z,hq9,hqe⟩,hC9⟩:=hM';exact b0 (ar jA e20 (by exact (show _=some (Value.slice OX LX.length ocX) from hgB.rd 22 rfl))) ⟨hI.put hU7 (gM 7 rfl),hM⟩
  constructor
  ·rintro S L' wS hI hM hS0 ⟨d3,d0,d1,d2,d3,-,-,-,-,-⟩;have e4:=hI.1 4 (by simp);have e17:bI L' 17=.agg (rfV (cT s m).s aX).toArray:=hI.get (i:=3) (gM 3 rfl) d3;have hM':=hM;obtain ⟨hgB,⟨cs9,hs9z,hq9,hqe⟩,hC9⟩:=hM';obtain ⟨w2,hR,hO,hb⟩:=ly (n:=22) (L:=L') (x:=.tmp 4) (y:=.tmp 17) (vs:=(rfV (cT s m).s aX)) aF e4 e17 (by simp [rfV,Value.oneCell']) hq9 (by rw [hs9z];rfl);exact gO hR ⟨hI.skip (by simp),hgB.only hO hn4,⟨_,rfl,hb,fun _=>rfl⟩,hC9.next (hO.toChg rfl)⟩
  constructor
  ·rintro S L' wS hI hM hS0 ⟨d7,d8,d0,d1,d2,d3,d4,d5,d6,d7,d8,-⟩;have e21:bI L' 21=.slice OX LX.length ocX:=hI.get (i:=7) (gM 7 rfl) d7;have hM':=hM;obtain ⟨hgB,⟨cs9,hs9z,hq9,hqe⟩,hC9⟩:=hM';exact b0 (dt e21) ⟨hI.put hU7 (gM 8 rfl),hM⟩
  exact trivial
 ·intro w8 hM;obtain ⟨hgB,⟨cs9,hs9z,hq9,hqe⟩,hC9⟩:=hM;have hqe:=hqe rfl;subst hqe;refine ag (aC (o5 rfl (cL (cs:=[_,_,_,_,_,_,_,_,_,_,_,_,_,_,_,_,_,_,_,_,_,_]) aP aF rfl (by exact hq9.whole)) (da (v:=.slice _ _ _) rfl) ?_));exact ⟨⟨tgX,aX,OX,ocX,LX,rfl,u7.mk_ hsX hzw (hC9.wide (fun k hk=>.inl (by rw [show k=b4 from hk];exact hz4)))⟩,(hBq.chg hC9 (fun k hk=>by rw [show k=b4 from hk];exact hg4))⟩
end Go.Proofs.YtkpooenofjdpmaaGreat
