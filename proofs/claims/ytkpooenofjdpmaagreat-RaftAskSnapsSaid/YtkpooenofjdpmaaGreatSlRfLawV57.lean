/- texts that the claim stands on. -/
import Derived.Test.YtkpooenofjdpmaaGreatSlRfLawV56

set_option maxRecDepth 100000
set_option maxHeartbeats 4000000
namespace Go.Proofs.YtkpooenofjdpmaaGreat
open Go.Proofs.Tryz (prog)
open Go.RowKit
open Go.ChangeShapes Go.WideShapes Go.ChangeAt
theorem jV:∀ (a0:Int),prog.built 39 [(0,.int .i64 2),(2,.int .i64 a0)]=some #[.int .i64 2,.int .i64 0,.int .i64 a0,.int .i64 0,.int .i64 0,.int .i64 0,.int .i64 0,.int .i64 0,.bool false,.slice none 0 0,.int .i64 0,.string ⟨#[]⟩,.bool false]:=by intros;kernel_rfl
theorem gr:∀ (a0:Int) (a1:Int),prog.built 39 [(0,.int .i64 4),(2,.int .i64 a0),(7,.int .i64 a1)]=some #[.int .i64 4,.int .i64 0,.int .i64 a0,.int .i64 0,.int .i64 0,.int .i64 0,.int .i64 0,.int .i64 a1,.bool false,.slice none 0 0,.int .i64 0,.string ⟨#[]⟩,.bool false]:=by intros;kernel_rfl
theorem yw (w0:World) (Z:Nat→Prop) (T g:Nat) (s:Rf) (m:Msg) (w:World) (h:aR w0 Z w T g ⟨s,[]⟩) (hgt:m.tm<s.term) :
 Rt prog 89 [.pointer (some ⟨g,0,none⟩),.agg (bC m).toArray] w (fun v w'=>v=.tuple #[]∧aR w0 Z w' T g (cS s m)):=by
 refine enter (n:=169) Tryz.func89 rfl rfl rfl (ao (ah (bZ (v:=.agg _) rfl ?_)));intro b3 w1 E3 hb3 hk3;obtain ⟨wm,hwm⟩:∃ x,x=w1:=⟨_,rfl⟩
 have h3a:=h.at_ (Z':=fun k=>Z k∨k=b3) E3 (fun k hk=>by
  rcases hk with e | e
  ·exact ⟨Nat.lt_of_lt_of_le (h.zw k e) E3.size,.inl e⟩
  ·subst e;exact ⟨hk3.lt,.inr (by omega)⟩)
 obtain ⟨Z7,hZ7⟩:∃ Z7,Z7=fun k=>Z k∨k=b3:=⟨_,rfl⟩
 have h3:aR wm Z7 w1 T g ⟨s,[]⟩:=by
  rw [hZ7,hwm];exact h3a
 have hzi:∀ k,Z k→Z7 k:=fun k hk=>by rw [hZ7];exact .inl hk
 have hzb:Z7 b3:=by rw [hZ7];exact .inr rfl
 have hE3:ag w wm:=by rw [hwm];exact E3
 have hm9:Blk wm b3 39 (bC m).toArray:=by rw [hwm];exact hk3
 have hm3:=h3.kept hzb hm9;refine an (ai (ao (ao ?_)))
 skip
 apply bK 8 [(5,eqp _),(6,eqp (.int .i64 m.tm)),(7,eqp _),(8,eqp _),(9,eqp _),(10,eqp _),(11,eqp (.int .i64 s.term)),(12,eqp _)] (by repeat first | exact ct | refine cr ?_ | refine bX ?_) (by kernel_rfl) (by kernel_rfl) ⟨aj _,aj _,aj _,aj _,aj _,aj _,aj _,aj _,trivial⟩
 case hop=>
  constructor
  ·rintro-w3 D3;exact au (aa bI rfl) rfl
  constructor
  ·rintro-w4 D4;rintro _ rfl;exact au (ar ak rfl (by exact (show _=some (Value.int .i64 m.tm) from (hm3.from_ (ag.rfl_.next D4)).rd 3 rfl))) rfl
  constructor
  ·rintro-w5 D5;exact au (aF (v:=.pointer _) rfl) rfl
  constructor
  ·rintro-w6 D6;rintro _ rfl;exact au (av rfl) rfl
  constructor
  ·rintro-w7 D7;rintro _ rfl;exact au (aa aN rfl) rfl
  constructor
  ·rintro-w8 D8;rintro _ rfl;exact au (aa bH rfl) rfl
  constructor
  ·rintro-w9 D9;rintro _ rfl;exact au (ar ak rfl (by exact (show _=some (Value.int .i64 s.term) from (h3.from_ (ag.rfl_.next D9)).rd (fun _=>rfl)))) rfl
  constructor
  ·rintro-w10 D10;rintro v10_6 rfl v10_11 rfl;exact au (cu (cq rfl rfl) (decide_eq_false (by omega))) rfl
  exact trivial
 case hend=>
  intro w11 D11;rintro _ rfl v6 rfl _ rfl _ rfl _ rfl _ rfl v11 rfl _ rfl;show St ..;refine an (ai (bg rfl (aO (ai (ao (ao ?_))))))
  skip
  apply bK 8 [(17,eqp _),(18,eqp (.int .i64 m.tm)),(19,eqp _),(20,eqp _),(21,eqp _),(22,eqp _),(23,eqp (.int .i64 s.term)),(24,eqp _)] (by repeat first | exact ct | refine cr ?_ | refine bX ?_) (by kernel_rfl) (by kernel_rfl) ⟨aj _,aj _,aj _,aj _,aj _,aj _,aj _,aj _,trivial⟩
  case hop=>
   constructor
   ·rintro-w13 D13;exact au (aa bI rfl) rfl
   constructor
   ·rintro-w14 D14;rintro _ rfl;exact au (ar ak rfl (by exact (show _=some (Value.int .i64 m.tm) from ((h3.kept hzb hm9).from_ ((ag.rfl_.next D11).next D14)).rd 3 rfl))) rfl
   constructor
   ·rintro-w15 D15;exact au (aF (v:=.pointer _) rfl) rfl
   constructor
   ·rintro-w16 D16;rintro _ rfl;exact au (av rfl) rfl
   constructor
   ·rintro-w17 D17;rintro _ rfl;exact au (aa aN rfl) rfl
   constructor
   ·rintro-w18 D18;rintro _ rfl;exact au (aa bH rfl) rfl
   constructor
   ·rintro-w19 D19;rintro _ rfl;exact au (ar ak rfl (by exact (show _=some (Value.int .i64 s.term) from (h3.from_ ((ag.rfl_.next D11).next D19)).rd (fun _=>rfl)))) rfl
   constructor
   ·rintro-w20 D20;rintro v20_18 rfl v20_23 rfl;exact au (c6 (ch rfl rfl) (decide_eq_true hgt)) rfl
   exact trivial
  case hend=>
   intro w21 D21;rintro _ rfl v18 rfl _ rfl _ rfl _ rfl _ rfl v23 rfl _ rfl;show St ..;refine an (ai (aZ rfl (ao (ao (ah (ab (aa cH rfl) (ab (ar ak rfl (by exact (show _=some (Value.int .i64 m.k) from ((h3.kept hzb hm9).from_ ((ag.rfl_.next D11).next D21)).rd 0 rfl))) ?_)))))));refine an (ai (bk (ao (ah (ab (bf rfl rfl) (asb rfl (an (ai (AS rfl (fun Q22=>?_) (fun Q22=>?_))))))))))
   ·refine ah (mvp rfl (ab (aa bY rfl) (ab (ar ak rfl (by exact (show _=some (Value.int .i64 m.f) from ((h3.kept hzb hm9).from_ ((ag.rfl_.next D11).next D21)).rd 1 rfl))) ?_)));refine ab (cl (l:=[(0,.const (.int .i64 2)),(2,.tmp 31)]) (jV _)) (eS (t:=32) (v:=.agg _) (v':=.agg (bC ({ zM with k:=2,t:=m.f }:Msg)).toArray) rfl (by rfl) ?_);have h7:=h3.from_ ((ag.rfl_.next D11).next D21);obtain ⟨tgA,aA,OA,ocA,LA,hsA⟩:=h7.ex;obtain rfl:=hsA.nilL;refine aC fO (gH wm Z7 T g ⟨s,[]⟩ _ h7 _ _ _ _ _ hsA (Nat.zero_le _) ({ zM with k:=2,t:=m.f }:Msg) ⟨du,Col.none⟩) ?_;rintro v33 w23 ⟨rfl,h6⟩;refine an (bN (ai (aE (aG (eg rfl ?_)))));rw [kA hgt];unfold gj
    first
     |(rw [if_pos (show m.k=1 by omega)];exact ⟨rfl,h.back hE3 (h6.from_ ag.rfl_) hzi⟩)
     |(rw [if_neg (show ¬ m.k=1 by omega),if_pos (show m.k=3∨m.k=5 by omega)];exact ⟨rfl,h.back hE3 (h6.from_ ag.rfl_) hzi⟩)
     |(rw [if_neg (show ¬ m.k=1 by omega),if_neg (show ¬ (m.k=3∨m.k=5) by omega)];exact ⟨rfl,h.back hE3 (h3.from_ ag.rfl_) hzi⟩)
   refine ao (ao (ah (ab (bf rfl rfl) (asb rfl (an (ai (AS rfl (fun Q24=>?_) (fun Q24=>?_))))))))
   ·refine aO (ai (AS rfl (fun Q25=>?_) (fun Q25=>?_)));rotate_left
    ·exfalso;omega
    refine ah (mvp rfl (ab (aa bY rfl) (ab (ar ak rfl (by exact (show _=some (Value.int .i64 m.f) from ((h3.kept hzb hm9).from_ ((ag.rfl_.next D11).next D21)).rd 1 rfl))) ?_)));refine ab (aa dk rfl) (ab (ar ak rfl (by exact (show _=some (Value.int .i64 m.rd) from ((h3.kept hzb hm9).from_ ((ag.rfl_.next D11).next D21)).rd 7 rfl))) ?_);refine ab (cl (l:=[(0,.const (.int .i64 4)),(2,.tmp 39),(7,.tmp 41)]) (gr _ _)) (eS (t:=42) (v:=.agg _) (v':=.agg (bC ({ zM with k:=4,t:=m.f,rd:=m.rd }:Msg)).toArray) rfl (by rfl) ?_);have h7:=h3.from_ ((ag.rfl_.next D11).next D21);obtain ⟨tgA,aA,OA,ocA,LA,hsA⟩:=h7.ex;obtain rfl:=hsA.nilL;refine aC fO (gH wm Z7 T g ⟨s,[]⟩ _ h7 _ _ _ _ _ hsA (Nat.zero_le _) ({ zM with k:=4,t:=m.f,rd:=m.rd }:Msg) ⟨du,Col.none⟩) ?_;rintro v43 w26 ⟨rfl,h6⟩;refine an (bN (ai (aE (aG (eg rfl ?_)))));rw [kA hgt];unfold gj
    first
     |(rw [if_pos (show m.k=1 by omega)];exact ⟨rfl,h.back hE3 (h6.from_ ag.rfl_) hzi⟩)
     |(rw [if_neg (show ¬ m.k=1 by omega),if_pos (show m.k=3∨m.k=5 by omega)];exact ⟨rfl,h.back hE3 (h6.from_ ag.rfl_) hzi⟩)
     |(rw [if_neg (show ¬ m.k=1 by omega),if_neg (show ¬ (m.k=3∨m.k=5) by omega)];exact ⟨rfl,h.back hE3 (h3.from_ ag.rfl_) hzi⟩)
   refine ah (ab (bf rfl rfl) (asb rfl (an (ai (AS rfl (fun Q27=>?_) (fun Q27=>?_))))))
   ·refine ah (mvp rfl (ab (aa bY rfl) (ab (ar ak rfl (by exact (show _=some (Value.int .i64 m.f) from ((h3.kept hzb hm9).from_ ((ag.rfl_.next D11).next D21)).rd 1 rfl))) ?_)));refine ab (aa dk rfl) (ab (ar ak rfl (by exact (show _=some (Value.int .i64 m.rd) from ((h3.kept hzb hm9).from_ ((ag.rfl_.next D11).next D21)).rd 7 rfl))) ?_);refine ab (cl (l:=[(0,.const (.int .i64 4)),(2,.tmp 39),(7,.tmp 41)]) (gr _ _)) (eS (t:=42) (v:=.agg _) (v':=.agg (bC ({ zM with k:=4,t:=m.f,rd:=m.rd }:Msg)).toArray) rfl (by rfl) ?_);have h7:=h3.from_ ((ag.rfl_.next D11).next D21);obtain ⟨tgA,aA,OA,ocA,LA,hsA⟩:=h7.ex;obtain rfl:=hsA.nilL;refine aC fO (gH wm Z7 T g ⟨s,[]⟩ _ h7 _ _ _ _ _ hsA (Nat.zero_le _) ({ zM with k:=4,t:=m.f,rd:=m.rd }:Msg) ⟨du,Col.none⟩) ?_;rintro v43 w28 ⟨rfl,h6⟩;refine an (bN (ai (aE (aG (eg rfl ?_)))));rw [kA hgt];unfold gj
    first
     |(rw [if_pos (show m.k=1 by omega)];exact ⟨rfl,h.back hE3 (h6.from_ ag.rfl_) hzi⟩)
     |(rw [if_neg (show ¬ m.k=1 by omega),if_pos (show m.k=3∨m.k=5 by omega)];exact ⟨rfl,h.back hE3 (h6.from_ ag.rfl_) hzi⟩)
     |(rw [if_neg (show ¬ m.k=1 by omega),if_neg (show ¬ (m.k=3∨m.k=5) by omega)];exact ⟨rfl,h.back hE3 (h3.from_ ag.rfl_) hzi⟩)
   refine aO (bN (ai (aE (aG (eg rfl ?_)))));rw [kA hgt];unfold gj
   first
    |(rw [if_pos (show m.k=1 by omega)];exact ⟨rfl,h.back hE3 (h6.from_ ((ag.rfl_.next D11).next D21)) hzi⟩)
    |(rw [if_neg (show ¬ m.k=1 by omega),if_pos (show m.k=3∨m.k=5 by omega)];exact ⟨rfl,h.back hE3 (h6.from_ ((ag.rfl_.next D11).next D21)) hzi⟩)
    |(rw [if_neg (show ¬ m.k=1 by omega),if_neg (show ¬ (m.k=3∨m.k=5) by omega)];exact ⟨rfl,h.back hE3 (h3.from_ ((ag.rfl_.next D11).next D21)) hzi⟩)
theorem mn:aQ prog 103=true:=by kernel_rfl
theorem kh:aQ prog 124=true:=by kernel_rfl
theorem ml:aQ prog 128=true:=by kernel_rfl
theorem k0 {s:Rf} {m:Msg} (h:s.term=m.tm) (hk:m.k=3∨m.k=5):cS s m=nt s m:=by
 unfold cS;simp only;rw [if_neg (show ¬ s.term<m.tm by omega),if_neg (show ¬ m.tm<s.term by omega),if_neg (by omega),if_neg (by omega),if_pos hk]
theorem yu (w0:World) (Z:Nat→Prop) (T g:Nat) (s:Rf) (m:Msg) (w:World) (h:aR w0 Z w T g ⟨s,[]⟩) (hF:RfF s) (_:m.tm≤1099511627775) (hk:m.k=5) (hf:1≤m.f∧m.f≤s.nodes) (hix:m.ix≤1099511625728) (hdz:m.d.size≤1024) (hgt:s.term=m.tm) :
 Rt prog 58 [.pointer (some ⟨g,0,none⟩),.agg (bC m).toArray] w (fun v w'=>v=.tuple #[]∧aR w0 Z w' T g (cS s m)):=by
 refine enter (n:=55) Tryz.func58 rfl rfl rfl (ao (ah (bZ (v:=.agg _) rfl ?_)));intro b3 w1 E3 hb3 hk3;obtain ⟨wm,hwm⟩:∃ x,x=w1:=⟨_,rfl⟩
 have h3a:=h.at_ (Z':=fun k=>Z k∨k=b3) E3 (fun k hk=>by
  rcases hk with e | e
  ·exact ⟨Nat.lt_of_lt_of_le (h.zw k e) E3.size,.inl e⟩
  ·subst e;exact ⟨hk3.lt,.inr (by omega)⟩)
 obtain ⟨Z7,hZ7⟩:∃ Z7,Z7=fun k=>Z k∨k=b3:=⟨_,rfl⟩
 have h3:aR wm Z7 w1 T g ⟨s,[]⟩:=by
  rw [hZ7,hwm];exact h3a
 have hzi:∀ k,Z k→Z7 k:=fun k hk=>by rw [hZ7];exact .inl hk
 have hzb:Z7 b3:=by rw [hZ7];exact .inr rfl
 have hE3:ag w wm:=by rw [hwm];exact E3
 have hm9:Blk wm b3 39 (bC m).toArray:=by rw [hwm];exact hk3
 have hm3:=h3.kept hzb hm9;refine an (ai (ao (ao ?_)))
 skip
 apply bK 9 [(4,eqp _),(5,eqp (.int .i64 m.tm)),(6,eqp _),(7,eqp _),(8,eqp _),(9,eqp _),(10,eqp _),(11,eqp (.int .i64 s.term)),(12,eqp _)] (by repeat first | exact ct | refine cr ?_ | refine bX ?_) (by kernel_rfl) (by kernel_rfl) ⟨aj _,aj _,aj _,aj _,aj _,aj _,aj _,aj _,aj _,trivial⟩
 case hop=>
  constructor
  ·rintro-w3 D3;exact au (aa bI rfl) rfl
  constructor
  ·rintro-w4 D4;rintro _ rfl;exact au (ar ak rfl (by exact (show _=some (Value.int .i64 m.tm) from (hm3.from_ (ag.rfl_.next D4)).rd 3 rfl))) rfl
  constructor
  ·rintro-w5 D5;exact au (aF (v:=.pointer _) rfl) rfl
  constructor
  ·rintro-w6 D6;rintro _ rfl;exact au (av rfl) rfl
  constructor
  ·rintro-w7 D7;rintro _ rfl;exact au (aa aD rfl) rfl
  constructor
  ·rintro-w8 D8;rintro _ rfl;exact au (aa aB rfl) rfl
  constructor
  ·rintro-w9 D9;rintro _ rfl;exact au (aa bH rfl) rfl
  constructor
  ·rintro-w10 D10;rintro _ rfl;exact au (ar ak rfl (by exact (show _=some (Value.int .i64 s.term) from (h3.from_ (ag.rfl_.next D10)).rd (fun _=>rfl)))) rfl
  constructor
  ·rintro-w11 D11;rintro v11_5 rfl v11_11 rfl;exact au (cu (cq rfl rfl) (decide_eq_false (by omega))) rfl
  exact trivial
 case hend=>
  intro w12 D12;rintro _ rfl v5 rfl _ rfl _ rfl _ rfl _ rfl _ rfl v11 rfl _ rfl;show St ..;refine an (ai (bg rfl (aO (ai (ao (ao ?_))))))
  skip
  apply bK 9 [(19,eqp _),(20,eqp (.int .i64 m.tm)),(21,eqp _),(22,eqp _),(23,eqp _),(24,eqp _),(25,eqp _),(26,eqp (.int .i64 s.term)),(27,eqp _)] (by repeat first | exact ct | refine cr ?_ | refine bX ?_) (by kernel_rfl) (by kernel_rfl) ⟨aj _,aj _,aj _,aj _,aj _,aj _,aj _,aj _,aj _,trivial⟩
  case hop=>
   constructor
   ·rintro-w14 D14;exact au (aa bI rfl) rfl
   constructor
   ·rintro-w15 D15;rintro _ rfl;exact au (ar ak rfl (by exact (show _=some (Value.int .i64 m.tm) from ((h3.kept hzb hm9).from_ ((ag.rfl_.next D12).next D15)).rd 3 rfl))) rfl
   constructor
   ·rintro-w16 D16;exact au (aF (v:=.pointer _) rfl) rfl
   constructor
   ·rintro-w17 D17;rintro _ rfl;exact au (av rfl) rfl
   constructor
   ·rintro-w18 D18;rintro _ rfl;exact au (aa aD rfl) rfl
   constructor
   ·rintro-w19 D19;rintro _ rfl;exact au (aa aB rfl) rfl
   constructor
   ·rintro-w20 D20;rintro _ rfl;exact au (aa bH rfl) rfl
   constructor
   ·rintro-w21 D21;rintro _ rfl;exact au (ar ak rfl (by exact (show _=some (Value.int .i64 s.term) from (h3.from_ ((ag.rfl_.next D12).next D21)).rd (fun _=>rfl)))) rfl
   constructor
   ·rintro-w22 D22;rintro v22_20 rfl v22_26 rfl;exact au (cu (ch rfl rfl) (decide_eq_false (by have:=fG s m.tm;omega))) rfl
   exact trivial
  case hend=>
   intro w23 D23;rintro _ rfl v20 rfl _ rfl _ rfl _ rfl _ rfl _ rfl v26 rfl _ rfl;show St ..;refine an (ai (bg rfl (aO (ai (ao (ah (ab (aa cH rfl) (ab (ar ak rfl (by exact (show _=some (Value.int .i64 m.k) from ((h3.kept hzb hm9).from_ ((ag.rfl_.next D12).next D23)).rd 0 rfl))) ?_))))))));refine an (ai (bk (ao (ah (ab (cu (bf rfl rfl) (beq_eq_false_iff_ne.2 (by omega))) (asb rfl (an (ai (bg rfl (ao (ah (ab (cu (bf rfl rfl) (beq_eq_false_iff_ne.2 (by omega))) (asb rfl (an (ai ?_)))))))))))))));refine bg rfl (ao (ao (ah (ab (cu (bf rfl rfl) (beq_eq_false_iff_ne.2 (by omega))) (asb rfl (an (ai (bg rfl (ah (ab (c6 (bf rfl rfl) (beq_iff_eq.2 hk)) (asb rfl ?_)))))))))));refine an (ai (aZ rfl (ah (mvp rfl (ab (aH (cs:=bC m) bj aY rfl (((h3.kept hzb hm9).from_ ((ag.rfl_.next D12).next D23)).whole)) (aC mn (uP wm Z7 T g s m _ (h3.from_ ((ag.rfl_.next D12).next D23)) hF hf hk hix hdz) ?_))))));rintro v48 w24 ⟨rfl,h6⟩;refine an (bN (da (eg rfl ?_)));rw [k0 (by omega) (by omega)];exact ⟨rfl,h.back hE3 (h6.from_ ag.rfl_) hzi⟩
theorem yr (w0:World) (Z:Nat→Prop) (T g:Nat) (s:Rf) (m:Msg) (w:World) (h:aR w0 Z w T g ⟨s,[]⟩) (hF:RfF s) (ht:m.tm≤1099511627775) (hk:m.k=5) (hf:1≤m.f∧m.f≤s.nodes) (hix:m.ix≤1099511625728) (hdz:m.d.size≤1024) (hgt:s.term<m.tm) :
 Rt prog 58 [.pointer (some ⟨g,0,none⟩),.agg (bC m).toArray] w (fun v w'=>v=.tuple #[]∧aR w0 Z w' T g (cS s m)):=by
 have hFf:RfF (cJ s m.tm):=hF.falls ht;have hf9:1≤m.f∧m.f≤(cJ s m.tm).nodes:=by rw [(h_ s m.tm).2.2.2.2.1];exact hf
 refine enter (n:=55) Tryz.func58 rfl rfl rfl (ao (ah (bZ (v:=.agg _) rfl ?_)));intro b3 w1 E3 hb3 hk3;obtain ⟨wm,hwm⟩:∃ x,x=w1:=⟨_,rfl⟩
 have h3a:=h.at_ (Z':=fun k=>Z k∨k=b3) E3 (fun k hk=>by
  rcases hk with e | e
  ·exact ⟨Nat.lt_of_lt_of_le (h.zw k e) E3.size,.inl e⟩
  ·subst e;exact ⟨hk3.lt,.inr (by omega)⟩)
 obtain ⟨Z7,hZ7⟩:∃ Z7,Z7=fun k=>Z k∨k=b3:=⟨_,rfl⟩
 have h3:aR wm Z7 w1 T g ⟨s,[]⟩:=by
  rw [hZ7,hwm];exact h3a
 have hzi:∀ k,Z k→Z7 k:=fun k hk=>by rw [hZ7];exact .inl hk
 have hzb:Z7 b3:=by rw [hZ7];exact .inr rfl
 have hE3:ag w wm:=by rw [hwm];exact E3
 have hm9:Blk wm b3 39 (bC m).toArray:=by rw [hwm];exact hk3
 have hm3:=h3.kept hzb hm9;refine an (ai (ao (ao ?_)))
 skip
 apply bK 9 [(4,eqp _),(5,eqp (.int .i64 m.tm)),(6,eqp _),(7,eqp _),(8,eqp _),(9,eqp _),(10,eqp _),(11,eqp (.int .i64 s.term)),(12,eqp _)] (by repeat first | exact ct | refine cr ?_ | refine bX ?_) (by kernel_rfl) (by kernel_rfl) ⟨aj _,aj _,aj _,aj _,aj _,aj _,aj _,aj _,aj _,trivial⟩
 case hop=>
  constructor
  ·rintro-w3 D3;exact au (aa bI rfl) rfl
  constructor
  ·rintro-w4 D4;rintro _ rfl;exact au (ar ak rfl (by exact (show _=some (Value.int .i64 m.tm) from (hm3.from_ (ag.rfl_.next D4)).rd 3 rfl))) rfl
  constructor
  ·rintro-w5 D5;exact au (aF (v:=.pointer _) rfl) rfl
  constructor
  ·rintro-w6 D6;rintro _ rfl;exact au (av rfl) rfl
  constructor
  ·rintro-w7 D7;rintro _ rfl;exact au (aa aD rfl) rfl
  constructor
  ·rintro-w8 D8;rintro _ rfl;exact au (aa aB rfl) rfl
  constructor
  ·rintro-w9 D9;rintro _ rfl;exact au (aa bH rfl) rfl
  constructor
  ·rintro-w10 D10;rintro _ rfl;exact au (ar ak rfl (by exact (show _=some (Value.int .i64 s.term) from (h3.from_ (ag.rfl_.next D10)).rd (fun _=>rfl)))) rfl
  constructor
  ·rintro-w11 D11;rintro v11_5 rfl v11_11 rfl;exact au (c6 (cq rfl rfl) (decide_eq_true hgt)) rfl
  exact trivial
 case hend=>
  intro w12 D12;rintro _ rfl v5 rfl _ rfl _ rfl _ rfl _ rfl _ rfl v11 rfl _ rfl;show St ..;refine an (ai (aZ rfl ?_));apply fA [(0,13,fun _ v _=>v=_),(1,14,fun _ v _=>v=_),(2,15,fun _ v _=>v=_),(3,16,fun _ v _=>v=_),(4,17,fun S v w9=>S 5=false→(eqp (.int .i64 m.tm)) v w9),(5,18,fun _ v _=>v=_)] [5] (fun S w'=>(S 5=false→ag w12 w')∧(S 5=true→aR wm Z7 w' T g ⟨cJ s m.tm,[]⟩)) (by kernel_rfl) (by kernel_rfl) rfl rfl ⟨fun _ _ _ _ _ _ _ h=>h,fun _ _ _ _ _ _ _ h=>h,fun _ _ _ _ _ _ _ h=>h,fun _ _ _ _ _ _ _ h=>h,fun S i v w1 w2 hq hF h h0=>(aj _) v w1 w2 hF (h (dY h0)),fun _ _ _ _ _ _ _ h=>h,trivial⟩ (fun S i w1 w2 hq hF h=>⟨fun h0=>(h.1 (dY h0)).next hF,fun h1=>(fun h=>h.from_ hF) (h.2 (jr (show 5≠i by rintro rfl;exact absurd hq (by decide)) h1))⟩) ⟨fun _=>ag.rfl_.d1,fun h=>by cases h⟩
  case hstep=>
   constructor
   ·rintro S L' w13 hU hmo hme hI hM hC hS ⟨-⟩;have hS0:S 5=false:=(af hC (j:=5) rfl (by kernel_rfl) (af hC (j:=2) rfl (by kernel_rfl) (af hC (j:=1) rfl (by kernel_rfl) hS)));have hM13:=hM.1 hS0;have e0:=hI.1 0 (dv rfl);exact az [(0,_)] hU hmo hme hI hM (.head _) rfl rfl (by kernel_rfl) ⟨e0,trivial⟩ (aF (v:=.pointer _) rfl) ag.rfl_ (rfl)
   constructor
   ·rintro S L' w14 hU hmo hme hI hM hC hS ⟨d0,-⟩;have hS0:S 5=false:=(af hC (j:=5) rfl (by kernel_rfl) (af hC (j:=2) rfl (by kernel_rfl) hS));have hM14:=hM.1 hS0;obtain ⟨v14_13,e13,h13⟩:=hI.get (i:=0) (.head _) d0;obtain rfl:=h13;exact az [(13,_)] hU hmo hme hI hM (.tail _ (.head _)) rfl rfl (by kernel_rfl) ⟨e13,trivial⟩ (av rfl) ag.rfl_ (rfl)
   constructor
   ·rintro S L' w15 hU hmo hme hI hM hC hS ⟨d1,-⟩;have hS0:S 5=false:=(af hC (j:=5) rfl (by kernel_rfl) hS);have hM15:=hM.1 hS0;obtain ⟨v15_14,e14,h14⟩:=hI.get (i:=1) (.tail _ (.head _)) d1;obtain rfl:=h14;exact az [(14,_)] hU hmo hme hI hM (gM 2 rfl) rfl rfl (by kernel_rfl) ⟨e14,trivial⟩ (aa aD rfl) ag.rfl_ (rfl)
   constructor
   ·rintro S L' w16 hU hmo hme hI hM hC hS ⟨-⟩;have hS0:S 5=false:=(af hC (j:=5) rfl (by kernel_rfl) (af hC (j:=4) rfl (by kernel_rfl) hS));have hM16:=hM.1 hS0;have e3:=hI.1 3 (dv rfl);exact az [(3,_)] hU hmo hme hI hM (gM 3 rfl) rfl rfl (by kernel_rfl) ⟨e3,trivial⟩ (aa bI rfl) ag.rfl_ (rfl)
   constructor
   ·rintro S L' w17 hU hmo hme hI hM hC hS ⟨d3,-⟩;have hS0:S 5=false:=(af hC (j:=5) rfl (by kernel_rfl) hS);have hM17:=hM.1 hS0;obtain ⟨v17_16,e16,h16⟩:=hI.get (i:=3) (gM 3 rfl) d3;obtain rfl:=h16;exact az [(16,_)] hU hmo hme hI hM (gM 4 rfl) rfl rfl (by kernel_rfl) ⟨e16,trivial⟩ (ar ak rfl (by exact (show _=some (Value.int .i64 m.tm) from (hm3.from_ ((ag.rfl_.next D12).next hM17)).rd 3 rfl))) ag.rfl_ (fun _=>rfl)
   constructor
   ·rintro S L' w18 hU hmo hme hI hM hC hS ⟨d2,d4,-⟩;have hS0:S 5=false:=hS;have hM18:=hM.1 hS0;obtain ⟨v18_15,e15,h15⟩:=hI.get (i:=2) (gM 2 rfl) d2;obtain rfl:=h15;obtain ⟨v18_17,e17,h17⟩:=hI.get (i:=4) (gM 4 rfl) d4;obtain rfl:=h17 hS0;refine dV (al:=[.tmp 15,.tmp 17]) [(15,_),(17,_)] hU hI (gM 5 rfl) (by kernel_rfl) ⟨e15,e17,trivial⟩ lP ((mQ wm Z7 T g ⟨s,[]⟩ _ (h3.from_ ((ag.rfl_.next D12).next hM18)) m.tm).mono ?_);rintro v9 w2 ⟨rfl,hS2⟩;exact ⟨⟨fun h0=>(by rw [dS] at h0;cases h0),fun _=>hS2⟩,rfl,⟨fun _ _ _ h=>h,fun _ _ _ h=>h,fun _ _ _ h=>h,fun _ _ _ h=>h,fun _ _ _ _ h0=>(by rw [dS] at h0;cases h0),fun _ _ _ h=>h,trivial⟩⟩
   exact trivial
  case hend=>
   intro w19 hM;obtain hS9:=hM.2 rfl;rintro v19_13 rfl v19_14 rfl v19_15 rfl v19_16 rfl v19_17-v19_18 rfl;refine ef (ai (ao (ao ?_)))
   skip
   apply bK 9 [(19,eqp _),(20,eqp (.int .i64 m.tm)),(21,eqp _),(22,eqp _),(23,eqp _),(24,eqp _),(25,eqp _),(26,eqp (.int .i64 (cJ s m.tm).term)),(27,eqp _)] (by repeat first | exact ct | refine cr ?_ | refine bX ?_) (by kernel_rfl) (by kernel_rfl) ⟨aj _,aj _,aj _,aj _,aj _,aj _,aj _,aj _,aj _,trivial⟩
   case hop=>
    constructor
    ·rintro-w21 D21;exact au (aa bI rfl) rfl
    constructor
    ·rintro-w22 D22;rintro _ rfl;exact au (ar ak rfl (by exact (show _=some (Value.int .i64 m.tm) from ((hS9.kept hzb hm9).from_ (ag.rfl_.next D22)).rd 3 rfl))) rfl
    constructor
    ·rintro-w23 D23;exact au (aF (v:=.pointer _) rfl) rfl
    constructor
    ·rintro-w24 D24;rintro _ rfl;exact au (av rfl) rfl
    constructor
    ·rintro-w25 D25;rintro _ rfl;exact au (aa aD rfl) rfl
    constructor
    ·rintro-w26 D26;rintro _ rfl;exact au (aa aB rfl) rfl
    constructor
    ·rintro-w27 D27;rintro _ rfl;exact au (aa bH rfl) rfl
    constructor
    ·rintro-w28 D28;rintro _ rfl;exact au (ar ak rfl (by exact (show _=some (Value.int .i64 (cJ s m.tm).term) from (hS9.from_ (ag.rfl_.next D28)).rd (fun _=>rfl)))) rfl
    constructor
    ·rintro-w29 D29;rintro v29_20 rfl v29_26 rfl;exact au (cu (ch rfl rfl) (decide_eq_false (by have:=fG s m.tm;omega))) rfl
    exact trivial
   case hend=>
    intro w30 D30;rintro _ rfl v20 rfl _ rfl _ rfl _ rfl _ rfl _ rfl v26 rfl _ rfl;show St ..;refine an (ai (bg rfl (aO (ai (ao (ah (ab (aa cH rfl) (ab (ar ak rfl (by exact (show _=some (Value.int .i64 m.k) from ((hS9.kept hzb hm9).from_ (ag.rfl_.next D30)).rd 0 rfl))) ?_))))))));refine an (ai (bk (ao (ah (ab (cu (bf rfl rfl) (beq_eq_false_iff_ne.2 (by omega))) (asb rfl (an (ai (bg rfl (ao (ah (ab (cu (bf rfl rfl) (beq_eq_false_iff_ne.2 (by omega))) (asb rfl (an (ai ?_)))))))))))))));refine bg rfl (ao (ao (ah (ab (cu (bf rfl rfl) (beq_eq_false_iff_ne.2 (by omega))) (asb rfl (an (ai (bg rfl (ah (ab (c6 (bf rfl rfl) (beq_iff_eq.2 hk)) (asb rfl ?_)))))))))));refine an (ai (aZ rfl (ah (mvp rfl (ab (aH (cs:=bC m) bj aY rfl (((hS9.kept hzb hm9).from_ (ag.rfl_.next D30)).whole)) (aC mn (uP wm Z7 T g (cJ s m.tm) m _ (hS9.from_ (ag.rfl_.next D30)) hFf hf9 hk hix hdz) ?_))))));rintro v48 w31 ⟨rfl,h6⟩;refine an (bN (da (eg rfl ?_)));rw [og hgt,k0 (by have:=fG s m.tm;omega) (by omega)];exact ⟨rfl,h.back hE3 (h6.from_ ag.rfl_) hzi⟩
theorem uw (w0:World) (Z:Nat→Prop) (T g:Nat) (s:Rf) (m:Msg) (w:World) (h:aR w0 Z w T g ⟨s,[]⟩) (hF:RfF s) (ht:m.tm≤1099511627775) (hk:m.k=5) (hf:1≤m.f∧m.f≤s.nodes) (hix:m.ix≤1099511625728) (hdz:m.d.size≤1024):Rt prog 58 [.pointer (some ⟨g,0,none⟩),.agg (bC m).toArray] w fun v w'=>v=.tuple #[]∧aR w0 Z w' T g (cS s m):=by
 rcases Int.lt_trichotomy m.tm s.term with h1 | h1 | h1
 ·exact zA w0 Z T g s m w h h1
 ·exact yu w0 Z T g s m w h hF ht hk hf hix hdz h1.symm
 ·exact yr w0 Z T g s m w h hF ht hk hf hix hdz h1
theorem wB (w0:World) (Z:Nat→Prop) (T g:Nat) (s:Rf) (m:Msg) (w:World) (h:aR w0 Z w T g ⟨s,[]⟩) (hF:RfF s) (_:m.tm≤1099511627775) (hk:m.k=5) (hgt:s.term=m.tm) (hf:1≤m.f∧m.f≤s.nodes) (hix:m.ix≤1099511625728) (hdz:m.d.size≤1024) :
 Rt prog 89 [.pointer (some ⟨g,0,none⟩),.agg (bC m).toArray] w (fun v w'=>v=.tuple #[]∧aR w0 Z w' T g (cS s m)):=by
 have hrr:=hF.ro;refine enter (n:=169) Tryz.func89 rfl rfl rfl (ao (ah (bZ (v:=.agg _) rfl ?_)));intro b3 w1 E3 hb3 hk3;obtain ⟨wm,hwm⟩:∃ x,x=w1:=⟨_,rfl⟩
 have h3a:=h.at_ (Z':=fun k=>Z k∨k=b3) E3 (fun k hk=>by
  rcases hk with e | e
  ·exact ⟨Nat.lt_of_lt_of_le (h.zw k e) E3.size,.inl e⟩
  ·subst e;exact ⟨hk3.lt,.inr (by omega)⟩)
 obtain ⟨Z7,hZ7⟩:∃ Z7,Z7=fun k=>Z k∨k=b3:=⟨_,rfl⟩
 have h3:aR wm Z7 w1 T g ⟨s,[]⟩:=by
  rw [hZ7,hwm];exact h3a
 have hzi:∀ k,Z k→Z7 k:=fun k hk=>by rw [hZ7];exact .inl hk
 have hzb:Z7 b3:=by rw [hZ7];exact .inr rfl
 have hE3:ag w wm:=by rw [hwm];exact E3
 have hm9:Blk wm b3 39 (bC m).toArray:=by rw [hwm];exact hk3
 have hm3:=h3.kept hzb hm9;refine an (ai (ao (ao ?_)))
 skip
 apply bK 8 [(5,eqp _),(6,eqp (.int .i64 m.tm)),(7,eqp _),(8,eqp _),(9,eqp _),(10,eqp _),(11,eqp (.int .i64 s.term)),(12,eqp _)] (by repeat first | exact ct | refine cr ?_ | refine bX ?_) (by kernel_rfl) (by kernel_rfl) ⟨aj _,aj _,aj _,aj _,aj _,aj _,aj _,aj _,trivial⟩
 case hop=>
  constructor
  ·rintro-w3 D3;exact au (aa bI rfl) rfl
  constructor
  ·rintro-w4 D4;rintro _ rfl;exact au (ar ak rfl (by exact (show _=some (Value.int .i64 m.tm) from (hm3.from_ (ag.rfl_.next D4)).rd 3 rfl))) rfl
  constructor
  ·rintro-w5 D5;exact au (aF (v:=.pointer _) rfl) rfl
  constructor
  ·rintro-w6 D6;rintro _ rfl;exact au (av rfl) rfl
  constructor
  ·rintro-w7 D7;rintro _ rfl;exact au (aa aN rfl) rfl
  constructor
  ·rintro-w8 D8;rintro _ rfl;exact au (aa bH rfl) rfl
  constructor
  ·rintro-w9 D9;rintro _ rfl;exact au (ar ak rfl (by exact (show _=some (Value.int .i64 s.term) from (h3.from_ (ag.rfl_.next D9)).rd (fun _=>rfl)))) rfl
  constructor
  ·rintro-w10 D10;rintro v10_6 rfl v10_11 rfl;exact au (cu (cq rfl rfl) (decide_eq_false (by omega))) rfl
  exact trivial
 case hend=>
  intro w11 D11;rintro _ rfl v6 rfl _ rfl _ rfl _ rfl _ rfl v11 rfl _ rfl;show St ..;refine an (ai (bg rfl (aO (ai (ao (ao ?_))))))
  skip
  apply bK 8 [(17,eqp _),(18,eqp (.int .i64 m.tm)),(19,eqp _),(20,eqp _),(21,eqp _),(22,eqp _),(23,eqp (.int .i64 s.term)),(24,eqp _)] (by repeat first | exact ct | refine cr ?_ | refine bX ?_) (by kernel_rfl) (by kernel_rfl) ⟨aj _,aj _,aj _,aj _,aj _,aj _,aj _,aj _,trivial⟩
  case hop=>
   constructor
   ·rintro-w13 D13;exact au (aa bI rfl) rfl
   constructor
   ·rintro-w14 D14;rintro _ rfl;exact au (ar ak rfl (by exact (show _=some (Value.int .i64 m.tm) from ((h3.kept hzb hm9).from_ ((ag.rfl_.next D11).next D14)).rd 3 rfl))) rfl
   constructor
   ·rintro-w15 D15;exact au (aF (v:=.pointer _) rfl) rfl
   constructor
   ·rintro-w16 D16;rintro _ rfl;exact au (av rfl) rfl
   constructor
   ·rintro-w17 D17;rintro _ rfl;exact au (aa aN rfl) rfl
   constructor
   ·rintro-w18 D18;rintro _ rfl;exact au (aa bH rfl) rfl
   constructor
   ·rintro-w19 D19;rintro _ rfl;exact au (ar ak rfl (by exact (show _=some (Value.int .i64 s.term) from (h3.from_ ((ag.rfl_.next D11).next D19)).rd (fun _=>rfl)))) rfl
   constructor
   ·rintro-w20 D20;rintro v20_18 rfl v20_23 rfl;exact au (cu (ch rfl rfl) (decide_eq_false (by have:=fG s m.tm;omega))) rfl
   exact trivial
  case hend=>
   intro w21 D21;rintro _ rfl v18 rfl _ rfl _ rfl _ rfl _ rfl v23 rfl _ rfl;show St ..;refine an (ai (bg rfl (aO (ai (ao (ah (ab (aa cH rfl) (ab (ar ak rfl (by exact (show _=some (Value.int .i64 m.k) from ((h3.kept hzb hm9).from_ ((ag.rfl_.next D11).next D21)).rd 0 rfl))) ?_))))))));refine an (ai (bk (ao (ah (ab (cu (bf rfl rfl) (beq_eq_false_iff_ne.2 (by omega))) (asb rfl (an (ai (bg rfl (ao (ah (ab (cu (bf rfl rfl) (beq_eq_false_iff_ne.2 (by omega))) (asb rfl (an (ai ?_)))))))))))))));refine bg rfl (ao (ao (ah (ab (cu (bf rfl rfl) (beq_eq_false_iff_ne.2 (by omega))) (asb rfl (an (ai (bg rfl (ah (ab (c6 (bf rfl rfl) (beq_iff_eq.2 hk)) (asb rfl ?_)))))))))));refine an (ai (aZ rfl (ao (ao (ah (mvp rfl (ab (av rfl) (ab (aa aN rfl) (ab (aa cW rfl) (ab (ar ak rfl (by exact (show _=some (Value.int .i64 s.role) from (h3.from_ ((ag.rfl_.next D11).next D21)).rd (fun _=>rfl)))) ?_))))))))));refine ab (bf rfl rfl) (an (ai (AS rfl (fun Q22=>?_) (fun Q22=>?_))))
   ·refine aE (aG (bG (eg rfl ?_)));rw [k0 (by omega) (by omega),tA (by omega)];exact ⟨rfl,h.back hE3 (h3.from_ ((ag.rfl_.next D11).next D21)) hzi⟩
   refine aO (ai (e_ (G:=Unit) [137,138,139,140,141,142,143,144,145,146,147,148,149] (fun _=>[]) (fun _ w'=>aR wm Z7 w' T g ⟨cR s,[]⟩) ?_ ?_))
   ·refine ao (ah (mvp rfl (ab (av rfl) (ab (aa aN rfl) (ab (aa cW rfl) (ab (ar ak rfl (by exact (show _=some (Value.int .i64 s.role) from (h3.from_ ((ag.rfl_.next D11).next D21)).rd (fun _=>rfl)))) ?_))))));refine ab (dm rfl rfl) (an (ai (aS rfl (fun Q23=>?_) (fun Q23=>?_))))
    ·replace Q23:=dK Q23;replace Q23:=ec Q23;refine ah (mvp rfl (mvp rfl (ab (av rfl) (ab (aa aN rfl) (ab (aa bH rfl) (ab (ar ak rfl (by exact (show _=some (Value.int .i64 s.term) from (h3.from_ ((ag.rfl_.next D11).next D21)).rd (fun _=>rfl)))) ?_))))));refine aC kh (oV wm Z7 T g ⟨s,[]⟩ _ (h3.from_ ((ag.rfl_.next D11).next D21)) s.term) ?_;rintro v149 w24 ⟨rfl,h9⟩;refine an ?_;refine bL (()) trivial (by (iterate 13 refine bd rfl ?_);exact br) ?_
     first
      |(rw [vI (by omega)];exact h9.from_ ag.rfl_)
      |(rw [vH (by omega)];exact h3.from_ ag.rfl_)
    replace Q23:=dL Q23;replace Q23:=eb Q23;refine aO ?_;refine bL (()) trivial (by (iterate 6 refine bd rfl ?_);exact br) ?_
    first
     |(rw [vI (by omega)];exact h9.from_ ((ag.rfl_.next D11).next D21))
     |(rw [vH (by omega)];exact h3.from_ ((ag.rfl_.next D11).next D21))
   rintro _ ρ25 w25 h5;refine ao (ah (mvp rfl (ab (aa bY rfl) (ab (ar ak rfl (by exact (show _=some (Value.int .i64 m.f) from ((h5.kept hzb hm9).from_ ag.rfl_).rd 1 rfl))) ?_))));refine ab (av rfl) (ab (aa aN rfl) (ab (aa d_ rfl) (dU (s':=({ cR s with leader:=m.f }:Rf)) bc rfl rfl rfl (h5.from_ ag.rfl_) (fun _=>⟨by decide,rfl⟩) ⟨rfl,rfl,rfl,rfl,rfl,rfl⟩ ?_)));intro w26 h7;refine an (ai (ao (ah (mvp rfl (ab (av rfl) (ab (aa aN rfl) (ab (aa dp rfl) (dU (s':=(dR s m)) bc rfl rfl rfl (h7.from_ ag.rfl_) (fun _=>⟨by decide,rfl⟩) ⟨rfl,rfl,rfl,rfl,rfl,rfl⟩ ?_))))))));intro w27 h8;refine an (ai (ao (ah (ab (aa cH rfl) (ab (ar ak rfl (by exact (show _=some (Value.int .i64 m.k) from ((h8.kept hzb hm9).from_ ag.rfl_).rd 0 rfl))) ?_)))));refine ab (cu (bf rfl rfl) (beq_eq_false_iff_ne.2 (by omega))) (an (ai (bg rfl (ah (mvp rfl (ab (aH (cs:=bC m) bj aY rfl (((h8.kept hzb hm9).from_ ag.rfl_).whole)) (aC ml (rG wm Z7 T g (dR s m) m _ (h8.from_ ag.rfl_) (z_ hF hf) hix hdz) ?_)))))));rintro v168 w28 ⟨rfl,h6⟩;refine an (bN (da (eg rfl ?_)));rw [k0 (by omega) (by omega),oS (by omega) hk];exact ⟨rfl,h.back hE3 (h6.from_ ag.rfl_) hzi⟩
theorem wA (w0:World) (Z:Nat→Prop) (T g:Nat) (s:Rf) (m:Msg) (w:World) (h:aR w0 Z w T g ⟨s,[]⟩) (hF:RfF s) (ht:m.tm≤1099511627775) (hk:m.k=5) (hgt:s.term<m.tm) (hf:1≤m.f∧m.f≤s.nodes) (hix:m.ix≤1099511625728) (hdz:m.d.size≤1024) :
 Rt prog 89 [.pointer (some ⟨g,0,none⟩),.agg (bC m).toArray] w (fun v w'=>v=.tuple #[]∧aR w0 Z w' T g (cS s m)):=by
 have hFf:RfF (cJ s m.tm):=hF.falls ht;have hrr:=hFf.ro;have hf9:1≤m.f∧m.f≤(cJ s m.tm).nodes:=by rw [(h_ s m.tm).2.2.2.2.1];exact hf
 refine enter (n:=169) Tryz.func89 rfl rfl rfl (ao (ah (bZ (v:=.agg _) rfl ?_)));intro b3 w1 E3 hb3 hk3;obtain ⟨wm,hwm⟩:∃ x,x=w1:=⟨_,rfl⟩
 have h3a:=h.at_ (Z':=fun k=>Z k∨k=b3) E3 (fun k hk=>by
  rcases hk with e | e
  ·exact ⟨Nat.lt_of_lt_of_le (h.zw k e) E3.size,.inl e⟩
  ·subst e;exact ⟨hk3.lt,.inr (by omega)⟩)
 obtain ⟨Z7,hZ7⟩:∃ Z7,Z7=fun k=>Z k∨k=b3:=⟨_,rfl⟩
 have h3:aR wm Z7 w1 T g ⟨s,[]⟩:=by
  rw [hZ7,hwm];exact h3a
 have hzi:∀ k,Z k→Z7 k:=fun k hk=>by rw [hZ7];exact .inl hk
 have hzb:Z7 b3:=by rw [hZ7];exact .inr rfl
 have hE3:ag w wm:=by rw [hwm];exact E3
 have hm9:Blk wm b3 39 (bC m).toArray:=by rw [hwm];exact hk3
 have hm3:=h3.kept hzb hm9;refine an (ai (ao (ao ?_)))
 skip
 apply bK 8 [(5,eqp _),(6,eqp (.int .i64 m.tm)),(7,eqp _),(8,eqp _),(9,eqp _),(10,eqp _),(11,eqp (.int .i64 s.term)),(12,eqp _)] (by repeat first | exact ct | refine cr ?_ | refine bX ?_) (by kernel_rfl) (by kernel_rfl) ⟨aj _,aj _,aj _,aj _,aj _,aj _,aj _,aj _,trivial⟩
 case hop=>
  constructor
  ·rintro-w3 D3;exact au (aa bI rfl) rfl
  constructor
  ·rintro-w4 D4;rintro _ rfl;exact au (ar ak rfl (by exact (show _=some (Value.int .i64 m.tm) from (hm3.from_ (ag.rfl_.next D4)).rd 3 rfl))) rfl
  constructor
  ·rintro-w5 D5;exact au (aF (v:=.pointer _) rfl) rfl
  constructor
  ·rintro-w6 D6;rintro _ rfl;exact au (av rfl) rfl
  constructor
  ·rintro-w7 D7;rintro _ rfl;exact au (aa aN rfl) rfl
  constructor
  ·rintro-w8 D8;rintro _ rfl;exact au (aa bH rfl) rfl
  constructor
  ·rintro-w9 D9;rintro _ rfl;exact au (ar ak rfl (by exact (show _=some (Value.int .i64 s.term) from (h3.from_ (ag.rfl_.next D9)).rd (fun _=>rfl)))) rfl
  constructor
  ·rintro-w10 D10;rintro v10_6 rfl v10_11 rfl;exact au (c6 (cq rfl rfl) (decide_eq_true hgt)) rfl
  exact trivial
 case hend=>
  intro w11 D11;rintro _ rfl v6 rfl _ rfl _ rfl _ rfl _ rfl v11 rfl _ rfl;show St ..;refine an (ai (aZ rfl (ah (mvp rfl (ab (aa bI rfl) (ab (ar ak rfl (by exact (show _=some (Value.int .i64 m.tm) from (hm3.from_ (ag.rfl_.next D11)).rd 3 rfl))) ?_))))));refine aC kh (oV wm Z7 T g ⟨s,[]⟩ _ (h3.from_ (ag.rfl_.next D11)) m.tm) ?_;rintro v16 w12 ⟨rfl,h4⟩;refine an (ai (ao (ao ?_)))
  skip
  apply bK 8 [(17,eqp _),(18,eqp (.int .i64 m.tm)),(19,eqp _),(20,eqp _),(21,eqp _),(22,eqp _),(23,eqp (.int .i64 (cJ s m.tm).term)),(24,eqp _)] (by repeat first | exact ct | refine cr ?_ | refine bX ?_) (by kernel_rfl) (by kernel_rfl) ⟨aj _,aj _,aj _,aj _,aj _,aj _,aj _,aj _,trivial⟩
  case hop=>
   constructor
   ·rintro-w14 D14;exact au (aa bI rfl) rfl
   constructor
   ·rintro-w15 D15;rintro _ rfl;exact au (ar ak rfl (by exact (show _=some (Value.int .i64 m.tm) from ((h4.kept hzb hm9).from_ (ag.rfl_.next D15)).rd 3 rfl))) rfl
   constructor
   ·rintro-w16 D16;exact au (aF (v:=.pointer _) rfl) rfl
   constructor
   ·rintro-w17 D17;rintro _ rfl;exact au (av rfl) rfl
   constructor
   ·rintro-w18 D18;rintro _ rfl;exact au (aa aN rfl) rfl
   constructor
   ·rintro-w19 D19;rintro _ rfl;exact au (aa bH rfl) rfl
   constructor
   ·rintro-w20 D20;rintro _ rfl;exact au (ar ak rfl (by exact (show _=some (Value.int .i64 (cJ s m.tm).term) from (h4.from_ (ag.rfl_.next D20)).rd (fun _=>rfl)))) rfl
   constructor
   ·rintro-w21 D21;rintro v21_18 rfl v21_23 rfl;exact au (cu (ch rfl rfl) (decide_eq_false (by have:=fG s m.tm;omega))) rfl
   exact trivial
  case hend=>
   intro w22 D22;rintro _ rfl v18 rfl _ rfl _ rfl _ rfl _ rfl v23 rfl _ rfl;show St ..;refine an (ai (bg rfl (aO (ai (ao (ah (ab (aa cH rfl) (ab (ar ak rfl (by exact (show _=some (Value.int .i64 m.k) from ((h4.kept hzb hm9).from_ (ag.rfl_.next D22)).rd 0 rfl))) ?_))))))));refine an (ai (bk (ao (ah (ab (cu (bf rfl rfl) (beq_eq_false_iff_ne.2 (by omega))) (asb rfl (an (ai (bg rfl (ao (ah (ab (cu (bf rfl rfl) (beq_eq_false_iff_ne.2 (by omega))) (asb rfl (an (ai ?_)))))))))))))));refine bg rfl (ao (ao (ah (ab (cu (bf rfl rfl) (beq_eq_false_iff_ne.2 (by omega))) (asb rfl (an (ai (bg rfl (ah (ab (c6 (bf rfl rfl) (beq_iff_eq.2 hk)) (asb rfl ?_)))))))))));refine an (ai (aZ rfl (ao (ao (ah (mvp rfl (ab (av rfl) (ab (aa aN rfl) (ab (aa cW rfl) (ab (ar ak rfl (by exact (show _=some (Value.int .i64 (cJ s m.tm).role) from (h4.from_ (ag.rfl_.next D22)).rd (fun _=>rfl)))) ?_))))))))));refine ab (bf rfl rfl) (an (ai (AS rfl (fun Q23=>?_) (fun Q23=>?_))))
   ·refine aE (aG (bG (eg rfl ?_)));rw [og hgt,k0 (by have:=fG s m.tm;omega) (by omega),tA (by omega)];exact ⟨rfl,h.back hE3 (h4.from_ (ag.rfl_.next D22)) hzi⟩
   refine aO (ai (e_ (G:=Unit) [137,138,139,140,141,142,143,144,145,146,147,148,149] (fun _=>[]) (fun _ w'=>aR wm Z7 w' T g ⟨cR (cJ s m.tm),[]⟩) ?_ ?_))
   ·refine ao (ah (mvp rfl (ab (av rfl) (ab (aa aN rfl) (ab (aa cW rfl) (ab (ar ak rfl (by exact (show _=some (Value.int .i64 (cJ s m.tm).role) from (h4.from_ (ag.rfl_.next D22)).rd (fun _=>rfl)))) ?_))))));refine ab (dm rfl rfl) (an (ai (aS rfl (fun Q24=>?_) (fun Q24=>?_))))
    ·replace Q24:=dK Q24;replace Q24:=ec Q24;refine ah (mvp rfl (mvp rfl (ab (av rfl) (ab (aa aN rfl) (ab (aa bH rfl) (ab (ar ak rfl (by exact (show _=some (Value.int .i64 (cJ s m.tm).term) from (h4.from_ (ag.rfl_.next D22)).rd (fun _=>rfl)))) ?_))))));refine aC kh (oV wm Z7 T g ⟨(cJ s m.tm),[]⟩ _ (h4.from_ (ag.rfl_.next D22)) (cJ s m.tm).term) ?_;rintro v149 w25 ⟨rfl,h9⟩;refine an ?_;refine bL (()) trivial (by (iterate 13 refine bd rfl ?_);exact br) ?_
     first
      |(rw [vI (by omega)];exact h9.from_ ag.rfl_)
      |(rw [vH (by omega)];exact h4.from_ ag.rfl_)
    replace Q24:=dL Q24;replace Q24:=eb Q24;refine aO ?_;refine bL (()) trivial (by (iterate 6 refine bd rfl ?_);exact br) ?_
    first
     |(rw [vI (by omega)];exact h9.from_ (ag.rfl_.next D22))
     |(rw [vH (by omega)];exact h4.from_ (ag.rfl_.next D22))
   rintro _ ρ26 w26 h5;refine ao (ah (mvp rfl (ab (aa bY rfl) (ab (ar ak rfl (by exact (show _=some (Value.int .i64 m.f) from ((h5.kept hzb hm9).from_ ag.rfl_).rd 1 rfl))) ?_))));refine ab (av rfl) (ab (aa aN rfl) (ab (aa d_ rfl) (dU (s':=({ cR (cJ s m.tm) with leader:=m.f }:Rf)) bc rfl rfl rfl (h5.from_ ag.rfl_) (fun _=>⟨by decide,rfl⟩) ⟨rfl,rfl,rfl,rfl,rfl,rfl⟩ ?_)));intro w27 h7;refine an (ai (ao (ah (mvp rfl (ab (av rfl) (ab (aa aN rfl) (ab (aa dp rfl) (dU (s':=(dR (cJ s m.tm) m)) bc rfl rfl rfl (h7.from_ ag.rfl_) (fun _=>⟨by decide,rfl⟩) ⟨rfl,rfl,rfl,rfl,rfl,rfl⟩ ?_))))))));intro w28 h8;refine an (ai (ao (ah (ab (aa cH rfl) (ab (ar ak rfl (by exact (show _=some (Value.int .i64 m.k) from ((h8.kept hzb hm9).from_ ag.rfl_).rd 0 rfl))) ?_)))));refine ab (cu (bf rfl rfl) (beq_eq_false_iff_ne.2 (by omega))) (an (ai (bg rfl (ah (mvp rfl (ab (aH (cs:=bC m) bj aY rfl (((h8.kept hzb hm9).from_ ag.rfl_).whole)) (aC ml (rG wm Z7 T g (dR (cJ s m.tm) m) m _ (h8.from_ ag.rfl_) (z_ hFf hf9) hix hdz) ?_)))))));rintro v168 w29 ⟨rfl,h6⟩;refine an (bN (da (eg rfl ?_)));rw [og hgt,k0 (by have:=fG s m.tm;omega) (by omega),oS (by omega) hk];exact ⟨rfl,h.back hE3 (h6.from_ ag.rfl_) hzi⟩
theorem rE (w0:World) (Z:Nat→Prop) (T g:Nat) (s:Rf) (m:Msg) (w:World) (h:aR w0 Z w T g ⟨s,[]⟩) (hF:RfF s) (ht:m.tm≤1099511627775) (hk:m.k=5) (hf:1≤m.f∧m.f≤s.nodes) (hix:m.ix≤1099511625728) (hdz:m.d.size≤1024):Rt prog 89 [.pointer (some ⟨g,0,none⟩),.agg (bC m).toArray] w fun v w'=>v=.tuple #[]∧aR w0 Z w' T g (cS s m):=by
 rcases Int.lt_trichotomy m.tm s.term with h1 | h1 | h1
 ·exact yw w0 Z T g s m w h h1
 ·exact wB w0 Z T g s m w h hF ht hk h1.symm hf hix hdz
 ·exact wA w0 Z T g s m w h hF ht hk h1 hf hix hdz
theorem uf:aQ prog 88=true:=by kernel_rfl
theorem wY (m:Msg):m.tm<m.lt∨(¬ m.tm<m.lt∧m.es.length=0)∨(¬ m.tm<m.lt∧∃ h:m.es.length-1<m.es.length,m.tm<(m.es[m.es.length-1]'h).t)∨(¬ m.tm<m.lt∧∃ h:m.es.length-1<m.es.length,¬ m.tm<(m.es[m.es.length-1]'h).t):=by
 by_cases h1:m.tm<m.lt
 ·exact .inl h1
 ·by_cases h2:m.es.length=0
  ·exact .inr (.inl ⟨h1,h2⟩)
  ·have h:m.es.length-1<m.es.length:=by omega
   by_cases h3:m.tm<(m.es[m.es.length-1]'h).t
   ·exact .inr (.inr (.inl ⟨h1,h,h3⟩))
   ·exact .inr (.inr (.inr ⟨h1,h,h3⟩))
theorem uB:∀ (l:List Ent) (p t:Int) (h:l.length-1<l.length),eD l p t=true→∀ e∈l,e.t≤(l[l.length-1]'h).t
 |[e],_,_,_,_,x,hx=>by
  rw [List.mem_singleton] at hx;subst hx;exact Int.le_refl _
 |e::e2::r,p,t,_,hr,x,hx=>by
  have h1:=(pL hr).2;have h2:=uB (e2::r) (p+1) e.t (by simp) h1;have h3:(e::e2::r)[(e::e2::r).length-1]'(by simp)=(e2::r)[(e2::r).length-1]'(by simp):=by simp
  rw [h3];rcases List.mem_cons.1 hx with e9 | e9
  ·subst e9
   have h4:x.t≤e2.t:=by
    simp only [eD,ga,Bool.and_eq_true,decide_eq_true_eq] at h1;have:=dw h1.1.1.2;omega
   exact Int.le_trans h4 (h2 e2 (List.mem_cons_self ..))
  ·exact h2 x e9
def nf (m:Msg):Prop:=m.lt≤m.tm∧∀ h:m.es.length-1<m.es.length,(m.es[m.es.length-1]'h).t≤m.tm
theorem fW {s:Rf} {m:Msg} (hk:m.k=3∨m.k=5) (hok:OkM m):vA s m=true↔m.t=s.id∧m.f≠s.id∧m.f≤s.nodes∧nf m:=by
 rw [fk];constructor
 ·rintro ⟨h1,h2,h3,h4⟩;have h5:=h4 hk;exact ⟨h1,h2,h3,h5.1,fun h=>h5.2 _ (List.getElem_mem h)⟩
 ·rintro ⟨h1,h2,h3,h4,h5⟩;refine ⟨h1,h2,h3,fun _=>⟨h4,fun e he=>?_⟩⟩
  have hl:m.es.length-1<m.es.length:=by
   have:=List.length_pos_of_mem he;omega
  rcases hk with hk | hk
  ·exact Int.le_trans (uB m.es m.ix m.lt hl (hok.2.2.1 hk).2 e he) (h5 hl)
  ·have h6:=hok.2.1;unfold ExR at h6;rw [if_neg (by omega),if_neg (by omega),if_neg (by omega),if_neg (by omega),if_pos hk] at h6;exact absurd h6.2.2 (by omega)
theorem tp (s:Rf) (a:Ra) (m:Msg) (w:World) (he:Em w m) (hl:m.es.length≤1000000) (hk:m.k=5) (hmr:yf m) (bb:Bool) (hbb:bb=decide (OkM m)) :
 Rt prog 45 [.agg (rfV s a).toArray,.agg (bC m).toArray] w (fun v w'=>v=.bool (bb&&vA s m)∧ag w w'):=by
 obtain ⟨Ee,hEe⟩:∃ x,x=m.E:=⟨_,rfl⟩;refine enter (n:=61) Tryz.func45 rfl rfl rfl (ao (ah (bZ (v:=.agg _) rfl ?_)));intro b2 w1 E2 hb2 hk2;refine bZ (v:=.agg _) rfl ?_;intro b3 w2 E3 hb3 hk3;replace hk2:=hk2.from_ E3;refine asb rfl (an (ai (e_ (G:=Unit) [4,5,6,7,8,9,10,11,12,13,14,15,16,17,18,19,20,21,22,23,24,25,26,27,28,29,30,31,32,33,34,35,36,37] (fun _=>[]) (fun _ w'=>nf m∧Blk w' b2 29 (rfV s a).toArray∧Blk w' b3 39 (bC m).toArray∧ag w w') ?_ ?_)))
 ·refine ao (ah (ab (aa cH rfl) (ab (ar ak rfl (by exact (show _=some (Value.int .i64 m.k) from (hk3.from_ ag.rfl_).rd 0 rfl))) ?_)));refine ab (cu (bf rfl rfl) (beq_eq_false_iff_ne.2 (by omega))) (mvb rfl (ae rfl (ab (aa cH rfl) (ae rfl (ab (ar ak rfl (by exact (show _=some (Value.int .i64 m.k) from (hk3.from_ ag.rfl_).rd 0 rfl))) ?_)))));refine ae rfl (ab (c6 (bf rfl rfl) (beq_iff_eq.2 hk)) (ab (ay (v:=.bool _) rfl rfl) (an (ai (aZ rfl (ao ?_))))));rcases wY m with h1 | ⟨h1,h2⟩ | ⟨h1,hx,h3⟩ | ⟨h1,hx,h3⟩
  ·have hno:¬ nf m:=fun e=>by have:=e.1;omega
   apply bK 25 [(13,eqp _),(14,eqp (.int .i64 m.lt)),(15,eqp _),(16,eqp (.int .i64 m.tm)),(17,eqp _),(18,eqp _),(19,eqp _),(20,eqp _),(21,eqp _),(22,eqp _),(23,eqp _),(24,eqp _),(25,eqp _),(26,eqp _),(27,eqp _),(28,eqp _),(29,eqp _),(30,eqp _),(31,eqp _),(32,eqp _),(33,eqp _),(34,eqp _),(35,eqp _),(36,eqp _),(37,eqp _)] (by repeat first | exact ct | refine cr ?_ | refine bX ?_) (by kernel_rfl) (by kernel_rfl) ⟨aj _,aj _,aj _,aj _,aj _,aj _,aj _,aj _,aj _,aj _,aj _,aj _,aj _,aj _,aj _,aj _,aj _,aj _,aj _,aj _,aj _,aj _,aj _,aj _,aj _,trivial⟩
   case hop=>
    constructor
    ·rintro-w4 D4;exact au (aa cG rfl) rfl
    constructor
    ·rintro-w5 D5;rintro _ rfl;exact au (ar ak rfl (by exact (show _=some (Value.int .i64 m.lt) from (hk3.from_ (ag.rfl_.next D5)).rd 5 rfl))) rfl
    constructor
    ·rintro-w6 D6;exact au (aa bI rfl) rfl
    constructor
    ·rintro-w7 D7;rintro _ rfl;exact au (ar ak rfl (by exact (show _=some (Value.int .i64 m.tm) from (hk3.from_ (ag.rfl_.next D7)).rd 3 rfl))) rfl
    constructor
    ·rintro-w8 D8;rintro v8_14 rfl v8_16 rfl;exact au (c6 (cq rfl rfl) (decide_eq_true h1)) rfl
    constructor
    ·rintro-w9 D9;rintro _ rfl;exact au (aF (v:=.bool _) rfl) rfl
    constructor
    ·rintro-w10 D10;rintro _ rfl;exact ck rfl rfl rfl
    constructor
    ·rintro-w11 D11;rintro _ rfl _ rfl;exact ck rfl rfl rfl
    constructor
    ·rintro-w12 D12;rintro _ rfl _ rfl;exact ck rfl rfl rfl
    constructor
    ·rintro-w13 D13;rintro _ rfl _ rfl;exact ck rfl rfl rfl
    constructor
    ·rintro-w14 D14;rintro _ rfl _ rfl;exact ck rfl rfl rfl
    constructor
    ·rintro-w15 D15;rintro _ rfl;exact gy rfl rfl
    constructor
    ·rintro-w16 D16;rintro _ rfl _ rfl;exact gy rfl rfl
    constructor
    ·rintro-w17 D17;rintro _ rfl;exact gy rfl rfl
    constructor
    ·rintro-w18 D18;rintro _ rfl _ rfl;exact gy rfl rfl
    constructor
    ·rintro-w19 D19;rintro _ rfl _ rfl;exact gy rfl rfl
    constructor
    ·rintro-w20 D20;rintro _ rfl _ rfl;exact gy rfl rfl
    constructor
    ·rintro-w21 D21;rintro _ rfl _ rfl _ rfl;exact gy rfl rfl
    constructor
    ·rintro-w22 D22;rintro _ rfl _ rfl;exact gy rfl rfl
    constructor
    ·rintro-w23 D23;rintro _ rfl _ rfl;exact gy rfl rfl
    constructor
    ·rintro-w24 D24;rintro _ rfl;exact gy rfl rfl
    constructor
    ·rintro-w25 D25;rintro _ rfl _ rfl;exact gy rfl rfl
    constructor
    ·rintro-w26 D26;rintro _ rfl _ rfl _ rfl;exact gy rfl rfl
    constructor
    ·rintro-w27 D27;rintro _ rfl _ rfl _ rfl;exact ck rfl rfl rfl
    constructor
    ·rintro-w28 D28;rintro _ rfl _ rfl;exact au (aM (v:=.bool _) rfl rfl) rfl
    exact trivial
   case hend=>
    intro w29 D29;rintro _ rfl v14 rfl _ rfl v16 rfl _ rfl _ rfl _ rfl _ rfl _ rfl _ rfl _ rfl _ rfl _ rfl _ rfl _ rfl _ rfl _ rfl _ rfl _ rfl _ rfl _ rfl _ rfl _ rfl _ rfl _ rfl;show St ..;refine an (ai (aZ rfl (ao (ah (asb rfl (an (ai (aE (aG (bA (v:=.bool _) rfl rfl (⟨congrArg Value.bool ?_,(((ag.rfl_.next E2).next E3).next D29)⟩)))))))))));rw [eq_comm,Bool.and_eq_false_iff];by_cases hb9:bb=true
    ·right
     rw [hbb,decide_eq_true_eq] at hb9;rw [←Bool.not_eq_true,fW (by omega) hb9];exact fun e=>hno e.2.2.2
    ·left
     simpa using hb9
  ·have hle:nf m:=⟨by omega,fun h=>by omega⟩;apply bK 25 [(13,eqp _),(14,eqp (.int .i64 m.lt)),(15,eqp _),(16,eqp (.int .i64 m.tm)),(17,eqp _),(18,eqp _),(19,eqp _),(20,eqp (.slice Ee m.es.length m.c)),(21,eqp _),(22,eqp _),(23,eqp _),(24,eqp _),(25,eqp _),(26,eqp _),(27,eqp _),(28,eqp _),(29,eqp _),(30,eqp _),(31,eqp _),(32,eqp _),(33,eqp _),(34,eqp _),(35,eqp _),(36,eqp _),(37,eqp _)] (by repeat first | exact ct | refine cr ?_ | refine bX ?_) (by kernel_rfl) (by kernel_rfl) ⟨aj _,aj _,aj _,aj _,aj _,aj _,aj _,aj _,aj _,aj _,aj _,aj _,aj _,aj _,aj _,aj _,aj _,aj _,aj _,aj _,aj _,aj _,aj _,aj _,aj _,trivial⟩
   case hop=>
    constructor
    ·rintro-w31 D31;exact au (aa cG rfl) rfl
    constructor
    ·rintro-w32 D32;rintro _ rfl;exact au (ar ak rfl (by exact (show _=some (Value.int .i64 m.lt) from (hk3.from_ (ag.rfl_.next D32)).rd 5 rfl))) rfl
    constructor
    ·rintro-w33 D33;exact au (aa bI rfl) rfl
    constructor
    ·rintro-w34 D34;rintro _ rfl;exact au (ar ak rfl (by exact (show _=some (Value.int .i64 m.tm) from (hk3.from_ (ag.rfl_.next D34)).rd 3 rfl))) rfl
    constructor
    ·rintro-w35 D35;rintro v35_14 rfl v35_16 rfl;exact au (cu (cq rfl rfl) (decide_eq_false h1)) rfl
    constructor
    ·rintro-w36 D36;rintro _ rfl;exact au (aF (v:=.bool _) rfl) rfl
    constructor
    ·rintro-w37 D37;rintro _ rfl;exact aL rfl (aa dz rfl) rfl
    constructor
    ·rintro-w38 D38;rintro _ rfl _ rfl;exact aL rfl (ar bR rfl (by first | exact (show _=some (Value.slice Ee m.es.length m.c) from by rw [hEe];exact (hk3.from_ (ag.rfl_.next D38)).rd 9 rfl) | exact (show _=some (Value.slice (some ⟨ba,oa,none⟩) m.es.length m.c) from by rw [hEe];exact (hk3.from_ (ag.rfl_.next D38)).rd 9 rfl))) rfl
    constructor
    ·rintro-w39 D39;rintro _ rfl v39_20 rfl;exact aL rfl (bU cT rfl) rfl
    constructor
    ·rintro-w40 D40;rintro _ rfl _ rfl;exact aL rfl (cu (cq rfl rfl) (decide_eq_false (by omega))) rfl
    constructor
    ·rintro-w41 D41;rintro _ rfl _ rfl;exact aL rfl (aF (v:=.bool _) rfl) rfl
    constructor
    ·rintro-w42 D42;rintro _ rfl;exact ck rfl rfl rfl
    constructor
    ·rintro-w43 D43;rintro _ rfl _ rfl;exact ck rfl rfl rfl
    constructor
    ·rintro-w44 D44;rintro _ rfl;exact ck rfl rfl rfl
    constructor
    ·rintro-w45 D45;rintro _ rfl _ rfl;exact ck rfl rfl rfl
    constructor
    ·rintro-w46 D46;rintro _ rfl _ rfl;exact ck rfl rfl rfl
    constructor
    ·rintro-w47 D47;rintro _ rfl _ rfl;exact ck rfl rfl rfl
    constructor
    ·rintro-w48 D48;rintro _ rfl _ rfl _ rfl;exact ck rfl rfl rfl
    constructor
    ·rintro-w49 D49;rintro _ rfl _ rfl;exact ck rfl rfl rfl
    constructor
    ·rintro-w50 D50;rintro _ rfl _ rfl;exact ck rfl rfl rfl
    constructor
    ·rintro-w51 D51;rintro _ rfl;exact ck rfl rfl rfl
    constructor
    ·rintro-w52 D52;rintro _ rfl _ rfl;exact ck rfl rfl rfl
    constructor
    ·rintro-w53 D53;rintro _ rfl _ rfl _ rfl;exact ck rfl rfl rfl
    constructor
    ·rintro-w54 D54;rintro _ rfl _ rfl _ rfl;exact aL rfl (ay (v:=.bool _) rfl rfl) rfl
    constructor
    ·rintro-w55 D55;rintro _ rfl _ rfl;exact au (ay (v:=.bool _) rfl rfl) rfl
    exact trivial
   case hend=>
    intro w56 D56;rintro _ rfl v14 rfl _ rfl v16 rfl _ rfl _ rfl _ rfl v20 rfl _ rfl _ rfl _ rfl _ rfl _ rfl _ rfl _ rfl _ rfl _ rfl _ rfl _ rfl _ rfl _ rfl _ rfl _ rfl _ rfl _ rfl;show St ..;refine an (ai (bg rfl (aO ?_)));refine bL (()) trivial (by (iterate 33 refine bd rfl ?_);exact br) ?_;exact ⟨hle,hk2.from_ (ag.rfl_.next D56),hk3.from_ (ag.rfl_.next D56),(((ag.rfl_.next E2).next E3).next D56)⟩
  ·have hno:¬ nf m:=fun e=>by have:=e.2 hx;omega
   obtain ⟨ba,oa,hE2,hca⟩:=qD he (by omega);obtain rfl:Ee=some ⟨ba,oa,none⟩:=hEe.trans hE2;apply bK 25 [(13,eqp _),(14,eqp (.int .i64 m.lt)),(15,eqp _),(16,eqp (.int .i64 m.tm)),(17,eqp _),(18,eqp _),(19,eqp _),(20,eqp (.slice (some ⟨ba,oa,none⟩) m.es.length m.c)),(21,eqp _),(22,eqp _),(23,eqp _),(24,eqp _),(25,eqp (.slice (some ⟨ba,oa,none⟩) m.es.length m.c)),(26,eqp _),(27,eqp (.slice (some ⟨ba,oa,none⟩) m.es.length m.c)),(28,eqp _),(29,eqp (.int .i64 ((m.es.length-1:Nat):Int))),(30,eqp (.pointer (some ⟨ba,oa+(m.es.length-1)*3,none⟩))),(31,eqp _),(32,eqp (.int .i64 (m.es[m.es.length-1]'hx).t)),(33,eqp _),(34,eqp (.int .i64 m.tm)),(35,eqp _),(36,eqp _),(37,eqp _)] (by repeat first | exact ct | refine cr ?_ | refine bX ?_) (by kernel_rfl) (by kernel_rfl) ⟨aj _,aj _,aj _,aj _,aj _,aj _,aj _,aj _,aj _,aj _,aj _,aj _,aj _,aj _,aj _,aj _,aj _,aj _,aj _,aj _,aj _,aj _,aj _,aj _,aj _,trivial⟩
   case hop=>
    constructor
    ·rintro-w58 D58;exact au (aa cG rfl) rfl
    constructor
    ·rintro-w59 D59;rintro _ rfl;exact au (ar ak rfl (by exact (show _=some (Value.int .i64 m.lt) from (hk3.from_ (ag.rfl_.next D59)).rd 5 rfl))) rfl
    constructor
    ·rintro-w60 D60;exact au (aa bI rfl) rfl
    constructor
    ·rintro-w61 D61;rintro _ rfl;exact au (ar ak rfl (by exact (show _=some (Value.int .i64 m.tm) from (hk3.from_ (ag.rfl_.next D61)).rd 3 rfl))) rfl
    constructor
    ·rintro-w62 D62;rintro v62_14 rfl v62_16 rfl;exact au (cu (cq rfl rfl) (decide_eq_false h1)) rfl
    constructor
    ·rintro-w63 D63;rintro _ rfl;exact au (aF (v:=.bool _) rfl) rfl
    constructor
    ·rintro-w64 D64;rintro _ rfl;exact aL rfl (aa dz rfl) rfl
    constructor
    ·rintro-w65 D65;rintro _ rfl _ rfl;exact aL rfl (ar bR rfl (by first | exact (show _=some (Value.slice Ee m.es.length m.c) from by rw [hEe];exact (hk3.from_ (ag.rfl_.next D65)).rd 9 rfl) | exact (show _=some (Value.slice (some ⟨ba,oa,none⟩) m.es.length m.c) from by rw [hEe];exact (hk3.from_ (ag.rfl_.next D65)).rd 9 rfl))) rfl
    constructor
    ·rintro-w66 D66;rintro _ rfl v66_20 rfl;exact aL rfl (bU cT rfl) rfl
    constructor
    ·rintro-w67 D67;rintro _ rfl _ rfl;exact aL rfl (c6 (cq rfl rfl) (decide_eq_true (by omega))) rfl
    constructor
    ·rintro-w68 D68;rintro _ rfl _ rfl;exact aL rfl (aF (v:=.bool _) rfl) rfl
    constructor
    ·rintro-w69 D69;rintro _ rfl;exact aL rfl (aa dz rfl) rfl
    constructor
    ·rintro-w70 D70;rintro _ rfl _ rfl;exact aL rfl (ar bR rfl (by first | exact (show _=some (Value.slice Ee m.es.length m.c) from by rw [hEe];exact (hk3.from_ (ag.rfl_.next D70)).rd 9 rfl) | exact (show _=some (Value.slice (some ⟨ba,oa,none⟩) m.es.length m.c) from by rw [hEe];exact (hk3.from_ (ag.rfl_.next D70)).rd 9 rfl))) rfl
    constructor
    ·rintro-w71 D71;rintro _ rfl;exact aL rfl (aa dz rfl) rfl
    constructor
    ·rintro-w72 D72;rintro _ rfl _ rfl;exact aL rfl (ar bR rfl (by first | exact (show _=some (Value.slice Ee m.es.length m.c) from by rw [hEe];exact (hk3.from_ (ag.rfl_.next D72)).rd 9 rfl) | exact (show _=some (Value.slice (some ⟨ba,oa,none⟩) m.es.length m.c) from by rw [hEe];exact (hk3.from_ (ag.rfl_.next D72)).rd 9 rfl))) rfl
    constructor
    ·rintro-w73 D73;rintro _ rfl v73_27 rfl;exact aL rfl (bU cT rfl) rfl
    constructor
    ·rintro-w74 D74;rintro _ rfl _ rfl;exact aL rfl (mF rfl rfl (by omega) (by omega)) rfl
    constructor
    ·rintro-w75 D75;rintro _ rfl v75_25 rfl v75_29 rfl;exact aL rfl (b_ dP rfl rfl hx) rfl
    constructor
    ·rintro-w76 D76;rintro _ rfl v76_30 rfl;exact aL rfl (aa jC rfl) rfl
    constructor
    ·rintro-w77 D77;rintro _ rfl _ rfl;exact aL rfl (ar ak rfl (by exact (show _=some (Value.int .i64 (m.es[m.es.length-1]'hx).t) from fB (((ag.rfl_.next E2).next E3).next D77) (hca _ hx) 1 _ rfl))) rfl
    constructor
    ·rintro-w78 D78;rintro _ rfl;exact aL rfl (aa bI rfl) rfl
    constructor
    ·rintro-w79 D79;rintro _ rfl _ rfl;exact aL rfl (ar ak rfl (by exact (show _=some (Value.int .i64 m.tm) from (hk3.from_ (ag.rfl_.next D79)).rd 3 rfl))) rfl
    constructor
    ·rintro-w80 D80;rintro _ rfl v80_32 rfl v80_34 rfl;exact aL rfl (c6 (cq rfl rfl) (decide_eq_true h3)) rfl
    constructor
    ·rintro-w81 D81;rintro _ rfl _ rfl _ rfl;exact aL rfl (aM (v:=.bool _) rfl rfl) rfl
    constructor
    ·rintro-w82 D82;rintro _ rfl _ rfl;exact au (ay (v:=.bool _) rfl rfl) rfl
    exact trivial
   case hend=>
    intro w83 D83;rintro _ rfl v14 rfl _ rfl v16 rfl _ rfl _ rfl _ rfl v20 rfl _ rfl _ rfl _ rfl _ rfl v25 rfl _ rfl v27 rfl _ rfl v29 rfl v30 rfl _ rfl v32 rfl _ rfl v34 rfl _ rfl _ rfl _ rfl;show St ..;refine an (ai (aZ rfl (ao (ah (asb rfl (an (ai (aE (aG (bA (v:=.bool _) rfl rfl (⟨congrArg Value.bool ?_,(((ag.rfl_.next E2).next E3).next D83)⟩)))))))))));rw [eq_comm,Bool.and_eq_false_iff];by_cases hb9:bb=true
    ·right
     rw [hbb,decide_eq_true_eq] at hb9;rw [←Bool.not_eq_true,fW (by omega) hb9];exact fun e=>hno e.2.2.2
    ·left
     simpa using hb9
  have hle:nf m:=⟨by omega,fun h=>by omega⟩;obtain ⟨ba,oa,hE2,hca⟩:=qD he (by omega);obtain rfl:Ee=some ⟨ba,oa,none⟩:=hEe.trans hE2;apply bK 25 [(13,eqp _),(14,eqp (.int .i64 m.lt)),(15,eqp _),(16,eqp (.int .i64 m.tm)),(17,eqp _),(18,eqp _),(19,eqp _),(20,eqp (.slice (some ⟨ba,oa,none⟩) m.es.length m.c)),(21,eqp _),(22,eqp _),(23,eqp _),(24,eqp _),(25,eqp (.slice (some ⟨ba,oa,none⟩) m.es.length m.c)),(26,eqp _),(27,eqp (.slice (some ⟨ba,oa,none⟩) m.es.length m.c)),(28,eqp _),(29,eqp (.int .i64 ((m.es.length-1:Nat):Int))),(30,eqp (.pointer (some ⟨ba,oa+(m.es.length-1)*3,none⟩))),(31,eqp _),(32,eqp (.int .i64 (m.es[m.es.length-1]'hx).t)),(33,eqp _),(34,eqp (.int .i64 m.tm)),(35,eqp _),(36,eqp _),(37,eqp _)] (by repeat first | exact ct | refine cr ?_ | refine bX ?_) (by kernel_rfl) (by kernel_rfl) ⟨aj _,aj _,aj _,aj _,aj _,aj _,aj _,aj _,aj _,aj _,aj _,aj _,aj _,aj _,aj _,aj _,aj _,aj _,aj _,aj _,aj _,aj _,aj _,aj _,aj _,trivial⟩
  case hop=>
   constructor
   ·rintro-w85 D85;exact au (aa cG rfl) rfl
   constructor
   ·rintro-w86 D86;rintro _ rfl;exact au (ar ak rfl (by exact (show _=some (Value.int .i64 m.lt) from (hk3.from_ (ag.rfl_.next D86)).rd 5 rfl))) rfl
   constructor
   ·rintro-w87 D87;exact au (aa bI rfl) rfl
   constructor
   ·rintro-w88 D88;rintro _ rfl;exact au (ar ak rfl (by exact (show _=some (Value.int .i64 m.tm) from (hk3.from_ (ag.rfl_.next D88)).rd 3 rfl))) rfl
   constructor
   ·rintro-w89 D89;rintro v89_14 rfl v89_16 rfl;exact au (cu (cq rfl rfl) (decide_eq_false h1)) rfl
   constructor
   ·rintro-w90 D90;rintro _ rfl;exact au (aF (v:=.bool _) rfl) rfl
   constructor
   ·rintro-w91 D91;rintro _ rfl;exact aL rfl (aa dz rfl) rfl
   constructor
   ·rintro-w92 D92;rintro _ rfl _ rfl;exact aL rfl (ar bR rfl (by first | exact (show _=some (Value.slice Ee m.es.length m.c) from by rw [hEe];exact (hk3.from_ (ag.rfl_.next D92)).rd 9 rfl) | exact (show _=some (Value.slice (some ⟨ba,oa,none⟩) m.es.length m.c) from by rw [hEe];exact (hk3.from_ (ag.rfl_.next D92)).rd 9 rfl))) rfl
   constructor
   ·rintro-w93 D93;rintro _ rfl v93_20 rfl;exact aL rfl (bU cT rfl) rfl
   constructor
   ·rintro-w94 D94;rintro _ rfl _ rfl;exact aL rfl (c6 (cq rfl rfl) (decide_eq_true (by omega))) rfl
   constructor
   ·rintro-w95 D95;rintro _ rfl _ rfl;exact aL rfl (aF (v:=.bool _) rfl) rfl
   constructor
   ·rintro-w96 D96;rintro _ rfl;exact aL rfl (aa dz rfl) rfl
   constructor
   ·rintro-w97 D97;rintro _ rfl _ rfl;exact aL rfl (ar bR rfl (by first | exact (show _=some (Value.slice Ee m.es.length m.c) from by rw [hEe];exact (hk3.from_ (ag.rfl_.next D97)).rd 9 rfl) | exact (show _=some (Value.slice (some ⟨ba,oa,none⟩) m.es.length m.c) from by rw [hEe];exact (hk3.from_ (ag.rfl_.next D97)).rd 9 rfl))) rfl
   constructor
   ·rintro-w98 D98;rintro _ rfl;exact aL rfl (aa dz rfl) rfl
   constructor
   ·rintro-w99 D99;rintro _ rfl _ rfl;exact aL rfl (ar bR rfl (by first | exact (show _=some (Value.slice Ee m.es.length m.c) from by rw [hEe];exact (hk3.from_ (ag.rfl_.next D99)).rd 9 rfl) | exact (show _=some (Value.slice (some ⟨ba,oa,none⟩) m.es.length m.c) from by rw [hEe];exact (hk3.from_ (ag.rfl_.next D99)).rd 9 rfl))) rfl
   constructor
   ·rintro-w100 D100;rintro _ rfl v100_27 rfl;exact aL rfl (bU cT rfl) rfl
   constructor
   ·rintro-w101 D101;rintro _ rfl _ rfl;exact aL rfl (mF rfl rfl (by omega) (by omega)) rfl
   constructor
   ·rintro-w102 D102;rintro _ rfl v102_25 rfl v102_29 rfl;exact aL rfl (b_ dP rfl rfl hx) rfl
   constructor
   ·rintro-w103 D103;rintro _ rfl v103_30 rfl;exact aL rfl (aa jC rfl) rfl
   constructor
   ·rintro-w104 D104;rintro _ rfl _ rfl;exact aL rfl (ar ak rfl (by exact (show _=some (Value.int .i64 (m.es[m.es.length-1]'hx).t) from fB (((ag.rfl_.next E2).next E3).next D104) (hca _ hx) 1 _ rfl))) rfl
   constructor
   ·rintro-w105 D105;rintro _ rfl;exact aL rfl (aa bI rfl) rfl
   constructor
   ·rintro-w106 D106;rintro _ rfl _ rfl;exact aL rfl (ar ak rfl (by exact (show _=some (Value.int .i64 m.tm) from (hk3.from_ (ag.rfl_.next D106)).rd 3 rfl))) rfl
   constructor
   ·rintro-w107 D107;rintro _ rfl v107_32 rfl v107_34 rfl;exact aL rfl (cu (cq rfl rfl) (decide_eq_false h3)) rfl
   constructor
   ·rintro-w108 D108;rintro _ rfl _ rfl _ rfl;exact aL rfl (aM (v:=.bool _) rfl rfl) rfl
   constructor
   ·rintro-w109 D109;rintro _ rfl _ rfl;exact au (ay (v:=.bool _) rfl rfl) rfl
   exact trivial
  case hend=>
   intro w110 D110;rintro _ rfl v14 rfl _ rfl v16 rfl _ rfl _ rfl _ rfl v20 rfl _ rfl _ rfl _ rfl _ rfl v25 rfl _ rfl v27 rfl _ rfl v29 rfl v30 rfl _ rfl v32 rfl _ rfl v34 rfl _ rfl _ rfl _ rfl;show St ..;refine an (ai (bg rfl (aO ?_)));refine bL (()) trivial (by (iterate 33 refine bd rfl ?_);exact br) ?_;exact ⟨hle,hk2.from_ (ag.rfl_.next D110),hk3.from_ (ag.rfl_.next D110),(((ag.rfl_.next E2).next E3).next D110)⟩
 rintro _ ρ111 w111 ⟨hle,hk2,hk3,hB⟩;refine ao (ah (ab (aH (cs:=bC m) bj aY rfl ((hk3.from_ ag.rfl_).whole)) (aC uf (hmr.is (he.from_ hB) hbb.symm) ?_)));rintro v39 w112 ⟨rfl,E39⟩;refine mvb rfl (aK (t:=40) rfl (fun Q113=>?_) (fun Q113=>?_))
 ·have hbt:bb=true:=Q113;refine ae rfl (ab (aa ew rfl) (ae rfl (ab (ar ak rfl (by exact (show _=some (Value.int .i64 m.t) from (hk3.from_ (ag.rfl_.next E39)).rd 2 rfl))) ?_)));refine ae rfl (ab (aa cB rfl) (ae rfl (ab (ar ak rfl (by exact (show _=some (Value.int .i64 s.id) from (hk2.from_ (ag.rfl_.next E39)).rd 0 rfl))) ?_)));refine ae rfl (ab (bf rfl rfl) (ab (aM (v:=.bool _) rfl rfl) (mvb rfl (Ao (t:=47) rfl (fun Q114=>?_) (fun Q114=>?_)))))
  ·refine ae rfl (ab (aa bY rfl) (ae rfl (ab (ar ak rfl (by exact (show _=some (Value.int .i64 m.f) from (hk3.from_ (ag.rfl_.next E39)).rd 1 rfl))) ?_)));refine ae rfl (ab (aa cB rfl) (ae rfl (ab (ar ak rfl (by exact (show _=some (Value.int .i64 s.id) from (hk2.from_ (ag.rfl_.next E39)).rd 0 rfl))) ?_)));refine ae rfl (ab (dm rfl rfl) (ab (aM (v:=.bool _) rfl rfl) (mvb rfl (aK (t:=54) rfl (fun Q115=>?_) (fun Q115=>?_)))))
   ·replace Q115:=dK Q115;replace Q115:=ec Q115;refine ae rfl (ab (aa bY rfl) (ae rfl (ab (ar ak rfl (by exact (show _=some (Value.int .i64 m.f) from (hk3.from_ (ag.rfl_.next E39)).rd 1 rfl))) ?_)));refine ae rfl (ab (aa cd rfl) (ae rfl (ab (ar ak rfl (by exact (show _=some (Value.int .i64 s.nodes) from (hk2.from_ (ag.rfl_.next E39)).rd 1 rfl))) ?_)));refine ae rfl (ab (eT rfl rfl) (ab (aM (v:=.bool _) rfl rfl) (asb rfl (an (ai (aE (bA (v:=.bool _) rfl rfl (⟨congrArg Value.bool ?_,(hB.next E39)⟩))))))))
    first
     |(rw [hbf];rfl)
     |(have hok:OkM m:=by rw [hbb,decide_eq_true_eq] at hbt;exact hbt
       rw [hbt,Bool.true_and,eq_comm]
       first
        |(rw [←Bool.not_eq_true,fW (by omega) hok];rintro ⟨h1,h2,h3,-⟩;omega)
        |(rw [Bool.eq_iff_iff,fW (by omega) hok,decide_eq_true_eq];exact ⟨fun h=>h.2.2.1,fun h=>⟨by omega,by omega,h,hle⟩⟩)
        |(rw [fW (by omega) hok];exact ⟨by omega,by omega,by omega,hle⟩))
   replace Q115:=dL Q115;replace Q115:=eb Q115;refine aq rfl rfl (aq rfl rfl (aq rfl rfl (aq rfl rfl (aq rfl rfl (ab (ay (v:=.bool _) rfl rfl) (asb rfl (an (ai (aE (bA (v:=.bool _) rfl rfl ?_))))))))));refine ⟨congrArg Value.bool ?_,(hB.next E39)⟩
   first
    |(rw [hbf];rfl)
    |(have hok:OkM m:=by rw [hbb,decide_eq_true_eq] at hbt;exact hbt
      rw [hbt,Bool.true_and,eq_comm]
      first
       |(rw [←Bool.not_eq_true,fW (by omega) hok];rintro ⟨h1,h2,h3,-⟩;omega)
       |(rw [Bool.eq_iff_iff,fW (by omega) hok,decide_eq_true_eq];exact ⟨fun h=>h.2.2.1,fun h=>⟨by omega,by omega,h,hle⟩⟩)
       |(rw [fW (by omega) hok];exact ⟨by omega,by omega,by omega,hle⟩))
  refine aq rfl rfl (aq rfl rfl (aq rfl rfl (aq rfl rfl (aq rfl rfl (ab (ay (v:=.bool _) rfl rfl) (mvb rfl (aq rfl rfl (aq rfl rfl ?_))))))));refine aq rfl rfl (aq rfl rfl (aq rfl rfl (ab (ay (v:=.bool _) rfl rfl) (asb rfl (an (ai (aE (bA (v:=.bool _) rfl rfl (⟨congrArg Value.bool ?_,(hB.next E39)⟩)))))))))
  first
   |(rw [hbf];rfl)
   |(have hok:OkM m:=by rw [hbb,decide_eq_true_eq] at hbt;exact hbt
     rw [hbt,Bool.true_and,eq_comm]
     first
      |(rw [←Bool.not_eq_true,fW (by omega) hok];rintro ⟨h1,h2,h3,-⟩;omega)
      |(rw [Bool.eq_iff_iff,fW (by omega) hok,decide_eq_true_eq];exact ⟨fun h=>h.2.2.1,fun h=>⟨by omega,by omega,h,hle⟩⟩)
      |(rw [fW (by omega) hok];exact ⟨by omega,by omega,by omega,hle⟩))
 have hbf:bb=false:=Q113;refine aq rfl rfl (aq rfl rfl (aq rfl rfl (aq rfl rfl (aq rfl rfl (ab (ay (v:=.bool _) rfl rfl) (mvb rfl (aq rfl rfl (aq rfl rfl ?_))))))));refine aq rfl rfl (aq rfl rfl (aq rfl rfl (ab (ay (v:=.bool _) rfl rfl) (mvb rfl (aq rfl rfl (aq rfl rfl (aq rfl rfl (aq rfl rfl ?_))))))));refine aq rfl rfl (ab (ay (v:=.bool _) rfl rfl) (asb rfl (an (ai (aE (bA (v:=.bool _) rfl rfl (⟨congrArg Value.bool ?_,(hB.next E39)⟩)))))))
 first
  |(rw [hbf];rfl)
  |(have hok:OkM m:=by rw [hbb,decide_eq_true_eq] at hbt;exact hbt
    rw [hbt,Bool.true_and,eq_comm]
    first
     |(rw [←Bool.not_eq_true,fW (by omega) hok];rintro ⟨h1,h2,h3,-⟩;omega)
     |(rw [Bool.eq_iff_iff,fW (by omega) hok,decide_eq_true_eq];exact ⟨fun h=>h.2.2.1,fun h=>⟨by omega,by omega,h,hle⟩⟩)
     |(rw [fW (by omega) hok];exact ⟨by omega,by omega,by omega,hle⟩))
theorem nr (s:Rf) (a:Ra) (m:Msg) (w:World) (he:Em w m) (hl:m.es.length≤1000000) (hk:m.k=5) (hmr:yf m) {b:Bool} (h:decide (pC s m)=b):Rt prog 45 [.agg (rfV s a).toArray,.agg (bC m).toArray] w fun v w'=>v=.bool b∧ag w w':=by
 subst h;refine (tp s a m w he hl hk hmr _ rfl).mono fun v w' h=>⟨h.1.trans (congrArg Value.bool ?_),h.2⟩
 rw [Bool.eq_iff_iff,Bool.and_eq_true,decide_eq_true_eq,decide_eq_true_eq];exact Iff.rfl
theorem ic:aQ prog 47=true:=by kernel_rfl
theorem jD:cI prog 41 2=some 14:=by kernel_rfl
theorem iU:aQ prog 30=true:=by kernel_rfl
theorem nh (i:Int) (n:Nat) (h:0<n):wiN i n<n:=Nat.mod_lt _ h
theorem r4:∀ (xs:List Ent) (p t:Int),0≤t→eD xs p t=true→0≤cV t xs
 |[],_,_,h,_=>h
 |e::r,p,t,h,hr=>by
  have h':(ga e p t&&eD r (p+1) e.t)=true:=hr;rw [Bool.and_eq_true] at h';have h1:=h'.1;unfold ga at h1;simp only [Bool.and_eq_true] at h1;have h2:=dw h1.1.2;rw [ns];exact r4 r (p+1) e.t (by omega) h'.2
theorem r5 {s:Rf} (h:RfF s):0≤cV s.t s.es:=by
 have hm:=h.lg;unfold cj at hm;simp only [Bool.and_eq_true] at hm;have h2:=dw hm.1.1.2;exact r4 s.es s.b s.t (by omega) hm.2
def yZ (s:Rf) (m:Msg):Msg:={ m with t:=s.id,f:=if m.f=s.id then s.id%s.nodes+1 else m.f,tm:=max 0 (min (s.term+(wiN m.tm 3:Nat)-1) 1099511627775) }
def By (s:Rf) (m:Msg):Msg:={ yZ s m with ix:=max 0 (bm s+(wiN m.ix 3:Nat)-1),lt:=max 0 (cV s.t s.es+(wiN m.lt 3:Nat)-1) }
structure Mo (z:Nat) (w:World) (m:Msg):Prop where
 o:w.ownsRow z 99 3 (.slice m.E m.es.length m.c) m.es.length (dT m.es)
theorem Mo.from_ {z:Nat} {w w':World} {m:Msg} (h:Mo z w m) (hF:ag w w'):Mo z w' m:=⟨h.o.kept_from hF⟩
theorem Mo.em {z:Nat} {w:World} {m:Msg} (h:Mo z w m):Em w m:=cC.of_own h.o rfl
theorem Mo.chg {z:Nat} {w w':World} {m:Msg} {U:Nat→Prop} (h:Mo z w m) (hC:Chg U w w') (hU:∀ k,U k→k<z∨w.heap.size≤k):Mo z w' m:=
 ⟨eE h.o hC fun k hk e=>by have:=eO h.o k hk;rcases hU k e with e | e <;> omega⟩
theorem Mo.off {z g:Nat} {w w':World} {m:Msg} {cs:Array Value} {T:TypeId} (h:Mo z w m) (hb:Blk w g T cs) (hT:T≠99) (hO:eM g w w'):Mo z w' m:=⟨gk h.o hO (j7 h.o hb hT)⟩
def at9 (m:Msg) (E:Option Addr) (c:Nat):Msg:={ m with E:=E,c:=c }
theorem uR (s:Rf) (a:Ra) (x:Ac) (w:World) (_:eX w s a) (_:s.votes.length≤1000000∧s.next.length≤1000000∧s.mtch.length≤1000000∧s.sent.length≤1000000∧s.reads.length≤1000000∧∀ q∈s.reads,q.acks.length≤1000000) (he:Em w x.m) (hlm:x.m.es.length≤1000000) (hf:x.fit=false) :
 Rt prog 44 [.agg (rfV s a).toArray,.agg (acV x).toArray] w (fun v w'=>(∃ E c,v=.agg (bC (at9 x.m E c)).toArray∧Mo w.heap.size w' (at9 x.m E c))∧ag w w'):=by
 refine enter (n:=206) Tryz.func44 rfl rfl rfl (ao (ah (bZ (v:=.agg _) rfl ?_)));intro b2 w1 E2 hb2 hk2;refine bZ (v:=.agg _) rfl ?_;intro b3 w2 E3 hb3 hk3;replace hk2:=hk2.from_ E3;refine bS dG ?_;intro b4 w3 E4 hb4 hk4;have hg4:w.heap.size≤b4:=by rw [hb4];exact (((ag.rfl_.next E2).next E3)).size
 replace hk2:=hk2.from_ E4;replace hk3:=hk3.from_ E4;refine an (ai (ao (ah (ab (aa fw rfl) (ab (aH (cs:=bC x.m) bj aY rfl (lk ((hk3.from_ ag.rfl_).whole))) ?_)))));have hM13:ag _ w3:=ag.rfl_;replace hk2:=hk2.from_ hM13;replace hk3:=hk3.from_ hM13;replace hk4:=hk4.from_ hM13;have hz13:=((((ag.rfl_.next E2).next E3).next E4)).size;have hlt2:=hk2.lt;have hlt3:=hk3.lt;have hlt4a:=hk4.lt;refine aC ic (jg x.m _ (he.from_ (((ag.rfl_.next E2).next E3).next E4)) (by omega)) ?_;rintro v13 w4 ⟨⟨A13,c13,rfl,ho13⟩,E13⟩;have ho13m:Mo _ w4 (at9 x.m A13 c13):=⟨ho13⟩;have hz13b:=E13.size;replace hk2:=hk2.from_ E13;replace hk3:=hk3.from_ E13;replace hk4:=hk4.from_ E13;have hM5:ag _ w4:=ag.rfl_;have hz5:=hM5.size;have hlt4b:=(hk4.from_ hM5).lt;refine bS dG ?_;intro b5 w5 E5 hb5 hk5;have hg5:w.heap.size≤b5:=by rw [hb5];exact (((((ag.rfl_.next E2).next E3).next E4).next E13)).size
 have hlt4:=hk4.lt;replace hk2:=hk2.from_ (hM5.next E5);replace hk3:=hk3.from_ (hM5.next E5);replace hk4:=hk4.from_ (hM5.next E5);replace ho13m:=ho13m.from_ (hM5.next E5);have h45:b4<b5:=by omega
 have h25:b2<b5:=by omega
 have h35:b3<b5:=by omega
 refine cg (vs:=[_,_,_,_,_,_,_,_,_,_,_,_,_]) aY rfl rfl (by simp [Value.oneCell']) (hk5) rfl ?_;intro w6 O1 P1;replace hk2:=hk2.only O1 (by omega);replace hk3:=hk3.only O1 (by omega);replace hk4:=hk4.only O1 (by omega);replace ho13m:=ho13m.off hk5 (by decide) O1;have hm5:Blk w6 b5 39 (bC (at9 x.m A13 c13)).toArray:=P1;refine an (ai (ao (ao (ah (ab (aa jD rfl) (ab (ar ft rfl (by exact (show _=some (Value.bool x.fit) from (hk3.from_ ag.rfl_).rd 14 rfl))) ?_))))));refine ab (c6 (cp rfl) (by rw [hf];rfl)) ?_;refine mvb rfl (aq rfl rfl (aq rfl rfl (aq rfl rfl (ab (aM (v:=.bool _) rfl rfl) (an (ai (aZ rfl (ao (ah (ab (aH (cs:=bC (at9 x.m A13 c13)) bj aY rfl ((hm5.from_ ag.rfl_).whole)) ?_))))))))));have hMe:ag _ w6:=ag.rfl_;have hke:=hk4.from_ hMe;refine cg (vs:=[_,_,_,_,_,_,_,_,_,_,_,_,_]) aY rfl rfl (by simp [Value.oneCell']) (hke) rfl ?_;intro w7 O3 P3;have hoe:=(ho13m.from_ hMe).off hke (by decide) O3;refine an (ai (aE (aG (ly rfl (dI (cs:=[_,_,_,_,_,_,_,_,_,_,_,_,_]) bj aY rfl (by exact P3.whole)) ?_))));exact ⟨⟨A13,c13,rfl,⟨dW hoe.o hz13⟩⟩,(((((((ag.rfl_.next E2).next E3).next E4).next E13).next E5).only O1 (hg5)).only O3 (hg4))⟩
theorem yY (s:Rf) (a:Ra) (x:Ac) (w:World) (hrd:eX w s a) (hl:s.votes.length≤1000000∧s.next.length≤1000000∧s.mtch.length≤1000000∧s.sent.length≤1000000∧s.reads.length≤1000000∧∀ q∈s.reads,q.acks.length≤1000000) (he:Em w x.m) (hlm:x.m.es.length≤1000000) (hf:x.fit=true) (hm:im s=false) :
 Rt prog 44 [.agg (rfV s a).toArray,.agg (acV x).toArray] w (fun v w'=>(∃ E c,v=.agg (bC (at9 x.m E c)).toArray∧Mo w.heap.size w' (at9 x.m E c))∧ag w w'):=by
 refine enter (n:=206) Tryz.func44 rfl rfl rfl (ao (ah (bZ (v:=.agg _) rfl ?_)));intro b2 w1 E2 hb2 hk2;refine bZ (v:=.agg _) rfl ?_;intro b3 w2 E3 hb3 hk3;replace hk2:=hk2.from_ E3;refine bS dG ?_;intro b4 w3 E4 hb4 hk4;have hg4:w.heap.size≤b4:=by rw [hb4];exact (((ag.rfl_.next E2).next E3)).size
 replace hk2:=hk2.from_ E4;replace hk3:=hk3.from_ E4;refine an (ai (ao (ah (ab (aa fw rfl) (ab (aH (cs:=bC x.m) bj aY rfl (lk ((hk3.from_ ag.rfl_).whole))) ?_)))));have hM13:ag _ w3:=ag.rfl_;replace hk2:=hk2.from_ hM13;replace hk3:=hk3.from_ hM13;replace hk4:=hk4.from_ hM13;have hz13:=((((ag.rfl_.next E2).next E3).next E4)).size;have hlt2:=hk2.lt;have hlt3:=hk3.lt;have hlt4a:=hk4.lt;refine aC ic (jg x.m _ (he.from_ (((ag.rfl_.next E2).next E3).next E4)) (by omega)) ?_;rintro v13 w4 ⟨⟨A13,c13,rfl,ho13⟩,E13⟩;have ho13m:Mo _ w4 (at9 x.m A13 c13):=⟨ho13⟩;have hz13b:=E13.size;replace hk2:=hk2.from_ E13;replace hk3:=hk3.from_ E13;replace hk4:=hk4.from_ E13;have hM5:ag _ w4:=ag.rfl_;have hz5:=hM5.size;have hlt4b:=(hk4.from_ hM5).lt;refine bS dG ?_;intro b5 w5 E5 hb5 hk5;have hg5:w.heap.size≤b5:=by rw [hb5];exact (((((ag.rfl_.next E2).next E3).next E4).next E13)).size
 have hlt4:=hk4.lt;replace hk2:=hk2.from_ (hM5.next E5);replace hk3:=hk3.from_ (hM5.next E5);replace hk4:=hk4.from_ (hM5.next E5);replace ho13m:=ho13m.from_ (hM5.next E5);have h45:b4<b5:=by omega
 have h25:b2<b5:=by omega
 have h35:b3<b5:=by omega
 refine cg (vs:=[_,_,_,_,_,_,_,_,_,_,_,_,_]) aY rfl rfl (by simp [Value.oneCell']) (hk5) rfl ?_;intro w6 O1 P1;replace hk2:=hk2.only O1 (by omega);replace hk3:=hk3.only O1 (by omega);replace hk4:=hk4.only O1 (by omega);replace ho13m:=ho13m.off hk5 (by decide) O1;have hm5:Blk w6 b5 39 (bC (at9 x.m A13 c13)).toArray:=P1;refine an (ai (ao (ao (ah (ab (aa jD rfl) (ab (ar ft rfl (by exact (show _=some (Value.bool x.fit) from (hk3.from_ ag.rfl_).rd 14 rfl))) ?_))))));refine ab (cu (cp rfl) (by rw [hf];rfl)) ?_;refine mvb rfl (ae rfl (ab (aH (cs:=rfV s a) aP aJ rfl ((hk2.from_ ag.rfl_).whole)) (ae rfl (aC iU (mH s a _ (hrd.from_ ((((((ag.rfl_.next E2).next E3).next E4).next E13).next E5).only O1 (hg5))) hl hm) ?_))));rintro v19 w7 ⟨rfl,E19⟩;refine ae rfl (ab (c6 (cp rfl) rfl) (ab (ay (v:=.bool _) rfl rfl) (an (ai (aZ rfl (ao (ah (ab (aH (cs:=bC (at9 x.m A13 c13)) bj aY rfl ((hm5.from_ (ag.rfl_.next E19)).whole)) ?_))))))));have hMe:ag _ w7:=(ag.rfl_.next E19);have hke:=hk4.from_ hMe;refine cg (vs:=[_,_,_,_,_,_,_,_,_,_,_,_,_]) aY rfl rfl (by simp [Value.oneCell']) (hke) rfl ?_;intro w8 O3 P3;have hoe:=(ho13m.from_ hMe).off hke (by decide) O3;refine an (ai (aE (aG (ly rfl (dI (cs:=[_,_,_,_,_,_,_,_,_,_,_,_,_]) bj aY rfl (by exact P3.whole)) ?_))));exact ⟨⟨A13,c13,rfl,⟨dW hoe.o hz13⟩⟩,((((((((ag.rfl_.next E2).next E3).next E4).next E13).next E5).only O1 (hg5)).next E19).only O3 (hg4))⟩
theorem gz:aQ prog 31=true:=by kernel_rfl
def ix5 (s:Rf) (m:Msg):Int:=if s.partOf≠0∧m.a.tmod 3≠0 then s.partOf else max 1 (min (bm s+(wiN m.ix 5:Nat)-2) 1099511625728)
def mj (s:Rf) (m:Msg):Msg:={ yZ s m with ix:=ix5 s m,lt:=cV s.t s.es,a:=if m.a.tmod 2=0 then (s.part.size:Int) else m.a }
theorem yW (s:Rf) (a:Ra) (x:Ac) (w:World) (hrd:eX w s a) (hl:s.votes.length≤1000000∧s.next.length≤1000000∧s.mtch.length≤1000000∧s.sent.length≤1000000∧s.reads.length≤1000000∧∀ q∈s.reads,q.acks.length≤1000000) (he:Em w x.m) (hlm:x.m.es.length≤1000000) (hf:x.fit=true) (hm:im s=true) (hk:x.m.k=5) (hff:x.m.f=s.id) :
 Rt prog 44 [.agg (rfV s a).toArray,.agg (acV x).toArray] w (fun v w'=>(∃ E c,v=.agg (bC (at9 (mj s x.m) E c)).toArray∧Mo w.heap.size w' (at9 (mj s x.m) E c))∧ag w w'):=by
 have hF:=mP hm;have hnn:=hF.n;have hid:=hF.i;have hte:=hF.te;have hla:=hF.last;have hltb:=hF.lt;have hw6:=nh x.m.ix 5 (by decide);have hw1:=nh x.m.tm 3 (by decide);have hw2:=nh x.m.ix 3 (by decide);have hw3:=nh x.m.lt 3 (by decide);have hmod:0≤s.id%s.nodes∧s.id%s.nodes<s.nodes:=⟨Int.emod_nonneg _ (by omega),Int.emod_lt_of_pos _ (by omega)⟩
 have hlt0:-1≤cV s.t s.es:=by
  have:=r5 hF;omega
 refine enter (n:=206) Tryz.func44 rfl rfl rfl (ao (ah (bZ (v:=.agg _) rfl ?_)));intro b2 w1 E2 hb2 hk2;refine bZ (v:=.agg _) rfl ?_;intro b3 w2 E3 hb3 hk3;replace hk2:=hk2.from_ E3;refine bS dG ?_;intro b4 w3 E4 hb4 hk4;have hg4:w.heap.size≤b4:=by rw [hb4];exact (((ag.rfl_.next E2).next E3)).size
 replace hk2:=hk2.from_ E4;replace hk3:=hk3.from_ E4;refine an (ai (ao (ah (ab (aa fw rfl) (ab (aH (cs:=bC x.m) bj aY rfl (lk ((hk3.from_ ag.rfl_).whole))) ?_)))));have hM13:ag _ w3:=ag.rfl_;replace hk2:=hk2.from_ hM13;replace hk3:=hk3.from_ hM13;replace hk4:=hk4.from_ hM13;have hz13:=((((ag.rfl_.next E2).next E3).next E4)).size;have hlt2:=hk2.lt;have hlt3:=hk3.lt;have hlt4a:=hk4.lt;refine aC ic (jg x.m _ (he.from_ (((ag.rfl_.next E2).next E3).next E4)) (by omega)) ?_;rintro v13 w4 ⟨⟨A13,c13,rfl,ho13⟩,E13⟩;have ho13m:Mo _ w4 (at9 x.m A13 c13):=⟨ho13⟩;have hz13b:=E13.size;replace hk2:=hk2.from_ E13;replace hk3:=hk3.from_ E13;replace hk4:=hk4.from_ E13;have hM5:ag _ w4:=ag.rfl_;have hz5:=hM5.size;have hlt4b:=(hk4.from_ hM5).lt;refine bS dG ?_;intro b5 w5 E5 hb5 hk5;have hg5:w.heap.size≤b5:=by rw [hb5];exact (((((ag.rfl_.next E2).next E3).next E4).next E13)).size
 have hlt4:=hk4.lt;replace hk2:=hk2.from_ (hM5.next E5);replace hk3:=hk3.from_ (hM5.next E5);replace hk4:=hk4.from_ (hM5.next E5);replace ho13m:=ho13m.from_ (hM5.next E5);have h45:b4<b5:=by omega
 have h25:b2<b5:=by omega
 have h35:b3<b5:=by omega
 refine cg (vs:=[_,_,_,_,_,_,_,_,_,_,_,_,_]) aY rfl rfl (by simp [Value.oneCell']) (hk5) rfl ?_;intro w6 O1 P1;replace hk2:=hk2.only O1 (by omega);replace hk3:=hk3.only O1 (by omega);replace hk4:=hk4.only O1 (by omega);replace ho13m:=ho13m.off hk5 (by decide) O1;have hm5:Blk w6 b5 39 (bC (at9 x.m A13 c13)).toArray:=P1;refine an (ai (ao (ao (ah (ab (aa jD rfl) (ab (ar ft rfl (by exact (show _=some (Value.bool x.fit) from (hk3.from_ ag.rfl_).rd 14 rfl))) ?_))))));refine ab (cu (cp rfl) (by rw [hf];rfl)) ?_;refine mvb rfl (ae rfl (ab (aH (cs:=rfV s a) aP aJ rfl ((hk2.from_ ag.rfl_).whole)) (ae rfl (aC iU (mH s a _ (hrd.from_ ((((((ag.rfl_.next E2).next E3).next E4).next E13).next E5).only O1 (hg5))) hl hm) ?_))));rintro v19 w7 ⟨rfl,E19⟩;refine ae rfl (ab (cu (cp rfl) rfl) (ab (ay (v:=.bool _) rfl rfl) (an (ai (bg rfl (aO (ai (ao (ah (ab (aa cB rfl) (ab (ar ak rfl (by exact (show _=some (Value.int .i64 s.id) from (hk2.from_ (ag.rfl_.next E19)).rd 0 rfl))) ?_)))))))))));refine ab (aa ew rfl) ?_;have hMp:ag _ w7:=(ag.rfl_.next E19);have hm59:=hm5.from_ hMp;replace hk2:=hk2.from_ hMp;replace hk3:=hk3.from_ hMp;replace hk4:=hk4.from_ hMp;replace ho13m:=ho13m.from_ hMp;refine ej (v:=.int _ _) bc rfl rfl rfl (hm59) (by show 2<13;decide) ?_;intro w8 O4 P4;replace hk2:=hk2.only O4 (by omega);replace hk3:=hk3.only O4 (by omega);replace hk4:=hk4.only O4 (by omega);replace ho13m:=ho13m.off hm59 (by decide) O4;have hm4:Blk w8 b5 39 (bC (at9 { x.m with t:=s.id } A13 c13)).toArray:=P4;refine an (ai (ao (ao (ah (ab (aa bY rfl) (ab (ar ak rfl (by exact (show _=some (Value.int .i64 x.m.f) from (hm4.from_ ag.rfl_).rd 1 rfl))) ?_))))));refine ab (aa cB rfl) (ab (ar ak rfl (by exact (show _=some (Value.int .i64 s.id) from (hk2.from_ ag.rfl_).rd 0 rfl))) ?_);refine ab (c6 (bf rfl rfl) (beq_iff_eq.2 hff)) (an (ai (aZ rfl (ah (ab (aa cB rfl) (ab (ar ak rfl (by exact (show _=some (Value.int .i64 s.id) from (hk2.from_ ag.rfl_).rd 0 rfl))) ?_))))));refine ab (aa cd rfl) (ab (ar ak rfl (by exact (show _=some (Value.int .i64 s.nodes) from (hk2.from_ ag.rfl_).rd 1 rfl))) ?_);refine ab (wD rfl rfl (by omega)) (ab (cn rfl rfl (by omega)) (ab (aa bY rfl) ?_));have hMp:ag _ w8:=ag.rfl_;have hm49:=hm4.from_ hMp;replace hk2:=hk2.from_ hMp;replace hk3:=hk3.from_ hMp;replace hk4:=hk4.from_ hMp;replace ho13m:=ho13m.from_ hMp;refine ej (v:=.int _ _) bc rfl rfl rfl (hm49) (by show 1<13;decide) ?_;intro w9 O6 P6;replace hk2:=hk2.only O6 (by omega);replace hk3:=hk3.only O6 (by omega);replace hk4:=hk4.only O6 (by omega);replace ho13m:=ho13m.off hm49 (by decide) O6;have hm6:Blk w9 b5 39 (bC (at9 { x.m with t:=s.id,f:=s.id%s.nodes+1 } A13 c13)).toArray:=P6;refine an (ai (ao (ah (ab (aa bn rfl) (ab (aH (cs:=[.int .i64 s.b,.int .i64 s.t,.slice a.E s.es.length a.Ec]) bQ bh rfl (gW (show Blk _ b2 29 (rfV s a++[]).toArray from hk2.from_ ag.rfl_))) (aC m_ (oD s a.E s.es.length a.Ec _ (hrd.e.from_ (((((((((ag.rfl_.next E2).next E3).next E4).next E13).next E5).only O1 (hg5)).next E19).only O4 (hg5)).only O6 (hg5))) hF.lg) ?_))))));rintro v41 w10 ⟨rfl,E41⟩;refine mvt rfl (ab (a_ rfl rfl) (ab (a_ rfl rfl) (asi rfl (asi rfl (an (ai (ao ?_)))))));apply bK 10 [(44,eqp _),(45,eqp (.int .i64 s.term)),(46,eqp _),(47,eqp (.int .i64 x.m.tm)),(48,eqp _),(49,eqp _),(50,eqp _),(51,eqp _),(52,eqp _),(53,eqp _)] (by repeat first | exact ct | refine cr ?_ | refine bX ?_) (by kernel_rfl) (by kernel_rfl) ⟨aj _,aj _,aj _,aj _,aj _,aj _,aj _,aj _,aj _,aj _,trivial⟩
 case hop=>
  constructor
  ·rintro-w12 D12;exact au (aa bH rfl) rfl
  constructor
  ·rintro-w13 D13;rintro _ rfl;exact au (ar ak rfl (by exact (show _=some (Value.int .i64 s.term) from (hk2.from_ ((ag.rfl_.next E41).next D13)).rd 3 rfl))) rfl
  constructor
  ·rintro-w14 D14;exact au (aa bI rfl) rfl
  constructor
  ·rintro-w15 D15;rintro _ rfl;exact au (ar ak rfl (by exact (show _=some (Value.int .i64 x.m.tm) from (hm6.from_ ((ag.rfl_.next E41).next D15)).rd 3 rfl))) rfl
  constructor
  ·rintro-w16 D16;rintro v16_47 rfl;refine fL gz ((ky x.m.tm 3 _ (by decide)).mono ?_);rintro v _ ⟨rfl,rfl⟩;exact ⟨ag.rfl_,rfl⟩
  constructor
  ·rintro-w17 D17;rintro v17_45 rfl _ rfl;exact au (cn rfl rfl (by omega)) rfl
  constructor
  ·rintro-w18 D18;rintro _ rfl;exact au (eJ rfl rfl (by omega)) rfl
  constructor
  ·rintro-w19 D19;rintro _ rfl;exact au (j6 rfl rfl) rfl
  constructor
  ·rintro-w20 D20;rintro _ rfl;exact au (qt rfl rfl) rfl
  constructor
  ·rintro-w21 D21;exact au (aa bI rfl) rfl
  exact trivial
 case hend=>
  intro w22 D22;rintro _ rfl v45 rfl _ rfl v47 rfl _ rfl _ rfl _ rfl _ rfl _ rfl _ rfl;show St ..;have hMp:ag _ w22:=((ag.rfl_.next E41).next D22);have hm69:=hm6.from_ hMp;replace hk2:=hk2.from_ hMp;replace hk3:=hk3.from_ hMp;replace hk4:=hk4.from_ hMp;replace ho13m:=ho13m.from_ hMp;refine ej (v:=.int _ _) bc rfl rfl rfl (hm69) (by show 3<13;decide) ?_;intro w23 O8 P8;replace hk2:=hk2.only O8 (by omega);replace hk3:=hk3.only O8 (by omega);replace hk4:=hk4.only O8 (by omega);replace ho13m:=ho13m.off hm69 (by decide) O8;have hm8:Blk w23 b5 39 (bC (at9 { x.m with t:=s.id,f:=s.id%s.nodes+1,tm:=max 0 (min (s.term+(wiN x.m.tm 3:Nat)-1) 1099511627775) } A13 c13)).toArray:=P8;refine an (ai (e_ (G:=Int×Int) [7,8,9,10,54,55,56,57,58,59,60,61,62,63,64,65,66,67,68,69,70,71,72,73,74,75,76,77,78,79,80,81,82,83,84,85,86,87,88,89,90,91,92,93,94,95,96,97,98,99,100,101,102,103,104,105,106,107,108,109,110,111,112,113,114,115,116,117,118,119,120,121,122,123,124,125,126,127,128,129,130,131,132,133,134,135,136,137,138,139,140,141,142,143,144,145,146,147,148,149,150,151,152,153,154,155,156,157,158,159,160,161,162,163,164,165,166,167,168,169,170,171,172,173,174,175,176,177,178,179,180,181,182,183,184,185,186,187,188,189,190,191,192,193,194,195,196,197,198,199,200,201,202,203,204] (fun _=>[]) (fun (I9,A9) w'=>Blk w' b2 29 (rfV s a).toArray∧Blk w' b3 41 (acV x).toArray∧Blk w' b4 39 (.agg (bC zM).toArray:Value).cells∧Mo w.heap.size w' (at9 x.m A13 c13)∧I9=ix5 s x.m∧A9=(if x.m.a.tmod 2=0 then (s.part.size:Int) else x.m.a)∧Blk w' b5 39 (bC (at9 { x.m with t:=s.id,f:=s.id%s.nodes+1,tm:=max 0 (min (s.term+(wiN x.m.tm 3:Nat)-1) 1099511627775),ix:=I9,lt:=cV s.t s.es,a:=A9 } A13 c13)).toArray∧ag w w') ?_ ?_))
  ·refine ao (ah (ab (aa cH rfl) (ab (ar ak rfl (by exact (show _=some (Value.int .i64 x.m.k) from (hm8.from_ ag.rfl_).rd 0 rfl))) ?_)));refine an (ai (bk (ao (ah (ab (cu (bf rfl rfl) (beq_eq_false_iff_ne.2 (by show x.m.k≠_;omega))) ?_)))));refine asb rfl (an (ai (bg rfl (ao (ah (ab (cu (bf rfl rfl) (beq_eq_false_iff_ne.2 (by show x.m.k≠_;omega))) ?_))))));refine asb rfl (an (ai (bg rfl (ao (ah (ab (cu (bf rfl rfl) (beq_eq_false_iff_ne.2 (by show x.m.k≠_;omega))) ?_))))));refine asb rfl (an (ai (bg rfl (ao (ah (ab (c6 (bf rfl rfl) (beq_iff_eq.2 hk)) (asb rfl (an (ai (aZ rfl (ao (ah ?_))))))))))));refine mvi rfl (ab (aa bJ rfl) (ab (ar ak rfl (by exact (show _=some (Value.int .i64 x.m.ix) from (hm8.from_ ag.rfl_).rd 4 rfl))) ?_));refine aC gz (ky x.m.ix 5 _ (by decide)) ?_;rintro v163 w24 ⟨rfl,rfl⟩;refine ab (cn rfl rfl (by omega)) (ab (eJ rfl rfl (by omega)) (ab (j6 rfl rfl) (ab (qt rfl rfl) (ab (aa bJ rfl) ?_))));have hMp:ag _ w23:=ag.rfl_;have hm89:=hm8.from_ hMp;replace hk2:=hk2.from_ hMp;replace hk3:=hk3.from_ hMp;replace hk4:=hk4.from_ hMp;replace ho13m:=ho13m.from_ hMp;refine ej (v:=.int _ _) bc rfl rfl rfl (hm89) (by show 4<13;decide) ?_;intro w25 O30 P30;replace hk2:=hk2.only O30 (by omega);replace hk3:=hk3.only O30 (by omega);replace hk4:=hk4.only O30 (by omega);replace ho13m:=ho13m.off hm89 (by decide) O30;have hm30:Blk w25 b5 39 (bC (at9 { x.m with t:=s.id,f:=s.id%s.nodes+1,tm:=max 0 (min (s.term+(wiN x.m.tm 3:Nat)-1) 1099511627775),ix:=max 1 (min (bm s+(wiN x.m.ix 5:Nat)-2) 1099511625728) } A13 c13)).toArray:=P30;refine an (ai (e_ (G:=Int) [169,170,171,172,173,174,175,176,177,178,179,180] (fun _=>[(7,.int .i64 (cV s.t s.es))]) (fun I9 w'=>Blk w' b2 29 (rfV s a).toArray∧Blk w' b3 41 (acV x).toArray∧Blk w' b4 39 (.agg (bC zM).toArray:Value).cells∧Mo w.heap.size w' (at9 x.m A13 c13)∧I9=ix5 s x.m∧Blk w' b5 39 (bC (at9 { x.m with t:=s.id,f:=s.id%s.nodes+1,tm:=max 0 (min (s.term+(wiN x.m.tm 3:Nat)-1) 1099511627775),ix:=I9 } A13 c13)).toArray∧ag w w') ?_ ?_))
   ·refine ao (ah (ab (aa cA rfl) (ab (ar ak rfl (by exact (show _=some (Value.int .i64 s.partOf) from (hk2.from_ ag.rfl_).rd 21 rfl))) ?_)));refine ab (dm rfl rfl) (mvb rfl (Am (t:=172) rfl (fun Q26=>?_) (fun Q26=>?_)))
    ·have hp1:s.partOf≠0:=by simpa using Q26
     refine ae rfl (ab (aa cF rfl) (ae rfl (ab (ar ak rfl (by exact (show _=some (Value.int .i64 x.m.a) from (hm30.from_ ag.rfl_).rd 10 rfl))) ?_)));refine ae rfl (ab (mG rfl rfl (by decide)) (ae rfl (ab (dm rfl rfl) (ab (aM (v:=.bool _) rfl rfl) (an (ai (AQ rfl (fun Q27=>?_) (fun Q27=>?_))))))))
     ·have hp2:x.m.a.tmod 3≠0:=by simpa using Q27
      refine ah (ab (aa cA rfl) (ab (ar ak rfl (by exact (show _=some (Value.int .i64 s.partOf) from (hk2.from_ ag.rfl_).rd 21 rfl))) ?_));refine ab (aa bJ rfl) ?_;have hMp:ag _ w25:=ag.rfl_;have hm309:=hm30.from_ hMp;replace hk2:=hk2.from_ hMp;replace hk3:=hk3.from_ hMp;replace hk4:=hk4.from_ hMp;replace ho13m:=ho13m.from_ hMp;refine ej (v:=.int _ _) bc rfl rfl rfl (hm309) (by show 4<13;decide) ?_;intro w28 O32 P32;replace hk2:=hk2.only O32 (by omega);replace hk3:=hk3.only O32 (by omega);replace hk4:=hk4.only O32 (by omega);replace ho13m:=ho13m.off hm309 (by decide) O32;have hm32:Blk w28 b5 39 (bC (at9 { x.m with t:=s.id,f:=s.id%s.nodes+1,tm:=max 0 (min (s.term+(wiN x.m.tm 3:Nat)-1) 1099511627775),ix:=s.partOf } A13 c13)).toArray:=P32;refine an ?_;refine bL (s.partOf) ⟨rfl,trivial⟩ (by (iterate 13 refine bd rfl ?_);exact br) ?_;exact ⟨hk2.from_ ag.rfl_,hk3.from_ ag.rfl_,hk4.from_ ag.rfl_,⟨dW (ho13m.from_ ag.rfl_).o hz13⟩,by unfold ix5;rw [if_pos ⟨hp1,hp2⟩],hm32.from_ ag.rfl_,((((((((((((((ag.rfl_.next E2).next E3).next E4).next E13).next E5).only O1 (hg5)).next E19).only O4 (hg5)).only O6 (hg5)).next E41).next D22).only O8 (hg5)).only O30 (hg5)).only O32 (hg5))⟩
     have hq1:x.m.a.tmod 3=0:=by simpa using Q27
     have hnn:¬ (s.partOf≠0∧x.m.a.tmod 3≠0):=fun e=>e.2 hq1
     refine aO ?_;refine bL ((max 1 (min (bm s+(wiN x.m.ix 5:Nat)-2) 1099511625728))) ⟨rfl,trivial⟩ (by (iterate 10 refine bd rfl ?_);exact br) ?_;exact ⟨hk2.from_ ag.rfl_,hk3.from_ ag.rfl_,hk4.from_ ag.rfl_,⟨dW (ho13m.from_ ag.rfl_).o hz13⟩,by unfold ix5;rw [if_neg hnn],hm30.from_ ag.rfl_,(((((((((((((ag.rfl_.next E2).next E3).next E4).next E13).next E5).only O1 (hg5)).next E19).only O4 (hg5)).only O6 (hg5)).next E41).next D22).only O8 (hg5)).only O30 (hg5))⟩
    have hq0:s.partOf=0:=by simpa using Q26
    have hnn:¬ (s.partOf≠0∧x.m.a.tmod 3≠0):=fun e=>e.1 hq0
    refine aq rfl rfl (aq rfl rfl (aq rfl rfl (aq rfl rfl (ab (ay (v:=.bool _) rfl rfl) (an (ai (bg rfl (aO ?_))))))));refine bL ((max 1 (min (bm s+(wiN x.m.ix 5:Nat)-2) 1099511625728))) ⟨rfl,trivial⟩ (by (iterate 10 refine bd rfl ?_);exact br) ?_;exact ⟨hk2.from_ ag.rfl_,hk3.from_ ag.rfl_,hk4.from_ ag.rfl_,⟨dW (ho13m.from_ ag.rfl_).o hz13⟩,by unfold ix5;rw [if_neg hnn],hm30.from_ ag.rfl_,(((((((((((((ag.rfl_.next E2).next E3).next E4).next E13).next E5).only O1 (hg5)).next E19).only O4 (hg5)).only O6 (hg5)).next E41).next D22).only O8 (hg5)).only O30 (hg5))⟩
   rintro I9 ρ29 w29 ⟨hk2,hk3,hk4,ho13m,hI9,hm33,hB⟩;refine ao (ah (mvi rfl (ab (aa cG rfl) ?_)));have hMp:ag _ w29:=ag.rfl_;have hm339:=hm33.from_ hMp;replace hk2:=hk2.from_ hMp;replace hk3:=hk3.from_ hMp;replace hk4:=hk4.from_ hMp;replace ho13m:=ho13m.from_ hMp;refine ej (v:=.int _ _) bc rfl rfl rfl (hm339) (by show 5<13;decide) ?_;intro w30 O33 P33;replace hk2:=hk2.only O33 (by omega);replace hk3:=hk3.only O33 (by omega);replace hk4:=hk4.only O33 (by omega);replace ho13m:=ho13m.off hm339 (by decide) O33;have hm34:Blk w30 b5 39 (bC (at9 { x.m with t:=s.id,f:=s.id%s.nodes+1,tm:=max 0 (min (s.term+(wiN x.m.tm 3:Nat)-1) 1099511627775),ix:=I9,lt:=cV s.t s.es } A13 c13)).toArray:=P33;refine an (ai (ao (ah (ab (aa cF rfl) (ab (ar ak rfl (by exact (show _=some (Value.int .i64 x.m.a) from (hm34.from_ ag.rfl_).rd 10 rfl))) ?_)))));refine ab (mG rfl rfl (by decide)) (ab (bf rfl rfl) (an (ai (AT rfl (fun Q31=>?_) (fun Q31=>?_)))))
   ·have hp3:x.m.a.tmod 2=0:=by simpa using Q31
    refine ah (ab (aa bw rfl) (ab (ar bF rfl (by exact (show _=some (Value.string s.part) from (hk2.from_ ag.rfl_).rd 20 rfl))) ?_));refine ab (df (by kernel_rfl) rfl) (ab (aa cF rfl) ?_);have hMp:ag _ w30:=ag.rfl_;have hm349:=hm34.from_ hMp;replace hk2:=hk2.from_ hMp;replace hk3:=hk3.from_ hMp;replace hk4:=hk4.from_ hMp;replace ho13m:=ho13m.from_ hMp;refine ej (v:=.int _ _) bc rfl rfl rfl (hm349) (by show 10<13;decide) ?_;intro w32 O35 P35;replace hk2:=hk2.only O35 (by omega);replace hk3:=hk3.only O35 (by omega);replace hk4:=hk4.only O35 (by omega);replace ho13m:=ho13m.off hm349 (by decide) O35;have hm35:Blk w32 b5 39 (bC (at9 { x.m with t:=s.id,f:=s.id%s.nodes+1,tm:=max 0 (min (s.term+(wiN x.m.tm 3:Nat)-1) 1099511627775),ix:=I9,lt:=cV s.t s.es,a:=(s.part.size:Int) } A13 c13)).toArray:=P35;refine an (bN ?_);refine bL ((I9,(s.part.size:Int))) trivial (by (iterate 42 refine bd rfl ?_);exact br) ?_;exact ⟨hk2.from_ ag.rfl_,hk3.from_ ag.rfl_,hk4.from_ ag.rfl_,ho13m.from_ ag.rfl_,hI9,by rw [if_pos hp3],hm35.from_ ag.rfl_,((hB.only O33 (hg5)).only O35 (hg5))⟩
   have hp3:¬ x.m.a.tmod 2=0:=by simpa using Q31
   refine aO (bN ?_);refine bL ((I9,x.m.a)) trivial (by (iterate 38 refine bd rfl ?_);exact br) ?_;exact ⟨hk2.from_ ag.rfl_,hk3.from_ ag.rfl_,hk4.from_ ag.rfl_,ho13m.from_ ag.rfl_,hI9,by rw [if_neg hp3],hm34.from_ ag.rfl_,(hB.only O33 (hg5))⟩
  rintro ⟨I9,A9⟩ ρ33 w33 ⟨hk2,hk3,hk4,ho13m,hI9,hA9,hm36,hB⟩;refine ao (ah (ab (aH (cs:=bC (at9 { x.m with t:=s.id,f:=s.id%s.nodes+1,tm:=max 0 (min (s.term+(wiN x.m.tm 3:Nat)-1) 1099511627775),ix:=I9,lt:=cV s.t s.es,a:=A9 } A13 c13)) bj aY rfl ((hm36.from_ ag.rfl_).whole)) ?_));have hMe:ag _ w33:=ag.rfl_;have hke:=hk4.from_ hMe;refine cg (vs:=[_,_,_,_,_,_,_,_,_,_,_,_,_]) aY rfl rfl (by simp [Value.oneCell']) (hke) rfl ?_;intro w34 O39 P39;have hoe:=(ho13m.from_ hMe).off hke (by decide) O39;refine an (ai (aE (ly rfl (dI (cs:=[_,_,_,_,_,_,_,_,_,_,_,_,_]) bj aY rfl (by exact P39.whole)) ?_)))
  have e9:(mj s x.m)=({ x.m with t:=s.id,f:=s.id%s.nodes+1,tm:=max 0 (min (s.term+(wiN x.m.tm 3:Nat)-1) 1099511627775),ix:=I9,lt:=cV s.t s.es,a:=A9 }:Msg):=by
   unfold mj yZ;rw [if_pos hff,hI9,hA9]
  rw [e9];exact ⟨⟨A13,c13,rfl,⟨hoe.o⟩⟩,(hB.only O39 (hg4))⟩
theorem yX (s:Rf) (a:Ra) (x:Ac) (w:World) (hrd:eX w s a) (hl:s.votes.length≤1000000∧s.next.length≤1000000∧s.mtch.length≤1000000∧s.sent.length≤1000000∧s.reads.length≤1000000∧∀ q∈s.reads,q.acks.length≤1000000) (he:Em w x.m) (hlm:x.m.es.length≤1000000) (hf:x.fit=true) (hm:im s=true) (hk:x.m.k=5) (hff:x.m.f≠s.id) :
 Rt prog 44 [.agg (rfV s a).toArray,.agg (acV x).toArray] w (fun v w'=>(∃ E c,v=.agg (bC (at9 (mj s x.m) E c)).toArray∧Mo w.heap.size w' (at9 (mj s x.m) E c))∧ag w w'):=by
 have hF:=mP hm;have hnn:=hF.n;have hid:=hF.i;have hte:=hF.te;have hla:=hF.last;have hltb:=hF.lt;have hw6:=nh x.m.ix 5 (by decide);have hw1:=nh x.m.tm 3 (by decide);have hw2:=nh x.m.ix 3 (by decide);have hw3:=nh x.m.lt 3 (by decide);have hmod:0≤s.id%s.nodes∧s.id%s.nodes<s.nodes:=⟨Int.emod_nonneg _ (by omega),Int.emod_lt_of_pos _ (by omega)⟩
 have hlt0:-1≤cV s.t s.es:=by
  have:=r5 hF;omega
 refine enter (n:=206) Tryz.func44 rfl rfl rfl (ao (ah (bZ (v:=.agg _) rfl ?_)));intro b2 w1 E2 hb2 hk2;refine bZ (v:=.agg _) rfl ?_;intro b3 w2 E3 hb3 hk3;replace hk2:=hk2.from_ E3;refine bS dG ?_;intro b4 w3 E4 hb4 hk4;have hg4:w.heap.size≤b4:=by rw [hb4];exact (((ag.rfl_.next E2).next E3)).size
 replace hk2:=hk2.from_ E4;replace hk3:=hk3.from_ E4;refine an (ai (ao (ah (ab (aa fw rfl) (ab (aH (cs:=bC x.m) bj aY rfl (lk ((hk3.from_ ag.rfl_).whole))) ?_)))));have hM13:ag _ w3:=ag.rfl_;replace hk2:=hk2.from_ hM13;replace hk3:=hk3.from_ hM13;replace hk4:=hk4.from_ hM13;have hz13:=((((ag.rfl_.next E2).next E3).next E4)).size;have hlt2:=hk2.lt;have hlt3:=hk3.lt;have hlt4a:=hk4.lt;refine aC ic (jg x.m _ (he.from_ (((ag.rfl_.next E2).next E3).next E4)) (by omega)) ?_;rintro v13 w4 ⟨⟨A13,c13,rfl,ho13⟩,E13⟩;have ho13m:Mo _ w4 (at9 x.m A13 c13):=⟨ho13⟩;have hz13b:=E13.size;replace hk2:=hk2.from_ E13;replace hk3:=hk3.from_ E13;replace hk4:=hk4.from_ E13;have hM5:ag _ w4:=ag.rfl_;have hz5:=hM5.size;have hlt4b:=(hk4.from_ hM5).lt;refine bS dG ?_;intro b5 w5 E5 hb5 hk5;have hg5:w.heap.size≤b5:=by rw [hb5];exact (((((ag.rfl_.next E2).next E3).next E4).next E13)).size
 have hlt4:=hk4.lt;replace hk2:=hk2.from_ (hM5.next E5);replace hk3:=hk3.from_ (hM5.next E5);replace hk4:=hk4.from_ (hM5.next E5);replace ho13m:=ho13m.from_ (hM5.next E5);have h45:b4<b5:=by omega
 have h25:b2<b5:=by omega
 have h35:b3<b5:=by omega
 refine cg (vs:=[_,_,_,_,_,_,_,_,_,_,_,_,_]) aY rfl rfl (by simp [Value.oneCell']) (hk5) rfl ?_;intro w6 O1 P1;replace hk2:=hk2.only O1 (by omega);replace hk3:=hk3.only O1 (by omega);replace hk4:=hk4.only O1 (by omega);replace ho13m:=ho13m.off hk5 (by decide) O1;have hm5:Blk w6 b5 39 (bC (at9 x.m A13 c13)).toArray:=P1;refine an (ai (ao (ao (ah (ab (aa jD rfl) (ab (ar ft rfl (by exact (show _=some (Value.bool x.fit) from (hk3.from_ ag.rfl_).rd 14 rfl))) ?_))))));refine ab (cu (cp rfl) (by rw [hf];rfl)) ?_;refine mvb rfl (ae rfl (ab (aH (cs:=rfV s a) aP aJ rfl ((hk2.from_ ag.rfl_).whole)) (ae rfl (aC iU (mH s a _ (hrd.from_ ((((((ag.rfl_.next E2).next E3).next E4).next E13).next E5).only O1 (hg5))) hl hm) ?_))));rintro v19 w7 ⟨rfl,E19⟩;refine ae rfl (ab (cu (cp rfl) rfl) (ab (ay (v:=.bool _) rfl rfl) (an (ai (bg rfl (aO (ai (ao (ah (ab (aa cB rfl) (ab (ar ak rfl (by exact (show _=some (Value.int .i64 s.id) from (hk2.from_ (ag.rfl_.next E19)).rd 0 rfl))) ?_)))))))))));refine ab (aa ew rfl) ?_;have hMp:ag _ w7:=(ag.rfl_.next E19);have hm59:=hm5.from_ hMp;replace hk2:=hk2.from_ hMp;replace hk3:=hk3.from_ hMp;replace hk4:=hk4.from_ hMp;replace ho13m:=ho13m.from_ hMp;refine ej (v:=.int _ _) bc rfl rfl rfl (hm59) (by show 2<13;decide) ?_;intro w8 O4 P4;replace hk2:=hk2.only O4 (by omega);replace hk3:=hk3.only O4 (by omega);replace hk4:=hk4.only O4 (by omega);replace ho13m:=ho13m.off hm59 (by decide) O4;have hm4:Blk w8 b5 39 (bC (at9 { x.m with t:=s.id } A13 c13)).toArray:=P4;refine an (ai (ao (ao (ah (ab (aa bY rfl) (ab (ar ak rfl (by exact (show _=some (Value.int .i64 x.m.f) from (hm4.from_ ag.rfl_).rd 1 rfl))) ?_))))));refine ab (aa cB rfl) (ab (ar ak rfl (by exact (show _=some (Value.int .i64 s.id) from (hk2.from_ ag.rfl_).rd 0 rfl))) ?_);refine ab (cu (bf rfl rfl) (beq_eq_false_iff_ne.2 hff)) (an (ai (bg rfl (aO (ai (ao (ah (ab (aa bn rfl) (ab (aH (cs:=[.int .i64 s.b,.int .i64 s.t,.slice a.E s.es.length a.Ec]) bQ bh rfl (gW (show Blk _ b2 29 (rfV s a++[]).toArray from hk2.from_ ag.rfl_))) (aC m_ (oD s a.E s.es.length a.Ec _ (hrd.e.from_ ((((((((ag.rfl_.next E2).next E3).next E4).next E13).next E5).only O1 (hg5)).next E19).only O4 (hg5))) hF.lg) ?_))))))))));rintro v41 w9 ⟨rfl,E41⟩;refine mvt rfl (ab (a_ rfl rfl) (ab (a_ rfl rfl) (asi rfl (asi rfl (an (ai (ao ?_)))))));apply bK 10 [(44,eqp _),(45,eqp (.int .i64 s.term)),(46,eqp _),(47,eqp (.int .i64 x.m.tm)),(48,eqp _),(49,eqp _),(50,eqp _),(51,eqp _),(52,eqp _),(53,eqp _)] (by repeat first | exact ct | refine cr ?_ | refine bX ?_) (by kernel_rfl) (by kernel_rfl) ⟨aj _,aj _,aj _,aj _,aj _,aj _,aj _,aj _,aj _,aj _,trivial⟩
 case hop=>
  constructor
  ·rintro-w11 D11;exact au (aa bH rfl) rfl
  constructor
  ·rintro-w12 D12;rintro _ rfl;exact au (ar ak rfl (by exact (show _=some (Value.int .i64 s.term) from (hk2.from_ ((ag.rfl_.next E41).next D12)).rd 3 rfl))) rfl
  constructor
  ·rintro-w13 D13;exact au (aa bI rfl) rfl
  constructor
  ·rintro-w14 D14;rintro _ rfl;exact au (ar ak rfl (by exact (show _=some (Value.int .i64 x.m.tm) from (hm4.from_ ((ag.rfl_.next E41).next D14)).rd 3 rfl))) rfl
  constructor
  ·rintro-w15 D15;rintro v15_47 rfl;refine fL gz ((ky x.m.tm 3 _ (by decide)).mono ?_);rintro v _ ⟨rfl,rfl⟩;exact ⟨ag.rfl_,rfl⟩
  constructor
  ·rintro-w16 D16;rintro v16_45 rfl _ rfl;exact au (cn rfl rfl (by omega)) rfl
  constructor
  ·rintro-w17 D17;rintro _ rfl;exact au (eJ rfl rfl (by omega)) rfl
  constructor
  ·rintro-w18 D18;rintro _ rfl;exact au (j6 rfl rfl) rfl
  constructor
  ·rintro-w19 D19;rintro _ rfl;exact au (qt rfl rfl) rfl
  constructor
  ·rintro-w20 D20;exact au (aa bI rfl) rfl
  exact trivial
 case hend=>
  intro w21 D21;rintro _ rfl v45 rfl _ rfl v47 rfl _ rfl _ rfl _ rfl _ rfl _ rfl _ rfl;show St ..;have hMp:ag _ w21:=((ag.rfl_.next E41).next D21);have hm49:=hm4.from_ hMp;replace hk2:=hk2.from_ hMp;replace hk3:=hk3.from_ hMp;replace hk4:=hk4.from_ hMp;replace ho13m:=ho13m.from_ hMp;refine ej (v:=.int _ _) bc rfl rfl rfl (hm49) (by show 3<13;decide) ?_;intro w22 O8 P8;replace hk2:=hk2.only O8 (by omega);replace hk3:=hk3.only O8 (by omega);replace hk4:=hk4.only O8 (by omega);replace ho13m:=ho13m.off hm49 (by decide) O8;have hm8:Blk w22 b5 39 (bC (at9 { x.m with t:=s.id,tm:=max 0 (min (s.term+(wiN x.m.tm 3:Nat)-1) 1099511627775) } A13 c13)).toArray:=P8;refine an (ai (e_ (G:=Int×Int) [7,8,9,10,54,55,56,57,58,59,60,61,62,63,64,65,66,67,68,69,70,71,72,73,74,75,76,77,78,79,80,81,82,83,84,85,86,87,88,89,90,91,92,93,94,95,96,97,98,99,100,101,102,103,104,105,106,107,108,109,110,111,112,113,114,115,116,117,118,119,120,121,122,123,124,125,126,127,128,129,130,131,132,133,134,135,136,137,138,139,140,141,142,143,144,145,146,147,148,149,150,151,152,153,154,155,156,157,158,159,160,161,162,163,164,165,166,167,168,169,170,171,172,173,174,175,176,177,178,179,180,181,182,183,184,185,186,187,188,189,190,191,192,193,194,195,196,197,198,199,200,201,202,203,204] (fun _=>[]) (fun (I9,A9) w'=>Blk w' b2 29 (rfV s a).toArray∧Blk w' b3 41 (acV x).toArray∧Blk w' b4 39 (.agg (bC zM).toArray:Value).cells∧Mo w.heap.size w' (at9 x.m A13 c13)∧I9=ix5 s x.m∧A9=(if x.m.a.tmod 2=0 then (s.part.size:Int) else x.m.a)∧Blk w' b5 39 (bC (at9 { x.m with t:=s.id,tm:=max 0 (min (s.term+(wiN x.m.tm 3:Nat)-1) 1099511627775),ix:=I9,lt:=cV s.t s.es,a:=A9 } A13 c13)).toArray∧ag w w') ?_ ?_))
  ·refine ao (ah (ab (aa cH rfl) (ab (ar ak rfl (by exact (show _=some (Value.int .i64 x.m.k) from (hm8.from_ ag.rfl_).rd 0 rfl))) ?_)));refine an (ai (bk (ao (ah (ab (cu (bf rfl rfl) (beq_eq_false_iff_ne.2 (by show x.m.k≠_;omega))) ?_)))));refine asb rfl (an (ai (bg rfl (ao (ah (ab (cu (bf rfl rfl) (beq_eq_false_iff_ne.2 (by show x.m.k≠_;omega))) ?_))))));refine asb rfl (an (ai (bg rfl (ao (ah (ab (cu (bf rfl rfl) (beq_eq_false_iff_ne.2 (by show x.m.k≠_;omega))) ?_))))));refine asb rfl (an (ai (bg rfl (ao (ah (ab (c6 (bf rfl rfl) (beq_iff_eq.2 hk)) (asb rfl (an (ai (aZ rfl (ao (ah ?_))))))))))));refine mvi rfl (ab (aa bJ rfl) (ab (ar ak rfl (by exact (show _=some (Value.int .i64 x.m.ix) from (hm8.from_ ag.rfl_).rd 4 rfl))) ?_));refine aC gz (ky x.m.ix 5 _ (by decide)) ?_;rintro v163 w23 ⟨rfl,rfl⟩;refine ab (cn rfl rfl (by omega)) (ab (eJ rfl rfl (by omega)) (ab (j6 rfl rfl) (ab (qt rfl rfl) (ab (aa bJ rfl) ?_))));have hMp:ag _ w22:=ag.rfl_;have hm89:=hm8.from_ hMp;replace hk2:=hk2.from_ hMp;replace hk3:=hk3.from_ hMp;replace hk4:=hk4.from_ hMp;replace ho13m:=ho13m.from_ hMp;refine ej (v:=.int _ _) bc rfl rfl rfl (hm89) (by show 4<13;decide) ?_;intro w24 O30 P30;replace hk2:=hk2.only O30 (by omega);replace hk3:=hk3.only O30 (by omega);replace hk4:=hk4.only O30 (by omega);replace ho13m:=ho13m.off hm89 (by decide) O30;have hm30:Blk w24 b5 39 (bC (at9 { x.m with t:=s.id,tm:=max 0 (min (s.term+(wiN x.m.tm 3:Nat)-1) 1099511627775),ix:=max 1 (min (bm s+(wiN x.m.ix 5:Nat)-2) 1099511625728) } A13 c13)).toArray:=P30;refine an (ai (e_ (G:=Int) [169,170,171,172,173,174,175,176,177,178,179,180] (fun _=>[(7,.int .i64 (cV s.t s.es))]) (fun I9 w'=>Blk w' b2 29 (rfV s a).toArray∧Blk w' b3 41 (acV x).toArray∧Blk w' b4 39 (.agg (bC zM).toArray:Value).cells∧Mo w.heap.size w' (at9 x.m A13 c13)∧I9=ix5 s x.m∧Blk w' b5 39 (bC (at9 { x.m with t:=s.id,tm:=max 0 (min (s.term+(wiN x.m.tm 3:Nat)-1) 1099511627775),ix:=I9 } A13 c13)).toArray∧ag w w') ?_ ?_))
   ·refine ao (ah (ab (aa cA rfl) (ab (ar ak rfl (by exact (show _=some (Value.int .i64 s.partOf) from (hk2.from_ ag.rfl_).rd 21 rfl))) ?_)));refine ab (dm rfl rfl) (mvb rfl (Am (t:=172) rfl (fun Q25=>?_) (fun Q25=>?_)))
    ·have hp1:s.partOf≠0:=by simpa using Q25
     refine ae rfl (ab (aa cF rfl) (ae rfl (ab (ar ak rfl (by exact (show _=some (Value.int .i64 x.m.a) from (hm30.from_ ag.rfl_).rd 10 rfl))) ?_)));refine ae rfl (ab (mG rfl rfl (by decide)) (ae rfl (ab (dm rfl rfl) (ab (aM (v:=.bool _) rfl rfl) (an (ai (AQ rfl (fun Q26=>?_) (fun Q26=>?_))))))))
     ·have hp2:x.m.a.tmod 3≠0:=by simpa using Q26
      refine ah (ab (aa cA rfl) (ab (ar ak rfl (by exact (show _=some (Value.int .i64 s.partOf) from (hk2.from_ ag.rfl_).rd 21 rfl))) ?_));refine ab (aa bJ rfl) ?_;have hMp:ag _ w24:=ag.rfl_;have hm309:=hm30.from_ hMp;replace hk2:=hk2.from_ hMp;replace hk3:=hk3.from_ hMp;replace hk4:=hk4.from_ hMp;replace ho13m:=ho13m.from_ hMp;refine ej (v:=.int _ _) bc rfl rfl rfl (hm309) (by show 4<13;decide) ?_;intro w27 O32 P32;replace hk2:=hk2.only O32 (by omega);replace hk3:=hk3.only O32 (by omega);replace hk4:=hk4.only O32 (by omega);replace ho13m:=ho13m.off hm309 (by decide) O32;have hm32:Blk w27 b5 39 (bC (at9 { x.m with t:=s.id,tm:=max 0 (min (s.term+(wiN x.m.tm 3:Nat)-1) 1099511627775),ix:=s.partOf } A13 c13)).toArray:=P32;refine an ?_;refine bL (s.partOf) ⟨rfl,trivial⟩ (by (iterate 13 refine bd rfl ?_);exact br) ?_;exact ⟨hk2.from_ ag.rfl_,hk3.from_ ag.rfl_,hk4.from_ ag.rfl_,⟨dW (ho13m.from_ ag.rfl_).o hz13⟩,by unfold ix5;rw [if_pos ⟨hp1,hp2⟩],hm32.from_ ag.rfl_,(((((((((((((ag.rfl_.next E2).next E3).next E4).next E13).next E5).only O1 (hg5)).next E19).only O4 (hg5)).next E41).next D21).only O8 (hg5)).only O30 (hg5)).only O32 (hg5))⟩
     have hq1:x.m.a.tmod 3=0:=by simpa using Q26
     have hnn:¬ (s.partOf≠0∧x.m.a.tmod 3≠0):=fun e=>e.2 hq1
     refine aO ?_;refine bL ((max 1 (min (bm s+(wiN x.m.ix 5:Nat)-2) 1099511625728))) ⟨rfl,trivial⟩ (by (iterate 10 refine bd rfl ?_);exact br) ?_;exact ⟨hk2.from_ ag.rfl_,hk3.from_ ag.rfl_,hk4.from_ ag.rfl_,⟨dW (ho13m.from_ ag.rfl_).o hz13⟩,by unfold ix5;rw [if_neg hnn],hm30.from_ ag.rfl_,((((((((((((ag.rfl_.next E2).next E3).next E4).next E13).next E5).only O1 (hg5)).next E19).only O4 (hg5)).next E41).next D21).only O8 (hg5)).only O30 (hg5))⟩
    have hq0:s.partOf=0:=by simpa using Q25
    have hnn:¬ (s.partOf≠0∧x.m.a.tmod 3≠0):=fun e=>e.1 hq0
    refine aq rfl rfl (aq rfl rfl (aq rfl rfl (aq rfl rfl (ab (ay (v:=.bool _) rfl rfl) (an (ai (bg rfl (aO ?_))))))));refine bL ((max 1 (min (bm s+(wiN x.m.ix 5:Nat)-2) 1099511625728))) ⟨rfl,trivial⟩ (by (iterate 10 refine bd rfl ?_);exact br) ?_;exact ⟨hk2.from_ ag.rfl_,hk3.from_ ag.rfl_,hk4.from_ ag.rfl_,⟨dW (ho13m.from_ ag.rfl_).o hz13⟩,by unfold ix5;rw [if_neg hnn],hm30.from_ ag.rfl_,((((((((((((ag.rfl_.next E2).next E3).next E4).next E13).next E5).only O1 (hg5)).next E19).only O4 (hg5)).next E41).next D21).only O8 (hg5)).only O30 (hg5))⟩
   rintro I9 ρ28 w28 ⟨hk2,hk3,hk4,ho13m,hI9,hm33,hB⟩;refine ao (ah (mvi rfl (ab (aa cG rfl) ?_)));have hMp:ag _ w28:=ag.rfl_;have hm339:=hm33.from_ hMp;replace hk2:=hk2.from_ hMp;replace hk3:=hk3.from_ hMp;replace hk4:=hk4.from_ hMp;replace ho13m:=ho13m.from_ hMp;refine ej (v:=.int _ _) bc rfl rfl rfl (hm339) (by show 5<13;decide) ?_;intro w29 O33 P33;replace hk2:=hk2.only O33 (by omega);replace hk3:=hk3.only O33 (by omega);replace hk4:=hk4.only O33 (by omega);replace ho13m:=ho13m.off hm339 (by decide) O33;have hm34:Blk w29 b5 39 (bC (at9 { x.m with t:=s.id,tm:=max 0 (min (s.term+(wiN x.m.tm 3:Nat)-1) 1099511627775),ix:=I9,lt:=cV s.t s.es } A13 c13)).toArray:=P33;refine an (ai (ao (ah (ab (aa cF rfl) (ab (ar ak rfl (by exact (show _=some (Value.int .i64 x.m.a) from (hm34.from_ ag.rfl_).rd 10 rfl))) ?_)))));refine ab (mG rfl rfl (by decide)) (ab (bf rfl rfl) (an (ai (AT rfl (fun Q30=>?_) (fun Q30=>?_)))))
   ·have hp3:x.m.a.tmod 2=0:=by simpa using Q30
    refine ah (ab (aa bw rfl) (ab (ar bF rfl (by exact (show _=some (Value.string s.part) from (hk2.from_ ag.rfl_).rd 20 rfl))) ?_));refine ab (df (by kernel_rfl) rfl) (ab (aa cF rfl) ?_);have hMp:ag _ w29:=ag.rfl_;have hm349:=hm34.from_ hMp;replace hk2:=hk2.from_ hMp;replace hk3:=hk3.from_ hMp;replace hk4:=hk4.from_ hMp;replace ho13m:=ho13m.from_ hMp;refine ej (v:=.int _ _) bc rfl rfl rfl (hm349) (by show 10<13;decide) ?_;intro w31 O35 P35;replace hk2:=hk2.only O35 (by omega);replace hk3:=hk3.only O35 (by omega);replace hk4:=hk4.only O35 (by omega);replace ho13m:=ho13m.off hm349 (by decide) O35;have hm35:Blk w31 b5 39 (bC (at9 { x.m with t:=s.id,tm:=max 0 (min (s.term+(wiN x.m.tm 3:Nat)-1) 1099511627775),ix:=I9,lt:=cV s.t s.es,a:=(s.part.size:Int) } A13 c13)).toArray:=P35;refine an (bN ?_);refine bL ((I9,(s.part.size:Int))) trivial (by (iterate 42 refine bd rfl ?_);exact br) ?_;exact ⟨hk2.from_ ag.rfl_,hk3.from_ ag.rfl_,hk4.from_ ag.rfl_,ho13m.from_ ag.rfl_,hI9,by rw [if_pos hp3],hm35.from_ ag.rfl_,((hB.only O33 (hg5)).only O35 (hg5))⟩
   have hp3:¬ x.m.a.tmod 2=0:=by simpa using Q30
   refine aO (bN ?_);refine bL ((I9,x.m.a)) trivial (by (iterate 38 refine bd rfl ?_);exact br) ?_;exact ⟨hk2.from_ ag.rfl_,hk3.from_ ag.rfl_,hk4.from_ ag.rfl_,ho13m.from_ ag.rfl_,hI9,by rw [if_neg hp3],hm34.from_ ag.rfl_,(hB.only O33 (hg5))⟩
  rintro ⟨I9,A9⟩ ρ32 w32 ⟨hk2,hk3,hk4,ho13m,hI9,hA9,hm36,hB⟩;refine ao (ah (ab (aH (cs:=bC (at9 { x.m with t:=s.id,tm:=max 0 (min (s.term+(wiN x.m.tm 3:Nat)-1) 1099511627775),ix:=I9,lt:=cV s.t s.es,a:=A9 } A13 c13)) bj aY rfl ((hm36.from_ ag.rfl_).whole)) ?_));have hMe:ag _ w32:=ag.rfl_;have hke:=hk4.from_ hMe;refine cg (vs:=[_,_,_,_,_,_,_,_,_,_,_,_,_]) aY rfl rfl (by simp [Value.oneCell']) (hke) rfl ?_;intro w33 O39 P39;have hoe:=(ho13m.from_ hMe).off hke (by decide) O39;refine an (ai (aE (ly rfl (dI (cs:=[_,_,_,_,_,_,_,_,_,_,_,_,_]) bj aY rfl (by exact P39.whole)) ?_)))
  have e9:(mj s x.m)=({ x.m with t:=s.id,tm:=max 0 (min (s.term+(wiN x.m.tm 3:Nat)-1) 1099511627775),ix:=I9,lt:=cV s.t s.es,a:=A9 }:Msg):=by
   unfold mj yZ;rw [if_neg hff,hI9,hA9]
  rw [e9];exact ⟨⟨A13,c13,rfl,⟨hoe.o⟩⟩,(hB.only O39 (hg4))⟩
theorem sG:aQ prog 141=true:=by kernel_rfl
theorem sH:aQ prog 140=true:=by kernel_rfl
theorem sF:aQ prog 142=true:=by kernel_rfl
theorem sE:aQ prog 143=true:=by kernel_rfl
theorem lN:∀ (a0:Int) (a1:Int) (a2:Int) (a3:Int),prog.built 39 [(0,.int .i64 a0),(1,.int .i64 a1),(2,.int .i64 a2),(3,.int .i64 a3)]=some #[.int .i64 a0,.int .i64 a1,.int .i64 a2,.int .i64 a3,.int .i64 0,.int .i64 0,.int .i64 0,.int .i64 0,.bool false,.slice none 0 0,.int .i64 0,.string ⟨#[]⟩,.bool false]:=by intros;kernel_rfl
theorem s4 (k f t tm ix lt cm rd:Int) (ok:Bool) (E:Option Addr) (n c:Nat) (a:Int) (d:ByteArray) (dn:Bool) (w:World) (hk:k=5) :
 Rt prog 141 [.agg #[.int .i64 k,.int .i64 f,.int .i64 t,.int .i64 tm,.int .i64 ix,.int .i64 lt,.int .i64 cm,.int .i64 rd,.bool ok,.slice E n c,.int .i64 a,.string d,.bool dn]] w (fun v w'=>(∃ ix' lt' cm' rd' ok' E' n' c' a' d' dn',v=.agg #[.int .i64 k,.int .i64 f,.int .i64 t,.int .i64 tm,.int .i64 ix',.int .i64 lt',.int .i64 cm',.int .i64 rd',.bool ok',.slice E' n' c',.int .i64 a',.string d',.bool dn']∧((ix'=0∧lt'=0∧cm'=0∧rd'=0∧a'=0∧ok'.toNat=0∧dn'.toNat=0∧d'.size=0∧n'=0)↔ExR k ix lt cm rd ok n a d dn))∧ag w w'):=by
 refine enter (n:=38) Tryz.func141 rfl rfl rfl (ao (ah (bZ (v:=.agg _) rfl ?_)));intro b1 w1 E1 hb1 hk1;have hg1:w.heap.size≤b1:=by rw [hb1];exact Nat.le_refl _
 refine bS dG ?_;intro b2 w2 E2 hb2 hk2;have hlt:=hk1.lt;have hg2:w.heap.size≤b2:=by rw [hb2];exact ((ag.rfl_.next E1)).size
 have h12:b1<b2:=by omega
 replace hk1:=hk1.from_ E2;refine an (ai (ao (ao (ah (ab (aa cH rfl) (ab (ar ak rfl (by exact hk1.rd 0 rfl)) ?_))))));refine an (ai (bk (ao (ah (ab (bf rfl rfl) (asb rfl (an (ai (AS rfl (fun Q3=>?_) (fun Q3=>?_))))))))))
 ·exfalso;omega
 refine ao (ah (ab (bf rfl rfl) (asb rfl (an (ai (AS rfl (fun Q7=>?_) (fun Q7=>?_)))))))
 ·exfalso;omega
 refine ao (ah (ab (bf rfl rfl) (asb rfl (an (ai (AS rfl (fun Q10=>?_) (fun Q10=>?_)))))))
 ·exfalso;omega
 refine ao (ah (ab (bf rfl rfl) (asb rfl (an (ai (AS rfl (fun Q17=>?_) (fun Q17=>?_)))))))
 ·exfalso;omega
 refine ao (ah (ab (bf rfl rfl) (asb rfl (an (ai (AS rfl (fun Q22=>?_) (fun Q22=>?_)))))));rotate_left
 ·exfalso;omega
 refine ah (ab (aa bJ rfl) (ej (v:=.int _ _) bc rfl rfl rfl (hk1) (by show 0+4<13;decide) ?_));intro w29 O11_0 P11_0;replace hk2:=hk2.only O11_0 (by omega);replace hk1:Blk w29 b1 39 #[.int .i64 k,.int .i64 f,.int .i64 t,.int .i64 tm,.int .i64 0,.int .i64 lt,.int .i64 cm,.int .i64 rd,.bool ok,.slice E n c,.int .i64 a,.string d,.bool dn]:=P11_0;refine ab (aa cG rfl) (ej (v:=.int _ _) bc rfl rfl rfl (hk1) (by show 0+5<13;decide) ?_);intro w30 O11_1 P11_1;replace hk2:=hk2.only O11_1 (by omega);replace hk1:Blk w30 b1 39 #[.int .i64 k,.int .i64 f,.int .i64 t,.int .i64 tm,.int .i64 0,.int .i64 0,.int .i64 cm,.int .i64 rd,.bool ok,.slice E n c,.int .i64 a,.string d,.bool dn]:=P11_1;refine ab (aa dk rfl) (ej (v:=.int _ _) bc rfl rfl rfl (hk1) (by show 0+7<13;decide) ?_);intro w31 O11_2 P11_2;replace hk2:=hk2.only O11_2 (by omega);replace hk1:Blk w31 b1 39 #[.int .i64 k,.int .i64 f,.int .i64 t,.int .i64 tm,.int .i64 0,.int .i64 0,.int .i64 cm,.int .i64 0,.bool ok,.slice E n c,.int .i64 a,.string d,.bool dn]:=P11_2;refine ab (aa cF rfl) (ej (v:=.int _ _) bc rfl rfl rfl (hk1) (by show 0+10<13;decide) ?_);intro w32 O11_3 P11_3;replace hk2:=hk2.only O11_3 (by omega);replace hk1:Blk w32 b1 39 #[.int .i64 k,.int .i64 f,.int .i64 t,.int .i64 tm,.int .i64 0,.int .i64 0,.int .i64 cm,.int .i64 0,.bool ok,.slice E n c,.int .i64 0,.string d,.bool dn]:=P11_3;refine ab (aa dC rfl) (ej (v:=.string _) ep rfl rfl rfl (hk1) (by show 0+11<13;decide) ?_);intro w33 O11_4 P11_4;replace hk2:=hk2.only O11_4 (by omega);replace hk1:Blk w33 b1 39 #[.int .i64 k,.int .i64 f,.int .i64 t,.int .i64 tm,.int .i64 0,.int .i64 0,.int .i64 cm,.int .i64 0,.bool ok,.slice E n c,.int .i64 0,.string ⟨#[]⟩,.bool dn]:=P11_4;refine ab (aa fp rfl) (ej (v:=.bool _) ph rfl rfl rfl (hk1) (by show 0+12<13;decide) ?_);intro w34 O11_5 P11_5;replace hk2:=hk2.only O11_5 (by omega);replace hk1:Blk w34 b1 39 #[.int .i64 k,.int .i64 f,.int .i64 t,.int .i64 tm,.int .i64 0,.int .i64 0,.int .i64 cm,.int .i64 0,.bool ok,.slice E n c,.int .i64 0,.string ⟨#[]⟩,.bool false]:=P11_5;refine an (bN (ai (ao (ah (ab (aH (cs:=[_,_,_,_,_,_,_,_,_,_,_,_,_]) bj aY rfl (by exact hk1.whole)) ?_)))));refine cg (vs:=[_,_,_,_,_,_,_,_,_,_,_,_,_]) aY rfl rfl (by simp [Value.oneCell']) (hk2) rfl ?_;intro w35 O14 P14;refine an (ai (aE (ly rfl (dI (cs:=[_,_,_,_,_,_,_,_,_,_,_,_,_]) bj aY rfl (by exact P14.whole)) ?_)));refine ⟨⟨_,_,_,_,_,_,_,_,_,_,_,rfl,?_⟩,(((((((((ag.rfl_.next E1).next E2).only O11_0 (hg1)).only O11_1 (hg1)).only O11_2 (hg1)).only O11_3 (hg1)).only O11_4 (hg1)).only O11_5 (hg1)).only O14 (hg2))⟩;unfold ExR
 first
  |(rw [if_pos (by omega)];(try simp only [Bool.toNat_false,bz,true_and,and_true]);first | done | omega)
  |(rw [if_neg (by omega),if_pos (by omega)];(try simp only [Bool.toNat_false,bz,true_and,and_true]);first | done | omega)
  |(rw [if_neg (by omega),if_neg (by omega),if_pos (by omega)];(try simp only [Bool.toNat_false,bz,true_and,and_true]);first | done | omega)
  |(rw [if_neg (by omega),if_neg (by omega),if_neg (by omega),if_pos (by omega)];(try simp only [Bool.toNat_false,bz,true_and,and_true]);first | done | omega)
  |(rw [if_neg (by omega),if_neg (by omega),if_neg (by omega),if_neg (by omega),if_pos (by omega)];(try simp only [Bool.toNat_false,bz,true_and]);first | done | omega)
  |(rw [if_neg (by omega),if_neg (by omega),if_neg (by omega),if_neg (by omega),if_neg (by omega),if_pos (by omega)];(try simp only [Bool.toNat_false,bz,true_and,and_true]);first | done | omega)
  |(rw [if_neg (by omega),if_neg (by omega),if_neg (by omega),if_neg (by omega),if_neg (by omega),if_neg (by omega)];omega)
theorem nZ (k f t tm ix lt cm rd:Int) (ok:Bool) (E:Option Addr) (n c:Nat) (a:Int) (d:ByteArray) (dn:Bool) (w:World) (hk:k=5) (es:List Ent) (hn:n=es.length) (he:cC w (.slice E n c) es) (_:es.length≤400000000000) (_:0≤ix∧ix≤1099511627775) (_:0≤lt∧lt≤1099511627775) :
 Rt prog 142 [.agg #[.int .i64 k,.int .i64 f,.int .i64 t,.int .i64 tm,.int .i64 ix,.int .i64 lt,.int .i64 cm,.int .i64 rd,.bool ok,.slice E n c,.int .i64 a,.string d,.bool dn]] w (fun v w'=>v=.bool (decide (ri k ix lt es))∧ag w w'):=by
 subst hn;refine enter (n:=29) Tryz.func142 rfl rfl rfl (ao (ah (bZ (v:=.agg _) rfl ?_)));intro b1 w1 E1 hb1 hk1;refine asb rfl (an (ai (ao (ao (ah (ab (aa cH rfl) (ab (ar ak rfl (by exact (hk1.from_ ag.rfl_).rd 0 rfl)) ?_)))))));refine ab (dm rfl rfl) (an (ai (aS rfl (fun Q2=>?_) (fun Q2=>?_))));rotate_left
 ·replace Q2:=dL Q2;replace Q2:=eb Q2;exfalso;omega
 replace Q2:=dK Q2;replace Q2:=ec Q2;refine ao (ah (asb rfl (an (ai (aE (aG (bA (v:=.bool _) rfl rfl (⟨congrArg Value.bool (decide_eq_true ?_).symm,(ag.rfl_.next E1)⟩))))))));intro h;omega
theorem ql (k f t tm ix lt cm rd:Int) (ok:Bool) (E:Option Addr) (n c:Nat) (a:Int) (d:ByteArray) (dn:Bool) (w:World) (hk:k=5) :
 Rt prog 143 [.agg #[.int .i64 k,.int .i64 f,.int .i64 t,.int .i64 tm,.int .i64 ix,.int .i64 lt,.int .i64 cm,.int .i64 rd,.bool ok,.slice E n c,.int .i64 a,.string d,.bool dn]] w (fun v w'=>v=.bool (decide (kf k ix a d))∧ag w w'):=by
 refine enter (n:=23) Tryz.func143 rfl rfl rfl (ao (ah (bZ (v:=.agg _) rfl ?_)));intro b1 w1 E1 hb1 hk1;refine asb rfl (an (ai (ao (ah (ab (aa cH rfl) (ab (ar ak rfl (by exact (hk1.from_ ag.rfl_).rd 0 rfl)) ?_))))));refine ab (dm rfl rfl) (mvb rfl (aK (t:=6) rfl (fun Q2=>?_) (fun Q2=>?_)))
 ·replace Q2:=dK Q2;replace Q2:=ec Q2;exfalso;omega
 replace Q2:=dL Q2;replace Q2:=eb Q2;refine ae rfl (ab (aa bJ rfl) (ae rfl (ab (ar ak rfl (by exact (hk1.from_ ag.rfl_).rd 4 rfl)) ?_)));refine ae rfl (fj (v:=.int _ _) bP rfl rfl rfl ?_);intro b9 w3 E9 hb9 hk9;refine ae rfl (aC jl (kx 1 1099511625728 b9 1 1 [ix] _ rfl hk9 (by simp)) ?_);rintro v10 w4 ⟨rfl,rfl⟩;refine ae rfl (mvb rfl (Ap (t:=11) rfl (fun Q5=>?_) (fun Q5=>?_)))
 ·simp only [bp,bE,and_true] at Q5;refine ae rfl (ab (aa cF rfl) (ae rfl (ab (ar ak rfl (by exact (hk1.from_ (ag.rfl_.next E9)).rd 10 rfl)) ?_)));refine ae rfl (ab (eT rfl rfl) (ae rfl (ab (aM (v:=.bool _) rfl rfl) (ae rfl (mvb rfl (Ap (t:=16) rfl (fun Q6=>?_) (fun Q6=>?_)))))))
  ·refine ae rfl (ab (aa dC rfl) (ae rfl (ab (ar bF rfl (by exact (hk1.from_ (ag.rfl_.next E9)).rd 11 rfl)) ?_)));refine ae rfl (ab (df (by kernel_rfl) rfl) (ae rfl (ab (eT rfl rfl) (ae rfl (ab (aM (v:=.bool _) rfl rfl) (ab (ay (v:=.bool _) rfl rfl) (asb rfl (an (ai (aE ?_))))))))));refine bA (v:=.bool _) rfl rfl (⟨congrArg Value.bool ?_,((ag.rfl_.next E1).next E9)⟩)
   first
    |(rw [eq_comm,decide_eq_false_iff_not];unfold kf;omega)
    |(rw [decide_eq_decide];unfold kf;omega)
    |(rw [eq_comm,decide_eq_true_eq];unfold kf;omega)
  refine aq rfl rfl (aq rfl rfl (aq rfl rfl (aq rfl rfl (ae rfl (ab (ay (v:=.bool _) rfl rfl) (ab (ay (v:=.bool _) rfl rfl) (asb rfl (an (ai (aE ?_))))))))));refine bA (v:=.bool _) rfl rfl (⟨congrArg Value.bool ?_,((ag.rfl_.next E1).next E9)⟩)
  first
   |(rw [eq_comm,decide_eq_false_iff_not];unfold kf;omega)
   |(rw [decide_eq_decide];unfold kf;omega)
   |(rw [eq_comm,decide_eq_true_eq];unfold kf;omega)
 simp only [bp,bE,and_true] at Q5;refine aq rfl rfl (aq rfl rfl (aq rfl rfl (ae rfl (ab (ay (v:=.bool _) rfl rfl) (ae rfl (mvb rfl (aq rfl rfl (aq rfl rfl ?_))))))));refine aq rfl rfl (aq rfl rfl (ae rfl (ab (ay (v:=.bool _) rfl rfl) (ab (ay (v:=.bool _) rfl rfl) (asb rfl (an (ai (aE (bA (v:=.bool _) rfl rfl (⟨congrArg Value.bool ?_,((ag.rfl_.next E1).next E9)⟩))))))))))
 first
  |(rw [eq_comm,decide_eq_false_iff_not];unfold kf;omega)
  |(rw [decide_eq_decide];unfold kf;omega)
  |(rw [eq_comm,decide_eq_true_eq];unfold kf;omega)
theorem xW (k f t tm ix lt cm rd:Int) (ok:Bool) (E:Option Addr) (n c:Nat) (a:Int) (d:ByteArray) (dn:Bool) (w:World) (hk:k=5) (es:List Ent) (hn:n=es.length) (he:cC w (.slice E n c) es) (hl:es.length≤400000000000) :
 Rt prog 98 [.agg #[.int .i64 k,.int .i64 f,.int .i64 t,.int .i64 tm,.int .i64 ix,.int .i64 lt,.int .i64 cm,.int .i64 rd,.bool ok,.slice E n c,.int .i64 a,.string d,.bool dn]] w (fun v w'=>v=.int .i64 (if OkR k f t tm ix lt cm rd ok es a d dn then 0 else 1)∧ag w w'):=by
 refine enter (n:=47) Tryz.func98 rfl rfl rfl (ao (ah (bZ (v:=.agg _) rfl ?_)));intro b1 w1 E1 hb1 hk1;refine asi rfl (an (ai (ao (ah (ab (aa cH rfl) (ab (ar ak rfl (by exact (hk1.from_ ag.rfl_).rd 0 rfl)) ?_))))));refine fj (v:=.int _ _) bP rfl rfl rfl ?_;intro b6 w2 E6 hb6 hk6;refine aC jl (kx 1 6 b6 1 1 [k] _ rfl hk6 (by simp)) ?_;rintro v7 w3 ⟨rfl,rfl⟩;refine mvb rfl (Ap (t:=8) rfl (fun Q4=>?_) (fun Q4=>?_))
 ·simp only [bp,bE,and_true] at Q4;have h8:=Q4;refine ae rfl (ab (aa bY rfl) (ae rfl (ab (ar ak rfl (by exact (hk1.from_ (ag.rfl_.next E6)).rd 1 rfl)) ?_)));refine ae rfl (ab (aa ew rfl) (ae rfl (ab (ar ak rfl (by exact (hk1.from_ (ag.rfl_.next E6)).rd 2 rfl)) ?_)));refine ae rfl (lV [.tmp 10,.tmp 12] [.int _ _,.int _ _] bP rfl rfl rfl rfl (by simp [Value.cells]) ?_);intro b13 w5 E13 hb13 hk13;refine ae rfl (aC jl (kx 1 7 b13 2 2 [f,t] _ rfl hk13 (by simp)) ?_);rintro v14 w6 ⟨rfl,rfl⟩;refine ab (aM (v:=.bool _) rfl rfl) (mvb rfl (Ap (t:=16) rfl (fun Q7=>?_) (fun Q7=>?_)))
  ·simp only [bp,bE,and_true] at Q7;have h16:=Q7;refine ae rfl (ab (aa bI rfl) (ae rfl (ab (ar ak rfl (by exact (hk1.from_ ((ag.rfl_.next E6).next E13)).rd 3 rfl)) ?_)));refine ae rfl (ab (aa bJ rfl) (ae rfl (ab (ar ak rfl (by exact (hk1.from_ ((ag.rfl_.next E6).next E13)).rd 4 rfl)) ?_)));refine ae rfl (ab (aa cG rfl) (ae rfl (ab (ar ak rfl (by exact (hk1.from_ ((ag.rfl_.next E6).next E13)).rd 5 rfl)) ?_)));refine ae rfl (ab (aa iA rfl) (ae rfl (ab (ar ak rfl (by exact (hk1.from_ ((ag.rfl_.next E6).next E13)).rd 6 rfl)) ?_)));refine ae rfl (ab (aa dk rfl) (ae rfl (ab (ar ak rfl (by exact (hk1.from_ ((ag.rfl_.next E6).next E13)).rd 7 rfl)) ?_)));refine ae rfl (ab (aa cF rfl) (ae rfl (ab (ar ak rfl (by exact (hk1.from_ ((ag.rfl_.next E6).next E13)).rd 10 rfl)) ?_)));refine ae rfl (lV [.tmp 18,.tmp 20,.tmp 22,.tmp 24,.tmp 26,.tmp 28] [.int _ _,.int _ _,.int _ _,.int _ _,.int _ _,.int _ _] bP rfl rfl rfl rfl (by simp [Value.cells]) ?_);intro b29 w8 E29 hb29 hk29;refine ae rfl (aC jl (kx 0 1099511627775 b29 6 6 [tm,ix,lt,cm,rd,a] _ rfl hk29 (by simp)) ?_);rintro v30 w9 ⟨rfl,rfl⟩;refine ab (aM (v:=.bool _) rfl rfl) (mvb rfl (Ap (t:=32) rfl (fun Q10=>?_) (fun Q10=>?_)))
   ·simp only [bp,bE,and_true] at Q10;have h32:=Q10;refine ae rfl (ab (aH (cs:=[_,_,_,_,_,_,_,_,_,_,_,_,_]) bj aY rfl (by exact (hk1.from_ (((ag.rfl_.next E6).next E13).next E29)).whole)) ?_);refine ae rfl (aC sG (s4 k f t tm ix lt cm rd ok E n c a d dn _ hk) ?_);rintro v34 w11 ⟨⟨ix',lt',cm',rd',ok',E',n',c',a',d',dn',rfl,hex⟩,E34⟩;refine ae rfl (aC sH (y6 k f t tm ix' lt' cm' rd' ok' E' n' c' a' d' dn' _) ?_);rintro v35 w12 ⟨rfl,E35⟩;refine ab (aM (v:=.bool _) rfl rfl) (mvb rfl (Ap (t:=37) rfl (fun Q13=>?_) (fun Q13=>?_)))
    ·have hx:=hex.1 Q13;have h37:=Q13;refine ae rfl (ab (aH (cs:=[_,_,_,_,_,_,_,_,_,_,_,_,_]) bj aY rfl (by exact (hk1.from_ (((((ag.rfl_.next E6).next E13).next E29).next E34).next E35)).whole)) ?_);refine ae rfl (aC sF (nZ k f t tm ix lt cm rd ok E n c a d dn _ hk es hn (he.from_ ((((((ag.rfl_.next E1).next E6).next E13).next E29).next E34).next E35)) hl (by omega) (by omega)) ?_);rintro v39 w14 ⟨rfl,E39⟩;refine ab (aM (v:=.bool _) rfl rfl) (mvb rfl (Ap (t:=41) rfl (fun Q15=>?_) (fun Q15=>?_)))
     ·have h41:=Q15;refine ae rfl (ab (aH (cs:=[_,_,_,_,_,_,_,_,_,_,_,_,_]) bj aY rfl (by exact (hk1.from_ ((((((ag.rfl_.next E6).next E13).next E29).next E34).next E35).next E39)).whole)) ?_);refine ae rfl (aC sE (ql k f t tm ix lt cm rd ok E n c a d dn _ hk) ?_);rintro v43 w16 ⟨rfl,E43⟩;refine ab (aM (v:=.bool _) rfl rfl) (asb rfl (an (ai (ao (ao (ah (mvb rfl (ab (cp rfl) (an (ai (aS rfl (fun Q17=>?_) (fun Q17=>?_))))))))))))
      ·replace Q17:=dK Q17;replace Q17:=dF_ Q17;have hno:¬ (OkR k f t tm ix lt cm rd ok es a d dn):=fun h=>Q17 h.2.2.2
       refine ao (ah (asi rfl (an (ai (aE (aG (bA (v:=.int _ _) rfl rfl (⟨bT (by rw [if_neg hno]),((((((((ag.rfl_.next E1).next E6).next E13).next E29).next E34).next E35).next E39).next E43)⟩))))))))
      replace Q17:=dL Q17;replace Q17:=dT_ Q17;have hyes:OkR k f t tm ix lt cm rd ok es a d dn:=⟨by unfold ig;omega,hn ▸ hx,h41,Q17⟩;refine aO (ai (ao (ah (asi rfl (an (ai (aE (bA (v:=.int _ _) rfl rfl (⟨bT (by rw [if_pos hyes]),((((((((ag.rfl_.next E1).next E6).next E13).next E29).next E34).next E35).next E39).next E43)⟩)))))))))
     have hno:¬ (OkR k f t tm ix lt cm rd ok es a d dn):=fun h=>Q15 h.2.2.1
     refine aq rfl rfl (aq rfl rfl (ab (ay (v:=.bool _) rfl rfl) (asb rfl (an (ai (ao (ao (ah (mvb rfl (ab (cp rfl) (an (ai (aZ rfl ?_)))))))))))));refine ao (ah (asi rfl (an (ai (aE (aG (bA (v:=.int _ _) rfl rfl (⟨bT (by rw [if_neg hno]),(((((((ag.rfl_.next E1).next E6).next E13).next E29).next E34).next E35).next E39)⟩))))))))
    have hno:¬ (OkR k f t tm ix lt cm rd ok es a d dn):=fun h=>Q13 (hex.2 (hn ▸ h.2.1))
    refine aq rfl rfl (aq rfl rfl (ab (ay (v:=.bool _) rfl rfl) (mvb rfl (aq rfl rfl (aq rfl rfl (ab (ay (v:=.bool _) rfl rfl) (asb rfl (an (ai (ao (ao (ah ?_))))))))))));refine mvb rfl (ab (cp rfl) (an (ai (aZ rfl (ao (ah (asi rfl (an (ai (aE (aG (bA (v:=.int _ _) rfl rfl (⟨bT (by rw [if_neg hno]),((((((ag.rfl_.next E1).next E6).next E13).next E29).next E34).next E35)⟩)))))))))))))
   simp only [bp,bE,and_true] at Q10;have hno:¬ (OkR k f t tm ix lt cm rd ok es a d dn):=fun h=>Q10 (by have:=h.1;unfold ig at this;omega)
   refine aq rfl rfl (aq rfl rfl (aq rfl rfl (ab (ay (v:=.bool _) rfl rfl) (mvb rfl (aq rfl rfl (aq rfl rfl (ab (ay (v:=.bool _) rfl rfl) (mvb rfl ?_))))))));refine aq rfl rfl (aq rfl rfl (ab (ay (v:=.bool _) rfl rfl) (asb rfl (an (ai (ao (ao (ah (mvb rfl (ab (cp rfl) (an (ai (aZ rfl ?_)))))))))))));refine ao (ah (asi rfl (an (ai (aE (aG (bA (v:=.int _ _) rfl rfl (⟨bT (by rw [if_neg hno]),((((ag.rfl_.next E1).next E6).next E13).next E29)⟩))))))))
  simp only [bp,bE,and_true] at Q7;have hno:¬ (OkR k f t tm ix lt cm rd ok es a d dn):=fun h=>Q7 (by have:=h.1;unfold ig at this;omega)
  refine aq rfl rfl (aq rfl rfl (aq rfl rfl (aq rfl rfl (aq rfl rfl (aq rfl rfl (aq rfl rfl (aq rfl rfl (aq rfl rfl ?_))))))));refine aq rfl rfl (aq rfl rfl (aq rfl rfl (aq rfl rfl (aq rfl rfl (ab (ay (v:=.bool _) rfl rfl) (mvb rfl (aq rfl rfl (aq rfl rfl ?_))))))));refine aq rfl rfl (ab (ay (v:=.bool _) rfl rfl) (mvb rfl (aq rfl rfl (aq rfl rfl (ab (ay (v:=.bool _) rfl rfl) (mvb rfl (aq rfl rfl (aq rfl rfl ?_))))))));refine ab (ay (v:=.bool _) rfl rfl) (asb rfl (an (ai (ao (ao (ah (mvb rfl (ab (cp rfl) (an (ai (aZ rfl (ao (ah (asi rfl ?_))))))))))))));refine an (ai (aE (aG (bA (v:=.int _ _) rfl rfl (⟨bT (by rw [if_neg hno]),(((ag.rfl_.next E1).next E6).next E13)⟩)))))
 simp only [bp,bE,and_true] at Q4;have hno:¬ (OkR k f t tm ix lt cm rd ok es a d dn):=fun h=>Q4 (by have:=h.1;unfold ig at this;omega)
 refine aq rfl rfl (aq rfl rfl (aq rfl rfl (aq rfl rfl (aq rfl rfl (aq rfl rfl (ab (ay (v:=.bool _) rfl rfl) (mvb rfl (aq rfl rfl ?_))))))));refine aq rfl rfl (aq rfl rfl (aq rfl rfl (aq rfl rfl (aq rfl rfl (aq rfl rfl (aq rfl rfl (aq rfl rfl (aq rfl rfl ?_))))))));refine aq rfl rfl (aq rfl rfl (aq rfl rfl (aq rfl rfl (ab (ay (v:=.bool _) rfl rfl) (mvb rfl (aq rfl rfl (aq rfl rfl (aq rfl rfl ?_))))))));refine ab (ay (v:=.bool _) rfl rfl) (mvb rfl (aq rfl rfl (aq rfl rfl (ab (ay (v:=.bool _) rfl rfl) (mvb rfl (aq rfl rfl (aq rfl rfl (ab (ay (v:=.bool _) rfl rfl) ?_))))))));refine asb rfl (an (ai (ao (ao (ah (mvb rfl (ab (cp rfl) (an (ai (aZ rfl (ao (ah (asi rfl (an (ai (aE (aG ?_)))))))))))))))));refine bA (v:=.int _ _) rfl rfl (⟨bT (by rw [if_neg hno]),((ag.rfl_.next E1).next E6)⟩)
theorem zQ (k f t tm ix lt cm rd:Int) (ok:Bool) (E:Option Addr) (n c:Nat) (a:Int) (d:ByteArray) (dn:Bool) (w:World) (hk:k=5) (es:List Ent) (hn:n=es.length) (he:cC w (.slice E n c) es) (hl:es.length≤400000000000) :
 Rt prog 88 [.agg #[.int .i64 k,.int .i64 f,.int .i64 t,.int .i64 tm,.int .i64 ix,.int .i64 lt,.int .i64 cm,.int .i64 rd,.bool ok,.slice E n c,.int .i64 a,.string d,.bool dn]] w (fun v w'=>v=.bool (decide (OkR k f t tm ix lt cm rd ok es a d dn))∧ag w w'):=by
 refine enter (n:=169) Tryz.func88 rfl rfl rfl (ao (ah (bZ (v:=.agg _) rfl ?_)));intro b1 w1 E1 hb1 hk1;have hg1:w.heap.size≤b1:=by rw [hb1];exact Nat.le_refl _
 refine asb rfl (an (ai (ao (ah (ab (aa cH rfl) (ab (ar ak rfl (by exact hk1.rd 0 rfl)) ?_))))));refine ab (aa bY rfl) (ab (ar ak rfl (by exact hk1.rd 1 rfl)) ?_);refine ab (aa ew rfl) (ab (ar ak rfl (by exact hk1.rd 2 rfl)) ?_);refine ab (aa bI rfl) (ab (ar ak rfl (by exact hk1.rd 3 rfl)) ?_);refine ab (cl (l:=[(0,.tmp 5),(1,.tmp 7),(2,.tmp 9),(3,.tmp 11)]) (lN _ _ _ _)) (bS dG ?_);intro b3 w2 E3 hb3 hk3;have hg3:w.heap.size≤b3:=by rw [hb3];exact ((ag.rfl_.next E1)).size
 have hlt:b1<b3:=by have:=hk1.lt;omega
 replace hk1:=hk1.from_ E3;refine cg (vs:=[_,_,_,_,_,_,_,_,_,_,_,_,_]) aY rfl rfl (by simp [Value.oneCell']) (hk3) rfl ?_;intro w3 O1 P1;replace hk1:=hk1.only O1 (by omega);have hX:=P1;refine an (ai (ao (ao (ah (ab (aa bY rfl) (ab (ar ak rfl (by exact (hk1.from_ ag.rfl_).rd 1 rfl)) ?_))))));refine aC nc (wV _ _) ?_;rintro v15 w4 ⟨rfl,rfl⟩;refine ab (cp rfl) (mvb rfl (aK (t:=17) rfl (fun Q5=>?_) (fun Q5=>?_)))
 ·replace Q5:=dK Q5;replace Q5:=dF_ Q5;refine bD rfl (an (ai (aZ rfl (ao (ah (asb rfl (an (ai (aE (aG (bA (v:=.bool _) rfl rfl (⟨congrArg Value.bool (decide_eq_false (fun h=>by have h1:=h.1;unfold ig at h1;omega)).symm,(((ag.rfl_.next E1).next E3).only O1 (hg3))⟩))))))))))))
 replace Q5:=dL Q5;replace Q5:=dT_ Q5;refine ae rfl (ab (aa ew rfl) (ae rfl (ab (ar ak rfl (by exact (hk1.from_ ag.rfl_).rd 2 rfl)) ?_)));refine ae rfl (aC nc (wV _ _) ?_);rintro v20 w6 ⟨rfl,rfl⟩;refine ae rfl (ab (cp rfl) (ab (ay (v:=.bool _) rfl rfl) (mvb rfl (aK (t:=23) rfl (fun Q7=>?_) (fun Q7=>?_)))))
 ·replace Q7:=dK Q7;replace Q7:=dF_ Q7;refine bD rfl (an (ai (aZ rfl (ao (ah (asb rfl (an (ai (aE (aG (bA (v:=.bool _) rfl rfl (⟨congrArg Value.bool (decide_eq_false (fun h=>by have h1:=h.1;unfold ig at h1;omega)).symm,(((ag.rfl_.next E1).next E3).only O1 (hg3))⟩))))))))))))
 replace Q7:=dL Q7;replace Q7:=dT_ Q7;refine ae rfl (ab (aa bI rfl) (ae rfl (ab (ar ak rfl (by exact (hk1.from_ ag.rfl_).rd 3 rfl)) ?_)));refine ae rfl (aC eR (pY _ _) ?_);rintro v26 w8 ⟨rfl,rfl⟩;refine ae rfl (ab (cp rfl) (ab (ay (v:=.bool _) rfl rfl) (mvb rfl (aK (t:=29) rfl (fun Q9=>?_) (fun Q9=>?_)))))
 ·replace Q9:=dK Q9;replace Q9:=dF_ Q9;refine bD rfl (an (ai (aZ rfl (ao (ah (asb rfl (an (ai (aE (aG (bA (v:=.bool _) rfl rfl (⟨congrArg Value.bool (decide_eq_false (fun h=>by have h1:=h.1;unfold ig at h1;omega)).symm,(((ag.rfl_.next E1).next E3).only O1 (hg3))⟩))))))))))))
 replace Q9:=dL Q9;replace Q9:=dT_ Q9;refine ae rfl (ab (aa bJ rfl) (ae rfl (ab (ar ak rfl (by exact (hk1.from_ ag.rfl_).rd 4 rfl)) ?_)));refine ae rfl (aC eR (pY _ _) ?_);rintro v32 w10 ⟨rfl,rfl⟩;refine ae rfl (ab (cp rfl) (ab (ay (v:=.bool _) rfl rfl) (mvb rfl (aK (t:=35) rfl (fun Q11=>?_) (fun Q11=>?_)))))
 ·replace Q11:=dK Q11;replace Q11:=dF_ Q11;refine bD rfl (an (ai (aZ rfl (ao (ah (asb rfl (an (ai (aE (aG (bA (v:=.bool _) rfl rfl (⟨congrArg Value.bool (decide_eq_false (fun h=>by have h1:=h.1;unfold ig at h1;omega)).symm,(((ag.rfl_.next E1).next E3).only O1 (hg3))⟩))))))))))))
 replace Q11:=dL Q11;replace Q11:=dT_ Q11;refine ae rfl (ab (aa cG rfl) (ae rfl (ab (ar ak rfl (by exact (hk1.from_ ag.rfl_).rd 5 rfl)) ?_)));refine ae rfl (aC eR (pY _ _) ?_);rintro v38 w12 ⟨rfl,rfl⟩;refine ae rfl (ab (cp rfl) (ab (ay (v:=.bool _) rfl rfl) (mvb rfl (aK (t:=41) rfl (fun Q13=>?_) (fun Q13=>?_)))))
 ·replace Q13:=dK Q13;replace Q13:=dF_ Q13;refine bD rfl (an (ai (aZ rfl (ao (ah (asb rfl (an (ai (aE (aG (bA (v:=.bool _) rfl rfl (⟨congrArg Value.bool (decide_eq_false (fun h=>by have h1:=h.1;unfold ig at h1;omega)).symm,(((ag.rfl_.next E1).next E3).only O1 (hg3))⟩))))))))))))
 replace Q13:=dL Q13;replace Q13:=dT_ Q13;refine ae rfl (ab (aa iA rfl) (ae rfl (ab (ar ak rfl (by exact (hk1.from_ ag.rfl_).rd 6 rfl)) ?_)));refine ae rfl (aC eR (pY _ _) ?_);rintro v44 w14 ⟨rfl,rfl⟩;refine ae rfl (ab (cp rfl) (ab (ay (v:=.bool _) rfl rfl) (mvb rfl (aK (t:=47) rfl (fun Q15=>?_) (fun Q15=>?_)))))
 ·replace Q15:=dK Q15;replace Q15:=dF_ Q15;refine bD rfl (an (ai (aZ rfl (ao (ah (asb rfl (an (ai (aE (aG (bA (v:=.bool _) rfl rfl (⟨congrArg Value.bool (decide_eq_false (fun h=>by have h1:=h.1;unfold ig at h1;omega)).symm,(((ag.rfl_.next E1).next E3).only O1 (hg3))⟩))))))))))))
 replace Q15:=dL Q15;replace Q15:=dT_ Q15;refine ae rfl (ab (aa dk rfl) (ae rfl (ab (ar ak rfl (by exact (hk1.from_ ag.rfl_).rd 7 rfl)) ?_)));refine ae rfl (aC eR (pY _ _) ?_);rintro v50 w16 ⟨rfl,rfl⟩;refine ae rfl (ab (cp rfl) (ab (ay (v:=.bool _) rfl rfl) (mvb rfl (aK (t:=53) rfl (fun Q17=>?_) (fun Q17=>?_)))))
 ·replace Q17:=dK Q17;replace Q17:=dF_ Q17;refine bD rfl (an (ai (aZ rfl (ao (ah (asb rfl (an (ai (aE (aG (bA (v:=.bool _) rfl rfl (⟨congrArg Value.bool (decide_eq_false (fun h=>by have h1:=h.1;unfold ig at h1;omega)).symm,(((ag.rfl_.next E1).next E3).only O1 (hg3))⟩))))))))))))
 replace Q17:=dL Q17;replace Q17:=dT_ Q17;refine ae rfl (ab (aa cF rfl) (ae rfl (ab (ar ak rfl (by exact (hk1.from_ ag.rfl_).rd 10 rfl)) ?_)));refine ae rfl (aC eR (pY _ _) ?_);rintro v56 w18 ⟨rfl,rfl⟩;refine ae rfl (ab (cp rfl) (ab (ay (v:=.bool _) rfl rfl) (an (ai (aS rfl (fun Q19=>?_) (fun Q19=>?_))))))
 ·replace Q19:=dK Q19;replace Q19:=dF_ Q19;refine ao (ah (asb rfl (an (ai (aE (aG (bA (v:=.bool _) rfl rfl (⟨congrArg Value.bool (decide_eq_false (fun h=>by have h1:=h.1;unfold ig at h1;omega)).symm,(((ag.rfl_.next E1).next E3).only O1 (hg3))⟩))))))))
 replace Q19:=dL Q19;replace Q19:=dT_ Q19;refine aO (ai (e_ (G:=(Int×Int×Int×Int)×Bool×(Option Addr×Nat×Nat×List Ent)×Int×ByteArray×Bool) [2,59,60,61,62,63,64,65,66,67,68,69,70,71,72,73,74,75,76,77,78,79,80,81,82,83,84,85,86,87,88,89,90,91,92,93,94,95,96,97,98,99,100,101,102,103,104,105,106,107,108,109,110,111,112,113,114,115,116,117,118,119,120,121,122,123,124,125,126,127,128,129,130,131,132,133,134,135,136,137,138,139,140,141,142,143,144,145,146,147,148,149,150,151,152,153,154,155,156,157,158,159,160,161,162,163,164,165] (fun _=>[]) (fun ((ix',lt',cm',rd'),ok',(E',n',c',es'),a',d',dn') w'=>Blk w' b3 39 #[.int .i64 k,.int .i64 f,.int .i64 t,.int .i64 tm,.int .i64 ix',.int .i64 lt',.int .i64 cm',.int .i64 rd',.bool ok',.slice E' n' c',.int .i64 a',.string d',.bool dn']∧Blk w' b1 39 #[.int .i64 k,.int .i64 f,.int .i64 t,.int .i64 tm,.int .i64 ix,.int .i64 lt,.int .i64 cm,.int .i64 rd,.bool ok,.slice E n c,.int .i64 a,.string d,.bool dn]∧cC w' (.slice E' n' c') es'∧n'=es'.length∧es'.length≤es.length∧((ix'=ix∧lt'=lt∧cm'=cm∧rd'=rd∧ok'=ok∧es'=es∧a'=a∧d'=d∧dn'=dn)↔OkR k f t tm ix lt cm rd ok es a d dn)∧ag w w') ?_ ?_))
 ·refine ao (ah (ab (aa cH rfl) (ab (ar ak rfl (by exact (hk1.from_ ag.rfl_).rd 0 rfl)) ?_)));refine an (ai (bk (ao (ah (ab (bf rfl rfl) (asb rfl (an (ai (AS rfl (fun Q20=>?_) (fun Q20=>?_))))))))))
  ·have hap:ri k ix lt es:=fun h=>by omega
   have hsn:kf k ix a d:=fun h=>by omega
   have hnm:ig k f t tm ix lt cm rd a:=by unfold ig;omega
   exfalso;omega
  refine ao (ah (ab (bf rfl rfl) (asb rfl (an (ai (AS rfl (fun Q23=>?_) (fun Q23=>?_)))))))
  ·have hap:ri k ix lt es:=fun h=>by omega
   have hsn:kf k ix a d:=fun h=>by omega
   have hnm:ig k f t tm ix lt cm rd a:=by unfold ig;omega
   exfalso;omega
  refine ao (ah (ab (bf rfl rfl) (asb rfl (an (ai (AS rfl (fun Q25=>?_) (fun Q25=>?_)))))))
  ·have hsn:kf k ix a d:=fun h=>by omega
   have hnm:ig k f t tm ix lt cm rd a:=by unfold ig;omega
   exfalso;omega
  refine ao (ah (ab (bf rfl rfl) (asb rfl (an (ai (AS rfl (fun Q31=>?_) (fun Q31=>?_)))))))
  ·have hap:ri k ix lt es:=fun h=>by omega
   have hsn:kf k ix a d:=fun h=>by omega
   have hnm:ig k f t tm ix lt cm rd a:=by unfold ig;omega
   exfalso;omega
  refine ao (ah (ab (bf rfl rfl) (asb rfl (an (ai (AS rfl (fun Q34=>?_) (fun Q34=>?_)))))));rotate_left
  ·exfalso;omega
  have hap:ri k ix lt es:=fun h=>by omega
  have hnm:ig k f t tm ix lt cm rd a:=by unfold ig;omega
  refine ao ?_;have hU38:ke [(0,118,.pointer (some ⟨b1,4,none⟩)),(1,119,.int .i64 ix),(2,120,.pointer (some ⟨b1,5,none⟩)),(3,121,.int .i64 lt),(4,122,.pointer (some ⟨b1,7,none⟩)),(5,123,.int .i64 rd),(6,124,.pointer (some ⟨b1,10,none⟩)),(7,125,.int .i64 a),(8,126,.pointer (some ⟨b1,11,none⟩)),(9,127,.string d),(10,128,.pointer (some ⟨b1,12,none⟩)),(11,129,.bool dn),(12,130,.pointer (some ⟨b3,4,none⟩)),(14,131,.pointer (some ⟨b3,5,none⟩)),(16,132,.pointer (some ⟨b3,7,none⟩)),(18,133,.pointer (some ⟨b3,10,none⟩)),(20,134,.pointer (some ⟨b3,11,none⟩)),(22,135,.pointer (some ⟨b3,12,none⟩))]:=by simp [ke]
  refine lj [(0,118,.pointer (some ⟨b1,4,none⟩)),(1,119,.int .i64 ix),(2,120,.pointer (some ⟨b1,5,none⟩)),(3,121,.int .i64 lt),(4,122,.pointer (some ⟨b1,7,none⟩)),(5,123,.int .i64 rd),(6,124,.pointer (some ⟨b1,10,none⟩)),(7,125,.int .i64 a),(8,126,.pointer (some ⟨b1,11,none⟩)),(9,127,.string d),(10,128,.pointer (some ⟨b1,12,none⟩)),(11,129,.bool dn),(12,130,.pointer (some ⟨b3,4,none⟩)),(14,131,.pointer (some ⟨b3,5,none⟩)),(16,132,.pointer (some ⟨b3,7,none⟩)),(18,133,.pointer (some ⟨b3,10,none⟩)),(20,134,.pointer (some ⟨b3,11,none⟩)),(22,135,.pointer (some ⟨b3,12,none⟩))] (fun S w'=>Blk w' b1 39 #[.int .i64 k,.int .i64 f,.int .i64 t,.int .i64 tm,.int .i64 ix,.int .i64 lt,.int .i64 cm,.int .i64 rd,.bool ok,.slice E n c,.int .i64 a,.string d,.bool dn]∧Blk w' b3 39 #[.int .i64 k,.int .i64 f,.int .i64 t,.int .i64 tm,bif S 13 then .int .i64 ix else .int .i64 0,bif S 15 then .int .i64 lt else .int .i64 0,.int .i64 0,bif S 17 then .int .i64 rd else .int .i64 0,.bool false,.slice none 0 0,bif S 19 then .int .i64 a else .int .i64 0,bif S 21 then .string d else .string ⟨#[]⟩,bif S 23 then .bool dn else .bool false]∧ag w w') (by kernel_rfl) (by kernel_rfl) hU38 (by simp) (⟨hk1.from_ ag.rfl_.d1,hX.from_ ag.rfl_.d1,((((ag.rfl_.next E1).next E3).only O1 (hg3))).d1⟩) ?_ ?_
  ·constructor
   ·rintro S L' wS hI hM hS0 ⟨-⟩;have e1:=hI.1 1 (by simp);have hM':=hM;obtain ⟨hk1,hX,hB⟩:=hM';exact bq (aa bJ e1) ⟨hI.put hU38 (.head _),hM⟩
   constructor
   ·rintro S L' wS hI hM hS0 ⟨d0,-⟩;have e118:bu L' 118=.pointer (some ⟨b1,4,none⟩):=hI.get (i:=0) (.head _) d0;have hM':=hM;obtain ⟨hk1,hX,hB⟩:=hM';exact bq (ar ak e118 (by exact hk1.rd 4 rfl)) ⟨hI.put hU38 (.tail _ (.head _)),hM⟩
   constructor
   ·rintro S L' wS hI hM hS0 ⟨-,-⟩;have e1:=hI.1 1 (by simp);have hM':=hM;obtain ⟨hk1,hX,hB⟩:=hM';exact bq (aa cG e1) ⟨hI.put hU38 (gM 2 rfl),hM⟩
   constructor
   ·rintro S L' wS hI hM hS0 ⟨d2,-,-⟩;have e120:bu L' 120=.pointer (some ⟨b1,5,none⟩):=hI.get (i:=2) (gM 2 rfl) d2;have hM':=hM;obtain ⟨hk1,hX,hB⟩:=hM';exact bq (ar ak e120 (by exact hk1.rd 5 rfl)) ⟨hI.put hU38 (gM 3 rfl),hM⟩
   constructor
   ·rintro S L' wS hI hM hS0 ⟨-,-⟩;have e1:=hI.1 1 (by simp);have hM':=hM;obtain ⟨hk1,hX,hB⟩:=hM';exact bq (aa dk e1) ⟨hI.put hU38 (gM 4 rfl),hM⟩
   constructor
   ·rintro S L' wS hI hM hS0 ⟨d4,-,-⟩;have e122:bu L' 122=.pointer (some ⟨b1,7,none⟩):=hI.get (i:=4) (gM 4 rfl) d4;have hM':=hM;obtain ⟨hk1,hX,hB⟩:=hM';exact bq (ar ak e122 (by exact hk1.rd 7 rfl)) ⟨hI.put hU38 (gM 5 rfl),hM⟩
   constructor
   ·rintro S L' wS hI hM hS0 ⟨-,-⟩;have e1:=hI.1 1 (by simp);have hM':=hM;obtain ⟨hk1,hX,hB⟩:=hM';exact bq (aa cF e1) ⟨hI.put hU38 (gM 6 rfl),hM⟩
   constructor
   ·rintro S L' wS hI hM hS0 ⟨d6,-,-⟩;have e124:bu L' 124=.pointer (some ⟨b1,10,none⟩):=hI.get (i:=6) (gM 6 rfl) d6;have hM':=hM;obtain ⟨hk1,hX,hB⟩:=hM';exact bq (ar ak e124 (by exact hk1.rd 10 rfl)) ⟨hI.put hU38 (gM 7 rfl),hM⟩
   constructor
   ·rintro S L' wS hI hM hS0 ⟨-,-⟩;have e1:=hI.1 1 (by simp);have hM':=hM;obtain ⟨hk1,hX,hB⟩:=hM';exact bq (aa dC e1) ⟨hI.put hU38 (gM 8 rfl),hM⟩
   constructor
   ·rintro S L' wS hI hM hS0 ⟨d8,-,-⟩;have e126:bu L' 126=.pointer (some ⟨b1,11,none⟩):=hI.get (i:=8) (gM 8 rfl) d8;have hM':=hM;obtain ⟨hk1,hX,hB⟩:=hM';exact bq (ar bF e126 (by exact hk1.rd 11 rfl)) ⟨hI.put hU38 (gM 9 rfl),hM⟩
   constructor
   ·rintro S L' wS hI hM hS0 ⟨-,-⟩;have e1:=hI.1 1 (by simp);have hM':=hM;obtain ⟨hk1,hX,hB⟩:=hM';exact bq (aa fp e1) ⟨hI.put hU38 (gM 10 rfl),hM⟩
   constructor
   ·rintro S L' wS hI hM hS0 ⟨d10,-,-⟩;have e128:bu L' 128=.pointer (some ⟨b1,12,none⟩):=hI.get (i:=10) (gM 10 rfl) d10;have hM':=hM;obtain ⟨hk1,hX,hB⟩:=hM';exact bq (ar ft e128 (by exact hk1.rd 12 rfl)) ⟨hI.put hU38 (gM 11 rfl),hM⟩
   constructor
   ·rintro S L' wS hI hM hS0 ⟨d0,d1,-,-,-,-,-,-,-,-,-,-,-⟩;have e3:=hI.1 3 (by simp);have hM':=hM;obtain ⟨hk1,hX,hB⟩:=hM';exact bq (aa bJ e3) ⟨hI.put hU38 (gM 12 rfl),hM⟩
   constructor
   ·rintro S L' wS hI hM hS0 ⟨d12,d1,d0,d1,-,-,-,-,-,-,-,-,-,-,-⟩;have e119:bu L' 119=.int .i64 ix:=hI.get (i:=1) (.tail _ (.head _)) d1;have e130:bu L' 130=.pointer (some ⟨b3,4,none⟩):=hI.get (i:=12) (gM 12 rfl) d12;have hM':=hM;obtain ⟨hk1,hX,hB⟩:=hM';obtain ⟨w2,hR,hO,hb⟩:=gV (n:=169) (L:=L') (x:=.tmp 130) (y:=.tmp 119) bc e130 e119 rfl hX (by simp);exact fI hR ⟨hI.skip (by simp),hk1.only hO (by omega),hb,hB.only hO hg3⟩
   constructor
   ·rintro S L' wS hI hM hS0 ⟨d0,d1,d2,d3,-,-,-,-,-,-,-,-,d12,d13,-⟩;have e3:=hI.1 3 (by simp);have hM':=hM;obtain ⟨hk1,hX,hB⟩:=hM';exact bq (aa cG e3) ⟨hI.put hU38 (gM 13 rfl),hM⟩
   constructor
   ·rintro S L' wS hI hM hS0 ⟨d14,d3,d13,d0,d1,d2,d3,-,-,-,-,-,-,-,-,d12,d13,-⟩;have e121:bu L' 121=.int .i64 lt:=hI.get (i:=3) (gM 3 rfl) d3;have e131:bu L' 131=.pointer (some ⟨b3,5,none⟩):=hI.get (i:=14) (gM 13 rfl) d14;have hM':=hM;obtain ⟨hk1,hX,hB⟩:=hM';obtain ⟨w2,hR,hO,hb⟩:=gV (n:=169) (L:=L') (x:=.tmp 131) (y:=.tmp 121) bc e131 e121 rfl hX (by simp);exact fI hR ⟨hI.skip (by simp),hk1.only hO (by omega),hb,hB.only hO hg3⟩
   constructor
   ·rintro S L' wS hI hM hS0 ⟨d0,d1,d2,d3,d4,d5,-,-,-,-,-,-,d12,d13,d14,d15,-⟩;have e3:=hI.1 3 (by simp);have hM':=hM;obtain ⟨hk1,hX,hB⟩:=hM';exact bq (aa dk e3) ⟨hI.put hU38 (gM 14 rfl),hM⟩
   constructor
   ·rintro S L' wS hI hM hS0 ⟨d16,d5,d15,d0,d1,d2,d3,d4,d5,-,-,-,-,-,-,d12,d13,d14,d15,-⟩;have e123:bu L' 123=.int .i64 rd:=hI.get (i:=5) (gM 5 rfl) d5;have e132:bu L' 132=.pointer (some ⟨b3,7,none⟩):=hI.get (i:=16) (gM 14 rfl) d16;have hM':=hM;obtain ⟨hk1,hX,hB⟩:=hM';obtain ⟨w2,hR,hO,hb⟩:=gV (n:=169) (L:=L') (x:=.tmp 132) (y:=.tmp 123) bc e132 e123 rfl hX (by simp);exact fI hR ⟨hI.skip (by simp),hk1.only hO (by omega),hb,hB.only hO hg3⟩
   constructor
   ·rintro S L' wS hI hM hS0 ⟨d0,d1,d2,d3,d4,d5,d6,d7,-,-,-,-,d12,d13,d14,d15,d16,d17,-⟩;have e3:=hI.1 3 (by simp);have hM':=hM;obtain ⟨hk1,hX,hB⟩:=hM';exact bq (aa cF e3) ⟨hI.put hU38 (gM 15 rfl),hM⟩
   constructor
   ·rintro S L' wS hI hM hS0 ⟨d18,d7,d17,d0,d1,d2,d3,d4,d5,d6,d7,-,-,-,-,d12,d13,d14,d15,d16,d17,-⟩;have e125:bu L' 125=.int .i64 a:=hI.get (i:=7) (gM 7 rfl) d7;have e133:bu L' 133=.pointer (some ⟨b3,10,none⟩):=hI.get (i:=18) (gM 15 rfl) d18;have hM':=hM;obtain ⟨hk1,hX,hB⟩:=hM';obtain ⟨w2,hR,hO,hb⟩:=gV (n:=169) (L:=L') (x:=.tmp 133) (y:=.tmp 125) bc e133 e125 rfl hX (by simp);exact fI hR ⟨hI.skip (by simp),hk1.only hO (by omega),hb,hB.only hO hg3⟩
   constructor
   ·rintro S L' wS hI hM hS0 ⟨d0,d1,d2,d3,d4,d5,d6,d7,d8,d9,-,-,d12,d13,d14,d15,d16,d17,d18,d19,-⟩;have e3:=hI.1 3 (by simp);have hM':=hM;obtain ⟨hk1,hX,hB⟩:=hM';exact bq (aa dC e3) ⟨hI.put hU38 (gM 16 rfl),hM⟩
   constructor
   ·rintro S L' wS hI hM hS0 ⟨d20,d9,d19,d0,d1,d2,d3,d4,d5,d6,d7,d8,d9,-,-,d12,d13,d14,d15,d16,d17,d18,d19,-⟩;have e127:bu L' 127=.string d:=hI.get (i:=9) (gM 9 rfl) d9;have e134:bu L' 134=.pointer (some ⟨b3,11,none⟩):=hI.get (i:=20) (gM 16 rfl) d20;have hM':=hM;obtain ⟨hk1,hX,hB⟩:=hM';obtain ⟨w2,hR,hO,hb⟩:=gV (n:=169) (L:=L') (x:=.tmp 134) (y:=.tmp 127) ep e134 e127 rfl hX (by simp);exact fI hR ⟨hI.skip (by simp),hk1.only hO (by omega),hb,hB.only hO hg3⟩
   constructor
   ·rintro S L' wS hI hM hS0 ⟨d0,d1,d2,d3,d4,d5,d6,d7,d8,d9,d10,d11,d12,d13,d14,d15,d16,d17,d18,d19,d20,d21,-⟩;have e3:=hI.1 3 (by simp);have hM':=hM;obtain ⟨hk1,hX,hB⟩:=hM';exact bq (aa fp e3) ⟨hI.put hU38 (gM 17 rfl),hM⟩
   constructor
   ·rintro S L' wS hI hM hS0 ⟨d22,d11,d21,d0,d1,d2,d3,d4,d5,d6,d7,d8,d9,d10,d11,d12,d13,d14,d15,d16,d17,d18,d19,d20,d21,-⟩;have e129:bu L' 129=.bool dn:=hI.get (i:=11) (gM 11 rfl) d11;have e135:bu L' 135=.pointer (some ⟨b3,12,none⟩):=hI.get (i:=22) (gM 17 rfl) d22;have hM':=hM;obtain ⟨hk1,hX,hB⟩:=hM';obtain ⟨w2,hR,hO,hb⟩:=gV (n:=169) (L:=L') (x:=.tmp 135) (y:=.tmp 129) ph e135 e129 rfl hX (by simp);exact fI hR ⟨hI.skip (by simp),hk1.only hO (by omega),hb,hB.only hO hg3⟩
   exact trivial
  ·intro w39 hM;obtain ⟨hk1,hX,hB⟩:=hM;replace hX:Blk w39 b3 39 #[.int .i64 k,.int .i64 f,.int .i64 t,.int .i64 tm,.int .i64 ix,.int .i64 lt,.int .i64 0,.int .i64 rd,.bool false,.slice none 0 0,.int .i64 a,.string d,.bool dn]:=hX;refine ai (ao (ah (ab (aa bJ rfl) (ab (ar ak rfl (by exact (hk1.from_ ag.rfl_).rd 4 rfl)) ?_))));refine ab (bf rfl rfl) (mvb rfl (Ao (t:=139) rfl (fun Q40=>?_) (fun Q40=>?_)))
   ·refine bD rfl (an (ai (aZ rfl (ao (ah (asb rfl (an (ai (aE (bG (aG (bA (v:=.bool _) rfl rfl ?_))))))))))));exact ⟨congrArg Value.bool (decide_eq_false (fun h=>by have h2:=h.2.2.2 (by omega);omega)).symm,hB⟩
   refine ae rfl (ab (aa bJ rfl) (ae rfl (ab (ar ak rfl (by exact (hk1.from_ ag.rfl_).rd 4 rfl)) ?_)));refine ae rfl (ab (cq rfl rfl) (ab (ay (v:=.bool _) rfl rfl) (mvb rfl (Ap (t:=144) rfl (fun Q41=>?_) (fun Q41=>?_)))))
   ·refine bD rfl (an (ai (aZ rfl (ao (ah (asb rfl (an (ai (aE (bG (aG (bA (v:=.bool _) rfl rfl ?_))))))))))));exact ⟨congrArg Value.bool (decide_eq_false (fun h=>by have h2:=h.2.2.2 (by omega);omega)).symm,hB⟩
   refine ae rfl (ab (aa cF rfl) (ae rfl (ab (ar ak rfl (by exact (hk1.from_ ag.rfl_).rd 10 rfl)) ?_)));refine ae rfl (ab (cq rfl rfl) (ab (ay (v:=.bool _) rfl rfl) (mvb rfl (Ap (t:=149) rfl (fun Q42=>?_) (fun Q42=>?_)))))
   ·refine bD rfl (an (ai (aZ rfl (ao (ah (asb rfl (an (ai (aE (bG (aG (bA (v:=.bool _) rfl rfl ?_))))))))))));exact ⟨congrArg Value.bool (decide_eq_false (fun h=>by have h2:=h.2.2.2 (by omega);omega)).symm,hB⟩
   refine ae rfl (ab (aa dC rfl) (ae rfl (ab (ar bF rfl (by exact (hk1.from_ ag.rfl_).rd 11 rfl)) ?_)));refine ae rfl (ab (df (by kernel_rfl) rfl) (ae rfl (ab (cq rfl rfl) (ab (ay (v:=.bool _) rfl rfl) (an (ai (AT rfl (fun Q43=>?_) (fun Q43=>?_))))))))
   ·refine ao (ah (asb rfl (an (ai (aE (bG (aG (bA (v:=.bool _) rfl rfl ?_))))))));exact ⟨congrArg Value.bool (decide_eq_false (fun h=>by have h2:=h.2.2.2 (by omega);omega)).symm,hB⟩
   have hsn:kf k ix a d:=fun _=>by omega
   refine aO (bN ?_);refine bL (((ix,lt,0,rd),false,(none,0,0,[]),a,d,dn)) trivial (by (iterate 52 refine bd rfl ?_);exact br) ?_;refine ⟨hX.from_ ag.rfl_,hk1.from_ ag.rfl_,cC.nil_ _,rfl,by simp,?_,hB⟩;rw [yJ hnm hap hsn];simp only [yK,Ad,true_and,and_true];unfold ExR;rw [if_neg (by omega),if_neg (by omega),if_neg (by omega),if_neg (by omega),if_pos (by omega)]
   first | done | omega
 rintro ⟨⟨ix',lt',cm',rd'⟩,ok',⟨E',n',c',es'⟩,a',d',dn'⟩ ρ44 w44 ⟨hX,hk1,heX,hnX,hlX,hiff,hB⟩;refine ao (ah (ab (aH (cs:=[_,_,_,_,_,_,_,_,_,_,_,_,_]) bj aY rfl (by exact hX.whole)) ?_));refine ab (aH (cs:=[_,_,_,_,_,_,_,_,_,_,_,_,_]) bj aY rfl (by exact hk1.whole)) ?_;refine aC jW (uT k f t tm ix' lt' cm' rd' ok' E' n' c' a' d' dn' k f t tm ix lt cm rd ok E n c a d dn _ es' es hnX hn heX (he.from_ hB) (by omega)) ?_;rintro v168 w45 ⟨rfl,E168⟩;refine asb rfl (an (ai (aE (bA (v:=.bool _) rfl rfl (⟨congrArg Value.bool ?_,(hB.next E168)⟩)))));rw [decide_eq_decide,←hiff];constructor
 ·rintro ⟨-,-,-,-,e5,e6,e7,e8,e9,e10,e11,e12,e13⟩;exact ⟨e5,e6,e7,e8,e9,e10,e11,e12,e13⟩
 ·rintro ⟨e5,e6,e7,e8,e9,e10,e11,e12,e13⟩;exact ⟨rfl,rfl,rfl,rfl,e5,e6,e7,e8,e9,e10,e11,e12,e13⟩
theorem sk {m:Msg} (hl:m.es.length≤1000000) (hk:m.k=5):rh m:=fun w he=>xW m.k m.f m.t m.tm m.ix m.lt m.cm m.rd m.ok m.E m.es.length m.c m.a m.d m.dn w hk m.es rfl he (by omega)
theorem xr {m:Msg} (hl:m.es.length≤1000000) (hk:m.k=5):yf m:=fun w he=>zQ m.k m.f m.t m.tm m.ix m.lt m.cm m.rd m.ok m.E m.es.length m.c m.a m.d m.dn w hk m.es rfl he (by omega)
theorem ss:aQ prog 21=true:=by kernel_rfl
theorem iv:aQ prog 22=true:=by kernel_rfl
theorem sr:aQ prog 23=true:=by kernel_rfl
def wkA (k:Int):Rf:={ rV 1 1 1 with elapsed:=k }
def wkB (e r:Int):Rf:=⟨1,1,2,1,1,1,0,0,[⟨1,1,⟨#[]⟩⟩],⟨#[]⟩,1,e,10+bl (nx 1) 10,nx (nx 1),[],[1],[1],[0],r,[],⟨#[]⟩,0⟩
def wkR:Nat→Rf
 |0=>rV 1 1 1
 |k+1=>(iH (wkR k)).s
theorem yO:med [1]=1:=by
 have h:srt [1]=[1]:=List.perm_singleton.1 (ot [1]);unfold med;rw [h];rfl
theorem vT (k:Int):(jf (wkA k)).s=wkB 0 0:=by
 rw [sc (show (wkA k).term≠eP by show (0:Int)≠1099511627775;decide)];show (km ⟨eh (wkA k),[]⟩).s=_;unfold km;rw [if_pos (show fz (⟨eh (wkA k),[]⟩:Sp).s.nodes (⟨eh (wkA k),[]⟩:Sp).s.votes=true from (by decide:fz 1 [1]=true))];unfold mg;rw [if_neg (show ¬ ir (⟨eh (wkA k),[]⟩:Sp).s=true from fun h=>Bool.noConfusion (show false=true from h))];show dA (Sp.all ⟨fF (eB (eh (wkA k))) ⟨#[]⟩,[]⟩).s=_;rw [mU];show dA (fF (eB (eh (wkA k))) ⟨#[]⟩)=_;unfold dA;simp only;rw [show eK (fF (eB (eh (wkA k))) ⟨#[]⟩).mtch (fF (eB (eh (wkA k))) ⟨#[]⟩).id (bm (fF (eB (eh (wkA k))) ⟨#[]⟩))=[1] from rfl,yO];rfl
theorem yk {k:Int} (h:0≤k∧k≤20):im (wkA k)=true:=by
 have hb:=tS 1;refine b0.2 ⟨?_,?_,rfl,?_,?_⟩
 ·unfold iQ wkA rV iD zR;simp only;omega
 ·exact ⟨rfl,Int.le_refl 0,⟨Int.le_refl 0,Int.le_refl 0⟩,Nat.zero_le _,.inr rfl⟩
 ·exact (ee (show (0:Int)≠2 by decide)).2 rfl
 ·exact ⟨Nat.zero_le _,⟨Int.le_refl 0,z11⟩,.inr rfl⟩
theorem yj {e r:Int} (he:0≤e∧e≤1) (hr:0≤r∧r≤20):im (wkB e r)=true:=by
 have hb:=tS (nx 1);refine b0.2 ⟨?_,?_,rfl,?_,?_⟩
 ·unfold iQ wkB;simp only;omega
 ·exact ⟨(by decide:cj 0 0 [⟨1,1,⟨#[]⟩⟩]=true),Int.le_refl 1,⟨(by decide:(0:Int)≤1),Int.le_refl 1⟩,Nat.zero_le _,.inr rfl⟩
 ·exact (cD rfl).2 ⟨⟨rfl,rfl,rfl,Nat.zero_le _⟩,⟨fun x hx=>by rw [List.mem_singleton.1 hx];exact ⟨Int.le_refl 1,(by decide:(1:Int)≤1+1)⟩,fun x hx=>by rw [List.mem_singleton.1 hx];exact ⟨(by decide:(0:Int)≤1),Int.le_refl 1⟩,fun x hx=>by rw [List.mem_singleton.1 hx];exact ⟨Int.le_refl 0,Int.le_refl 0⟩⟩,fun q hq=>by cases hq⟩
 ·exact ⟨Nat.zero_le _,⟨Int.le_refl 0,z11⟩,.inr rfl⟩
theorem vU:∀ k:Nat,k≤20→((k:Int)<10+bl 1 10∧wkR k=wkA k)∨(10+bl 1 10≤(k:Int)∧∃ e r:Int,(0≤e∧e≤1)∧(0≤r∧r≤k)∧wkR k=wkB e r)
 |0,_=>by
  have hb:=tS 1;exact .inl ⟨by show (0:Int)<_;omega,rfl⟩
 |k+1,hk=>by
  have hb:=tS 1;rcases vU k (by omega) with ⟨h1,h2⟩ | ⟨h1,e,r,he,hr,h2⟩
  ·have ht:wkR (k+1)=(iH (wkA k)).s:=by rw [←h2];rfl
   have hm:min ((k:Int)+1) eP=((k+1:Nat):Int):=by unfold eP;omega
   have h3:iH (wkA k)=if 10+bl 1 10≤((k+1:Nat):Int) then jf (wkA ((k+1:Nat):Int)) else ⟨wkA ((k+1:Nat):Int),[]⟩:=by
    unfold iH;simp only;rw [if_neg (show ¬ (wkA k).role=2 by show ¬ (0:Int)=2;decide),show min ((wkA (k:Int)).elapsed+1) eP=((k+1:Nat):Int) from hm];rfl
   rw [ht,h3];by_cases h4:10+bl 1 10≤((k+1:Nat):Int)
   ·rw [if_pos h4,vT];exact .inr ⟨h4,0,0,⟨by omega,by omega⟩,⟨by omega,by omega⟩,rfl⟩
   ·rw [if_neg h4];exact .inl ⟨by omega,rfl⟩
  ·have ht:wkR (k+1)=(iH (wkB e r)).s:=by rw [←h2];rfl
   have hm:min (e+1) eP=e+1:=by unfold eP;omega
   have hm2:min (r+1) eP=r+1:=by unfold eP;omega
   have h3:(iH (wkB e r)).s=if 2≤e+1 then wkB 0 (r+1) else wkB (e+1) r:=by
    unfold iH;simp only;rw [if_pos (show (wkB e r).role=2 from rfl),show min ((wkB e r).elapsed+1) eP=e+1 from hm,show min ((wkB e r).round+1) eP=r+1 from hm2];split
    ·rw [mU];rfl
    ·rfl
   rw [ht,h3];refine .inr ⟨by omega,?_⟩;split
   ·exact ⟨0,r+1,⟨by omega,by omega⟩,⟨by omega,by omega⟩,rfl⟩
   ·exact ⟨e+1,r,⟨by omega,by omega⟩,⟨by omega,by omega⟩,rfl⟩
theorem zy {k:Nat} (hk:k≤20):im (wkR k)=true:=by
 rcases vU k hk with ⟨_,h2⟩ | ⟨_,e,r,he,hr,h2⟩
 ·rw [h2];exact yk (by omega)
 ·rw [h2];exact yj he (by omega)
theorem zz:(wkR 20).role=2∧(wkR 20).term=1∧(wkR 20).commit=1:=by
 have hb:=tS 1;rcases vU 20 (Nat.le_refl _) with ⟨h1,_⟩ | ⟨_,e,r,_,_,h2⟩
 ·omega
 ·rw [h2];exact ⟨rfl,rfl,rfl⟩
theorem RfF.sizes {s:Rf} (h:RfF s):(s.votes.length≤1000000∧s.next.length≤1000000∧s.mtch.length≤1000000∧s.sent.length≤1000000∧s.reads.length≤1000000∧∀ q∈s.reads,q.acks.length≤1000000)∧s.es.length≤1000000:=by
 have h1:=h.vl;have h2:=h.n
 have h3:gp s≤7:=by
  by_cases hr:s.role=2
  ·rw [jA hr];omega
  ·rw [nT hr];omega
 have h4:=h.nx.1;have h5:=h.ma.1;have h6:=h.se.1;have h7:=h.rl;have h8:=h.last;refine ⟨⟨by omega,by omega,by omega,by omega,by omega,fun q hq=>?_⟩,by omega⟩;have h9:=(eF.1 (h.rd q hq)).2.2.2;have h10:=mb h9;have h11:=ld q.acks 0 s.nodes h10.2 fun x hx=>⟨by have:=(h10.1 x hx).1;omega,(h10.1 x hx).2⟩
 omega
theorem AC {w:World} {id n seed:Int}:eX w (rV id n seed) a0:=bo.rd (bo.same (s':=rV id n seed) (bo.zero (w:=w) (tag:=fun _=>8)) rfl rfl rfl rfl rfl rfl)
theorem zN (w:World):Rt prog 21 [.int .i64 1,.int .i64 1,.int .u64 1] w fun v w'=>v=.tuple #[.agg (rfV (rV 1 1 1) a0).toArray,.int .i64 0]∧ag w w':=
 (yL 1 1 1 w).mono fun v w' h=>⟨h.1.elim (fun e=>e.2) (fun e=>absurd (by unfold nH;omega) e.1),h.2⟩
theorem kF (e:Int) (w:World) :
 Rt prog 22 [.int .i64 e] w (fun v w'=>v=.int .i64 e∧w=w'):=by
 refine enter (n:=4) Tryz.func22 rfl rfl rfl (ao (ah (asi rfl (an (ai (ao (ah (mvi rfl (asi rfl (an (ai (aE (bA (v:=.int _ _) rfl rfl (⟨rfl,rfl⟩))))))))))))))
theorem rp (w:World) :
 Rt prog 18 [] w (fun v w'=>v=.bool true∧ag w w'):=by
 refine enter (n:=37) Tryz.func18 rfl rfl rfl (ao (ah (asb rfl (an (ai (ao (ah (aC ss (zN _) ?_))))))));rintro v5 w1 ⟨rfl,E5⟩;refine mvt rfl (ab (a_ rfl rfl) (ab (a_ rfl rfl) ?_));have hz1:=((ag.rfl_.next E5)).size;refine bS dg ?_;intro b1 w2 E1 hb1 hk1;have hg1:w.heap.size≤b1:=by omega
 refine cg (vs:=[_,_,_,_,_,_,_,_,_,_,_,_,_,_,_,_,_,_,_,_,_,_]) aJ rfl rfl (by simp [Value.oneCell']) (hk1) rfl ?_;intro w3 O1 P1;refine asi rfl (an (ai (ao (ao (ah (mvi rfl (aC iv (kF _ _) ?_)))))));rintro v9 w4 ⟨rfl,rfl⟩;refine ab (cu (dm rfl rfl) rfl) (an (ai (bg rfl (aO (ai (ao (ao (ah (asi rfl (an (ai (bk (dr (G:=Nat×Ra) [0,11,12,13,14,15,16,17,18,19,20,21,22,23] (fun (k,_)=>[(2,.int .i64 0),(3,.int .i64 (k:Nat))]) (fun (k,a) w'=>k≤20∧Blk w' b1 29 (rfV (wkR k) a).toArray∧eX w' (wkR k) a∧ag w w') (fun (k,_)=>20-k) ((0,a0)) ⟨rfl,rfl,trivial⟩ ?_ ?_)))))))))))))
 ·exact ⟨Nat.zero_le _,P1.from_ ag.rfl_,AC,(((ag.rfl_.next E5).next E1).only O1 (hg1))⟩
 rintro ⟨k,a⟩ ρ5 w5 ⟨hk,hkb,hrd,hB⟩;refine ao (ao (ah (mvi rfl (ab (ch rfl rfl) (an (ai (AT rfl (fun Q6=>?_) (fun Q6=>?_))))))))
 ·have hmk:=zy (k:=k) (by omega);have hszs:=(mP hmk).sizes;refine aO (ai (ao (bk (ao (ah (ab (aH (cs:=rfV (wkR k) a) aP aJ rfl ((hkb.from_ ag.rfl_).whole)) ?_))))));have hM17:ag _ w5:=ag.rfl_;have hlt1:b1<(w5).heap.size:=(hkb.from_ ag.rfl_).lt;refine aC sr (we (wkR k) a _ (hrd.from_ ag.rfl_) hszs.1 hszs.2 hmk) ?_;rintro v17 w7 ⟨⟨tag9,a9,O9,oc9,L9,rfl,hf9,hm9,ht9⟩,E17⟩;refine mvt rfl (ab (a_ rfl rfl) (ab (a_ rfl rfl) (ab (a_ rfl rfl) (cg (vs:=[_,_,_,_,_,_,_,_,_,_,_,_,_,_,_,_,_,_,_,_,_,_]) aJ rfl rfl (by simp [Value.oneCell']) (((hkb.from_ hM17).from_ E17)) rfl ?_))));intro w8 O7 P7;have hrd9:eX w8 (wkR (k+1)) a9:=bo.rd (cO.chg8 hf9 (O7.toChg rfl) (ht9 b1 hlt1));refine asi rfl (an (ai (ao (ah (mvi rfl (aC iv (kF _ _) ?_))))));rintro v22 w9 ⟨rfl,rfl⟩;refine ab (cu (dm rfl rfl) rfl) (an (ai (bg rfl (aO (bN (ai (ah (mvi rfl (ab (cn rfl rfl (by omega)) (asi rfl (an ?_)))))))))));refine bL ((k+1,a9)) ⟨(by first | rfl | (refine bT ?_;omega)),(by first | rfl | (refine bT ?_;omega)),trivial⟩ (by (iterate 31 refine bd rfl ?_);exact br) ⟨?_,?_⟩
  ·exact ⟨by omega,P7.from_ ag.rfl_,hrd9.from_ ag.rfl_,((hB.next E17).only O7 (hg1))⟩
  ·show 20-(k+1)<20-k;omega
 have h20:k=20:=by omega
 have hwe:=zz;rw [←h20] at hwe;refine cL (bB (bB (cw (ai (ao (ah (ab (aa cW rfl) (ab (ar ak rfl (by exact (show _=some (Value.int .i64 (wkR k).role) from (hkb.from_ ag.rfl_).rd 2 rfl))) ?_))))))));refine ab (c6 (bf rfl rfl) (by rw [hwe.1];rfl)) ?_;refine mvb rfl (ae rfl (ab (aa bH rfl) (ae rfl (ab (ar ak rfl (by exact (show _=some (Value.int .i64 (wkR k).term) from (hkb.from_ ag.rfl_).rd 3 rfl))) ?_))));refine ae rfl (ab (c6 (bf rfl rfl) (by rw [hwe.2.1];rfl)) ?_);refine ab (aM (v:=.bool _) rfl rfl) (mvb rfl (ae rfl (ab (aa bW rfl) (ae rfl (ab (ar ak rfl (by exact (show _=some (Value.int .i64 (wkR k).commit) from (hkb.from_ ag.rfl_).rd 10 rfl))) ?_)))));refine ae rfl (ab (c6 (bf rfl rfl) (by rw [hwe.2.2];rfl)) ?_);refine ab (aM (v:=.bool _) rfl rfl) (asb rfl (an (ai (aE (bA (v:=.bool _) rfl rfl (⟨rfl,hB⟩))))))
theorem Small.l6 {s:Rf} {X:List Ac} (h:Small s X):(s.votes.length≤1000000∧s.next.length≤1000000∧s.mtch.length≤1000000∧s.sent.length≤1000000∧s.reads.length≤1000000∧∀ q∈s.reads,q.acks.length≤1000000)∧s.es.length≤1000000:=by
 obtain ⟨⟨h1,h2,h3,h4,h5,h6⟩,h7,_⟩:=h;exact ⟨⟨by omega,by omega,by omega,by omega,by omega,fun q hq=>by have:=h6 q hq;omega⟩,by omega⟩
theorem yh:zR.votes.length≤1000000∧zR.next.length≤1000000∧zR.mtch.length≤1000000∧zR.sent.length≤1000000∧zR.reads.length≤1000000∧∀ q∈zR.reads,q.acks.length≤1000000:=⟨Nat.zero_le _,Nat.zero_le _,Nat.zero_le _,Nat.zero_le _,Nat.zero_le _,fun q hq=>by cases hq⟩
theorem kZ:zR.es.length≤1000000∧zR.votes.length≤1000000∧zR.next.length≤1000000∧zR.mtch.length≤1000000∧zR.sent.length≤1000000∧zR.reads.length≤1000000∧∀ q∈zR.reads,q.acks.length≤1000000:=⟨Nat.zero_le _,yh⟩
theorem uS (w:World):Rt prog 50 [.slice none 0 0,.slice none 0 0] w fun v w'=>v=.bool true∧ag w w':=
 r_ none none 0 0 0 [] [] w (fun h=>absurd h (Nat.lt_irrefl _)) (fun h=>absurd h (Nat.lt_irrefl _)) rfl rfl rfl (fun x hx=>by cases hx) (fun x hx=>by cases hx) (fun x hx=>by cases hx) (Nat.zero_le _)
theorem ou (tag:Nat→Nat) (w:World):Rt prog 52 [.slice none 0 0] w fun v w'=>v=.tuple #[]∧Chg (fun q=>tag q=6∨∃ i,tag q=1000+2*i) w w':=
 lW tag [] none 0 [] w ⟨World.ownsRow_nil _ _ _ _,rfl,fun j hj=>absurd hj (Nat.not_lt_zero _),Col.none⟩ (Nat.zero_le _) (fun x hx=>by cases hx)
theorem pb:aQ prog 57=true:=by kernel_rfl
theorem ub:aQ prog 58=true:=by kernel_rfl
theorem kg:aQ prog 16=true:=by kernel_rfl
theorem pz:∀ (a0:Int) (a1:Int) (a2:Int) (a3:Int) (a4:Int) (a5:Int) (a6:Int) (a7:Int) (a8:Option Addr) (a9 a10:Nat) (a11:ByteArray) (a12:Int) (a13:Int) (a14:Int) (a15:Int) (a16:Option Addr) (a17 a18:Nat) (a19:Option Addr) (a20 a21:Nat) (a22:Option Addr) (a23 a24:Nat) (a25:Option Addr) (a26 a27:Nat) (a28:Int) (a29:Option Addr) (a30 a31:Nat) (a32:ByteArray) (a33:Int),prog.built 111 [(0,.agg #[.int .i64 a0,.int .i64 a1,.int .i64 a2,.int .i64 a3,.int .i64 a4,.int .i64 a5,.int .i64 a6,.int .i64 a7,.slice a8 a9 a10,.string a11,.int .i64 a12,.int .i64 a13,.int .i64 a14,.int .u64 a15,.slice a16 a17 a18,.slice a19 a20 a21,.slice a22 a23 a24,.slice a25 a26 a27,.int .i64 a28,.slice a29 a30 a31,.string a32,.int .i64 a33])]=some #[.int .i64 a0,.int .i64 a1,.int .i64 a2,.int .i64 a3,.int .i64 a4,.int .i64 a5,.int .i64 a6,.int .i64 a7,.slice a8 a9 a10,.string a11,.int .i64 a12,.int .i64 a13,.int .i64 a14,.int .u64 a15,.slice a16 a17 a18,.slice a19 a20 a21,.slice a22 a23 a24,.slice a25 a26 a27,.int .i64 a28,.slice a29 a30 a31,.string a32,.int .i64 a33,.slice none 0 0]:=by intros;kernel_rfl
theorem ua:aQ prog 89=true:=by kernel_rfl
theorem wh (s:Rf) (a:Ra) (m:Msg) (w:World) (hrd:eX w s a) (hl:s.votes.length≤1000000∧s.next.length≤1000000∧s.mtch.length≤1000000∧s.sent.length≤1000000∧s.reads.length≤1000000∧∀ q∈s.reads,q.acks.length≤1000000) (hel:s.es.length≤1000000) (hm:im s=false) :
 Rt prog 24 [.agg (rfV s a).toArray,.agg (bC m).toArray] w (fun v w'=>v=.tuple #[.agg (rfV zR a0).toArray,.slice none 0 0,.int .i64 1]∧ag w w'):=by
 refine enter (n:=35) Tryz.func24 rfl rfl rfl (ao (ah (bZ (v:=.agg _) rfl ?_)));intro b2 w1 E2 hb2 hk2;refine bZ (v:=.agg _) rfl ?_;intro b3 w2 E3 hb3 hk3;replace hk2:=hk2.from_ E3;refine bS dg ?_;intro b4 w3 E4 hb4 hk4;have hg4:w.heap.size≤b4:=by rw [hb4];exact (((ag.rfl_.next E2).next E3)).size
 replace hk2:=hk2.from_ E4;replace hk3:=hk3.from_ E4;refine ass rfl (asi rfl (an (ai (ao (ah (ab (aH (cs:=rfV s a) aP aJ rfl ((hk2.from_ ag.rfl_).whole)) (aC ll (xZ s a _ (hrd.from_ (((ag.rfl_.next E2).next E3).next E4)) hl hel hm) ?_)))))));rintro v11 w4 ⟨rfl,E11⟩;refine mvt rfl (ab (a_ rfl rfl) (ab (a_ rfl rfl) (asp rfl (asi rfl (an (ai (ao (ao (ah (mvi rfl (ab (c6 (dm rfl rfl) rfl) (mvb rfl ?_))))))))))));refine aq rfl rfl (aq rfl rfl (aq rfl rfl (aq rfl rfl (ab (aM (v:=.bool _) rfl rfl) (an (ai (aZ rfl (ao (ah (ab (cl (l:=[]) (fN)) ?_))))))))));refine cg (vs:=[_,_,_,_,_,_,_,_,_,_,_,_,_,_,_,_,_,_,_,_,_,_]) aJ rfl rfl (by simp [Value.oneCell']) ((hk4.from_ (ag.rfl_.next E11))) rfl ?_;intro w5 O3 P3;refine ass rfl (asi rfl (an (ai (aE (aG (uH rfl (dI (cs:=[_,_,_,_,_,_,_,_,_,_,_,_,_,_,_,_,_,_,_,_,_,_]) aP aJ rfl (by exact P3.whole)) (fU (v:=.slice _ _ _) rfl) (fU (v:=.int _ _) rfl) ?_))))));exact ⟨rfl,(((((ag.rfl_.next E2).next E3).next E4).next E11).only O3 (hg4))⟩
theorem va (s:Rf) (a:Ra) (m:Msg) (w:World) (hrd:eX w s a) (hl:s.votes.length≤1000000∧s.next.length≤1000000∧s.mtch.length≤1000000∧s.sent.length≤1000000∧s.reads.length≤1000000∧∀ q∈s.reads,q.acks.length≤1000000) (hel:s.es.length≤1000000) (he:Em w m) (hlm:m.es.length≤1000000) (hck:rh m) (hm:im s=true) (hf:¬ pC s m) :
 Rt prog 24 [.agg (rfV s a).toArray,.agg (bC m).toArray] w (fun v w'=>v=.tuple #[.agg (rfV zR a0).toArray,.slice none 0 0,.int .i64 1]∧ag w w'):=by
 refine enter (n:=35) Tryz.func24 rfl rfl rfl (ao (ah (bZ (v:=.agg _) rfl ?_)));intro b2 w1 E2 hb2 hk2;refine bZ (v:=.agg _) rfl ?_;intro b3 w2 E3 hb3 hk3;replace hk2:=hk2.from_ E3;refine bS dg ?_;intro b4 w3 E4 hb4 hk4;have hg4:w.heap.size≤b4:=by rw [hb4];exact (((ag.rfl_.next E2).next E3)).size
 replace hk2:=hk2.from_ E4;replace hk3:=hk3.from_ E4;refine ass rfl (asi rfl (an (ai (ao (ah (ab (aH (cs:=rfV s a) aP aJ rfl ((hk2.from_ ag.rfl_).whole)) ?_))))));have hB9:ag w w3:=(((ag.rfl_.next E2).next E3).next E4);have hk2b:=hk2.from_ ag.rfl_;have hk3b:=hk3.from_ ag.rfl_;have hk4b:=hk4.from_ ag.rfl_;have hlt2:=hk2b.lt;have hlt3:=hk3b.lt;have hlt4:=hk4b.lt;obtain ⟨wb,hw9⟩:∃ x,x=w3:=⟨_,rfl⟩;obtain ⟨Z,hZ⟩:∃ Z:Nat→Prop,Z=fun k=>k<wb.heap.size:=⟨_,rfl⟩
 refine aC ll (o4 s a _ (hrd.from_ (((ag.rfl_.next E2).next E3).next E4)) hl hel hm) ?_;rintro v11 w4 ⟨g,rfl,h9⟩;rw [←hw9] at hB9 hk2b hk3b hk4b hlt2 hlt3 hlt4;rw [←hw9,←hZ] at h9;have stB:∀ {w':World} {p:Sp},aR wb Z w' 96 g p→ag w w':=fun h=>hB9.next (jH (by rw [hZ] at h;exact h))
 have hz2:Z b2:=by rw [hZ];exact hlt2
 have hz3:Z b3:=by rw [hZ];exact hlt3
 have hz4:Z b4:=by rw [hZ];exact hlt4
 have hzw:∀ k,k<w.heap.size→Z k:=fun k hk=>by rw [hZ];exact Nat.lt_of_lt_of_le hk hB9.size
 refine mvt rfl (ab (a_ rfl rfl) (ab (a_ rfl rfl) (asp rfl (asi rfl (an (ai (ao (ao (ah (mvi rfl (ab (cu (dm rfl rfl) rfl) (mvb rfl ?_))))))))))));refine ae rfl (ab (aH (cs:=rfV s a) aP aJ rfl (((h9.kept hz2 hk2b).from_ ag.rfl_).whole)) (ae rfl (ab (aH (cs:=bC m) bj aY rfl (((h9.kept hz3 hk3b).from_ ag.rfl_).whole)) (ae rfl (aC pb (o8 s a m _ (he.from_ (stB h9)) hlm hck (decide_eq_false hf)) ?_)))));rintro v19 w5 ⟨rfl,E19⟩;refine ae rfl (ab (c6 (cp rfl) rfl) (ab (ay (v:=.bool _) rfl rfl) (an (ai (aZ rfl (ao (ah (ab (cl (l:=[]) (fN)) (cg (vs:=[_,_,_,_,_,_,_,_,_,_,_,_,_,_,_,_,_,_,_,_,_,_]) aJ rfl rfl (by simp [Value.oneCell']) (((h9.kept hz4 hk4b).from_ (ag.rfl_.next E19))) rfl ?_)))))))));intro w6 O3 P3;refine ass rfl (asi rfl (an (ai (aE (aG (uH rfl (dI (cs:=[_,_,_,_,_,_,_,_,_,_,_,_,_,_,_,_,_,_,_,_,_,_]) aP aJ rfl (by exact P3.whole)) (fU (v:=.slice _ _ _) rfl) (fU (v:=.int _ _) rfl) ?_))))));exact ⟨rfl,(((stB h9).next E19).only O3 (hg4))⟩
theorem wg (s:Rf) (a:Ra) (m:Msg) (w:World) (hrd:eX w s a) (hl:s.votes.length≤1000000∧s.next.length≤1000000∧s.mtch.length≤1000000∧s.sent.length≤1000000∧s.reads.length≤1000000∧∀ q∈s.reads,q.acks.length≤1000000) (hel:s.es.length≤1000000) (he:Em w m) (hlm:m.es.length≤1000000) (hck:rh m) (hm:im s=true) (hf:pC s m) (htk:∀ (w0:World) (Z:Nat→Prop) (g:Nat) (wv:World),aR w0 Z wv 96 g ⟨s,[]⟩→Em wv m→Ez Z m→Rt prog 58 [.pointer (some ⟨g,0,none⟩),.agg (bC m).toArray] wv fun v w'=>v=.tuple #[]∧aR w0 Z w' 96 g (cS s m)) :
 Rt prog 24 [.agg (rfV s a).toArray,.agg (bC m).toArray] w (fun v w'=>(∃ tag a' O oc L,v=.tuple #[.agg (rfV (cS s m).s a').toArray,.slice O (List.length L) oc,.int .i64 0]∧bo w' tag (cS s m).s a'∧eC w' tag (cS s m).out O oc L∧∀ k,k<w.heap.size→tag k=8)∧ag w w'):=by
 refine enter (n:=35) Tryz.func24 rfl rfl rfl (ao (ah (bZ (v:=.agg _) rfl ?_)));intro b2 w1 E2 hb2 hk2;refine bZ (v:=.agg _) rfl ?_;intro b3 w2 E3 hb3 hk3;replace hk2:=hk2.from_ E3;refine bS dg ?_;intro b4 w3 E4 hb4 hk4;have hg4:w.heap.size≤b4:=by rw [hb4];exact (((ag.rfl_.next E2).next E3)).size
 replace hk2:=hk2.from_ E4;replace hk3:=hk3.from_ E4;refine ass rfl (asi rfl (an (ai (ao (ah (ab (aH (cs:=rfV s a) aP aJ rfl ((hk2.from_ ag.rfl_).whole)) ?_))))));have hB9:ag w w3:=(((ag.rfl_.next E2).next E3).next E4);have hk2b:=hk2.from_ ag.rfl_;have hk3b:=hk3.from_ ag.rfl_;have hk4b:=hk4.from_ ag.rfl_;have hlt2:=hk2b.lt;have hlt3:=hk3b.lt;have hlt4:=hk4b.lt;obtain ⟨wb,hw9⟩:∃ x,x=w3:=⟨_,rfl⟩;obtain ⟨Z,hZ⟩:∃ Z:Nat→Prop,Z=fun k=>k<wb.heap.size:=⟨_,rfl⟩
 refine aC ll (o4 s a _ (hrd.from_ (((ag.rfl_.next E2).next E3).next E4)) hl hel hm) ?_;rintro v11 w4 ⟨g,rfl,h9⟩;rw [←hw9] at hB9 hk2b hk3b hk4b hlt2 hlt3 hlt4;rw [←hw9,←hZ] at h9;have stB:∀ {w':World} {p:Sp},aR wb Z w' 96 g p→ag w w':=fun h=>hB9.next (jH (by rw [hZ] at h;exact h))
 have hz2:Z b2:=by rw [hZ];exact hlt2
 have hz3:Z b3:=by rw [hZ];exact hlt3
 have hz4:Z b4:=by rw [hZ];exact hlt4
 have hzw:∀ k,k<w.heap.size→Z k:=fun k hk=>by rw [hZ];exact Nat.lt_of_lt_of_le hk hB9.size
 refine mvt rfl (ab (a_ rfl rfl) (ab (a_ rfl rfl) (asp rfl (asi rfl (an (ai (ao (ao (ah (mvi rfl (ab (cu (dm rfl rfl) rfl) (mvb rfl ?_))))))))))));refine ae rfl (ab (aH (cs:=rfV s a) aP aJ rfl (((h9.kept hz2 hk2b).from_ ag.rfl_).whole)) (ae rfl (ab (aH (cs:=bC m) bj aY rfl (((h9.kept hz3 hk3b).from_ ag.rfl_).whole)) (ae rfl (aC pb (o8 s a m _ (he.from_ (stB h9)) hlm hck (decide_eq_true hf)) ?_)))));rintro v19 w5 ⟨rfl,E19⟩;refine ae rfl (ab (cu (cp rfl) rfl) (ab (ay (v:=.bool _) rfl rfl) (an (ai (bg rfl (aO (ai (ao (ah (mvp rfl (ab (aH (cs:=bC m) bj aY rfl (((h9.kept hz3 hk3b).from_ (ag.rfl_.next E19)).whole)) (aC ub (htk wb Z g _ (h9.from_ (ag.rfl_.next E19)) (he.from_ ((stB h9).next E19)) (he.ez hzw)) ?_))))))))))));rintro v25 w6 ⟨rfl,h12⟩;have hT:aR wb Z w6 96 g (cS s m):=h12;obtain ⟨tgX,aX,OX,ocX,LX,hsX⟩:=hT.ex;have hBq:ag w w6:=stB hT;have hk4d:=hT.kept hz4 hk4b;have hn4:g≠b4:=fun e=>by have h1:=hsX.z b4 hz4;rw [←e,hsX.gc] at h1;cases h1
 refine an (ai (ao ?_));have hU7:ke [(0,26,.pointer (some ⟨g,0,none⟩)),(1,27,.pointer (some ⟨g,0,none⟩)),(2,28,.pointer (some ⟨g,0+0,none⟩)),(3,29,.pointer (some ⟨g,0+0+0,none⟩)),(4,30,.agg (rfV (cS s m).s aX).toArray),(5,31,.pointer (some ⟨g,0,none⟩)),(6,32,.pointer (some ⟨g,0,none⟩)),(7,33,.pointer (some ⟨g,0+22,none⟩)),(8,34,.slice OX LX.length ocX),(10,5,.slice OX LX.length ocX),(11,6,.int .i64 0)]:=by simp [ke]
 refine lj [(0,26,.pointer (some ⟨g,0,none⟩)),(1,27,.pointer (some ⟨g,0,none⟩)),(2,28,.pointer (some ⟨g,0+0,none⟩)),(3,29,.pointer (some ⟨g,0+0+0,none⟩)),(4,30,.agg (rfV (cS s m).s aX).toArray),(5,31,.pointer (some ⟨g,0,none⟩)),(6,32,.pointer (some ⟨g,0,none⟩)),(7,33,.pointer (some ⟨g,0+22,none⟩)),(8,34,.slice OX LX.length ocX),(10,5,.slice OX LX.length ocX),(11,6,.int .i64 0)] (fun S w'=>Blk w' g 96 ((rfV (cS s m).s aX)++[Value.slice OX LX.length ocX]).toArray∧(∃ cs:Array Value,cs.size=22∧Blk w' b4 29 cs∧(S 9=true→cs=(rfV (cS s m).s aX).toArray))∧Chg (fun k=>k=b4) w6 w') (by kernel_rfl) (by kernel_rfl) hU7 (by simp) (⟨(hsX.b.from_ ag.rfl_).from_ ag.rfl_.d1,⟨_,rfl,(hk4d.from_ ag.rfl_).from_ ag.rfl_.d1,fun h=>(by cases h)⟩,ag.rfl_.d1.toChg⟩) ?_ ?_
 ·constructor
  ·rintro S L' wS hI hM hS0 ⟨-⟩;have e7:=hI.1 7 (by simp);have hM':=hM;obtain ⟨hgB,⟨cs9,hs9z,hq9,hqe⟩,hC9⟩:=hM';exact bq (aF e7) ⟨hI.put hU7 (.head _),hM⟩
  constructor
  ·rintro S L' wS hI hM hS0 ⟨d0,-⟩;have e26:bu L' 26=.pointer (some ⟨g,0,none⟩):=hI.get (i:=0) (.head _) d0;have hM':=hM;obtain ⟨hgB,⟨cs9,hs9z,hq9,hqe⟩,hC9⟩:=hM';exact bq (av e26) ⟨hI.put hU7 (.tail _ (.head _)),hM⟩
  constructor
  ·rintro S L' wS hI hM hS0 ⟨d1,-⟩;have e27:bu L' 27=.pointer (some ⟨g,0,none⟩):=hI.get (i:=1) (.tail _ (.head _)) d1;have hM':=hM;obtain ⟨hgB,⟨cs9,hs9z,hq9,hqe⟩,hC9⟩:=hM';exact bq (aa aD e27) ⟨hI.put hU7 (gM 2 rfl),hM⟩
  constructor
  ·rintro S L' wS hI hM hS0 ⟨d2,-⟩;have e28:bu L' 28=.pointer (some ⟨g,0+0,none⟩):=hI.get (i:=2) (gM 2 rfl) d2;have hM':=hM;obtain ⟨hgB,⟨cs9,hs9z,hq9,hqe⟩,hC9⟩:=hM';exact bq (aa aB e28) ⟨hI.put hU7 (gM 3 rfl),hM⟩
  constructor
  ·rintro S L' wS hI hM hS0 ⟨d3,-⟩;have e29:bu L' 29=.pointer (some ⟨g,0+0+0,none⟩):=hI.get (i:=3) (gM 3 rfl) d3;have hM':=hM;obtain ⟨hgB,⟨cs9,hs9z,hq9,hqe⟩,hC9⟩:=hM';exact bq (aH (cs:=(rfV (cS s m).s aX)) aP aJ e29 (mI hgB)) ⟨hI.put hU7 (gM 4 rfl),hM⟩
  constructor
  ·rintro S L' wS hI hM hS0 ⟨-,-⟩;have e7:=hI.1 7 (by simp);have hM':=hM;obtain ⟨hgB,⟨cs9,hs9z,hq9,hqe⟩,hC9⟩:=hM';exact bq (aF e7) ⟨hI.put hU7 (gM 5 rfl),hM⟩
  constructor
  ·rintro S L' wS hI hM hS0 ⟨d5,-,-⟩;have e31:bu L' 31=.pointer (some ⟨g,0,none⟩):=hI.get (i:=5) (gM 5 rfl) d5;have hM':=hM;obtain ⟨hgB,⟨cs9,hs9z,hq9,hqe⟩,hC9⟩:=hM';exact bq (av e31) ⟨hI.put hU7 (gM 6 rfl),hM⟩
  constructor
  ·rintro S L' wS hI hM hS0 ⟨d6,-,-⟩;have e32:bu L' 32=.pointer (some ⟨g,0,none⟩):=hI.get (i:=6) (gM 6 rfl) d6;have hM':=hM;obtain ⟨hgB,⟨cs9,hs9z,hq9,hqe⟩,hC9⟩:=hM';exact bq (aa iP e32) ⟨hI.put hU7 (gM 7 rfl),hM⟩
  constructor
  ·rintro S L' wS hI hM hS0 ⟨d7,-,-⟩;have e33:bu L' 33=.pointer (some ⟨g,0+22,none⟩):=hI.get (i:=7) (gM 7 rfl) d7;have hM':=hM;obtain ⟨hgB,⟨cs9,hs9z,hq9,hqe⟩,hC9⟩:=hM';exact bq (ar jk e33 (by exact (show _=some (Value.slice OX LX.length ocX) from hgB.rd 22 rfl))) ⟨hI.put hU7 (gM 8 rfl),hM⟩
  constructor
  ·rintro S L' wS hI hM hS0 ⟨d4,d0,d1,d2,d3,d4,-,-,-,-,-⟩;have e4:=hI.1 4 (by simp);have e30:bu L' 30=.agg (rfV (cS s m).s aX).toArray:=hI.get (i:=4) (gM 4 rfl) d4;have hM':=hM;obtain ⟨hgB,⟨cs9,hs9z,hq9,hqe⟩,hC9⟩:=hM';obtain ⟨w2,hR,hO,hb⟩:=k_ (n:=35) (L:=L') (x:=.tmp 4) (y:=.tmp 30) (vs:=(rfV (cS s m).s aX)) aJ e4 e30 (by simp [rfV,Value.oneCell']) hq9 (by rw [hs9z];rfl);exact fI hR ⟨hI.skip (by simp),hgB.only hO hn4,⟨_,rfl,hb,fun _=>rfl⟩,hC9.next (hO.toChg rfl)⟩
  constructor
  ·rintro S L' wS hI hM hS0 ⟨d8,d9,d0,d1,d2,d3,d4,d5,d6,d7,d8,d9,-⟩;have e34:bu L' 34=.slice OX LX.length ocX:=hI.get (i:=8) (gM 8 rfl) d8;have hM':=hM;obtain ⟨hgB,⟨cs9,hs9z,hq9,hqe⟩,hC9⟩:=hM';exact bq (cZ e34) ⟨hI.put hU7 (gM 9 rfl),hM⟩
  constructor
  ·rintro S L' wS hI hM hS0 ⟨d10,d0,d1,d2,d3,d4,d5,d6,d7,d8,d9,d10,-⟩;have hM':=hM;obtain ⟨hgB,⟨cs9,hs9z,hq9,hqe⟩,hC9⟩:=hM';exact bq (cZ rfl) ⟨hI.put hU7 (gM 10 rfl),hM⟩
  exact trivial
 ·intro w8 hM;obtain ⟨hgB,⟨cs9,hs9z,hq9,hqe⟩,hC9⟩:=hM;have hqe:=hqe rfl;subst hqe;refine ai (aE (uH rfl (dI (cs:=[_,_,_,_,_,_,_,_,_,_,_,_,_,_,_,_,_,_,_,_,_,_]) aP aJ rfl (by exact hq9.whole)) (fU (v:=.slice _ _ _) rfl) (fU (v:=.int _ _) rfl) ?_));exact ⟨⟨tgX,aX,OX,ocX,LX,rfl,u2.mk_ hsX hzw (hC9.wide (fun k hk=>.inl (by rw [show k=b4 from hk];exact hz4)))⟩,(hBq.chg hC9 (fun k hk=>by rw [show k=b4 from hk];exact hg4))⟩
theorem wz (s:Rf) (a:Ra) (m:Msg) (w:World) (hrd:eX w s a) (hl:s.votes.length≤1000000∧s.next.length≤1000000∧s.mtch.length≤1000000∧s.sent.length≤1000000∧s.reads.length≤1000000∧∀ q∈s.reads,q.acks.length≤1000000) (hel:s.es.length≤1000000) (he:Em w m) (_:m.es.length≤1000000) (htk:∀ (w0:World) (Z:Nat→Prop) (g:Nat) (wv:World),aR w0 Z wv 111 g ⟨s,[]⟩→Em wv m→Ez Z m→Rt prog 89 [.pointer (some ⟨g,0,none⟩),.agg (bC m).toArray] wv fun v w'=>v=.tuple #[]∧aR w0 Z w' 111 g (cS s m)) :
 Rt prog 46 [.agg (rfV s a).toArray,.agg (bC m).toArray] w (fun v w'=>(∃ tag a' O oc L,v=.tuple #[.agg (rfV (cS s m).s a').toArray,.slice O (List.length L) oc]∧bo w' tag (cS s m).s a'∧eC w' tag (cS s m).out O oc L∧∀ k,k<w.heap.size→tag k=8)∧ag w w'):=by
 refine enter (n:=22) Tryz.func46 rfl rfl rfl (ao (ah (bZ (v:=.agg _) rfl ?_)));intro b2 w1 E2 hb2 hk2;refine bZ (v:=.agg _) rfl ?_;intro b3 w2 E3 hb3 hk3;replace hk2:=hk2.from_ E3;refine bS dg ?_;intro b4 w3 E4 hb4 hk4;have hg4:w.heap.size≤b4:=by rw [hb4];exact (((ag.rfl_.next E2).next E3)).size
 replace hk2:=hk2.from_ E4;replace hk3:=hk3.from_ E4;refine ass rfl (an (ai (ao (ah (ab (aH (cs:=rfV s a) aP aJ rfl ((hk2.from_ ag.rfl_).whole)) ?_)))));have hk3b:=hk3.from_ ag.rfl_;have hk4b:=hk4.from_ ag.rfl_;have hlt3:=hk3b.lt;have hlt4:=hk4b.lt;have hB9:ag w w3:=(((ag.rfl_.next E2).next E3).next E4);have hk2b:=hk2.from_ ag.rfl_;have hlt2:=hk2b.lt;obtain ⟨wb,hw9⟩:∃ x,x=w3:=⟨_,rfl⟩;obtain ⟨Z,hZ⟩:∃ Z:Nat→Prop,Z=fun k=>k<wb.heap.size:=⟨_,rfl⟩
 refine aC kg (jB s a _ (hrd.from_ (((ag.rfl_.next E2).next E3).next E4)) hl hel) ?_;rintro v8 w4 ⟨⟨tag9,a9,rfl,hf9,ht9⟩,E8⟩;refine ab (cl (l:=[(0,.tmp 8)]) (pz _ _ _ _ _ _ _ _ _ _ _ _ _ _ _ _ _ _ _ _ _ _ _ _ _ _ _ _ _ _ _ _ _ _)) (bZ (v:=.agg _) rfl ?_);intro b10 w5 E10 hb10 hk10
 have h11:aR wb Z w5 111 b10 ⟨s,[]⟩:=by
  rw [hZ,hw9];exact rA E8 hf9 ht9 E10 hb10 (show Blk _ b10 111 (rfV s a9++[Value.slice none 0 0]).toArray from hk10)
 rw [←hw9] at hB9 hk2b hlt2;have stB:∀ {w':World} {p:Sp},aR wb Z w' 111 b10 p→ag w w':=fun h=>hB9.next (jH (by rw [hZ] at h;exact h))
 have hzB:=hB9.size;have hz2:Z b2:=by rw [hZ];exact hlt2
 have hzw:∀ k,k<w.heap.size→Z k:=fun k hk=>by rw [hZ];exact Nat.lt_of_lt_of_le hk hzB
 rw [←hw9] at hk3b hk4b hlt3 hlt4;have hz3:Z b3:=by rw [hZ];exact hlt3
 have hz4:Z b4:=by rw [hZ];exact hlt4
 refine asp rfl (an (ai (ao (ah (mvp rfl (ab (aH (cs:=bC m) bj aY rfl (((h11.kept hz3 hk3b).from_ ag.rfl_).whole)) (aC ua (htk wb Z b10 _ (h11.from_ ag.rfl_) (he.from_ (((((ag.rfl_.next E2).next E3).next E4).next E8).next E10)) (he.ez hzw)) ?_)))))));rintro v13 w6 ⟨rfl,h12⟩;have hT:aR wb Z w6 111 b10 (cS s m):=h12;obtain ⟨tgX,aX,OX,ocX,LX,hsX⟩:=hT.ex;have hBq:ag w w6:=stB hT;have hk4d:=hT.kept hz4 hk4b;have hn4:b10≠b4:=fun e=>by have h1:=hsX.z b4 hz4;rw [←e,hsX.gc] at h1;cases h1
 refine an (ai (ao ?_));have hU7:ke [(0,14,.pointer (some ⟨b10,0,none⟩)),(1,15,.pointer (some ⟨b10,0,none⟩)),(2,16,.pointer (some ⟨b10,0+0,none⟩)),(3,17,.agg (rfV (cS s m).s aX).toArray),(4,18,.pointer (some ⟨b10,0,none⟩)),(5,19,.pointer (some ⟨b10,0,none⟩)),(6,20,.pointer (some ⟨b10,0+22,none⟩)),(7,21,.slice OX LX.length ocX),(9,5,.slice OX LX.length ocX)]:=by simp [ke]
 refine lj [(0,14,.pointer (some ⟨b10,0,none⟩)),(1,15,.pointer (some ⟨b10,0,none⟩)),(2,16,.pointer (some ⟨b10,0+0,none⟩)),(3,17,.agg (rfV (cS s m).s aX).toArray),(4,18,.pointer (some ⟨b10,0,none⟩)),(5,19,.pointer (some ⟨b10,0,none⟩)),(6,20,.pointer (some ⟨b10,0+22,none⟩)),(7,21,.slice OX LX.length ocX),(9,5,.slice OX LX.length ocX)] (fun S w'=>Blk w' b10 111 ((rfV (cS s m).s aX)++[Value.slice OX LX.length ocX]).toArray∧(∃ cs:Array Value,cs.size=22∧Blk w' b4 29 cs∧(S 8=true→cs=(rfV (cS s m).s aX).toArray))∧Chg (fun k=>k=b4) w6 w') (by kernel_rfl) (by kernel_rfl) hU7 (by simp) (⟨(hsX.b.from_ ag.rfl_).from_ ag.rfl_.d1,⟨_,rfl,(hk4d.from_ ag.rfl_).from_ ag.rfl_.d1,fun h=>(by cases h)⟩,ag.rfl_.d1.toChg⟩) ?_ ?_
 ·constructor
  ·rintro S L' wS hI hM hS0 ⟨-⟩;have e6:=hI.1 6 (by simp);have hM':=hM;obtain ⟨hgB,⟨cs9,hs9z,hq9,hqe⟩,hC9⟩:=hM';exact bq (aF e6) ⟨hI.put hU7 (.head _),hM⟩
  constructor
  ·rintro S L' wS hI hM hS0 ⟨d0,-⟩;have e14:bu L' 14=.pointer (some ⟨b10,0,none⟩):=hI.get (i:=0) (.head _) d0;have hM':=hM;obtain ⟨hgB,⟨cs9,hs9z,hq9,hqe⟩,hC9⟩:=hM';exact bq (av e14) ⟨hI.put hU7 (.tail _ (.head _)),hM⟩
  constructor
  ·rintro S L' wS hI hM hS0 ⟨d1,-⟩;have e15:bu L' 15=.pointer (some ⟨b10,0,none⟩):=hI.get (i:=1) (.tail _ (.head _)) d1;have hM':=hM;obtain ⟨hgB,⟨cs9,hs9z,hq9,hqe⟩,hC9⟩:=hM';exact bq (aa aN e15) ⟨hI.put hU7 (gM 2 rfl),hM⟩
  constructor
  ·rintro S L' wS hI hM hS0 ⟨d2,-⟩;have e16:bu L' 16=.pointer (some ⟨b10,0+0,none⟩):=hI.get (i:=2) (gM 2 rfl) d2;have hM':=hM;obtain ⟨hgB,⟨cs9,hs9z,hq9,hqe⟩,hC9⟩:=hM';exact bq (aH (cs:=(rfV (cS s m).s aX)) aP aJ e16 (mI hgB)) ⟨hI.put hU7 (gM 3 rfl),hM⟩
  constructor
  ·rintro S L' wS hI hM hS0 ⟨-,-⟩;have e6:=hI.1 6 (by simp);have hM':=hM;obtain ⟨hgB,⟨cs9,hs9z,hq9,hqe⟩,hC9⟩:=hM';exact bq (aF e6) ⟨hI.put hU7 (gM 4 rfl),hM⟩
  constructor
  ·rintro S L' wS hI hM hS0 ⟨d4,-,-⟩;have e18:bu L' 18=.pointer (some ⟨b10,0,none⟩):=hI.get (i:=4) (gM 4 rfl) d4;have hM':=hM;obtain ⟨hgB,⟨cs9,hs9z,hq9,hqe⟩,hC9⟩:=hM';exact bq (av e18) ⟨hI.put hU7 (gM 5 rfl),hM⟩
  constructor
  ·rintro S L' wS hI hM hS0 ⟨d5,-,-⟩;have e19:bu L' 19=.pointer (some ⟨b10,0,none⟩):=hI.get (i:=5) (gM 5 rfl) d5;have hM':=hM;obtain ⟨hgB,⟨cs9,hs9z,hq9,hqe⟩,hC9⟩:=hM';exact bq (aa jG e19) ⟨hI.put hU7 (gM 6 rfl),hM⟩
  constructor
  ·rintro S L' wS hI hM hS0 ⟨d6,-,-⟩;have e20:bu L' 20=.pointer (some ⟨b10,0+22,none⟩):=hI.get (i:=6) (gM 6 rfl) d6;have hM':=hM;obtain ⟨hgB,⟨cs9,hs9z,hq9,hqe⟩,hC9⟩:=hM';exact bq (ar jk e20 (by exact (show _=some (Value.slice OX LX.length ocX) from hgB.rd 22 rfl))) ⟨hI.put hU7 (gM 7 rfl),hM⟩
  constructor
  ·rintro S L' wS hI hM hS0 ⟨d3,d0,d1,d2,d3,-,-,-,-,-⟩;have e4:=hI.1 4 (by simp);have e17:bu L' 17=.agg (rfV (cS s m).s aX).toArray:=hI.get (i:=3) (gM 3 rfl) d3;have hM':=hM;obtain ⟨hgB,⟨cs9,hs9z,hq9,hqe⟩,hC9⟩:=hM';obtain ⟨w2,hR,hO,hb⟩:=k_ (n:=22) (L:=L') (x:=.tmp 4) (y:=.tmp 17) (vs:=(rfV (cS s m).s aX)) aJ e4 e17 (by simp [rfV,Value.oneCell']) hq9 (by rw [hs9z];rfl);exact fI hR ⟨hI.skip (by simp),hgB.only hO hn4,⟨_,rfl,hb,fun _=>rfl⟩,hC9.next (hO.toChg rfl)⟩
  constructor
  ·rintro S L' wS hI hM hS0 ⟨d7,d8,d0,d1,d2,d3,d4,d5,d6,d7,d8,-⟩;have e21:bu L' 21=.slice OX LX.length ocX:=hI.get (i:=7) (gM 7 rfl) d7;have hM':=hM;obtain ⟨hgB,⟨cs9,hs9z,hq9,hqe⟩,hC9⟩:=hM';exact bq (cZ e21) ⟨hI.put hU7 (gM 8 rfl),hM⟩
  exact trivial
 ·intro w8 hM;obtain ⟨hgB,⟨cs9,hs9z,hq9,hqe⟩,hC9⟩:=hM;have hqe:=hqe rfl;subst hqe;refine ai (aE (lx rfl (dI (cs:=[_,_,_,_,_,_,_,_,_,_,_,_,_,_,_,_,_,_,_,_,_,_]) aP aJ rfl (by exact hq9.whole)) (fU (v:=.slice _ _ _) rfl) ?_));exact ⟨⟨tgX,aX,OX,ocX,LX,rfl,u2.mk_ hsX hzw (hC9.wide (fun k hk=>.inl (by rw [show k=b4 from hk];exact hz4)))⟩,(hBq.chg hC9 (fun k hk=>by rw [show k=b4 from hk];exact hg4))⟩
end Go.Proofs.YtkpooenofjdpmaaGreat
