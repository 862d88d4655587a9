/- texts that the claim stands on. -/
import Derived.Test.YtkpooenofjdpmaaGreatSlRfLawC5
import Derived.Test.YtkpooenofjdpmaaGreatSlRfLawC6

set_option maxRecDepth 100000
set_option maxHeartbeats 4000000
namespace Go.Proofs.YtkpooenofjdpmaaGreat
open Go.Proofs.Tryz (prog)
open Go.RowKit
open Go.ChangeShapes Go.WideShapes Go.ChangeAt
theorem jC:aR prog 92=true:=by kernel_rfl
theorem uA:aR prog 87=true:=by kernel_rfl
theorem uz:aR prog 91=true:=by kernel_rfl
theorem m_:aR prog 42=true:=by kernel_rfl
theorem xu (A B:Option Addr) (ca cb:Nat) (a b:List Int) (w:World) (ha:dK iV w A a) (hb:dK iV w B b) (hla:a.length*8≤140737488351232) :
 Rt prog 92 [.slice A a.length ca,.slice B b.length cb] w (fun v w'=>v=.bool (decide (a=b))∧ai w w'):=by
 refine enter (n:=26) Tryz.func92 rfl rfl rfl (ak (ag (asb rfl (aj (ah (ak (ak (ag (mvs rfl (aa (bn bZ rfl) (mvs rfl (aa (bn bZ rfl) (aa (dr rfl rfl) ?_)))))))))))));refine aj (ah (aV rfl (fun Q1=>?_) (fun Q1=>?_)))
 ·replace Q1:=cZ Q1;replace Q1:=fA Q1;refine ak (ag (asb rfl (aj (ah (aA (ay (bg (v:=.bool _) rfl rfl ?_)))))));exact ⟨by rw [decide_eq_false];rintro rfl;omega,ai.rfl_⟩
 replace Q1:=c8 Q1;replace Q1:=fz Q1;refine aP (ah (ak (ak (ag (asi rfl (aj (ah (aZ (cj (G:=Nat) [4,11,12,13,14,15,16,17,18,19,20,21,22,23,24,25] (fun k=>[(5,.int .i64 (k:Nat))]) (fun k w'=>k≤a.length∧a.take k=b.take k∧ai w w') (fun k=>a.length-k) (0) ⟨rfl,trivial⟩ ?_ ?_)))))))))
 ·exact ⟨Nat.zero_le _,rfl,ai.rfl_⟩
 rintro k ρ2 w2 ⟨hk,ht,hB⟩;refine ak (ak (ag (mvi rfl (mvs rfl (aa (bn bZ rfl) (aa (bH rfl rfl) (aj (ah (xD rfl (fun Q3=>?_) (fun Q3=>?_))))))))))
 ·obtain ⟨ba,oa,rfl,ca⟩:=ha (by omega);obtain ⟨bb,ob,rfl,cb⟩:=hb (by omega);refine aP (ah (ak (aZ (ak ?_))));apply qa 9 [(17,eqp _),(18,eqp _),(19,eqp _),(20,eqp _),(21,eqp _),(22,eqp _),(23,eqp _),(24,eqp _),(25,eqp _)] (by kernel_rfl) (by kernel_rfl) ⟨aw _,aw _,aw _,aw _,aw _,aw _,aw _,aw _,aw _,trivial⟩
  case hop=>
   constructor
   ·intro w5 D5;exact aF (a_ (v:=.slice _ _ _) rfl) rfl
   constructor
   ·intro w6 D6;exact aF (a_ (v:=.int _ _) rfl) rfl
   constructor
   ·intro w7 D7;rintro _ rfl _ rfl;exact aF (cz cw rfl rfl (by omega)) rfl
   constructor
   ·intro w8 D8;rintro _ rfl;exact aF (ar aq rfl (by first | (exact ej (hB.next D8) (ca k (by omega))) | (exact ej (hB.next D8) (cb k (by omega))))) rfl
   constructor
   ·intro w9 D9;exact aF (a_ (v:=.slice _ _ _) rfl) rfl
   constructor
   ·intro w10 D10;exact aF (a_ (v:=.int _ _) rfl) rfl
   constructor
   ·intro w11 D11;rintro _ rfl _ rfl;exact aF (cz cw rfl rfl (by omega)) rfl
   constructor
   ·intro w12 D12;rintro _ rfl;exact aF (ar aq rfl (by first | (exact ej (hB.next D12) (ca k (by omega))) | (exact ej (hB.next D12) (cb k (by omega))))) rfl
   constructor
   ·intro w13 D13;rintro _ rfl _ rfl;exact aF (dr rfl rfl) rfl
   exact trivial
  case hend=>
   intro w14 D14;rintro _ rfl _ rfl _ rfl _ rfl _ rfl _ rfl _ rfl _ rfl _ rfl;show St ..;refine aj (ah (aV rfl (fun Q15=>?_) (fun Q15=>?_)))
   ·replace Q15:=cZ Q15;replace Q15:=fA Q15;refine ak (ag (asb rfl (aj (ah (aA (aU (ay (ay (aU (ay (bg (v:=.bool _) rfl rfl ?_)))))))))));exact ⟨by rw [decide_eq_false];rintro rfl;exact absurd rfl (by assumption),(hB.next D14)⟩
   replace Q15:=c8 Q15;replace Q15:=fz Q15;refine aP (bJ (ah (ag (mvi rfl (aa (bI rfl rfl (by omega)) (asi rfl (aj ?_)))))));refine cD (k+1) ⟨(by first | rfl | (refine bC ?_;omega)),trivial⟩ (by (iterate 33 refine bR rfl ?_);exact cg) ⟨?_,?_⟩
   ·exact ⟨by omega,rT (by omega) (by omega) ht (by omega),(hB.next D14)⟩
   ·omega
 refine b0 (bf (bf (bE (ah (ak (ag (asb rfl (aj (ah (aA (bg (v:=.bool _) rfl rfl (⟨by rw [decide_eq_true (vH (by omega) (by omega) ht)],hB⟩))))))))))))
theorem mH (A B:Option Addr) (ca cb:Nat) (l:List Int) (w:World) (ha:dK iV w A l) (hb:dK iV w B l) (hl:l.length≤1000000):Rt prog 92 [.slice A l.length ca,.slice B l.length cb] w fun v w'=>v=.bool true∧ai w w':=
 (xu A B ca cb l l w ha hb (by omega)).mono fun v w' h=>⟨by rw [h.1,decide_eq_true rfl],h.2⟩
theorem wq (B T:Int) (A A':Option Addr) (n n' c c':Nat) (xs:List Ent) (w:World) (h1:cB w (.slice A n c) xs) (h2:cB w (.slice A' n' c') xs) (hl:xs.length≤1000000):Rt prog 91 [.agg #[.int .i64 B,.int .i64 T,.slice A n c],.agg #[.int .i64 B,.int .i64 T,.slice A' n' c']] w fun v w'=>v=.bool true∧ai w w':=Rt.of (ri B T _ _ xs w h1 h2 (by omega))
theorem sT (q:Rd) (A B:Option Addr) (ca cb:Nat) (w:World) (ha:dK iV w A q.acks) (hb:dK iV w B q.acks) (hl:q.acks.length≤1000000) :
 Rt prog 87 [.agg (rdV (q,A,ca)).toArray,.agg (rdV (q,B,cb)).toArray] w (fun v w'=>v=.bool true∧ai w w'):=by
 refine enter (n:=31) Tryz.func87 rfl rfl rfl (ak (ag (cC (v:=.agg _) rfl ?_)));intro b2 w1 E2 hb2 hk2;refine cC (v:=.agg _) rfl ?_;intro b3 w2 E3 hb3 hk3;replace hk2:=hk2.from_ E3;refine asb rfl (aj (ah (ak (ag (aa (af dB rfl) (aa (ar aq rfl (by exact (show _=some (Value.int .i64 q.id) from (hk2.from_ ai.rfl_).rd 0 rfl))) ?_))))));refine aa (af dB rfl) (aa (ar aq rfl (by exact (show _=some (Value.int .i64 q.id) from (hk3.from_ ai.rfl_).rd 0 rfl))) ?_);refine aa (du (bu rfl rfl) (beq_self_eq_true _)) (mvb rfl (ae rfl (aa (af dA rfl) (ae rfl (aa (ar aq rfl (by exact (show _=some (Value.int .i64 q.ix) from (hk2.from_ ai.rfl_).rd 1 rfl))) ?_)))));refine ae rfl (aa (af dA rfl) (ae rfl (aa (ar aq rfl (by exact (show _=some (Value.int .i64 q.ix) from (hk3.from_ ai.rfl_).rd 1 rfl))) ?_)));refine ae rfl (aa (du (bu rfl rfl) (beq_self_eq_true _)) (aa (an (v:=.bool _) rfl rfl) (mvb rfl (ae rfl (aa (af dz rfl) (ae rfl (aa (ar aq rfl (by exact (show _=some (Value.int .i64 q.rn) from (hk2.from_ ai.rfl_).rd 2 rfl))) ?_)))))));refine ae rfl (aa (af dz rfl) (ae rfl (aa (ar aq rfl (by exact (show _=some (Value.int .i64 q.rn) from (hk3.from_ ai.rfl_).rd 2 rfl))) ?_)));refine ae rfl (aa (du (bu rfl rfl) (beq_self_eq_true _)) (aa (an (v:=.bool _) rfl rfl) (mvb rfl (ae rfl (aa (af cE rfl) (ae rfl (aa (ar aN rfl (by exact (show _=some (Value.slice A q.acks.length ca) from (hk2.from_ ai.rfl_).rd 3 rfl))) ?_)))))));refine ae rfl (aa (af cE rfl) (ae rfl (aa (ar aN rfl (by exact (show _=some (Value.slice B q.acks.length cb) from (hk3.from_ ai.rfl_).rd 3 rfl))) ?_)));refine ae rfl (aB jC (mH A B ca cb q.acks _ (ha.from_ ((ai.rfl_.next E2).next E3)) (hb.from_ ((ai.rfl_.next E2).next E3)) hl) ?_);rintro v29 w3 ⟨rfl,E29⟩;refine aa (an (v:=.bool _) rfl rfl) (asb rfl (aj (ah (aA (bg (v:=.bool _) rfl rfl (⟨rfl,(((ai.rfl_.next E2).next E3).next E29)⟩))))))
theorem rh (x y:Rd×Option Addr×Nat) (w:World) (h:x.1=y.1) (ha:dK iV w x.2.1 x.1.acks) (hb:dK iV w y.2.1 y.1.acks) (hl:x.1.acks.length≤1000000):Rt prog 87 [.agg (rdV x).toArray,.agg (rdV y).toArray] w fun v w'=>v=.bool true∧ai w w':=by
 obtain ⟨q,A,ca⟩:=x;obtain ⟨q2,B,cb⟩:=y;obtain rfl:q=q2:=h;exact sT q A B ca cb w ha hb hl
theorem j5 (A B:Option Addr) (ca cb n:Nat) (X Y:List (Rd×Option Addr×Nat)) (w:World) (hr:fP 4 rdV w A X) (hr2:fP 4 rdV w B Y) (hX:X.length=n) (hY:Y.length=n) (hp:X.map (fun q=>q.1)=Y.map (fun q=>q.1)) (hE:∀ x∈X,IR w x.2.1 x.2.2 x.1.acks) (hE2:∀ x∈Y,IR w x.2.1 x.2.2 x.1.acks) (hle:∀ x∈X,x.1.acks.length≤1000000) (hn:n≤1000000) :
 Rt prog 42 [.slice A n ca,.slice B n cb] w (fun v w'=>v=.bool true∧ai w w'):=by
 refine enter (n:=27) Tryz.func42 rfl rfl rfl (ak (ag (asb rfl (aj (ah (ak (ak (ag (mvs rfl (aa (bn bA rfl) (mvs rfl (aa (bn bA rfl) (aa (dI (dr rfl rfl) (bne_self_eq_false _)) ?_)))))))))))));refine aj (ah (bF rfl (aP (ah (ak (ak (ag (asi rfl (aj (ah (aZ (cj (G:=Nat) [4,11,12,13,14,15,16,17,18,19,20,21,22,23,24,25,26] (fun k=>[(5,.int .i64 (k:Nat))]) (fun k w'=>k≤n∧ai w w') (fun k=>n-k) (0) ⟨rfl,trivial⟩ ?_ ?_))))))))))))
 ·exact ⟨Nat.zero_le _,ai.rfl_⟩
 rintro k ρ1 w1 ⟨hk,hB⟩;refine ak (ak (ag (mvi rfl (mvs rfl (aa (bn bA rfl) (aa (bH rfl rfl) (aj (ah (xD rfl (fun Q2=>?_) (fun Q2=>?_))))))))))
 ·have hkX:k<X.length:=by omega
  have hkY:k<Y.length:=by omega
  obtain ⟨ba,oa,rfl,hca⟩:=hr (by omega);obtain ⟨bb,ob,rfl,hcb⟩:=hr2 (by omega);have hxk:=hE _ (List.getElem_mem hkX);have hyk:=hE2 _ (List.getElem_mem hkY);have hlk:=hle _ (List.getElem_mem hkX)
  have hpk:X[k].1=Y[k].1:=by
   have h9:(X.map (fun q=>q.1))[k]? =(Y.map (fun q=>q.1))[k]? :=by rw [hp]
   rw [List.getElem?_map,List.getElem?_map,List.getElem?_eq_getElem hkX,List.getElem?_eq_getElem hkY] at h9;exact Option.some.inj h9
  refine aP (ah (ak (aZ (ak ?_))));apply dY 10 [(17,eqp _),(18,eqp _),(19,eqp _),(20,eqp (.agg (rdV X[k]).toArray)),(21,eqp _),(22,eqp _),(23,eqp _),(24,eqp (.agg (rdV Y[k]).toArray)),(25,eqp _),(26,eqp _)] (by repeat first | exact eL | refine eK ?_ | refine ee ?_) (by kernel_rfl) (by kernel_rfl) ⟨aw _,aw _,aw _,aw _,aw _,aw _,aw _,aw _,aw _,aw _,trivial⟩
  case hop=>
   constructor
   ·rintro-w4 D4;exact aF (a_ (v:=.slice _ _ _) rfl) rfl
   constructor
   ·rintro-w5 D5;exact aF (a_ (v:=.int _ _) rfl) rfl
   constructor
   ·rintro-w6 D6;rintro _ rfl _ rfl;exact aF (bq cO rfl rfl (by omega)) rfl
   constructor
   ·rintro-w7 D7;rintro _ rfl;exact aF (aH (cs:=rdV X[k]) cY ch rfl (ep (hB.next D7) (hca k hkX))) rfl
   constructor
   ·rintro-w8 D8;exact aF (a_ (v:=.slice _ _ _) rfl) rfl
   constructor
   ·rintro-w9 D9;exact aF (a_ (v:=.int _ _) rfl) rfl
   constructor
   ·rintro-w10 D10;rintro _ rfl _ rfl;exact aF (bq cO rfl rfl (by omega)) rfl
   constructor
   ·rintro-w11 D11;rintro _ rfl;exact aF (aH (cs:=rdV Y[k]) cY ch rfl (ep (hB.next D11) (hcb k hkY))) rfl
   constructor
   ·rintro-w12 D12;rintro v12_20 rfl v12_24 rfl;refine fy uA ((rh X[k] Y[k] _ hpk (hxk.1.from_ (hB.next D12)) (hyk.1.from_ (hB.next D12)) hlk).mono ?_);rintro v _ ⟨rfl,E12'⟩;exact ⟨E12',rfl⟩
   constructor
   ·rintro-w13 D13;rintro _ rfl;exact aF (cf rfl) rfl
   exact trivial
  case hend=>
   intro w14 D14;rintro _ rfl _ rfl _ rfl v20 rfl _ rfl _ rfl _ rfl v24 rfl _ rfl _ rfl;show St ..;refine aj (ah (xB rfl (fun Q15=>?_) (fun Q15=>?_)))
   ·exfalso;contradiction
   refine aP (bJ (ah (ag (mvi rfl (aa (cP (b:=1) rfl rfl (by omega)) (asi rfl (aj ?_)))))));refine cD (k+1) ⟨(by first | rfl | (refine bC ?_;omega)),trivial⟩ (by (iterate 35 refine bR rfl ?_);exact cg) ⟨?_,?_⟩
   ·exact ⟨by omega,(hB.next D14)⟩
   ·omega
 refine b0 (bf (bf (bE (ah (ak (ag (asb rfl (aj (ah (aA (bg (v:=.bool _) rfl rfl (⟨rfl,hB⟩))))))))))))
theorem r4 {s:Rf} {a:Ra} {w:World} {b T:Nat} (hb:Blk w b T (rfV s a).toArray):w.rangeAt b 6 [.int .i64 s.b,.int .i64 s.t,.slice a.E s.es.length a.Ec]:=hb.range 6 _ (fun j v hj=>by
 match j,hj with
 |0,hj=>exact hj
 |1,hj=>exact hj
 |2,hj=>exact hj
 |j+3,hj=>simp at hj)
theorem dR (s:Rf) (a b:Ra) (w:World) (ha:eD w s a) (hb:eD w s b) (hl:s.es.length≤1000000∧s.votes.length≤1000000∧s.next.length≤1000000∧s.mtch.length≤1000000∧s.sent.length≤1000000∧s.reads.length≤1000000∧∀ q∈s.reads,q.acks.length≤1000000) :
 Rt prog 49 [.agg (rfV s a).toArray,.agg (rfV s b).toArray] w (fun v w'=>v=.bool true∧ai w w'):=by
 obtain ⟨hl0,hl1,hl2,hl3,hl4,hl5,hl6⟩:=hl;have hla:a.L.length=s.reads.length:=by rw [←ha.r,List.length_map]
 have hlb:a.L.length=b.L.length:=by rw [hla,←hb.r,List.length_map]
 refine enter (n:=143) Tryz.func49 rfl rfl rfl (ak (ag (cC (v:=.agg _) rfl ?_)));intro b2 w1 E2 hb2 hk2;refine cC (v:=.agg _) rfl ?_;intro b3 w2 E3 hb3 hk3;replace hk2:=hk2.from_ E3;refine asb rfl (aj (ah (ak (ag (aa (af dy rfl) (aa (ar aq rfl (by exact (show _=some (Value.int .i64 s.id) from (hk2.from_ ai.rfl_).rd 0 rfl))) ?_))))));refine aa (af dy rfl) (aa (ar aq rfl (by exact (show _=some (Value.int .i64 s.id) from (hk3.from_ ai.rfl_).rd 0 rfl))) ?_);refine aa (du (bu rfl rfl) (beq_self_eq_true _)) (mvb rfl (ae rfl (aa (af br rfl) (ae rfl (aa (ar aq rfl (by exact (show _=some (Value.int .i64 s.nodes) from (hk2.from_ ai.rfl_).rd 1 rfl))) ?_)))));refine ae rfl (aa (af br rfl) (ae rfl (aa (ar aq rfl (by exact (show _=some (Value.int .i64 s.nodes) from (hk3.from_ ai.rfl_).rd 1 rfl))) ?_)));refine ae rfl (aa (du (bu rfl rfl) (beq_self_eq_true _)) (aa (an (v:=.bool _) rfl rfl) (mvb rfl (ae rfl (aa (af cT rfl) (ae rfl (aa (ar aq rfl (by exact (show _=some (Value.int .i64 s.role) from (hk2.from_ ai.rfl_).rd 2 rfl))) ?_)))))));refine ae rfl (aa (af cT rfl) (ae rfl (aa (ar aq rfl (by exact (show _=some (Value.int .i64 s.role) from (hk3.from_ ai.rfl_).rd 2 rfl))) ?_)));refine ae rfl (aa (du (bu rfl rfl) (beq_self_eq_true _)) (aa (an (v:=.bool _) rfl rfl) (mvb rfl (ae rfl (aa (af cJ rfl) (ae rfl (aa (ar aq rfl (by exact (show _=some (Value.int .i64 s.term) from (hk2.from_ ai.rfl_).rd 3 rfl))) ?_)))))));refine ae rfl (aa (af cJ rfl) (ae rfl (aa (ar aq rfl (by exact (show _=some (Value.int .i64 s.term) from (hk3.from_ ai.rfl_).rd 3 rfl))) ?_)));refine ae rfl (aa (du (bu rfl rfl) (beq_self_eq_true _)) (aa (an (v:=.bool _) rfl rfl) (mvb rfl (ae rfl (aa (af eO rfl) (ae rfl (aa (ar aq rfl (by exact (show _=some (Value.int .i64 s.vote) from (hk2.from_ ai.rfl_).rd 4 rfl))) ?_)))))));refine ae rfl (aa (af eO rfl) (ae rfl (aa (ar aq rfl (by exact (show _=some (Value.int .i64 s.vote) from (hk3.from_ ai.rfl_).rd 4 rfl))) ?_)));refine ae rfl (aa (du (bu rfl rfl) (beq_self_eq_true _)) (aa (an (v:=.bool _) rfl rfl) (mvb rfl (ae rfl (aa (af en rfl) (ae rfl (aa (ar aq rfl (by exact (show _=some (Value.int .i64 s.leader) from (hk2.from_ ai.rfl_).rd 5 rfl))) ?_)))))));refine ae rfl (aa (af en rfl) (ae rfl (aa (ar aq rfl (by exact (show _=some (Value.int .i64 s.leader) from (hk3.from_ ai.rfl_).rd 5 rfl))) ?_)));refine ae rfl (aa (du (bu rfl rfl) (beq_self_eq_true _)) (aa (an (v:=.bool _) rfl rfl) (mvb rfl (ae rfl (aa (af bj rfl) (ae rfl (aa (aH (cs:=[.int .i64 s.b,.int .i64 s.t,.slice a.E s.es.length a.Ec]) bL bh rfl (r4 (hk2.from_ ai.rfl_))) (ae rfl ?_))))))));refine aa (af bj rfl) (ae rfl (aa (aH (cs:=[.int .i64 s.b,.int .i64 s.t,.slice b.E s.es.length b.Ec]) bL bh rfl (r4 (hk3.from_ ai.rfl_))) (ae rfl (aB uz (wq s.b s.t a.E b.E s.es.length s.es.length a.Ec b.Ec s.es _ (ha.e.from_ ((ai.rfl_.next E2).next E3)) (hb.e.from_ ((ai.rfl_.next E2).next E3)) hl0) ?_))));rintro v50 w3 ⟨rfl,E50⟩;refine aa (an (v:=.bool _) rfl rfl) (mvb rfl (ae rfl (aa (af cp rfl) (ae rfl (aa (ar bT rfl (by exact (show _=some (Value.string s.snap) from (hk2.from_ (ai.rfl_.next E50)).rd 9 rfl))) ?_)))));refine ae rfl (aa (af cp rfl) (ae rfl (aa (ar bT rfl (by exact (show _=some (Value.string s.snap) from (hk3.from_ (ai.rfl_.next E50)).rd 9 rfl))) ?_)));refine ae rfl (aa (du (km rfl rfl) (beq_self_eq_true _)) (aa (an (v:=.bool _) rfl rfl) (mvb rfl (ae rfl (aa (af cu rfl) (ae rfl (aa (ar aq rfl (by exact (show _=some (Value.int .i64 s.commit) from (hk2.from_ (ai.rfl_.next E50)).rd 10 rfl))) ?_)))))));refine ae rfl (aa (af cu rfl) (ae rfl (aa (ar aq rfl (by exact (show _=some (Value.int .i64 s.commit) from (hk3.from_ (ai.rfl_.next E50)).rd 10 rfl))) ?_)));refine ae rfl (aa (du (bu rfl rfl) (beq_self_eq_true _)) (aa (an (v:=.bool _) rfl rfl) (mvb rfl (ae rfl (aa (af dk rfl) (ae rfl (aa (ar aq rfl (by exact (show _=some (Value.int .i64 s.elapsed) from (hk2.from_ (ai.rfl_.next E50)).rd 11 rfl))) ?_)))))));refine ae rfl (aa (af dk rfl) (ae rfl (aa (ar aq rfl (by exact (show _=some (Value.int .i64 s.elapsed) from (hk3.from_ (ai.rfl_.next E50)).rd 11 rfl))) ?_)));refine ae rfl (aa (du (bu rfl rfl) (beq_self_eq_true _)) (aa (an (v:=.bool _) rfl rfl) (mvb rfl (ae rfl (aa (af eg rfl) (ae rfl (aa (ar aq rfl (by exact (show _=some (Value.int .i64 s.timeout) from (hk2.from_ (ai.rfl_.next E50)).rd 12 rfl))) ?_)))))));refine ae rfl (aa (af eg rfl) (ae rfl (aa (ar aq rfl (by exact (show _=some (Value.int .i64 s.timeout) from (hk3.from_ (ai.rfl_.next E50)).rd 12 rfl))) ?_)));refine ae rfl (aa (du (bu rfl rfl) (beq_self_eq_true _)) (aa (an (v:=.bool _) rfl rfl) (mvb rfl (ae rfl (aa (af fC rfl) (ae rfl (aa (ar jB rfl (by exact (show _=some (Value.int .u64 s.seed) from (hk2.from_ (ai.rfl_.next E50)).rd 13 rfl))) ?_)))))));refine ae rfl (aa (af fC rfl) (ae rfl (aa (ar jB rfl (by exact (show _=some (Value.int .u64 s.seed) from (hk3.from_ (ai.rfl_.next E50)).rd 13 rfl))) ?_)));refine ae rfl (aa (du (bu rfl rfl) (beq_self_eq_true _)) (aa (an (v:=.bool _) rfl rfl) (mvb rfl (ae rfl (aa (af cK rfl) (ae rfl (aa (ar aN rfl (by exact (show _=some (Value.slice a.V s.votes.length a.Vc) from (hk2.from_ (ai.rfl_.next E50)).rd 14 rfl))) ?_)))))));refine ae rfl (aa (af cK rfl) (ae rfl (aa (ar aN rfl (by exact (show _=some (Value.slice b.V s.votes.length b.Vc) from (hk3.from_ (ai.rfl_.next E50)).rd 14 rfl))) ?_)));refine ae rfl (aB jC (mH a.V b.V a.Vc b.Vc s.votes _ (ha.v.1.from_ (((ai.rfl_.next E2).next E3).next E50)) (hb.v.1.from_ (((ai.rfl_.next E2).next E3).next E50)) hl1) ?_);rintro v92 w4 ⟨rfl,E92⟩;refine aa (an (v:=.bool _) rfl rfl) (mvb rfl (ae rfl (aa (af bX rfl) (ae rfl (aa (ar aN rfl (by exact (show _=some (Value.slice a.X s.next.length a.Xc) from (hk2.from_ ((ai.rfl_.next E50).next E92)).rd 15 rfl))) ?_)))));refine ae rfl (aa (af bX rfl) (ae rfl (aa (ar aN rfl (by exact (show _=some (Value.slice b.X s.next.length b.Xc) from (hk3.from_ ((ai.rfl_.next E50).next E92)).rd 15 rfl))) ?_)));refine ae rfl (aB jC (mH a.X b.X a.Xc b.Xc s.next _ (ha.x.1.from_ ((((ai.rfl_.next E2).next E3).next E50).next E92)) (hb.x.1.from_ ((((ai.rfl_.next E2).next E3).next E50).next E92)) hl2) ?_);rintro v99 w5 ⟨rfl,E99⟩;refine aa (an (v:=.bool _) rfl rfl) (mvb rfl (ae rfl (aa (af b_ rfl) (ae rfl (aa (ar aN rfl (by exact (show _=some (Value.slice a.M s.mtch.length a.Mc) from (hk2.from_ (((ai.rfl_.next E50).next E92).next E99)).rd 16 rfl))) ?_)))));refine ae rfl (aa (af b_ rfl) (ae rfl (aa (ar aN rfl (by exact (show _=some (Value.slice b.M s.mtch.length b.Mc) from (hk3.from_ (((ai.rfl_.next E50).next E92).next E99)).rd 16 rfl))) ?_)));refine ae rfl (aB jC (mH a.M b.M a.Mc b.Mc s.mtch _ (ha.m.1.from_ (((((ai.rfl_.next E2).next E3).next E50).next E92).next E99)) (hb.m.1.from_ (((((ai.rfl_.next E2).next E3).next E50).next E92).next E99)) hl3) ?_);rintro v106 w6 ⟨rfl,E106⟩;refine aa (an (v:=.bool _) rfl rfl) (mvb rfl (ae rfl (aa (af bU rfl) (ae rfl (aa (ar aN rfl (by exact (show _=some (Value.slice a.S s.sent.length a.Sc) from (hk2.from_ ((((ai.rfl_.next E50).next E92).next E99).next E106)).rd 17 rfl))) ?_)))));refine ae rfl (aa (af bU rfl) (ae rfl (aa (ar aN rfl (by exact (show _=some (Value.slice b.S s.sent.length b.Sc) from (hk3.from_ ((((ai.rfl_.next E50).next E92).next E99).next E106)).rd 17 rfl))) ?_)));refine ae rfl (aB jC (mH a.S b.S a.Sc b.Sc s.sent _ (ha.n.1.from_ ((((((ai.rfl_.next E2).next E3).next E50).next E92).next E99).next E106)) (hb.n.1.from_ ((((((ai.rfl_.next E2).next E3).next E50).next E92).next E99).next E106)) hl4) ?_);rintro v113 w7 ⟨rfl,E113⟩;refine aa (an (v:=.bool _) rfl rfl) (mvb rfl (ae rfl (aa (af cR rfl) (ae rfl (aa (ar aq rfl (by exact (show _=some (Value.int .i64 s.round) from (hk2.from_ (((((ai.rfl_.next E50).next E92).next E99).next E106).next E113)).rd 18 rfl))) ?_)))));refine ae rfl (aa (af cR rfl) (ae rfl (aa (ar aq rfl (by exact (show _=some (Value.int .i64 s.round) from (hk3.from_ (((((ai.rfl_.next E50).next E92).next E99).next E106).next E113)).rd 18 rfl))) ?_)));refine ae rfl (aa (du (bu rfl rfl) (beq_self_eq_true _)) (aa (an (v:=.bool _) rfl rfl) (mvb rfl (ae rfl (aa (af aT rfl) (ae rfl (aa (ar bm rfl (by exact (show _=some (Value.slice a.Q a.L.length a.Qc) from (hk2.from_ (((((ai.rfl_.next E50).next E92).next E99).next E106).next E113)).rd 19 rfl))) ?_)))))));refine ae rfl (aa (af aT rfl) (ae rfl ?_));refine aa (ar bm rfl (by have h9:=(hk3.from_ (((((ai.rfl_.next E50).next E92).next E99).next E106).next E113)).rd 19 rfl;exact (show _=some (Value.slice b.Q a.L.length b.Qc) from by rw [hlb];exact h9))) ?_;refine ae rfl (aB m_ (j5 a.Q b.Q a.Qc b.Qc a.L.length a.L b.L _ (ha.q.from_ (((((((ai.rfl_.next E2).next E3).next E50).next E92).next E99).next E106).next E113)) (hb.q.from_ (((((((ai.rfl_.next E2).next E3).next E50).next E92).next E99).next E106).next E113)) rfl hlb.symm (ha.r.trans hb.r.symm) (fun x hx=>(ha.k x hx).from_ (((((((ai.rfl_.next E2).next E3).next E50).next E92).next E99).next E106).next E113)) (fun x hx=>(hb.k x hx).from_ (((((((ai.rfl_.next E2).next E3).next E50).next E92).next E99).next E106).next E113)) (fun x hx=>hl6 _ (by rw [←ha.r];exact List.mem_map_of_mem hx)) (by omega)) ?_);rintro v127 w8 ⟨rfl,E127⟩;refine aa (an (v:=.bool _) rfl rfl) (mvb rfl (ae rfl (aa (af dw rfl) (ae rfl (aa (ar bT rfl (by exact (show _=some (Value.string s.part) from (hk2.from_ ((((((ai.rfl_.next E50).next E92).next E99).next E106).next E113).next E127)).rd 20 rfl))) ?_)))));refine ae rfl (aa (af dw rfl) (ae rfl (aa (ar bT rfl (by exact (show _=some (Value.string s.part) from (hk3.from_ ((((((ai.rfl_.next E50).next E92).next E99).next E106).next E113).next E127)).rd 20 rfl))) ?_)));refine ae rfl (aa (du (km rfl rfl) (beq_self_eq_true _)) (aa (an (v:=.bool _) rfl rfl) (mvb rfl (ae rfl (aa (af di rfl) (ae rfl (aa (ar aq rfl (by exact (show _=some (Value.int .i64 s.partOf) from (hk2.from_ ((((((ai.rfl_.next E50).next E92).next E99).next E106).next E113).next E127)).rd 21 rfl))) ?_)))))));refine ae rfl (aa (af di rfl) (ae rfl (aa (ar aq rfl (by exact (show _=some (Value.int .i64 s.partOf) from (hk3.from_ ((((((ai.rfl_.next E50).next E92).next E99).next E106).next E113).next E127)).rd 21 rfl))) ?_)));refine ae rfl (aa (du (bu rfl rfl) (beq_self_eq_true _)) (aa (an (v:=.bool _) rfl rfl) (asb rfl (aj (ah (aA (bg (v:=.bool _) rfl rfl (⟨rfl,((((((((ai.rfl_.next E2).next E3).next E50).next E92).next E99).next E106).next E113).next E127)⟩))))))))
theorem od:h_ prog 99=some true:=by kernel_rfl
theorem kY:dH prog 99=some 3:=by kernel_rfl
theorem lx:cr prog 39 0=some 0:=by kernel_rfl
theorem lu:cr prog 39 4=some 4:=by kernel_rfl
theorem lr:cr prog 39 5=some 5:=by kernel_rfl
theorem lq:cr prog 39 6=some 6:=by kernel_rfl
theorem lp:cr prog 39 7=some 7:=by kernel_rfl
theorem ln:cr prog 39 8=some 8:=by kernel_rfl
theorem gi:cr prog 39 9=some 9:=by kernel_rfl
theorem s5:aR prog 90=true:=by kernel_rfl
theorem kz:cr prog 39 10=some 10:=by kernel_rfl
theorem iT:cr prog 39 11=some 11:=by kernel_rfl
theorem ky:cr prog 39 12=some 12:=by kernel_rfl
theorem jL:(fG prog 48).isSome=true:=by kernel_rfl
theorem jM:fG prog 48=some (39,13):=by kernel_rfl
theorem s6:aR prog 48=true:=by kernel_rfl
theorem lW {a b:ByteArray}:a.toList=b.toList↔a=b:=by
 refine ⟨fun hh=>?_,fun h=>by rw [h]⟩;rw [ByteArray.toList_eq,ByteArray.toList_eq] at hh;obtain ⟨⟨x⟩⟩:=a;obtain ⟨⟨y⟩⟩:=b
 simp_all
instance:DecidableEq Ent:=fun x y=>decidable_of_iff (x.i=y.i∧x.t=y.t∧x.d=y.d) ⟨fun h=>by cases x;cases y;simp_all,fun h=>by rw [h];exact ⟨rfl,rfl,rfl⟩⟩
theorem xw (a b:Ent) (w:World):(Op.equalIn 10000 99 (.agg #[.int .i64 a.i,.int .i64 a.t,.string a.d]) (.agg #[.int .i64 b.i,.int .i64 b.t,.string b.d])).run prog w=.ok (decide (a=b)) w:=by
 have u3:=Tryz.underlying3;have a3:=Tryz.isAgg3;have z3:=Tryz.sizeOf3;have u9:=Tryz.underlying9;have a9:=Tryz.isAgg9;have z9:=Tryz.sizeOf9;have hS:prog.underlying 99=some (.struct (prog.fieldsOf 99)):=by kernel_rfl
 have hp:prog.stoodInHeld 99=false:=by kernel_rfl
 obtain ⟨i1,t1,d1⟩:=a;obtain ⟨i2,t2,d2⟩:=b;rw [show (10000:Nat)=9999+1 from rfl,run_equalIn_agg w 9999 99 _ _ hS hp];simp only [Program.fieldsOf,Tryz.underlying99 ]
 go_simp
 simp only [lW];by_cases h1:i1=i2 <;> by_cases h2:t1=t2 <;> by_cases h3:d1=d2 <;> simp [h1,h2,h3]
theorem sG {ρ:Operand→Value} {w:World} {yt:TypeId} {x y:Operand} {a b:Ent} (hx:ρ x=.agg #[.int .i64 a.i,.int .i64 a.t,.string a.d]) (hy:ρ y=.agg #[.int .i64 b.i,.int .i64 b.t,.string b.d]):RO prog ρ (.binOp .neq 99 x y yt) w (.bool (!decide (a=b))) w:=by
 refine kK hx hy (run_eqGuard_agg w _ _ _ _ _ _ (by kernel_rfl)) ?_;rw [run_neq_struct,xw];rfl
theorem nS {w:World} {A:Option Addr} {n c:Nat} {es:List Ent} (h:cB w (.slice A n c) es) (hn:0<es.length):∃ b o,A=some ⟨b,o,none⟩∧∀ i (hi:i<es.length),w.rangeAt b (o+i*3) [.int .i64 es[i].i,.int .i64 es[i].t,.string es[i].d]:=by
 obtain ⟨A',c',hv,_,_,_,hp⟩:=h;simp only [Value.slice.injEq] at hv;obtain ⟨rfl,_,_⟩:=hv;obtain ⟨b,o,hA,_,hc⟩:=hp hn;exact ⟨b,o,hA,fun i hi=>vY (hc i hi).1 (hc i hi).2.1 (hc i hi).2.2⟩
theorem xU (a b:ByteArray):(a.toList==b.toList)=decide (a=b):=by
 rw [Bool.eq_iff_iff,beq_iff_eq,decide_eq_true_eq,lW]
theorem xF (a b:Bool):(a==b)=decide (a=b):=by cases a <;> cases b <;> rfl
theorem ug (A B:Option Addr) (ca cb n m:Nat) (xs ys:List Ent) (w:World) (hn:n=xs.length) (hm:m=ys.length) (h1:cB w (.slice A n ca) xs) (h2:cB w (.slice B m cb) ys) (hl:xs.length≤400000000000) :
 Rt prog 90 [.slice A n ca,.slice B m cb] w (fun v w'=>v=.bool (decide (xs=ys))∧ai w w'):=by
 subst hn hm;refine enter (n:=26) Tryz.func90 rfl rfl rfl (ak (ag (asb rfl (aj (ah (ak (ak (ag (mvs rfl (aa (bn dG rfl) (mvs rfl (aa (bn dG rfl) (aa (dr rfl rfl) ?_)))))))))))));refine aj (ah (aV rfl (fun Q1=>?_) (fun Q1=>?_)))
 ·replace Q1:=cZ Q1;replace Q1:=fA Q1;refine ak (ag (asb rfl (aj (ah (aA (ay (bg (v:=.bool _) rfl rfl (⟨congrArg Value.bool (decide_eq_false (fun e=>absurd (congrArg List.length e) (by omega))).symm,ai.rfl_⟩))))))))
 replace Q1:=c8 Q1;replace Q1:=fz Q1;have hlen:xs.length=ys.length:=by omega
 refine aP (ah (ak (ak (ag (asi rfl (aj (ah (aZ (cj (G:=Nat) [4,11,12,13,14,15,16,17,18,19,20,21,22,23,24,25] (fun k=>[(5,.int .i64 (k:Nat))]) (fun k w'=>k≤xs.length∧xs.take k=ys.take k∧ai w w') (fun k=>xs.length-k) (0) ⟨rfl,trivial⟩ ?_ ?_)))))))))
 ·exact ⟨Nat.zero_le _,rfl,ai.rfl_⟩
 rintro k ρ2 w2 ⟨hk,ht,hB⟩;refine ak (ak (ag (mvi rfl (mvs rfl (aa (bn dG rfl) (aa (bH rfl rfl) (aj (ah (xD rfl (fun Q3=>?_) (fun Q3=>?_))))))))))
 ·have hkx:k<xs.length:=by omega
  have hky:k<ys.length:=by omega
  obtain ⟨ba,oa,rfl,hca⟩:=nS h1 (by omega);obtain ⟨bb,ob,rfl,hcb⟩:=nS h2 (by omega);refine aP (ah (ak (aZ (ak ?_))));apply dY 9 [(17,eqp _),(18,eqp _),(19,eqp _),(20,eqp (.agg #[.int .i64 (xs[k]'hkx).i,.int .i64 (xs[k]'hkx).t,.string (xs[k]'hkx).d])),(21,eqp _),(22,eqp _),(23,eqp _),(24,eqp (.agg #[.int .i64 (ys[k]'hky).i,.int .i64 (ys[k]'hky).t,.string (ys[k]'hky).d])),(25,eqp (.bool (!decide (xs[k]'hkx=ys[k]'hky))))] (by repeat first | exact eL | refine eK ?_ | refine ee ?_) (by kernel_rfl) (by kernel_rfl) ⟨aw _,aw _,aw _,aw _,aw _,aw _,aw _,aw _,aw _,trivial⟩
  case hop=>
   constructor
   ·rintro-w5 D5;exact aF (a_ (v:=.slice _ _ _) rfl) rfl
   constructor
   ·rintro-w6 D6;exact aF (a_ (v:=.int _ _) rfl) rfl
   constructor
   ·rintro-w7 D7;rintro _ rfl _ rfl;exact aF (bq eB rfl rfl (by omega)) rfl
   constructor
   ·rintro-w8 D8;rintro _ rfl;exact aF (aH (cs:=[.int .i64 xs[k].i,.int .i64 xs[k].t,.string xs[k].d]) od kY rfl (ep (hB.next D8) (hca k hkx))) rfl
   constructor
   ·rintro-w9 D9;exact aF (a_ (v:=.slice _ _ _) rfl) rfl
   constructor
   ·rintro-w10 D10;exact aF (a_ (v:=.int _ _) rfl) rfl
   constructor
   ·rintro-w11 D11;rintro _ rfl _ rfl;exact aF (bq eB rfl rfl (by omega)) rfl
   constructor
   ·rintro-w12 D12;rintro _ rfl;exact aF (aH (cs:=[.int .i64 ys[k].i,.int .i64 ys[k].t,.string ys[k].d]) od kY rfl (ep (hB.next D12) (hcb k hky))) rfl
   constructor
   ·rintro-w13 D13;rintro v13_20 rfl v13_24 rfl;exact aF (sG (a:=xs[k]) (b:=ys[k]) rfl rfl) rfl
   exact trivial
  case hend=>
   intro w14 D14;rintro _ rfl _ rfl _ rfl v20 rfl _ rfl _ rfl _ rfl v24 rfl v25 rfl;show St ..;refine aj (ah (aV rfl (fun Q15=>?_) (fun Q15=>?_)))
   ·replace Q15:=cZ Q15;replace Q15:=dF_ Q15;have hne:¬ xs[k]=ys[k]:=by simpa using Q15
    refine ak (ag (asb rfl (aj (ah (aA (aU (ay (ay (aU (ay (bg (v:=.bool _) rfl rfl (⟨congrArg Value.bool (decide_eq_false (fun e=>by subst e;exact hne rfl)).symm,(hB.next D14)⟩))))))))))))
   replace Q15:=c8 Q15;replace Q15:=dT_ Q15;have heq:xs[k]=ys[k]:=by simpa using Q15
   refine aP (bJ (ah (ag (mvi rfl (aa (cP (b:=1) rfl rfl (by omega)) (asi rfl (aj ?_)))))));refine cD (k+1) ⟨(by first | rfl | (refine bC ?_;omega)),trivial⟩ (by (iterate 33 refine bR rfl ?_);exact cg) ⟨?_,?_⟩
   ·exact ⟨by omega,rT hkx hky ht heq,(hB.next D14)⟩
   ·omega
 refine b0 (bf (bf (bE (ah (ak (ag (asb rfl (aj (ah (aA (bg (v:=.bool _) rfl rfl (⟨congrArg Value.bool (decide_eq_true (vH hlen (by omega) ht)).symm,hB⟩))))))))))))
theorem vd (k f t tm ix lt cm rd:Int) (ok:Bool) (E:Option Addr) (n c:Nat) (a:Int) (d:ByteArray) (dn:Bool) (k2 f2 t2 tm2 ix2 lt2 cm2 rd2:Int) (ok2:Bool) (Eb:Option Addr) (n2 c2:Nat) (a2:Int) (d2:ByteArray) (dn2:Bool) (w:World) (es es2:List Ent) (hn:n=es.length) (hn2:n2=es2.length) (he:cB w (.slice E n c) es) (he2:cB w (.slice Eb n2 c2) es2) (hl:es.length≤400000000000) :
 Rt prog 48 [.agg #[.int .i64 k,.int .i64 f,.int .i64 t,.int .i64 tm,.int .i64 ix,.int .i64 lt,.int .i64 cm,.int .i64 rd,.bool ok,.slice E n c,.int .i64 a,.string d,.bool dn],.agg #[.int .i64 k2,.int .i64 f2,.int .i64 t2,.int .i64 tm2,.int .i64 ix2,.int .i64 lt2,.int .i64 cm2,.int .i64 rd2,.bool ok2,.slice Eb n2 c2,.int .i64 a2,.string d2,.bool dn2]] w (fun v w'=>v=.bool (decide (k=k2∧f=f2∧t=t2∧tm=tm2∧ix=ix2∧lt=lt2∧cm=cm2∧rd=rd2∧ok=ok2∧es=es2∧a=a2∧d=d2∧dn=dn2))∧ai w w'):=by
 refine enter (n:=94) Tryz.func48 rfl rfl rfl (ak (ag (cC (v:=.agg _) rfl ?_)));intro b2 w1 E2 hb2 hk2;refine cC (v:=.agg _) rfl ?_;intro b3 w2 E3 hb3 hk3;replace hk2:=hk2.from_ E3;refine asb rfl (aj (ah (ak (ag (aa (af lx rfl) (aa (ar aq rfl (by exact (hk2.from_ ai.rfl_).rd 0 rfl)) ?_))))));refine aa (af lx rfl) (aa (ar aq rfl (by exact (hk3.from_ ai.rfl_).rd 0 rfl)) ?_);refine aa (bu rfl rfl) (mvb rfl (wL (t:=10) rfl (fun Q3=>?_) (fun Q3=>?_)))
 ·have q0:=Q3;refine ae rfl (aa (af iS rfl) (ae rfl (aa (ar aq rfl (by exact (hk2.from_ ai.rfl_).rd 1 rfl)) ?_)));refine ae rfl (aa (af iS rfl) (ae rfl (aa (ar aq rfl (by exact (hk3.from_ ai.rfl_).rd 1 rfl)) ?_)));refine ae rfl (aa (bu rfl rfl) (aa (an (v:=.bool _) rfl rfl) (mvb rfl (wL (t:=17) rfl (fun Q4=>?_) (fun Q4=>?_)))))
  ·have q1:=Q4;refine ae rfl (aa (af iR rfl) (ae rfl (aa (ar aq rfl (by exact (hk2.from_ ai.rfl_).rd 2 rfl)) ?_)));refine ae rfl (aa (af iR rfl) (ae rfl (aa (ar aq rfl (by exact (hk3.from_ ai.rfl_).rd 2 rfl)) ?_)));refine ae rfl (aa (bu rfl rfl) (aa (an (v:=.bool _) rfl rfl) (mvb rfl (wL (t:=24) rfl (fun Q5=>?_) (fun Q5=>?_)))))
   ·have q2:=Q5;refine ae rfl (aa (af iQ rfl) (ae rfl (aa (ar aq rfl (by exact (hk2.from_ ai.rfl_).rd 3 rfl)) ?_)));refine ae rfl (aa (af iQ rfl) (ae rfl (aa (ar aq rfl (by exact (hk3.from_ ai.rfl_).rd 3 rfl)) ?_)));refine ae rfl (aa (bu rfl rfl) (aa (an (v:=.bool _) rfl rfl) (mvb rfl (wL (t:=31) rfl (fun Q6=>?_) (fun Q6=>?_)))))
    ·have q3:=Q6;refine ae rfl (aa (af lu rfl) (ae rfl (aa (ar aq rfl (by exact (hk2.from_ ai.rfl_).rd 4 rfl)) ?_)));refine ae rfl (aa (af lu rfl) (ae rfl (aa (ar aq rfl (by exact (hk3.from_ ai.rfl_).rd 4 rfl)) ?_)));refine ae rfl (aa (bu rfl rfl) (aa (an (v:=.bool _) rfl rfl) (mvb rfl (wL (t:=38) rfl (fun Q7=>?_) (fun Q7=>?_)))))
     ·have q4:=Q7;refine ae rfl (aa (af lr rfl) (ae rfl (aa (ar aq rfl (by exact (hk2.from_ ai.rfl_).rd 5 rfl)) ?_)));refine ae rfl (aa (af lr rfl) (ae rfl (aa (ar aq rfl (by exact (hk3.from_ ai.rfl_).rd 5 rfl)) ?_)));refine ae rfl (aa (bu rfl rfl) (aa (an (v:=.bool _) rfl rfl) (mvb rfl (wL (t:=45) rfl (fun Q8=>?_) (fun Q8=>?_)))))
      ·have q5:=Q8;refine ae rfl (aa (af lq rfl) (ae rfl (aa (ar aq rfl (by exact (hk2.from_ ai.rfl_).rd 6 rfl)) ?_)));refine ae rfl (aa (af lq rfl) (ae rfl (aa (ar aq rfl (by exact (hk3.from_ ai.rfl_).rd 6 rfl)) ?_)));refine ae rfl (aa (bu rfl rfl) (aa (an (v:=.bool _) rfl rfl) (mvb rfl (wL (t:=52) rfl (fun Q9=>?_) (fun Q9=>?_)))))
       ·have q6:=Q9;refine ae rfl (aa (af lp rfl) (ae rfl (aa (ar aq rfl (by exact (hk2.from_ ai.rfl_).rd 7 rfl)) ?_)));refine ae rfl (aa (af lp rfl) (ae rfl (aa (ar aq rfl (by exact (hk3.from_ ai.rfl_).rd 7 rfl)) ?_)));refine ae rfl (aa (bu rfl rfl) (aa (an (v:=.bool _) rfl rfl) (mvb rfl (wL (t:=59) rfl (fun Q10=>?_) (fun Q10=>?_)))))
        ·have q7:=Q10;refine ae rfl (aa (af ln rfl) (ae rfl (aa (ar jF rfl (by exact (hk2.from_ ai.rfl_).rd 8 rfl)) ?_)));refine ae rfl (aa (af ln rfl) (ae rfl (aa (ar jF rfl (by exact (hk3.from_ ai.rfl_).rd 8 rfl)) ?_)));refine ae rfl (aa (ij (rZ (by kernel_rfl) rfl rfl) (congrArg Value.bool (xF ok ok2))) (aa (an (v:=.bool _) rfl rfl) (mvb rfl (wM (t:=66) rfl (fun Q11=>?_) (fun Q11=>?_)))))
         ·have q8:=Q11;refine ae rfl (aa (af gi rfl) (ae rfl (aa (ar cy rfl (by exact (hk2.from_ ai.rfl_).rd 9 rfl)) ?_)));refine ae rfl (aa (af gi rfl) (ae rfl (aa (ar cy rfl (by exact (hk3.from_ ai.rfl_).rd 9 rfl)) ?_)));refine ae rfl (aB s5 (ug E Eb c c2 n n2 es es2 _ hn hn2 (he.from_ ((ai.rfl_.next E2).next E3)) (he2.from_ ((ai.rfl_.next E2).next E3)) hl) ?_);rintro v71 w12 ⟨rfl,E71⟩;refine aa (an (v:=.bool _) rfl rfl) (mvb rfl (wM (t:=73) rfl (fun Q13=>?_) (fun Q13=>?_)))
          ·have q9:=Q13;refine ae rfl (aa (af kz rfl) (ae rfl (aa (ar aq rfl (by exact (hk2.from_ (ai.rfl_.next E71)).rd 10 rfl)) ?_)));refine ae rfl (aa (af kz rfl) (ae rfl (aa (ar aq rfl (by exact (hk3.from_ (ai.rfl_.next E71)).rd 10 rfl)) ?_)));refine ae rfl (aa (bu rfl rfl) (aa (an (v:=.bool _) rfl rfl) (mvb rfl (wL (t:=80) rfl (fun Q14=>?_) (fun Q14=>?_)))))
           ·have q10:=Q14;refine ae rfl (aa (af iT rfl) (ae rfl (aa (ar bT rfl (by exact (hk2.from_ (ai.rfl_.next E71)).rd 11 rfl)) ?_)));refine ae rfl (aa (af iT rfl) (ae rfl (aa (ar bT rfl (by exact (hk3.from_ (ai.rfl_.next E71)).rd 11 rfl)) ?_)));refine ae rfl (aa (ij (km rfl rfl) (congrArg Value.bool (xU d d2))) (aa (an (v:=.bool _) rfl rfl) (mvb rfl (wM (t:=87) rfl (fun Q15=>?_) (fun Q15=>?_)))))
            ·have q11:=Q15;refine ae rfl (aa (af ky rfl) (ae rfl (aa (ar jF rfl (by exact (hk2.from_ (ai.rfl_.next E71)).rd 12 rfl)) ?_)));refine ae rfl (aa (af ky rfl) (ae rfl (aa (ar jF rfl (by exact (hk3.from_ (ai.rfl_.next E71)).rd 12 rfl)) ?_)));refine ae rfl (aa (ij (rZ (by kernel_rfl) rfl rfl) (congrArg Value.bool (xF dn dn2))) (aa (an (v:=.bool _) rfl rfl) (asb rfl (aj (ah (aA (bg (v:=.bool _) rfl rfl (⟨congrArg Value.bool ?_,(((ai.rfl_.next E2).next E3).next E71)⟩))))))))
             first
              |exact (decide_eq_false hno).symm
              |(rw [decide_eq_decide];exact ⟨fun h=>⟨q0,q1,q2,q3,q4,q5,q6,q7,q8,q9,q10,q11,h⟩,fun h=>h.2.2.2.2.2.2.2.2.2.2.2.2⟩)
            have hno:¬ (k=k2∧f=f2∧t=t2∧tm=tm2∧ix=ix2∧lt=lt2∧cm=cm2∧rd=rd2∧ok=ok2∧es=es2∧a=a2∧d=d2∧dn=dn2):=fun e=>Q15 e.2.2.2.2.2.2.2.2.2.2.2.1
            refine ab rfl rfl (ab rfl rfl (ab rfl rfl (ab rfl rfl (ab rfl rfl (aa (au (v:=.bool _) rfl rfl) (asb rfl (aj (ah (aA (bg (v:=.bool _) rfl rfl ?_))))))))));refine ⟨congrArg Value.bool ?_,(((ai.rfl_.next E2).next E3).next E71)⟩
            first
             |exact (decide_eq_false hno).symm
             |(rw [decide_eq_decide];exact ⟨fun h=>⟨q0,q1,q2,q3,q4,q5,q6,q7,q8,q9,q10,q11,h⟩,fun h=>h.2.2.2.2.2.2.2.2.2.2.2.2⟩)
           have hno:¬ (k=k2∧f=f2∧t=t2∧tm=tm2∧ix=ix2∧lt=lt2∧cm=cm2∧rd=rd2∧ok=ok2∧es=es2∧a=a2∧d=d2∧dn=dn2):=fun e=>Q14 e.2.2.2.2.2.2.2.2.2.2.1
           refine ab rfl rfl (ab rfl rfl (ab rfl rfl (ab rfl rfl (ab rfl rfl (aa (au (v:=.bool _) rfl rfl) (mvb rfl (ab rfl rfl (ab rfl rfl ?_))))))));refine ab rfl rfl (ab rfl rfl (ab rfl rfl (aa (au (v:=.bool _) rfl rfl) (asb rfl (aj (ah (aA (bg (v:=.bool _) rfl rfl (⟨congrArg Value.bool ?_,(((ai.rfl_.next E2).next E3).next E71)⟩)))))))))
           first
            |exact (decide_eq_false hno).symm
            |(rw [decide_eq_decide];exact ⟨fun h=>⟨q0,q1,q2,q3,q4,q5,q6,q7,q8,q9,q10,q11,h⟩,fun h=>h.2.2.2.2.2.2.2.2.2.2.2.2⟩)
          have hno:¬ (k=k2∧f=f2∧t=t2∧tm=tm2∧ix=ix2∧lt=lt2∧cm=cm2∧rd=rd2∧ok=ok2∧es=es2∧a=a2∧d=d2∧dn=dn2):=fun e=>Q13 e.2.2.2.2.2.2.2.2.2.1
          refine ab rfl rfl (ab rfl rfl (ab rfl rfl (ab rfl rfl (ab rfl rfl (aa (au (v:=.bool _) rfl rfl) (mvb rfl (ab rfl rfl (ab rfl rfl ?_))))))));refine ab rfl rfl (ab rfl rfl (ab rfl rfl (aa (au (v:=.bool _) rfl rfl) (mvb rfl (ab rfl rfl (ab rfl rfl (ab rfl rfl (ab rfl rfl ?_))))))));refine ab rfl rfl (aa (au (v:=.bool _) rfl rfl) (asb rfl (aj (ah (aA (bg (v:=.bool _) rfl rfl (⟨congrArg Value.bool ?_,(((ai.rfl_.next E2).next E3).next E71)⟩)))))))
          first
           |exact (decide_eq_false hno).symm
           |(rw [decide_eq_decide];exact ⟨fun h=>⟨q0,q1,q2,q3,q4,q5,q6,q7,q8,q9,q10,q11,h⟩,fun h=>h.2.2.2.2.2.2.2.2.2.2.2.2⟩)
         have hno:¬ (k=k2∧f=f2∧t=t2∧tm=tm2∧ix=ix2∧lt=lt2∧cm=cm2∧rd=rd2∧ok=ok2∧es=es2∧a=a2∧d=d2∧dn=dn2):=fun e=>Q11 e.2.2.2.2.2.2.2.2.1
         refine ab rfl rfl (ab rfl rfl (ab rfl rfl (ab rfl rfl (ab rfl rfl (aa (au (v:=.bool _) rfl rfl) (mvb rfl (ab rfl rfl (ab rfl rfl ?_))))))));refine ab rfl rfl (ab rfl rfl (ab rfl rfl (aa (au (v:=.bool _) rfl rfl) (mvb rfl (ab rfl rfl (ab rfl rfl (ab rfl rfl (ab rfl rfl ?_))))))));refine ab rfl rfl (aa (au (v:=.bool _) rfl rfl) (mvb rfl (ab rfl rfl (ab rfl rfl (ab rfl rfl (ab rfl rfl (ab rfl rfl (aa (au (v:=.bool _) rfl rfl) ?_))))))));refine asb rfl (aj (ah (aA (bg (v:=.bool _) rfl rfl (⟨congrArg Value.bool ?_,((ai.rfl_.next E2).next E3)⟩)))))
         first
          |exact (decide_eq_false hno).symm
          |(rw [decide_eq_decide];exact ⟨fun h=>⟨q0,q1,q2,q3,q4,q5,q6,q7,q8,q9,q10,q11,h⟩,fun h=>h.2.2.2.2.2.2.2.2.2.2.2.2⟩)
        have hno:¬ (k=k2∧f=f2∧t=t2∧tm=tm2∧ix=ix2∧lt=lt2∧cm=cm2∧rd=rd2∧ok=ok2∧es=es2∧a=a2∧d=d2∧dn=dn2):=fun e=>Q10 e.2.2.2.2.2.2.2.1
        refine ab rfl rfl (ab rfl rfl (ab rfl rfl (ab rfl rfl (ab rfl rfl (aa (au (v:=.bool _) rfl rfl) (mvb rfl (ab rfl rfl (ab rfl rfl ?_))))))));refine ab rfl rfl (ab rfl rfl (ab rfl rfl (aa (au (v:=.bool _) rfl rfl) (mvb rfl (ab rfl rfl (ab rfl rfl (ab rfl rfl (ab rfl rfl ?_))))))));refine ab rfl rfl (aa (au (v:=.bool _) rfl rfl) (mvb rfl (ab rfl rfl (ab rfl rfl (ab rfl rfl (ab rfl rfl (ab rfl rfl (aa (au (v:=.bool _) rfl rfl) ?_))))))));refine mvb rfl (ab rfl rfl (ab rfl rfl (ab rfl rfl (ab rfl rfl (ab rfl rfl (aa (au (v:=.bool _) rfl rfl) (asb rfl (aj (ah (aA ?_))))))))));refine bg (v:=.bool _) rfl rfl (⟨congrArg Value.bool ?_,((ai.rfl_.next E2).next E3)⟩)
        first
         |exact (decide_eq_false hno).symm
         |(rw [decide_eq_decide];exact ⟨fun h=>⟨q0,q1,q2,q3,q4,q5,q6,q7,q8,q9,q10,q11,h⟩,fun h=>h.2.2.2.2.2.2.2.2.2.2.2.2⟩)
       have hno:¬ (k=k2∧f=f2∧t=t2∧tm=tm2∧ix=ix2∧lt=lt2∧cm=cm2∧rd=rd2∧ok=ok2∧es=es2∧a=a2∧d=d2∧dn=dn2):=fun e=>Q9 e.2.2.2.2.2.2.1
       refine ab rfl rfl (ab rfl rfl (ab rfl rfl (ab rfl rfl (ab rfl rfl (aa (au (v:=.bool _) rfl rfl) (mvb rfl (ab rfl rfl (ab rfl rfl ?_))))))));refine ab rfl rfl (ab rfl rfl (ab rfl rfl (aa (au (v:=.bool _) rfl rfl) (mvb rfl (ab rfl rfl (ab rfl rfl (ab rfl rfl (ab rfl rfl ?_))))))));refine ab rfl rfl (aa (au (v:=.bool _) rfl rfl) (mvb rfl (ab rfl rfl (ab rfl rfl (ab rfl rfl (ab rfl rfl (ab rfl rfl (aa (au (v:=.bool _) rfl rfl) ?_))))))));refine mvb rfl (ab rfl rfl (ab rfl rfl (ab rfl rfl (ab rfl rfl (ab rfl rfl (aa (au (v:=.bool _) rfl rfl) (mvb rfl (ab rfl rfl ?_))))))));refine ab rfl rfl (ab rfl rfl (ab rfl rfl (ab rfl rfl (aa (au (v:=.bool _) rfl rfl) (asb rfl (aj (ah (aA (bg (v:=.bool _) rfl rfl (⟨congrArg Value.bool ?_,((ai.rfl_.next E2).next E3)⟩))))))))))
       first
        |exact (decide_eq_false hno).symm
        |(rw [decide_eq_decide];exact ⟨fun h=>⟨q0,q1,q2,q3,q4,q5,q6,q7,q8,q9,q10,q11,h⟩,fun h=>h.2.2.2.2.2.2.2.2.2.2.2.2⟩)
      have hno:¬ (k=k2∧f=f2∧t=t2∧tm=tm2∧ix=ix2∧lt=lt2∧cm=cm2∧rd=rd2∧ok=ok2∧es=es2∧a=a2∧d=d2∧dn=dn2):=fun e=>Q8 e.2.2.2.2.2.1
      refine ab rfl rfl (ab rfl rfl (ab rfl rfl (ab rfl rfl (ab rfl rfl (aa (au (v:=.bool _) rfl rfl) (mvb rfl (ab rfl rfl (ab rfl rfl ?_))))))));refine ab rfl rfl (ab rfl rfl (ab rfl rfl (aa (au (v:=.bool _) rfl rfl) (mvb rfl (ab rfl rfl (ab rfl rfl (ab rfl rfl (ab rfl rfl ?_))))))));refine ab rfl rfl (aa (au (v:=.bool _) rfl rfl) (mvb rfl (ab rfl rfl (ab rfl rfl (ab rfl rfl (ab rfl rfl (ab rfl rfl (aa (au (v:=.bool _) rfl rfl) ?_))))))));refine mvb rfl (ab rfl rfl (ab rfl rfl (ab rfl rfl (ab rfl rfl (ab rfl rfl (aa (au (v:=.bool _) rfl rfl) (mvb rfl (ab rfl rfl ?_))))))));refine ab rfl rfl (ab rfl rfl (ab rfl rfl (ab rfl rfl (aa (au (v:=.bool _) rfl rfl) (mvb rfl (ab rfl rfl (ab rfl rfl (ab rfl rfl ?_))))))));refine ab rfl rfl (ab rfl rfl (aa (au (v:=.bool _) rfl rfl) (asb rfl (aj (ah (aA (bg (v:=.bool _) rfl rfl (⟨congrArg Value.bool ?_,((ai.rfl_.next E2).next E3)⟩))))))))
      first
       |exact (decide_eq_false hno).symm
       |(rw [decide_eq_decide];exact ⟨fun h=>⟨q0,q1,q2,q3,q4,q5,q6,q7,q8,q9,q10,q11,h⟩,fun h=>h.2.2.2.2.2.2.2.2.2.2.2.2⟩)
     have hno:¬ (k=k2∧f=f2∧t=t2∧tm=tm2∧ix=ix2∧lt=lt2∧cm=cm2∧rd=rd2∧ok=ok2∧es=es2∧a=a2∧d=d2∧dn=dn2):=fun e=>Q7 e.2.2.2.2.1
     refine ab rfl rfl (ab rfl rfl (ab rfl rfl (ab rfl rfl (ab rfl rfl (aa (au (v:=.bool _) rfl rfl) (mvb rfl (ab rfl rfl (ab rfl rfl ?_))))))));refine ab rfl rfl (ab rfl rfl (ab rfl rfl (aa (au (v:=.bool _) rfl rfl) (mvb rfl (ab rfl rfl (ab rfl rfl (ab rfl rfl (ab rfl rfl ?_))))))));refine ab rfl rfl (aa (au (v:=.bool _) rfl rfl) (mvb rfl (ab rfl rfl (ab rfl rfl (ab rfl rfl (ab rfl rfl (ab rfl rfl (aa (au (v:=.bool _) rfl rfl) ?_))))))));refine mvb rfl (ab rfl rfl (ab rfl rfl (ab rfl rfl (ab rfl rfl (ab rfl rfl (aa (au (v:=.bool _) rfl rfl) (mvb rfl (ab rfl rfl ?_))))))));refine ab rfl rfl (ab rfl rfl (ab rfl rfl (ab rfl rfl (aa (au (v:=.bool _) rfl rfl) (mvb rfl (ab rfl rfl (ab rfl rfl (ab rfl rfl ?_))))))));refine ab rfl rfl (ab rfl rfl (aa (au (v:=.bool _) rfl rfl) (mvb rfl (ab rfl rfl (ab rfl rfl (ab rfl rfl (ab rfl rfl (ab rfl rfl ?_))))))));refine aa (au (v:=.bool _) rfl rfl) (asb rfl (aj (ah (aA (bg (v:=.bool _) rfl rfl (⟨congrArg Value.bool ?_,((ai.rfl_.next E2).next E3)⟩))))))
     first
      |exact (decide_eq_false hno).symm
      |(rw [decide_eq_decide];exact ⟨fun h=>⟨q0,q1,q2,q3,q4,q5,q6,q7,q8,q9,q10,q11,h⟩,fun h=>h.2.2.2.2.2.2.2.2.2.2.2.2⟩)
    have hno:¬ (k=k2∧f=f2∧t=t2∧tm=tm2∧ix=ix2∧lt=lt2∧cm=cm2∧rd=rd2∧ok=ok2∧es=es2∧a=a2∧d=d2∧dn=dn2):=fun e=>Q6 e.2.2.2.1
    refine ab rfl rfl (ab rfl rfl (ab rfl rfl (ab rfl rfl (ab rfl rfl (aa (au (v:=.bool _) rfl rfl) (mvb rfl (ab rfl rfl (ab rfl rfl ?_))))))));refine ab rfl rfl (ab rfl rfl (ab rfl rfl (aa (au (v:=.bool _) rfl rfl) (mvb rfl (ab rfl rfl (ab rfl rfl (ab rfl rfl (ab rfl rfl ?_))))))));refine ab rfl rfl (aa (au (v:=.bool _) rfl rfl) (mvb rfl (ab rfl rfl (ab rfl rfl (ab rfl rfl (ab rfl rfl (ab rfl rfl (aa (au (v:=.bool _) rfl rfl) ?_))))))));refine mvb rfl (ab rfl rfl (ab rfl rfl (ab rfl rfl (ab rfl rfl (ab rfl rfl (aa (au (v:=.bool _) rfl rfl) (mvb rfl (ab rfl rfl ?_))))))));refine ab rfl rfl (ab rfl rfl (ab rfl rfl (ab rfl rfl (aa (au (v:=.bool _) rfl rfl) (mvb rfl (ab rfl rfl (ab rfl rfl (ab rfl rfl ?_))))))));refine ab rfl rfl (ab rfl rfl (aa (au (v:=.bool _) rfl rfl) (mvb rfl (ab rfl rfl (ab rfl rfl (ab rfl rfl (ab rfl rfl (ab rfl rfl ?_))))))));refine aa (au (v:=.bool _) rfl rfl) (mvb rfl (ab rfl rfl (ab rfl rfl (ab rfl rfl (ab rfl rfl (ab rfl rfl (aa (au (v:=.bool _) rfl rfl) (asb rfl ?_))))))));refine aj (ah (aA (bg (v:=.bool _) rfl rfl (⟨congrArg Value.bool ?_,((ai.rfl_.next E2).next E3)⟩))))
    first
     |exact (decide_eq_false hno).symm
     |(rw [decide_eq_decide];exact ⟨fun h=>⟨q0,q1,q2,q3,q4,q5,q6,q7,q8,q9,q10,q11,h⟩,fun h=>h.2.2.2.2.2.2.2.2.2.2.2.2⟩)
   have hno:¬ (k=k2∧f=f2∧t=t2∧tm=tm2∧ix=ix2∧lt=lt2∧cm=cm2∧rd=rd2∧ok=ok2∧es=es2∧a=a2∧d=d2∧dn=dn2):=fun e=>Q5 e.2.2.1
   refine ab rfl rfl (ab rfl rfl (ab rfl rfl (ab rfl rfl (ab rfl rfl (aa (au (v:=.bool _) rfl rfl) (mvb rfl (ab rfl rfl (ab rfl rfl ?_))))))));refine ab rfl rfl (ab rfl rfl (ab rfl rfl (aa (au (v:=.bool _) rfl rfl) (mvb rfl (ab rfl rfl (ab rfl rfl (ab rfl rfl (ab rfl rfl ?_))))))));refine ab rfl rfl (aa (au (v:=.bool _) rfl rfl) (mvb rfl (ab rfl rfl (ab rfl rfl (ab rfl rfl (ab rfl rfl (ab rfl rfl (aa (au (v:=.bool _) rfl rfl) ?_))))))));refine mvb rfl (ab rfl rfl (ab rfl rfl (ab rfl rfl (ab rfl rfl (ab rfl rfl (aa (au (v:=.bool _) rfl rfl) (mvb rfl (ab rfl rfl ?_))))))));refine ab rfl rfl (ab rfl rfl (ab rfl rfl (ab rfl rfl (aa (au (v:=.bool _) rfl rfl) (mvb rfl (ab rfl rfl (ab rfl rfl (ab rfl rfl ?_))))))));refine ab rfl rfl (ab rfl rfl (aa (au (v:=.bool _) rfl rfl) (mvb rfl (ab rfl rfl (ab rfl rfl (ab rfl rfl (ab rfl rfl (ab rfl rfl ?_))))))));refine aa (au (v:=.bool _) rfl rfl) (mvb rfl (ab rfl rfl (ab rfl rfl (ab rfl rfl (ab rfl rfl (ab rfl rfl (aa (au (v:=.bool _) rfl rfl) (mvb rfl ?_))))))));refine ab rfl rfl (ab rfl rfl (ab rfl rfl (ab rfl rfl (ab rfl rfl (aa (au (v:=.bool _) rfl rfl) (asb rfl (aj (ah (aA (bg (v:=.bool _) rfl rfl ?_))))))))));refine ⟨congrArg Value.bool ?_,((ai.rfl_.next E2).next E3)⟩
   first
    |exact (decide_eq_false hno).symm
    |(rw [decide_eq_decide];exact ⟨fun h=>⟨q0,q1,q2,q3,q4,q5,q6,q7,q8,q9,q10,q11,h⟩,fun h=>h.2.2.2.2.2.2.2.2.2.2.2.2⟩)
  have hno:¬ (k=k2∧f=f2∧t=t2∧tm=tm2∧ix=ix2∧lt=lt2∧cm=cm2∧rd=rd2∧ok=ok2∧es=es2∧a=a2∧d=d2∧dn=dn2):=fun e=>Q4 e.2.1
  refine ab rfl rfl (ab rfl rfl (ab rfl rfl (ab rfl rfl (ab rfl rfl (aa (au (v:=.bool _) rfl rfl) (mvb rfl (ab rfl rfl (ab rfl rfl ?_))))))));refine ab rfl rfl (ab rfl rfl (ab rfl rfl (aa (au (v:=.bool _) rfl rfl) (mvb rfl (ab rfl rfl (ab rfl rfl (ab rfl rfl (ab rfl rfl ?_))))))));refine ab rfl rfl (aa (au (v:=.bool _) rfl rfl) (mvb rfl (ab rfl rfl (ab rfl rfl (ab rfl rfl (ab rfl rfl (ab rfl rfl (aa (au (v:=.bool _) rfl rfl) ?_))))))));refine mvb rfl (ab rfl rfl (ab rfl rfl (ab rfl rfl (ab rfl rfl (ab rfl rfl (aa (au (v:=.bool _) rfl rfl) (mvb rfl (ab rfl rfl ?_))))))));refine ab rfl rfl (ab rfl rfl (ab rfl rfl (ab rfl rfl (aa (au (v:=.bool _) rfl rfl) (mvb rfl (ab rfl rfl (ab rfl rfl (ab rfl rfl ?_))))))));refine ab rfl rfl (ab rfl rfl (aa (au (v:=.bool _) rfl rfl) (mvb rfl (ab rfl rfl (ab rfl rfl (ab rfl rfl (ab rfl rfl (ab rfl rfl ?_))))))));refine aa (au (v:=.bool _) rfl rfl) (mvb rfl (ab rfl rfl (ab rfl rfl (ab rfl rfl (ab rfl rfl (ab rfl rfl (aa (au (v:=.bool _) rfl rfl) (mvb rfl ?_))))))));refine ab rfl rfl (ab rfl rfl (ab rfl rfl (ab rfl rfl (ab rfl rfl (aa (au (v:=.bool _) rfl rfl) (mvb rfl (ab rfl rfl (ab rfl rfl ?_))))))));refine ab rfl rfl (ab rfl rfl (ab rfl rfl (aa (au (v:=.bool _) rfl rfl) (asb rfl (aj (ah (aA (bg (v:=.bool _) rfl rfl (⟨congrArg Value.bool ?_,((ai.rfl_.next E2).next E3)⟩)))))))))
  first
   |exact (decide_eq_false hno).symm
   |(rw [decide_eq_decide];exact ⟨fun h=>⟨q0,q1,q2,q3,q4,q5,q6,q7,q8,q9,q10,q11,h⟩,fun h=>h.2.2.2.2.2.2.2.2.2.2.2.2⟩)
 have hno:¬ (k=k2∧f=f2∧t=t2∧tm=tm2∧ix=ix2∧lt=lt2∧cm=cm2∧rd=rd2∧ok=ok2∧es=es2∧a=a2∧d=d2∧dn=dn2):=fun e=>Q3 e.1
 refine ab rfl rfl (ab rfl rfl (ab rfl rfl (ab rfl rfl (ab rfl rfl (aa (au (v:=.bool _) rfl rfl) (mvb rfl (ab rfl rfl (ab rfl rfl ?_))))))));refine ab rfl rfl (ab rfl rfl (ab rfl rfl (aa (au (v:=.bool _) rfl rfl) (mvb rfl (ab rfl rfl (ab rfl rfl (ab rfl rfl (ab rfl rfl ?_))))))));refine ab rfl rfl (aa (au (v:=.bool _) rfl rfl) (mvb rfl (ab rfl rfl (ab rfl rfl (ab rfl rfl (ab rfl rfl (ab rfl rfl (aa (au (v:=.bool _) rfl rfl) ?_))))))));refine mvb rfl (ab rfl rfl (ab rfl rfl (ab rfl rfl (ab rfl rfl (ab rfl rfl (aa (au (v:=.bool _) rfl rfl) (mvb rfl (ab rfl rfl ?_))))))));refine ab rfl rfl (ab rfl rfl (ab rfl rfl (ab rfl rfl (aa (au (v:=.bool _) rfl rfl) (mvb rfl (ab rfl rfl (ab rfl rfl (ab rfl rfl ?_))))))));refine ab rfl rfl (ab rfl rfl (aa (au (v:=.bool _) rfl rfl) (mvb rfl (ab rfl rfl (ab rfl rfl (ab rfl rfl (ab rfl rfl (ab rfl rfl ?_))))))));refine aa (au (v:=.bool _) rfl rfl) (mvb rfl (ab rfl rfl (ab rfl rfl (ab rfl rfl (ab rfl rfl (ab rfl rfl (aa (au (v:=.bool _) rfl rfl) (mvb rfl ?_))))))));refine ab rfl rfl (ab rfl rfl (ab rfl rfl (ab rfl rfl (ab rfl rfl (aa (au (v:=.bool _) rfl rfl) (mvb rfl (ab rfl rfl (ab rfl rfl ?_))))))));refine ab rfl rfl (ab rfl rfl (ab rfl rfl (aa (au (v:=.bool _) rfl rfl) (mvb rfl (ab rfl rfl (ab rfl rfl (ab rfl rfl (ab rfl rfl ?_))))))));refine ab rfl rfl (aa (au (v:=.bool _) rfl rfl) (asb rfl (aj (ah (aA (bg (v:=.bool _) rfl rfl (⟨congrArg Value.bool ?_,((ai.rfl_.next E2).next E3)⟩)))))))
 first
  |exact (decide_eq_false hno).symm
  |(rw [decide_eq_decide];exact ⟨fun h=>⟨q0,q1,q2,q3,q4,q5,q6,q7,q8,q9,q10,q11,h⟩,fun h=>h.2.2.2.2.2.2.2.2.2.2.2.2⟩)
theorem vc (x y:Msg) (w:World) (h:pl x=pl y) (hx:cB w (.slice x.E x.es.length x.c) x.es) (hy:cB w (.slice y.E y.es.length y.c) y.es) (hl:x.es.length≤1000000) :
 Rt prog 48 [.agg (ew x).toArray,.agg (ew y).toArray] w fun v w'=>v=.bool true∧ai w w':=
 (vd x.k x.f x.t x.tm x.ix x.lt x.cm x.rd x.ok x.E x.es.length x.c x.a x.d x.dn y.k y.f y.t y.tm y.ix y.lt y.cm y.rd y.ok y.E y.es.length y.c y.a y.d y.dn w x.es y.es rfl rfl hx hy (by omega)).mono fun v w' hv=>⟨by
  rw [hv.1];exact congrArg Value.bool (decide_eq_true ⟨(show (pl x).k=(pl y).k from congrArg Msg.k h),(show (pl x).f=(pl y).f from congrArg Msg.f h),(show (pl x).t=(pl y).t from congrArg Msg.t h),(show (pl x).tm=(pl y).tm from congrArg Msg.tm h),(show (pl x).ix=(pl y).ix from congrArg Msg.ix h),(show (pl x).lt=(pl y).lt from congrArg Msg.lt h),(show (pl x).cm=(pl y).cm from congrArg Msg.cm h),(show (pl x).rd=(pl y).rd from congrArg Msg.rd h),(show (pl x).ok=(pl y).ok from congrArg Msg.ok h),(show (pl x).es=(pl y).es from congrArg Msg.es h),(show (pl x).a=(pl y).a from congrArg Msg.a h),(show (pl x).d=(pl y).d from congrArg Msg.d h),(show (pl x).dn=(pl y).dn from congrArg Msg.dn h)⟩),hv.2⟩
theorem wW {X Y:List Msg} (h:X.map pl=Y.map pl) {k:Nat} (hx:k<X.length) (hy:k<Y.length):pl X[k]=pl Y[k]:=by
 have:(X.map pl)[k]'(by simpa using hx)=(Y.map pl)[k]'(by simpa using hy):=by simp only [h]
 simpa using this
theorem ue (A B:Option Addr) (c c2 n:Nat) (X Y:List Msg) (w:World) (hr:fP 13 ew w A X) (hr2:fP 13 ew w B Y) (hX:X.length=n) (hY:Y.length=n) (hp:X.map pl=Y.map pl) (hE:∀ x∈X,cB w (.slice x.E x.es.length x.c) x.es) (hE2:∀ x∈Y,cB w (.slice x.E x.es.length x.c) x.es) (hle:∀ x∈X,x.es.length≤1000000) (hn:n≤100000) :
 Rt prog 50 [.slice A n c,.slice B n c2] w (fun v w'=>v=.bool true∧ai w w'):=by
 refine enter (n:=27) Tryz.func50 rfl rfl rfl (ak (ag (asb rfl (aj (ah (ak (ak (ag (mvs rfl (aa (bn jL rfl) (mvs rfl (aa (bn jL rfl) (aa (dI (dr rfl rfl) (bne_self_eq_false _)) ?_)))))))))))));refine aj (ah (bF rfl (aP (ah (ak (ak (ag (asi rfl (aj (ah (aZ (cj (G:=Nat) [4,11,12,13,14,15,16,17,18,19,20,21,22,23,24,25,26] (fun k=>[(5,.int .i64 (k:Nat))]) (fun k w'=>k≤n∧ai w w') (fun k=>n-k) (0) ⟨rfl,trivial⟩ ?_ ?_))))))))))))
 ·exact ⟨Nat.zero_le _,ai.rfl_⟩
 rintro k ρ1 w1 ⟨hk,hB⟩;refine ak (ak (ag (mvi rfl (mvs rfl (aa (bn jL rfl) (aa (bH rfl rfl) (aj (ah (xD rfl (fun Q2=>?_) (fun Q2=>?_))))))))))
 ·have hkX:k<X.length:=by omega
  have hkY:k<Y.length:=by omega
  obtain ⟨ba,oa,rfl,hca⟩:=hr (by omega);obtain ⟨bb,ob,rfl,hcb⟩:=hr2 (by omega);have hxk:=hE _ (List.getElem_mem hkX);have hyk:=hE2 _ (List.getElem_mem hkY);have hlk:=hle _ (List.getElem_mem hkX);refine aP (ah (ak (aZ (ak ?_))));apply dY 10 [(17,eqp _),(18,eqp _),(19,eqp _),(20,eqp (.agg (ew (X[k]'hkX)).toArray)),(21,eqp _),(22,eqp _),(23,eqp _),(24,eqp (.agg (ew (Y[k]'hkY)).toArray)),(25,eqp _),(26,eqp _)] (by repeat first | exact eL | refine eK ?_ | refine ee ?_) (by kernel_rfl) (by kernel_rfl) ⟨aw _,aw _,aw _,aw _,aw _,aw _,aw _,aw _,aw _,aw _,trivial⟩
  case hop=>
   constructor
   ·rintro-w4 D4;exact aF (a_ (v:=.slice _ _ _) rfl) rfl
   constructor
   ·rintro-w5 D5;exact aF (a_ (v:=.int _ _) rfl) rfl
   constructor
   ·rintro-w6 D6;rintro _ rfl _ rfl;exact aF (bq jM rfl rfl (by omega)) rfl
   constructor
   ·rintro-w7 D7;rintro _ rfl;exact aF (aH (cs:=ew (X[k]'hkX)) gZ fR rfl (ep (hB.next D7) (hca k hkX))) rfl
   constructor
   ·rintro-w8 D8;exact aF (a_ (v:=.slice _ _ _) rfl) rfl
   constructor
   ·rintro-w9 D9;exact aF (a_ (v:=.int _ _) rfl) rfl
   constructor
   ·rintro-w10 D10;rintro _ rfl _ rfl;exact aF (bq jM rfl rfl (by omega)) rfl
   constructor
   ·rintro-w11 D11;rintro _ rfl;exact aF (aH (cs:=ew (Y[k]'hkY)) gZ fR rfl (ep (hB.next D11) (hcb k hkY))) rfl
   constructor
   ·rintro-w12 D12;rintro v12_20 rfl v12_24 rfl;refine fy s6 ((vc (X[k]'hkX) (Y[k]'hkY) _ (wW hp hkX hkY) (hxk.from_ (hB.next D12)) (hyk.from_ (hB.next D12)) hlk).mono ?_);rintro v _ ⟨rfl,E12'⟩;exact ⟨E12',rfl⟩
   constructor
   ·rintro-w13 D13;rintro _ rfl;exact aF (cf rfl) rfl
   exact trivial
  case hend=>
   intro w14 D14;rintro _ rfl _ rfl _ rfl v20 rfl _ rfl _ rfl _ rfl v24 rfl _ rfl _ rfl;show St ..;refine aj (ah (xB rfl (fun Q15=>?_) (fun Q15=>?_)))
   ·exfalso;contradiction
   refine aP (bJ (ah (ag (mvi rfl (aa (cP (b:=1) rfl rfl (by omega)) (asi rfl (aj ?_)))))));refine cD (k+1) ⟨(by first | rfl | (refine bC ?_;omega)),trivial⟩ (by (iterate 35 refine bR rfl ?_);exact cg) ⟨?_,?_⟩
   ·exact ⟨by omega,(hB.next D14)⟩
   ·omega
 refine b0 (bf (bf (bE (ah (ak (ag (asb rfl (aj (ah (aA (bg (v:=.bool _) rfl rfl (⟨rfl,hB⟩))))))))))))
theorem ja:prog.built 99 [(0,.int .i64 (-9))]=some #[.int .i64 (-9),.int .i64 0,.string ⟨#[]⟩]:=by kernel_rfl
theorem oZ:prog.built 99 []=some #[.int .i64 0,.int .i64 0,.string ⟨#[]⟩]:=by kernel_rfl
theorem lk:aR prog 93=true:=by kernel_rfl
theorem fu:aR prog 43=true:=by kernel_rfl
theorem jc:prog.built 54 [(0,.int .i64 (-9))]=some #[.int .i64 (-9),.int .i64 0,.int .i64 0,.slice none 0 0]:=by kernel_rfl
theorem jd:prog.built 39 [(0,.int .i64 (-9))]=some #[.int .i64 (-9),.int .i64 0,.int .i64 0,.int .i64 0,.int .i64 0,.int .i64 0,.int .i64 0,.int .i64 0,.bool false,.slice none 0 0,.int .i64 0,.string ⟨#[]⟩,.bool false]:=by kernel_rfl
theorem o0:prog.built 39 []=some #[.int .i64 0,.int .i64 0,.int .i64 0,.int .i64 0,.int .i64 0,.int .i64 0,.int .i64 0,.int .i64 0,.bool false,.slice none 0 0,.int .i64 0,.string ⟨#[]⟩,.bool false]:=by kernel_rfl
theorem nz (base:Nat) (A:Option Addr) (c n:Nat) (xs:List Value) (w:World) (ho:w.ownsRow base 99 3 (.slice A n c) n xs) (hb:base≤w.heap.size) (hl:n≤1000000000) :
 Rt prog 93 [.slice A n c] w (fun v w'=>v=.tuple #[]∧w.grownBy w' (A.map (·.block))):=by
 refine enter (n:=17) Tryz.func93 rfl rfl rfl (ak (ak (ag (asi rfl (aj (ah (aZ (cj (G:=Nat×List Value) [3,4,5,6,7,8,9,10,11,12] (fun (k,_)=>[(2,.int .i64 (k:Nat))]) (fun (k,ys) w'=>k≤n∧w'.ownsRow base 99 3 (.slice A n c) n ys∧w.grownBy w' (A.map (·.block))) (fun (k,_)=>n-k) ((0,xs)) ⟨rfl,trivial⟩ ?_ ?_))))))))
 ·exact ⟨Nat.zero_le _,ho,World.grownBy.refl _ _⟩
 rintro ⟨k,ys⟩ ρ1 w1 ⟨hk,ho2,hG⟩;refine ak (ak (ag (mvi rfl (mvs rfl (aa (bn dG rfl) (aa (bH rfl rfl) (aj (ah (xD rfl (fun Q2=>?_) (fun Q2=>?_))))))))))
 ·obtain ⟨g,rfl⟩:=eu ho2 (by omega);refine aP (ah (ak (aZ (ag (mvs rfl (mvi rfl (aa (cA (l:=[(0,.const (.int .i64 (-9)))]) (ja)) (aa (iG eB rfl rfl (by omega)) ?_))))))));refine jY (size:=3) (o:=k*3) (vs:=[.int .i64 (-9),.int .i64 0,.string ⟨#[]⟩]) kY (by show Value.pointer (some ⟨g,0+k*3,none⟩)=_;rw [Nat.zero_add]) rfl (by simp [Value.oneCell']) ho2 (by omega) (by show k*3+3≤n*3;omega) ?_;intro w3 O3 P3;refine aj (bJ (ah (ag (mvi rfl (aa (bI rfl rfl (by omega)) (asi rfl (aj ?_)))))));refine cD ((k+1,gA ys (k*3) [.int .i64 (-9),.int .i64 0,.string ⟨#[]⟩])) ⟨(by first | rfl | (refine bC ?_;omega)),trivial⟩ (by (iterate 22 refine bR rfl ?_);exact cg) ⟨?_,?_⟩
  ·exact ⟨by omega,P3,eE hG (eh.grown O3)⟩
  ·show n-(k+1)<n-k;omega
 refine b0 (bf (bf (bE (ah (ag (mvs rfl (aa (cA (l:=[]) (oZ)) (im (l:=[(0,.tmp 14)]) (cells:=#[.int .i64 0,.int .i64 0,.string ⟨#[]⟩]) j6 rfl rfl (by first | rfl | kernel_rfl) ?_))))))));intro bx w4 Ex hbx hkx;refine iF (news:=[.int .i64 0,.int .i64 0,.string ⟨#[]⟩]) j6 rfl (by decide) rfl (ho2.kept_from Ex) (Nat.le_trans hb (Nat.le_trans hG.size Ex.size)) rfl rfl (fun _=>⟨bx,0,rfl,hkx.whole⟩) (fun h=>by cases h) (by simp [Value.oneCell']) (by omega) (by omega) ?_;intro Ax cx w5 hox hgx;refine ass rfl (aj (eb (gx rfl (⟨rfl,eE (eE hG (Ex.grown _)) hgx⟩))))
theorem gF (base:Nat) (A:Option Addr) (c n:Nat) (xs:List Value) (w:World) (ho:w.ownsRow base 3 1 (.slice A n c) n xs) (hb:base≤w.heap.size) (hl:n≤1000000000) :
 Rt prog 43 [.slice A n c] w (fun v w'=>v=.tuple #[]∧w.grownBy w' (A.map (·.block))):=by
 refine enter (n:=15) Tryz.func43 rfl rfl rfl (ak (ak (ag (asi rfl (aj (ah (aZ (cj (G:=Nat×List Value) [3,4,5,6,7,8,9,10,11] (fun (k,_)=>[(2,.int .i64 (k:Nat))]) (fun (k,ys) w'=>k≤n∧w'.ownsRow base 3 1 (.slice A n c) n ys∧w.grownBy w' (A.map (·.block))) (fun (k,_)=>n-k) ((0,xs)) ⟨rfl,trivial⟩ ?_ ?_))))))))
 ·exact ⟨Nat.zero_le _,ho,World.grownBy.refl _ _⟩
 rintro ⟨k,ys⟩ ρ1 w1 ⟨hk,ho2,hG⟩;refine ak (ak (ag (mvi rfl (mvs rfl (aa (bn bZ rfl) (aa (bH rfl rfl) (aj (ah (xD rfl (fun Q2=>?_) (fun Q2=>?_))))))))))
 ·obtain ⟨g,rfl⟩:=eu ho2 (by omega);refine aP (ah (ak (aZ (ag (mvs rfl (mvi rfl (aa (dS cw rfl rfl (by omega)) (jG (i:=k) (v:=.int .i64 (-99)) ck rfl rfl rfl ho2 (by omega) ?_))))))));intro w3 O3 P3;refine aj (bJ (ah (ag (mvi rfl (aa (bI rfl rfl (by omega)) (asi rfl (aj ?_)))))));refine cD ((k+1,ys.set k (.int .i64 (-99)))) ⟨(by first | rfl | (refine bC ?_;omega)),trivial⟩ (by (iterate 20 refine bR rfl ?_);exact cg) ⟨?_,?_⟩
  ·exact ⟨by omega,P3,eE hG (eh.grown O3)⟩
  ·show n-(k+1)<n-k;omega
 refine b0 (bf (bf (bE (ah (ag (mvs rfl (im (l:=[(0,.const (.int .i64 5))]) (cells:=#[.int .i64 5]) bK rfl rfl (by first | rfl | kernel_rfl) ?_)))))));intro bx w4 Ex hbx hkx;refine iF (news:=[.int .i64 5]) bK rfl (by decide) rfl (ho2.kept_from Ex) (Nat.le_trans hb (Nat.le_trans hG.size Ex.size)) rfl rfl (fun _=>⟨bx,0,rfl,hkx.whole⟩) (fun h=>by cases h) (by simp [Value.oneCell']) (by omega) (by omega) ?_;intro Ax cx w5 hox hgx;refine ass rfl (aj (eb (gx rfl (⟨rfl,eE (eE hG (Ex.grown _)) hgx⟩))))
def mZ (k:Int):Msg:={ zM with k:=k }
def qZ:Rd×Option Addr×Nat:=(⟨-9,0,0,[]⟩,none,0)
section
variable {α:Type}
def spX (z:α) (X:List α) (k:Nat):List α:=List.replicate k z++X.drop k
theorem fj {z:α} {X:List α} {k:Nat} (h:k≤X.length):(spX z X k).length=X.length:=by simp [spX];omega
theorem tl {z:α} {X:List α} {k:Nat} (h:k<X.length):(spX z X k)[k]'(by rw [fj (by omega)];exact h)=X[k]:=by
 simp [spX,List.getElem_append_right]
theorem oy {z:α} {X:List α} {k:Nat} (h:k<X.length):(spX z X k).set k z=spX z X (k+1):=by
 unfold spX;rw [List.set_append_right _ _ (by simp),List.length_replicate,Nat.sub_self,List.drop_eq_getElem_cons h,List.set_cons_zero,List.replicate_succ',List.append_assoc];rfl
end
theorem xr (k:Int):Instr.fill (fun i=>some (i*13,13)) ((Array.range (1*13)).map ((.agg (ew (mZ 0)).toArray:Value).cells[·%(.agg (ew (mZ 0)).toArray:Value).cells.size]!)) [(0,.agg (ew (mZ k)).toArray)]=some (ew (mZ k)).toArray:=by
 first
  |kernel_rfl
  |rfl
def U5 (Z:Nat) (tag:Nat→Nat) (j:Nat):Nat→Prop:=fun q=>q<Z∧tag q<j
def UA (Z:Nat) (tag:Nat→Nat) (k:Nat):Nat→Prop:=fun q=>q<Z∧(tag q≤5∨∃ i,i<k∧tag q=1001+2*i)
def UM (Z:Nat) (tag:Nat→Nat) (k:Nat):Nat→Prop:=fun q=>q<Z∧(tag q=6∨∃ i,i<k∧tag q=1000+2*i)
theorem U5.up {Z j:Nat} {tag:Nat→Nat} {w w':World} (h:Chg (U5 Z tag j) w w'):Chg (U5 Z tag (j+1)) w w':=h.wide fun _ h=>.inl ⟨h.1,Nat.lt_succ_of_lt h.2⟩
theorem UA.up {Z k:Nat} {tag:Nat→Nat} {w w':World} (h:Chg (UA Z tag k) w w'):Chg (UA Z tag (k+1)) w w':=h.wide fun _ h=>.inl ⟨h.1,h.2.imp id fun ⟨i,a,b⟩=>⟨i,Nat.lt_succ_of_lt a,b⟩⟩
theorem UM.up {Z k:Nat} {tag:Nat→Nat} {w w':World} (h:Chg (UM Z tag k) w w'):Chg (UM Z tag (k+1)) w w':=h.wide fun _ h=>.inl ⟨h.1,h.2.imp id fun ⟨i,a,b⟩=>⟨i,Nat.lt_succ_of_lt a,b⟩⟩
theorem me {w0 w1 w2 w3:World} {tag:Nat→Nat} {d e s n c:Nat} {A:Option Addr} {xs:List Value} (h:w0.ownsRow 0 e s (.slice A n c) n xs∧Col tag d A) (hg:w2.grownBy w3 (A.map (·.block))) (hC:Chg (U5 w0.heap.size tag d) w1 w2):Chg (U5 w0.heap.size tag (d+1)) w1 w3:=
 (U5.up hC).next (Chg.of_grown hg fun q hq=>⟨cI h.1 q hq,by rw [h.2 q hq];exact Nat.lt_succ_self _⟩)
theorem fv (tag:Nat→Nat) (s:Rf) (a:Ra) (w:World) (h:aQ w tag s a) (hl:s.votes.length≤1000000∧s.next.length≤1000000∧s.mtch.length≤1000000∧s.sent.length≤1000000∧s.reads.length≤1000000∧∀ q∈s.reads,q.acks.length≤1000000) (hel:s.es.length≤1000000) :
 Rt prog 51 [.agg (rfV s a).toArray] w (fun v w'=>v=.tuple #[]∧Chg (fun q=>StC (tag q)) w w'):=by
 obtain ⟨hl1,hl2,hl3,hl4,hl5,hl6⟩:=id hl;have hLl:a.L.length=s.reads.length:=by rw [←h.r (by decide),List.length_map]
 refine enter (n:=38) Tryz.func51 rfl rfl rfl (ak (ag (cC (v:=.agg _) rfl ?_)));intro b1 w1 E1 hb1 hk1;refine aj (ah (ak (ag (aa (af bj rfl) (aa (af cG rfl) (aa (ar cy rfl (by exact (show _=some (Value.slice a.E s.es.length a.Ec) from (hk1.from_ ai.rfl_).rd 8 rfl))) ?_))))));have hz0:=E1.size;have hB1:ai w w1:=(ai.rfl_.next E1);have hC0:Chg (U5 w.heap.size tag 0) w1 w1:=Chg.rfl_;have hkb0:=hk1.from_ ai.rfl_;have hn1:∀ j,¬ U5 w.heap.size tag j b1:=fun j e=>absurd e.1 (by omega)
 have hnA:∀ j,¬ UA w.heap.size tag j b1:=fun j e=>absurd e.1 (by omega)
 obtain ⟨wb,hwb⟩:∃ x,x=w1:=⟨_,rfl⟩;rw [←hwb] at hB1 hC0 hkb0;have hr0:=db ((h.e (by decide)).1.kept_from hB1) hC0 (fun k hk e=>absurd e.2 (by rw [(h.e (by decide)).2 k hk];omega));refine aB lk (nz 0 a.E a.Ec s.es.length (dL s.es) _ (by rw [←hwb];exact hr0) (Nat.zero_le _) (by omega)) ?_;rintro v6 w2 ⟨rfl,hg0⟩;rw [←hwb] at hg0;have hC1:=me (h.e (by decide)) hg0 hC0;have hkb1:=hkb0.chg hC1 (hn1 _);refine aj (ah (ak (ag (aa (af cK rfl) (aa (ar aN rfl (by exact (show _=some (Value.slice a.V s.votes.length a.Vc) from (hkb1.from_ ai.rfl_).rd 14 rfl))) ?_)))));have hM1:ai _ w2:=ai.rfl_;have hr1:=db ((h.v (by decide)).1.kept_from hB1) (hC1.next hM1.toChg) (fun k hk e=>absurd e.2 (by rw [(h.v (by decide)).2 k hk];omega));refine aB fu (gF 0 a.V a.Vc s.votes.length (s.votes.map iV) _ hr1 (Nat.zero_le _) (by omega)) ?_;rintro v9 w3 ⟨rfl,hg1⟩;have hC2:=me (h.v (by decide)) hg1 (hC1.next hM1.toChg);have hkb2:=hkb0.chg hC2 (hn1 _);refine aj (ah (ak (ag (aa (af bX rfl) (aa (ar aN rfl (by exact (show _=some (Value.slice a.X s.next.length a.Xc) from (hkb2.from_ ai.rfl_).rd 15 rfl))) ?_)))));have hM2:ai _ w3:=ai.rfl_;have hr2:=db ((h.x (by decide)).1.kept_from hB1) (hC2.next hM2.toChg) (fun k hk e=>absurd e.2 (by rw [(h.x (by decide)).2 k hk];omega));refine aB fu (gF 0 a.X a.Xc s.next.length (s.next.map iV) _ hr2 (Nat.zero_le _) (by omega)) ?_;rintro v12 w4 ⟨rfl,hg2⟩;have hC3:=me (h.x (by decide)) hg2 (hC2.next hM2.toChg);have hkb3:=hkb0.chg hC3 (hn1 _);refine aj (ah (ak (ag (aa (af b_ rfl) (aa (ar aN rfl (by exact (show _=some (Value.slice a.M s.mtch.length a.Mc) from (hkb3.from_ ai.rfl_).rd 16 rfl))) ?_)))));have hM3:ai _ w4:=ai.rfl_;have hr3:=db ((h.m (by decide)).1.kept_from hB1) (hC3.next hM3.toChg) (fun k hk e=>absurd e.2 (by rw [(h.m (by decide)).2 k hk];omega));refine aB fu (gF 0 a.M a.Mc s.mtch.length (s.mtch.map iV) _ hr3 (Nat.zero_le _) (by omega)) ?_;rintro v15 w5 ⟨rfl,hg3⟩;have hC4:=me (h.m (by decide)) hg3 (hC3.next hM3.toChg);have hkb4:=hkb0.chg hC4 (hn1 _);refine aj (ah (ak (ag (aa (af bU rfl) (aa (ar aN rfl (by exact (show _=some (Value.slice a.S s.sent.length a.Sc) from (hkb4.from_ ai.rfl_).rd 17 rfl))) ?_)))));have hM4:ai _ w5:=ai.rfl_;have hr4:=db ((h.n (by decide)).1.kept_from hB1) (hC4.next hM4.toChg) (fun k hk e=>absurd e.2 (by rw [(h.n (by decide)).2 k hk];omega));refine aB fu (gF 0 a.S a.Sc s.sent.length (s.sent.map iV) _ hr4 (Nat.zero_le _) (by omega)) ?_;rintro v18 w6 ⟨rfl,hg4⟩;have hC5:=me (h.n (by decide)) hg4 (hC4.next hM4.toChg);have hkb5:=hkb0.chg hC5 (hn1 _);refine aj (ah (ak (ag (asi rfl (aj (ah (aZ (cj (G:=Nat) [19,20,21,22,23,24,25,26,27,28,29,30,31,32,33,34,35,36,37] (fun k=>[(2,.int .i64 (k:Nat))]) (fun k w'=>k≤a.L.length∧w'.ownsRow 0 54 4 (.slice a.Q a.L.length a.Qc) a.L.length ((spX qZ a.L k).flatMap rdV)∧Chg (UA w.heap.size tag k) wb w') (fun k=>a.L.length-k) (0) ⟨rfl,trivial⟩ ?_ ?_))))))))
 ·exact ⟨Nat.zero_le _,db ((h.q (by decide)).1.kept_from hB1) (hC5.next (ai.rfl_:ai _ w6).toChg) (fun k hk e=>absurd e.2 (by rw [(h.q (by decide)).2 k hk];omega)),(hC5.next (ai.rfl_:ai _ w6).toChg).wide fun q e=>.inl ⟨e.1,.inl (by have:=e.2;omega)⟩⟩
 rintro k ρ7 w7 ⟨hk,hoQ,hCk⟩;refine ak (ak (ag (mvi rfl (aa (af aT rfl) (aa (ar bm rfl (by exact (show _=some (Value.slice a.Q a.L.length a.Qc) from ((hkb0.chg hCk (hnA _)).from_ ai.rfl_).rd 19 rfl))) ?_)))));refine aa (bn bA rfl) (aa (bH rfl rfl) (aj (ah (xD rfl (fun Q8=>?_) (fun Q8=>?_)))))
 ·have hkL:k<a.L.length:=by omega
  have hqk:a.L[k].1∈s.reads:=by rw [←h.r (by decide)];exact List.mem_map_of_mem (List.getElem_mem hkL)
  obtain ⟨gq,hgq⟩:∃ g,a.Q=some ⟨g,0,none⟩:=eu hoQ (by omega);have hcq:∀ q,a.Q.map (·.block)=some q→tag q=5:=fun q hq=>(h.q (by decide)).2 q hq
  have hlq:=cI (h.q (by decide)).1;rw [hgq] at hoQ hcq hlq;have hkq:Blk w7 b1 29 (rfV s { a with Q:=some ⟨gq,0,none⟩ }).toArray:=by rw [←hgq];exact (hkb0.chg hCk (hnA _)).from_ ai.rfl_
  obtain ⟨bx,ox,hAx,hcx⟩:=(fP.own fw (by decide) hoQ).2 (by rw [fj (by omega)];omega);cases hAx;have hvx:=hcx k (by rw [fj (by omega)];exact hkL);rw [tl hkL] at hvx;have hc31:(w7).cell? ⟨gq,0+k*4+3,none⟩=some (.slice a.L[k].2.1 a.L[k].1.acks.length a.L[k].2.2):=ej ai.rfl_ (hvx 3 _ rfl);refine aP (ah (ak (aZ (ak (ag (aa (af aT rfl) (aa (ar bm rfl (by exact (show _=some (Value.slice (some ⟨gq,0,none⟩) a.L.length a.Qc) from (hkq.from_ ai.rfl_).rd 19 rfl))) ?_)))))));refine mvi rfl (aa (bq cO rfl rfl (by omega)) (aa (af cE rfl) (aa (ar aN rfl (by exact ej ai.rfl_ hc31)) ?_)));have hM32:ai _ w7:=ai.rfl_;have hrk:=db ((h.k k hkL (by omega)).1.kept_from hB1) (hCk.next hM32.toChg) (fun q hq e=>by rcases e.2 with e2 | ⟨i,hi,e2⟩ <;> rw [(h.k k hkL (by omega)).2 q hq] at e2 <;> omega);refine aB fu (gF 0 a.L[k].2.1 a.L[k].2.2 a.L[k].1.acks.length (a.L[k].1.acks.map iV) _ hrk (Nat.zero_le _) (by have:=hl.2.2.2.2.2 _ hqk;omega)) ?_;rintro v32 w9 ⟨rfl,hg32⟩;have hC9:Chg (UA w.heap.size tag (k+1)) wb w9:=(UA.up (hCk.next hM32.toChg)).next (Chg.of_grown hg32 fun q hq=>⟨cI (h.k k hkL (by omega)).1 q hq,.inr ⟨k,Nat.lt_succ_self _,(h.k k hkL (by omega)).2 q hq⟩⟩);have hoQ9:=db (hoQ.kept_from hM32) (Chg.of_grown (U:=fun q=>tag q=1001+2*k) hg32 fun q hq=>(h.k k hkL (by omega)).2 q hq) (fun q hq e=>by have:=hcq q hq;omega);refine aj (ah (ag (aa (af aT rfl) ?_)));refine aa (ar bm rfl (by exact (show _=some (Value.slice (some ⟨gq,0,none⟩) a.L.length a.Qc) from by rw [←hgq];exact ((hkb0.chg hC9 (hnA _)).from_ ai.rfl_).rd 19 rfl))) ?_;refine mvi rfl (aa (cA (l:=[(0,.const (.int .i64 (-9)))]) (jc)) (aa (bq cO rfl rfl (by omega)) ?_));have hM10:ai _ w9:=ai.rfl_;have hoQ8:=hoQ9.kept_from hM10;obtain ⟨g',cur,hgA,_,hbk,_⟩:=kp hoQ8 (by omega);cases hgA;refine jY (size:=4) (o:=k*4) (vs:=rdV qZ) ch (by show Value.pointer (some ⟨gq,0+k*4,none⟩)=_;rw [Nat.zero_add]) rfl (by simp [rdV,qZ,Value.oneCell']) hoQ8 (by omega) (by show k*4+4≤a.L.length*4;omega) ?_;intro w10 O10 P10;rw [nH fw _ k (by rw [fj (by omega)];exact hkL),oy hkL] at P10;have hC10:Chg (UA w.heap.size tag (k+1)) wb w10:=(hC9.next hM10.toChg).next (O10.toChg ⟨hlq gq rfl,.inl (by have:=hcq gq rfl;omega)⟩);rw [←hgq] at P10;refine aj (bJ (ah (ag (mvi rfl (aa (bI rfl rfl (by omega)) (asi rfl (aj ?_)))))));refine cD (k+1) ⟨(by first | rfl | (refine bC ?_;omega)),trivial⟩ (by (iterate 40 refine bR rfl ?_);exact cg) ⟨?_,?_⟩
  ·exact ⟨by omega,P10.kept_from ai.rfl_,(hC10.next (ai.rfl_:ai _ w10).toChg)⟩
  ·omega
 refine b0 (bf (bf (bE (eb (gx rfl (⟨rfl,(hB1.toChg.next ((hCk.next (ai.rfl_:ai _ w7).toChg).wide fun q e=>.inl ?_))⟩))))));rcases e.2 with e2 | ⟨i,_,e2⟩
 ·exact .inl e2
 ·exact .inr ⟨i,e2⟩
theorem ow (tag:Nat→Nat) (out:List Msg) (A:Option Addr) (c:Nat) (L:List Msg) (w:World) (h:eQ w tag out A c L) (hl:L.length≤100000) (hle:∀ x∈L,x.es.length≤1000000) :
 Rt prog 52 [.slice A L.length c] w (fun v w'=>v=.tuple #[]∧Chg (fun q=>tag q=6∨∃ i,tag q=1000+2*i) w w'):=by
 refine enter (n:=23) Tryz.func52 rfl rfl rfl (ak (ak (ag (asi rfl (aj (ah (aZ (cj (G:=Nat) [3,4,5,6,7,8,9,10,11,12,13,14,15,16,17,18] (fun k=>[(2,.int .i64 (k:Nat))]) (fun k w'=>k≤L.length∧w'.ownsRow 0 39 13 (.slice A L.length c) L.length ((spX (mZ (-9)) L k).flatMap ew)∧Chg (UM w.heap.size tag k) w w') (fun k=>L.length-k) (0) ⟨rfl,trivial⟩ ?_ ?_))))))))
 ·exact ⟨Nat.zero_le _,h.o.kept_from ai.rfl_,(ai.rfl_:ai _ w).toChg⟩
 rintro k ρ1 w1 ⟨hk,hoQ,hCk⟩;refine ak (ak (ag (mvi rfl (mvs rfl (aa (bn jL rfl) (aa (bH rfl rfl) (aj (ah (xD rfl (fun Q2=>?_) (fun Q2=>?_))))))))))
 ·have hkX:k<L.length:=by omega
  obtain ⟨g,hgq⟩:∃ g,A=some ⟨g,0,none⟩:=eu hoQ (by omega);subst hgq;have hcq:∀ q,(some (⟨g,0,none⟩:Addr)).map (·.block)=some q→tag q=6:=fun q hq=>h.c q hq
  have hlq:=cI h.o;have hEk:=hle _ (List.getElem_mem hkX);obtain ⟨bx,ox,hAx,hcx⟩:=(fP.own r7 (by decide) hoQ).2 (by rw [fj (by omega)];omega);cases hAx;have hvx:=hcx k (by rw [fj (by omega)];exact hkX);rw [tl hkX] at hvx;refine aP (ah (ak (aZ (ak (ag (mvs rfl (mvi rfl (aa (bq jM rfl rfl (by omega)) (aa (af gi rfl) (aa (ar cy rfl (by exact ej ai.rfl_ (hvx 9 _ rfl))) ?_))))))))));have hM14:ai _ w1:=ai.rfl_;have hrk:=db (h.e k hkX).1 (hCk.next hM14.toChg) (fun q hq e=>by rcases e.2 with e2 | ⟨i,hi,e2⟩ <;> rw [(h.e k hkX).2 q hq] at e2 <;> omega);refine aB lk (nz 0 L[k].E L[k].c L[k].es.length (dL L[k].es) _ hrk (Nat.zero_le _) (by omega)) ?_;rintro v14 w3 ⟨rfl,hg14⟩;have hC9:Chg (UM w.heap.size tag (k+1)) w w3:=(UM.up (hCk.next hM14.toChg)).next (Chg.of_grown hg14 fun q hq=>⟨cI (h.e k hkX).1 q hq,.inr ⟨k,Nat.lt_succ_self _,(h.e k hkX).2 q hq⟩⟩);have hoQ9:=db (hoQ.kept_from hM14) (Chg.of_grown (U:=fun q=>tag q=1000+2*k) hg14 fun q hq=>(h.e k hkX).2 q hq) (fun q hq e=>by have:=hcq q hq;omega);refine aj (ah (ag (mvs rfl (mvi rfl (aa (cA (l:=[(0,.const (.int .i64 (-9)))]) (jd)) (aa (bq jM rfl rfl (by omega)) ?_))))));have hM10:ai _ w3:=ai.rfl_;have hoQ8:=hoQ9.kept_from hM10;obtain ⟨g',cur,hgA,_,hbk,_⟩:=kp hoQ8 (by omega);cases hgA;refine jY (size:=13) (o:=k*13) (vs:=ew (mZ (-9))) fR (by show Value.pointer (some ⟨g,0+k*13,none⟩)=_;rw [Nat.zero_add]) rfl (by simp [ew,mZ,zM,Value.oneCell']) hoQ8 (by omega) (by show k*13+13≤L.length*13;omega) ?_;intro w4 O10 P10;rw [nH r7 _ k (by rw [fj (by omega)];exact hkX),oy hkX] at P10;have hC10:Chg (UM w.heap.size tag (k+1)) w w4:=(hC9.next hM10.toChg).next (O10.toChg ⟨hlq g rfl,.inl (by have:=hcq g rfl;omega)⟩);refine aj (bJ (ah (ag (mvi rfl (aa (bI rfl rfl (by omega)) (asi rfl (aj ?_)))))));refine cD (k+1) ⟨(by first | rfl | (refine bC ?_;omega)),trivial⟩ (by (iterate 34 refine bR rfl ?_);exact cg) ⟨?_,?_⟩
  ·exact ⟨by omega,P10.kept_from ai.rfl_,hC10.next (ai.rfl_:ai _ w4).toChg⟩
  ·omega
 refine b0 (bf (bf (bE (ah (ag (mvs rfl (aa (cA (l:=[]) (o0)) ?_)))))));have hM21:ai _ w1:=ai.rfl_;refine im (l:=[(0,.tmp 20)]) (cells:=(ew (mZ 0)).toArray) iO rfl rfl (xr 0) ?_;intro b21 w5 E21 hb21 hk21;have hM22:ai _ w5:=(hM21.next E21);have ho9:=hoQ.kept_from hM22;refine iF (base:=0) (news:=ew (mZ 0)) iO rfl (by decide) rfl ho9 (Nat.zero_le _) rfl rfl (fun _=>⟨b21,0,rfl,hk21.whole⟩) (fun h=>by cases h) (by simp [ew,mZ,zM,Value.oneCell']) (by omega) (by omega) ?_;intro A22 c22 w6 ho22 hg22;have hC22:Chg (UM w.heap.size tag L.length) w w6:=((hCk.wide fun q e=>.inl ⟨e.1,e.2.imp id fun ⟨i,a,b⟩=>⟨i,by omega,b⟩⟩).next hM22.toChg).next (Chg.of_grown hg22 fun q hq=>⟨cI h.o q hq,.inl (h.c q hq)⟩);refine ass rfl (aj (eb (gx rfl (⟨rfl,(hC22.next (ai.rfl_:ai _ w6).toChg).wide fun q e=>.inl (e.2.imp id fun ⟨i,_,b⟩=>⟨i,b⟩)⟩))))
end Go.Proofs.YtkpooenofjdpmaaGreat
namespace Go.Proofs.YtkpooenofjdpmaaGreat
open Go.Proofs.Tryz (prog)
open Go.RowKit
abbrev so:Ty:=.pr (.int .i64) (.pr (.int .i64) (.pr .str .unit))
theorem sf {w:World} {c:Nat→Option Value} {xs:List so.den} (h:(Ty.sl so).At w c xs) :
 ∃ (v:Value) (es:List Ent),c 0=some v∧cB w v es∧(∀ e∈es,e.Ok)∧es.length*32≤140737488351232:=by
 obtain ⟨A,cap,h0,h1,h2,h3⟩:=h;refine ⟨_,xs.map fun x=>⟨x.1,x.2.1,x.2.2.1⟩,h0,⟨A,cap,by rw [List.length_map],by rw [List.length_map];exact h2.1,h2.2.1,h2.2.2,fun hp=>?_⟩,?_,by rw [List.length_map];exact h1⟩
 ·rw [List.length_map] at hp;obtain ⟨b,o,hA,hb,hi⟩:=h3 hp;refine ⟨b,o,hA,hb,fun i hil=>?_⟩;rw [List.length_map] at hil;obtain ⟨⟨c1,_⟩,⟨c2,_⟩,⟨c3,_⟩,_⟩:=hi i _ (List.getElem?_eq_getElem hil);rw [List.getElem_map];exact ⟨c1,c2,c3⟩
 ·intro e he;simp only [List.mem_map] at he;obtain ⟨x,hx,rfl⟩:=he;obtain ⟨i,hil,rfl⟩:=List.mem_iff_getElem.1 hx;obtain ⟨b,o,hA,hb,hi⟩:=h3 (Nat.lt_of_le_of_lt (Nat.zero_le _) hil);obtain ⟨⟨_,c1⟩,⟨_,c2⟩,⟨_,c3⟩,_⟩:=hi i _ (List.getElem?_eq_getElem hil);have b1:=bounds_i64 c1;have b2:=bounds_i64 c2;exact ⟨b1.1,b1.2,b2.1,b2.2,c3⟩
end Go.Proofs.YtkpooenofjdpmaaGreat
namespace Go.Proofs.YtkpooenofjdpmaaGreat
open Go.Proofs.Tryz (prog)
open Go.RowKit
open Go.ChangeShapes Go.WideShapes Go.ChangeAt
theorem qy:cr prog 99 2=some 2:=by kernel_rfl
theorem qx:(prog.underlying 3).isSome=true:=by kernel_rfl
theorem nc:prog.underlying 108=some (.int .u64):=by kernel_rfl
theorem rP:(prog.underlying 108).isSome=true:=by kernel_rfl
theorem uB:prog.underlying 3=some (.int .i64):=by kernel_rfl
theorem oe:aR prog 25=true:=by kernel_rfl
abbrev xN:Ty:=.pr (.int .i64) (.pr (.int .i64) (.pr (.int .i64) (.pr (.int .i64) (.pr (.int .i64) (.pr (.int .i64) (.pr (.int .i64) (.pr (.int .i64) (.pr .bool (.pr (.sl so) (.pr (.int .i64) (.pr .str (.pr .bool .unit))))))))))))
abbrev nr:Ty:=.pr (.int .i64) (.pr xN (.pr .bool (.pr .str (.pr (.int .i64) .unit))))
abbrev tz:Ty:=.pr (.int .i64) (.pr (.int .i64) (.pr (.int .i64) (.pr (.sl (.int .i64)) .unit)))
abbrev xR:Ty:=.pr (.int .i64) (.pr (.int .i64) (.pr (.sl so) .unit))
abbrev jQ:Ty:=.pr (.int .i64) (.pr (.int .i64) (.pr (.int .i64) (.pr (.int .i64) (.pr (.int .i64) (.pr (.int .i64) (.pr xR (.pr .str (.pr (.int .i64) (.pr (.int .i64) (.pr (.int .i64) (.pr (.int .u64) (.pr (.sl (.int .i64)) (.pr (.sl (.int .i64)) (.pr (.sl (.int .i64)) (.pr (.sl (.int .i64)) (.pr (.int .i64) (.pr (.sl tz) (.pr .str (.pr (.int .i64) .unit)))))))))))))))))))
structure Ac where
 dx:Int
 m:Msg
 fit:Bool
 d:ByteArray
 i:Int
def acV (x:Ac):List Value:=.int .i64 x.dx::(ew x.m++[.bool x.fit,.string x.d,.int .i64 x.i])
theorem si {α:Type} {f:α→List Value} {t:Ty} {w:World} {P:α→Prop} (hg:∀ (c:Nat→Option Value) (x:t.den),t.At w c x→∃ y:α,(∀ j v,(f y)[j]? =some v→c j=some v)∧P y) {c:Nat→Option Value} {xs:List t.den} (h:(Ty.sl t).At w c xs) :
 ∃ (A:Option Addr) (cap:Nat) (L:List α),c 0=some (.slice A L.length cap)∧fP t.size f w A L∧(∀ y∈L,P y)∧L.length*t.bytes≤140737488351232∧L.length≤cap∧cap≤9223372036854775807∧(A=none→L.length=0∧cap=0):=by
 obtain ⟨A,cap,h0,h1,h2,h3⟩:=h
 have hno:A=none→xs.length=0:=fun e=>by
  rcases Nat.eq_zero_or_pos xs.length with hz | hz
  ·exact hz
  ·obtain ⟨b,o,hA,_⟩:=h3 hz;rw [e] at hA;cases hA
 rcases Nat.eq_zero_or_pos xs.length with hz | hz
 ·refine ⟨A,cap,[],by rw [h0];rw [hz];rfl,fun h=>absurd h (Nat.lt_irrefl _),fun y hy=>(by cases hy),(by rw [List.length_nil,Nat.zero_mul];exact Nat.zero_le _),Nat.zero_le _,h2.2.1,fun e=>⟨rfl,h2.2.2 e⟩⟩
 ·obtain ⟨b,o,hA,hb,hi⟩:=h3 hz;have g:∀ i:Fin xs.length,∃ y:α,(∀ j v,(f y)[j]? =some v→w.cell? ⟨b,o+i*t.size+j,none⟩=some v)∧P y:=fun i=>hg _ _ (hi i.1 xs[i.1] (List.getElem?_eq_getElem i.2))
  refine ⟨A,cap,List.ofFn fun i=>Classical.choose (g i),by rw [List.length_ofFn];exact h0,fun _=>⟨b,o,hA,fun i hil=>?_⟩,fun y hy=>?_,by rw [List.length_ofFn];exact h1,by rw [List.length_ofFn];exact h2.1,h2.2.1,fun e=>⟨by rw [List.length_ofFn];exact hno e,h2.2.2 e⟩⟩
  ·rw [List.length_ofFn] at hil;intro j v hv;rw [List.getElem_ofFn] at hv;exact (Classical.choose_spec (g ⟨i,hil⟩)).1 j v hv
  ·obtain ⟨i,hil,rfl⟩:=List.getElem_of_mem hy;rw [List.length_ofFn] at hil;rw [List.getElem_ofFn];exact (Classical.choose_spec (g ⟨i,hil⟩)).2
theorem qe {w:World} {c:Nat→Option Value} {xs:List Int} (h:(Ty.sl (.int .i64)).At w c xs):∃ (A:Option Addr) (cap:Nat),c 0=some (.slice A xs.length cap)∧IR w A cap xs∧xs.length*8≤140737488351232:=by
 have h':=h;obtain ⟨A0,c0,g0,g1,g2,g3⟩:=h';obtain ⟨A,cap,h0,hr,_,hb,hc⟩:=vr h;rw [g0] at h0;cases h0;refine ⟨A0,c0,g0,⟨(dK.of_row hr).2,hc.1,hc.2,fun e=>⟨?_,g2.2.2 e⟩⟩,hb⟩;rcases Nat.eq_zero_or_pos xs.length with hz | hz
 ·exact hz
 ·obtain ⟨b,o,hA,_⟩:=g3 hz;rw [e] at hA;cases hA
def xX (w:World) (q:Rd×Option Addr×Nat):Prop:=IR w q.2.1 q.2.2 q.1.acks∧q.1.acks.length*8≤140737488351232
theorem vp {w:World} (c:Nat→Option Value) (x:tz.den) (h:tz.At w c x):∃ q:Rd×Option Addr×Nat,(∀ j v,(rdV q)[j]? =some v→c j=some v)∧xX w q:=by
 obtain ⟨x0,x1,x2,xl,_⟩:=x;obtain ⟨g0,g1,g2,gl,_⟩:=h;obtain ⟨A,cap,e0,e1,e2⟩:=qe gl;refine ⟨(⟨x0,x1,x2,xl⟩,A,cap),fun j v hv=>?_,e1,e2⟩
 match j,hv with
 |0,hv=>cases hv;exact g0.1
 |1,hv=>cases hv;exact g1.1
 |2,hv=>cases hv;exact g2.1
 |3,hv=>cases hv;exact e0
 |j+4,hv=>simp [rdV] at hv
def uF (w:World) (x:Ac):Prop:=cB w (.slice x.m.E x.m.es.length x.m.c) x.m.es∧(∀ e∈x.m.es,e.Ok)∧x.m.es.length*32≤140737488351232∧x.m.d.size≤140737488351232∧x.d.size≤140737488351232
theorem uF.from_ {w w':World} {x:Ac} (h:uF w x) (hF:ai w w'):uF w' x:=⟨h.1.from_ hF,h.2⟩
theorem wA {w:World} (c:Nat→Option Value) (x:nr.den) (h:nr.At w c x):∃ X:Ac,(∀ j v,(acV X)[j]? =some v→c j=some v)∧uF w X:=by
 obtain ⟨x0,⟨xk,xf,xt,xtm,xix,xlt,xcm,xrd,xok,xE,xa,xd,xdn,_⟩,xb,xs,xi,_⟩:=x;obtain ⟨g0,⟨g1,g2,g3,g4,g5,g6,g7,g8,g9,gE,g11,g12,g13,_⟩,g14,g15,g16,_⟩:=h;obtain ⟨v,es,e0,e1,e2,e3⟩:=sf gE;have e1':=e1;obtain ⟨E,c9,rfl,_⟩:=e1';refine ⟨⟨x0,{ zM with k:=xk,f:=xf,t:=xt,tm:=xtm,ix:=xix,lt:=xlt,cm:=xcm,rd:=xrd,ok:=xok,a:=xa,d:=xd,dn:=xdn,E:=E,c:=c9,es:=es },xb,xs,xi⟩,fun j v hv=>?_,e1,e2,e3,g12.2,g15.2⟩
 match j,hv with
 |0,hv=>cases hv;exact g0.1
 |1,hv=>cases hv;exact g1.1
 |2,hv=>cases hv;exact g2.1
 |3,hv=>cases hv;exact g3.1
 |4,hv=>cases hv;exact g4.1
 |5,hv=>cases hv;exact g5.1
 |6,hv=>cases hv;exact g6.1
 |7,hv=>cases hv;exact g7.1
 |8,hv=>cases hv;exact g8.1
 |9,hv=>cases hv;exact g9
 |10,hv=>cases hv;exact e0
 |11,hv=>cases hv;exact g11.1
 |12,hv=>cases hv;exact g12.1
 |13,hv=>cases hv;exact g13
 |14,hv=>cases hv;exact g14
 |15,hv=>cases hv;exact g15.1
 |16,hv=>cases hv;exact g16.1
 |j+17,hv=>simp [acV,ew] at hv
structure xJ (s:Rf) (a:Ra):Prop where
 sn:s.snap.size≤140737488351232
 pa:s.part.size≤140737488351232
 es:s.es.length*32≤140737488351232
 eo:∀ e∈s.es,e.Ok
 v:s.votes.length*8≤140737488351232
 x:s.next.length*8≤140737488351232
 m:s.mtch.length*8≤140737488351232
 n:s.sent.length*8≤140737488351232
 q:a.L.length*48≤140737488351232
 k:∀ q∈a.L,q.1.acks.length*8≤140737488351232
theorem vq {w:World} {c:Nat→Option Value} {x:jQ.den} (h:jQ.At w c x):∃ (s:Rf) (a:Ra),(∀ j v,(rfV s a)[j]? =some v→c j=some v)∧eD w s a∧xJ s a:=by
 obtain ⟨x0,x1,x2,x3,x4,x5,⟨xb,xt,xe,_⟩,xsn,xco,xel,xti,xse,xv,xx,xm,xn,xro,xq,xpa,xpo,_⟩:=x;obtain ⟨g0,g1,g2,g3,g4,g5,⟨g6,g7,g8,_⟩,g9,g10,g11,g12,g13,g14,g15,g16,g17,g18,g19,g20,g21,_⟩:=h;obtain ⟨v,es,e0,e1,e2,e3⟩:=sf g8;have e1':=e1;obtain ⟨E,Ec,rfl,_⟩:=e1';obtain ⟨V,Vc,v0,v1,v2⟩:=qe g14;obtain ⟨X,Xc,y0,y1,y2⟩:=qe g15;obtain ⟨M,Mc,m0,m1,m2⟩:=qe g16;obtain ⟨N,Nc,n0,n1,n2⟩:=qe g17;obtain ⟨Q,Qc,L,q0,q1,q2,q3,q4,q5,q6⟩:=si (f:=rdV) vp g19;refine ⟨{ id:=x0,nodes:=x1,role:=x2,term:=x3,vote:=x4,leader:=x5,b:=xb,t:=xt,es:=es,snap:=xsn,commit:=xco,elapsed:=xel,timeout:=xti,seed:=xse,votes:=xv,next:=xx,mtch:=xm,sent:=xn,round:=xro,reads:=L.map (fun q=>q.1),part:=xpa,partOf:=xpo },⟨E,Ec,V,Vc,X,Xc,M,Mc,N,Nc,Q,Qc,L⟩,fun j v hv=>?_,⟨e1,v1,y1,m1,n1,rfl,q1,⟨q4,q5,q6⟩,fun q hq=>(q2 q hq).1⟩,⟨g9.2,g20.2,e3,e2,v2,y2,m2,n2,q3,fun q hq=>(q2 q hq).2⟩⟩
 match j,hv with
 |0,hv=>cases hv;exact g0.1
 |1,hv=>cases hv;exact g1.1
 |2,hv=>cases hv;exact g2.1
 |3,hv=>cases hv;exact g3.1
 |4,hv=>cases hv;exact g4.1
 |5,hv=>cases hv;exact g5.1
 |6,hv=>cases hv;exact g6.1
 |7,hv=>cases hv;exact g7.1
 |8,hv=>cases hv;exact e0
 |9,hv=>cases hv;exact g9.1
 |10,hv=>cases hv;exact g10.1
 |11,hv=>cases hv;exact g11.1
 |12,hv=>cases hv;exact g12.1
 |13,hv=>cases hv;exact g13.1
 |14,hv=>cases hv;exact v0
 |15,hv=>cases hv;exact y0
 |16,hv=>cases hv;exact m0
 |17,hv=>cases hv;exact n0
 |18,hv=>cases hv;exact g18.1
 |19,hv=>cases hv;exact q0
 |20,hv=>cases hv;exact g20.1
 |21,hv=>cases hv;exact g21.1
 |j+22,hv=>simp [rfV] at hv
structure qf (w:World) (s:Rf) (a:Ra) (LA:Option Addr) (X:List Ac):Prop where
 r:eD w s a
 z:xJ s a
 x:fP 17 acV w LA X
 o:∀ y∈X,uF w y
 n:X.length*147≤140737488351232
theorem qf.from_ {w w':World} {s:Rf} {a:Ra} {LA:Option Addr} {X:List Ac} (h:qf w s a LA X) (hF:ai w w'):qf w' s a LA X:=⟨h.r.from_ hF,h.z,h.x.from_ hF,fun y hy=>(h.o y hy).from_ hF,h.n⟩
def scV (s:Rf) (a:Ra) (LA:Option Addr) (n lc:Nat):List Value:=rfV s a++[.slice LA n lc]
theorem xV {cs:Array Value} {l:List Value} (hs:cs.size=l.length) (h:∀ (j:Nat) (v:Value),l[j]? =some v→cs[j]? =some v):cs=l.toArray:=by
 apply Array.ext_getElem?;intro i;rcases Nat.lt_or_ge i l.length with hi | hi
 ·rw [h i _ (List.getElem?_eq_getElem hi)];simp [hi]
 ·rw [Array.getElem?_eq_none (by omega)];simp [hi]
theorem nV {w:World} {cs:Array Value} {x:(Ty.pr jQ (.pr (.sl nr) .unit)).den} (hs:cs.size=23) (h:(Ty.pr jQ (.pr (.sl nr) .unit)).At w (fun j=>cs[j]?) x):∃ s a LA lc X,cs=(scV s a LA (List.length X) lc).toArray∧qf w s a LA X:=by
 obtain ⟨h1,h2,_⟩:=h;obtain ⟨s,a,hc,hr,hz⟩:=vq h1;obtain ⟨LA,lc,X,q0,q1,q2,q3,q4,q5,q6⟩:=si (f:=acV) wA h2;refine ⟨s,a,LA,lc,X,xV hs fun j v hv=>?_,⟨hr,hz,q1,q2,q3⟩⟩;unfold scV at hv;rcases Nat.lt_or_ge j 22 with hj | hj
 ·rw [List.getElem?_append_left (show j<(rfV s a).length from hj)] at hv;exact hc j v hv
 ·rw [List.getElem?_append_right (show (rfV s a).length≤j from hj)] at hv
  obtain rfl:j=22:=by
   have:=(List.getElem?_eq_some_iff.1 hv).1;rw [kn] at this;simp at this;omega
  simp [kn] at hv;subst hv;exact q0
def Small (s:Rf) (X:List Ac):Prop:=(s.votes.length≤20000∧s.next.length≤20000∧s.mtch.length≤20000∧s.sent.length≤20000∧s.reads.length≤20000∧∀ q∈s.reads,q.acks.length≤20000)∧s.es.length≤600∧X.length≤100∧(s.snap.size≤20000∧s.part.size≤20000)∧∀ y∈X,y.m.es.length≤200∧y.m.d.size≤20000∧y.d.size≤20000
theorem ui {w:World} {A:Option Addr} {n c:Nat} {es:List Ent} (h:cB w (.slice A n c) es) (hs:∀ e∈es,e.Ok) (h0:0<n):∃ b o,A=some ⟨b,o,none⟩∧∀ j,j<n→∃ s:ByteArray,w.cell? ⟨b,o+j*3+2,none⟩=some (.string s)∧s.size≤140737488351232:=by
 obtain ⟨A',c',hv,_,_,_,hp⟩:=h;simp only [Value.slice.injEq] at hv;obtain ⟨rfl,rfl,rfl⟩:=hv;obtain ⟨b,o,hA,_,hc⟩:=hp h0;exact ⟨b,o,hA,fun j hj=>⟨es[j].d,(hc j hj).2.2,(hs _ (List.getElem_mem hj)).2.2.2.2⟩⟩
theorem kq (A:Option Addr) (c n:Nat) (es:List Ent) (w:World) (he:cB w (.slice A n c) es) (ho:∀ e∈es,e.Ok) (hl:n≤140737488351232) :
 Rt prog 25 [.slice A n c] w (fun v w'=>(∃ m:Nat,v=.int .i64 (m:Nat)∧n≤m∧m≤562949953421312)∧w=w'):=by
 refine enter (n:=26) Tryz.func25 rfl rfl rfl (ak (ag (asi rfl (aj (ah (ak (ag (mvs rfl (aa (bn dG rfl) (asi rfl (aj (ah (ak (ak (ag (asi rfl ?_))))))))))))))));refine aj (ah (aZ (cj (G:=Nat×Nat) [7,8,9,10,11,12,13,14,15,16,17,18,19,20,21,22,23,24] (fun (m,k)=>[(3,.int .i64 (m:Nat)),(4,.int .i64 (k:Nat))]) (fun (m,k) w'=>k≤n∧n≤m∧m≤562949953421312∧w=w') (fun (_,k)=>n-k) ((n,0)) ⟨rfl,rfl,trivial⟩ ?_ ?_)))
 ·exact ⟨Nat.zero_le _,Nat.le_refl _,by omega,rfl⟩
 rintro ⟨m,k⟩ ρ1 w1 ⟨hk,hnm,hm,rfl⟩;refine ak (ak (ag (mvi rfl (mvs rfl (aa (bn dG rfl) (aa (bH rfl rfl) (mvb rfl (wM (t:=11) rfl (fun Q2=>?_) (fun Q2=>?_)))))))))
 ·refine ae rfl (mvi rfl (ae rfl (aa (bH rfl rfl) (aa (an (v:=.bool _) rfl rfl) (aj (ah (xD rfl (fun Q3=>?_) (fun Q3=>?_))))))))
  ·obtain ⟨ba,oa,hA,hcs⟩:=ui he ho (by omega);subst hA;obtain ⟨s,hs1,hs2⟩:=hcs k (by omega);refine aP (ah (ak (aZ (ag (mvi rfl (mvs rfl (mvi rfl (aa (bq eB rfl rfl (by omega)) (aa (af qy rfl) (aa (ar bT rfl (by exact hs1)) ?_))))))))));refine aa (dC (by kernel_rfl) rfl) (aa (cP rfl rfl (by omega)) (asi rfl (aj (bJ (ah (ag (mvi rfl (aa (cP (b:=1) rfl rfl (by omega)) (asi rfl (aj ?_))))))))));refine cD ((m+s.size,k+1)) ⟨(by first | rfl | (refine bC ?_;omega)),(by first | rfl | (refine bC ?_;omega)),trivial⟩ (by (iterate 41 refine bR rfl ?_);exact cg) ⟨?_,?_⟩
   ·exact ⟨by omega,by omega,by omega,rfl⟩
   ·show n-(k+1)<n-k;omega
  refine b0 (bf (bf (bE (ah (ak (ag (mvi rfl (asi rfl (aj (ah (aA (bg (v:=.int _ _) rfl rfl (⟨⟨_,rfl,hnm,hm⟩,rfl⟩)))))))))))))
 refine ab rfl rfl (ab rfl rfl (aa (au (v:=.bool _) rfl rfl) (aj (ah (bF rfl (b0 (bf (bf (bE (ah (ak (ag (mvi rfl (asi rfl ?_))))))))))))));refine aj (ah (aA (bg (v:=.int _ _) rfl rfl (⟨⟨_,rfl,hnm,hm⟩,rfl⟩))))
def wiN (i:Int) (n:Nat):Nat:=(IntKind.u64.wrap i).toNat%n
theorem ta (i:Int) (n:Nat) (w:World) (hn:0<n∧n≤1000) :
 Rt prog 31 [.int .i64 i,.int .i64 (n:Nat)] w (fun v w'=>v=.int .i64 (wiN i n:Nat)∧w=w'):=by
 obtain ⟨a,ha,ha2⟩:∃ a:Nat,IntKind.u64.wrap i=(a:Int)∧a<18446744073709551616:=⟨(IntKind.u64.wrap i).toNat,by rw [IntKind.wrap_u64];omega,by rw [IntKind.wrap_u64];omega⟩;have hm:a%n<n:=Nat.mod_lt _ hn.1;have hwi:wiN i n=a%n:=by unfold wiN;rw [ha];rfl
 refine enter (n:=11) Tryz.func31 rfl rfl rfl (ak (ag (asi rfl (aj (ah (ak (ag (mvi rfl (aa (r3 qx nc rfl) (fg (t:=6) (v:=.int _ _) (v':=.int .u64 (a:Nat)) rfl (by rw [ha]) ?_))))))))));refine mvi rfl (aa (sI qx nc rfl (by omega)) (aa (vQ rfl rfl (by omega)) ?_));refine fg (t:=9) (v:=.int _ _) (v':=.int .u64 ((a%n:Nat):Int)) rfl (by rw [Int.tmod_eq_emod_of_nonneg (by omega)];rfl) ?_;refine aa (tu rP uB rfl (by omega)) (asi rfl (aj (ah (aA (bg (v:=.int _ _) rfl rfl ?_)))));rw [hwi];exact ⟨rfl,rfl⟩
theorem nP (m:Msg) (w:World) (he:cB w (.slice m.E m.es.length m.c) m.es) (ho:∀ e∈m.es,e.Ok) (hl:m.es.length≤140737488351232) (hd:m.d.size≤140737488351232) :
 Rt prog 26 [.agg (ew m).toArray] w (fun v w'=>(∃ b,v=.bool b∧(b=false→m.es.length≤200∧m.d.size≤20000))∧ai w w'):=by
 refine enter (n:=19) Tryz.func26 rfl rfl rfl (ak (ag (cC (v:=.agg _) rfl ?_)));intro b1 w1 E1 hb1 hk1;refine asb rfl (aj (ah (ak (ag (aa (af iT rfl) (aa (ar bT rfl (by exact (show _=some (Value.string m.d) from (hk1.from_ ai.rfl_).rd 11 rfl))) ?_))))));refine aa (dC (by kernel_rfl) rfl) (aa (bM rfl rfl) (mvb rfl (wM (t:=7) rfl (fun Q2=>?_) (fun Q2=>?_))))
 ·refine ab rfl rfl (ab rfl rfl (ab rfl rfl (ab rfl rfl (aa (an (v:=.bool _) rfl rfl) (mvb rfl (ab rfl rfl (ab rfl rfl (ab rfl rfl ?_))))))));refine ab rfl rfl (aa (an (v:=.bool _) rfl rfl) (asb rfl (aj (ah (aA (bg (v:=.bool _) rfl rfl (⟨⟨_,rfl,fun h=>?_⟩,(ai.rfl_.next E1)⟩)))))))
  first
   |(exfalso;simp at h;done)
   |(have h9:=dF_ h;omega)
   |(simp only [decide_eq_false_iff_not] at h;omega)
   |(simp at h;omega)
 refine ae rfl (aa (af gi rfl) (ae rfl (aa (ar cy rfl (by exact (show _=some (Value.slice m.E m.es.length m.c) from (hk1.from_ ai.rfl_).rd 9 rfl))) ?_)));refine ae rfl (aB oe (kq m.E m.c m.es.length m.es _ (he.from_ (ai.rfl_.next E1)) ho hl) ?_);rintro v10 w3 ⟨⟨m10,rfl,hm1,hm2⟩,rfl⟩;refine ae rfl (aa (bM rfl rfl) (aa (au (v:=.bool _) rfl rfl) (mvb rfl (wM (t:=13) rfl (fun Q4=>?_) (fun Q4=>?_)))))
 ·refine ab rfl rfl (ab rfl rfl (ab rfl rfl (ab rfl rfl (aa (an (v:=.bool _) rfl rfl) (asb rfl (aj (ah (aA (bg (v:=.bool _) rfl rfl (⟨⟨_,rfl,fun h=>?_⟩,(ai.rfl_.next E1)⟩))))))))))
  first
   |(exfalso;simp at h;done)
   |(have h9:=dF_ h;omega)
   |(simp only [decide_eq_false_iff_not] at h;omega)
   |(simp at h;omega)
 refine ae rfl (aa (af gi rfl) (ae rfl (aa (ar cy rfl (by exact (show _=some (Value.slice m.E m.es.length m.c) from (hk1.from_ ai.rfl_).rd 9 rfl))) ?_)));refine ae rfl (aa (bn dG rfl) (ae rfl (aa (bM rfl rfl) (aa (au (v:=.bool _) rfl rfl) (asb rfl (aj (ah (aA (bg (v:=.bool _) rfl rfl (⟨⟨_,rfl,fun h=>?_⟩,(ai.rfl_.next E1)⟩))))))))))
 first
  |(exfalso;simp at h;done)
  |(have h9:=dF_ h;omega)
  |(simp only [decide_eq_false_iff_not] at h;omega)
  |(simp at h;omega)
theorem cL:cr prog 32 0=some 0:=by kernel_rfl
theorem dm:cr prog 32 1=some 22:=by kernel_rfl
theorem dN:h_ prog 30=some false:=by kernel_rfl
theorem fa:(fG prog 30).isSome=true:=by kernel_rfl
theorem gh:fG prog 30=some (41,17):=by kernel_rfl
theorem ec:cr prog 41 3=some 15:=by kernel_rfl
theorem jT:cr prog 41 1=some 1:=by kernel_rfl
theorem ll:aR prog 26=true:=by kernel_rfl
theorem sj {w:World} {b a:Nat} {x:Ac} (h:w.rangeAt b a (acV x)):w.rangeAt b (a+1) (ew x.m):=fun j v hv=>by
 have hj:j<13:=(List.getElem?_eq_some_iff.1 hv).1
 have h1:(acV x)[j+1]? =some v:=by
  show (ew x.m++[Value.bool x.fit,.string x.d,.int .i64 x.i])[j]? =some v;rw [List.getElem?_append_left (show j<(ew x.m).length from hj)];exact hv
 have:=h (j+1) v h1
 rwa [show a+(j+1)=a+1+j by omega] at this
theorem cd (s:Rf) (a:Ra) (LA:Option Addr) (lc:Nat) (X:List Ac) (w:World) (h:qf w s a LA X) :
 Rt prog 15 [.agg (scV s a LA X.length lc).toArray] w (fun v w'=>(∃ b,v=.bool b∧(b=false→Small s X))∧ai w w'):=by
 have z1:=h.z.sn;have z2:=h.z.pa;have z3:=h.z.es;have z4:=h.z.v;have z5:=h.z.x;have z6:=h.z.m;have z7:=h.z.n;have z8:=h.z.q;have z9:=h.z.k;have z10:=h.n;have hLl:a.L.length=s.reads.length:=by rw [←h.r.r,List.length_map]
 refine enter (n:=111) Tryz.func15 rfl rfl rfl (ak (ag (cC (v:=.agg _) rfl ?_)));intro b1 w1 E1 hb1 hk1;refine asb rfl (aj (ah (ak ?_)));apply dY 41 [(6,eqp _),(7,eqp _),(8,eqp (.string s.snap)),(9,eqp _),(10,eqp _),(11,eqp _),(12,eqp (.string s.part)),(13,eqp _),(14,eqp (.int .i64 ((s.snap.size+s.part.size:Nat):Int))),(15,eqp _),(16,eqp _),(17,eqp _),(18,eqp (.slice a.E s.es.length a.Ec)),(19,fun v _=>∃ q:Nat,v=.int .i64 (q:Nat)∧s.es.length≤q∧q≤562949953421312),(20,fun v _=>∃ q:Nat,v=.int .i64 (q:Nat)∧s.snap.size+s.part.size+s.es.length≤q∧q≤844424930123776),(21,eqp _),(22,eqp _),(23,eqp (.slice a.V s.votes.length a.Vc)),(24,eqp _),(25,fun v _=>∃ q:Nat,v=.int .i64 (q:Nat)∧s.snap.size+s.part.size+s.es.length+s.votes.length≤q∧q≤985162418475008),(26,eqp _),(27,eqp _),(28,eqp (.slice a.X s.next.length a.Xc)),(29,eqp _),(30,fun v _=>∃ q:Nat,v=.int .i64 (q:Nat)∧s.snap.size+s.part.size+s.es.length+s.votes.length+s.next.length≤q∧q≤1125899906826240),(31,eqp _),(32,eqp _),(33,eqp (.slice a.M s.mtch.length a.Mc)),(34,eqp _),(35,fun v _=>∃ q:Nat,v=.int .i64 (q:Nat)∧s.snap.size+s.part.size+s.es.length+s.votes.length+s.next.length+s.mtch.length≤q∧q≤1266637395177472),(36,eqp _),(37,eqp _),(38,eqp (.slice a.S s.sent.length a.Sc)),(39,eqp _),(40,fun v _=>∃ q:Nat,v=.int .i64 (q:Nat)∧s.snap.size+s.part.size+s.es.length+s.votes.length+s.next.length+s.mtch.length+s.sent.length≤q∧q≤1407374883528704),(41,eqp _),(42,eqp _),(43,eqp (.slice a.Q a.L.length a.Qc)),(44,eqp _),(45,fun v _=>∃ q:Nat,v=.int .i64 (q:Nat)∧s.snap.size+s.part.size+s.es.length+s.votes.length+s.next.length+s.mtch.length+s.sent.length+a.L.length≤q∧q≤1548112371879936),(3,fun v _=>∃ q:Nat,v=.int .i64 (q:Nat)∧s.snap.size+s.part.size+s.es.length+s.votes.length+s.next.length+s.mtch.length+s.sent.length+a.L.length≤q∧q≤1548112371879936)] (by repeat first | exact eL | refine eK ?_ | refine ee ?_) (by kernel_rfl) (by kernel_rfl) ⟨aw _,aw _,aw _,aw _,aw _,aw _,aw _,aw _,aw _,aw _,aw _,aw _,aw _,(fun _ _ _ _ h=>h),(fun _ _ _ _ h=>h),aw _,aw _,aw _,aw _,(fun _ _ _ _ h=>h),aw _,aw _,aw _,aw _,(fun _ _ _ _ h=>h),aw _,aw _,aw _,aw _,(fun _ _ _ _ h=>h),aw _,aw _,aw _,aw _,(fun _ _ _ _ h=>h),aw _,aw _,aw _,aw _,(fun _ _ _ _ h=>h),(fun _ _ _ _ h=>h),trivial⟩
 case hop=>
  constructor
  ·rintro-w3 D3;exact aF (af cL rfl) rfl
  constructor
  ·rintro-w4 D4;rintro _ rfl;exact aF (af cp rfl) rfl
  constructor
  ·rintro-w5 D5;rintro _ rfl;exact aF (ar bT rfl (by exact (show _=some (Value.string s.snap) from (hk1.from_ (ai.rfl_.next D5)).rd 9 rfl))) rfl
  constructor
  ·rintro-w6 D6;rintro v6_8 rfl;exact aF (dC (by kernel_rfl) rfl) rfl
  constructor
  ·rintro-w7 D7;exact aF (af cL rfl) rfl
  constructor
  ·rintro-w8 D8;rintro _ rfl;exact aF (af dw rfl) rfl
  constructor
  ·rintro-w9 D9;rintro _ rfl;exact aF (ar bT rfl (by exact (show _=some (Value.string s.part) from (hk1.from_ (ai.rfl_.next D9)).rd 20 rfl))) rfl
  constructor
  ·rintro-w10 D10;rintro v10_12 rfl;exact aF (dC (by kernel_rfl) rfl) rfl
  constructor
  ·rintro-w11 D11;rintro _ rfl _ rfl;exact aF (cP rfl rfl (by omega)) rfl
  constructor
  ·rintro-w12 D12;exact aF (af cL rfl) rfl
  constructor
  ·rintro-w13 D13;rintro _ rfl;exact aF (af bj rfl) rfl
  constructor
  ·rintro-w14 D14;rintro _ rfl;exact aF (af cG rfl) rfl
  constructor
  ·rintro-w15 D15;rintro _ rfl;exact aF (ar cy rfl (by exact (show _=some (Value.slice a.E s.es.length a.Ec) from (hk1.from_ (ai.rfl_.next D15)).rd 8 rfl))) rfl
  constructor
  ·rintro-w16 D16;rintro v16_18 rfl;refine fy oe ((kq a.E a.Ec s.es.length s.es _ (h.r.e.from_ ((ai.rfl_.next E1).next D16)) h.z.eo (by omega)).mono ?_);rintro v w2 ⟨⟨q,rfl,hp,hq⟩,rfl⟩;exact ⟨ai.rfl_,q,rfl,hp,hq⟩
  constructor
  ·rintro-w17 D17;rintro v17_14 rfl v17_19 ⟨q17,rfl,hl17,hu17⟩;exact aF (cP rfl rfl (by omega)) ⟨_,rfl,by omega,by omega⟩
  constructor
  ·rintro-w18 D18;exact aF (af cL rfl) rfl
  constructor
  ·rintro-w19 D19;rintro _ rfl;exact aF (af cK rfl) rfl
  constructor
  ·rintro-w20 D20;rintro _ rfl;exact aF (ar aN rfl (by exact (show _=some (Value.slice a.V s.votes.length a.Vc) from (hk1.from_ (ai.rfl_.next D20)).rd 14 rfl))) rfl
  constructor
  ·rintro-w21 D21;rintro v21_23 rfl;exact aF (bn bZ rfl) rfl
  constructor
  ·rintro-w22 D22;rintro v22_20 ⟨q22,rfl,hl22,hu22⟩ _ rfl;exact aF (cP rfl rfl (by omega)) ⟨_,rfl,by omega,by omega⟩
  constructor
  ·rintro-w23 D23;exact aF (af cL rfl) rfl
  constructor
  ·rintro-w24 D24;rintro _ rfl;exact aF (af bX rfl) rfl
  constructor
  ·rintro-w25 D25;rintro _ rfl;exact aF (ar aN rfl (by exact (show _=some (Value.slice a.X s.next.length a.Xc) from (hk1.from_ (ai.rfl_.next D25)).rd 15 rfl))) rfl
  constructor
  ·rintro-w26 D26;rintro v26_28 rfl;exact aF (bn bZ rfl) rfl
  constructor
  ·rintro-w27 D27;rintro v27_25 ⟨q27,rfl,hl27,hu27⟩ _ rfl;exact aF (cP rfl rfl (by omega)) ⟨_,rfl,by omega,by omega⟩
  constructor
  ·rintro-w28 D28;exact aF (af cL rfl) rfl
  constructor
  ·rintro-w29 D29;rintro _ rfl;exact aF (af b_ rfl) rfl
  constructor
  ·rintro-w30 D30;rintro _ rfl;exact aF (ar aN rfl (by exact (show _=some (Value.slice a.M s.mtch.length a.Mc) from (hk1.from_ (ai.rfl_.next D30)).rd 16 rfl))) rfl
  constructor
  ·rintro-w31 D31;rintro v31_33 rfl;exact aF (bn bZ rfl) rfl
  constructor
  ·rintro-w32 D32;rintro v32_30 ⟨q32,rfl,hl32,hu32⟩ _ rfl;exact aF (cP rfl rfl (by omega)) ⟨_,rfl,by omega,by omega⟩
  constructor
  ·rintro-w33 D33;exact aF (af cL rfl) rfl
  constructor
  ·rintro-w34 D34;rintro _ rfl;exact aF (af bU rfl) rfl
  constructor
  ·rintro-w35 D35;rintro _ rfl;exact aF (ar aN rfl (by exact (show _=some (Value.slice a.S s.sent.length a.Sc) from (hk1.from_ (ai.rfl_.next D35)).rd 17 rfl))) rfl
  constructor
  ·rintro-w36 D36;rintro v36_38 rfl;exact aF (bn bZ rfl) rfl
  constructor
  ·rintro-w37 D37;rintro v37_35 ⟨q37,rfl,hl37,hu37⟩ _ rfl;exact aF (cP rfl rfl (by omega)) ⟨_,rfl,by omega,by omega⟩
  constructor
  ·rintro-w38 D38;exact aF (af cL rfl) rfl
  constructor
  ·rintro-w39 D39;rintro _ rfl;exact aF (af aT rfl) rfl
  constructor
  ·rintro-w40 D40;rintro _ rfl;exact aF (ar bm rfl (by exact (show _=some (Value.slice a.Q a.L.length a.Qc) from (hk1.from_ (ai.rfl_.next D40)).rd 19 rfl))) rfl
  constructor
  ·rintro-w41 D41;rintro v41_43 rfl;exact aF (bn bA rfl) rfl
  constructor
  ·rintro-w42 D42;rintro v42_40 ⟨q42,rfl,hl42,hu42⟩ _ rfl;exact aF (cP rfl rfl (by omega)) ⟨_,rfl,by omega,by omega⟩
  constructor
  ·rintro-w43 D43;rintro v43_45 ⟨q43,rfl,hl43,hu43⟩;exact aF (dW rfl) ⟨_,rfl,by omega,by omega⟩
  exact trivial
 case hend=>
  intro w44 D44;rintro _ rfl _ rfl v8 rfl _ rfl _ rfl _ rfl v12 rfl _ rfl v14 rfl _ rfl _ rfl _ rfl v18 rfl v19 ⟨q44,rfl,hl44,hu44⟩ v20 ⟨q44,rfl,hl44,hu44⟩ _ rfl _ rfl v23 rfl _ rfl v25 ⟨q44,rfl,hl44,hu44⟩ _ rfl _ rfl v28 rfl _ rfl v30 ⟨q44,rfl,hl44,hu44⟩ _ rfl _ rfl v33 rfl _ rfl v35 ⟨q44,rfl,hl44,hu44⟩ _ rfl _ rfl v38 rfl _ rfl v40 ⟨q44,rfl,hl44,hu44⟩ _ rfl _ rfl v43 rfl _ rfl v45 ⟨q44,rfl,hl44,hu44⟩ v3 ⟨q3,rfl,hl3,hu3⟩;show St ..;refine aj (ah (ak (ak (ag (asi rfl (aj (ah (aZ (cj (G:=Nat×Nat) [46,47,48,49,50,51,52,53,54,55,56,57,58,59,60,61,62,63,64,65,66,67] (fun (m,k)=>[(3,.int .i64 (m:Nat)),(4,.int .i64 (k:Nat))]) (fun (m,k) w'=>k≤a.L.length∧s.snap.size+s.part.size+s.es.length+s.votes.length+s.next.length+s.mtch.length+s.sent.length+a.L.length≤m∧m≤2000000000000000∧(∀ j (h:j<a.L.length),j<k→a.L[j].1.acks.length≤m)∧Blk w' b1 32 (scV s a LA X.length lc).toArray∧ai w w') (fun (_,k)=>a.L.length-k) ((q3,0)) ⟨rfl,rfl,trivial⟩ ?_ ?_)))))))))
  ·exact ⟨Nat.zero_le _,hl3,by omega,fun j _ h=>absurd h (by omega),hk1.from_ (ai.rfl_.next D44),((ai.rfl_.next E1).next D44)⟩
  rintro ⟨m,k⟩ ρ45 w45 ⟨hk,hm1,hm2,hj1,hk1,hB⟩;refine ak (ak (ag (mvi rfl (aa (af cL rfl) (aa (af aT rfl) (aa (ar bm rfl (by exact (show _=some (Value.slice a.Q a.L.length a.Qc) from (hk1.from_ ai.rfl_).rd 19 rfl))) ?_))))));refine aa (bn bA rfl) (aa (bH rfl rfl) (mvb rfl (wM (t:=52) rfl (fun Q46=>?_) (fun Q46=>?_))))
  ·refine ae rfl (mvi rfl (ae rfl (aa (bH rfl rfl) (aa (an (v:=.bool _) rfl rfl) (aj (ah (xD rfl (fun Q47=>?_) (fun Q47=>?_))))))))
   ·have hkL:k<a.L.length:=by omega
    have zk:=z9 _ (List.getElem_mem hkL);obtain ⟨ba,oa,hQe,hcs⟩:=h.r.q (by omega);have hkq:Blk w45 b1 32 (scV s { a with Q:=some ⟨ba,oa,none⟩ } LA X.length lc).toArray:=by rw [←hQe];exact hk1.from_ ai.rfl_
    refine aP (ah (ak (aZ (ag (mvi rfl (aa (af cL rfl) (aa (af aT rfl) (aa (ar bm rfl (by exact (show _=some (Value.slice (some ⟨ba,oa,none⟩) a.L.length a.Qc) from (hkq.from_ ai.rfl_).rd 19 rfl))) ?_))))))));refine mvi rfl (aa (bq cO rfl rfl (by omega)) (aa (af cE rfl) (aa (ar aN rfl (by exact ej hB (hcs k hkL 3 _ rfl))) ?_)));refine aa (bn bZ rfl) (aa (cP rfl rfl (by omega)) (asi rfl (aj (bJ (ah (ag (mvi rfl (aa (bI rfl rfl (by omega)) (asi rfl (aj ?_))))))))));refine cD ((m+a.L[k].1.acks.length,k+1)) ⟨(by first | rfl | (refine bC ?_;omega)),(by first | rfl | (refine bC ?_;omega)),trivial⟩ (by (iterate 49 refine bR rfl ?_);exact cg) ⟨?_,?_⟩
    ·refine ⟨by omega,by omega,by omega,fun j h hj=>?_,hk1.from_ ai.rfl_,hB⟩;rcases Nat.lt_or_ge j k with e | e
     ·have:=hj1 j h e;omega
     ·obtain rfl:j=k:=by omega
      omega
    ·show a.L.length-(k+1)<a.L.length-k;omega
   refine b0 (bf (bf (bE (ah (ak (ak (ag (asi rfl (aj (ah (aZ (cj (G:=Nat×Nat) [2,68,69,70,71,72,73,74,75,76,77,78,79,80,81,82,83,84,85,86,87,88,89,90,91,92,93,94] (fun (m2,i)=>[(3,.int .i64 (m2:Nat)),(5,.int .i64 (i:Nat))]) (fun (m2,i) w'=>i≤X.length∧m≤m2∧m2≤2000000000000000∧(∀ j (h:j<X.length),j<i→X[j].m.es.length≤200∧X[j].m.d.size≤20000∧X[j].d.size≤m2)∧Blk w' b1 32 (scV s a LA X.length lc).toArray∧ai w w') (fun (_,i)=>X.length-i) ((m,0)) ⟨rfl,rfl,trivial⟩ ?_ ?_))))))))))))
   ·exact ⟨Nat.zero_le _,Nat.le_refl _,hm2,fun j _ h=>absurd h (by omega),hk1.from_ ai.rfl_,hB⟩
   rintro ⟨m2,i⟩ ρ48 w48 ⟨hk2,hn1,hn2,hj2,hk1,hB⟩;refine ak (ak (ag (mvi rfl (aa (af dm rfl) (aa (ar dN rfl (by exact (show _=some (Value.slice LA X.length lc) from (hk1.from_ ai.rfl_).rd 22 rfl))) ?_)))));refine aa (bn fa rfl) (aa (bH rfl rfl) (mvb rfl (wM (t:=73) rfl (fun Q49=>?_) (fun Q49=>?_))))
   ·refine ae rfl (mvi rfl (ae rfl (aa (bH rfl rfl) (aa (an (v:=.bool _) rfl rfl) (aj (ah (xD rfl (fun Q50=>?_) (fun Q50=>?_))))))))
    ·have hkX:i<X.length:=by omega
     have hox:=h.o _ (List.getElem_mem hkX);have zk:=hox.2.2.2.2;obtain ⟨ba,oa,hQe,hcs⟩:=h.x (by omega);have hkq:Blk w48 b1 32 (scV s a (some ⟨ba,oa,none⟩) X.length lc).toArray:=by rw [←hQe];exact hk1.from_ ai.rfl_
     refine aP (ah (ak (aZ (ak (ag (mvi rfl (aa (af dm rfl) (aa (ar dN rfl (by exact (show _=some (Value.slice (some ⟨ba,oa,none⟩) X.length lc) from (hkq.from_ ai.rfl_).rd 22 rfl))) ?_))))))));refine mvi rfl (aa (bq gh rfl rfl (by omega)) (aa (af ec rfl) (aa (ar bT rfl (by exact ej hB (hcs i hkX 15 _ rfl))) ?_)));refine aa (dC (by kernel_rfl) rfl) (aa (cP rfl rfl (by omega)) (asi rfl (aj (ah (ak (ag (aa (af dm rfl) (aa (ar dN rfl (by exact (show _=some (Value.slice (some ⟨ba,oa,none⟩) X.length lc) from (hkq.from_ ai.rfl_).rd 22 rfl))) ?_))))))));refine mvi rfl (aa (bq gh rfl rfl (by omega)) (aa (af jT rfl) (aa (aH (cs:=ew X[i].m) gZ fR rfl (sj (ep hB (hcs i hkX)))) (aB ll (nP X[i].m _ (hox.1.from_ hB) hox.2.1 (by have:=hox.2.2.1;omega) hox.2.2.2.1) ?_))));rintro v94 w51 ⟨⟨b94,rfl,hb94⟩,E94⟩;refine aj (ah (aV rfl (fun Q52=>?_) (fun Q52=>?_)))
     ·(try with_reducible first | (replace Q52 := dT_ Q52; trace "@MK N cd:g52+.c55-.g73+.c76+.c94+ 1.1") | (replace Q52 := dF_ Q52; trace "@MK N cd:g52+.c55-.g73+.c76+.c94+ 1.2") | (replace Q52 := cZ Q52; trace "@MK N cd:g52+.c55-.g73+.c76+.c94+ 1.3") | (replace Q52 := c8 Q52; trace "@MK N cd:g52+.c55-.g73+.c76+.c94+ 1.4"))
      (try with_reducible first | (replace Q52 := dT_ Q52; trace "@MK N cd:g52+.c55-.g73+.c76+.c94+ 2.1") | (replace Q52 := dF_ Q52; trace "@MK N cd:g52+.c55-.g73+.c76+.c94+ 2.2") | (replace Q52 := jx Q52; trace "@MK N cd:g52+.c55-.g73+.c76+.c94+ 2.3") | (replace Q52 := jy Q52; trace "@MK N cd:g52+.c55-.g73+.c76+.c94+ 2.4") | (replace Q52 := fz Q52; trace "@MK N cd:g52+.c55-.g73+.c76+.c94+ 2.5") | (replace Q52 := fA Q52; trace "@MK N cd:g52+.c55-.g73+.c76+.c94+ 2.6"))
      refine ak (ag (asb rfl (aj (ah (aA (aU (ay (ay (aU (ay (bg (v:=.bool _) rfl rfl (⟨⟨_,rfl,fun h=>by cases h⟩,(hB.next E94)⟩))))))))))))
     (try with_reducible first | (replace Q52 := dT_ Q52; trace "@MK N cd:g52+.c55-.g73+.c76+.c94- 1.1") | (replace Q52 := dF_ Q52; trace "@MK N cd:g52+.c55-.g73+.c76+.c94- 1.2") | (replace Q52 := cZ Q52; trace "@MK N cd:g52+.c55-.g73+.c76+.c94- 1.3") | (replace Q52 := c8 Q52; trace "@MK N cd:g52+.c55-.g73+.c76+.c94- 1.4"))
     (try with_reducible first | (replace Q52 := dT_ Q52; trace "@MK N cd:g52+.c55-.g73+.c76+.c94- 2.1") | (replace Q52 := dF_ Q52; trace "@MK N cd:g52+.c55-.g73+.c76+.c94- 2.2") | (replace Q52 := jx Q52; trace "@MK N cd:g52+.c55-.g73+.c76+.c94- 2.3") | (replace Q52 := jy Q52; trace "@MK N cd:g52+.c55-.g73+.c76+.c94- 2.4") | (replace Q52 := fz Q52; trace "@MK N cd:g52+.c55-.g73+.c76+.c94- 2.5") | (replace Q52 := fA Q52; trace "@MK N cd:g52+.c55-.g73+.c76+.c94- 2.6"))
     refine aP (bJ (ah (ag (mvi rfl (aa (bI rfl rfl (by omega)) (asi rfl (aj ?_)))))));refine cD ((m2+X[i].d.size,i+1)) ⟨(by first | rfl | (refine bC ?_;omega)),(by first | rfl | (refine bC ?_;omega)),trivial⟩ (by (iterate 60 refine bR rfl ?_);exact cg) ⟨?_,?_⟩
     ·refine ⟨by omega,by omega,by omega,fun j h hj=>?_,hk1.from_ (ai.rfl_.next E94),(hB.next E94)⟩;rcases Nat.lt_or_ge j i with e | e
      ·have:=hj2 j h e;omega
      ·obtain rfl:j=i:=by omega
       have:=hb94 (by first | rfl | assumption | simp_all);omega
     ·show X.length-(i+1)<X.length-i;omega
    refine b0 (bf (bf (bE (ah (ak (ag (mvi rfl (aa (bM rfl rfl) (mvb rfl (wM (t:=97) rfl (fun Q53=>?_) (fun Q53=>?_)))))))))))
    ·refine ab rfl rfl (ab rfl rfl (ab rfl rfl (ab rfl rfl (ab rfl rfl (ab rfl rfl (aa (an (v:=.bool _) rfl rfl) (mvb rfl (ab rfl rfl ?_))))))));refine ab rfl rfl (ab rfl rfl (ab rfl rfl (aa (an (v:=.bool _) rfl rfl) (asb rfl (aj (ah (aA (bg (v:=.bool _) rfl rfl (⟨⟨_,rfl,fun h9=>?_⟩,hB⟩)))))))))
     have hh:m2≤20000∧s.es.length≤600∧X.length≤100:=by
      first
       |(exfalso;simp at h9;done)
       |(have h8:=dF_ h9;omega)
       |(simp only [decide_eq_false_iff_not] at h9;omega)
       |(simp at h9;omega)
     have hkl:k=a.L.length:=by omega
     refine ⟨⟨by omega,by omega,by omega,by omega,by omega,fun q hq=>?_⟩,hh.2.1,hh.2.2,⟨by omega,by omega⟩,fun y hy=>?_⟩
     ·rw [←h.r.r] at hq;obtain ⟨y,hy,rfl⟩:=List.mem_map.1 hq;obtain ⟨j,hj,rfl⟩:=List.getElem_of_mem hy;have:=hj1 j hj (by omega);omega
     ·obtain ⟨j,hj,rfl⟩:=List.getElem_of_mem hy;have:=hj2 j hj (by omega);omega
    refine ae rfl (aa (af cL rfl) (ae rfl (aa (af bj rfl) (ae rfl (aa (af cG rfl) (ae rfl (aa (ar cy rfl (by exact (show _=some (Value.slice a.E s.es.length a.Ec) from (hk1.from_ ai.rfl_).rd 8 rfl))) ?_)))))));refine ae rfl (aa (bn dG rfl) (ae rfl (aa (bM rfl rfl) (aa (au (v:=.bool _) rfl rfl) (mvb rfl (wM (t:=105) rfl (fun Q54=>?_) (fun Q54=>?_)))))))
    ·refine ab rfl rfl (ab rfl rfl (ab rfl rfl (ab rfl rfl (aa (an (v:=.bool _) rfl rfl) (asb rfl (aj (ah (aA (bg (v:=.bool _) rfl rfl (⟨⟨_,rfl,fun h9=>?_⟩,hB⟩))))))))))
     have hh:m2≤20000∧s.es.length≤600∧X.length≤100:=by
      first
       |(exfalso;simp at h9;done)
       |(have h8:=dF_ h9;omega)
       |(simp only [decide_eq_false_iff_not] at h9;omega)
       |(simp at h9;omega)
     have hkl:k=a.L.length:=by omega
     refine ⟨⟨by omega,by omega,by omega,by omega,by omega,fun q hq=>?_⟩,hh.2.1,hh.2.2,⟨by omega,by omega⟩,fun y hy=>?_⟩
     ·rw [←h.r.r] at hq;obtain ⟨y,hy,rfl⟩:=List.mem_map.1 hq;obtain ⟨j,hj,rfl⟩:=List.getElem_of_mem hy;have:=hj1 j hj (by omega);omega
     ·obtain ⟨j,hj,rfl⟩:=List.getElem_of_mem hy;have:=hj2 j hj (by omega);omega
    refine ae rfl (aa (af dm rfl) (ae rfl (aa (ar dN rfl (by exact (show _=some (Value.slice LA X.length lc) from (hk1.from_ ai.rfl_).rd 22 rfl))) ?_)));refine ae rfl (aa (bn fa rfl) (ae rfl (aa (bM rfl rfl) (aa (au (v:=.bool _) rfl rfl) (asb rfl (aj (ah (aA (bg (v:=.bool _) rfl rfl (⟨⟨_,rfl,fun h9=>?_⟩,hB⟩))))))))))
    have hh:m2≤20000∧s.es.length≤600∧X.length≤100:=by
     first
      |(exfalso;simp at h9;done)
      |(have h8:=dF_ h9;omega)
      |(simp only [decide_eq_false_iff_not] at h9;omega)
      |(simp at h9;omega)
    have hkl:k=a.L.length:=by omega
    refine ⟨⟨by omega,by omega,by omega,by omega,by omega,fun q hq=>?_⟩,hh.2.1,hh.2.2,⟨by omega,by omega⟩,fun y hy=>?_⟩
    ·rw [←h.r.r] at hq;obtain ⟨y,hy,rfl⟩:=List.mem_map.1 hq;obtain ⟨j,hj,rfl⟩:=List.getElem_of_mem hy;have:=hj1 j hj (by omega);omega
    ·obtain ⟨j,hj,rfl⟩:=List.getElem_of_mem hy;have:=hj2 j hj (by omega);omega
   refine ab rfl rfl (ab rfl rfl (aa (au (v:=.bool _) rfl rfl) (aj (ah (bF rfl (b0 (bf (bf (bE (ah (ak (ag (mvi rfl (aa (bM rfl rfl) ?_))))))))))))));refine mvb rfl (wM (t:=97) rfl (fun Q55=>?_) (fun Q55=>?_))
   ·refine ab rfl rfl (ab rfl rfl (ab rfl rfl (ab rfl rfl (ab rfl rfl (ab rfl rfl (aa (an (v:=.bool _) rfl rfl) (mvb rfl (ab rfl rfl ?_))))))));refine ab rfl rfl (ab rfl rfl (ab rfl rfl (aa (an (v:=.bool _) rfl rfl) (asb rfl (aj (ah (aA (bg (v:=.bool _) rfl rfl (⟨⟨_,rfl,fun h9=>?_⟩,hB⟩)))))))))
    have hh:m2≤20000∧s.es.length≤600∧X.length≤100:=by
     first
      |(exfalso;simp at h9;done)
      |(have h8:=dF_ h9;omega)
      |(simp only [decide_eq_false_iff_not] at h9;omega)
      |(simp at h9;omega)
    have hkl:k=a.L.length:=by omega
    refine ⟨⟨by omega,by omega,by omega,by omega,by omega,fun q hq=>?_⟩,hh.2.1,hh.2.2,⟨by omega,by omega⟩,fun y hy=>?_⟩
    ·rw [←h.r.r] at hq;obtain ⟨y,hy,rfl⟩:=List.mem_map.1 hq;obtain ⟨j,hj,rfl⟩:=List.getElem_of_mem hy;have:=hj1 j hj (by omega);omega
    ·obtain ⟨j,hj,rfl⟩:=List.getElem_of_mem hy;have:=hj2 j hj (by omega);omega
   refine ae rfl (aa (af cL rfl) (ae rfl (aa (af bj rfl) (ae rfl (aa (af cG rfl) (ae rfl (aa (ar cy rfl (by exact (show _=some (Value.slice a.E s.es.length a.Ec) from (hk1.from_ ai.rfl_).rd 8 rfl))) ?_)))))));refine ae rfl (aa (bn dG rfl) (ae rfl (aa (bM rfl rfl) (aa (au (v:=.bool _) rfl rfl) (mvb rfl (wM (t:=105) rfl (fun Q56=>?_) (fun Q56=>?_)))))))
   ·refine ab rfl rfl (ab rfl rfl (ab rfl rfl (ab rfl rfl (aa (an (v:=.bool _) rfl rfl) (asb rfl (aj (ah (aA (bg (v:=.bool _) rfl rfl (⟨⟨_,rfl,fun h9=>?_⟩,hB⟩))))))))))
    have hh:m2≤20000∧s.es.length≤600∧X.length≤100:=by
     first
      |(exfalso;simp at h9;done)
      |(have h8:=dF_ h9;omega)
      |(simp only [decide_eq_false_iff_not] at h9;omega)
      |(simp at h9;omega)
    have hkl:k=a.L.length:=by omega
    refine ⟨⟨by omega,by omega,by omega,by omega,by omega,fun q hq=>?_⟩,hh.2.1,hh.2.2,⟨by omega,by omega⟩,fun y hy=>?_⟩
    ·rw [←h.r.r] at hq;obtain ⟨y,hy,rfl⟩:=List.mem_map.1 hq;obtain ⟨j,hj,rfl⟩:=List.getElem_of_mem hy;have:=hj1 j hj (by omega);omega
    ·obtain ⟨j,hj,rfl⟩:=List.getElem_of_mem hy;have:=hj2 j hj (by omega);omega
   refine ae rfl (aa (af dm rfl) (ae rfl (aa (ar dN rfl (by exact (show _=some (Value.slice LA X.length lc) from (hk1.from_ ai.rfl_).rd 22 rfl))) ?_)));refine ae rfl (aa (bn fa rfl) (ae rfl (aa (bM rfl rfl) (aa (au (v:=.bool _) rfl rfl) (asb rfl (aj (ah (aA (bg (v:=.bool _) rfl rfl (⟨⟨_,rfl,fun h9=>?_⟩,hB⟩))))))))))
   have hh:m2≤20000∧s.es.length≤600∧X.length≤100:=by
    first
     |(exfalso;simp at h9;done)
     |(have h8:=dF_ h9;omega)
     |(simp only [decide_eq_false_iff_not] at h9;omega)
     |(simp at h9;omega)
   have hkl:k=a.L.length:=by omega
   refine ⟨⟨by omega,by omega,by omega,by omega,by omega,fun q hq=>?_⟩,hh.2.1,hh.2.2,⟨by omega,by omega⟩,fun y hy=>?_⟩
   ·rw [←h.r.r] at hq;obtain ⟨y,hy,rfl⟩:=List.mem_map.1 hq;obtain ⟨j,hj,rfl⟩:=List.getElem_of_mem hy;have:=hj1 j hj (by omega);omega
   ·obtain ⟨j,hj,rfl⟩:=List.getElem_of_mem hy;have:=hj2 j hj (by omega);omega
  refine ab rfl rfl (ab rfl rfl (aa (au (v:=.bool _) rfl rfl) (aj (ah (bF rfl (b0 (bf (bf (bE (ah (ak (ak (ag (asi rfl (aj (ah (aZ ?_)))))))))))))))));refine cj (G:=Nat×Nat) [2,68,69,70,71,72,73,74,75,76,77,78,79,80,81,82,83,84,85,86,87,88,89,90,91,92,93,94] (fun (m2,i)=>[(3,.int .i64 (m2:Nat)),(5,.int .i64 (i:Nat))]) (fun (m2,i) w'=>i≤X.length∧m≤m2∧m2≤2000000000000000∧(∀ j (h:j<X.length),j<i→X[j].m.es.length≤200∧X[j].m.d.size≤20000∧X[j].d.size≤m2)∧Blk w' b1 32 (scV s a LA X.length lc).toArray∧ai w w') (fun (_,i)=>X.length-i) ((m,0)) ⟨rfl,rfl,trivial⟩ ?_ ?_
  ·exact ⟨Nat.zero_le _,Nat.le_refl _,hm2,fun j _ h=>absurd h (by omega),hk1.from_ ai.rfl_,hB⟩
  rintro ⟨m2,i⟩ ρ57 w57 ⟨hk2,hn1,hn2,hj2,hk1,hB⟩;refine ak (ak (ag (mvi rfl (aa (af dm rfl) (aa (ar dN rfl (by exact (show _=some (Value.slice LA X.length lc) from (hk1.from_ ai.rfl_).rd 22 rfl))) ?_)))));refine aa (bn fa rfl) (aa (bH rfl rfl) (mvb rfl (wM (t:=73) rfl (fun Q58=>?_) (fun Q58=>?_))))
  ·refine ae rfl (mvi rfl (ae rfl (aa (bH rfl rfl) (aa (an (v:=.bool _) rfl rfl) (aj (ah (xD rfl (fun Q59=>?_) (fun Q59=>?_))))))))
   ·have hkX:i<X.length:=by omega
    have hox:=h.o _ (List.getElem_mem hkX);have zk:=hox.2.2.2.2;obtain ⟨ba,oa,hQe,hcs⟩:=h.x (by omega);have hkq:Blk w57 b1 32 (scV s a (some ⟨ba,oa,none⟩) X.length lc).toArray:=by rw [←hQe];exact hk1.from_ ai.rfl_
    refine aP (ah (ak (aZ (ak (ag (mvi rfl (aa (af dm rfl) (aa (ar dN rfl (by exact (show _=some (Value.slice (some ⟨ba,oa,none⟩) X.length lc) from (hkq.from_ ai.rfl_).rd 22 rfl))) ?_))))))));refine mvi rfl (aa (bq gh rfl rfl (by omega)) (aa (af ec rfl) (aa (ar bT rfl (by exact ej hB (hcs i hkX 15 _ rfl))) ?_)));refine aa (dC (by kernel_rfl) rfl) (aa (cP rfl rfl (by omega)) (asi rfl (aj (ah (ak (ag (aa (af dm rfl) (aa (ar dN rfl (by exact (show _=some (Value.slice (some ⟨ba,oa,none⟩) X.length lc) from (hkq.from_ ai.rfl_).rd 22 rfl))) ?_))))))));refine mvi rfl (aa (bq gh rfl rfl (by omega)) (aa (af jT rfl) (aa (aH (cs:=ew X[i].m) gZ fR rfl (sj (ep hB (hcs i hkX)))) (aB ll (nP X[i].m _ (hox.1.from_ hB) hox.2.1 (by have:=hox.2.2.1;omega) hox.2.2.2.1) ?_))));rintro v94 w60 ⟨⟨b94,rfl,hb94⟩,E94⟩;refine aj (ah (aV rfl (fun Q61=>?_) (fun Q61=>?_)))
    ·(try with_reducible first | (replace Q61 := dT_ Q61; trace "@MK N cd:g52-.g73+.c76+.c94+ 1.1") | (replace Q61 := dF_ Q61; trace "@MK N cd:g52-.g73+.c76+.c94+ 1.2") | (replace Q61 := cZ Q61; trace "@MK N cd:g52-.g73+.c76+.c94+ 1.3") | (replace Q61 := c8 Q61; trace "@MK N cd:g52-.g73+.c76+.c94+ 1.4"))
     (try with_reducible first | (replace Q61 := dT_ Q61; trace "@MK N cd:g52-.g73+.c76+.c94+ 2.1") | (replace Q61 := dF_ Q61; trace "@MK N cd:g52-.g73+.c76+.c94+ 2.2") | (replace Q61 := jx Q61; trace "@MK N cd:g52-.g73+.c76+.c94+ 2.3") | (replace Q61 := jy Q61; trace "@MK N cd:g52-.g73+.c76+.c94+ 2.4") | (replace Q61 := fz Q61; trace "@MK N cd:g52-.g73+.c76+.c94+ 2.5") | (replace Q61 := fA Q61; trace "@MK N cd:g52-.g73+.c76+.c94+ 2.6"))
     refine ak (ag (asb rfl (aj (ah (aA (aU (ay (ay (aU (ay (bg (v:=.bool _) rfl rfl (⟨⟨_,rfl,fun h=>by cases h⟩,(hB.next E94)⟩))))))))))))
    (try with_reducible first | (replace Q61 := dT_ Q61; trace "@MK N cd:g52-.g73+.c76+.c94- 1.1") | (replace Q61 := dF_ Q61; trace "@MK N cd:g52-.g73+.c76+.c94- 1.2") | (replace Q61 := cZ Q61; trace "@MK N cd:g52-.g73+.c76+.c94- 1.3") | (replace Q61 := c8 Q61; trace "@MK N cd:g52-.g73+.c76+.c94- 1.4"))
    (try with_reducible first | (replace Q61 := dT_ Q61; trace "@MK N cd:g52-.g73+.c76+.c94- 2.1") | (replace Q61 := dF_ Q61; trace "@MK N cd:g52-.g73+.c76+.c94- 2.2") | (replace Q61 := jx Q61; trace "@MK N cd:g52-.g73+.c76+.c94- 2.3") | (replace Q61 := jy Q61; trace "@MK N cd:g52-.g73+.c76+.c94- 2.4") | (replace Q61 := fz Q61; trace "@MK N cd:g52-.g73+.c76+.c94- 2.5") | (replace Q61 := fA Q61; trace "@MK N cd:g52-.g73+.c76+.c94- 2.6"))
    refine aP (bJ (ah (ag (mvi rfl (aa (bI rfl rfl (by omega)) (asi rfl (aj ?_)))))));refine cD ((m2+X[i].d.size,i+1)) ⟨(by first | rfl | (refine bC ?_;omega)),(by first | rfl | (refine bC ?_;omega)),trivial⟩ (by (iterate 60 refine bR rfl ?_);exact cg) ⟨?_,?_⟩
    ·refine ⟨by omega,by omega,by omega,fun j h hj=>?_,hk1.from_ (ai.rfl_.next E94),(hB.next E94)⟩;rcases Nat.lt_or_ge j i with e | e
     ·have:=hj2 j h e;omega
     ·obtain rfl:j=i:=by omega
      have:=hb94 (by first | rfl | assumption | simp_all);omega
    ·show X.length-(i+1)<X.length-i;omega
   refine b0 (bf (bf (bE (ah (ak (ag (mvi rfl (aa (bM rfl rfl) (mvb rfl (wM (t:=97) rfl (fun Q62=>?_) (fun Q62=>?_)))))))))))
   ·refine ab rfl rfl (ab rfl rfl (ab rfl rfl (ab rfl rfl (ab rfl rfl (ab rfl rfl (aa (an (v:=.bool _) rfl rfl) (mvb rfl (ab rfl rfl ?_))))))));refine ab rfl rfl (ab rfl rfl (ab rfl rfl (aa (an (v:=.bool _) rfl rfl) (asb rfl (aj (ah (aA (bg (v:=.bool _) rfl rfl (⟨⟨_,rfl,fun h9=>?_⟩,hB⟩)))))))))
    have hh:m2≤20000∧s.es.length≤600∧X.length≤100:=by
     first
      |(exfalso;simp at h9;done)
      |(have h8:=dF_ h9;omega)
      |(simp only [decide_eq_false_iff_not] at h9;omega)
      |(simp at h9;omega)
    have hkl:k=a.L.length:=by omega
    refine ⟨⟨by omega,by omega,by omega,by omega,by omega,fun q hq=>?_⟩,hh.2.1,hh.2.2,⟨by omega,by omega⟩,fun y hy=>?_⟩
    ·rw [←h.r.r] at hq;obtain ⟨y,hy,rfl⟩:=List.mem_map.1 hq;obtain ⟨j,hj,rfl⟩:=List.getElem_of_mem hy;have:=hj1 j hj (by omega);omega
    ·obtain ⟨j,hj,rfl⟩:=List.getElem_of_mem hy;have:=hj2 j hj (by omega);omega
   refine ae rfl (aa (af cL rfl) (ae rfl (aa (af bj rfl) (ae rfl (aa (af cG rfl) (ae rfl (aa (ar cy rfl (by exact (show _=some (Value.slice a.E s.es.length a.Ec) from (hk1.from_ ai.rfl_).rd 8 rfl))) ?_)))))));refine ae rfl (aa (bn dG rfl) (ae rfl (aa (bM rfl rfl) (aa (au (v:=.bool _) rfl rfl) (mvb rfl (wM (t:=105) rfl (fun Q63=>?_) (fun Q63=>?_)))))))
   ·refine ab rfl rfl (ab rfl rfl (ab rfl rfl (ab rfl rfl (aa (an (v:=.bool _) rfl rfl) (asb rfl (aj (ah (aA (bg (v:=.bool _) rfl rfl (⟨⟨_,rfl,fun h9=>?_⟩,hB⟩))))))))))
    have hh:m2≤20000∧s.es.length≤600∧X.length≤100:=by
     first
      |(exfalso;simp at h9;done)
      |(have h8:=dF_ h9;omega)
      |(simp only [decide_eq_false_iff_not] at h9;omega)
      |(simp at h9;omega)
    have hkl:k=a.L.length:=by omega
    refine ⟨⟨by omega,by omega,by omega,by omega,by omega,fun q hq=>?_⟩,hh.2.1,hh.2.2,⟨by omega,by omega⟩,fun y hy=>?_⟩
    ·rw [←h.r.r] at hq;obtain ⟨y,hy,rfl⟩:=List.mem_map.1 hq;obtain ⟨j,hj,rfl⟩:=List.getElem_of_mem hy;have:=hj1 j hj (by omega);omega
    ·obtain ⟨j,hj,rfl⟩:=List.getElem_of_mem hy;have:=hj2 j hj (by omega);omega
   refine ae rfl (aa (af dm rfl) (ae rfl (aa (ar dN rfl (by exact (show _=some (Value.slice LA X.length lc) from (hk1.from_ ai.rfl_).rd 22 rfl))) ?_)));refine ae rfl (aa (bn fa rfl) (ae rfl (aa (bM rfl rfl) (aa (au (v:=.bool _) rfl rfl) (asb rfl (aj (ah (aA (bg (v:=.bool _) rfl rfl (⟨⟨_,rfl,fun h9=>?_⟩,hB⟩))))))))))
   have hh:m2≤20000∧s.es.length≤600∧X.length≤100:=by
    first
     |(exfalso;simp at h9;done)
     |(have h8:=dF_ h9;omega)
     |(simp only [decide_eq_false_iff_not] at h9;omega)
     |(simp at h9;omega)
   have hkl:k=a.L.length:=by omega
   refine ⟨⟨by omega,by omega,by omega,by omega,by omega,fun q hq=>?_⟩,hh.2.1,hh.2.2,⟨by omega,by omega⟩,fun y hy=>?_⟩
   ·rw [←h.r.r] at hq;obtain ⟨y,hy,rfl⟩:=List.mem_map.1 hq;obtain ⟨j,hj,rfl⟩:=List.getElem_of_mem hy;have:=hj1 j hj (by omega);omega
   ·obtain ⟨j,hj,rfl⟩:=List.getElem_of_mem hy;have:=hj2 j hj (by omega);omega
  refine ab rfl rfl (ab rfl rfl (aa (au (v:=.bool _) rfl rfl) (aj (ah (bF rfl (b0 (bf (bf (bE (ah (ak (ag (mvi rfl (aa (bM rfl rfl) ?_))))))))))))));refine mvb rfl (wM (t:=97) rfl (fun Q64=>?_) (fun Q64=>?_))
  ·refine ab rfl rfl (ab rfl rfl (ab rfl rfl (ab rfl rfl (ab rfl rfl (ab rfl rfl (aa (an (v:=.bool _) rfl rfl) (mvb rfl (ab rfl rfl ?_))))))));refine ab rfl rfl (ab rfl rfl (ab rfl rfl (aa (an (v:=.bool _) rfl rfl) (asb rfl (aj (ah (aA (bg (v:=.bool _) rfl rfl (⟨⟨_,rfl,fun h9=>?_⟩,hB⟩)))))))))
   have hh:m2≤20000∧s.es.length≤600∧X.length≤100:=by
    first
     |(exfalso;simp at h9;done)
     |(have h8:=dF_ h9;omega)
     |(simp only [decide_eq_false_iff_not] at h9;omega)
     |(simp at h9;omega)
   have hkl:k=a.L.length:=by omega
   refine ⟨⟨by omega,by omega,by omega,by omega,by omega,fun q hq=>?_⟩,hh.2.1,hh.2.2,⟨by omega,by omega⟩,fun y hy=>?_⟩
   ·rw [←h.r.r] at hq;obtain ⟨y,hy,rfl⟩:=List.mem_map.1 hq;obtain ⟨j,hj,rfl⟩:=List.getElem_of_mem hy;have:=hj1 j hj (by omega);omega
   ·obtain ⟨j,hj,rfl⟩:=List.getElem_of_mem hy;have:=hj2 j hj (by omega);omega
  refine ae rfl (aa (af cL rfl) (ae rfl (aa (af bj rfl) (ae rfl (aa (af cG rfl) (ae rfl (aa (ar cy rfl (by exact (show _=some (Value.slice a.E s.es.length a.Ec) from (hk1.from_ ai.rfl_).rd 8 rfl))) ?_)))))));refine ae rfl (aa (bn dG rfl) (ae rfl (aa (bM rfl rfl) (aa (au (v:=.bool _) rfl rfl) (mvb rfl (wM (t:=105) rfl (fun Q65=>?_) (fun Q65=>?_)))))))
  ·refine ab rfl rfl (ab rfl rfl (ab rfl rfl (ab rfl rfl (aa (an (v:=.bool _) rfl rfl) (asb rfl (aj (ah (aA (bg (v:=.bool _) rfl rfl (⟨⟨_,rfl,fun h9=>?_⟩,hB⟩))))))))))
   have hh:m2≤20000∧s.es.length≤600∧X.length≤100:=by
    first
     |(exfalso;simp at h9;done)
     |(have h8:=dF_ h9;omega)
     |(simp only [decide_eq_false_iff_not] at h9;omega)
     |(simp at h9;omega)
   have hkl:k=a.L.length:=by omega
   refine ⟨⟨by omega,by omega,by omega,by omega,by omega,fun q hq=>?_⟩,hh.2.1,hh.2.2,⟨by omega,by omega⟩,fun y hy=>?_⟩
   ·rw [←h.r.r] at hq;obtain ⟨y,hy,rfl⟩:=List.mem_map.1 hq;obtain ⟨j,hj,rfl⟩:=List.getElem_of_mem hy;have:=hj1 j hj (by omega);omega
   ·obtain ⟨j,hj,rfl⟩:=List.getElem_of_mem hy;have:=hj2 j hj (by omega);omega
  refine ae rfl (aa (af dm rfl) (ae rfl (aa (ar dN rfl (by exact (show _=some (Value.slice LA X.length lc) from (hk1.from_ ai.rfl_).rd 22 rfl))) ?_)));refine ae rfl (aa (bn fa rfl) (ae rfl (aa (bM rfl rfl) (aa (au (v:=.bool _) rfl rfl) (asb rfl (aj (ah (aA (bg (v:=.bool _) rfl rfl (⟨⟨_,rfl,fun h9=>?_⟩,hB⟩))))))))))
  have hh:m2≤20000∧s.es.length≤600∧X.length≤100:=by
   first
    |(exfalso;simp at h9;done)
    |(have h8:=dF_ h9;omega)
    |(simp only [decide_eq_false_iff_not] at h9;omega)
    |(simp at h9;omega)
  have hkl:k=a.L.length:=by omega
  refine ⟨⟨by omega,by omega,by omega,by omega,by omega,fun q hq=>?_⟩,hh.2.1,hh.2.2,⟨by omega,by omega⟩,fun y hy=>?_⟩
  ·rw [←h.r.r] at hq;obtain ⟨y,hy,rfl⟩:=List.mem_map.1 hq;obtain ⟨j,hj,rfl⟩:=List.getElem_of_mem hy;have:=hj1 j hj (by omega);omega
  ·obtain ⟨j,hj,rfl⟩:=List.getElem_of_mem hy;have:=hj2 j hj (by omega);omega
def iY (k:Nat) (l:List Msg):Prop:=l.length≤k∧∀ m∈l,m.es.length≤16
theorem iY.nil {k:Nat}:iY k []:=⟨Nat.zero_le _,fun m hm=>by cases hm⟩
theorem aQ.chgT {w w':World} {tag:Nat→Nat} {s:Rf} {a:Ra} {U:Nat→Prop} (h:aQ w tag s a) (hC:Chg U w w') (hU:∀ q,q<w.heap.size→U q→tag q=8∨tag q=6∨∃ j,tag q=1000+2*j):aQ w' tag s a:=by
 have mv:∀ {d e s n cc:Nat} {A:Option Addr} {xs:List Value},StC d→w.ownsRow 0 e s (.slice A n cc) n xs∧Col tag d A→w'.ownsRow 0 e s (.slice A n cc) n xs∧Col tag d A:=fun hd h=>⟨db h.1 hC (fun k hk e=>by
  have h1:=h.2 k hk;have h8:=hd.eight;have h6:=hd.six;rcases hU k (cI h.1 k hk) e with e | e | ⟨j,e⟩
  ·omega
  ·omega
  ·have:=hd.even j;omega),h.2⟩
 exact ⟨fun hx=>mv (.inl (by decide)) (h.e hx),fun hx=>mv (.inl (by decide)) (h.v hx),fun hx=>mv (.inl (by decide)) (h.x hx),fun hx=>mv (.inl (by decide)) (h.m hx),fun hx=>mv (.inl (by decide)) (h.n hx),h.r,fun hx=>mv (.inl (by decide)) (h.q hx),fun i hi hx=>mv (.inr ⟨i,rfl⟩) (h.k i hi hx)⟩
theorem eQ.chgT {w w':World} {tag:Nat→Nat} {out:List Msg} {O:Option Addr} {oc:Nat} {L:List Msg} {U:Nat→Prop} (h:eQ w tag out O oc L) (hC:Chg U w w') (hU:∀ q,q<w.heap.size→U q→tag q=8∨StC (tag q)):eQ w' tag out O oc L:=by
 have mv:∀ {d e s n cc:Nat} {A:Option Addr} {xs:List Value},(d=6∨∃ j,d=1000+2*j)→w.ownsRow 0 e s (.slice A n cc) n xs∧Col tag d A→w'.ownsRow 0 e s (.slice A n cc) n xs∧Col tag d A:=fun hd h=>⟨db h.1 hC (fun k hk e=>by
  have h1:=h.2 k hk;rcases hU k (cI h.1 k hk) e with e | e
  ·rcases hd with hd | ⟨j,hd⟩ <;> omega
  ·rcases hd with hd | ⟨j,hd⟩
   ·have:=e.six;omega
   ·have:=e.even j;omega),h.2⟩
 exact ⟨(mv (.inl rfl) ⟨h.o,h.c⟩).1,h.l,fun j hj=>mv (.inr ⟨j,rfl⟩) (h.e j hj),h.c⟩
def UBs (z b4 b11:Nat):Nat→Prop:=fun q=>q=b11∨q=b4∨z≤q
theorem mn (s:Rf) (a:Ra) (w:World) (hrd:eD w s a) (hl:s.votes.length≤1000000∧s.next.length≤1000000∧s.mtch.length≤1000000∧s.sent.length≤1000000∧s.reads.length≤1000000∧∀ q∈s.reads,q.acks.length≤1000000) {b:Bool} (hm:gj s=b):Rt prog 30 [.agg (rfV s a).toArray] w fun v w'=>v=.bool b∧ai w w':=by
 subst hm;exact uS s a w hrd hl
theorem iq (i:Int) (n N:Nat) (w:World) (hn:0<n∧n≤1000) (h:wiN i n=N):Rt prog 31 [.int .i64 i,.int .i64 (n:Nat)] w fun v w'=>v=.int .i64 (N:Nat)∧w=w':=by
 subst h;exact ta i n w hn
theorem sz7 {s:Rf} (hl:s.votes.length≤1000000∧s.next.length≤1000000∧s.mtch.length≤1000000∧s.sent.length≤1000000∧s.reads.length≤1000000∧∀ q∈s.reads,q.acks.length≤1000000) (hel:s.es.length≤1000000):s.es.length≤1000000∧s.votes.length≤1000000∧s.next.length≤1000000∧s.mtch.length≤1000000∧s.sent.length≤1000000∧s.reads.length≤1000000∧∀ q∈s.reads,q.acks.length≤1000000:=⟨hel,hl⟩
theorem qh:aR prog 21=true:=by kernel_rfl
theorem e_:aR prog 22=true:=by kernel_rfl
theorem qg:aR prog 23=true:=by kernel_rfl
def wkA (k:Int):Rf:={ pL 1 1 1 with elapsed:=k }
def wkB (e r:Int):Rf:=⟨1,1,2,1,1,1,0,0,[⟨1,1,⟨#[]⟩⟩],⟨#[]⟩,1,e,10+bl (nx 1) 10,nx (nx 1),[],[1],[1],[0],r,[],⟨#[]⟩,0⟩
def wkR:Nat→Rf
 |0=>pL 1 1 1
 |k+1=>(gp (wkR k)).s
theorem u2:med [1]=1:=by
 have h:srt [1]=[1]:=List.perm_singleton.1 (mc [1]);unfold med;rw [h];rfl
theorem s9 (k:Int):(gY (wkA k)).s=wkB 0 0:=by
 rw [pZ (show (wkA k).term≠ea by show (0:Int)≠1099511627775;decide)];show (k7 ⟨dM (wkA k),[]⟩).s=_;unfold k7;rw [if_pos (show dJ (⟨dM (wkA k),[]⟩:Sp).s.nodes (⟨dM (wkA k),[]⟩:Sp).s.votes=true from (by decide:dJ 1 [1]=true))];unfold pP;rw [if_neg (show ¬ gr (⟨dM (wkA k),[]⟩:Sp).s=true from fun h=>Bool.noConfusion (show false=true from h))];show dd (Sp.all ⟨eC (dV (dM (wkA k))) ⟨#[]⟩,[]⟩).s=_;rw [mQ];show dd (eC (dV (dM (wkA k))) ⟨#[]⟩)=_;unfold dd;simp only;rw [show ek (eC (dV (dM (wkA k))) ⟨#[]⟩).mtch (eC (dV (dM (wkA k))) ⟨#[]⟩).id (bk (eC (dV (dM (wkA k))) ⟨#[]⟩))=[1] from rfl,u2];rfl
theorem uK {k:Int} (h:0≤k∧k≤20):gj (wkA k)=true:=by
 have hb:=ry 1;refine aM.2 ⟨?_,?_,rfl,?_,?_⟩
 ·unfold gC wkA pL gk zR;simp only;omega
 ·exact ⟨rfl,Int.le_refl 0,⟨Int.le_refl 0,Int.le_refl 0⟩,Nat.zero_le _,.inr rfl⟩
 ·exact (aY (show (0:Int)≠2 by decide)).2 rfl
 ·exact ⟨Nat.zero_le _,⟨Int.le_refl 0,z11⟩,.inr rfl⟩
theorem uJ {e r:Int} (he:0≤e∧e≤1) (hr:0≤r∧r≤20):gj (wkB e r)=true:=by
 have hb:=ry (nx 1);refine aM.2 ⟨?_,?_,rfl,?_,?_⟩
 ·unfold gC wkB;simp only;omega
 ·exact ⟨(by decide:cn 0 0 [⟨1,1,⟨#[]⟩⟩]=true),Int.le_refl 1,⟨(by decide:(0:Int)≤1),Int.le_refl 1⟩,Nat.zero_le _,.inr rfl⟩
 ·exact (aL rfl).2 ⟨⟨rfl,rfl,rfl,Nat.zero_le _⟩,⟨fun x hx=>by rw [List.mem_singleton.1 hx];exact ⟨Int.le_refl 1,(by decide:(1:Int)≤1+1)⟩,fun x hx=>by rw [List.mem_singleton.1 hx];exact ⟨(by decide:(0:Int)≤1),Int.le_refl 1⟩,fun x hx=>by rw [List.mem_singleton.1 hx];exact ⟨Int.le_refl 0,Int.le_refl 0⟩⟩,fun q hq=>by cases hq⟩
 ·exact ⟨Nat.zero_le _,⟨Int.le_refl 0,z11⟩,.inr rfl⟩
theorem s_:∀ k:Nat,k≤20→((k:Int)<10+bl 1 10∧wkR k=wkA k)∨(10+bl 1 10≤(k:Int)∧∃ e r:Int,(0≤e∧e≤1)∧(0≤r∧r≤k)∧wkR k=wkB e r)
 |0,_=>by
  have hb:=ry 1;exact .inl ⟨by show (0:Int)<_;omega,rfl⟩
 |k+1,hk=>by
  have hb:=ry 1;rcases s_ k (by omega) with ⟨h1,h2⟩ | ⟨h1,e,r,he,hr,h2⟩
  ·have ht:wkR (k+1)=(gp (wkA k)).s:=by rw [←h2];rfl
   have hm:min ((k:Int)+1) ea=((k+1:Nat):Int):=by unfold ea;omega
   have h3:gp (wkA k)=if 10+bl 1 10≤((k+1:Nat):Int) then gY (wkA ((k+1:Nat):Int)) else ⟨wkA ((k+1:Nat):Int),[]⟩:=by
    unfold gp;simp only;rw [if_neg (show ¬ (wkA k).role=2 by show ¬ (0:Int)=2;decide),show min ((wkA (k:Int)).elapsed+1) ea=((k+1:Nat):Int) from hm];rfl
   rw [ht,h3];by_cases h4:10+bl 1 10≤((k+1:Nat):Int)
   ·rw [if_pos h4,s9];exact .inr ⟨h4,0,0,⟨by omega,by omega⟩,⟨by omega,by omega⟩,rfl⟩
   ·rw [if_neg h4];exact .inl ⟨by omega,rfl⟩
  ·have ht:wkR (k+1)=(gp (wkB e r)).s:=by rw [←h2];rfl
   have hm:min (e+1) ea=e+1:=by unfold ea;omega
   have hm2:min (r+1) ea=r+1:=by unfold ea;omega
   have h3:(gp (wkB e r)).s=if 2≤e+1 then wkB 0 (r+1) else wkB (e+1) r:=by
    unfold gp;simp only;rw [if_pos (show (wkB e r).role=2 from rfl),show min ((wkB e r).elapsed+1) ea=e+1 from hm,show min ((wkB e r).round+1) ea=r+1 from hm2];split
    ·rw [mQ];rfl
    ·rfl
   rw [ht,h3];refine .inr ⟨by omega,?_⟩;split
   ·exact ⟨0,r+1,⟨by omega,by omega⟩,⟨by omega,by omega⟩,rfl⟩
   ·exact ⟨e+1,r,⟨by omega,by omega⟩,⟨by omega,by omega⟩,rfl⟩
theorem vL {k:Nat} (hk:k≤20):gj (wkR k)=true:=by
 rcases s_ k hk with ⟨_,h2⟩ | ⟨_,e,r,he,hr,h2⟩
 ·rw [h2];exact uK (by omega)
 ·rw [h2];exact uJ he (by omega)
theorem vM:(wkR 20).role=2∧(wkR 20).term=1∧(wkR 20).commit=1:=by
 have hb:=ry 1;rcases s_ 20 (Nat.le_refl _) with ⟨h1,_⟩ | ⟨_,e,r,_,_,h2⟩
 ·omega
 ·rw [h2];exact ⟨rfl,rfl,rfl⟩
theorem RfF.sizes {s:Rf} (h:RfF s):(s.votes.length≤1000000∧s.next.length≤1000000∧s.mtch.length≤1000000∧s.sent.length≤1000000∧s.reads.length≤1000000∧∀ q∈s.reads,q.acks.length≤1000000)∧s.es.length≤1000000:=by
 have h1:=h.vl;have h2:=h.n
 have h3:fq s≤7:=by
  by_cases hr:s.role=2
  ·rw [ik hr];omega
  ·rw [lS hr];omega
 have h4:=h.nx.1;have h5:=h.ma.1;have h6:=h.se.1;have h7:=h.rl;have h8:=h.last;refine ⟨⟨by omega,by omega,by omega,by omega,by omega,fun q hq=>?_⟩,by omega⟩;have h9:=(bY.1 (h.rd q hq)).2.2.2;have h10:=pK h9;have h11:=kL q.acks 0 s.nodes h10.2 fun x hx=>⟨by have:=(h10.1 x hx).1;omega,(h10.1 x hx).2⟩
 omega
theorem wZ {w:World} {id n seed:Int}:eD w (pL id n seed) a0:=aQ.rd (aQ.same (s':=pL id n seed) (aQ.zero (w:=w) (tag:=fun _=>8)) rfl rfl rfl rfl rfl rfl)
theorem v_ (w:World):Rt prog 21 [.int .i64 1,.int .i64 1,.int .u64 1] w fun v w'=>v=.tuple #[.agg (rfV (pL 1 1 1) a0).toArray,.int .i64 0]∧ai w w':=
 (uZ 1 1 1 w).mono fun v w' h=>⟨h.1.elim (fun e=>e.2) (fun e=>absurd (by unfold lC;omega) e.1),h.2⟩
theorem gT (e:Int) (w:World) :
 Rt prog 22 [.int .i64 e] w (fun v w'=>v=.int .i64 e∧w=w'):=by
 refine enter (n:=4) Tryz.func22 rfl rfl rfl (ak (ag (asi rfl (aj (ah (ak (ag (mvi rfl (asi rfl (aj (ah (aA (bg (v:=.int _ _) rfl rfl (⟨rfl,rfl⟩))))))))))))))
theorem ph (w:World) :
 Rt prog 18 [] w (fun v w'=>v=.bool true∧ai w w'):=by
 refine enter (n:=37) Tryz.func18 rfl rfl rfl (ak (ag (asb rfl (aj (ah (ak (ag (aB qh (v_ _) ?_))))))));rintro v5 w1 ⟨rfl,E5⟩;refine mvt rfl (aa (aS rfl rfl) (aa (aS rfl rfl) ?_));have hz1:=((ai.rfl_.next E5)).size;refine bG bS ?_;intro b1 w2 E1 hb1 hk1;have hg1:w.heap.size≤b1:=by omega
 refine bP (vs:=[_,_,_,_,_,_,_,_,_,_,_,_,_,_,_,_,_,_,_,_,_,_]) av rfl rfl (by simp [Value.oneCell']) (hk1) rfl ?_;intro w3 O1 P1;refine asi rfl (aj (ah (ak (ak (ag (mvi rfl (aB e_ (gT _ _) ?_)))))));rintro v9 w4 ⟨rfl,rfl⟩;refine aa (dI (dr rfl rfl) rfl) (aj (ah (bF rfl (aP (ah (ak (ak (ag (asi rfl (aj (ah (aZ (cj (G:=Nat×Ra) [0,11,12,13,14,15,16,17,18,19,20,21,22,23] (fun (k,_)=>[(2,.int .i64 0),(3,.int .i64 (k:Nat))]) (fun (k,a) w'=>k≤20∧Blk w' b1 29 (rfV (wkR k) a).toArray∧eD w' (wkR k) a∧ai w w') (fun (k,_)=>20-k) ((0,a0)) ⟨rfl,rfl,trivial⟩ ?_ ?_)))))))))))))
 ·exact ⟨Nat.zero_le _,P1.from_ ai.rfl_,wZ,(((ai.rfl_.next E5).next E1).only O1 (hg1))⟩
 rintro ⟨k,a⟩ ρ5 w5 ⟨hk,hkb,hrd,hB⟩;refine ak (ak (ag (mvi rfl (aa (bH rfl rfl) (aj (ah (xD rfl (fun Q6=>?_) (fun Q6=>?_))))))))
 ·have hmk:=vL (k:=k) (by omega);have hszs:=(jn hmk).sizes;refine aP (ah (ak (aZ (ak (ag (aa (aH (cs:=rfV (wkR k) a) aG av rfl ((hkb.from_ ai.rfl_).whole)) ?_))))));have hM17:ai _ w5:=ai.rfl_;have hlt1:b1<(w5).heap.size:=(hkb.from_ ai.rfl_).lt;refine aB qg (td (wkR k) a _ (hrd.from_ ai.rfl_) hszs.1 hszs.2 hmk) ?_;rintro v17 w7 ⟨⟨tag9,a9,O9,oc9,L9,rfl,hf9,hm9,ht9⟩,E17⟩;refine mvt rfl (aa (aS rfl rfl) (aa (aS rfl rfl) (aa (aS rfl rfl) (bP (vs:=[_,_,_,_,_,_,_,_,_,_,_,_,_,_,_,_,_,_,_,_,_,_]) av rfl rfl (by simp [Value.oneCell']) (((hkb.from_ hM17).from_ E17)) rfl ?_))));intro w8 O7 P7;have hrd9:eD w8 (wkR (k+1)) a9:=aQ.rd (bB.chg8 hf9 (O7.toChg rfl) (ht9 b1 hlt1));refine asi rfl (aj (ah (ak (ag (mvi rfl (aB e_ (gT _ _) ?_))))));rintro v22 w9 ⟨rfl,rfl⟩;refine aa (dI (dr rfl rfl) rfl) (aj (ah (bF rfl (aP (bJ (ah (ag (mvi rfl (aa (bI rfl rfl (by omega)) (asi rfl (aj ?_)))))))))));refine cD ((k+1,a9)) ⟨(by first | rfl | (refine bC ?_;omega)),(by first | rfl | (refine bC ?_;omega)),trivial⟩ (by (iterate 31 refine bR rfl ?_);exact cg) ⟨?_,?_⟩
  ·exact ⟨by omega,P7.from_ ai.rfl_,hrd9.from_ ai.rfl_,((hB.next E17).only O7 (hg1))⟩
  ·show 20-(k+1)<20-k;omega
 have h20:k=20:=by omega
 have hwe:=vM;rw [←h20] at hwe;refine b0 (bf (bf (bE (ah (ak (ag (aa (af cT rfl) (aa (ar aq rfl (by exact (show _=some (Value.int .i64 (wkR k).role) from (hkb.from_ ai.rfl_).rd 2 rfl))) ?_))))))));refine aa (du (bu rfl rfl) (by rw [hwe.1];rfl)) ?_;refine mvb rfl (ae rfl (aa (af cJ rfl) (ae rfl (aa (ar aq rfl (by exact (show _=some (Value.int .i64 (wkR k).term) from (hkb.from_ ai.rfl_).rd 3 rfl))) ?_))));refine ae rfl (aa (du (bu rfl rfl) (by rw [hwe.2.1];rfl)) ?_);refine aa (an (v:=.bool _) rfl rfl) (mvb rfl (ae rfl (aa (af cu rfl) (ae rfl (aa (ar aq rfl (by exact (show _=some (Value.int .i64 (wkR k).commit) from (hkb.from_ ai.rfl_).rd 10 rfl))) ?_)))));refine ae rfl (aa (du (bu rfl rfl) (by rw [hwe.2.2];rfl)) ?_);refine aa (an (v:=.bool _) rfl rfl) (asb rfl (aj (ah (aA (bg (v:=.bool _) rfl rfl (⟨rfl,hB⟩))))))
theorem uG:zR.votes.length≤1000000∧zR.next.length≤1000000∧zR.mtch.length≤1000000∧zR.sent.length≤1000000∧zR.reads.length≤1000000∧∀ q∈zR.reads,q.acks.length≤1000000:=⟨Nat.zero_le _,Nat.zero_le _,Nat.zero_le _,Nat.zero_le _,Nat.zero_le _,fun q hq=>by cases hq⟩
theorem gu:zR.es.length≤1000000∧zR.votes.length≤1000000∧zR.next.length≤1000000∧zR.mtch.length≤1000000∧zR.sent.length≤1000000∧zR.reads.length≤1000000∧∀ q∈zR.reads,q.acks.length≤1000000:=⟨Nat.zero_le _,uG⟩
theorem kt (w:World):Rt prog 50 [.slice none 0 0,.slice none 0 0] w fun v w'=>v=.bool true∧ai w w':=
 ue none none 0 0 0 [] [] w (fun h=>absurd h (Nat.lt_irrefl _)) (fun h=>absurd h (Nat.lt_irrefl _)) rfl rfl rfl (fun x hx=>by cases hx) (fun x hx=>by cases hx) (fun x hx=>by cases hx) (Nat.zero_le _)
theorem gL (tag:Nat→Nat) (w:World):Rt prog 52 [.slice none 0 0] w fun v w'=>v=.tuple #[]∧Chg (fun q=>tag q=6∨∃ i,tag q=1000+2*i) w w':=
 ow tag [] none 0 [] w ⟨World.ownsRow_nil _ _ _ _,rfl,fun j hj=>absurd hj (Nat.not_lt_zero _),Col.none⟩ (Nat.zero_le _) (fun x hx=>by cases hx)
theorem jW {α:Type} (L:List α) (n:Nat) (h:n<L.length):L.take (n+1)=L.take n++[L[n]]:=List.take_succ_eq_append_getElem h
theorem vC {α:Type} (p:α→Bool) (L:List α):∀ n,n≤L.length→∃ φ:Nat→Nat,(∀ c,(∀ i,i<n→c≠1001+2*i)→φ c=c)∧
 (∀ j (h:j<((L.take n).filter fun x=> !p x).length),∃ i,∃ hi:i<L.length,i<n∧((L.take n).filter fun x=> !p x)[j]=L[i]∧φ (1001+2*i)=1001+2*j)∧
 ∀ j (h:j<((L.take n).filter p).length),∃ i,∃ hi:i<L.length,i<n∧((L.take n).filter p)[j]=L[i]∧φ (1001+2*i)=1000+2*j
 |0,_=>⟨id,fun _ _=>rfl,fun j h=>absurd h (by simp),fun j h=>absurd h (by simp)⟩
 |n+1,hn=>by
  obtain ⟨φ,h0,h1,h2⟩:=vC p L n (by omega);have e:=jW L n (by omega)
  have sn:∀ (F:List α) (q:Nat→Nat) (d:Nat),(∀ j (h:j<F.length),∃ i,∃ hi:i<L.length,i<n∧F[j]=L[i]∧φ (1001+2*i)=q j)→d=q F.length→∀ j (h:j<(F++[L[n]]).length),∃ i,∃ hi:i<L.length,i<n+1∧(F++[L[n]])[j]=L[i]∧(if 1001+2*i=1001+2*n then d else φ (1001+2*i))=q j:=by
   intro F q d hF hd j h;rcases Nat.lt_or_ge j F.length with hj | hj
   ·obtain ⟨i,hi,hin,ha,hb⟩:=hF j hj;exact ⟨i,hi,by omega,by rw [List.getElem_append_left hj];exact ha,by rw [if_neg (by omega)];exact hb⟩
   ·have hj2:j=F.length:=by rw [List.length_append,List.length_singleton] at h;omega
    subst hj2;exact ⟨n,by omega,by omega,by simp,by rw [if_pos rfl];exact hd⟩
  have ol:∀ (F:List α) (q:Nat→Nat) (d:Nat),(∀ j (h:j<F.length),∃ i,∃ hi:i<L.length,i<n∧F[j]=L[i]∧φ (1001+2*i)=q j)→∀ j (h:j<F.length),∃ i,∃ hi:i<L.length,i<n+1∧F[j]=L[i]∧(if 1001+2*i=1001+2*n then d else φ (1001+2*i))=q j:=by
   intro F q d hF j h;obtain ⟨i,hi,hin,ha,hb⟩:=hF j h;exact ⟨i,hi,by omega,ha,by rw [if_neg (by omega)];exact hb⟩
  have hx:∀ (d:Nat) (c:Nat),(∀ i,i<n+1→c≠1001+2*i)→(if c=1001+2*n then d else φ c)=c:=fun d c hc=>by
   rw [if_neg (hc n (Nat.lt_succ_self n))];exact h0 c fun i hi=>hc i (by omega)
  rw [e,List.filter_append,List.filter_append];cases hp:p L[n] with
  |true=>
   have e1:[L[n]].filter (fun x=> !p x)=[]:=by simp [hp]
   have e2:[L[n]].filter p=[L[n]]:=by simp [hp]
   rw [e1,e2,List.append_nil];exact ⟨fun c=>if c=1001+2*n then 1000+2*((L.take n).filter p).length else φ c,hx _,ol _ (fun j=>1001+2*j) _ h1,sn _ (fun j=>1000+2*j) _ h2 rfl⟩
  |false=>
   have e1:[L[n]].filter (fun x=> !p x)=[L[n]]:=by simp [hp]
   have e2:[L[n]].filter p=[]:=by simp [hp]
   rw [e1,e2,List.append_nil];exact ⟨fun c=>if c=1001+2*n then 1001+2*((L.take n).filter fun x=> !p x).length else φ c,hx _,sn _ (fun j=>1001+2*j) _ h1 rfl,ol _ (fun j=>1000+2*j) _ h2⟩
theorem aQ.pick {w:World} {tag:Nat→Nat} {s:Rf} {a:Ra} (h:aQ w tag s a) (p:Rd×Option Addr×Nat→Bool):∃ tag',bB 5 w tag' s { a with L:=a.L.filter fun x=> !p x }∧
 (∀ j (hj:j<(a.L.filter p).length),w.ownsRow 0 3 1 (.slice (a.L.filter p)[j].2.1 (a.L.filter p)[j].1.acks.length (a.L.filter p)[j].2.2) (a.L.filter p)[j].1.acks.length ((a.L.filter p)[j].1.acks.map iV)∧Col tag' (1000+2*j) (a.L.filter p)[j].2.1)∧
 ∀ k,tag k≤8→tag' k=tag k:=by
 obtain ⟨φ,h0,h1,h2⟩:=vC p a.L a.L.length (Nat.le_refl _);rw [List.take_length] at h1 h2
 have re:∀ {c:Nat} {A:Option Addr},c≤8→Col tag c A→Col (fun k=>φ (tag k)) c A:=fun hc hA k hk=>by
  show φ (tag k)=_;rw [hA k hk];exact h0 _ fun i _=>by omega
 have mv:∀ {c d:Nat} {A:Option Addr},φ c=d→Col tag c A→Col (fun k=>φ (tag k)) d A:=fun hc hA k hk=>by
  show φ (tag k)=_;rw [hA k hk];exact hc
 refine ⟨fun k=>φ (tag k),⟨fun _=>⟨(h.e (by decide)).1,re (by decide) (h.e (by decide)).2⟩,fun _=>⟨(h.v (by decide)).1,re (by decide) (h.v (by decide)).2⟩,fun _=>⟨(h.x (by decide)).1,re (by decide) (h.x (by decide)).2⟩,fun _=>⟨(h.m (by decide)).1,re (by decide) (h.m (by decide)).2⟩,fun _=>⟨(h.n (by decide)).1,re (by decide) (h.n (by decide)).2⟩,fun e=>absurd rfl e,fun e=>absurd rfl e,fun j hj _=>?_⟩,fun j hj=>?_,fun k hk=>h0 _ fun i _=>by omega⟩
 ·obtain ⟨i,hi,_,ha,hb⟩:=h1 j hj;have h9:=h.k i hi (by omega);rw [←ha] at h9;exact ⟨h9.1,mv hb h9.2⟩
 ·obtain ⟨i,hi,_,ha,hb⟩:=h2 j hj;have h9:=h.k i hi (by omega);rw [←ha] at h9;exact ⟨h9.1,mv hb h9.2⟩
structure il (w:World) (tag:Nat→Nat) (l:List Rd) (A:Option Addr) (c:Nat) (N:List (Rd×Option Addr×Nat)):Prop where
 q:w.ownsRow 0 54 4 (.slice A N.length c) N.length (N.flatMap rdV)
 r:N.map (fun q=>q.1)=l
 k:∀ (j:Nat) (h:j<N.length),w.ownsRow 0 3 1 (.slice N[j].2.1 N[j].1.acks.length N[j].2.2) N[j].1.acks.length (N[j].1.acks.map iV)∧Col tag (1000+2*j) N[j].2.1
 c:Col tag 6 A
section
variable {w w':World} {tag:Nat→Nat} {l:List Rd} {A:Option Addr} {c:Nat} {N:List (Rd×Option Addr×Nat)}
theorem il.from_ (h:il w tag l A c N) (hF:ai w w'):il w' tag l A c N:=⟨h.q.kept_from hF,h.r,fun j hj=>⟨(h.k j hj).1.kept_from hF,(h.k j hj).2⟩,h.c⟩
theorem il.chgT {U:Nat→Prop} (h:il w tag l A c N) (hC:Chg U w w') (hU:∀ q,q<w.heap.size→U q→tag q=8∨StC (tag q)):il w' tag l A c N:=by
 have mv:∀ {d e s n cc:Nat} {A:Option Addr} {xs:List Value},(d=6∨∃ j,d=1000+2*j)→w.ownsRow 0 e s (.slice A n cc) n xs∧Col tag d A→w'.ownsRow 0 e s (.slice A n cc) n xs∧Col tag d A:=fun hd h=>⟨db h.1 hC (fun k hk e=>by
  have h1:=h.2 k hk;rcases hU k (cI h.1 k hk) e with e | e
  ·rcases hd with hd | ⟨j,hd⟩ <;> omega
  ·rcases hd with hd | ⟨j,hd⟩
   ·have:=e.six;omega
   ·have:=e.even j;omega),h.2⟩
 exact ⟨(mv (.inl rfl) ⟨h.q,h.c⟩).1,h.r,fun j hj=>mv (.inr ⟨j,rfl⟩) (h.k j hj),h.c⟩
structure xK (w:World) (l:List Rd) (A:Option Addr) (N:List (Rd×Option Addr×Nat)):Prop where
 q:fP 4 rdV w A N
 r:N.map (fun q=>q.1)=l
 k:∀ q∈N,IR w q.2.1 q.2.2 q.1.acks
theorem il.rd (h:il w tag l A c N):xK w l A N:=⟨(fP.own fw (by decide) h.q).2,h.r,fun q hq=>by
 obtain ⟨i,hi,rfl⟩:=List.getElem_of_mem hq;exact jm (h.k i hi).1⟩
end
def Sz7 (s:Rf):Prop:=s.es.length≤1000000∧s.votes.length≤1000000∧s.next.length≤1000000∧s.mtch.length≤1000000∧s.sent.length≤1000000∧s.reads.length≤1000000∧∀ q∈s.reads,q.acks.length≤1000000
theorem Sz7.ready {s:Rf} (h:Sz7 s):Sz7 (dc s).1:=by
 obtain ⟨h0,h1,h2,h3,h4,h5,h6⟩:=h;exact ⟨h0,h1,h2,h3,h4,Nat.le_trans (List.length_filter_le _ _) h5,fun q hq=>h6 q (List.mem_filter.1 hq).1⟩
theorem Sz7.compact {s:Rf} (h:Sz7 s) (i:Int) (d:ByteArray):Sz7 (cW s i d):=by
 obtain ⟨h0,h1,h2,h3,h4,h5,h6⟩:=h;exact ⟨by show (s.es.drop _).length≤_;rw [List.length_drop];omega,h1,h2,h3,by show (s.sent.map _).length≤_;rw [List.length_map];exact h4,h5,h6⟩
end Go.Proofs.YtkpooenofjdpmaaGreat
namespace Go.Proofs.YtkpooenofjdpmaaGreat
open Go.Proofs.Tryz (prog)
open Go.RowKit
open Go.ChangeShapes Go.WideShapes Go.ChangeAt
theorem jU:aR prog 81=true:=by kernel_rfl
theorem er:aR prog 16=true:=by kernel_rfl
theorem ns:aR prog 80=true:=by kernel_rfl
def kd (s:Rf) (i:Int) (d:ByteArray):Prop:=(s.b<i∧i≤s.commit∧i≤1099511625728)∧d.size≤524288
instance (s:Rf) (i:Int) (d:ByteArray):Decidable (kd s i d):=by unfold kd;exact inferInstance
theorem uH (m:Nat):(Builtin.zeroCells (Value.int .i64 0).cells m).toList=List.replicate m (.int .i64 0):=by
 have h1:(Value.int .i64 0).cells=#[.int .i64 0]:=rfl;rw [h1];refine List.ext_getElem (by simp [Builtin.zeroCells]) fun k h2 h3=>?_
 simp [Builtin.zeroCells,Nat.mod_one]
section
variable {P:Program} {ops:Array Oper} {Q:Exit→Act→World→Prop} {rest:List Oper} {n:Fr} {L:List (Nat×Value)} {w w0 wa:World} {Z:Nat→Prop} {ty:TypeId} {pos:String} {after:Array Edge} {t:TypeId} {s x y:Operand} {T g:Nat} {p:Sp}
theorem sv {base m c:Nat} {A:Option Addr} {xs:List Value} {e by_:Nat} (hq:iA P t=some (e,1,by_,.int .i64 0)) (hs:ev n L s=.slice A m c) (ho:w.ownsRow base e 1 (.slice A m c) m xs)
 (k:∀ w',(∀ U:Nat→Prop,(∀ q,A.map (·.block)=some q→U q)→Chg U w w')→w'.ownsRow base e 1 (.slice A m c) m (List.replicate m (.int .i64 0))→St P ops Q rest n L w') :
 St P ops Q (⟨none,.call { callee:=.builtin .clear,args:=#[s],argTypes:=#[t] },ty,pos,after,none⟩::rest) n L w:=by
 obtain ⟨i,hu,hi,hsz,_,hz⟩:=mD hq;rcases Nat.eq_zero_or_pos m with h0 | h0
 ·subst h0;have hx:xs=[]:=List.eq_nil_of_length_eq_zero (by have:=ho.1;omega);subst hx;refine rU (w':=w) (v:=.tuple #[]) (fun dst ty pos after gg=>?_) (k w (fun U _=>Chg.rfl_) ho);unfold execOp;cases A <;> simp [resolve,invoke,builtin,hs,Builtin.clear_,run_underlying hu]
 ·obtain ⟨b,cur,rfl,hg,hb,h1,h2,h3,h4⟩:=kp ho h0;obtain ⟨w',hst,hO,hbl⟩:=sD (P:=P) (A:=some ⟨b,0,none⟩) (o:=0) (vs:=List.replicate m (Value.int .i64 0)) (fun _=>rfl) hb (by rw [List.length_replicate];omega) (fun v hv=>by rw [List.eq_of_mem_replicate hv];rfl);have hzv:(zeroValue e).run P w=.ok (.int .i64 0) w:=by simp [zeroValue,typeInfo,hi,hz]
  refine rU (w':=w') (v:=.tuple #[]) (fun dst ty pos after gg=>?_) (k w' (fun U hU=>hO.toChg (hU b rfl)) (oH hg hbl h1 h2 (by rw [pI _ _ _ (by rw [List.length_replicate];omega)];exact h3) (by rw [nG _ _ _ _ (by rw [List.length_replicate];omega) (by omega)];exact mx _ _ (by rw [List.length_replicate,List.length_take];omega))));have hzc:Builtin.zeroCells (Value.int .i64 0).cells m=(List.replicate m (Value.int .i64 0)).toArray:=by rw [←uH]
  unfold execOp;obtain ⟨k,rfl⟩:∃ k,m=k+1:=⟨m-1,by omega⟩
  simp_all [resolve,invoke,builtin,Builtin.clear_,run_underlying hu]
theorem qH {b t9:Int} {E:Option Addr} {n9 c:Nat} {es:List Ent} (hn:n9=es.length) (ht:dH P t=some 3) (hx:ev n L x=.pointer (some ⟨g,6,none⟩)) (hy:ev n L y=.agg #[.int .i64 b,.int .i64 t9,.slice E n9 c]) (h:bN w0 Z wa T g p) (hF:ai wa w) (ho:w.ownsRow wa.heap.size 99 3 (.slice E n9 c) n9 (dL es))
 (kk:∀ w',bN w0 Z w' T g ⟨{ p.s with b:=b,t:=t9,es:=es },p.out⟩→St P ops Q rest n L w'):St P ops Q (⟨none,.store t x y,ty,pos,after,none⟩::rest) n L w:=by
 obtain ⟨tag,a,O,oc,L1,hs⟩:=h.ex;exact jH hn ht hx hy (hs.b.from_ hF) fun w' o hb=>kk w' ((h.put hs (ai.toChg hF) (.inl (by decide)) ((hs.f.but (c:=0) (ai.toChg hF)).log b t9 hn (d_ ho (Nat.zero_le _)) (fun q hq=>cN (dt ho q hq).1)) (o.toChg rfl) hb).2)
theorem ou {e by_:Nat} (he:e=3) (hq:iA P t=some (e,1,by_,.int .i64 0)) {tag:Nat→Nat} {a:Ra} {O:Option Addr} {oc:Nat} {L1:List Msg} (h:bN w0 Z w T g p) (hs:gm w Z T g tag p a O oc L1) (hv:ev n L s=.slice a.S p.s.sent.length a.Sc)
 (kk:∀ w',bN w0 Z w' T g ⟨{ p.s with sent:=p.s.sent.map fun _=>0 },p.out⟩→St P ops Q rest n L w'):St P ops Q (⟨none,.call { callee:=.builtin .clear,args:=#[s],argTypes:=#[t] },ty,pos,after,none⟩::rest) n L w:=by
 subst he;refine sv hq hv (hs.f.n (by decide)).1 fun w' hC ho=>kk w' ?_
 have hC4:=hC (fun k=>tag k=4) (hs.f.n (by decide)).2
 have e1:List.replicate p.s.sent.length (Value.int .i64 0)=(p.s.sent.map fun _=>(0:Int)).map iV:=by
  rw [List.map_map];exact List.map_const'.symm
 rw [e1] at ho
 have hb:Blk w' g T (rfV { p.s with sent:=p.s.sent.map fun _=>0 } a++[Value.slice O L1.length oc]).toArray:=by
  have h9:=hs.b.chg hC4 (fun e=>by rw [hs.gc] at e;cases e)
  have e9:rfV { p.s with sent:=p.s.sent.map fun _=>0 } a=rfV p.s a:=by
   unfold rfV;simp only [List.length_map]
  rw [e9];exact h9
 exact (h.put hs hC4 (.inl (by decide)) ((hs.f.but hC4).sent (l:=p.s.sent.map fun _=>0) (List.length_map _).symm ho (fun q hq=>by rw [bQ (cI (hs.f.n (by decide)).1 q hq)];exact (hs.f.n (by decide)).2 q hq)) (Chg.rfl_ (U:=fun k=>k=g)) hb).2
end
theorem ur {s:Rf} (hF:RfF s) (i:Int) (d:ByteArray) (hc:kd s i d) (E:Option Addr) (c:Nat) (w:World) (h:cB w (.slice E s.es.length c) s.es) :
 Rt prog 81 [.agg #[.int .i64 s.b,.int .i64 s.t,.slice E s.es.length c],.int .i64 i] w fun v w'=>(∃ A' c',v=.tuple #[.agg #[.int .i64 i,.int .i64 (dp s.b s.t s.es i),.slice A' (s.es.drop (i-s.b).toNat).length c'],.int .i64 0]∧w'.ownsRow w.heap.size 99 3 (.slice A' (s.es.drop (i-s.b).toNat).length c') (s.es.drop (i-s.b).toNat).length (dL (s.es.drop (i-s.b).toNat)))∧ai w w':=
 (mM s.b s.t i _ s.es w h).mono fun v w' ⟨L,hv,hg,hF'⟩=>by
  have hco:=hF.co;have h1:=hc.1
  have h0:iX s.b s.t s.es i=0:=by
   unfold iX;rw [if_pos hF.lg,if_pos];have:cV s.b s.es=bk s:=rfl;omega
  rw [h0] at hv hg;obtain ⟨A',c',rfl,ho⟩:=hg.2 rfl;exact ⟨⟨A',c',hv,ho⟩,hF'⟩
theorem p8 {s:Rf} (hF:RfF s) (i:Int) (hc:¬ (s.b<i∧i≤1099511625728)) (E:Option Addr) (c:Nat) (w:World) (h:cB w (.slice E s.es.length c) s.es) :
 Rt prog 81 [.agg #[.int .i64 s.b,.int .i64 s.t,.slice E s.es.length c],.int .i64 i] w fun v w'=>v=.tuple #[.agg #[.int .i64 0,.int .i64 0,.slice none 0 0],.int .i64 1]∧ai w w':=
 (mM s.b s.t i _ s.es w h).mono fun v w' ⟨L,hv,hg,hF'⟩=>by
  have h0:iX s.b s.t s.es i=1:=by
   unfold iX;rw [if_pos hF.lg,if_neg];omega
  rw [h0] at hv hg;have:=hg.1 (by decide);subst this;exact ⟨hv,hF'⟩
theorem p7 (s:Rf) (a:Ra) (i:Int) (d:ByteArray) (w:World) (hrd:eD w s a) (hl:s.votes.length≤1000000∧s.next.length≤1000000∧s.mtch.length≤1000000∧s.sent.length≤1000000∧s.reads.length≤1000000∧∀ q∈s.reads,q.acks.length≤1000000) (hel:s.es.length≤1000000) (hm:gj s=false) :
 Rt prog 37 [.agg (rfV s a).toArray,.int .i64 i,.string d] w (fun v w'=>v=.tuple #[.agg (rfV zR a0).toArray,.int .i64 1]∧ai w w'):=by
 refine enter (n:=71) Tryz.func37 rfl rfl rfl (ak (ag (cC (v:=.agg _) rfl ?_)));intro b3 w1 E3 hb3 hk3;refine bG bS ?_;intro b6 w2 E6 hb6 hk6;have hg6:w.heap.size≤b6:=by rw [hb6];exact ((ai.rfl_.next E3)).size
 refine asi rfl (aj (ah (ak (ag (aa (aH (cs:=rfV s a) aG av rfl (((hk3.from_ E6).from_ ai.rfl_).whole)) (aB gH (qd s a _ (hrd.from_ ((ai.rfl_.next E3).next E6)) hl hel hm) ?_))))));rintro v13 w3 ⟨rfl,E13⟩;refine mvt rfl (aa (aS rfl rfl) (aa (aS rfl rfl) (asp rfl (asi rfl (aj (ah (ak (ak (ag (mvi rfl (aa (du (dr rfl rfl) rfl) (mvb rfl ?_))))))))))));refine ab rfl rfl (ab rfl rfl (ab rfl rfl (ab rfl rfl (ab rfl rfl (ab rfl rfl (ab rfl rfl (ab rfl rfl (aa (an (v:=.bool _) rfl rfl) ?_))))))));refine mvb rfl (ab rfl rfl (ab rfl rfl (ab rfl rfl (aa (an (v:=.bool _) rfl rfl) (aj (ah (aJ rfl (ak (ag (aa (cA (l:=[]) (dE)) ?_))))))))));refine bP (vs:=[_,_,_,_,_,_,_,_,_,_,_,_,_,_,_,_,_,_,_,_,_,_]) av rfl rfl (by simp [Value.oneCell']) ((hk6.from_ (ai.rfl_.next E13))) rfl ?_;intro w4 O3 P3;refine asi rfl (aj (ah (aA (ay (fW rfl (cU (cs:=[_,_,_,_,_,_,_,_,_,_,_,_,_,_,_,_,_,_,_,_,_,_]) aG av rfl (by exact P3.whole)) (ed (v:=.int _ _) rfl) ?_)))));exact ⟨rfl,((((ai.rfl_.next E3).next E6).next E13).only O3 (hg6))⟩
theorem oS (s:Rf) (a:Ra) (i:Int) (d:ByteArray) (w:World) (hrd:eD w s a) (hl:s.votes.length≤1000000∧s.next.length≤1000000∧s.mtch.length≤1000000∧s.sent.length≤1000000∧s.reads.length≤1000000∧∀ q∈s.reads,q.acks.length≤1000000) (hel:s.es.length≤1000000) (hm:gj s=true) (hc:¬ kd s i d) :
 Rt prog 37 [.agg (rfV s a).toArray,.int .i64 i,.string d] w (fun v w'=>v=.tuple #[.agg (rfV zR a0).toArray,.int .i64 1]∧ai w w'):=by
 have hF:=jn hm;have hc9:¬ ((s.b<i∧i≤s.commit∧i≤1099511625728)∧d.size≤524288):=hc;refine enter (n:=71) Tryz.func37 rfl rfl rfl (ak (ag (cC (v:=.agg _) rfl ?_)));intro b3 w1 E3 hb3 hk3;refine bG bS ?_;intro b6 w2 E6 hb6 hk6;have hg6:w.heap.size≤b6:=by rw [hb6];exact ((ai.rfl_.next E3)).size
 refine asi rfl (aj (ah (ak (ag (aa (aH (cs:=rfV s a) aG av rfl (((hk3.from_ E6).from_ ai.rfl_).whole)) ?_)))));have hB9:ai w w2:=((ai.rfl_.next E3).next E6);have hk6b:=hk6.from_ ai.rfl_;have hlt6:=hk6b.lt;obtain ⟨wb,hw9⟩:∃ x,x=w2:=⟨_,rfl⟩;obtain ⟨Z,hZ⟩:∃ Z:Nat→Prop,Z=fun k=>k<wb.heap.size:=⟨_,rfl⟩
 refine aB gH (kv s a _ (hrd.from_ ((ai.rfl_.next E3).next E6)) hl hel hm) ?_;rintro v13 w3 ⟨g,rfl,h9⟩;rw [←hw9] at hB9 hk6b hlt6;rw [←hw9,←hZ] at h9;have stB:∀ {w':World} {p:Sp},bN wb Z w' 96 g p→ai w w':=fun h=>hB9.next (fp (by rw [hZ] at h;exact h))
 have hz6:Z b6:=by rw [hZ];exact hlt6
 have hzw:∀ k,k<w.heap.size→Z k:=fun k hk=>by rw [hZ];exact Nat.lt_of_lt_of_le hk hB9.size
 obtain ⟨tag9,a9,O9,oc9,L9,hs9⟩:=h9.ex;have he9:=hs9.f.rd.e;refine mvt rfl (aa (aS rfl rfl) (aa (aS rfl rfl) (asp rfl (asi rfl (aj (ah (ak (ak (ag (mvi rfl (aa (dI (dr rfl rfl) rfl) (mvb rfl ?_))))))))))));refine ae rfl (mvi rfl (ae rfl (mvp rfl (ae rfl (aa (aE rfl) (ae rfl (aa (af aK rfl) (ae rfl ?_))))))));refine aa (af aC rfl) (ae rfl (aa (af cu rfl) (ae rfl (aa (ar aq rfl (by exact (show _=some (Value.int .i64 s.commit) from da (hs9.b.from_ ai.rfl_) 10 rfl))) ?_))));refine ae rfl (aa (bM rfl rfl) (aa (au (v:=.bool _) rfl rfl) (mvb rfl (wM (t:=28) rfl (fun Q4=>?_) (fun Q4=>?_)))))
 ·refine ab rfl rfl (ab rfl rfl (ab rfl rfl (aa (an (v:=.bool _) rfl rfl) (aj (ah (aJ rfl (ak (ag (aa (cA (l:=[]) (dE)) (bP (vs:=[_,_,_,_,_,_,_,_,_,_,_,_,_,_,_,_,_,_,_,_,_,_]) av rfl rfl (by simp [Value.oneCell']) (((h9.kept hz6 hk6b).from_ ai.rfl_)) rfl ?_))))))))));intro w5 O3 P3;refine asi rfl (aj (ah (aA (ay (fW rfl (cU (cs:=[_,_,_,_,_,_,_,_,_,_,_,_,_,_,_,_,_,_,_,_,_,_]) aG av rfl (by first | exact P3.whole | exact P6.whole)) (ed (v:=.int _ _) rfl) ?_)))));exact ⟨rfl,((stB h9).only O3 (hg6))⟩
 refine ae rfl (mvg rfl (ae rfl (aa (dC (by kernel_rfl) rfl) (ae rfl (aa (bM rfl rfl) (aa (au (v:=.bool _) rfl rfl) (aj (ah (xD rfl (fun Q6=>?_) (fun Q6=>?_))))))))))
 ·refine ak (ag (aa (cA (l:=[]) (dE)) (bP (vs:=[_,_,_,_,_,_,_,_,_,_,_,_,_,_,_,_,_,_,_,_,_,_]) av rfl rfl (by simp [Value.oneCell']) (((h9.kept hz6 hk6b).from_ ai.rfl_)) rfl ?_)));intro w7 O3 P3;refine asi rfl (aj (ah (aA (ay (fW rfl (cU (cs:=[_,_,_,_,_,_,_,_,_,_,_,_,_,_,_,_,_,_,_,_,_,_]) aG av rfl (by first | exact P3.whole | exact P6.whole)) (ed (v:=.int _ _) rfl) ?_)))));exact ⟨rfl,((stB h9).only O3 (hg6))⟩
 refine aP (ah (ak (ag (mvp rfl (aa (aE rfl) (aa (af aK rfl) (aa (af aC rfl) (aa (af bj rfl) (aa (aH (cs:=[.int .i64 s.b,.int .i64 s.t,.slice a9.E s.es.length a9.Ec]) bL bh rfl (jj (hs9.b.from_ ai.rfl_))) (mvi rfl ?_))))))))));have hn42:¬ (s.b<i∧i≤1099511625728):=by omega
 refine aB jU (p8 hF i hn42 a9.E a9.Ec _ (he9.from_ ai.rfl_)) ?_;rintro v42 w8 ⟨rfl,E42⟩;refine mvt rfl (aa (aS rfl rfl) (aa (aS rfl rfl) ?_));have hM10a:ai _ w8:=(ai.rfl_.next E42);have hz10a:=hM10a.size;refine bG fb ?_;intro b10 w9 E10 hb10 hk10;have hM10:=hM10a.next E10;have hg10:w.heap.size≤b10:=by rw [hb10];exact (((stB h9).next E42)).size
 refine bP (vs:=[_,_,_]) bh rfl rfl (by simp [Value.oneCell']) (hk10) rfl ?_;intro w10 O4 P4;have hM4:ai _ w10:=hM10.only O4 (by omega);refine asi rfl (aj (ah (ak (ak (ag (mvi rfl (aa (du (dr rfl rfl) rfl) (aj (ah (aJ rfl (ak (ag (aa (cA (l:=[]) (dE)) (bP (vs:=[_,_,_,_,_,_,_,_,_,_,_,_,_,_,_,_,_,_,_,_,_,_]) av rfl rfl (by simp [Value.oneCell']) (((h9.kept hz6 hk6b).from_ (hM4.next ai.rfl_))) rfl ?_))))))))))))));intro w11 O6 P6;refine asi rfl (aj (ah (aA (ay (fW rfl (cU (cs:=[_,_,_,_,_,_,_,_,_,_,_,_,_,_,_,_,_,_,_,_,_,_]) aG av rfl (by first | exact P3.whole | exact P6.whole)) (ed (v:=.int _ _) rfl) ?_)))));exact ⟨rfl,(((((stB h9).next E42).next E10).only O4 (hg10)).only O6 (hg6))⟩
theorem p6 (s:Rf) (a:Ra) (i:Int) (d:ByteArray) (w:World) (hrd:eD w s a) (hl:s.votes.length≤1000000∧s.next.length≤1000000∧s.mtch.length≤1000000∧s.sent.length≤1000000∧s.reads.length≤1000000∧∀ q∈s.reads,q.acks.length≤1000000) (hel:s.es.length≤1000000) (hm:gj s=true) (hc:kd s i d) :
 Rt prog 37 [.agg (rfV s a).toArray,.int .i64 i,.string d] w (fun v w'=>(∃ tag a',v=.tuple #[.agg (rfV (cW s i d) a').toArray,.int .i64 0]∧aQ w' tag (cW s i d) a'∧∀ k,k<w.heap.size→tag k=8)∧ai w w'):=by
 have hF:=jn hm;have hc9:(s.b<i∧i≤s.commit∧i≤1099511625728)∧d.size≤524288:=hc;refine enter (n:=71) Tryz.func37 rfl rfl rfl (ak (ag (cC (v:=.agg _) rfl ?_)));intro b3 w1 E3 hb3 hk3;refine bG bS ?_;intro b6 w2 E6 hb6 hk6;have hg6:w.heap.size≤b6:=by rw [hb6];exact ((ai.rfl_.next E3)).size
 refine asi rfl (aj (ah (ak (ag (aa (aH (cs:=rfV s a) aG av rfl (((hk3.from_ E6).from_ ai.rfl_).whole)) ?_)))));have hB9:ai w w2:=((ai.rfl_.next E3).next E6);have hk6b:=hk6.from_ ai.rfl_;have hlt6:=hk6b.lt;obtain ⟨wb,hw9⟩:∃ x,x=w2:=⟨_,rfl⟩;obtain ⟨Z,hZ⟩:∃ Z:Nat→Prop,Z=fun k=>k<wb.heap.size:=⟨_,rfl⟩
 refine aB gH (kv s a _ (hrd.from_ ((ai.rfl_.next E3).next E6)) hl hel hm) ?_;rintro v13 w3 ⟨g,rfl,h9⟩;rw [←hw9] at hB9 hk6b hlt6;rw [←hw9,←hZ] at h9;have stB:∀ {w':World} {p:Sp},bN wb Z w' 96 g p→ai w w':=fun h=>hB9.next (fp (by rw [hZ] at h;exact h))
 have hz6:Z b6:=by rw [hZ];exact hlt6
 have hzw:∀ k,k<w.heap.size→Z k:=fun k hk=>by rw [hZ];exact Nat.lt_of_lt_of_le hk hB9.size
 obtain ⟨tag9,a9,O9,oc9,L9,hs9⟩:=h9.ex;have he9:=hs9.f.rd.e;refine mvt rfl (aa (aS rfl rfl) (aa (aS rfl rfl) (asp rfl (asi rfl (aj (ah (ak (ak (ag (mvi rfl (aa (dI (dr rfl rfl) rfl) (mvb rfl ?_))))))))))));refine ae rfl (mvi rfl (ae rfl (mvp rfl (ae rfl (aa (aE rfl) (ae rfl (aa (af aK rfl) (ae rfl ?_))))))));refine aa (af aC rfl) (ae rfl (aa (af cu rfl) (ae rfl (aa (ar aq rfl (by exact (show _=some (Value.int .i64 s.commit) from da (hs9.b.from_ ai.rfl_) 10 rfl))) ?_))));refine ae rfl (aa (bM rfl rfl) (aa (au (v:=.bool _) rfl rfl) (mvb rfl (wM (t:=28) rfl (fun Q4=>?_) (fun Q4=>?_)))))
 ·exfalso;omega
 refine ae rfl (mvg rfl (ae rfl (aa (dC (by kernel_rfl) rfl) (ae rfl (aa (bM rfl rfl) (aa (au (v:=.bool _) rfl rfl) (aj (ah (xD rfl (fun Q6=>?_) (fun Q6=>?_))))))))))
 ·exfalso;omega
 refine aP (ah (ak (ag (mvp rfl (aa (aE rfl) (aa (af aK rfl) (aa (af aC rfl) (aa (af bj rfl) (aa (aH (cs:=[.int .i64 s.b,.int .i64 s.t,.slice a9.E s.es.length a9.Ec]) bL bh rfl (jj (hs9.b.from_ ai.rfl_))) (mvi rfl ?_))))))))));have hM42:ai _ w3:=ai.rfl_;have h10:=h9.from_ hM42;refine aB jU (ur hF i d hc a9.E a9.Ec _ (he9.from_ ai.rfl_)) ?_;rintro v42 w8 ⟨⟨A42,c42,rfl,ho42⟩,E42⟩;refine mvt rfl (aa (aS rfl rfl) (aa (aS rfl rfl) ?_));have hM10a:ai _ w8:=ai.rfl_;have hz10a:=hM10a.size;refine bG fb ?_;intro b10 w9 E10 hb10 hk10;have hM10:=hM10a.next E10;have hg10:w.heap.size≤b10:=by rw [hb10];exact (((stB h9).next E42)).size
 refine bP (vs:=[_,_,_]) bh rfl rfl (by simp [Value.oneCell']) (hk10) rfl ?_;intro w10 O4 P4;have hM4:ai _ w10:=hM10.only O4 (by omega);refine asi rfl (aj (ah (ak (ak (ag (mvi rfl (aa (dI (dr rfl rfl) rfl) (aj (ah (bF rfl (aP (ah (ak (ag (mvp rfl (mvp rfl ?_))))))))))))))));refine aa (aH (cs:=[.int .i64 i,.int .i64 (dp s.b s.t s.es i),.slice A42 (s.es.drop (i-s.b).toNat).length c42]) bL bh rfl ((P4.from_ ai.rfl_).whole)) (mvg rfl (aa (aE rfl) (aa (af aK rfl) (aa (af aC rfl) (aa (af bj rfl) ?_)))));have hMs:ai _ w10:=hM4.next ai.rfl_;refine qH (b:=i) (t9:=(dp s.b s.t s.es i)) (es:=(s.es.drop (i-s.b).toNat)) rfl bh rfl rfl h10 (E42.next hMs) (ho42.kept_from hMs) ?_;intro w11 h11;refine aa (aE rfl) (aa (af aK rfl) (aa (af aC rfl) (aa (af cp rfl) (tk (s':=({ s with b:=i,t:=(dp s.b s.t s.es i),es:=(s.es.drop (i-s.b).toNat),snap:=d }:Rf)) jK rfl rfl rfl (h11.from_ ai.rfl_) (fun _=>⟨by decide,rfl⟩) ⟨rfl,rfl,rfl,rfl,rfl,rfl⟩ ?_))));intro w12 h12;refine aj (ah (ak (ag ?_)));obtain ⟨tg8,a8,O8,oc8,L8,hs8⟩:=h12.ex;refine mvp rfl (aa (aE rfl) (aa (af aK rfl) (aa (af aC rfl) (aa (af bU rfl) (aa (ar aN rfl (by exact (show _=some (Value.slice a8.S s.sent.length a8.Sc) from da (hs8.b.from_ ai.rfl_) 17 rfl))) ?_)))));refine ou rfl bK (h12.from_ ai.rfl_) (hs8.from_ ai.rfl_) rfl ?_;intro w13 h13;refine aj (ah (ak (ag ?_)));have hT:bN wb Z w13 96 g ⟨cW s i d,[]⟩:=h13;obtain ⟨tgX,aX,OX,ocX,LX,hsX⟩:=hT.ex;refine mvp rfl (aa (aE rfl) (aa (af aK rfl) (aa (af aC rfl) (aa (aH (cs:=rfV (cW s i d) aX) aG av rfl (jk (hsX.b.from_ ai.rfl_))) ?_))));have hM9:ai _ w13:=ai.rfl_;refine bP (vs:=[_,_,_,_,_,_,_,_,_,_,_,_,_,_,_,_,_,_,_,_,_,_]) av rfl rfl (by simp [Value.oneCell']) (((hT.kept hz6 hk6b).from_ ai.rfl_)) rfl ?_;intro w14 O9 P9;refine asi rfl (aj (ah (aA (fW rfl (cU (cs:=[_,_,_,_,_,_,_,_,_,_,_,_,_,_,_,_,_,_,_,_,_,_]) aG av rfl (by first | exact P9.whole | exact P3.whole | exact P6.whole)) (ed (v:=.int _ _) rfl) ?_))));exact ⟨⟨tgX,aX,rfl,bB.chg8 (hsX.f.from_ hM9) (O9.toChg rfl) (hsX.z b6 hz6),fun k hk=>hsX.z k (hzw k hk)⟩,((stB h13).only O9 (hg6))⟩
theorem u5 (s:Rf) (a:Ra) (i:Int) (d:ByteArray) (w:World) :
 Rt prog 35 [.agg (rfV s a).toArray,.int .i64 i,.string d] w (fun v w'=>v=.bool (decide (kd s i d))∧ai w w'):=by
 refine enter (n:=27) Tryz.func35 rfl rfl rfl (ak (ag (cC (v:=.agg _) rfl ?_)));intro b3 w1 E3 hb3 hk3;refine asb rfl (aj (ah (ak (ag (mvi rfl (aa (af bj rfl) (aa (af cH rfl) (aa (ar aq rfl (by exact (show _=some (Value.int .i64 s.b) from (hk3.from_ ai.rfl_).rd 6 rfl))) ?_))))))));refine aa (bM rfl rfl) (mvb rfl (wM (t:=12) rfl (fun Q2=>?_) (fun Q2=>?_)))
 ·refine ae rfl (mvi rfl (ae rfl (aa (af cu rfl) (ae rfl (aa (ar aq rfl (by exact (show _=some (Value.int .i64 s.commit) from (hk3.from_ ai.rfl_).rd 10 rfl))) ?_)))));refine ae rfl (aa (gN rfl rfl) (aa (an (v:=.bool _) rfl rfl) (mvb rfl (wM (t:=18) rfl (fun Q3=>?_) (fun Q3=>?_)))))
  ·refine ae rfl (mvi rfl (ae rfl (aa (gN rfl rfl) (aa (an (v:=.bool _) rfl rfl) (mvb rfl (wM (t:=22) rfl (fun Q4=>?_) (fun Q4=>?_)))))))
   ·refine ae rfl (mvg rfl (ae rfl (aa (dC (by kernel_rfl) rfl) (ae rfl (aa (gN rfl rfl) (aa (an (v:=.bool _) rfl rfl) (asb rfl (aj (ah (aA ?_))))))))));refine bg (v:=.bool _) rfl rfl (⟨congrArg Value.bool ?_,(ai.rfl_.next E3)⟩);unfold kd
    first | (apply Eq.symm;apply decide_eq_true;omega) | (apply Eq.symm;apply decide_eq_false;omega) | (apply decide_eq_decide.2;omega) | simp_all
   refine ab rfl rfl (ab rfl rfl (ab rfl rfl (aa (au (v:=.bool _) rfl rfl) (asb rfl (aj (ah (aA (bg (v:=.bool _) rfl rfl (⟨congrArg Value.bool ?_,(ai.rfl_.next E3)⟩)))))))));unfold kd
   first | (apply Eq.symm;apply decide_eq_true;omega) | (apply Eq.symm;apply decide_eq_false;omega) | (apply decide_eq_decide.2;omega) | simp_all
  refine ab rfl rfl (ab rfl rfl (aa (au (v:=.bool _) rfl rfl) (mvb rfl (ab rfl rfl (ab rfl rfl (ab rfl rfl (aa (au (v:=.bool _) rfl rfl) (asb rfl ?_))))))));refine aj (ah (aA (bg (v:=.bool _) rfl rfl (⟨congrArg Value.bool ?_,(ai.rfl_.next E3)⟩))));unfold kd
  first | (apply Eq.symm;apply decide_eq_true;omega) | (apply Eq.symm;apply decide_eq_false;omega) | (apply decide_eq_decide.2;omega) | simp_all
 refine ab rfl rfl (ab rfl rfl (ab rfl rfl (ab rfl rfl (aa (au (v:=.bool _) rfl rfl) (mvb rfl (ab rfl rfl (ab rfl rfl (aa (au (v:=.bool _) rfl rfl) ?_))))))));refine mvb rfl (ab rfl rfl (ab rfl rfl (ab rfl rfl (aa (au (v:=.bool _) rfl rfl) (asb rfl (aj (ah (aA (bg (v:=.bool _) rfl rfl (⟨congrArg Value.bool ?_,(ai.rfl_.next E3)⟩))))))))));unfold kd
 first | (apply Eq.symm;apply decide_eq_true;omega) | (apply Eq.symm;apply decide_eq_false;omega) | (apply decide_eq_decide.2;omega) | simp_all
theorem pE (s:Rf) (a:Ra) (i:Int) (d:ByteArray) (w:World) (hrd:eD w s a) (hl:s.votes.length≤1000000∧s.next.length≤1000000∧s.mtch.length≤1000000∧s.sent.length≤1000000∧s.reads.length≤1000000∧∀ q∈s.reads,q.acks.length≤1000000) (hel:s.es.length≤1000000) (hF:RfF s) (hc:kd s i d) :
 Rt prog 36 [.agg (rfV s a).toArray,.int .i64 i,.string d] w (fun v w'=>(∃ tag a',v=.agg (rfV (cW s i d) a').toArray∧aQ w' tag (cW s i d) a'∧∀ k,k<w.heap.size→tag k=8)∧ai w w'):=by
 have hc9:(s.b<i∧i≤s.commit∧i≤1099511625728)∧d.size≤524288:=hc;have hco:=hF.co;have hla:=hF.last;obtain ⟨Ea,Eac,Va,Vac,Xa,Xac,Ma,Mac,Sa,Sac,Qa,Qac,La⟩:=a;refine enter (n:=30) Tryz.func36 rfl rfl rfl (ak (ag (cC (v:=.agg _) rfl ?_)));intro b3 w1 E3 hb3 hk3;refine bG bS ?_;intro b6 w2 E6 hb6 hk6;have hg6:w.heap.size≤b6:=by rw [hb6];exact ((ai.rfl_.next E3)).size
 refine aj (ah (ak (ag (aa (aH (cs:=rfV s (⟨Ea,Eac,Va,Vac,Xa,Xac,Ma,Mac,Sa,Sac,Qa,Qac,La⟩:Ra)) aG av rfl (((hk3.from_ E6).from_ ai.rfl_).whole)) ?_))));have hk6b:=hk6.from_ ai.rfl_;have hk3b:=(hk3.from_ E6).from_ ai.rfl_;have hlt6:=hk6b.lt;have hlt3:=hk3b.lt;have hzz:=(((ai.rfl_.next E3).next E6)).size;refine aB er (eZ s (⟨Ea,Eac,Va,Vac,Xa,Xac,Ma,Mac,Sa,Sac,Qa,Qac,La⟩:Ra) _ (hrd.from_ ((ai.rfl_.next E3).next E6)) hl hel) ?_;rintro v10 w3 ⟨⟨tag10,⟨EE,EEc,VV,VVc,XX,XXc,MM,MMc,SS,SSc,QQ,QQc,LL⟩,rfl,hf10,ht10⟩,E10⟩;replace hk3b:=hk3b.from_ E10;replace hk6b:=hk6b.from_ E10;have hz10:=E10.size;obtain ⟨tI,hI,htI⟩:∃ t,aQ w3 t s ⟨EE,EEc,VV,VVc,XX,XXc,MM,MMc,SS,SSc,QQ,QQc,LL⟩∧∀ k,(k≤b6∨(w3).heap.size≤k)→t k=8:=⟨_,hf10.re 8,fun k hk=>hk.elim (fun h=>(bQ (by omega)).trans (ht10 k (by omega))) (fun h=>cN h)⟩;refine bG bS ?_;intro b7 w4 E7 hb7 hk7;have hg7:w.heap.size≤b7:=by rw [hb7];exact ((((ai.rfl_.next E3).next E6).next E10)).size
 replace htI:∀ k,(k≤b6∨b7≤k)→tI k=8:=by rw [hb7];exact htI
 have h67:b6<b7:=by omega
 have h37:b3<b7:=by omega
 replace hk3b:=hk3b.from_ E7;replace hk6b:=hk6b.from_ E7;refine bP (vs:=[_,_,_,_,_,_,_,_,_,_,_,_,_,_,_,_,_,_,_,_,_,_]) av rfl rfl (by simp [Value.oneCell']) (hk7) rfl ?_;intro w5 O1 P1;have hIS:=bB.chg8 (hI.from_ E7) (O1.toChg rfl) (htI b7 (.inr (Nat.le_refl _)));have hk7S:Blk w5 b7 29 (rfV s (⟨EE,EEc,VV,VVc,XX,XXc,MM,MMc,SS,SSc,QQ,QQc,LL⟩:Ra)).toArray:=P1;have hk3S:=hk3b.only O1 (by omega);have hk6S:=hk6b.only O1 (by omega);refine aj (ah (ak (ag (aa (af bj rfl) (aa (aH (cs:=[.int .i64 s.b,.int .i64 s.t,.slice Ea s.es.length Eac]) bL bh rfl (jj (show Blk _ b3 29 (rfV s (⟨Ea,Eac,Va,Vac,Xa,Xac,Ma,Mac,Sa,Sac,Qa,Qac,La⟩:Ra)++[]).toArray from hk3S.from_ ai.rfl_))) (mvi rfl ?_))))));have hM1e:ai _ w5:=ai.rfl_;have hx7:Blk w5 b7 29 (rfV s (⟨EE,EEc,VV,VVc,XX,XXc,MM,MMc,SS,SSc,QQ,QQc,LL⟩:Ra)++[]).toArray:=hk7S.from_ hM1e;have hI1e:=hIS.from_ hM1e;have hlt7:=hx7.lt;refine aB ns (nm s.b s.t i Ea Eac s.es _ (hrd.e.from_ (((((ai.rfl_.next E3).next E6).next E10).next E7).only O1 (hg7))) hF.lg (by omega)) ?_;rintro v14 w6 ⟨A14,k14,c14,rfl,ho14,E14⟩;have hk14:k14=(s.es.drop (i-s.b).toNat).length:=by have h9:=ho14.1;rw [js] at h9;omega
 subst hk14;obtain ⟨t14,hI14,hI14t⟩:∃ t,aQ w6 t ({ s with b:=i,t:=dp s.b s.t s.es i,es:=s.es.drop (i-s.b).toNat }:Rf) (⟨A14,c14,VV,VVc,XX,XXc,MM,MMc,SS,SSc,QQ,QQc,LL⟩:Ra)∧∀ q,(q≤b6∨q=b7)→t q=8:=⟨_,(aQ.but (c:=0) hI1e (ai.toChg E14)).log i (dp s.b s.t s.es i) rfl (d_ ho14 (Nat.zero_le _)) (fun q hq=>cN (dt ho14 q hq).1),fun q hq=>(bQ (by omega)).trans (htI q (by omega))⟩;refine aa (af bj rfl) ?_;have hM2:ai _ w6:=ai.rfl_;refine jH (s:=s) (a:=(⟨EE,EEc,VV,VVc,XX,XXc,MM,MMc,SS,SSc,QQ,QQc,LL⟩:Ra)) (R:=[]) (b:=i) (t9:=dp s.b s.t s.es i) (es:=s.es.drop (i-s.b).toNat) rfl bh rfl rfl (hx7.from_ (E14.next hM2)) ?_;intro w7 O2 P2;have hx2:Blk w7 b7 29 (rfV ({ s with b:=i,t:=dp s.b s.t s.es i,es:=s.es.drop (i-s.b).toNat }:Rf) (⟨A14,c14,VV,VVc,XX,XXc,MM,MMc,SS,SSc,QQ,QQc,LL⟩:Ra)++[]).toArray:=P2;have hI2:=bB.chg8 (hI14.from_ hM2) (O2.toChg rfl) (hI14t b7 (.inr rfl));have hk6c:=(hk6S.from_ ((hM1e.next E14).next hM2)).only O2 (by omega);refine aj (ah (ak (ag (mvg rfl (aa (af cp rfl) ?_)))));have hM3:ai _ w7:=ai.rfl_;refine cF (s':=({ s with b:=i,t:=dp s.b s.t s.es i,es:=s.es.drop (i-s.b).toNat,snap:=d }:Rf)) (a':=(⟨A14,c14,VV,VVc,XX,XXc,MM,MMc,SS,SSc,QQ,QQc,LL⟩:Ra)) (v:=.string _) jK rfl rfl rfl ((hx2.from_ hM3)) (by exact ⟨by decide,rfl⟩) ?_;intro w8 O3 P3;have hx3:Blk w8 b7 29 (rfV ({ s with b:=i,t:=dp s.b s.t s.es i,es:=s.es.drop (i-s.b).toNat,snap:=d }:Rf) (⟨A14,c14,VV,VVc,XX,XXc,MM,MMc,SS,SSc,QQ,QQc,LL⟩:Ra)++[]).toArray:=P3;have hI3:aQ w8 t14 ({ s with b:=i,t:=dp s.b s.t s.es i,es:=s.es.drop (i-s.b).toNat,snap:=d }:Rf) (⟨A14,c14,VV,VVc,XX,XXc,MM,MMc,SS,SSc,QQ,QQc,LL⟩:Ra):=aQ.same (bB.chg8 (hI2.from_ hM3) (O3.toChg rfl) (hI14t b7 (.inr rfl))) rfl rfl rfl rfl rfl rfl;have hk6d:=(hk6c.from_ hM3).only O3 (by omega);refine aj (ah (ak (ak (ag (asi rfl (aj (ah (aZ (cj (G:=Nat×(Nat→Nat)) [18,19,20,21,22,23,24,25,26,27,28] (fun (k,_)=>[(8,.int .i64 (k:Nat))]) (fun (k,tg) w'=>k≤s.sent.length∧aQ w' tg ({ s with b:=i,t:=dp s.b s.t s.es i,es:=s.es.drop (i-s.b).toNat,snap:=d,sent:=spX 0 s.sent k }:Rf) (⟨A14,c14,VV,VVc,XX,XXc,MM,MMc,SS,SSc,QQ,QQc,LL⟩:Ra)∧(∀ q,(q≤b6∨q=b7)→tg q=8)∧Blk w' b7 29 (rfV ({ s with b:=i,t:=dp s.b s.t s.es i,es:=s.es.drop (i-s.b).toNat,snap:=d,sent:=spX 0 s.sent k }:Rf) (⟨A14,c14,VV,VVc,XX,XXc,MM,MMc,SS,SSc,QQ,QQc,LL⟩:Ra)++[]).toArray∧Blk w' b6 29 (.agg (rfV zR a0).toArray:Value).cells∧ai w w') (fun (k,_)=>s.sent.length-k) ((0,t14)) ⟨rfl,trivial⟩ ?_ ?_)))))))))
 ·exact ⟨Nat.zero_le _,hI3.from_ ai.rfl_,hI14t,hx3.from_ ai.rfl_,hk6d.from_ ai.rfl_,((((((((ai.rfl_.next E3).next E6).next E10).next E7).only O1 (hg7)).next E14).only O2 hg7).only O3 (hg7))⟩
 rintro ⟨k,tg⟩ ρ9 w9 ⟨hk,hIk,htk,hbk,hk6k,hB⟩
 have hr17:∀ wv,ai w9 wv→wv.cell? ⟨b7,17,none⟩=some (.slice SS s.sent.length SSc):=fun wv hF9=>by
  have h9:=da (hbk.from_ hF9) 17 rfl;rw [show (({ s with b:=i,t:=dp s.b s.t s.es i,es:=s.es.drop (i-s.b).toNat,snap:=d,sent:=spX 0 s.sent k }:Rf)).sent.length=s.sent.length from fj hk] at h9;exact h9
 refine ak (ak (ag (mvi rfl (aa (af bU rfl) (aa (ar aN rfl (by exact hr17 _ ai.rfl_)) ?_)))));refine aa (bn bZ rfl) (aa (bH rfl rfl) (aj (ah (xD rfl (fun Q10=>?_) (fun Q10=>?_)))))
 ·have hkS:k<s.sent.length:=by omega
  have hro:=(hIk.n (by decide)).1;rw [show (({ s with b:=i,t:=dp s.b s.t s.es i,es:=s.es.drop (i-s.b).toNat,snap:=d,sent:=spX 0 s.sent k }:Rf)).sent.length=s.sent.length from fj hk] at hro;obtain ⟨gS,rfl⟩:=eu hro (by omega);refine aP (ah (ak (aZ (ag (aa (af bU rfl) (aa (ar aN rfl (by exact hr17 _ ai.rfl_)) ?_))))));refine mvi rfl (aa (dS cw rfl rfl (by omega)) ?_);have hM7:ai _ w9:=ai.rfl_;refine jG (xs:=(spX 0 s.sent k).map iV) ck rfl rfl rfl (hro.kept_from hM7) (by omega) ?_;intro w11 O7 P7;have hgS:tg gS=4:=(hIk.n (by decide)).2 gS rfl;have hC7:Chg (fun q=>tg q=4) _ w11:=(ai.toChg hM7).only O7 hgS
  have ho7:(w11).ownsRow 0 3 1 (.slice (some ⟨gS,0,none⟩) s.sent.length SSc) s.sent.length ((spX 0 s.sent (k+1)).map iV):=by
   rw [←oy (by omega),←qJ];exact P7
  obtain ⟨tgn,hIn,htn⟩:∃ t,aQ w11 t ({ s with b:=i,t:=dp s.b s.t s.es i,es:=s.es.drop (i-s.b).toNat,snap:=d,sent:=spX 0 s.sent (k+1) }:Rf) (⟨A14,c14,VV,VVc,XX,XXc,MM,MMc,(some ⟨gS,0,none⟩),SSc,QQ,QQc,LL⟩:Ra)∧∀ q,(q≤b6∨q=b7)→t q=8:=⟨_,(aQ.but hIk hC7).sent (l:=spX 0 s.sent (k+1)) (fj (by omega)).symm ho7 (fun q hq=>by cases hq;rw [bQ (cI hro _ rfl)];exact hgS),fun q hq=>(bQ (by have:=hbk.lt;omega)).trans (htk q hq)⟩
  have hbn:Blk w11 b7 29 (rfV ({ s with b:=i,t:=dp s.b s.t s.es i,es:=s.es.drop (i-s.b).toNat,snap:=d,sent:=spX 0 s.sent (k+1) }:Rf) (⟨A14,c14,VV,VVc,XX,XXc,MM,MMc,(some ⟨gS,0,none⟩),SSc,QQ,QQc,LL⟩:Ra)++[]).toArray:=by
   have h9:=(hbk.from_ hM7).only O7 (fun e=>by have:=htk b7 (.inr rfl);rw [e,hgS] at this;cases this)
   have e9:rfV ({ s with b:=i,t:=dp s.b s.t s.es i,es:=s.es.drop (i-s.b).toNat,snap:=d,sent:=spX 0 s.sent (k+1) }:Rf) (⟨A14,c14,VV,VVc,XX,XXc,MM,MMc,(some ⟨gS,0,none⟩),SSc,QQ,QQc,LL⟩:Ra)=rfV ({ s with b:=i,t:=dp s.b s.t s.es i,es:=s.es.drop (i-s.b).toNat,snap:=d,sent:=spX 0 s.sent k }:Rf) (⟨A14,c14,VV,VVc,XX,XXc,MM,MMc,(some ⟨gS,0,none⟩),SSc,QQ,QQc,LL⟩:Ra):=by
    unfold rfV;simp only [fj hk,fj (show k+1≤s.sent.length by omega)]
   rw [e9];exact h9
  have hk6n:=(hk6k.from_ hM7).only O7 (fun e=>by have:=htk b6 (.inl (Nat.le_refl _));rw [e,hgS] at this;cases this)
  have hg7n:w.heap.size≤gS:=by
   rcases Nat.lt_or_ge gS w.heap.size with e | e
   ·have:=htk gS (.inl (by omega));omega
   ·exact e
  refine aj (bJ (ah (ag (mvi rfl (aa (bI rfl rfl (by omega)) (asi rfl (aj ?_)))))));refine cD ((k+1,tgn)) ⟨(by first | rfl | (refine bC ?_;omega)),trivial⟩ (by (iterate 24 refine bR rfl ?_);exact cg) ⟨?_,?_⟩
  ·exact ⟨by omega,hIn.from_ ai.rfl_,htn,hbn.from_ ai.rfl_,hk6n.from_ ai.rfl_,(hB.only O7 hg7n)⟩
  ·show s.sent.length-(k+1)<s.sent.length-k;omega
 obtain rfl:k=s.sent.length:=by omega
 have e9:spX 0 s.sent s.sent.length=s.sent.map fun _=>0:=by
  unfold spX;rw [List.drop_length,List.append_nil];exact List.map_const'.symm
 rw [e9] at hIk hbk;have hbX:Blk w9 b7 29 (rfV (cW s i d) (⟨A14,c14,VV,VVc,XX,XXc,MM,MMc,SS,SSc,QQ,QQc,LL⟩:Ra)++[]).toArray:=hbk;have hIX:aQ w9 tg (cW s i d) (⟨A14,c14,VV,VVc,XX,XXc,MM,MMc,SS,SSc,QQ,QQc,LL⟩:Ra):=hIk;refine b0 (bf (bf (bE (ah (ak (ag (aa (aH (cs:=rfV (cW s i d) (⟨A14,c14,VV,VVc,XX,XXc,MM,MMc,SS,SSc,QQ,QQc,LL⟩:Ra)) aG av rfl (jk (hbX.from_ ai.rfl_))) ?_)))))));have hM8:ai _ w9:=ai.rfl_;refine bP (vs:=[_,_,_,_,_,_,_,_,_,_,_,_,_,_,_,_,_,_,_,_,_,_]) av rfl rfl (by simp [Value.oneCell']) ((hk6k.from_ ai.rfl_)) rfl ?_;intro w12 O8 P8;refine aj (ah (aA (pA rfl (cU (cs:=[_,_,_,_,_,_,_,_,_,_,_,_,_,_,_,_,_,_,_,_,_,_]) aG av rfl (by exact P8.whole)) ?_)));exact ⟨⟨tg,_,rfl,bB.chg8 (hIX.from_ hM8) (O8.toChg rfl) (htk b6 (.inl (Nat.le_refl _))),fun k hk=>htk k (.inl (by omega))⟩,(hB.only O8 (hg6))⟩
end Go.Proofs.YtkpooenofjdpmaaGreat
