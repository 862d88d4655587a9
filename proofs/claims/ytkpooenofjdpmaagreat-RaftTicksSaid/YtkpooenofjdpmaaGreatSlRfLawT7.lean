/- The law RaftTicks. -/
import Derived.Test.YtkpooenofjdpmaaGreatSlRfLawT6

set_option maxRecDepth 100000
set_option maxHeartbeats 4000000
namespace Go.Proofs.YtkpooenofjdpmaaGreat
open Go.Proofs.Tryz (prog)
open Go.RowKit
open Go.ChangeShapes Go.WideShapes Go.ChangeAt
theorem ki:aV prog 92=true:=by kernel_rfl
theorem vM:aV prog 87=true:=by kernel_rfl
theorem vL:aV prog 91=true:=by kernel_rfl
theorem oI:aV prog 42=true:=by kernel_rfl
theorem yL (A B:Option Addr) (ca cb:Nat) (a b:List Int) (w:World) (ha:eb iV w A a) (hb:eb iV w B b) (hla:a.length*8≤140737488351232) :
 Rt prog 92 [.slice A a.length ca,.slice B b.length cb] w (fun v w'=>v=.bool (decide (a=b))∧ai w w'):=by
 refine enter (n:=26) Tryz.func92 rfl rfl rfl (an (ag (asb rfl (ak (ah (an (an (ag (mvs rfl (aa (bu b_ rfl) (mvs rfl (aa (bu b_ rfl) (aa (dp rfl rfl) ?_)))))))))))));refine ak (ah (aY rfl (fun Q1=>?_) (fun Q1=>?_)))
 ·replace Q1:=dz Q1;replace Q1:=fQ Q1;refine an (ag (asb rfl (ak (ah (aD (aC (bm (v:=.bool _) rfl rfl ?_)))))));exact ⟨by rw [decide_eq_false];rintro rfl;omega,ai.rfl_⟩
 replace Q1:=dA Q1;replace Q1:=fP Q1;refine aO (ah (an (an (ag (asi rfl (ak (ah (aZ (ct (G:=Nat) [4,11,12,13,14,15,16,17,18,19,20,21,22,23,24,25] (fun k=>[(5,.int .i64 (k:Nat))]) (fun k w'=>k≤a.length∧a.take k=b.take k∧ai w w') (fun k=>a.length-k) (0) ⟨rfl,trivial⟩ ?_ ?_)))))))))
 ·exact ⟨Nat.zero_le _,rfl,ai.rfl_⟩
 rintro k ρ2 w2 ⟨hk,ht,hB⟩;refine an (an (ag (mvi rfl (mvs rfl (aa (bu b_ rfl) (aa (bU rfl rfl) (ak (ah (yS rfl (fun Q3=>?_) (fun Q3=>?_))))))))))
 ·obtain ⟨ba,oa,rfl,ca⟩:=ha (by omega);obtain ⟨bb,ob,rfl,cb⟩:=hb (by omega);refine aO (ah (an (aZ (an ?_))));apply og 9 [(17,eqp _),(18,eqp _),(19,eqp _),(20,eqp _),(21,eqp _),(22,eqp _),(23,eqp _),(24,eqp _),(25,eqp _)] (by kernel_rfl) (by kernel_rfl) ⟨av _,av _,av _,av _,av _,av _,av _,av _,av _,trivial⟩
  case hop=>
   constructor
   ·intro w5 D5;exact az (aM (v:=.slice _ _ _) rfl) rfl
   constructor
   ·intro w6 D6;exact az (aM (v:=.int _ _) rfl) rfl
   constructor
   ·intro w7 D7;rintro _ rfl _ rfl;exact az (cF ch rfl rfl (by omega)) rfl
   constructor
   ·intro w8 D8;rintro _ rfl;exact az (ar ao rfl (by first | (exact ei (hB.next D8) (ca k (by omega))) | (exact ei (hB.next D8) (cb k (by omega))))) rfl
   constructor
   ·intro w9 D9;exact az (aM (v:=.slice _ _ _) rfl) rfl
   constructor
   ·intro w10 D10;exact az (aM (v:=.int _ _) rfl) rfl
   constructor
   ·intro w11 D11;rintro _ rfl _ rfl;exact az (cF ch rfl rfl (by omega)) rfl
   constructor
   ·intro w12 D12;rintro _ rfl;exact az (ar ao rfl (by first | (exact ei (hB.next D12) (ca k (by omega))) | (exact ei (hB.next D12) (cb k (by omega))))) rfl
   constructor
   ·intro w13 D13;rintro _ rfl _ rfl;exact az (dp rfl rfl) rfl
   exact trivial
  case hend=>
   intro w14 D14;rintro _ rfl _ rfl _ rfl _ rfl _ rfl _ rfl _ rfl _ rfl _ rfl;show St ..;refine ak (ah (aY rfl (fun Q15=>?_) (fun Q15=>?_)))
   ·replace Q15:=dz Q15;replace Q15:=fQ Q15;refine an (ag (asb rfl (ak (ah (aD (bf (aC (aC (bf (aC (bm (v:=.bool _) rfl rfl ?_)))))))))));exact ⟨by rw [decide_eq_false];rintro rfl;exact absurd rfl (by assumption),(hB.next D14)⟩
   replace Q15:=dA Q15;replace Q15:=fP Q15;refine aO (bH (ah (ag (mvi rfl (aa (bE rfl rfl (by omega)) (asi rfl (ak ?_)))))));refine cG (k+1) ⟨(by first | rfl | (refine br ?_;omega)),trivial⟩ (by (iterate 33 refine bQ rfl ?_);exact cf) ⟨?_,?_⟩
   ·exact ⟨by omega,s5 (by omega) (by omega) ht (by omega),(hB.next D14)⟩
   ·omega
 refine cd (bd (bd (bL (ah (an (ag (asb rfl (ak (ah (aD (bm (v:=.bool _) rfl rfl (⟨by rw [decide_eq_true (xA (by omega) (by omega) ht)],hB⟩))))))))))))
theorem nW (A B:Option Addr) (ca cb:Nat) (l:List Int) (w:World) (ha:eb iV w A l) (hb:eb iV w B l) (hl:l.length≤1000000):Rt prog 92 [.slice A l.length ca,.slice B l.length cb] w fun v w'=>v=.bool true∧ai w w':=
 (yL A B ca cb l l w ha hb (by omega)).mono fun v w' h=>⟨by rw [h.1,decide_eq_true rfl],h.2⟩
theorem x8 (B T:Int) (A A':Option Addr) (n n' c c':Nat) (xs:List Ent) (w:World) (h1:cK w (.slice A n c) xs) (h2:cK w (.slice A' n' c') xs) (hl:xs.length≤1000000):Rt prog 91 [.agg #[.int .i64 B,.int .i64 T,.slice A n c],.agg #[.int .i64 B,.int .i64 T,.slice A' n' c']] w fun v w'=>v=.bool true∧ai w w':=Rt.of (su B T _ _ xs w h1 h2 (by omega))
theorem ue (q:Rd) (A B:Option Addr) (ca cb:Nat) (w:World) (ha:eb iV w A q.acks) (hb:eb iV w B q.acks) (hl:q.acks.length≤1000000) :
 Rt prog 87 [.agg (rdV (q,A,ca)).toArray,.agg (rdV (q,B,cb)).toArray] w (fun v w'=>v=.bool true∧ai w w'):=by
 refine enter (n:=31) Tryz.func87 rfl rfl rfl (an (ag (cE (v:=.agg _) rfl ?_)));intro b2 w1 E2 hb2 hk2;refine cE (v:=.agg _) rfl ?_;intro b3 w2 E3 hb3 hk3;replace hk2:=hk2.from_ E3;refine asb rfl (ak (ah (an (ag (aa (ae d_ rfl) (aa (ar ao rfl (by exact (show _=some (Value.int .i64 q.id) from (hk2.from_ ai.rfl_).rd 0 rfl))) ?_))))));refine aa (ae d_ rfl) (aa (ar ao rfl (by exact (show _=some (Value.int .i64 q.id) from (hk3.from_ ai.rfl_).rd 0 rfl))) ?_);refine aa (dv (bB rfl rfl) (beq_self_eq_true _)) (mvb rfl (af rfl (aa (ae dZ rfl) (af rfl (aa (ar ao rfl (by exact (show _=some (Value.int .i64 q.ix) from (hk2.from_ ai.rfl_).rd 1 rfl))) ?_)))));refine af rfl (aa (ae dZ rfl) (af rfl (aa (ar ao rfl (by exact (show _=some (Value.int .i64 q.ix) from (hk3.from_ ai.rfl_).rd 1 rfl))) ?_)));refine af rfl (aa (dv (bB rfl rfl) (beq_self_eq_true _)) (aa (aq (v:=.bool _) rfl rfl) (mvb rfl (af rfl (aa (ae dY rfl) (af rfl (aa (ar ao rfl (by exact (show _=some (Value.int .i64 q.rn) from (hk2.from_ ai.rfl_).rd 2 rfl))) ?_)))))));refine af rfl (aa (ae dY rfl) (af rfl (aa (ar ao rfl (by exact (show _=some (Value.int .i64 q.rn) from (hk3.from_ ai.rfl_).rd 2 rfl))) ?_)));refine af rfl (aa (dv (bB rfl rfl) (beq_self_eq_true _)) (aa (aq (v:=.bool _) rfl rfl) (mvb rfl (af rfl (aa (ae cZ rfl) (af rfl (aa (ar aP rfl (by exact (show _=some (Value.slice A q.acks.length ca) from (hk2.from_ ai.rfl_).rd 3 rfl))) ?_)))))));refine af rfl (aa (ae cZ rfl) (af rfl (aa (ar aP rfl (by exact (show _=some (Value.slice B q.acks.length cb) from (hk3.from_ ai.rfl_).rd 3 rfl))) ?_)));refine af rfl (aA ki (nW A B ca cb q.acks _ (ha.from_ ((ai.rfl_.next E2).next E3)) (hb.from_ ((ai.rfl_.next E2).next E3)) hl) ?_);rintro v29 w3 ⟨rfl,E29⟩;refine aa (aq (v:=.bool _) rfl rfl) (asb rfl (ak (ah (aD (bm (v:=.bool _) rfl rfl (⟨rfl,(((ai.rfl_.next E2).next E3).next E29)⟩))))))
theorem ss (x y:Rd×Option Addr×Nat) (w:World) (h:x.1=y.1) (ha:eb iV w x.2.1 x.1.acks) (hb:eb iV w y.2.1 y.1.acks) (hl:x.1.acks.length≤1000000):Rt prog 87 [.agg (rdV x).toArray,.agg (rdV y).toArray] w fun v w'=>v=.bool true∧ai w w':=by
 obtain ⟨q,A,ca⟩:=x;obtain ⟨q2,B,cb⟩:=y;obtain rfl:q=q2:=h;exact ue q A B ca cb w ha hb hl
theorem kK (A B:Option Addr) (ca cb n:Nat) (X Y:List (Rd×Option Addr×Nat)) (w:World) (hr:gv 4 rdV w A X) (hr2:gv 4 rdV w B Y) (hX:X.length=n) (hY:Y.length=n) (hp:X.map (fun q=>q.1)=Y.map (fun q=>q.1)) (hE:∀ x∈X,IR w x.2.1 x.2.2 x.1.acks) (hE2:∀ x∈Y,IR w x.2.1 x.2.2 x.1.acks) (hle:∀ x∈X,x.1.acks.length≤1000000) (hn:n≤1000000) :
 Rt prog 42 [.slice A n ca,.slice B n cb] w (fun v w'=>v=.bool true∧ai w w'):=by
 refine enter (n:=27) Tryz.func42 rfl rfl rfl (an (ag (asb rfl (ak (ah (an (an (ag (mvs rfl (aa (bu bW rfl) (mvs rfl (aa (bu bW rfl) (aa (ea (dp rfl rfl) (bne_self_eq_false _)) ?_)))))))))))));refine ak (ah (bM rfl (aO (ah (an (an (ag (asi rfl (ak (ah (aZ (ct (G:=Nat) [4,11,12,13,14,15,16,17,18,19,20,21,22,23,24,25,26] (fun k=>[(5,.int .i64 (k:Nat))]) (fun k w'=>k≤n∧ai w w') (fun k=>n-k) (0) ⟨rfl,trivial⟩ ?_ ?_))))))))))))
 ·exact ⟨Nat.zero_le _,ai.rfl_⟩
 rintro k ρ1 w1 ⟨hk,hB⟩;refine an (an (ag (mvi rfl (mvs rfl (aa (bu bW rfl) (aa (bU rfl rfl) (ak (ah (yS rfl (fun Q2=>?_) (fun Q2=>?_))))))))))
 ·have hkX:k<X.length:=by omega
  have hkY:k<Y.length:=by omega
  obtain ⟨ba,oa,rfl,hca⟩:=hr (by omega);obtain ⟨bb,ob,rfl,hcb⟩:=hr2 (by omega);have hxk:=hE _ (List.getElem_mem hkX);have hyk:=hE2 _ (List.getElem_mem hkY);have hlk:=hle _ (List.getElem_mem hkX)
  have hpk:X[k].1=Y[k].1:=by
   have h9:(X.map (fun q=>q.1))[k]? =(Y.map (fun q=>q.1))[k]? :=by rw [hp]
   rw [List.getElem?_map,List.getElem?_map,List.getElem?_eq_getElem hkX,List.getElem?_eq_getElem hkY] at h9;exact Option.some.inj h9
  refine aO (ah (an (aZ (an ?_))));apply dR 10 [(17,eqp _),(18,eqp _),(19,eqp _),(20,eqp (.agg (rdV X[k]).toArray)),(21,eqp _),(22,eqp _),(23,eqp _),(24,eqp (.agg (rdV Y[k]).toArray)),(25,eqp _),(26,eqp _)] (by repeat first | exact ep | refine en ?_ | refine dS ?_) (by kernel_rfl) (by kernel_rfl) ⟨av _,av _,av _,av _,av _,av _,av _,av _,av _,av _,trivial⟩
  case hop=>
   constructor
   ·rintro-w4 D4;exact az (aM (v:=.slice _ _ _) rfl) rfl
   constructor
   ·rintro-w5 D5;exact az (aM (v:=.int _ _) rfl) rfl
   constructor
   ·rintro-w6 D6;rintro _ rfl _ rfl;exact az (bR de rfl rfl (by omega)) rfl
   constructor
   ·rintro-w7 D7;rintro _ rfl;exact az (aJ (cs:=rdV X[k]) dH cD rfl (eS (hB.next D7) (hca k hkX))) rfl
   constructor
   ·rintro-w8 D8;exact az (aM (v:=.slice _ _ _) rfl) rfl
   constructor
   ·rintro-w9 D9;exact az (aM (v:=.int _ _) rfl) rfl
   constructor
   ·rintro-w10 D10;rintro _ rfl _ rfl;exact az (bR de rfl rfl (by omega)) rfl
   constructor
   ·rintro-w11 D11;rintro _ rfl;exact az (aJ (cs:=rdV Y[k]) dH cD rfl (eS (hB.next D11) (hcb k hkY))) rfl
   constructor
   ·rintro-w12 D12;rintro v12_20 rfl v12_24 rfl;refine fK vM ((ss X[k] Y[k] _ hpk (hxk.1.from_ (hB.next D12)) (hyk.1.from_ (hB.next D12)) hlk).mono ?_);rintro v _ ⟨rfl,E12'⟩;exact ⟨E12',rfl⟩
   constructor
   ·rintro-w13 D13;rintro _ rfl;exact az (cz rfl) rfl
   exact trivial
  case hend=>
   intro w14 D14;rintro _ rfl _ rfl _ rfl v20 rfl _ rfl _ rfl _ rfl v24 rfl _ rfl _ rfl;show St ..;refine ak (ah (yQ rfl (fun Q15=>?_) (fun Q15=>?_)))
   ·exfalso;contradiction
   refine aO (bH (ah (ag (mvi rfl (aa (cT (b:=1) rfl rfl (by omega)) (asi rfl (ak ?_)))))));refine cG (k+1) ⟨(by first | rfl | (refine br ?_;omega)),trivial⟩ (by (iterate 35 refine bQ rfl ?_);exact cf) ⟨?_,?_⟩
   ·exact ⟨by omega,(hB.next D14)⟩
   ·omega
 refine cd (bd (bd (bL (ah (an (ag (asb rfl (ak (ah (aD (bm (v:=.bool _) rfl rfl (⟨rfl,hB⟩))))))))))))
theorem ta {s:Rf} {a:Ra} {w:World} {b T:Nat} (hb:Blk w b T (rfV s a).toArray):w.rangeAt b 6 [.int .i64 s.b,.int .i64 s.t,.slice a.E s.es.length a.Ec]:=hb.range 6 _ (fun j v hj=>by
 match j,hj with
 |0,hj=>exact hj
 |1,hj=>exact hj
 |2,hj=>exact hj
 |j+3,hj=>simp at hj)
theorem dE (s:Rf) (a b:Ra) (w:World) (ha:eD w s a) (hb:eD w s b) (hl:s.es.length≤1000000∧s.votes.length≤1000000∧s.next.length≤1000000∧s.mtch.length≤1000000∧s.sent.length≤1000000∧s.reads.length≤1000000∧∀ q∈s.reads,q.acks.length≤1000000) :
 Rt prog 49 [.agg (rfV s a).toArray,.agg (rfV s b).toArray] w (fun v w'=>v=.bool true∧ai w w'):=by
 obtain ⟨hl0,hl1,hl2,hl3,hl4,hl5,hl6⟩:=hl;have hla:a.L.length=s.reads.length:=by rw [←ha.r,List.length_map]
 have hlb:a.L.length=b.L.length:=by rw [hla,←hb.r,List.length_map]
 refine enter (n:=143) Tryz.func49 rfl rfl rfl (an (ag (cE (v:=.agg _) rfl ?_)));intro b2 w1 E2 hb2 hk2;refine cE (v:=.agg _) rfl ?_;intro b3 w2 E3 hb3 hk3;replace hk2:=hk2.from_ E3;refine asb rfl (ak (ah (an (ag (aa (ae cR rfl) (aa (ar ao rfl (by exact (show _=some (Value.int .i64 s.id) from (hk2.from_ ai.rfl_).rd 0 rfl))) ?_))))));refine aa (ae cR rfl) (aa (ar ao rfl (by exact (show _=some (Value.int .i64 s.id) from (hk3.from_ ai.rfl_).rd 0 rfl))) ?_);refine aa (dv (bB rfl rfl) (beq_self_eq_true _)) (mvb rfl (af rfl (aa (ae bA rfl) (af rfl (aa (ar ao rfl (by exact (show _=some (Value.int .i64 s.nodes) from (hk2.from_ ai.rfl_).rd 1 rfl))) ?_)))));refine af rfl (aa (ae bA rfl) (af rfl (aa (ar ao rfl (by exact (show _=some (Value.int .i64 s.nodes) from (hk3.from_ ai.rfl_).rd 1 rfl))) ?_)));refine af rfl (aa (dv (bB rfl rfl) (beq_self_eq_true _)) (aa (aq (v:=.bool _) rfl rfl) (mvb rfl (af rfl (aa (ae cV rfl) (af rfl (aa (ar ao rfl (by exact (show _=some (Value.int .i64 s.role) from (hk2.from_ ai.rfl_).rd 2 rfl))) ?_)))))));refine af rfl (aa (ae cV rfl) (af rfl (aa (ar ao rfl (by exact (show _=some (Value.int .i64 s.role) from (hk3.from_ ai.rfl_).rd 2 rfl))) ?_)));refine af rfl (aa (dv (bB rfl rfl) (beq_self_eq_true _)) (aa (aq (v:=.bool _) rfl rfl) (mvb rfl (af rfl (aa (ae cl rfl) (af rfl (aa (ar ao rfl (by exact (show _=some (Value.int .i64 s.term) from (hk2.from_ ai.rfl_).rd 3 rfl))) ?_)))))));refine af rfl (aa (ae cl rfl) (af rfl (aa (ar ao rfl (by exact (show _=some (Value.int .i64 s.term) from (hk3.from_ ai.rfl_).rd 3 rfl))) ?_)));refine af rfl (aa (dv (bB rfl rfl) (beq_self_eq_true _)) (aa (aq (v:=.bool _) rfl rfl) (mvb rfl (af rfl (aa (ae eK rfl) (af rfl (aa (ar ao rfl (by exact (show _=some (Value.int .i64 s.vote) from (hk2.from_ ai.rfl_).rd 4 rfl))) ?_)))))));refine af rfl (aa (ae eK rfl) (af rfl (aa (ar ao rfl (by exact (show _=some (Value.int .i64 s.vote) from (hk3.from_ ai.rfl_).rd 4 rfl))) ?_)));refine af rfl (aa (dv (bB rfl rfl) (beq_self_eq_true _)) (aa (aq (v:=.bool _) rfl rfl) (mvb rfl (af rfl (aa (ae ed rfl) (af rfl (aa (ar ao rfl (by exact (show _=some (Value.int .i64 s.leader) from (hk2.from_ ai.rfl_).rd 5 rfl))) ?_)))))));refine af rfl (aa (ae ed rfl) (af rfl (aa (ar ao rfl (by exact (show _=some (Value.int .i64 s.leader) from (hk3.from_ ai.rfl_).rd 5 rfl))) ?_)));refine af rfl (aa (dv (bB rfl rfl) (beq_self_eq_true _)) (aa (aq (v:=.bool _) rfl rfl) (mvb rfl (af rfl (aa (ae bk rfl) (af rfl (aa (aJ (cs:=[.int .i64 s.b,.int .i64 s.t,.slice a.E s.es.length a.Ec]) bJ bj rfl (ta (hk2.from_ ai.rfl_))) (af rfl ?_))))))));refine aa (ae bk rfl) (af rfl (aa (aJ (cs:=[.int .i64 s.b,.int .i64 s.t,.slice b.E s.es.length b.Ec]) bJ bj rfl (ta (hk3.from_ ai.rfl_))) (af rfl (aA vL (x8 s.b s.t a.E b.E s.es.length s.es.length a.Ec b.Ec s.es _ (ha.e.from_ ((ai.rfl_.next E2).next E3)) (hb.e.from_ ((ai.rfl_.next E2).next E3)) hl0) ?_))));rintro v50 w3 ⟨rfl,E50⟩;refine aa (aq (v:=.bool _) rfl rfl) (mvb rfl (af rfl (aa (ae cy rfl) (af rfl (aa (ar bY rfl (by exact (show _=some (Value.string s.snap) from (hk2.from_ (ai.rfl_.next E50)).rd 9 rfl))) ?_)))));refine af rfl (aa (ae cy rfl) (af rfl (aa (ar bY rfl (by exact (show _=some (Value.string s.snap) from (hk3.from_ (ai.rfl_.next E50)).rd 9 rfl))) ?_)));refine af rfl (aa (dv (k9 rfl rfl) (beq_self_eq_true _)) (aa (aq (v:=.bool _) rfl rfl) (mvb rfl (af rfl (aa (ae cC rfl) (af rfl (aa (ar ao rfl (by exact (show _=some (Value.int .i64 s.commit) from (hk2.from_ (ai.rfl_.next E50)).rd 10 rfl))) ?_)))))));refine af rfl (aa (ae cC rfl) (af rfl (aa (ar ao rfl (by exact (show _=some (Value.int .i64 s.commit) from (hk3.from_ (ai.rfl_.next E50)).rd 10 rfl))) ?_)));refine af rfl (aa (dv (bB rfl rfl) (beq_self_eq_true _)) (aa (aq (v:=.bool _) rfl rfl) (mvb rfl (af rfl (aa (ae cM rfl) (af rfl (aa (ar ao rfl (by exact (show _=some (Value.int .i64 s.elapsed) from (hk2.from_ (ai.rfl_.next E50)).rd 11 rfl))) ?_)))))));refine af rfl (aa (ae cM rfl) (af rfl (aa (ar ao rfl (by exact (show _=some (Value.int .i64 s.elapsed) from (hk3.from_ (ai.rfl_.next E50)).rd 11 rfl))) ?_)));refine af rfl (aa (dv (bB rfl rfl) (beq_self_eq_true _)) (aa (aq (v:=.bool _) rfl rfl) (mvb rfl (af rfl (aa (ae ee rfl) (af rfl (aa (ar ao rfl (by exact (show _=some (Value.int .i64 s.timeout) from (hk2.from_ (ai.rfl_.next E50)).rd 12 rfl))) ?_)))))));refine af rfl (aa (ae ee rfl) (af rfl (aa (ar ao rfl (by exact (show _=some (Value.int .i64 s.timeout) from (hk3.from_ (ai.rfl_.next E50)).rd 12 rfl))) ?_)));refine af rfl (aa (dv (bB rfl rfl) (beq_self_eq_true _)) (aa (aq (v:=.bool _) rfl rfl) (mvb rfl (af rfl (aa (ae eO rfl) (af rfl (aa (ar gY rfl (by exact (show _=some (Value.int .u64 s.seed) from (hk2.from_ (ai.rfl_.next E50)).rd 13 rfl))) ?_)))))));refine af rfl (aa (ae eO rfl) (af rfl (aa (ar gY rfl (by exact (show _=some (Value.int .u64 s.seed) from (hk3.from_ (ai.rfl_.next E50)).rd 13 rfl))) ?_)));refine af rfl (aa (dv (bB rfl rfl) (beq_self_eq_true _)) (aa (aq (v:=.bool _) rfl rfl) (mvb rfl (af rfl (aa (ae cP rfl) (af rfl (aa (ar aP rfl (by exact (show _=some (Value.slice a.V s.votes.length a.Vc) from (hk2.from_ (ai.rfl_.next E50)).rd 14 rfl))) ?_)))))));refine af rfl (aa (ae cP rfl) (af rfl (aa (ar aP rfl (by exact (show _=some (Value.slice b.V s.votes.length b.Vc) from (hk3.from_ (ai.rfl_.next E50)).rd 14 rfl))) ?_)));refine af rfl (aA ki (nW a.V b.V a.Vc b.Vc s.votes _ (ha.v.1.from_ (((ai.rfl_.next E2).next E3).next E50)) (hb.v.1.from_ (((ai.rfl_.next E2).next E3).next E50)) hl1) ?_);rintro v92 w4 ⟨rfl,E92⟩;refine aa (aq (v:=.bool _) rfl rfl) (mvb rfl (af rfl (aa (ae bN rfl) (af rfl (aa (ar aP rfl (by exact (show _=some (Value.slice a.X s.next.length a.Xc) from (hk2.from_ ((ai.rfl_.next E50).next E92)).rd 15 rfl))) ?_)))));refine af rfl (aa (ae bN rfl) (af rfl (aa (ar aP rfl (by exact (show _=some (Value.slice b.X s.next.length b.Xc) from (hk3.from_ ((ai.rfl_.next E50).next E92)).rd 15 rfl))) ?_)));refine af rfl (aA ki (nW a.X b.X a.Xc b.Xc s.next _ (ha.x.1.from_ ((((ai.rfl_.next E2).next E3).next E50).next E92)) (hb.x.1.from_ ((((ai.rfl_.next E2).next E3).next E50).next E92)) hl2) ?_);rintro v99 w5 ⟨rfl,E99⟩;refine aa (aq (v:=.bool _) rfl rfl) (mvb rfl (af rfl (aa (ae bX rfl) (af rfl (aa (ar aP rfl (by exact (show _=some (Value.slice a.M s.mtch.length a.Mc) from (hk2.from_ (((ai.rfl_.next E50).next E92).next E99)).rd 16 rfl))) ?_)))));refine af rfl (aa (ae bX rfl) (af rfl (aa (ar aP rfl (by exact (show _=some (Value.slice b.M s.mtch.length b.Mc) from (hk3.from_ (((ai.rfl_.next E50).next E92).next E99)).rd 16 rfl))) ?_)));refine af rfl (aA ki (nW a.M b.M a.Mc b.Mc s.mtch _ (ha.m.1.from_ (((((ai.rfl_.next E2).next E3).next E50).next E92).next E99)) (hb.m.1.from_ (((((ai.rfl_.next E2).next E3).next E50).next E92).next E99)) hl3) ?_);rintro v106 w6 ⟨rfl,E106⟩;refine aa (aq (v:=.bool _) rfl rfl) (mvb rfl (af rfl (aa (ae bS rfl) (af rfl (aa (ar aP rfl (by exact (show _=some (Value.slice a.S s.sent.length a.Sc) from (hk2.from_ ((((ai.rfl_.next E50).next E92).next E99).next E106)).rd 17 rfl))) ?_)))));refine af rfl (aa (ae bS rfl) (af rfl (aa (ar aP rfl (by exact (show _=some (Value.slice b.S s.sent.length b.Sc) from (hk3.from_ ((((ai.rfl_.next E50).next E92).next E99).next E106)).rd 17 rfl))) ?_)));refine af rfl (aA ki (nW a.S b.S a.Sc b.Sc s.sent _ (ha.n.1.from_ ((((((ai.rfl_.next E2).next E3).next E50).next E92).next E99).next E106)) (hb.n.1.from_ ((((((ai.rfl_.next E2).next E3).next E50).next E92).next E99).next E106)) hl4) ?_);rintro v113 w7 ⟨rfl,E113⟩;refine aa (aq (v:=.bool _) rfl rfl) (mvb rfl (af rfl (aa (ae cQ rfl) (af rfl (aa (ar ao rfl (by exact (show _=some (Value.int .i64 s.round) from (hk2.from_ (((((ai.rfl_.next E50).next E92).next E99).next E106).next E113)).rd 18 rfl))) ?_)))));refine af rfl (aa (ae cQ rfl) (af rfl (aa (ar ao rfl (by exact (show _=some (Value.int .i64 s.round) from (hk3.from_ (((((ai.rfl_.next E50).next E92).next E99).next E106).next E113)).rd 18 rfl))) ?_)));refine af rfl (aa (dv (bB rfl rfl) (beq_self_eq_true _)) (aa (aq (v:=.bool _) rfl rfl) (mvb rfl (af rfl (aa (ae bc rfl) (af rfl (aa (ar bo rfl (by exact (show _=some (Value.slice a.Q a.L.length a.Qc) from (hk2.from_ (((((ai.rfl_.next E50).next E92).next E99).next E106).next E113)).rd 19 rfl))) ?_)))))));refine af rfl (aa (ae bc rfl) (af rfl ?_));refine aa (ar bo rfl (by have h9:=(hk3.from_ (((((ai.rfl_.next E50).next E92).next E99).next E106).next E113)).rd 19 rfl;exact (show _=some (Value.slice b.Q a.L.length b.Qc) from by rw [hlb];exact h9))) ?_;refine af rfl (aA oI (kK a.Q b.Q a.Qc b.Qc a.L.length a.L b.L _ (ha.q.from_ (((((((ai.rfl_.next E2).next E3).next E50).next E92).next E99).next E106).next E113)) (hb.q.from_ (((((((ai.rfl_.next E2).next E3).next E50).next E92).next E99).next E106).next E113)) rfl hlb.symm (ha.r.trans hb.r.symm) (fun x hx=>(ha.k x hx).from_ (((((((ai.rfl_.next E2).next E3).next E50).next E92).next E99).next E106).next E113)) (fun x hx=>(hb.k x hx).from_ (((((((ai.rfl_.next E2).next E3).next E50).next E92).next E99).next E106).next E113)) (fun x hx=>hl6 _ (by rw [←ha.r];exact List.mem_map_of_mem hx)) (by omega)) ?_);rintro v127 w8 ⟨rfl,E127⟩;refine aa (aq (v:=.bool _) rfl rfl) (mvb rfl (af rfl (aa (ae dF rfl) (af rfl (aa (ar bY rfl (by exact (show _=some (Value.string s.part) from (hk2.from_ ((((((ai.rfl_.next E50).next E92).next E99).next E106).next E113).next E127)).rd 20 rfl))) ?_)))));refine af rfl (aa (ae dF rfl) (af rfl (aa (ar bY rfl (by exact (show _=some (Value.string s.part) from (hk3.from_ ((((((ai.rfl_.next E50).next E92).next E99).next E106).next E113).next E127)).rd 20 rfl))) ?_)));refine af rfl (aa (dv (k9 rfl rfl) (beq_self_eq_true _)) (aa (aq (v:=.bool _) rfl rfl) (mvb rfl (af rfl (aa (ae dm rfl) (af rfl (aa (ar ao rfl (by exact (show _=some (Value.int .i64 s.partOf) from (hk2.from_ ((((((ai.rfl_.next E50).next E92).next E99).next E106).next E113).next E127)).rd 21 rfl))) ?_)))))));refine af rfl (aa (ae dm rfl) (af rfl (aa (ar ao rfl (by exact (show _=some (Value.int .i64 s.partOf) from (hk3.from_ ((((((ai.rfl_.next E50).next E92).next E99).next E106).next E113).next E127)).rd 21 rfl))) ?_)));refine af rfl (aa (dv (bB rfl rfl) (beq_self_eq_true _)) (aa (aq (v:=.bool _) rfl rfl) (asb rfl (ak (ah (aD (bm (v:=.bool _) rfl rfl (⟨rfl,((((((((ai.rfl_.next E2).next E3).next E50).next E92).next E99).next E106).next E113).next E127)⟩))))))))
theorem pC:iR prog 99=some true:=by kernel_rfl
theorem mf:ec prog 99=some 3:=by kernel_rfl
theorem mH:cL prog 39 0=some 0:=by kernel_rfl
theorem mG:cL prog 39 4=some 4:=by kernel_rfl
theorem mF:cL prog 39 5=some 5:=by kernel_rfl
theorem mE:cL prog 39 6=some 6:=by kernel_rfl
theorem mD:cL prog 39 7=some 7:=by kernel_rfl
theorem mC:cL prog 39 8=some 8:=by kernel_rfl
theorem g_:cL prog 39 9=some 9:=by kernel_rfl
theorem uq:aV prog 90=true:=by kernel_rfl
theorem lA:cL prog 39 10=some 10:=by kernel_rfl
theorem jI:cL prog 39 11=some 11:=by kernel_rfl
theorem lz:cL prog 39 12=some 12:=by kernel_rfl
theorem ks:(gC prog 48).isSome=true:=by kernel_rfl
theorem kt:gC prog 48=some (39,13):=by kernel_rfl
theorem ur:aV prog 48=true:=by kernel_rfl
theorem nj {a b:ByteArray}:a.toList=b.toList↔a=b:=by
 refine ⟨fun hh=>?_,fun h=>by rw [h]⟩;rw [ByteArray.toList_eq,ByteArray.toList_eq] at hh;obtain ⟨⟨x⟩⟩:=a;obtain ⟨⟨y⟩⟩:=b
 simp_all
instance:DecidableEq Ent:=fun x y=>decidable_of_iff (x.i=y.i∧x.t=y.t∧x.d=y.d) ⟨fun h=>by cases x;cases y;simp_all,fun h=>by rw [h];exact ⟨rfl,rfl,rfl⟩⟩
theorem yM (a b:Ent) (w:World):(Op.equalIn 10000 99 (.agg #[.int .i64 a.i,.int .i64 a.t,.string a.d]) (.agg #[.int .i64 b.i,.int .i64 b.t,.string b.d])).run prog w=.ok (decide (a=b)) w:=by
 have u3:=Tryz.underlying3;have a3:=Tryz.isAgg3;have z3:=Tryz.sizeOf3;have u9:=Tryz.underlying9;have a9:=Tryz.isAgg9;have z9:=Tryz.sizeOf9;have hS:prog.underlying 99=some (.struct (prog.fieldsOf 99)):=by kernel_rfl
 have hp:prog.stoodInHeld 99=false:=by kernel_rfl
 obtain ⟨i1,t1,d1⟩:=a;obtain ⟨i2,t2,d2⟩:=b;rw [show (10000:Nat)=9999+1 from rfl,run_equalIn_agg w 9999 99 _ _ hS hp];simp only [Program.fieldsOf,Tryz.underlying99 ]
 go_simp
 simp only [nj];by_cases h1:i1=i2 <;> by_cases h2:t1=t2 <;> by_cases h3:d1=d2 <;> simp [h1,h2,h3]
theorem tO {ρ:Operand→Value} {w:World} {yt:TypeId} {x y:Operand} {a b:Ent} (hx:ρ x=.agg #[.int .i64 a.i,.int .i64 a.t,.string a.d]) (hy:ρ y=.agg #[.int .i64 b.i,.int .i64 b.t,.string b.d]):RO prog ρ (.binOp .neq 99 x y yt) w (.bool (!decide (a=b))) w:=by
 refine lN hx hy (run_eqGuard_agg w _ _ _ _ _ _ (by kernel_rfl)) ?_;rw [run_neq_struct,yM];rfl
theorem pn {w:World} {A:Option Addr} {n c:Nat} {es:List Ent} (h:cK w (.slice A n c) es) (hn:0<es.length):∃ b o,A=some ⟨b,o,none⟩∧∀ i (hi:i<es.length),w.rangeAt b (o+i*3) [.int .i64 es[i].i,.int .i64 es[i].t,.string es[i].d]:=by
 obtain ⟨A',c',hv,_,_,_,hp⟩:=h;simp only [Value.slice.injEq] at hv;obtain ⟨rfl,_,_⟩:=hv;obtain ⟨b,o,hA,_,hc⟩:=hp hn;exact ⟨b,o,hA,fun i hi=>xR (hc i hi).1 (hc i hi).2.1 (hc i hi).2.2⟩
theorem zb (a b:ByteArray):(a.toList==b.toList)=decide (a=b):=by
 rw [Bool.eq_iff_iff,beq_iff_eq,decide_eq_true_eq,nj]
theorem yU (a b:Bool):(a==b)=decide (a=b):=by cases a <;> cases b <;> rfl
theorem vx (A B:Option Addr) (ca cb n m:Nat) (xs ys:List Ent) (w:World) (hn:n=xs.length) (hm:m=ys.length) (h1:cK w (.slice A n ca) xs) (h2:cK w (.slice B m cb) ys) (hl:xs.length≤400000000000) :
 Rt prog 90 [.slice A n ca,.slice B m cb] w (fun v w'=>v=.bool (decide (xs=ys))∧ai w w'):=by
 subst hn hm;refine enter (n:=26) Tryz.func90 rfl rfl rfl (an (ag (asb rfl (ak (ah (an (an (ag (mvs rfl (aa (bu dt rfl) (mvs rfl (aa (bu dt rfl) (aa (dp rfl rfl) ?_)))))))))))));refine ak (ah (aY rfl (fun Q1=>?_) (fun Q1=>?_)))
 ·replace Q1:=dz Q1;replace Q1:=fQ Q1;refine an (ag (asb rfl (ak (ah (aD (aC (bm (v:=.bool _) rfl rfl (⟨congrArg Value.bool (decide_eq_false (fun e=>absurd (congrArg List.length e) (by omega))).symm,ai.rfl_⟩))))))))
 replace Q1:=dA Q1;replace Q1:=fP Q1;have hlen:xs.length=ys.length:=by omega
 refine aO (ah (an (an (ag (asi rfl (ak (ah (aZ (ct (G:=Nat) [4,11,12,13,14,15,16,17,18,19,20,21,22,23,24,25] (fun k=>[(5,.int .i64 (k:Nat))]) (fun k w'=>k≤xs.length∧xs.take k=ys.take k∧ai w w') (fun k=>xs.length-k) (0) ⟨rfl,trivial⟩ ?_ ?_)))))))))
 ·exact ⟨Nat.zero_le _,rfl,ai.rfl_⟩
 rintro k ρ2 w2 ⟨hk,ht,hB⟩;refine an (an (ag (mvi rfl (mvs rfl (aa (bu dt rfl) (aa (bU rfl rfl) (ak (ah (yS rfl (fun Q3=>?_) (fun Q3=>?_))))))))))
 ·have hkx:k<xs.length:=by omega
  have hky:k<ys.length:=by omega
  obtain ⟨ba,oa,rfl,hca⟩:=pn h1 (by omega);obtain ⟨bb,ob,rfl,hcb⟩:=pn h2 (by omega);refine aO (ah (an (aZ (an ?_))));apply dR 9 [(17,eqp _),(18,eqp _),(19,eqp _),(20,eqp (.agg #[.int .i64 (xs[k]'hkx).i,.int .i64 (xs[k]'hkx).t,.string (xs[k]'hkx).d])),(21,eqp _),(22,eqp _),(23,eqp _),(24,eqp (.agg #[.int .i64 (ys[k]'hky).i,.int .i64 (ys[k]'hky).t,.string (ys[k]'hky).d])),(25,eqp (.bool (!decide (xs[k]'hkx=ys[k]'hky))))] (by repeat first | exact ep | refine en ?_ | refine dS ?_) (by kernel_rfl) (by kernel_rfl) ⟨av _,av _,av _,av _,av _,av _,av _,av _,av _,trivial⟩
  case hop=>
   constructor
   ·rintro-w5 D5;exact az (aM (v:=.slice _ _ _) rfl) rfl
   constructor
   ·rintro-w6 D6;exact az (aM (v:=.int _ _) rfl) rfl
   constructor
   ·rintro-w7 D7;rintro _ rfl _ rfl;exact az (bR cw rfl rfl (by omega)) rfl
   constructor
   ·rintro-w8 D8;rintro _ rfl;exact az (aJ (cs:=[.int .i64 xs[k].i,.int .i64 xs[k].t,.string xs[k].d]) pC mf rfl (eS (hB.next D8) (hca k hkx))) rfl
   constructor
   ·rintro-w9 D9;exact az (aM (v:=.slice _ _ _) rfl) rfl
   constructor
   ·rintro-w10 D10;exact az (aM (v:=.int _ _) rfl) rfl
   constructor
   ·rintro-w11 D11;rintro _ rfl _ rfl;exact az (bR cw rfl rfl (by omega)) rfl
   constructor
   ·rintro-w12 D12;rintro _ rfl;exact az (aJ (cs:=[.int .i64 ys[k].i,.int .i64 ys[k].t,.string ys[k].d]) pC mf rfl (eS (hB.next D12) (hcb k hky))) rfl
   constructor
   ·rintro-w13 D13;rintro v13_20 rfl v13_24 rfl;exact az (tO (a:=xs[k]) (b:=ys[k]) rfl rfl) rfl
   exact trivial
  case hend=>
   intro w14 D14;rintro _ rfl _ rfl _ rfl v20 rfl _ rfl _ rfl _ rfl v24 rfl v25 rfl;show St ..;refine ak (ah (aY rfl (fun Q15=>?_) (fun Q15=>?_)))
   ·replace Q15:=dz Q15;replace Q15:=dF_ Q15;have hne:¬ xs[k]=ys[k]:=by simpa using Q15
    refine an (ag (asb rfl (ak (ah (aD (bf (aC (aC (bf (aC (bm (v:=.bool _) rfl rfl (⟨congrArg Value.bool (decide_eq_false (fun e=>by subst e;exact hne rfl)).symm,(hB.next D14)⟩))))))))))))
   replace Q15:=dA Q15;replace Q15:=dT_ Q15;have heq:xs[k]=ys[k]:=by simpa using Q15
   refine aO (bH (ah (ag (mvi rfl (aa (cT (b:=1) rfl rfl (by omega)) (asi rfl (ak ?_)))))));refine cG (k+1) ⟨(by first | rfl | (refine br ?_;omega)),trivial⟩ (by (iterate 33 refine bQ rfl ?_);exact cf) ⟨?_,?_⟩
   ·exact ⟨by omega,s5 hkx hky ht heq,(hB.next D14)⟩
   ·omega
 refine cd (bd (bd (bL (ah (an (ag (asb rfl (ak (ah (aD (bm (v:=.bool _) rfl rfl (⟨congrArg Value.bool (decide_eq_true (xA hlen (by omega) ht)).symm,hB⟩))))))))))))
theorem wJ (k f t tm ix lt cm rd:Int) (ok:Bool) (E:Option Addr) (n c:Nat) (a:Int) (d:ByteArray) (dn:Bool) (k2 f2 t2 tm2 ix2 lt2 cm2 rd2:Int) (ok2:Bool) (Eb:Option Addr) (n2 c2:Nat) (a2:Int) (d2:ByteArray) (dn2:Bool) (w:World) (es es2:List Ent) (hn:n=es.length) (hn2:n2=es2.length) (he:cK w (.slice E n c) es) (he2:cK w (.slice Eb n2 c2) es2) (hl:es.length≤400000000000) :
 Rt prog 48 [.agg #[.int .i64 k,.int .i64 f,.int .i64 t,.int .i64 tm,.int .i64 ix,.int .i64 lt,.int .i64 cm,.int .i64 rd,.bool ok,.slice E n c,.int .i64 a,.string d,.bool dn],.agg #[.int .i64 k2,.int .i64 f2,.int .i64 t2,.int .i64 tm2,.int .i64 ix2,.int .i64 lt2,.int .i64 cm2,.int .i64 rd2,.bool ok2,.slice Eb n2 c2,.int .i64 a2,.string d2,.bool dn2]] w (fun v w'=>v=.bool (decide (k=k2∧f=f2∧t=t2∧tm=tm2∧ix=ix2∧lt=lt2∧cm=cm2∧rd=rd2∧ok=ok2∧es=es2∧a=a2∧d=d2∧dn=dn2))∧ai w w'):=by
 refine enter (n:=94) Tryz.func48 rfl rfl rfl (an (ag (cE (v:=.agg _) rfl ?_)));intro b2 w1 E2 hb2 hk2;refine cE (v:=.agg _) rfl ?_;intro b3 w2 E3 hb3 hk3;replace hk2:=hk2.from_ E3;refine asb rfl (ak (ah (an (ag (aa (ae mH rfl) (aa (ar ao rfl (by exact (hk2.from_ ai.rfl_).rd 0 rfl)) ?_))))));refine aa (ae mH rfl) (aa (ar ao rfl (by exact (hk3.from_ ai.rfl_).rd 0 rfl)) ?_);refine aa (bB rfl rfl) (mvb rfl (yn (t:=10) rfl (fun Q3=>?_) (fun Q3=>?_)))
 ·have q0:=Q3;refine af rfl (aa (ae iq rfl) (af rfl (aa (ar ao rfl (by exact (hk2.from_ ai.rfl_).rd 1 rfl)) ?_)));refine af rfl (aa (ae iq rfl) (af rfl (aa (ar ao rfl (by exact (hk3.from_ ai.rfl_).rd 1 rfl)) ?_)));refine af rfl (aa (bB rfl rfl) (aa (aq (v:=.bool _) rfl rfl) (mvb rfl (yn (t:=17) rfl (fun Q4=>?_) (fun Q4=>?_)))))
  ·have q1:=Q4;refine af rfl (aa (ae jF rfl) (af rfl (aa (ar ao rfl (by exact (hk2.from_ ai.rfl_).rd 2 rfl)) ?_)));refine af rfl (aa (ae jF rfl) (af rfl (aa (ar ao rfl (by exact (hk3.from_ ai.rfl_).rd 2 rfl)) ?_)));refine af rfl (aa (bB rfl rfl) (aa (aq (v:=.bool _) rfl rfl) (mvb rfl (yn (t:=24) rfl (fun Q5=>?_) (fun Q5=>?_)))))
   ·have q2:=Q5;refine af rfl (aa (ae im rfl) (af rfl (aa (ar ao rfl (by exact (hk2.from_ ai.rfl_).rd 3 rfl)) ?_)));refine af rfl (aa (ae im rfl) (af rfl (aa (ar ao rfl (by exact (hk3.from_ ai.rfl_).rd 3 rfl)) ?_)));refine af rfl (aa (bB rfl rfl) (aa (aq (v:=.bool _) rfl rfl) (mvb rfl (yn (t:=31) rfl (fun Q6=>?_) (fun Q6=>?_)))))
    ·have q3:=Q6;refine af rfl (aa (ae mG rfl) (af rfl (aa (ar ao rfl (by exact (hk2.from_ ai.rfl_).rd 4 rfl)) ?_)));refine af rfl (aa (ae mG rfl) (af rfl (aa (ar ao rfl (by exact (hk3.from_ ai.rfl_).rd 4 rfl)) ?_)));refine af rfl (aa (bB rfl rfl) (aa (aq (v:=.bool _) rfl rfl) (mvb rfl (yn (t:=38) rfl (fun Q7=>?_) (fun Q7=>?_)))))
     ·have q4:=Q7;refine af rfl (aa (ae mF rfl) (af rfl (aa (ar ao rfl (by exact (hk2.from_ ai.rfl_).rd 5 rfl)) ?_)));refine af rfl (aa (ae mF rfl) (af rfl (aa (ar ao rfl (by exact (hk3.from_ ai.rfl_).rd 5 rfl)) ?_)));refine af rfl (aa (bB rfl rfl) (aa (aq (v:=.bool _) rfl rfl) (mvb rfl (yn (t:=45) rfl (fun Q8=>?_) (fun Q8=>?_)))))
      ·have q5:=Q8;refine af rfl (aa (ae mE rfl) (af rfl (aa (ar ao rfl (by exact (hk2.from_ ai.rfl_).rd 6 rfl)) ?_)));refine af rfl (aa (ae mE rfl) (af rfl (aa (ar ao rfl (by exact (hk3.from_ ai.rfl_).rd 6 rfl)) ?_)));refine af rfl (aa (bB rfl rfl) (aa (aq (v:=.bool _) rfl rfl) (mvb rfl (yn (t:=52) rfl (fun Q9=>?_) (fun Q9=>?_)))))
       ·have q6:=Q9;refine af rfl (aa (ae mD rfl) (af rfl (aa (ar ao rfl (by exact (hk2.from_ ai.rfl_).rd 7 rfl)) ?_)));refine af rfl (aa (ae mD rfl) (af rfl (aa (ar ao rfl (by exact (hk3.from_ ai.rfl_).rd 7 rfl)) ?_)));refine af rfl (aa (bB rfl rfl) (aa (aq (v:=.bool _) rfl rfl) (mvb rfl (yn (t:=59) rfl (fun Q10=>?_) (fun Q10=>?_)))))
        ·have q7:=Q10;refine af rfl (aa (ae mC rfl) (af rfl (aa (ar kn rfl (by exact (hk2.from_ ai.rfl_).rd 8 rfl)) ?_)));refine af rfl (aa (ae mC rfl) (af rfl (aa (ar kn rfl (by exact (hk3.from_ ai.rfl_).rd 8 rfl)) ?_)));refine af rfl (aa (ia (s_ (by kernel_rfl) rfl rfl) (congrArg Value.bool (yU ok ok2))) (aa (aq (v:=.bool _) rfl rfl) (mvb rfl (yo (t:=66) rfl (fun Q11=>?_) (fun Q11=>?_)))))
         ·have q8:=Q11;refine af rfl (aa (ae g_ rfl) (af rfl (aa (ar bD rfl (by exact (hk2.from_ ai.rfl_).rd 9 rfl)) ?_)));refine af rfl (aa (ae g_ rfl) (af rfl (aa (ar bD rfl (by exact (hk3.from_ ai.rfl_).rd 9 rfl)) ?_)));refine af rfl (aA uq (vx E Eb c c2 n n2 es es2 _ hn hn2 (he.from_ ((ai.rfl_.next E2).next E3)) (he2.from_ ((ai.rfl_.next E2).next E3)) hl) ?_);rintro v71 w12 ⟨rfl,E71⟩;refine aa (aq (v:=.bool _) rfl rfl) (mvb rfl (yo (t:=73) rfl (fun Q13=>?_) (fun Q13=>?_)))
          ·have q9:=Q13;refine af rfl (aa (ae lA rfl) (af rfl (aa (ar ao rfl (by exact (hk2.from_ (ai.rfl_.next E71)).rd 10 rfl)) ?_)));refine af rfl (aa (ae lA rfl) (af rfl (aa (ar ao rfl (by exact (hk3.from_ (ai.rfl_.next E71)).rd 10 rfl)) ?_)));refine af rfl (aa (bB rfl rfl) (aa (aq (v:=.bool _) rfl rfl) (mvb rfl (yn (t:=80) rfl (fun Q14=>?_) (fun Q14=>?_)))))
           ·have q10:=Q14;refine af rfl (aa (ae jI rfl) (af rfl (aa (ar bY rfl (by exact (hk2.from_ (ai.rfl_.next E71)).rd 11 rfl)) ?_)));refine af rfl (aa (ae jI rfl) (af rfl (aa (ar bY rfl (by exact (hk3.from_ (ai.rfl_.next E71)).rd 11 rfl)) ?_)));refine af rfl (aa (ia (k9 rfl rfl) (congrArg Value.bool (zb d d2))) (aa (aq (v:=.bool _) rfl rfl) (mvb rfl (yo (t:=87) rfl (fun Q15=>?_) (fun Q15=>?_)))))
            ·have q11:=Q15;refine af rfl (aa (ae lz rfl) (af rfl (aa (ar kn rfl (by exact (hk2.from_ (ai.rfl_.next E71)).rd 12 rfl)) ?_)));refine af rfl (aa (ae lz rfl) (af rfl (aa (ar kn rfl (by exact (hk3.from_ (ai.rfl_.next E71)).rd 12 rfl)) ?_)));refine af rfl (aa (ia (s_ (by kernel_rfl) rfl rfl) (congrArg Value.bool (yU dn dn2))) (aa (aq (v:=.bool _) rfl rfl) (asb rfl (ak (ah (aD (bm (v:=.bool _) rfl rfl (⟨congrArg Value.bool ?_,(((ai.rfl_.next E2).next E3).next E71)⟩))))))))
             first
              |exact (decide_eq_false hno).symm
              |(rw [decide_eq_decide];exact ⟨fun h=>⟨q0,q1,q2,q3,q4,q5,q6,q7,q8,q9,q10,q11,h⟩,fun h=>h.2.2.2.2.2.2.2.2.2.2.2.2⟩)
            have hno:¬ (k=k2∧f=f2∧t=t2∧tm=tm2∧ix=ix2∧lt=lt2∧cm=cm2∧rd=rd2∧ok=ok2∧es=es2∧a=a2∧d=d2∧dn=dn2):=fun e=>Q15 e.2.2.2.2.2.2.2.2.2.2.2.1
            refine ab rfl rfl (ab rfl rfl (ab rfl rfl (ab rfl rfl (ab rfl rfl (aa (ay (v:=.bool _) rfl rfl) (asb rfl (ak (ah (aD (bm (v:=.bool _) rfl rfl ?_))))))))));refine ⟨congrArg Value.bool ?_,(((ai.rfl_.next E2).next E3).next E71)⟩
            first
             |exact (decide_eq_false hno).symm
             |(rw [decide_eq_decide];exact ⟨fun h=>⟨q0,q1,q2,q3,q4,q5,q6,q7,q8,q9,q10,q11,h⟩,fun h=>h.2.2.2.2.2.2.2.2.2.2.2.2⟩)
           have hno:¬ (k=k2∧f=f2∧t=t2∧tm=tm2∧ix=ix2∧lt=lt2∧cm=cm2∧rd=rd2∧ok=ok2∧es=es2∧a=a2∧d=d2∧dn=dn2):=fun e=>Q14 e.2.2.2.2.2.2.2.2.2.2.1
           refine ab rfl rfl (ab rfl rfl (ab rfl rfl (ab rfl rfl (ab rfl rfl (aa (ay (v:=.bool _) rfl rfl) (mvb rfl (ab rfl rfl (ab rfl rfl ?_))))))));refine ab rfl rfl (ab rfl rfl (ab rfl rfl (aa (ay (v:=.bool _) rfl rfl) (asb rfl (ak (ah (aD (bm (v:=.bool _) rfl rfl (⟨congrArg Value.bool ?_,(((ai.rfl_.next E2).next E3).next E71)⟩)))))))))
           first
            |exact (decide_eq_false hno).symm
            |(rw [decide_eq_decide];exact ⟨fun h=>⟨q0,q1,q2,q3,q4,q5,q6,q7,q8,q9,q10,q11,h⟩,fun h=>h.2.2.2.2.2.2.2.2.2.2.2.2⟩)
          have hno:¬ (k=k2∧f=f2∧t=t2∧tm=tm2∧ix=ix2∧lt=lt2∧cm=cm2∧rd=rd2∧ok=ok2∧es=es2∧a=a2∧d=d2∧dn=dn2):=fun e=>Q13 e.2.2.2.2.2.2.2.2.2.1
          refine ab rfl rfl (ab rfl rfl (ab rfl rfl (ab rfl rfl (ab rfl rfl (aa (ay (v:=.bool _) rfl rfl) (mvb rfl (ab rfl rfl (ab rfl rfl ?_))))))));refine ab rfl rfl (ab rfl rfl (ab rfl rfl (aa (ay (v:=.bool _) rfl rfl) (mvb rfl (ab rfl rfl (ab rfl rfl (ab rfl rfl (ab rfl rfl ?_))))))));refine ab rfl rfl (aa (ay (v:=.bool _) rfl rfl) (asb rfl (ak (ah (aD (bm (v:=.bool _) rfl rfl (⟨congrArg Value.bool ?_,(((ai.rfl_.next E2).next E3).next E71)⟩)))))))
          first
           |exact (decide_eq_false hno).symm
           |(rw [decide_eq_decide];exact ⟨fun h=>⟨q0,q1,q2,q3,q4,q5,q6,q7,q8,q9,q10,q11,h⟩,fun h=>h.2.2.2.2.2.2.2.2.2.2.2.2⟩)
         have hno:¬ (k=k2∧f=f2∧t=t2∧tm=tm2∧ix=ix2∧lt=lt2∧cm=cm2∧rd=rd2∧ok=ok2∧es=es2∧a=a2∧d=d2∧dn=dn2):=fun e=>Q11 e.2.2.2.2.2.2.2.2.1
         refine ab rfl rfl (ab rfl rfl (ab rfl rfl (ab rfl rfl (ab rfl rfl (aa (ay (v:=.bool _) rfl rfl) (mvb rfl (ab rfl rfl (ab rfl rfl ?_))))))));refine ab rfl rfl (ab rfl rfl (ab rfl rfl (aa (ay (v:=.bool _) rfl rfl) (mvb rfl (ab rfl rfl (ab rfl rfl (ab rfl rfl (ab rfl rfl ?_))))))));refine ab rfl rfl (aa (ay (v:=.bool _) rfl rfl) (mvb rfl (ab rfl rfl (ab rfl rfl (ab rfl rfl (ab rfl rfl (ab rfl rfl (aa (ay (v:=.bool _) rfl rfl) ?_))))))));refine asb rfl (ak (ah (aD (bm (v:=.bool _) rfl rfl (⟨congrArg Value.bool ?_,((ai.rfl_.next E2).next E3)⟩)))))
         first
          |exact (decide_eq_false hno).symm
          |(rw [decide_eq_decide];exact ⟨fun h=>⟨q0,q1,q2,q3,q4,q5,q6,q7,q8,q9,q10,q11,h⟩,fun h=>h.2.2.2.2.2.2.2.2.2.2.2.2⟩)
        have hno:¬ (k=k2∧f=f2∧t=t2∧tm=tm2∧ix=ix2∧lt=lt2∧cm=cm2∧rd=rd2∧ok=ok2∧es=es2∧a=a2∧d=d2∧dn=dn2):=fun e=>Q10 e.2.2.2.2.2.2.2.1
        refine ab rfl rfl (ab rfl rfl (ab rfl rfl (ab rfl rfl (ab rfl rfl (aa (ay (v:=.bool _) rfl rfl) (mvb rfl (ab rfl rfl (ab rfl rfl ?_))))))));refine ab rfl rfl (ab rfl rfl (ab rfl rfl (aa (ay (v:=.bool _) rfl rfl) (mvb rfl (ab rfl rfl (ab rfl rfl (ab rfl rfl (ab rfl rfl ?_))))))));refine ab rfl rfl (aa (ay (v:=.bool _) rfl rfl) (mvb rfl (ab rfl rfl (ab rfl rfl (ab rfl rfl (ab rfl rfl (ab rfl rfl (aa (ay (v:=.bool _) rfl rfl) ?_))))))));refine mvb rfl (ab rfl rfl (ab rfl rfl (ab rfl rfl (ab rfl rfl (ab rfl rfl (aa (ay (v:=.bool _) rfl rfl) (asb rfl (ak (ah (aD ?_))))))))));refine bm (v:=.bool _) rfl rfl (⟨congrArg Value.bool ?_,((ai.rfl_.next E2).next E3)⟩)
        first
         |exact (decide_eq_false hno).symm
         |(rw [decide_eq_decide];exact ⟨fun h=>⟨q0,q1,q2,q3,q4,q5,q6,q7,q8,q9,q10,q11,h⟩,fun h=>h.2.2.2.2.2.2.2.2.2.2.2.2⟩)
       have hno:¬ (k=k2∧f=f2∧t=t2∧tm=tm2∧ix=ix2∧lt=lt2∧cm=cm2∧rd=rd2∧ok=ok2∧es=es2∧a=a2∧d=d2∧dn=dn2):=fun e=>Q9 e.2.2.2.2.2.2.1
       refine ab rfl rfl (ab rfl rfl (ab rfl rfl (ab rfl rfl (ab rfl rfl (aa (ay (v:=.bool _) rfl rfl) (mvb rfl (ab rfl rfl (ab rfl rfl ?_))))))));refine ab rfl rfl (ab rfl rfl (ab rfl rfl (aa (ay (v:=.bool _) rfl rfl) (mvb rfl (ab rfl rfl (ab rfl rfl (ab rfl rfl (ab rfl rfl ?_))))))));refine ab rfl rfl (aa (ay (v:=.bool _) rfl rfl) (mvb rfl (ab rfl rfl (ab rfl rfl (ab rfl rfl (ab rfl rfl (ab rfl rfl (aa (ay (v:=.bool _) rfl rfl) ?_))))))));refine mvb rfl (ab rfl rfl (ab rfl rfl (ab rfl rfl (ab rfl rfl (ab rfl rfl (aa (ay (v:=.bool _) rfl rfl) (mvb rfl (ab rfl rfl ?_))))))));refine ab rfl rfl (ab rfl rfl (ab rfl rfl (ab rfl rfl (aa (ay (v:=.bool _) rfl rfl) (asb rfl (ak (ah (aD (bm (v:=.bool _) rfl rfl (⟨congrArg Value.bool ?_,((ai.rfl_.next E2).next E3)⟩))))))))))
       first
        |exact (decide_eq_false hno).symm
        |(rw [decide_eq_decide];exact ⟨fun h=>⟨q0,q1,q2,q3,q4,q5,q6,q7,q8,q9,q10,q11,h⟩,fun h=>h.2.2.2.2.2.2.2.2.2.2.2.2⟩)
      have hno:¬ (k=k2∧f=f2∧t=t2∧tm=tm2∧ix=ix2∧lt=lt2∧cm=cm2∧rd=rd2∧ok=ok2∧es=es2∧a=a2∧d=d2∧dn=dn2):=fun e=>Q8 e.2.2.2.2.2.1
      refine ab rfl rfl (ab rfl rfl (ab rfl rfl (ab rfl rfl (ab rfl rfl (aa (ay (v:=.bool _) rfl rfl) (mvb rfl (ab rfl rfl (ab rfl rfl ?_))))))));refine ab rfl rfl (ab rfl rfl (ab rfl rfl (aa (ay (v:=.bool _) rfl rfl) (mvb rfl (ab rfl rfl (ab rfl rfl (ab rfl rfl (ab rfl rfl ?_))))))));refine ab rfl rfl (aa (ay (v:=.bool _) rfl rfl) (mvb rfl (ab rfl rfl (ab rfl rfl (ab rfl rfl (ab rfl rfl (ab rfl rfl (aa (ay (v:=.bool _) rfl rfl) ?_))))))));refine mvb rfl (ab rfl rfl (ab rfl rfl (ab rfl rfl (ab rfl rfl (ab rfl rfl (aa (ay (v:=.bool _) rfl rfl) (mvb rfl (ab rfl rfl ?_))))))));refine ab rfl rfl (ab rfl rfl (ab rfl rfl (ab rfl rfl (aa (ay (v:=.bool _) rfl rfl) (mvb rfl (ab rfl rfl (ab rfl rfl (ab rfl rfl ?_))))))));refine ab rfl rfl (ab rfl rfl (aa (ay (v:=.bool _) rfl rfl) (asb rfl (ak (ah (aD (bm (v:=.bool _) rfl rfl (⟨congrArg Value.bool ?_,((ai.rfl_.next E2).next E3)⟩))))))))
      first
       |exact (decide_eq_false hno).symm
       |(rw [decide_eq_decide];exact ⟨fun h=>⟨q0,q1,q2,q3,q4,q5,q6,q7,q8,q9,q10,q11,h⟩,fun h=>h.2.2.2.2.2.2.2.2.2.2.2.2⟩)
     have hno:¬ (k=k2∧f=f2∧t=t2∧tm=tm2∧ix=ix2∧lt=lt2∧cm=cm2∧rd=rd2∧ok=ok2∧es=es2∧a=a2∧d=d2∧dn=dn2):=fun e=>Q7 e.2.2.2.2.1
     refine ab rfl rfl (ab rfl rfl (ab rfl rfl (ab rfl rfl (ab rfl rfl (aa (ay (v:=.bool _) rfl rfl) (mvb rfl (ab rfl rfl (ab rfl rfl ?_))))))));refine ab rfl rfl (ab rfl rfl (ab rfl rfl (aa (ay (v:=.bool _) rfl rfl) (mvb rfl (ab rfl rfl (ab rfl rfl (ab rfl rfl (ab rfl rfl ?_))))))));refine ab rfl rfl (aa (ay (v:=.bool _) rfl rfl) (mvb rfl (ab rfl rfl (ab rfl rfl (ab rfl rfl (ab rfl rfl (ab rfl rfl (aa (ay (v:=.bool _) rfl rfl) ?_))))))));refine mvb rfl (ab rfl rfl (ab rfl rfl (ab rfl rfl (ab rfl rfl (ab rfl rfl (aa (ay (v:=.bool _) rfl rfl) (mvb rfl (ab rfl rfl ?_))))))));refine ab rfl rfl (ab rfl rfl (ab rfl rfl (ab rfl rfl (aa (ay (v:=.bool _) rfl rfl) (mvb rfl (ab rfl rfl (ab rfl rfl (ab rfl rfl ?_))))))));refine ab rfl rfl (ab rfl rfl (aa (ay (v:=.bool _) rfl rfl) (mvb rfl (ab rfl rfl (ab rfl rfl (ab rfl rfl (ab rfl rfl (ab rfl rfl ?_))))))));refine aa (ay (v:=.bool _) rfl rfl) (asb rfl (ak (ah (aD (bm (v:=.bool _) rfl rfl (⟨congrArg Value.bool ?_,((ai.rfl_.next E2).next E3)⟩))))))
     first
      |exact (decide_eq_false hno).symm
      |(rw [decide_eq_decide];exact ⟨fun h=>⟨q0,q1,q2,q3,q4,q5,q6,q7,q8,q9,q10,q11,h⟩,fun h=>h.2.2.2.2.2.2.2.2.2.2.2.2⟩)
    have hno:¬ (k=k2∧f=f2∧t=t2∧tm=tm2∧ix=ix2∧lt=lt2∧cm=cm2∧rd=rd2∧ok=ok2∧es=es2∧a=a2∧d=d2∧dn=dn2):=fun e=>Q6 e.2.2.2.1
    refine ab rfl rfl (ab rfl rfl (ab rfl rfl (ab rfl rfl (ab rfl rfl (aa (ay (v:=.bool _) rfl rfl) (mvb rfl (ab rfl rfl (ab rfl rfl ?_))))))));refine ab rfl rfl (ab rfl rfl (ab rfl rfl (aa (ay (v:=.bool _) rfl rfl) (mvb rfl (ab rfl rfl (ab rfl rfl (ab rfl rfl (ab rfl rfl ?_))))))));refine ab rfl rfl (aa (ay (v:=.bool _) rfl rfl) (mvb rfl (ab rfl rfl (ab rfl rfl (ab rfl rfl (ab rfl rfl (ab rfl rfl (aa (ay (v:=.bool _) rfl rfl) ?_))))))));refine mvb rfl (ab rfl rfl (ab rfl rfl (ab rfl rfl (ab rfl rfl (ab rfl rfl (aa (ay (v:=.bool _) rfl rfl) (mvb rfl (ab rfl rfl ?_))))))));refine ab rfl rfl (ab rfl rfl (ab rfl rfl (ab rfl rfl (aa (ay (v:=.bool _) rfl rfl) (mvb rfl (ab rfl rfl (ab rfl rfl (ab rfl rfl ?_))))))));refine ab rfl rfl (ab rfl rfl (aa (ay (v:=.bool _) rfl rfl) (mvb rfl (ab rfl rfl (ab rfl rfl (ab rfl rfl (ab rfl rfl (ab rfl rfl ?_))))))));refine aa (ay (v:=.bool _) rfl rfl) (mvb rfl (ab rfl rfl (ab rfl rfl (ab rfl rfl (ab rfl rfl (ab rfl rfl (aa (ay (v:=.bool _) rfl rfl) (asb rfl ?_))))))));refine ak (ah (aD (bm (v:=.bool _) rfl rfl (⟨congrArg Value.bool ?_,((ai.rfl_.next E2).next E3)⟩))))
    first
     |exact (decide_eq_false hno).symm
     |(rw [decide_eq_decide];exact ⟨fun h=>⟨q0,q1,q2,q3,q4,q5,q6,q7,q8,q9,q10,q11,h⟩,fun h=>h.2.2.2.2.2.2.2.2.2.2.2.2⟩)
   have hno:¬ (k=k2∧f=f2∧t=t2∧tm=tm2∧ix=ix2∧lt=lt2∧cm=cm2∧rd=rd2∧ok=ok2∧es=es2∧a=a2∧d=d2∧dn=dn2):=fun e=>Q5 e.2.2.1
   refine ab rfl rfl (ab rfl rfl (ab rfl rfl (ab rfl rfl (ab rfl rfl (aa (ay (v:=.bool _) rfl rfl) (mvb rfl (ab rfl rfl (ab rfl rfl ?_))))))));refine ab rfl rfl (ab rfl rfl (ab rfl rfl (aa (ay (v:=.bool _) rfl rfl) (mvb rfl (ab rfl rfl (ab rfl rfl (ab rfl rfl (ab rfl rfl ?_))))))));refine ab rfl rfl (aa (ay (v:=.bool _) rfl rfl) (mvb rfl (ab rfl rfl (ab rfl rfl (ab rfl rfl (ab rfl rfl (ab rfl rfl (aa (ay (v:=.bool _) rfl rfl) ?_))))))));refine mvb rfl (ab rfl rfl (ab rfl rfl (ab rfl rfl (ab rfl rfl (ab rfl rfl (aa (ay (v:=.bool _) rfl rfl) (mvb rfl (ab rfl rfl ?_))))))));refine ab rfl rfl (ab rfl rfl (ab rfl rfl (ab rfl rfl (aa (ay (v:=.bool _) rfl rfl) (mvb rfl (ab rfl rfl (ab rfl rfl (ab rfl rfl ?_))))))));refine ab rfl rfl (ab rfl rfl (aa (ay (v:=.bool _) rfl rfl) (mvb rfl (ab rfl rfl (ab rfl rfl (ab rfl rfl (ab rfl rfl (ab rfl rfl ?_))))))));refine aa (ay (v:=.bool _) rfl rfl) (mvb rfl (ab rfl rfl (ab rfl rfl (ab rfl rfl (ab rfl rfl (ab rfl rfl (aa (ay (v:=.bool _) rfl rfl) (mvb rfl ?_))))))));refine ab rfl rfl (ab rfl rfl (ab rfl rfl (ab rfl rfl (ab rfl rfl (aa (ay (v:=.bool _) rfl rfl) (asb rfl (ak (ah (aD (bm (v:=.bool _) rfl rfl ?_))))))))));refine ⟨congrArg Value.bool ?_,((ai.rfl_.next E2).next E3)⟩
   first
    |exact (decide_eq_false hno).symm
    |(rw [decide_eq_decide];exact ⟨fun h=>⟨q0,q1,q2,q3,q4,q5,q6,q7,q8,q9,q10,q11,h⟩,fun h=>h.2.2.2.2.2.2.2.2.2.2.2.2⟩)
  have hno:¬ (k=k2∧f=f2∧t=t2∧tm=tm2∧ix=ix2∧lt=lt2∧cm=cm2∧rd=rd2∧ok=ok2∧es=es2∧a=a2∧d=d2∧dn=dn2):=fun e=>Q4 e.2.1
  refine ab rfl rfl (ab rfl rfl (ab rfl rfl (ab rfl rfl (ab rfl rfl (aa (ay (v:=.bool _) rfl rfl) (mvb rfl (ab rfl rfl (ab rfl rfl ?_))))))));refine ab rfl rfl (ab rfl rfl (ab rfl rfl (aa (ay (v:=.bool _) rfl rfl) (mvb rfl (ab rfl rfl (ab rfl rfl (ab rfl rfl (ab rfl rfl ?_))))))));refine ab rfl rfl (aa (ay (v:=.bool _) rfl rfl) (mvb rfl (ab rfl rfl (ab rfl rfl (ab rfl rfl (ab rfl rfl (ab rfl rfl (aa (ay (v:=.bool _) rfl rfl) ?_))))))));refine mvb rfl (ab rfl rfl (ab rfl rfl (ab rfl rfl (ab rfl rfl (ab rfl rfl (aa (ay (v:=.bool _) rfl rfl) (mvb rfl (ab rfl rfl ?_))))))));refine ab rfl rfl (ab rfl rfl (ab rfl rfl (ab rfl rfl (aa (ay (v:=.bool _) rfl rfl) (mvb rfl (ab rfl rfl (ab rfl rfl (ab rfl rfl ?_))))))));refine ab rfl rfl (ab rfl rfl (aa (ay (v:=.bool _) rfl rfl) (mvb rfl (ab rfl rfl (ab rfl rfl (ab rfl rfl (ab rfl rfl (ab rfl rfl ?_))))))));refine aa (ay (v:=.bool _) rfl rfl) (mvb rfl (ab rfl rfl (ab rfl rfl (ab rfl rfl (ab rfl rfl (ab rfl rfl (aa (ay (v:=.bool _) rfl rfl) (mvb rfl ?_))))))));refine ab rfl rfl (ab rfl rfl (ab rfl rfl (ab rfl rfl (ab rfl rfl (aa (ay (v:=.bool _) rfl rfl) (mvb rfl (ab rfl rfl (ab rfl rfl ?_))))))));refine ab rfl rfl (ab rfl rfl (ab rfl rfl (aa (ay (v:=.bool _) rfl rfl) (asb rfl (ak (ah (aD (bm (v:=.bool _) rfl rfl (⟨congrArg Value.bool ?_,((ai.rfl_.next E2).next E3)⟩)))))))))
  first
   |exact (decide_eq_false hno).symm
   |(rw [decide_eq_decide];exact ⟨fun h=>⟨q0,q1,q2,q3,q4,q5,q6,q7,q8,q9,q10,q11,h⟩,fun h=>h.2.2.2.2.2.2.2.2.2.2.2.2⟩)
 have hno:¬ (k=k2∧f=f2∧t=t2∧tm=tm2∧ix=ix2∧lt=lt2∧cm=cm2∧rd=rd2∧ok=ok2∧es=es2∧a=a2∧d=d2∧dn=dn2):=fun e=>Q3 e.1
 refine ab rfl rfl (ab rfl rfl (ab rfl rfl (ab rfl rfl (ab rfl rfl (aa (ay (v:=.bool _) rfl rfl) (mvb rfl (ab rfl rfl (ab rfl rfl ?_))))))));refine ab rfl rfl (ab rfl rfl (ab rfl rfl (aa (ay (v:=.bool _) rfl rfl) (mvb rfl (ab rfl rfl (ab rfl rfl (ab rfl rfl (ab rfl rfl ?_))))))));refine ab rfl rfl (aa (ay (v:=.bool _) rfl rfl) (mvb rfl (ab rfl rfl (ab rfl rfl (ab rfl rfl (ab rfl rfl (ab rfl rfl (aa (ay (v:=.bool _) rfl rfl) ?_))))))));refine mvb rfl (ab rfl rfl (ab rfl rfl (ab rfl rfl (ab rfl rfl (ab rfl rfl (aa (ay (v:=.bool _) rfl rfl) (mvb rfl (ab rfl rfl ?_))))))));refine ab rfl rfl (ab rfl rfl (ab rfl rfl (ab rfl rfl (aa (ay (v:=.bool _) rfl rfl) (mvb rfl (ab rfl rfl (ab rfl rfl (ab rfl rfl ?_))))))));refine ab rfl rfl (ab rfl rfl (aa (ay (v:=.bool _) rfl rfl) (mvb rfl (ab rfl rfl (ab rfl rfl (ab rfl rfl (ab rfl rfl (ab rfl rfl ?_))))))));refine aa (ay (v:=.bool _) rfl rfl) (mvb rfl (ab rfl rfl (ab rfl rfl (ab rfl rfl (ab rfl rfl (ab rfl rfl (aa (ay (v:=.bool _) rfl rfl) (mvb rfl ?_))))))));refine ab rfl rfl (ab rfl rfl (ab rfl rfl (ab rfl rfl (ab rfl rfl (aa (ay (v:=.bool _) rfl rfl) (mvb rfl (ab rfl rfl (ab rfl rfl ?_))))))));refine ab rfl rfl (ab rfl rfl (ab rfl rfl (aa (ay (v:=.bool _) rfl rfl) (mvb rfl (ab rfl rfl (ab rfl rfl (ab rfl rfl (ab rfl rfl ?_))))))));refine ab rfl rfl (aa (ay (v:=.bool _) rfl rfl) (asb rfl (ak (ah (aD (bm (v:=.bool _) rfl rfl (⟨congrArg Value.bool ?_,((ai.rfl_.next E2).next E3)⟩)))))))
 first
  |exact (decide_eq_false hno).symm
  |(rw [decide_eq_decide];exact ⟨fun h=>⟨q0,q1,q2,q3,q4,q5,q6,q7,q8,q9,q10,q11,h⟩,fun h=>h.2.2.2.2.2.2.2.2.2.2.2.2⟩)
theorem wI (x y:Msg) (w:World) (h:pl x=pl y) (hx:cK w (.slice x.E x.es.length x.c) x.es) (hy:cK w (.slice y.E y.es.length y.c) y.es) (hl:x.es.length≤1000000) :
 Rt prog 48 [.agg (eA x).toArray,.agg (eA y).toArray] w fun v w'=>v=.bool true∧ai w w':=
 (wJ x.k x.f x.t x.tm x.ix x.lt x.cm x.rd x.ok x.E x.es.length x.c x.a x.d x.dn y.k y.f y.t y.tm y.ix y.lt y.cm y.rd y.ok y.E y.es.length y.c y.a y.d y.dn w x.es y.es rfl rfl hx hy (by omega)).mono fun v w' hv=>⟨by
  rw [hv.1];exact congrArg Value.bool (decide_eq_true ⟨(show (pl x).k=(pl y).k from congrArg Msg.k h),(show (pl x).f=(pl y).f from congrArg Msg.f h),(show (pl x).t=(pl y).t from congrArg Msg.t h),(show (pl x).tm=(pl y).tm from congrArg Msg.tm h),(show (pl x).ix=(pl y).ix from congrArg Msg.ix h),(show (pl x).lt=(pl y).lt from congrArg Msg.lt h),(show (pl x).cm=(pl y).cm from congrArg Msg.cm h),(show (pl x).rd=(pl y).rd from congrArg Msg.rd h),(show (pl x).ok=(pl y).ok from congrArg Msg.ok h),(show (pl x).es=(pl y).es from congrArg Msg.es h),(show (pl x).a=(pl y).a from congrArg Msg.a h),(show (pl x).d=(pl y).d from congrArg Msg.d h),(show (pl x).dn=(pl y).dn from congrArg Msg.dn h)⟩),hv.2⟩
theorem yz {X Y:List Msg} (h:X.map pl=Y.map pl) {k:Nat} (hx:k<X.length) (hy:k<Y.length):pl X[k]=pl Y[k]:=by
 have:(X.map pl)[k]'(by simpa using hx)=(Y.map pl)[k]'(by simpa using hy):=by simp only [h]
 simpa using this
theorem rb (A B:Option Addr) (c c2 n:Nat) (X Y:List Msg) (w:World) (hr:gv 13 eA w A X) (hr2:gv 13 eA w B Y) (hX:X.length=n) (hY:Y.length=n) (hp:X.map pl=Y.map pl) (hE:∀ x∈X,cK w (.slice x.E x.es.length x.c) x.es) (hE2:∀ x∈Y,cK w (.slice x.E x.es.length x.c) x.es) (hle:∀ x∈X,x.es.length≤1000000) (hn:n≤100000) :
 Rt prog 50 [.slice A n c,.slice B n c2] w (fun v w'=>v=.bool true∧ai w w'):=by
 refine enter (n:=27) Tryz.func50 rfl rfl rfl (an (ag (asb rfl (ak (ah (an (an (ag (mvs rfl (aa (bu ks rfl) (mvs rfl (aa (bu ks rfl) (aa (ea (dp rfl rfl) (bne_self_eq_false _)) ?_)))))))))))));refine ak (ah (bM rfl (aO (ah (an (an (ag (asi rfl (ak (ah (aZ (ct (G:=Nat) [4,11,12,13,14,15,16,17,18,19,20,21,22,23,24,25,26] (fun k=>[(5,.int .i64 (k:Nat))]) (fun k w'=>k≤n∧ai w w') (fun k=>n-k) (0) ⟨rfl,trivial⟩ ?_ ?_))))))))))))
 ·exact ⟨Nat.zero_le _,ai.rfl_⟩
 rintro k ρ1 w1 ⟨hk,hB⟩;refine an (an (ag (mvi rfl (mvs rfl (aa (bu ks rfl) (aa (bU rfl rfl) (ak (ah (yS rfl (fun Q2=>?_) (fun Q2=>?_))))))))))
 ·have hkX:k<X.length:=by omega
  have hkY:k<Y.length:=by omega
  obtain ⟨ba,oa,rfl,hca⟩:=hr (by omega);obtain ⟨bb,ob,rfl,hcb⟩:=hr2 (by omega);have hxk:=hE _ (List.getElem_mem hkX);have hyk:=hE2 _ (List.getElem_mem hkY);have hlk:=hle _ (List.getElem_mem hkX);refine aO (ah (an (aZ (an ?_))));apply dR 10 [(17,eqp _),(18,eqp _),(19,eqp _),(20,eqp (.agg (eA (X[k]'hkX)).toArray)),(21,eqp _),(22,eqp _),(23,eqp _),(24,eqp (.agg (eA (Y[k]'hkY)).toArray)),(25,eqp _),(26,eqp _)] (by repeat first | exact ep | refine en ?_ | refine dS ?_) (by kernel_rfl) (by kernel_rfl) ⟨av _,av _,av _,av _,av _,av _,av _,av _,av _,av _,trivial⟩
  case hop=>
   constructor
   ·rintro-w4 D4;exact az (aM (v:=.slice _ _ _) rfl) rfl
   constructor
   ·rintro-w5 D5;exact az (aM (v:=.int _ _) rfl) rfl
   constructor
   ·rintro-w6 D6;rintro _ rfl _ rfl;exact az (bR kt rfl rfl (by omega)) rfl
   constructor
   ·rintro-w7 D7;rintro _ rfl;exact az (aJ (cs:=eA (X[k]'hkX)) gQ fV rfl (eS (hB.next D7) (hca k hkX))) rfl
   constructor
   ·rintro-w8 D8;exact az (aM (v:=.slice _ _ _) rfl) rfl
   constructor
   ·rintro-w9 D9;exact az (aM (v:=.int _ _) rfl) rfl
   constructor
   ·rintro-w10 D10;rintro _ rfl _ rfl;exact az (bR kt rfl rfl (by omega)) rfl
   constructor
   ·rintro-w11 D11;rintro _ rfl;exact az (aJ (cs:=eA (Y[k]'hkY)) gQ fV rfl (eS (hB.next D11) (hcb k hkY))) rfl
   constructor
   ·rintro-w12 D12;rintro v12_20 rfl v12_24 rfl;refine fK ur ((wI (X[k]'hkX) (Y[k]'hkY) _ (yz hp hkX hkY) (hxk.from_ (hB.next D12)) (hyk.from_ (hB.next D12)) hlk).mono ?_);rintro v _ ⟨rfl,E12'⟩;exact ⟨E12',rfl⟩
   constructor
   ·rintro-w13 D13;rintro _ rfl;exact az (cz rfl) rfl
   exact trivial
  case hend=>
   intro w14 D14;rintro _ rfl _ rfl _ rfl v20 rfl _ rfl _ rfl _ rfl v24 rfl _ rfl _ rfl;show St ..;refine ak (ah (yQ rfl (fun Q15=>?_) (fun Q15=>?_)))
   ·exfalso;contradiction
   refine aO (bH (ah (ag (mvi rfl (aa (cT (b:=1) rfl rfl (by omega)) (asi rfl (ak ?_)))))));refine cG (k+1) ⟨(by first | rfl | (refine br ?_;omega)),trivial⟩ (by (iterate 35 refine bQ rfl ?_);exact cf) ⟨?_,?_⟩
   ·exact ⟨by omega,(hB.next D14)⟩
   ·omega
 refine cd (bd (bd (bL (ah (an (ag (asb rfl (ak (ah (aD (bm (v:=.bool _) rfl rfl (⟨rfl,hB⟩))))))))))))
theorem jR:prog.built 99 [(0,.int .i64 (-9))]=some #[.int .i64 (-9),.int .i64 0,.string ⟨#[]⟩]:=by kernel_rfl
theorem qi:prog.built 99 []=some #[.int .i64 0,.int .i64 0,.string ⟨#[]⟩]:=by kernel_rfl
theorem mz:aV prog 93=true:=by kernel_rfl
theorem ga:aV prog 43=true:=by kernel_rfl
theorem jS:prog.built 54 [(0,.int .i64 (-9))]=some #[.int .i64 (-9),.int .i64 0,.int .i64 0,.slice none 0 0]:=by kernel_rfl
theorem jT:prog.built 39 [(0,.int .i64 (-9))]=some #[.int .i64 (-9),.int .i64 0,.int .i64 0,.int .i64 0,.int .i64 0,.int .i64 0,.int .i64 0,.int .i64 0,.bool false,.slice none 0 0,.int .i64 0,.string ⟨#[]⟩,.bool false]:=by kernel_rfl
theorem qj:prog.built 39 []=some #[.int .i64 0,.int .i64 0,.int .i64 0,.int .i64 0,.int .i64 0,.int .i64 0,.int .i64 0,.int .i64 0,.bool false,.slice none 0 0,.int .i64 0,.string ⟨#[]⟩,.bool false]:=by kernel_rfl
theorem o0 (base:Nat) (A:Option Addr) (c n:Nat) (xs:List Value) (w:World) (ho:w.ownsRow base 99 3 (.slice A n c) n xs) (hb:base≤w.heap.size) (hl:n≤1000000000) :
 Rt prog 93 [.slice A n c] w (fun v w'=>v=.tuple #[]∧w.grownBy w' (A.map (·.block))):=by
 refine enter (n:=17) Tryz.func93 rfl rfl rfl (an (an (ag (asi rfl (ak (ah (aZ (ct (G:=Nat×List Value) [3,4,5,6,7,8,9,10,11,12] (fun (k,_)=>[(2,.int .i64 (k:Nat))]) (fun (k,ys) w'=>k≤n∧w'.ownsRow base 99 3 (.slice A n c) n ys∧w.grownBy w' (A.map (·.block))) (fun (k,_)=>n-k) ((0,xs)) ⟨rfl,trivial⟩ ?_ ?_))))))))
 ·exact ⟨Nat.zero_le _,ho,World.grownBy.refl _ _⟩
 rintro ⟨k,ys⟩ ρ1 w1 ⟨hk,ho2,hG⟩;refine an (an (ag (mvi rfl (mvs rfl (aa (bu dt rfl) (aa (bU rfl rfl) (ak (ah (yS rfl (fun Q2=>?_) (fun Q2=>?_))))))))))
 ·obtain ⟨g,rfl⟩:=eH ho2 (by omega);refine aO (ah (an (aZ (ag (mvs rfl (mvi rfl (aa (cp (l:=[(0,.const (.int .i64 (-9)))]) (jR)) (aa (jt cw rfl rfl (by omega)) ?_))))))));refine kF (size:=3) (o:=k*3) (vs:=[.int .i64 (-9),.int .i64 0,.string ⟨#[]⟩]) mf (by show Value.pointer (some ⟨g,0+k*3,none⟩)=_;rw [Nat.zero_add]) rfl (by simp [Value.oneCell']) ho2 (by omega) (by show k*3+3≤n*3;omega) ?_;intro w3 O3 P3;refine ak (bH (ah (ag (mvi rfl (aa (bE rfl rfl (by omega)) (asi rfl (ak ?_)))))));refine cG ((k+1,ik ys (k*3) [.int .i64 (-9),.int .i64 0,.string ⟨#[]⟩])) ⟨(by first | rfl | (refine br ?_;omega)),trivial⟩ (by (iterate 22 refine bQ rfl ?_);exact cf) ⟨?_,?_⟩
  ·exact ⟨by omega,P3,eg hG (eP.grown O3)⟩
  ·show n-(k+1)<n-k;omega
 refine cd (bd (bd (bL (ah (ag (mvs rfl (aa (cp (l:=[]) (qi)) (i_ (l:=[(0,.tmp 14)]) (cells:=#[.int .i64 0,.int .i64 0,.string ⟨#[]⟩]) iO rfl rfl (by first | rfl | kernel_rfl) ?_))))))));intro bx w4 Ex hbx hkx;refine jr (news:=[.int .i64 0,.int .i64 0,.string ⟨#[]⟩]) iO rfl (by decide) rfl (ho2.kept_from Ex) (Nat.le_trans hb (Nat.le_trans hG.size Ex.size)) rfl rfl (fun _=>⟨bx,0,rfl,hkx.whole⟩) (fun h=>by cases h) (by simp [Value.oneCell']) (by omega) (by omega) ?_;intro Ax cx w5 hox hgx;refine ass rfl (ak (df (eX rfl (⟨rfl,eg (eg hG (Ex.grown _)) hgx⟩))))
theorem iv (base:Nat) (A:Option Addr) (c n:Nat) (xs:List Value) (w:World) (ho:w.ownsRow base 3 1 (.slice A n c) n xs) (hb:base≤w.heap.size) (hl:n≤1000000000) :
 Rt prog 43 [.slice A n c] w (fun v w'=>v=.tuple #[]∧w.grownBy w' (A.map (·.block))):=by
 refine enter (n:=15) Tryz.func43 rfl rfl rfl (an (an (ag (asi rfl (ak (ah (aZ (ct (G:=Nat×List Value) [3,4,5,6,7,8,9,10,11] (fun (k,_)=>[(2,.int .i64 (k:Nat))]) (fun (k,ys) w'=>k≤n∧w'.ownsRow base 3 1 (.slice A n c) n ys∧w.grownBy w' (A.map (·.block))) (fun (k,_)=>n-k) ((0,xs)) ⟨rfl,trivial⟩ ?_ ?_))))))))
 ·exact ⟨Nat.zero_le _,ho,World.grownBy.refl _ _⟩
 rintro ⟨k,ys⟩ ρ1 w1 ⟨hk,ho2,hG⟩;refine an (an (ag (mvi rfl (mvs rfl (aa (bu b_ rfl) (aa (bU rfl rfl) (ak (ah (yS rfl (fun Q2=>?_) (fun Q2=>?_))))))))))
 ·obtain ⟨g,rfl⟩:=eH ho2 (by omega);refine aO (ah (an (aZ (ag (mvs rfl (mvi rfl (aa (dc ch rfl rfl (by omega)) (jd (i:=k) (v:=.int .i64 (-99)) bp rfl rfl rfl ho2 (by omega) ?_))))))));intro w3 O3 P3;refine ak (bH (ah (ag (mvi rfl (aa (bE rfl rfl (by omega)) (asi rfl (ak ?_)))))));refine cG ((k+1,ys.set k (.int .i64 (-99)))) ⟨(by first | rfl | (refine br ?_;omega)),trivial⟩ (by (iterate 20 refine bQ rfl ?_);exact cf) ⟨?_,?_⟩
  ·exact ⟨by omega,P3,eg hG (eP.grown O3)⟩
  ·show n-(k+1)<n-k;omega
 refine cd (bd (bd (bL (ah (ag (mvs rfl (i_ (l:=[(0,.const (.int .i64 5))]) (cells:=#[.int .i64 5]) aX rfl rfl (by first | rfl | kernel_rfl) ?_)))))));intro bx w4 Ex hbx hkx;refine jr (news:=[.int .i64 5]) aX rfl (by decide) rfl (ho2.kept_from Ex) (Nat.le_trans hb (Nat.le_trans hG.size Ex.size)) rfl rfl (fun _=>⟨bx,0,rfl,hkx.whole⟩) (fun h=>by cases h) (by simp [Value.oneCell']) (by omega) (by omega) ?_;intro Ax cx w5 hox hgx;refine ass rfl (ak (df (eX rfl (⟨rfl,eg (eg hG (Ex.grown _)) hgx⟩))))
def mZ (k:Int):Msg:={ zM with k:=k }
def qZ:Rd×Option Addr×Nat:=(⟨-9,0,0,[]⟩,none,0)
section
variable {α:Type}
def spX (z:α) (X:List α) (k:Nat):List α:=List.replicate k z++X.drop k
theorem fS {z:α} {X:List α} {k:Nat} (h:k≤X.length):(spX z X k).length=X.length:=by simp [spX];omega
theorem uF {z:α} {X:List α} {k:Nat} (h:k<X.length):(spX z X k)[k]'(by rw [fS (by omega)];exact h)=X[k]:=by
 simp [spX,List.getElem_append_right]
theorem pL {z:α} {X:List α} {k:Nat} (h:k<X.length):(spX z X k).set k z=spX z X (k+1):=by
 unfold spX;rw [List.set_append_right _ _ (by simp),List.length_replicate,Nat.sub_self,List.drop_eq_getElem_cons h,List.set_cons_zero,List.replicate_succ',List.append_assoc];rfl
end
theorem yK (k:Int):Instr.fill (fun i=>some (i*13,13)) ((Array.range (1*13)).map ((.agg (eA (mZ 0)).toArray:Value).cells[·%(.agg (eA (mZ 0)).toArray:Value).cells.size]!)) [(0,.agg (eA (mZ k)).toArray)]=some (eA (mZ k)).toArray:=by
 first
  |kernel_rfl
  |rfl
def U5 (Z:Nat) (tag:Nat→Nat) (j:Nat):Nat→Prop:=fun q=>q<Z∧tag q<j
def UA (Z:Nat) (tag:Nat→Nat) (k:Nat):Nat→Prop:=fun q=>q<Z∧(tag q≤5∨∃ i,i<k∧tag q=1001+2*i)
def UM (Z:Nat) (tag:Nat→Nat) (k:Nat):Nat→Prop:=fun q=>q<Z∧(tag q=6∨∃ i,i<k∧tag q=1000+2*i)
theorem U5.up {Z j:Nat} {tag:Nat→Nat} {w w':World} (h:Chg (U5 Z tag j) w w'):Chg (U5 Z tag (j+1)) w w':=h.wide fun _ h=>.inl ⟨h.1,Nat.lt_succ_of_lt h.2⟩
theorem UA.up {Z k:Nat} {tag:Nat→Nat} {w w':World} (h:Chg (UA Z tag k) w w'):Chg (UA Z tag (k+1)) w w':=h.wide fun _ h=>.inl ⟨h.1,h.2.imp id fun ⟨i,a,b⟩=>⟨i,Nat.lt_succ_of_lt a,b⟩⟩
theorem UM.up {Z k:Nat} {tag:Nat→Nat} {w w':World} (h:Chg (UM Z tag k) w w'):Chg (UM Z tag (k+1)) w w':=h.wide fun _ h=>.inl ⟨h.1,h.2.imp id fun ⟨i,a,b⟩=>⟨i,Nat.lt_succ_of_lt a,b⟩⟩
theorem nr {w0 w1 w2 w3:World} {tag:Nat→Nat} {d e s n c:Nat} {A:Option Addr} {xs:List Value} (h:w0.ownsRow 0 e s (.slice A n c) n xs∧Col tag d A) (hg:w2.grownBy w3 (A.map (·.block))) (hC:Chg (U5 w0.heap.size tag d) w1 w2):Chg (U5 w0.heap.size tag (d+1)) w1 w3:=
 (U5.up hC).next (Chg.of_grown hg fun q hq=>⟨cU h.1 q hq,by rw [h.2 q hq];exact Nat.lt_succ_self _⟩)
theorem fc (tag:Nat→Nat) (s:Rf) (a:Ra) (w:World) (h:aR w tag s a) (hl:s.votes.length≤1000000∧s.next.length≤1000000∧s.mtch.length≤1000000∧s.sent.length≤1000000∧s.reads.length≤1000000∧∀ q∈s.reads,q.acks.length≤1000000) (hel:s.es.length≤1000000) :
 Rt prog 51 [.agg (rfV s a).toArray] w (fun v w'=>v=.tuple #[]∧Chg (fun q=>StC (tag q)) w w'):=by
 obtain ⟨hl1,hl2,hl3,hl4,hl5,hl6⟩:=id hl;have hLl:a.L.length=s.reads.length:=by rw [←h.r (by decide),List.length_map]
 refine enter (n:=38) Tryz.func51 rfl rfl rfl (an (ag (cE (v:=.agg _) rfl ?_)));intro b1 w1 E1 hb1 hk1;refine ak (ah (an (ag (aa (ae bk rfl) (aa (ae bt rfl) (aa (ar bD rfl (by exact (show _=some (Value.slice a.E s.es.length a.Ec) from (hk1.from_ ai.rfl_).rd 8 rfl))) ?_))))));have hz0:=E1.size;have hB1:ai w w1:=(ai.rfl_.next E1);have hC0:Chg (U5 w.heap.size tag 0) w1 w1:=Chg.rfl_;have hkb0:=hk1.from_ ai.rfl_;have hn1:∀ j,¬ U5 w.heap.size tag j b1:=fun j e=>absurd e.1 (by omega)
 have hnA:∀ j,¬ UA w.heap.size tag j b1:=fun j e=>absurd e.1 (by omega)
 obtain ⟨wb,hwb⟩:∃ x,x=w1:=⟨_,rfl⟩;rw [←hwb] at hB1 hC0 hkb0;have hr0:=dB ((h.e (by decide)).1.kept_from hB1) hC0 (fun k hk e=>absurd e.2 (by rw [(h.e (by decide)).2 k hk];omega));refine aA mz (o0 0 a.E a.Ec s.es.length (dX s.es) _ (by rw [←hwb];exact hr0) (Nat.zero_le _) (by omega)) ?_;rintro v6 w2 ⟨rfl,hg0⟩;rw [←hwb] at hg0;have hC1:=nr (h.e (by decide)) hg0 hC0;have hkb1:=hkb0.chg hC1 (hn1 _);refine ak (ah (an (ag (aa (ae cP rfl) (aa (ar aP rfl (by exact (show _=some (Value.slice a.V s.votes.length a.Vc) from (hkb1.from_ ai.rfl_).rd 14 rfl))) ?_)))));have hM1:ai _ w2:=ai.rfl_;have hr1:=dB ((h.v (by decide)).1.kept_from hB1) (hC1.next hM1.toChg) (fun k hk e=>absurd e.2 (by rw [(h.v (by decide)).2 k hk];omega));refine aA ga (iv 0 a.V a.Vc s.votes.length (s.votes.map iV) _ hr1 (Nat.zero_le _) (by omega)) ?_;rintro v9 w3 ⟨rfl,hg1⟩;have hC2:=nr (h.v (by decide)) hg1 (hC1.next hM1.toChg);have hkb2:=hkb0.chg hC2 (hn1 _);refine ak (ah (an (ag (aa (ae bN rfl) (aa (ar aP rfl (by exact (show _=some (Value.slice a.X s.next.length a.Xc) from (hkb2.from_ ai.rfl_).rd 15 rfl))) ?_)))));have hM2:ai _ w3:=ai.rfl_;have hr2:=dB ((h.x (by decide)).1.kept_from hB1) (hC2.next hM2.toChg) (fun k hk e=>absurd e.2 (by rw [(h.x (by decide)).2 k hk];omega));refine aA ga (iv 0 a.X a.Xc s.next.length (s.next.map iV) _ hr2 (Nat.zero_le _) (by omega)) ?_;rintro v12 w4 ⟨rfl,hg2⟩;have hC3:=nr (h.x (by decide)) hg2 (hC2.next hM2.toChg);have hkb3:=hkb0.chg hC3 (hn1 _);refine ak (ah (an (ag (aa (ae bX rfl) (aa (ar aP rfl (by exact (show _=some (Value.slice a.M s.mtch.length a.Mc) from (hkb3.from_ ai.rfl_).rd 16 rfl))) ?_)))));have hM3:ai _ w4:=ai.rfl_;have hr3:=dB ((h.m (by decide)).1.kept_from hB1) (hC3.next hM3.toChg) (fun k hk e=>absurd e.2 (by rw [(h.m (by decide)).2 k hk];omega));refine aA ga (iv 0 a.M a.Mc s.mtch.length (s.mtch.map iV) _ hr3 (Nat.zero_le _) (by omega)) ?_;rintro v15 w5 ⟨rfl,hg3⟩;have hC4:=nr (h.m (by decide)) hg3 (hC3.next hM3.toChg);have hkb4:=hkb0.chg hC4 (hn1 _);refine ak (ah (an (ag (aa (ae bS rfl) (aa (ar aP rfl (by exact (show _=some (Value.slice a.S s.sent.length a.Sc) from (hkb4.from_ ai.rfl_).rd 17 rfl))) ?_)))));have hM4:ai _ w5:=ai.rfl_;have hr4:=dB ((h.n (by decide)).1.kept_from hB1) (hC4.next hM4.toChg) (fun k hk e=>absurd e.2 (by rw [(h.n (by decide)).2 k hk];omega));refine aA ga (iv 0 a.S a.Sc s.sent.length (s.sent.map iV) _ hr4 (Nat.zero_le _) (by omega)) ?_;rintro v18 w6 ⟨rfl,hg4⟩;have hC5:=nr (h.n (by decide)) hg4 (hC4.next hM4.toChg);have hkb5:=hkb0.chg hC5 (hn1 _);refine ak (ah (an (ag (asi rfl (ak (ah (aZ (ct (G:=Nat) [19,20,21,22,23,24,25,26,27,28,29,30,31,32,33,34,35,36,37] (fun k=>[(2,.int .i64 (k:Nat))]) (fun k w'=>k≤a.L.length∧w'.ownsRow 0 54 4 (.slice a.Q a.L.length a.Qc) a.L.length ((spX qZ a.L k).flatMap rdV)∧Chg (UA w.heap.size tag k) wb w') (fun k=>a.L.length-k) (0) ⟨rfl,trivial⟩ ?_ ?_))))))))
 ·exact ⟨Nat.zero_le _,dB ((h.q (by decide)).1.kept_from hB1) (hC5.next (ai.rfl_:ai _ w6).toChg) (fun k hk e=>absurd e.2 (by rw [(h.q (by decide)).2 k hk];omega)),(hC5.next (ai.rfl_:ai _ w6).toChg).wide fun q e=>.inl ⟨e.1,.inl (by have:=e.2;omega)⟩⟩
 rintro k ρ7 w7 ⟨hk,hoQ,hCk⟩;refine an (an (ag (mvi rfl (aa (ae bc rfl) (aa (ar bo rfl (by exact (show _=some (Value.slice a.Q a.L.length a.Qc) from ((hkb0.chg hCk (hnA _)).from_ ai.rfl_).rd 19 rfl))) ?_)))));refine aa (bu bW rfl) (aa (bU rfl rfl) (ak (ah (yS rfl (fun Q8=>?_) (fun Q8=>?_)))))
 ·have hkL:k<a.L.length:=by omega
  have hqk:a.L[k].1∈s.reads:=by rw [←h.r (by decide)];exact List.mem_map_of_mem (List.getElem_mem hkL)
  obtain ⟨gq,hgq⟩:∃ g,a.Q=some ⟨g,0,none⟩:=eH hoQ (by omega);have hcq:∀ q,a.Q.map (·.block)=some q→tag q=5:=fun q hq=>(h.q (by decide)).2 q hq
  have hlq:=cU (h.q (by decide)).1;rw [hgq] at hoQ hcq hlq;have hkq:Blk w7 b1 29 (rfV s { a with Q:=some ⟨gq,0,none⟩ }).toArray:=by rw [←hgq];exact (hkb0.chg hCk (hnA _)).from_ ai.rfl_
  obtain ⟨bx,ox,hAx,hcx⟩:=(gv.own gi (by decide) hoQ).2 (by rw [fS (by omega)];omega);cases hAx;have hvx:=hcx k (by rw [fS (by omega)];exact hkL);rw [uF hkL] at hvx;have hc31:(w7).cell? ⟨gq,0+k*4+3,none⟩=some (.slice a.L[k].2.1 a.L[k].1.acks.length a.L[k].2.2):=ei ai.rfl_ (hvx 3 _ rfl);refine aO (ah (an (aZ (an (ag (aa (ae bc rfl) (aa (ar bo rfl (by exact (show _=some (Value.slice (some ⟨gq,0,none⟩) a.L.length a.Qc) from (hkq.from_ ai.rfl_).rd 19 rfl))) ?_)))))));refine mvi rfl (aa (bR de rfl rfl (by omega)) (aa (ae cZ rfl) (aa (ar aP rfl (by exact ei ai.rfl_ hc31)) ?_)));have hM32:ai _ w7:=ai.rfl_;have hrk:=dB ((h.k k hkL (by omega)).1.kept_from hB1) (hCk.next hM32.toChg) (fun q hq e=>by rcases e.2 with e2 | ⟨i,hi,e2⟩ <;> rw [(h.k k hkL (by omega)).2 q hq] at e2 <;> omega);refine aA ga (iv 0 a.L[k].2.1 a.L[k].2.2 a.L[k].1.acks.length (a.L[k].1.acks.map iV) _ hrk (Nat.zero_le _) (by have:=hl.2.2.2.2.2 _ hqk;omega)) ?_;rintro v32 w9 ⟨rfl,hg32⟩;have hC9:Chg (UA w.heap.size tag (k+1)) wb w9:=(UA.up (hCk.next hM32.toChg)).next (Chg.of_grown hg32 fun q hq=>⟨cU (h.k k hkL (by omega)).1 q hq,.inr ⟨k,Nat.lt_succ_self _,(h.k k hkL (by omega)).2 q hq⟩⟩);have hoQ9:=dB (hoQ.kept_from hM32) (Chg.of_grown (U:=fun q=>tag q=1001+2*k) hg32 fun q hq=>(h.k k hkL (by omega)).2 q hq) (fun q hq e=>by have:=hcq q hq;omega);refine ak (ah (ag (aa (ae bc rfl) ?_)));refine aa (ar bo rfl (by exact (show _=some (Value.slice (some ⟨gq,0,none⟩) a.L.length a.Qc) from by rw [←hgq];exact ((hkb0.chg hC9 (hnA _)).from_ ai.rfl_).rd 19 rfl))) ?_;refine mvi rfl (aa (cp (l:=[(0,.const (.int .i64 (-9)))]) (jS)) (aa (bR de rfl rfl (by omega)) ?_));have hM10:ai _ w9:=ai.rfl_;have hoQ8:=hoQ9.kept_from hM10;obtain ⟨g',cur,hgA,_,hbk,_⟩:=lf hoQ8 (by omega);cases hgA;refine kF (size:=4) (o:=k*4) (vs:=rdV qZ) cD (by show Value.pointer (some ⟨gq,0+k*4,none⟩)=_;rw [Nat.zero_add]) rfl (by simp [rdV,qZ,Value.oneCell']) hoQ8 (by omega) (by show k*4+4≤a.L.length*4;omega) ?_;intro w10 O10 P10;rw [o_ gi _ k (by rw [fS (by omega)];exact hkL),pL hkL] at P10;have hC10:Chg (UA w.heap.size tag (k+1)) wb w10:=(hC9.next hM10.toChg).next (O10.toChg ⟨hlq gq rfl,.inl (by have:=hcq gq rfl;omega)⟩);rw [←hgq] at P10;refine ak (bH (ah (ag (mvi rfl (aa (bE rfl rfl (by omega)) (asi rfl (ak ?_)))))));refine cG (k+1) ⟨(by first | rfl | (refine br ?_;omega)),trivial⟩ (by (iterate 40 refine bQ rfl ?_);exact cf) ⟨?_,?_⟩
  ·exact ⟨by omega,P10.kept_from ai.rfl_,(hC10.next (ai.rfl_:ai _ w10).toChg)⟩
  ·omega
 refine cd (bd (bd (bL (df (eX rfl (⟨rfl,(hB1.toChg.next ((hCk.next (ai.rfl_:ai _ w7).toChg).wide fun q e=>.inl ?_))⟩))))));rcases e.2 with e2 | ⟨i,_,e2⟩
 ·exact .inl e2
 ·exact .inr ⟨i,e2⟩
theorem k7 (tag:Nat→Nat) (out:List Msg) (A:Option Addr) (c:Nat) (L:List Msg) (w:World) (h:ew w tag out A c L) (hl:L.length≤100000) (hle:∀ x∈L,x.es.length≤1000000) :
 Rt prog 52 [.slice A L.length c] w (fun v w'=>v=.tuple #[]∧Chg (fun q=>tag q=6∨∃ i,tag q=1000+2*i) w w'):=by
 refine enter (n:=23) Tryz.func52 rfl rfl rfl (an (an (ag (asi rfl (ak (ah (aZ (ct (G:=Nat) [3,4,5,6,7,8,9,10,11,12,13,14,15,16,17,18] (fun k=>[(2,.int .i64 (k:Nat))]) (fun k w'=>k≤L.length∧w'.ownsRow 0 39 13 (.slice A L.length c) L.length ((spX (mZ (-9)) L k).flatMap eA)∧Chg (UM w.heap.size tag k) w w') (fun k=>L.length-k) (0) ⟨rfl,trivial⟩ ?_ ?_))))))))
 ·exact ⟨Nat.zero_le _,h.o.kept_from ai.rfl_,(ai.rfl_:ai _ w).toChg⟩
 rintro k ρ1 w1 ⟨hk,hoQ,hCk⟩;refine an (an (ag (mvi rfl (mvs rfl (aa (bu ks rfl) (aa (bU rfl rfl) (ak (ah (yS rfl (fun Q2=>?_) (fun Q2=>?_))))))))))
 ·have hkX:k<L.length:=by omega
  obtain ⟨g,hgq⟩:∃ g,A=some ⟨g,0,none⟩:=eH hoQ (by omega);subst hgq;have hcq:∀ q,(some (⟨g,0,none⟩:Addr)).map (·.block)=some q→tag q=6:=fun q hq=>h.c q hq
  have hlq:=cU h.o;have hEk:=hle _ (List.getElem_mem hkX);obtain ⟨bx,ox,hAx,hcx⟩:=(gv.own nb (by decide) hoQ).2 (by rw [fS (by omega)];omega);cases hAx;have hvx:=hcx k (by rw [fS (by omega)];exact hkX);rw [uF hkX] at hvx;refine aO (ah (an (aZ (an (ag (mvs rfl (mvi rfl (aa (bR kt rfl rfl (by omega)) (aa (ae g_ rfl) (aa (ar bD rfl (by exact ei ai.rfl_ (hvx 9 _ rfl))) ?_))))))))));have hM14:ai _ w1:=ai.rfl_;have hrk:=dB (h.e k hkX).1 (hCk.next hM14.toChg) (fun q hq e=>by rcases e.2 with e2 | ⟨i,hi,e2⟩ <;> rw [(h.e k hkX).2 q hq] at e2 <;> omega);refine aA mz (o0 0 L[k].E L[k].c L[k].es.length (dX L[k].es) _ hrk (Nat.zero_le _) (by omega)) ?_;rintro v14 w3 ⟨rfl,hg14⟩;have hC9:Chg (UM w.heap.size tag (k+1)) w w3:=(UM.up (hCk.next hM14.toChg)).next (Chg.of_grown hg14 fun q hq=>⟨cU (h.e k hkX).1 q hq,.inr ⟨k,Nat.lt_succ_self _,(h.e k hkX).2 q hq⟩⟩);have hoQ9:=dB (hoQ.kept_from hM14) (Chg.of_grown (U:=fun q=>tag q=1000+2*k) hg14 fun q hq=>(h.e k hkX).2 q hq) (fun q hq e=>by have:=hcq q hq;omega);refine ak (ah (ag (mvs rfl (mvi rfl (aa (cp (l:=[(0,.const (.int .i64 (-9)))]) (jT)) (aa (bR kt rfl rfl (by omega)) ?_))))));have hM10:ai _ w3:=ai.rfl_;have hoQ8:=hoQ9.kept_from hM10;obtain ⟨g',cur,hgA,_,hbk,_⟩:=lf hoQ8 (by omega);cases hgA;refine kF (size:=13) (o:=k*13) (vs:=eA (mZ (-9))) fV (by show Value.pointer (some ⟨g,0+k*13,none⟩)=_;rw [Nat.zero_add]) rfl (by simp [eA,mZ,zM,Value.oneCell']) hoQ8 (by omega) (by show k*13+13≤L.length*13;omega) ?_;intro w4 O10 P10;rw [o_ nb _ k (by rw [fS (by omega)];exact hkX),pL hkX] at P10;have hC10:Chg (UM w.heap.size tag (k+1)) w w4:=(hC9.next hM10.toChg).next (O10.toChg ⟨hlq g rfl,.inl (by have:=hcq g rfl;omega)⟩);refine ak (bH (ah (ag (mvi rfl (aa (bE rfl rfl (by omega)) (asi rfl (ak ?_)))))));refine cG (k+1) ⟨(by first | rfl | (refine br ?_;omega)),trivial⟩ (by (iterate 34 refine bQ rfl ?_);exact cf) ⟨?_,?_⟩
  ·exact ⟨by omega,P10.kept_from ai.rfl_,hC10.next (ai.rfl_:ai _ w4).toChg⟩
  ·omega
 refine cd (bd (bd (bL (ah (ag (mvs rfl (aa (cp (l:=[]) (qj)) ?_)))))));have hM21:ai _ w1:=ai.rfl_;refine i_ (l:=[(0,.tmp 20)]) (cells:=(eA (mZ 0)).toArray) gP rfl rfl (yK 0) ?_;intro b21 w5 E21 hb21 hk21;have hM22:ai _ w5:=(hM21.next E21);have ho9:=hoQ.kept_from hM22;refine jr (base:=0) (news:=eA (mZ 0)) gP rfl (by decide) rfl ho9 (Nat.zero_le _) rfl rfl (fun _=>⟨b21,0,rfl,hk21.whole⟩) (fun h=>by cases h) (by simp [eA,mZ,zM,Value.oneCell']) (by omega) (by omega) ?_;intro A22 c22 w6 ho22 hg22;have hC22:Chg (UM w.heap.size tag L.length) w w6:=((hCk.wide fun q e=>.inl ⟨e.1,e.2.imp id fun ⟨i,a,b⟩=>⟨i,by omega,b⟩⟩).next hM22.toChg).next (Chg.of_grown hg22 fun q hq=>⟨cU h.o q hq,.inl (h.c q hq)⟩);refine ass rfl (ak (df (eX rfl (⟨rfl,(hC22.next (ai.rfl_:ai _ w6).toChg).wide fun q e=>.inl (e.2.imp id fun ⟨i,_,b⟩=>⟨i,b⟩)⟩))))
end Go.Proofs.YtkpooenofjdpmaaGreat
namespace Go.Proofs.YtkpooenofjdpmaaGreat
open Go.Proofs.Tryz (prog)
open Go.RowKit
abbrev tw:Ty:=.pr (.int .i64) (.pr (.int .i64) (.pr .str .unit))
theorem tn {w:World} {c:Nat→Option Value} {xs:List tw.den} (h:(Ty.sl tw).At w c xs) :
 ∃ (v:Value) (es:List Ent),c 0=some v∧cK w v es∧(∀ e∈es,e.Ok)∧es.length*32≤140737488351232:=by
 obtain ⟨A,cap,h0,h1,h2,h3⟩:=h;refine ⟨_,xs.map fun x=>⟨x.1,x.2.1,x.2.2.1⟩,h0,⟨A,cap,by rw [List.length_map],by rw [List.length_map];exact h2.1,h2.2.1,h2.2.2,fun hp=>?_⟩,?_,by rw [List.length_map];exact h1⟩
 ·rw [List.length_map] at hp;obtain ⟨b,o,hA,hb,hi⟩:=h3 hp;refine ⟨b,o,hA,hb,fun i hil=>?_⟩;rw [List.length_map] at hil;obtain ⟨⟨c1,_⟩,⟨c2,_⟩,⟨c3,_⟩,_⟩:=hi i _ (List.getElem?_eq_getElem hil);rw [List.getElem_map];exact ⟨c1,c2,c3⟩
 ·intro e he;simp only [List.mem_map] at he;obtain ⟨x,hx,rfl⟩:=he;obtain ⟨i,hil,rfl⟩:=List.mem_iff_getElem.1 hx;obtain ⟨b,o,hA,hb,hi⟩:=h3 (Nat.lt_of_le_of_lt (Nat.zero_le _) hil);obtain ⟨⟨_,c1⟩,⟨_,c2⟩,⟨_,c3⟩,_⟩:=hi i _ (List.getElem?_eq_getElem hil);have b1:=bounds_i64 c1;have b2:=bounds_i64 c2;exact ⟨b1.1,b1.2,b2.1,b2.2,c3⟩
end Go.Proofs.YtkpooenofjdpmaaGreat
namespace Go.Proofs.YtkpooenofjdpmaaGreat
open Go.Proofs.Tryz (prog)
open Go.RowKit
open Go.ChangeShapes Go.WideShapes Go.ChangeAt
theorem rU:cL prog 99 2=some 2:=by kernel_rfl
theorem rT:(prog.underlying 3).isSome=true:=by kernel_rfl
theorem oK:prog.underlying 108=some (.int .u64):=by kernel_rfl
theorem sW:(prog.underlying 108).isSome=true:=by kernel_rfl
theorem pD:aV prog 25=true:=by kernel_rfl
abbrev y5:Ty:=.pr (.int .i64) (.pr (.int .i64) (.pr (.int .i64) (.pr (.int .i64) (.pr (.int .i64) (.pr (.int .i64) (.pr (.int .i64) (.pr (.int .i64) (.pr .bool (.pr (.sl tw) (.pr (.int .i64) (.pr .str (.pr .bool .unit))))))))))))
abbrev l_:Ty:=.pr (.int .i64) (.pr y5 (.pr .bool (.pr .str (.pr (.int .i64) .unit))))
abbrev uW:Ty:=.pr (.int .i64) (.pr (.int .i64) (.pr (.int .i64) (.pr (.sl (.int .i64)) .unit)))
abbrev y9:Ty:=.pr (.int .i64) (.pr (.int .i64) (.pr (.sl tw) .unit))
abbrev jf:Ty:=.pr (.int .i64) (.pr (.int .i64) (.pr (.int .i64) (.pr (.int .i64) (.pr (.int .i64) (.pr (.int .i64) (.pr y9 (.pr .str (.pr (.int .i64) (.pr (.int .i64) (.pr (.int .i64) (.pr (.int .u64) (.pr (.sl (.int .i64)) (.pr (.sl (.int .i64)) (.pr (.sl (.int .i64)) (.pr (.sl (.int .i64)) (.pr (.int .i64) (.pr (.sl uW) (.pr .str (.pr (.int .i64) .unit)))))))))))))))))))
structure Ac where
 dx:Int
 m:Msg
 fit:Bool
 d:ByteArray
 i:Int
def acV (x:Ac):List Value:=.int .i64 x.dx::(eA x.m++[.bool x.fit,.string x.d,.int .i64 x.i])
theorem tr {α:Type} {f:α→List Value} {t:Ty} {w:World} {P:α→Prop} (hg:∀ (c:Nat→Option Value) (x:t.den),t.At w c x→∃ y:α,(∀ j v,(f y)[j]? =some v→c j=some v)∧P y) {c:Nat→Option Value} {xs:List t.den} (h:(Ty.sl t).At w c xs) :
 ∃ (A:Option Addr) (cap:Nat) (L:List α),c 0=some (.slice A L.length cap)∧gv t.size f w A L∧(∀ y∈L,P y)∧L.length*t.bytes≤140737488351232∧L.length≤cap∧cap≤9223372036854775807∧(A=none→L.length=0∧cap=0):=by
 obtain ⟨A,cap,h0,h1,h2,h3⟩:=h
 have hno:A=none→xs.length=0:=fun e=>by
  rcases Nat.eq_zero_or_pos xs.length with hz | hz
  ·exact hz
  ·obtain ⟨b,o,hA,_⟩:=h3 hz;rw [e] at hA;cases hA
 rcases Nat.eq_zero_or_pos xs.length with hz | hz
 ·refine ⟨A,cap,[],by rw [h0];rw [hz];rfl,fun h=>absurd h (Nat.lt_irrefl _),fun y hy=>(by cases hy),(by rw [List.length_nil,Nat.zero_mul];exact Nat.zero_le _),Nat.zero_le _,h2.2.1,fun e=>⟨rfl,h2.2.2 e⟩⟩
 ·obtain ⟨b,o,hA,hb,hi⟩:=h3 hz;have g:∀ i:Fin xs.length,∃ y:α,(∀ j v,(f y)[j]? =some v→w.cell? ⟨b,o+i*t.size+j,none⟩=some v)∧P y:=fun i=>hg _ _ (hi i.1 xs[i.1] (List.getElem?_eq_getElem i.2))
  refine ⟨A,cap,List.ofFn fun i=>Classical.choose (g i),by rw [List.length_ofFn];exact h0,fun _=>⟨b,o,hA,fun i hil=>?_⟩,fun y hy=>?_,by rw [List.length_ofFn];exact h1,by rw [List.length_ofFn];exact h2.1,h2.2.1,fun e=>⟨by rw [List.length_ofFn];exact hno e,h2.2.2 e⟩⟩
  ·rw [List.length_ofFn] at hil;intro j v hv;rw [List.getElem_ofFn] at hv;exact (Classical.choose_spec (g ⟨i,hil⟩)).1 j v hv
  ·obtain ⟨i,hil,rfl⟩:=List.getElem_of_mem hy;rw [List.length_ofFn] at hil;rw [List.getElem_ofFn];exact (Classical.choose_spec (g ⟨i,hil⟩)).2
theorem ry {w:World} {c:Nat→Option Value} {xs:List Int} (h:(Ty.sl (.int .i64)).At w c xs):∃ (A:Option Addr) (cap:Nat),c 0=some (.slice A xs.length cap)∧IR w A cap xs∧xs.length*8≤140737488351232:=by
 have h':=h;obtain ⟨A0,c0,g0,g1,g2,g3⟩:=h';obtain ⟨A,cap,h0,hr,_,hb,hc⟩:=wY h;rw [g0] at h0;cases h0;refine ⟨A0,c0,g0,⟨(eb.of_row hr).2,hc.1,hc.2,fun e=>⟨?_,g2.2.2 e⟩⟩,hb⟩;rcases Nat.eq_zero_or_pos xs.length with hz | hz
 ·exact hz
 ·obtain ⟨b,o,hA,_⟩:=g3 hz;rw [e] at hA;cases hA
def ze (w:World) (q:Rd×Option Addr×Nat):Prop:=IR w q.2.1 q.2.2 q.1.acks∧q.1.acks.length*8≤140737488351232
theorem wW {w:World} (c:Nat→Option Value) (x:uW.den) (h:uW.At w c x):∃ q:Rd×Option Addr×Nat,(∀ j v,(rdV q)[j]? =some v→c j=some v)∧ze w q:=by
 obtain ⟨x0,x1,x2,xl,_⟩:=x;obtain ⟨g0,g1,g2,gl,_⟩:=h;obtain ⟨A,cap,e0,e1,e2⟩:=ry gl;refine ⟨(⟨x0,x1,x2,xl⟩,A,cap),fun j v hv=>?_,e1,e2⟩
 match j,hv with
 |0,hv=>cases hv;exact g0.1
 |1,hv=>cases hv;exact g1.1
 |2,hv=>cases hv;exact g2.1
 |3,hv=>cases hv;exact e0
 |j+4,hv=>simp [rdV] at hv
def vP (w:World) (x:Ac):Prop:=cK w (.slice x.m.E x.m.es.length x.m.c) x.m.es∧(∀ e∈x.m.es,e.Ok)∧x.m.es.length*32≤140737488351232∧x.m.d.size≤140737488351232∧x.d.size≤140737488351232
theorem vP.from_ {w w':World} {x:Ac} (h:vP w x) (hF:ai w w'):vP w' x:=⟨h.1.from_ hF,h.2⟩
theorem yb {w:World} (c:Nat→Option Value) (x:l_.den) (h:l_.At w c x):∃ X:Ac,(∀ j v,(acV X)[j]? =some v→c j=some v)∧vP w X:=by
 obtain ⟨x0,⟨xk,xf,xt,xtm,xix,xlt,xcm,xrd,xok,xE,xa,xd,xdn,_⟩,xb,xs,xi,_⟩:=x;obtain ⟨g0,⟨g1,g2,g3,g4,g5,g6,g7,g8,g9,gE,g11,g12,g13,_⟩,g14,g15,g16,_⟩:=h;obtain ⟨v,es,e0,e1,e2,e3⟩:=tn gE;have e1':=e1;obtain ⟨E,c9,rfl,_⟩:=e1';refine ⟨⟨x0,{ zM with k:=xk,f:=xf,t:=xt,tm:=xtm,ix:=xix,lt:=xlt,cm:=xcm,rd:=xrd,ok:=xok,a:=xa,d:=xd,dn:=xdn,E:=E,c:=c9,es:=es },xb,xs,xi⟩,fun j v hv=>?_,e1,e2,e3,g12.2,g15.2⟩
 match j,hv with
 |0,hv=>cases hv;exact g0.1
 |1,hv=>cases hv;exact g1.1
 |2,hv=>cases hv;exact g2.1
 |3,hv=>cases hv;exact g3.1
 |4,hv=>cases hv;exact g4.1
 |5,hv=>cases hv;exact g5.1
 |6,hv=>cases hv;exact g6.1
 |7,hv=>cases hv;exact g7.1
 |8,hv=>cases hv;exact g8.1
 |9,hv=>cases hv;exact g9
 |10,hv=>cases hv;exact e0
 |11,hv=>cases hv;exact g11.1
 |12,hv=>cases hv;exact g12.1
 |13,hv=>cases hv;exact g13
 |14,hv=>cases hv;exact g14
 |15,hv=>cases hv;exact g15.1
 |16,hv=>cases hv;exact g16.1
 |j+17,hv=>simp [acV,eA] at hv
structure yY (s:Rf) (a:Ra):Prop where
 sn:s.snap.size≤140737488351232
 pa:s.part.size≤140737488351232
 es:s.es.length*32≤140737488351232
 eo:∀ e∈s.es,e.Ok
 v:s.votes.length*8≤140737488351232
 x:s.next.length*8≤140737488351232
 m:s.mtch.length*8≤140737488351232
 n:s.sent.length*8≤140737488351232
 q:a.L.length*48≤140737488351232
 k:∀ q∈a.L,q.1.acks.length*8≤140737488351232
theorem wX {w:World} {c:Nat→Option Value} {x:jf.den} (h:jf.At w c x):∃ (s:Rf) (a:Ra),(∀ j v,(rfV s a)[j]? =some v→c j=some v)∧eD w s a∧yY s a:=by
 obtain ⟨x0,x1,x2,x3,x4,x5,⟨xb,xt,xe,_⟩,xsn,xco,xel,xti,xse,xv,xx,xm,xn,xro,xq,xpa,xpo,_⟩:=x;obtain ⟨g0,g1,g2,g3,g4,g5,⟨g6,g7,g8,_⟩,g9,g10,g11,g12,g13,g14,g15,g16,g17,g18,g19,g20,g21,_⟩:=h;obtain ⟨v,es,e0,e1,e2,e3⟩:=tn g8;have e1':=e1;obtain ⟨E,Ec,rfl,_⟩:=e1';obtain ⟨V,Vc,v0,v1,v2⟩:=ry g14;obtain ⟨X,Xc,y0,y1,y2⟩:=ry g15;obtain ⟨M,Mc,m0,m1,m2⟩:=ry g16;obtain ⟨N,Nc,n0,n1,n2⟩:=ry g17;obtain ⟨Q,Qc,L,q0,q1,q2,q3,q4,q5,q6⟩:=tr (f:=rdV) wW g19;refine ⟨{ id:=x0,nodes:=x1,role:=x2,term:=x3,vote:=x4,leader:=x5,b:=xb,t:=xt,es:=es,snap:=xsn,commit:=xco,elapsed:=xel,timeout:=xti,seed:=xse,votes:=xv,next:=xx,mtch:=xm,sent:=xn,round:=xro,reads:=L.map (fun q=>q.1),part:=xpa,partOf:=xpo },⟨E,Ec,V,Vc,X,Xc,M,Mc,N,Nc,Q,Qc,L⟩,fun j v hv=>?_,⟨e1,v1,y1,m1,n1,rfl,q1,⟨q4,q5,q6⟩,fun q hq=>(q2 q hq).1⟩,⟨g9.2,g20.2,e3,e2,v2,y2,m2,n2,q3,fun q hq=>(q2 q hq).2⟩⟩
 match j,hv with
 |0,hv=>cases hv;exact g0.1
 |1,hv=>cases hv;exact g1.1
 |2,hv=>cases hv;exact g2.1
 |3,hv=>cases hv;exact g3.1
 |4,hv=>cases hv;exact g4.1
 |5,hv=>cases hv;exact g5.1
 |6,hv=>cases hv;exact g6.1
 |7,hv=>cases hv;exact g7.1
 |8,hv=>cases hv;exact e0
 |9,hv=>cases hv;exact g9.1
 |10,hv=>cases hv;exact g10.1
 |11,hv=>cases hv;exact g11.1
 |12,hv=>cases hv;exact g12.1
 |13,hv=>cases hv;exact g13.1
 |14,hv=>cases hv;exact v0
 |15,hv=>cases hv;exact y0
 |16,hv=>cases hv;exact m0
 |17,hv=>cases hv;exact n0
 |18,hv=>cases hv;exact g18.1
 |19,hv=>cases hv;exact q0
 |20,hv=>cases hv;exact g20.1
 |21,hv=>cases hv;exact g21.1
 |j+22,hv=>simp [rfV] at hv
structure qh (w:World) (s:Rf) (a:Ra) (LA:Option Addr) (X:List Ac):Prop where
 r:eD w s a
 z:yY s a
 x:gv 17 acV w LA X
 o:∀ y∈X,vP w y
 n:X.length*147≤140737488351232
theorem qh.from_ {w w':World} {s:Rf} {a:Ra} {LA:Option Addr} {X:List Ac} (h:qh w s a LA X) (hF:ai w w'):qh w' s a LA X:=⟨h.r.from_ hF,h.z,h.x.from_ hF,fun y hy=>(h.o y hy).from_ hF,h.n⟩
def scV (s:Rf) (a:Ra) (LA:Option Addr) (n lc:Nat):List Value:=rfV s a++[.slice LA n lc]
theorem zc {cs:Array Value} {l:List Value} (hs:cs.size=l.length) (h:∀ (j:Nat) (v:Value),l[j]? =some v→cs[j]? =some v):cs=l.toArray:=by
 apply Array.ext_getElem?;intro i;rcases Nat.lt_or_ge i l.length with hi | hi
 ·rw [h i _ (List.getElem?_eq_getElem hi)];simp [hi]
 ·rw [Array.getElem?_eq_none (by omega)];simp [hi]
theorem lZ {w:World} {cs:Array Value} {x:(Ty.pr jf (.pr (.sl l_) .unit)).den} (hs:cs.size=23) (h:(Ty.pr jf (.pr (.sl l_) .unit)).At w (fun j=>cs[j]?) x):∃ s a LA lc X,cs=(scV s a LA (List.length X) lc).toArray∧qh w s a LA X:=by
 obtain ⟨h1,h2,_⟩:=h;obtain ⟨s,a,hc,hr,hz⟩:=wX h1;obtain ⟨LA,lc,X,q0,q1,q2,q3,q4,q5,q6⟩:=tr (f:=acV) yb h2;refine ⟨s,a,LA,lc,X,zc hs fun j v hv=>?_,⟨hr,hz,q1,q2,q3⟩⟩;unfold scV at hv;rcases Nat.lt_or_ge j 22 with hj | hj
 ·rw [List.getElem?_append_left (show j<(rfV s a).length from hj)] at hv;exact hc j v hv
 ·rw [List.getElem?_append_right (show (rfV s a).length≤j from hj)] at hv
  obtain rfl:j=22:=by
   have:=(List.getElem?_eq_some_iff.1 hv).1;rw [k_] at this;simp at this;omega
  simp [k_] at hv;subst hv;exact q0
def Small (s:Rf) (X:List Ac):Prop:=(s.votes.length≤20000∧s.next.length≤20000∧s.mtch.length≤20000∧s.sent.length≤20000∧s.reads.length≤20000∧∀ q∈s.reads,q.acks.length≤20000)∧s.es.length≤600∧X.length≤100∧(s.snap.size≤20000∧s.part.size≤20000)∧∀ y∈X,y.m.es.length≤200∧y.m.d.size≤20000∧y.d.size≤20000
theorem vz {w:World} {A:Option Addr} {n c:Nat} {es:List Ent} (h:cK w (.slice A n c) es) (hs:∀ e∈es,e.Ok) (h0:0<n):∃ b o,A=some ⟨b,o,none⟩∧∀ j,j<n→∃ s:ByteArray,w.cell? ⟨b,o+j*3+2,none⟩=some (.string s)∧s.size≤140737488351232:=by
 obtain ⟨A',c',hv,_,_,_,hp⟩:=h;simp only [Value.slice.injEq] at hv;obtain ⟨rfl,rfl,rfl⟩:=hv;obtain ⟨b,o,hA,_,hc⟩:=hp h0;exact ⟨b,o,hA,fun j hj=>⟨es[j].d,(hc j hj).2.2,(hs _ (List.getElem_mem hj)).2.2.2.2⟩⟩
theorem ll (A:Option Addr) (c n:Nat) (es:List Ent) (w:World) (he:cK w (.slice A n c) es) (ho:∀ e∈es,e.Ok) (hl:n≤140737488351232) :
 Rt prog 25 [.slice A n c] w (fun v w'=>(∃ m:Nat,v=.int .i64 (m:Nat)∧n≤m∧m≤562949953421312)∧w=w'):=by
 refine enter (n:=26) Tryz.func25 rfl rfl rfl (an (ag (asi rfl (ak (ah (an (ag (mvs rfl (aa (bu dt rfl) (asi rfl (ak (ah (an (an (ag (asi rfl ?_))))))))))))))));refine ak (ah (aZ (ct (G:=Nat×Nat) [7,8,9,10,11,12,13,14,15,16,17,18,19,20,21,22,23,24] (fun (m,k)=>[(3,.int .i64 (m:Nat)),(4,.int .i64 (k:Nat))]) (fun (m,k) w'=>k≤n∧n≤m∧m≤562949953421312∧w=w') (fun (_,k)=>n-k) ((n,0)) ⟨rfl,rfl,trivial⟩ ?_ ?_)))
 ·exact ⟨Nat.zero_le _,Nat.le_refl _,by omega,rfl⟩
 rintro ⟨m,k⟩ ρ1 w1 ⟨hk,hnm,hm,rfl⟩;refine an (an (ag (mvi rfl (mvs rfl (aa (bu dt rfl) (aa (bU rfl rfl) (mvb rfl (yo (t:=11) rfl (fun Q2=>?_) (fun Q2=>?_)))))))))
 ·refine af rfl (mvi rfl (af rfl (aa (bU rfl rfl) (aa (aq (v:=.bool _) rfl rfl) (ak (ah (yS rfl (fun Q3=>?_) (fun Q3=>?_))))))))
  ·obtain ⟨ba,oa,hA,hcs⟩:=vz he ho (by omega);subst hA;obtain ⟨s,hs1,hs2⟩:=hcs k (by omega);refine aO (ah (an (aZ (ag (mvi rfl (mvs rfl (mvi rfl (aa (bR cw rfl rfl (by omega)) (aa (ae rU rfl) (aa (ar bY rfl (by exact hs1)) ?_))))))))));refine aa (dQ (by kernel_rfl) rfl) (aa (cT rfl rfl (by omega)) (asi rfl (ak (bH (ah (ag (mvi rfl (aa (cT (b:=1) rfl rfl (by omega)) (asi rfl (ak ?_))))))))));refine cG ((m+s.size,k+1)) ⟨(by first | rfl | (refine br ?_;omega)),(by first | rfl | (refine br ?_;omega)),trivial⟩ (by (iterate 41 refine bQ rfl ?_);exact cf) ⟨?_,?_⟩
   ·exact ⟨by omega,by omega,by omega,rfl⟩
   ·show n-(k+1)<n-k;omega
  refine cd (bd (bd (bL (ah (an (ag (mvi rfl (asi rfl (ak (ah (aD (bm (v:=.int _ _) rfl rfl (⟨⟨_,rfl,hnm,hm⟩,rfl⟩)))))))))))))
 refine ab rfl rfl (ab rfl rfl (aa (ay (v:=.bool _) rfl rfl) (ak (ah (bM rfl (cd (bd (bd (bL (ah (an (ag (mvi rfl (asi rfl ?_))))))))))))));refine ak (ah (aD (bm (v:=.int _ _) rfl rfl (⟨⟨_,rfl,hnm,hm⟩,rfl⟩))))
def wiN (i:Int) (n:Nat):Nat:=(IntKind.u64.wrap i).toNat%n
theorem uy (i:Int) (n:Nat) (w:World) (hn:0<n∧n≤1000) :
 Rt prog 31 [.int .i64 i,.int .i64 (n:Nat)] w (fun v w'=>v=.int .i64 (wiN i n:Nat)∧w=w'):=by
 obtain ⟨a,ha,ha2⟩:∃ a:Nat,IntKind.u64.wrap i=(a:Int)∧a<18446744073709551616:=⟨(IntKind.u64.wrap i).toNat,by rw [IntKind.wrap_u64];omega,by rw [IntKind.wrap_u64];omega⟩;have hm:a%n<n:=Nat.mod_lt _ hn.1;have hwi:wiN i n=a%n:=by unfold wiN;rw [ha];rfl
 refine enter (n:=11) Tryz.func31 rfl rfl rfl (an (ag (asi rfl (ak (ah (an (ag (mvi rfl (aa (pP rT oK rfl) (ey (t:=6) (v:=.int _ _) (v':=.int .u64 (a:Nat)) rfl (by rw [ha]) ?_))))))))));refine mvi rfl (aa (tQ rT oK rfl (by omega)) (aa (uN rfl rfl (by omega)) ?_));refine ey (t:=9) (v:=.int _ _) (v':=.int .u64 ((a%n:Nat):Int)) rfl (by rw [Int.tmod_eq_emod_of_nonneg (by omega)];rfl) ?_;refine aa (uQ sW pB rfl (by omega)) (asi rfl (ak (ah (aD (bm (v:=.int _ _) rfl rfl ?_)))));rw [hwi];exact ⟨rfl,rfl⟩
theorem ph (m:Msg) (w:World) (he:cK w (.slice m.E m.es.length m.c) m.es) (ho:∀ e∈m.es,e.Ok) (hl:m.es.length≤140737488351232) (hd:m.d.size≤140737488351232) :
 Rt prog 26 [.agg (eA m).toArray] w (fun v w'=>(∃ b,v=.bool b∧(b=false→m.es.length≤200∧m.d.size≤20000))∧ai w w'):=by
 refine enter (n:=19) Tryz.func26 rfl rfl rfl (an (ag (cE (v:=.agg _) rfl ?_)));intro b1 w1 E1 hb1 hk1;refine asb rfl (ak (ah (an (ag (aa (ae jI rfl) (aa (ar bY rfl (by exact (show _=some (Value.string m.d) from (hk1.from_ ai.rfl_).rd 11 rfl))) ?_))))));refine aa (dQ (by kernel_rfl) rfl) (aa (b0 rfl rfl) (mvb rfl (yo (t:=7) rfl (fun Q2=>?_) (fun Q2=>?_))))
 ·refine ab rfl rfl (ab rfl rfl (ab rfl rfl (ab rfl rfl (aa (aq (v:=.bool _) rfl rfl) (mvb rfl (ab rfl rfl (ab rfl rfl (ab rfl rfl ?_))))))));refine ab rfl rfl (aa (aq (v:=.bool _) rfl rfl) (asb rfl (ak (ah (aD (bm (v:=.bool _) rfl rfl (⟨⟨_,rfl,fun h=>?_⟩,(ai.rfl_.next E1)⟩)))))))
  first
   |(exfalso;simp at h;done)
   |(have h9:=dF_ h;omega)
   |(simp only [decide_eq_false_iff_not] at h;omega)
   |(simp at h;omega)
 refine af rfl (aa (ae g_ rfl) (af rfl (aa (ar bD rfl (by exact (show _=some (Value.slice m.E m.es.length m.c) from (hk1.from_ ai.rfl_).rd 9 rfl))) ?_)));refine af rfl (aA pD (ll m.E m.c m.es.length m.es _ (he.from_ (ai.rfl_.next E1)) ho hl) ?_);rintro v10 w3 ⟨⟨m10,rfl,hm1,hm2⟩,rfl⟩;refine af rfl (aa (b0 rfl rfl) (aa (ay (v:=.bool _) rfl rfl) (mvb rfl (yo (t:=13) rfl (fun Q4=>?_) (fun Q4=>?_)))))
 ·refine ab rfl rfl (ab rfl rfl (ab rfl rfl (ab rfl rfl (aa (aq (v:=.bool _) rfl rfl) (asb rfl (ak (ah (aD (bm (v:=.bool _) rfl rfl (⟨⟨_,rfl,fun h=>?_⟩,(ai.rfl_.next E1)⟩))))))))))
  first
   |(exfalso;simp at h;done)
   |(have h9:=dF_ h;omega)
   |(simp only [decide_eq_false_iff_not] at h;omega)
   |(simp at h;omega)
 refine af rfl (aa (ae g_ rfl) (af rfl (aa (ar bD rfl (by exact (show _=some (Value.slice m.E m.es.length m.c) from (hk1.from_ ai.rfl_).rd 9 rfl))) ?_)));refine af rfl (aa (bu dt rfl) (af rfl (aa (b0 rfl rfl) (aa (ay (v:=.bool _) rfl rfl) (asb rfl (ak (ah (aD (bm (v:=.bool _) rfl rfl (⟨⟨_,rfl,fun h=>?_⟩,(ai.rfl_.next E1)⟩))))))))))
 first
  |(exfalso;simp at h;done)
  |(have h9:=dF_ h;omega)
  |(simp only [decide_eq_false_iff_not] at h;omega)
  |(simp at h;omega)
theorem cY:cL prog 32 0=some 0:=by kernel_rfl
theorem dP:cL prog 32 1=some 22:=by kernel_rfl
theorem ej:iR prog 30=some false:=by kernel_rfl
theorem fE:(gC prog 30).isSome=true:=by kernel_rfl
theorem gZ:gC prog 30=some (41,17):=by kernel_rfl
theorem eM:cL prog 41 3=some 15:=by kernel_rfl
theorem kB:cL prog 41 1=some 1:=by kernel_rfl
theorem mB:aV prog 26=true:=by kernel_rfl
theorem ts {w:World} {b a:Nat} {x:Ac} (h:w.rangeAt b a (acV x)):w.rangeAt b (a+1) (eA x.m):=fun j v hv=>by
 have hj:j<13:=(List.getElem?_eq_some_iff.1 hv).1
 have h1:(acV x)[j+1]? =some v:=by
  show (eA x.m++[Value.bool x.fit,.string x.d,.int .i64 x.i])[j]? =some v;rw [List.getElem?_append_left (show j<(eA x.m).length from hj)];exact hv
 have:=h (j+1) v h1
 rwa [show a+(j+1)=a+1+j by omega] at this
theorem cq (s:Rf) (a:Ra) (LA:Option Addr) (lc:Nat) (X:List Ac) (w:World) (h:qh w s a LA X) :
 Rt prog 15 [.agg (scV s a LA X.length lc).toArray] w (fun v w'=>(∃ b,v=.bool b∧(b=false→Small s X))∧ai w w'):=by
 have z1:=h.z.sn;have z2:=h.z.pa;have z3:=h.z.es;have z4:=h.z.v;have z5:=h.z.x;have z6:=h.z.m;have z7:=h.z.n;have z8:=h.z.q;have z9:=h.z.k;have z10:=h.n;have hLl:a.L.length=s.reads.length:=by rw [←h.r.r,List.length_map]
 refine enter (n:=111) Tryz.func15 rfl rfl rfl (an (ag (cE (v:=.agg _) rfl ?_)));intro b1 w1 E1 hb1 hk1;refine asb rfl (ak (ah (an ?_)));apply dR 41 [(6,eqp _),(7,eqp _),(8,eqp (.string s.snap)),(9,eqp _),(10,eqp _),(11,eqp _),(12,eqp (.string s.part)),(13,eqp _),(14,eqp (.int .i64 ((s.snap.size+s.part.size:Nat):Int))),(15,eqp _),(16,eqp _),(17,eqp _),(18,eqp (.slice a.E s.es.length a.Ec)),(19,fun v _=>∃ q:Nat,v=.int .i64 (q:Nat)∧s.es.length≤q∧q≤562949953421312),(20,fun v _=>∃ q:Nat,v=.int .i64 (q:Nat)∧s.snap.size+s.part.size+s.es.length≤q∧q≤844424930123776),(21,eqp _),(22,eqp _),(23,eqp (.slice a.V s.votes.length a.Vc)),(24,eqp _),(25,fun v _=>∃ q:Nat,v=.int .i64 (q:Nat)∧s.snap.size+s.part.size+s.es.length+s.votes.length≤q∧q≤985162418475008),(26,eqp _),(27,eqp _),(28,eqp (.slice a.X s.next.length a.Xc)),(29,eqp _),(30,fun v _=>∃ q:Nat,v=.int .i64 (q:Nat)∧s.snap.size+s.part.size+s.es.length+s.votes.length+s.next.length≤q∧q≤1125899906826240),(31,eqp _),(32,eqp _),(33,eqp (.slice a.M s.mtch.length a.Mc)),(34,eqp _),(35,fun v _=>∃ q:Nat,v=.int .i64 (q:Nat)∧s.snap.size+s.part.size+s.es.length+s.votes.length+s.next.length+s.mtch.length≤q∧q≤1266637395177472),(36,eqp _),(37,eqp _),(38,eqp (.slice a.S s.sent.length a.Sc)),(39,eqp _),(40,fun v _=>∃ q:Nat,v=.int .i64 (q:Nat)∧s.snap.size+s.part.size+s.es.length+s.votes.length+s.next.length+s.mtch.length+s.sent.length≤q∧q≤1407374883528704),(41,eqp _),(42,eqp _),(43,eqp (.slice a.Q a.L.length a.Qc)),(44,eqp _),(45,fun v _=>∃ q:Nat,v=.int .i64 (q:Nat)∧s.snap.size+s.part.size+s.es.length+s.votes.length+s.next.length+s.mtch.length+s.sent.length+a.L.length≤q∧q≤1548112371879936),(3,fun v _=>∃ q:Nat,v=.int .i64 (q:Nat)∧s.snap.size+s.part.size+s.es.length+s.votes.length+s.next.length+s.mtch.length+s.sent.length+a.L.length≤q∧q≤1548112371879936)] (by repeat first | exact ep | refine en ?_ | refine dS ?_) (by kernel_rfl) (by kernel_rfl) ⟨av _,av _,av _,av _,av _,av _,av _,av _,av _,av _,av _,av _,av _,(fun _ _ _ _ h=>h),(fun _ _ _ _ h=>h),av _,av _,av _,av _,(fun _ _ _ _ h=>h),av _,av _,av _,av _,(fun _ _ _ _ h=>h),av _,av _,av _,av _,(fun _ _ _ _ h=>h),av _,av _,av _,av _,(fun _ _ _ _ h=>h),av _,av _,av _,av _,(fun _ _ _ _ h=>h),(fun _ _ _ _ h=>h),trivial⟩
 case hop=>
  constructor
  ·rintro-w3 D3;exact az (ae cY rfl) rfl
  constructor
  ·rintro-w4 D4;rintro _ rfl;exact az (ae cy rfl) rfl
  constructor
  ·rintro-w5 D5;rintro _ rfl;exact az (ar bY rfl (by exact (show _=some (Value.string s.snap) from (hk1.from_ (ai.rfl_.next D5)).rd 9 rfl))) rfl
  constructor
  ·rintro-w6 D6;rintro v6_8 rfl;exact az (dQ (by kernel_rfl) rfl) rfl
  constructor
  ·rintro-w7 D7;exact az (ae cY rfl) rfl
  constructor
  ·rintro-w8 D8;rintro _ rfl;exact az (ae dF rfl) rfl
  constructor
  ·rintro-w9 D9;rintro _ rfl;exact az (ar bY rfl (by exact (show _=some (Value.string s.part) from (hk1.from_ (ai.rfl_.next D9)).rd 20 rfl))) rfl
  constructor
  ·rintro-w10 D10;rintro v10_12 rfl;exact az (dQ (by kernel_rfl) rfl) rfl
  constructor
  ·rintro-w11 D11;rintro _ rfl _ rfl;exact az (cT rfl rfl (by omega)) rfl
  constructor
  ·rintro-w12 D12;exact az (ae cY rfl) rfl
  constructor
  ·rintro-w13 D13;rintro _ rfl;exact az (ae bk rfl) rfl
  constructor
  ·rintro-w14 D14;rintro _ rfl;exact az (ae bt rfl) rfl
  constructor
  ·rintro-w15 D15;rintro _ rfl;exact az (ar bD rfl (by exact (show _=some (Value.slice a.E s.es.length a.Ec) from (hk1.from_ (ai.rfl_.next D15)).rd 8 rfl))) rfl
  constructor
  ·rintro-w16 D16;rintro v16_18 rfl;refine fK pD ((ll a.E a.Ec s.es.length s.es _ (h.r.e.from_ ((ai.rfl_.next E1).next D16)) h.z.eo (by omega)).mono ?_);rintro v w2 ⟨⟨q,rfl,hp,hq⟩,rfl⟩;exact ⟨ai.rfl_,q,rfl,hp,hq⟩
  constructor
  ·rintro-w17 D17;rintro v17_14 rfl v17_19 ⟨q17,rfl,hl17,hu17⟩;exact az (cT rfl rfl (by omega)) ⟨_,rfl,by omega,by omega⟩
  constructor
  ·rintro-w18 D18;exact az (ae cY rfl) rfl
  constructor
  ·rintro-w19 D19;rintro _ rfl;exact az (ae cP rfl) rfl
  constructor
  ·rintro-w20 D20;rintro _ rfl;exact az (ar aP rfl (by exact (show _=some (Value.slice a.V s.votes.length a.Vc) from (hk1.from_ (ai.rfl_.next D20)).rd 14 rfl))) rfl
  constructor
  ·rintro-w21 D21;rintro v21_23 rfl;exact az (bu b_ rfl) rfl
  constructor
  ·rintro-w22 D22;rintro v22_20 ⟨q22,rfl,hl22,hu22⟩ _ rfl;exact az (cT rfl rfl (by omega)) ⟨_,rfl,by omega,by omega⟩
  constructor
  ·rintro-w23 D23;exact az (ae cY rfl) rfl
  constructor
  ·rintro-w24 D24;rintro _ rfl;exact az (ae bN rfl) rfl
  constructor
  ·rintro-w25 D25;rintro _ rfl;exact az (ar aP rfl (by exact (show _=some (Value.slice a.X s.next.length a.Xc) from (hk1.from_ (ai.rfl_.next D25)).rd 15 rfl))) rfl
  constructor
  ·rintro-w26 D26;rintro v26_28 rfl;exact az (bu b_ rfl) rfl
  constructor
  ·rintro-w27 D27;rintro v27_25 ⟨q27,rfl,hl27,hu27⟩ _ rfl;exact az (cT rfl rfl (by omega)) ⟨_,rfl,by omega,by omega⟩
  constructor
  ·rintro-w28 D28;exact az (ae cY rfl) rfl
  constructor
  ·rintro-w29 D29;rintro _ rfl;exact az (ae bX rfl) rfl
  constructor
  ·rintro-w30 D30;rintro _ rfl;exact az (ar aP rfl (by exact (show _=some (Value.slice a.M s.mtch.length a.Mc) from (hk1.from_ (ai.rfl_.next D30)).rd 16 rfl))) rfl
  constructor
  ·rintro-w31 D31;rintro v31_33 rfl;exact az (bu b_ rfl) rfl
  constructor
  ·rintro-w32 D32;rintro v32_30 ⟨q32,rfl,hl32,hu32⟩ _ rfl;exact az (cT rfl rfl (by omega)) ⟨_,rfl,by omega,by omega⟩
  constructor
  ·rintro-w33 D33;exact az (ae cY rfl) rfl
  constructor
  ·rintro-w34 D34;rintro _ rfl;exact az (ae bS rfl) rfl
  constructor
  ·rintro-w35 D35;rintro _ rfl;exact az (ar aP rfl (by exact (show _=some (Value.slice a.S s.sent.length a.Sc) from (hk1.from_ (ai.rfl_.next D35)).rd 17 rfl))) rfl
  constructor
  ·rintro-w36 D36;rintro v36_38 rfl;exact az (bu b_ rfl) rfl
  constructor
  ·rintro-w37 D37;rintro v37_35 ⟨q37,rfl,hl37,hu37⟩ _ rfl;exact az (cT rfl rfl (by omega)) ⟨_,rfl,by omega,by omega⟩
  constructor
  ·rintro-w38 D38;exact az (ae cY rfl) rfl
  constructor
  ·rintro-w39 D39;rintro _ rfl;exact az (ae bc rfl) rfl
  constructor
  ·rintro-w40 D40;rintro _ rfl;exact az (ar bo rfl (by exact (show _=some (Value.slice a.Q a.L.length a.Qc) from (hk1.from_ (ai.rfl_.next D40)).rd 19 rfl))) rfl
  constructor
  ·rintro-w41 D41;rintro v41_43 rfl;exact az (bu bW rfl) rfl
  constructor
  ·rintro-w42 D42;rintro v42_40 ⟨q42,rfl,hl42,hu42⟩ _ rfl;exact az (cT rfl rfl (by omega)) ⟨_,rfl,by omega,by omega⟩
  constructor
  ·rintro-w43 D43;rintro v43_45 ⟨q43,rfl,hl43,hu43⟩;exact az (dg rfl) ⟨_,rfl,by omega,by omega⟩
  exact trivial
 case hend=>
  intro w44 D44;rintro _ rfl _ rfl v8 rfl _ rfl _ rfl _ rfl v12 rfl _ rfl v14 rfl _ rfl _ rfl _ rfl v18 rfl v19 ⟨q44,rfl,hl44,hu44⟩ v20 ⟨q44,rfl,hl44,hu44⟩ _ rfl _ rfl v23 rfl _ rfl v25 ⟨q44,rfl,hl44,hu44⟩ _ rfl _ rfl v28 rfl _ rfl v30 ⟨q44,rfl,hl44,hu44⟩ _ rfl _ rfl v33 rfl _ rfl v35 ⟨q44,rfl,hl44,hu44⟩ _ rfl _ rfl v38 rfl _ rfl v40 ⟨q44,rfl,hl44,hu44⟩ _ rfl _ rfl v43 rfl _ rfl v45 ⟨q44,rfl,hl44,hu44⟩ v3 ⟨q3,rfl,hl3,hu3⟩;show St ..;refine ak (ah (an (an (ag (asi rfl (ak (ah (aZ (ct (G:=Nat×Nat) [46,47,48,49,50,51,52,53,54,55,56,57,58,59,60,61,62,63,64,65,66,67] (fun (m,k)=>[(3,.int .i64 (m:Nat)),(4,.int .i64 (k:Nat))]) (fun (m,k) w'=>k≤a.L.length∧s.snap.size+s.part.size+s.es.length+s.votes.length+s.next.length+s.mtch.length+s.sent.length+a.L.length≤m∧m≤2000000000000000∧(∀ j (h:j<a.L.length),j<k→a.L[j].1.acks.length≤m)∧Blk w' b1 32 (scV s a LA X.length lc).toArray∧ai w w') (fun (_,k)=>a.L.length-k) ((q3,0)) ⟨rfl,rfl,trivial⟩ ?_ ?_)))))))))
  ·exact ⟨Nat.zero_le _,hl3,by omega,fun j _ h=>absurd h (by omega),hk1.from_ (ai.rfl_.next D44),((ai.rfl_.next E1).next D44)⟩
  rintro ⟨m,k⟩ ρ45 w45 ⟨hk,hm1,hm2,hj1,hk1,hB⟩;refine an (an (ag (mvi rfl (aa (ae cY rfl) (aa (ae bc rfl) (aa (ar bo rfl (by exact (show _=some (Value.slice a.Q a.L.length a.Qc) from (hk1.from_ ai.rfl_).rd 19 rfl))) ?_))))));refine aa (bu bW rfl) (aa (bU rfl rfl) (mvb rfl (yo (t:=52) rfl (fun Q46=>?_) (fun Q46=>?_))))
  ·refine af rfl (mvi rfl (af rfl (aa (bU rfl rfl) (aa (aq (v:=.bool _) rfl rfl) (ak (ah (yS rfl (fun Q47=>?_) (fun Q47=>?_))))))))
   ·have hkL:k<a.L.length:=by omega
    have zk:=z9 _ (List.getElem_mem hkL);obtain ⟨ba,oa,hQe,hcs⟩:=h.r.q (by omega);have hkq:Blk w45 b1 32 (scV s { a with Q:=some ⟨ba,oa,none⟩ } LA X.length lc).toArray:=by rw [←hQe];exact hk1.from_ ai.rfl_
    refine aO (ah (an (aZ (ag (mvi rfl (aa (ae cY rfl) (aa (ae bc rfl) (aa (ar bo rfl (by exact (show _=some (Value.slice (some ⟨ba,oa,none⟩) a.L.length a.Qc) from (hkq.from_ ai.rfl_).rd 19 rfl))) ?_))))))));refine mvi rfl (aa (bR de rfl rfl (by omega)) (aa (ae cZ rfl) (aa (ar aP rfl (by exact ei hB (hcs k hkL 3 _ rfl))) ?_)));refine aa (bu b_ rfl) (aa (cT rfl rfl (by omega)) (asi rfl (ak (bH (ah (ag (mvi rfl (aa (bE rfl rfl (by omega)) (asi rfl (ak ?_))))))))));refine cG ((m+a.L[k].1.acks.length,k+1)) ⟨(by first | rfl | (refine br ?_;omega)),(by first | rfl | (refine br ?_;omega)),trivial⟩ (by (iterate 49 refine bQ rfl ?_);exact cf) ⟨?_,?_⟩
    ·refine ⟨by omega,by omega,by omega,fun j h hj=>?_,hk1.from_ ai.rfl_,hB⟩;rcases Nat.lt_or_ge j k with e | e
     ·have:=hj1 j h e;omega
     ·obtain rfl:j=k:=by omega
      omega
    ·show a.L.length-(k+1)<a.L.length-k;omega
   refine cd (bd (bd (bL (ah (an (an (ag (asi rfl (ak (ah (aZ (ct (G:=Nat×Nat) [2,68,69,70,71,72,73,74,75,76,77,78,79,80,81,82,83,84,85,86,87,88,89,90,91,92,93,94] (fun (m2,i)=>[(3,.int .i64 (m2:Nat)),(5,.int .i64 (i:Nat))]) (fun (m2,i) w'=>i≤X.length∧m≤m2∧m2≤2000000000000000∧(∀ j (h:j<X.length),j<i→X[j].m.es.length≤200∧X[j].m.d.size≤20000∧X[j].d.size≤m2)∧Blk w' b1 32 (scV s a LA X.length lc).toArray∧ai w w') (fun (_,i)=>X.length-i) ((m,0)) ⟨rfl,rfl,trivial⟩ ?_ ?_))))))))))))
   ·exact ⟨Nat.zero_le _,Nat.le_refl _,hm2,fun j _ h=>absurd h (by omega),hk1.from_ ai.rfl_,hB⟩
   rintro ⟨m2,i⟩ ρ48 w48 ⟨hk2,hn1,hn2,hj2,hk1,hB⟩;refine an (an (ag (mvi rfl (aa (ae dP rfl) (aa (ar ej rfl (by exact (show _=some (Value.slice LA X.length lc) from (hk1.from_ ai.rfl_).rd 22 rfl))) ?_)))));refine aa (bu fE rfl) (aa (bU rfl rfl) (mvb rfl (yo (t:=73) rfl (fun Q49=>?_) (fun Q49=>?_))))
   ·refine af rfl (mvi rfl (af rfl (aa (bU rfl rfl) (aa (aq (v:=.bool _) rfl rfl) (ak (ah (yS rfl (fun Q50=>?_) (fun Q50=>?_))))))))
    ·have hkX:i<X.length:=by omega
     have hox:=h.o _ (List.getElem_mem hkX);have zk:=hox.2.2.2.2;obtain ⟨ba,oa,hQe,hcs⟩:=h.x (by omega);have hkq:Blk w48 b1 32 (scV s a (some ⟨ba,oa,none⟩) X.length lc).toArray:=by rw [←hQe];exact hk1.from_ ai.rfl_
     refine aO (ah (an (aZ (an (ag (mvi rfl (aa (ae dP rfl) (aa (ar ej rfl (by exact (show _=some (Value.slice (some ⟨ba,oa,none⟩) X.length lc) from (hkq.from_ ai.rfl_).rd 22 rfl))) ?_))))))));refine mvi rfl (aa (bR gZ rfl rfl (by omega)) (aa (ae eM rfl) (aa (ar bY rfl (by exact ei hB (hcs i hkX 15 _ rfl))) ?_)));refine aa (dQ (by kernel_rfl) rfl) (aa (cT rfl rfl (by omega)) (asi rfl (ak (ah (an (ag (aa (ae dP rfl) (aa (ar ej rfl (by exact (show _=some (Value.slice (some ⟨ba,oa,none⟩) X.length lc) from (hkq.from_ ai.rfl_).rd 22 rfl))) ?_))))))));refine mvi rfl (aa (bR gZ rfl rfl (by omega)) (aa (ae kB rfl) (aa (aJ (cs:=eA X[i].m) gQ fV rfl (ts (eS hB (hcs i hkX)))) (aA mB (ph X[i].m _ (hox.1.from_ hB) hox.2.1 (by have:=hox.2.2.1;omega) hox.2.2.2.1) ?_))));rintro v94 w51 ⟨⟨b94,rfl,hb94⟩,E94⟩;refine ak (ah (aY rfl (fun Q52=>?_) (fun Q52=>?_)))
     ·(try with_reducible first | (replace Q52 := dT_ Q52; trace "@MK N cq:g52+.c55-.g73+.c76+.c94+ 1.1") | (replace Q52 := dF_ Q52; trace "@MK N cq:g52+.c55-.g73+.c76+.c94+ 1.2") | (replace Q52 := dz Q52; trace "@MK N cq:g52+.c55-.g73+.c76+.c94+ 1.3") | (replace Q52 := dA Q52; trace "@MK N cq:g52+.c55-.g73+.c76+.c94+ 1.4"))
      (try with_reducible first | (replace Q52 := dT_ Q52; trace "@MK N cq:g52+.c55-.g73+.c76+.c94+ 2.1") | (replace Q52 := dF_ Q52; trace "@MK N cq:g52+.c55-.g73+.c76+.c94+ 2.2") | (replace Q52 := jo Q52; trace "@MK N cq:g52+.c55-.g73+.c76+.c94+ 2.3") | (replace Q52 := jq Q52; trace "@MK N cq:g52+.c55-.g73+.c76+.c94+ 2.4") | (replace Q52 := fP Q52; trace "@MK N cq:g52+.c55-.g73+.c76+.c94+ 2.5") | (replace Q52 := fQ Q52; trace "@MK N cq:g52+.c55-.g73+.c76+.c94+ 2.6"))
      refine an (ag (asb rfl (ak (ah (aD (bf (aC (aC (bf (aC (bm (v:=.bool _) rfl rfl (⟨⟨_,rfl,fun h=>by cases h⟩,(hB.next E94)⟩))))))))))))
     (try with_reducible first | (replace Q52 := dT_ Q52; trace "@MK N cq:g52+.c55-.g73+.c76+.c94- 1.1") | (replace Q52 := dF_ Q52; trace "@MK N cq:g52+.c55-.g73+.c76+.c94- 1.2") | (replace Q52 := dz Q52; trace "@MK N cq:g52+.c55-.g73+.c76+.c94- 1.3") | (replace Q52 := dA Q52; trace "@MK N cq:g52+.c55-.g73+.c76+.c94- 1.4"))
     (try with_reducible first | (replace Q52 := dT_ Q52; trace "@MK N cq:g52+.c55-.g73+.c76+.c94- 2.1") | (replace Q52 := dF_ Q52; trace "@MK N cq:g52+.c55-.g73+.c76+.c94- 2.2") | (replace Q52 := jo Q52; trace "@MK N cq:g52+.c55-.g73+.c76+.c94- 2.3") | (replace Q52 := jq Q52; trace "@MK N cq:g52+.c55-.g73+.c76+.c94- 2.4") | (replace Q52 := fP Q52; trace "@MK N cq:g52+.c55-.g73+.c76+.c94- 2.5") | (replace Q52 := fQ Q52; trace "@MK N cq:g52+.c55-.g73+.c76+.c94- 2.6"))
     refine aO (bH (ah (ag (mvi rfl (aa (bE rfl rfl (by omega)) (asi rfl (ak ?_)))))));refine cG ((m2+X[i].d.size,i+1)) ⟨(by first | rfl | (refine br ?_;omega)),(by first | rfl | (refine br ?_;omega)),trivial⟩ (by (iterate 60 refine bQ rfl ?_);exact cf) ⟨?_,?_⟩
     ·refine ⟨by omega,by omega,by omega,fun j h hj=>?_,hk1.from_ (ai.rfl_.next E94),(hB.next E94)⟩;rcases Nat.lt_or_ge j i with e | e
      ·have:=hj2 j h e;omega
      ·obtain rfl:j=i:=by omega
       have:=hb94 (by first | rfl | assumption | simp_all);omega
     ·show X.length-(i+1)<X.length-i;omega
    refine cd (bd (bd (bL (ah (an (ag (mvi rfl (aa (b0 rfl rfl) (mvb rfl (yo (t:=97) rfl (fun Q53=>?_) (fun Q53=>?_)))))))))))
    ·refine ab rfl rfl (ab rfl rfl (ab rfl rfl (ab rfl rfl (ab rfl rfl (ab rfl rfl (aa (aq (v:=.bool _) rfl rfl) (mvb rfl (ab rfl rfl ?_))))))));refine ab rfl rfl (ab rfl rfl (ab rfl rfl (aa (aq (v:=.bool _) rfl rfl) (asb rfl (ak (ah (aD (bm (v:=.bool _) rfl rfl (⟨⟨_,rfl,fun h9=>?_⟩,hB⟩)))))))))
     have hh:m2≤20000∧s.es.length≤600∧X.length≤100:=by
      first
       |(exfalso;simp at h9;done)
       |(have h8:=dF_ h9;omega)
       |(simp only [decide_eq_false_iff_not] at h9;omega)
       |(simp at h9;omega)
     have hkl:k=a.L.length:=by omega
     refine ⟨⟨by omega,by omega,by omega,by omega,by omega,fun q hq=>?_⟩,hh.2.1,hh.2.2,⟨by omega,by omega⟩,fun y hy=>?_⟩
     ·rw [←h.r.r] at hq;obtain ⟨y,hy,rfl⟩:=List.mem_map.1 hq;obtain ⟨j,hj,rfl⟩:=List.getElem_of_mem hy;have:=hj1 j hj (by omega);omega
     ·obtain ⟨j,hj,rfl⟩:=List.getElem_of_mem hy;have:=hj2 j hj (by omega);omega
    refine af rfl (aa (ae cY rfl) (af rfl (aa (ae bk rfl) (af rfl (aa (ae bt rfl) (af rfl (aa (ar bD rfl (by exact (show _=some (Value.slice a.E s.es.length a.Ec) from (hk1.from_ ai.rfl_).rd 8 rfl))) ?_)))))));refine af rfl (aa (bu dt rfl) (af rfl (aa (b0 rfl rfl) (aa (ay (v:=.bool _) rfl rfl) (mvb rfl (yo (t:=105) rfl (fun Q54=>?_) (fun Q54=>?_)))))))
    ·refine ab rfl rfl (ab rfl rfl (ab rfl rfl (ab rfl rfl (aa (aq (v:=.bool _) rfl rfl) (asb rfl (ak (ah (aD (bm (v:=.bool _) rfl rfl (⟨⟨_,rfl,fun h9=>?_⟩,hB⟩))))))))))
     have hh:m2≤20000∧s.es.length≤600∧X.length≤100:=by
      first
       |(exfalso;simp at h9;done)
       |(have h8:=dF_ h9;omega)
       |(simp only [decide_eq_false_iff_not] at h9;omega)
       |(simp at h9;omega)
     have hkl:k=a.L.length:=by omega
     refine ⟨⟨by omega,by omega,by omega,by omega,by omega,fun q hq=>?_⟩,hh.2.1,hh.2.2,⟨by omega,by omega⟩,fun y hy=>?_⟩
     ·rw [←h.r.r] at hq;obtain ⟨y,hy,rfl⟩:=List.mem_map.1 hq;obtain ⟨j,hj,rfl⟩:=List.getElem_of_mem hy;have:=hj1 j hj (by omega);omega
     ·obtain ⟨j,hj,rfl⟩:=List.getElem_of_mem hy;have:=hj2 j hj (by omega);omega
    refine af rfl (aa (ae dP rfl) (af rfl (aa (ar ej rfl (by exact (show _=some (Value.slice LA X.length lc) from (hk1.from_ ai.rfl_).rd 22 rfl))) ?_)));refine af rfl (aa (bu fE rfl) (af rfl (aa (b0 rfl rfl) (aa (ay (v:=.bool _) rfl rfl) (asb rfl (ak (ah (aD (bm (v:=.bool _) rfl rfl (⟨⟨_,rfl,fun h9=>?_⟩,hB⟩))))))))))
    have hh:m2≤20000∧s.es.length≤600∧X.length≤100:=by
     first
      |(exfalso;simp at h9;done)
      |(have h8:=dF_ h9;omega)
      |(simp only [decide_eq_false_iff_not] at h9;omega)
      |(simp at h9;omega)
    have hkl:k=a.L.length:=by omega
    refine ⟨⟨by omega,by omega,by omega,by omega,by omega,fun q hq=>?_⟩,hh.2.1,hh.2.2,⟨by omega,by omega⟩,fun y hy=>?_⟩
    ·rw [←h.r.r] at hq;obtain ⟨y,hy,rfl⟩:=List.mem_map.1 hq;obtain ⟨j,hj,rfl⟩:=List.getElem_of_mem hy;have:=hj1 j hj (by omega);omega
    ·obtain ⟨j,hj,rfl⟩:=List.getElem_of_mem hy;have:=hj2 j hj (by omega);omega
   refine ab rfl rfl (ab rfl rfl (aa (ay (v:=.bool _) rfl rfl) (ak (ah (bM rfl (cd (bd (bd (bL (ah (an (ag (mvi rfl (aa (b0 rfl rfl) ?_))))))))))))));refine mvb rfl (yo (t:=97) rfl (fun Q55=>?_) (fun Q55=>?_))
   ·refine ab rfl rfl (ab rfl rfl (ab rfl rfl (ab rfl rfl (ab rfl rfl (ab rfl rfl (aa (aq (v:=.bool _) rfl rfl) (mvb rfl (ab rfl rfl ?_))))))));refine ab rfl rfl (ab rfl rfl (ab rfl rfl (aa (aq (v:=.bool _) rfl rfl) (asb rfl (ak (ah (aD (bm (v:=.bool _) rfl rfl (⟨⟨_,rfl,fun h9=>?_⟩,hB⟩)))))))))
    have hh:m2≤20000∧s.es.length≤600∧X.length≤100:=by
     first
      |(exfalso;simp at h9;done)
      |(have h8:=dF_ h9;omega)
      |(simp only [decide_eq_false_iff_not] at h9;omega)
      |(simp at h9;omega)
    have hkl:k=a.L.length:=by omega
    refine ⟨⟨by omega,by omega,by omega,by omega,by omega,fun q hq=>?_⟩,hh.2.1,hh.2.2,⟨by omega,by omega⟩,fun y hy=>?_⟩
    ·rw [←h.r.r] at hq;obtain ⟨y,hy,rfl⟩:=List.mem_map.1 hq;obtain ⟨j,hj,rfl⟩:=List.getElem_of_mem hy;have:=hj1 j hj (by omega);omega
    ·obtain ⟨j,hj,rfl⟩:=List.getElem_of_mem hy;have:=hj2 j hj (by omega);omega
   refine af rfl (aa (ae cY rfl) (af rfl (aa (ae bk rfl) (af rfl (aa (ae bt rfl) (af rfl (aa (ar bD rfl (by exact (show _=some (Value.slice a.E s.es.length a.Ec) from (hk1.from_ ai.rfl_).rd 8 rfl))) ?_)))))));refine af rfl (aa (bu dt rfl) (af rfl (aa (b0 rfl rfl) (aa (ay (v:=.bool _) rfl rfl) (mvb rfl (yo (t:=105) rfl (fun Q56=>?_) (fun Q56=>?_)))))))
   ·refine ab rfl rfl (ab rfl rfl (ab rfl rfl (ab rfl rfl (aa (aq (v:=.bool _) rfl rfl) (asb rfl (ak (ah (aD (bm (v:=.bool _) rfl rfl (⟨⟨_,rfl,fun h9=>?_⟩,hB⟩))))))))))
    have hh:m2≤20000∧s.es.length≤600∧X.length≤100:=by
     first
      |(exfalso;simp at h9;done)
      |(have h8:=dF_ h9;omega)
      |(simp only [decide_eq_false_iff_not] at h9;omega)
      |(simp at h9;omega)
    have hkl:k=a.L.length:=by omega
    refine ⟨⟨by omega,by omega,by omega,by omega,by omega,fun q hq=>?_⟩,hh.2.1,hh.2.2,⟨by omega,by omega⟩,fun y hy=>?_⟩
    ·rw [←h.r.r] at hq;obtain ⟨y,hy,rfl⟩:=List.mem_map.1 hq;obtain ⟨j,hj,rfl⟩:=List.getElem_of_mem hy;have:=hj1 j hj (by omega);omega
    ·obtain ⟨j,hj,rfl⟩:=List.getElem_of_mem hy;have:=hj2 j hj (by omega);omega
   refine af rfl (aa (ae dP rfl) (af rfl (aa (ar ej rfl (by exact (show _=some (Value.slice LA X.length lc) from (hk1.from_ ai.rfl_).rd 22 rfl))) ?_)));refine af rfl (aa (bu fE rfl) (af rfl (aa (b0 rfl rfl) (aa (ay (v:=.bool _) rfl rfl) (asb rfl (ak (ah (aD (bm (v:=.bool _) rfl rfl (⟨⟨_,rfl,fun h9=>?_⟩,hB⟩))))))))))
   have hh:m2≤20000∧s.es.length≤600∧X.length≤100:=by
    first
     |(exfalso;simp at h9;done)
     |(have h8:=dF_ h9;omega)
     |(simp only [decide_eq_false_iff_not] at h9;omega)
     |(simp at h9;omega)
   have hkl:k=a.L.length:=by omega
   refine ⟨⟨by omega,by omega,by omega,by omega,by omega,fun q hq=>?_⟩,hh.2.1,hh.2.2,⟨by omega,by omega⟩,fun y hy=>?_⟩
   ·rw [←h.r.r] at hq;obtain ⟨y,hy,rfl⟩:=List.mem_map.1 hq;obtain ⟨j,hj,rfl⟩:=List.getElem_of_mem hy;have:=hj1 j hj (by omega);omega
   ·obtain ⟨j,hj,rfl⟩:=List.getElem_of_mem hy;have:=hj2 j hj (by omega);omega
  refine ab rfl rfl (ab rfl rfl (aa (ay (v:=.bool _) rfl rfl) (ak (ah (bM rfl (cd (bd (bd (bL (ah (an (an (ag (asi rfl (ak (ah (aZ ?_)))))))))))))))));refine ct (G:=Nat×Nat) [2,68,69,70,71,72,73,74,75,76,77,78,79,80,81,82,83,84,85,86,87,88,89,90,91,92,93,94] (fun (m2,i)=>[(3,.int .i64 (m2:Nat)),(5,.int .i64 (i:Nat))]) (fun (m2,i) w'=>i≤X.length∧m≤m2∧m2≤2000000000000000∧(∀ j (h:j<X.length),j<i→X[j].m.es.length≤200∧X[j].m.d.size≤20000∧X[j].d.size≤m2)∧Blk w' b1 32 (scV s a LA X.length lc).toArray∧ai w w') (fun (_,i)=>X.length-i) ((m,0)) ⟨rfl,rfl,trivial⟩ ?_ ?_
  ·exact ⟨Nat.zero_le _,Nat.le_refl _,hm2,fun j _ h=>absurd h (by omega),hk1.from_ ai.rfl_,hB⟩
  rintro ⟨m2,i⟩ ρ57 w57 ⟨hk2,hn1,hn2,hj2,hk1,hB⟩;refine an (an (ag (mvi rfl (aa (ae dP rfl) (aa (ar ej rfl (by exact (show _=some (Value.slice LA X.length lc) from (hk1.from_ ai.rfl_).rd 22 rfl))) ?_)))));refine aa (bu fE rfl) (aa (bU rfl rfl) (mvb rfl (yo (t:=73) rfl (fun Q58=>?_) (fun Q58=>?_))))
  ·refine af rfl (mvi rfl (af rfl (aa (bU rfl rfl) (aa (aq (v:=.bool _) rfl rfl) (ak (ah (yS rfl (fun Q59=>?_) (fun Q59=>?_))))))))
   ·have hkX:i<X.length:=by omega
    have hox:=h.o _ (List.getElem_mem hkX);have zk:=hox.2.2.2.2;obtain ⟨ba,oa,hQe,hcs⟩:=h.x (by omega);have hkq:Blk w57 b1 32 (scV s a (some ⟨ba,oa,none⟩) X.length lc).toArray:=by rw [←hQe];exact hk1.from_ ai.rfl_
    refine aO (ah (an (aZ (an (ag (mvi rfl (aa (ae dP rfl) (aa (ar ej rfl (by exact (show _=some (Value.slice (some ⟨ba,oa,none⟩) X.length lc) from (hkq.from_ ai.rfl_).rd 22 rfl))) ?_))))))));refine mvi rfl (aa (bR gZ rfl rfl (by omega)) (aa (ae eM rfl) (aa (ar bY rfl (by exact ei hB (hcs i hkX 15 _ rfl))) ?_)));refine aa (dQ (by kernel_rfl) rfl) (aa (cT rfl rfl (by omega)) (asi rfl (ak (ah (an (ag (aa (ae dP rfl) (aa (ar ej rfl (by exact (show _=some (Value.slice (some ⟨ba,oa,none⟩) X.length lc) from (hkq.from_ ai.rfl_).rd 22 rfl))) ?_))))))));refine mvi rfl (aa (bR gZ rfl rfl (by omega)) (aa (ae kB rfl) (aa (aJ (cs:=eA X[i].m) gQ fV rfl (ts (eS hB (hcs i hkX)))) (aA mB (ph X[i].m _ (hox.1.from_ hB) hox.2.1 (by have:=hox.2.2.1;omega) hox.2.2.2.1) ?_))));rintro v94 w60 ⟨⟨b94,rfl,hb94⟩,E94⟩;refine ak (ah (aY rfl (fun Q61=>?_) (fun Q61=>?_)))
    ·(try with_reducible first | (replace Q61 := dT_ Q61; trace "@MK N cq:g52-.g73+.c76+.c94+ 1.1") | (replace Q61 := dF_ Q61; trace "@MK N cq:g52-.g73+.c76+.c94+ 1.2") | (replace Q61 := dz Q61; trace "@MK N cq:g52-.g73+.c76+.c94+ 1.3") | (replace Q61 := dA Q61; trace "@MK N cq:g52-.g73+.c76+.c94+ 1.4"))
     (try with_reducible first | (replace Q61 := dT_ Q61; trace "@MK N cq:g52-.g73+.c76+.c94+ 2.1") | (replace Q61 := dF_ Q61; trace "@MK N cq:g52-.g73+.c76+.c94+ 2.2") | (replace Q61 := jo Q61; trace "@MK N cq:g52-.g73+.c76+.c94+ 2.3") | (replace Q61 := jq Q61; trace "@MK N cq:g52-.g73+.c76+.c94+ 2.4") | (replace Q61 := fP Q61; trace "@MK N cq:g52-.g73+.c76+.c94+ 2.5") | (replace Q61 := fQ Q61; trace "@MK N cq:g52-.g73+.c76+.c94+ 2.6"))
     refine an (ag (asb rfl (ak (ah (aD (bf (aC (aC (bf (aC (bm (v:=.bool _) rfl rfl (⟨⟨_,rfl,fun h=>by cases h⟩,(hB.next E94)⟩))))))))))))
    (try with_reducible first | (replace Q61 := dT_ Q61; trace "@MK N cq:g52-.g73+.c76+.c94- 1.1") | (replace Q61 := dF_ Q61; trace "@MK N cq:g52-.g73+.c76+.c94- 1.2") | (replace Q61 := dz Q61; trace "@MK N cq:g52-.g73+.c76+.c94- 1.3") | (replace Q61 := dA Q61; trace "@MK N cq:g52-.g73+.c76+.c94- 1.4"))
    (try with_reducible first | (replace Q61 := dT_ Q61; trace "@MK N cq:g52-.g73+.c76+.c94- 2.1") | (replace Q61 := dF_ Q61; trace "@MK N cq:g52-.g73+.c76+.c94- 2.2") | (replace Q61 := jo Q61; trace "@MK N cq:g52-.g73+.c76+.c94- 2.3") | (replace Q61 := jq Q61; trace "@MK N cq:g52-.g73+.c76+.c94- 2.4") | (replace Q61 := fP Q61; trace "@MK N cq:g52-.g73+.c76+.c94- 2.5") | (replace Q61 := fQ Q61; trace "@MK N cq:g52-.g73+.c76+.c94- 2.6"))
    refine aO (bH (ah (ag (mvi rfl (aa (bE rfl rfl (by omega)) (asi rfl (ak ?_)))))));refine cG ((m2+X[i].d.size,i+1)) ⟨(by first | rfl | (refine br ?_;omega)),(by first | rfl | (refine br ?_;omega)),trivial⟩ (by (iterate 60 refine bQ rfl ?_);exact cf) ⟨?_,?_⟩
    ·refine ⟨by omega,by omega,by omega,fun j h hj=>?_,hk1.from_ (ai.rfl_.next E94),(hB.next E94)⟩;rcases Nat.lt_or_ge j i with e | e
     ·have:=hj2 j h e;omega
     ·obtain rfl:j=i:=by omega
      have:=hb94 (by first | rfl | assumption | simp_all);omega
    ·show X.length-(i+1)<X.length-i;omega
   refine cd (bd (bd (bL (ah (an (ag (mvi rfl (aa (b0 rfl rfl) (mvb rfl (yo (t:=97) rfl (fun Q62=>?_) (fun Q62=>?_)))))))))))
   ·refine ab rfl rfl (ab rfl rfl (ab rfl rfl (ab rfl rfl (ab rfl rfl (ab rfl rfl (aa (aq (v:=.bool _) rfl rfl) (mvb rfl (ab rfl rfl ?_))))))));refine ab rfl rfl (ab rfl rfl (ab rfl rfl (aa (aq (v:=.bool _) rfl rfl) (asb rfl (ak (ah (aD (bm (v:=.bool _) rfl rfl (⟨⟨_,rfl,fun h9=>?_⟩,hB⟩)))))))))
    have hh:m2≤20000∧s.es.length≤600∧X.length≤100:=by
     first
      |(exfalso;simp at h9;done)
      |(have h8:=dF_ h9;omega)
      |(simp only [decide_eq_false_iff_not] at h9;omega)
      |(simp at h9;omega)
    have hkl:k=a.L.length:=by omega
    refine ⟨⟨by omega,by omega,by omega,by omega,by omega,fun q hq=>?_⟩,hh.2.1,hh.2.2,⟨by omega,by omega⟩,fun y hy=>?_⟩
    ·rw [←h.r.r] at hq;obtain ⟨y,hy,rfl⟩:=List.mem_map.1 hq;obtain ⟨j,hj,rfl⟩:=List.getElem_of_mem hy;have:=hj1 j hj (by omega);omega
    ·obtain ⟨j,hj,rfl⟩:=List.getElem_of_mem hy;have:=hj2 j hj (by omega);omega
   refine af rfl (aa (ae cY rfl) (af rfl (aa (ae bk rfl) (af rfl (aa (ae bt rfl) (af rfl (aa (ar bD rfl (by exact (show _=some (Value.slice a.E s.es.length a.Ec) from (hk1.from_ ai.rfl_).rd 8 rfl))) ?_)))))));refine af rfl (aa (bu dt rfl) (af rfl (aa (b0 rfl rfl) (aa (ay (v:=.bool _) rfl rfl) (mvb rfl (yo (t:=105) rfl (fun Q63=>?_) (fun Q63=>?_)))))))
   ·refine ab rfl rfl (ab rfl rfl (ab rfl rfl (ab rfl rfl (aa (aq (v:=.bool _) rfl rfl) (asb rfl (ak (ah (aD (bm (v:=.bool _) rfl rfl (⟨⟨_,rfl,fun h9=>?_⟩,hB⟩))))))))))
    have hh:m2≤20000∧s.es.length≤600∧X.length≤100:=by
     first
      |(exfalso;simp at h9;done)
      |(have h8:=dF_ h9;omega)
      |(simp only [decide_eq_false_iff_not] at h9;omega)
      |(simp at h9;omega)
    have hkl:k=a.L.length:=by omega
    refine ⟨⟨by omega,by omega,by omega,by omega,by omega,fun q hq=>?_⟩,hh.2.1,hh.2.2,⟨by omega,by omega⟩,fun y hy=>?_⟩
    ·rw [←h.r.r] at hq;obtain ⟨y,hy,rfl⟩:=List.mem_map.1 hq;obtain ⟨j,hj,rfl⟩:=List.getElem_of_mem hy;have:=hj1 j hj (by omega);omega
    ·obtain ⟨j,hj,rfl⟩:=List.getElem_of_mem hy;have:=hj2 j hj (by omega);omega
   refine af rfl (aa (ae dP rfl) (af rfl (aa (ar ej rfl (by exact (show _=some (Value.slice LA X.length lc) from (hk1.from_ ai.rfl_).rd 22 rfl))) ?_)));refine af rfl (aa (bu fE rfl) (af rfl (aa (b0 rfl rfl) (aa (ay (v:=.bool _) rfl rfl) (asb rfl (ak (ah (aD (bm (v:=.bool _) rfl rfl (⟨⟨_,rfl,fun h9=>?_⟩,hB⟩))))))))))
   have hh:m2≤20000∧s.es.length≤600∧X.length≤100:=by
    first
     |(exfalso;simp at h9;done)
     |(have h8:=dF_ h9;omega)
     |(simp only [decide_eq_false_iff_not] at h9;omega)
     |(simp at h9;omega)
   have hkl:k=a.L.length:=by omega
   refine ⟨⟨by omega,by omega,by omega,by omega,by omega,fun q hq=>?_⟩,hh.2.1,hh.2.2,⟨by omega,by omega⟩,fun y hy=>?_⟩
   ·rw [←h.r.r] at hq;obtain ⟨y,hy,rfl⟩:=List.mem_map.1 hq;obtain ⟨j,hj,rfl⟩:=List.getElem_of_mem hy;have:=hj1 j hj (by omega);omega
   ·obtain ⟨j,hj,rfl⟩:=List.getElem_of_mem hy;have:=hj2 j hj (by omega);omega
  refine ab rfl rfl (ab rfl rfl (aa (ay (v:=.bool _) rfl rfl) (ak (ah (bM rfl (cd (bd (bd (bL (ah (an (ag (mvi rfl (aa (b0 rfl rfl) ?_))))))))))))));refine mvb rfl (yo (t:=97) rfl (fun Q64=>?_) (fun Q64=>?_))
  ·refine ab rfl rfl (ab rfl rfl (ab rfl rfl (ab rfl rfl (ab rfl rfl (ab rfl rfl (aa (aq (v:=.bool _) rfl rfl) (mvb rfl (ab rfl rfl ?_))))))));refine ab rfl rfl (ab rfl rfl (ab rfl rfl (aa (aq (v:=.bool _) rfl rfl) (asb rfl (ak (ah (aD (bm (v:=.bool _) rfl rfl (⟨⟨_,rfl,fun h9=>?_⟩,hB⟩)))))))))
   have hh:m2≤20000∧s.es.length≤600∧X.length≤100:=by
    first
     |(exfalso;simp at h9;done)
     |(have h8:=dF_ h9;omega)
     |(simp only [decide_eq_false_iff_not] at h9;omega)
     |(simp at h9;omega)
   have hkl:k=a.L.length:=by omega
   refine ⟨⟨by omega,by omega,by omega,by omega,by omega,fun q hq=>?_⟩,hh.2.1,hh.2.2,⟨by omega,by omega⟩,fun y hy=>?_⟩
   ·rw [←h.r.r] at hq;obtain ⟨y,hy,rfl⟩:=List.mem_map.1 hq;obtain ⟨j,hj,rfl⟩:=List.getElem_of_mem hy;have:=hj1 j hj (by omega);omega
   ·obtain ⟨j,hj,rfl⟩:=List.getElem_of_mem hy;have:=hj2 j hj (by omega);omega
  refine af rfl (aa (ae cY rfl) (af rfl (aa (ae bk rfl) (af rfl (aa (ae bt rfl) (af rfl (aa (ar bD rfl (by exact (show _=some (Value.slice a.E s.es.length a.Ec) from (hk1.from_ ai.rfl_).rd 8 rfl))) ?_)))))));refine af rfl (aa (bu dt rfl) (af rfl (aa (b0 rfl rfl) (aa (ay (v:=.bool _) rfl rfl) (mvb rfl (yo (t:=105) rfl (fun Q65=>?_) (fun Q65=>?_)))))))
  ·refine ab rfl rfl (ab rfl rfl (ab rfl rfl (ab rfl rfl (aa (aq (v:=.bool _) rfl rfl) (asb rfl (ak (ah (aD (bm (v:=.bool _) rfl rfl (⟨⟨_,rfl,fun h9=>?_⟩,hB⟩))))))))))
   have hh:m2≤20000∧s.es.length≤600∧X.length≤100:=by
    first
     |(exfalso;simp at h9;done)
     |(have h8:=dF_ h9;omega)
     |(simp only [decide_eq_false_iff_not] at h9;omega)
     |(simp at h9;omega)
   have hkl:k=a.L.length:=by omega
   refine ⟨⟨by omega,by omega,by omega,by omega,by omega,fun q hq=>?_⟩,hh.2.1,hh.2.2,⟨by omega,by omega⟩,fun y hy=>?_⟩
   ·rw [←h.r.r] at hq;obtain ⟨y,hy,rfl⟩:=List.mem_map.1 hq;obtain ⟨j,hj,rfl⟩:=List.getElem_of_mem hy;have:=hj1 j hj (by omega);omega
   ·obtain ⟨j,hj,rfl⟩:=List.getElem_of_mem hy;have:=hj2 j hj (by omega);omega
  refine af rfl (aa (ae dP rfl) (af rfl (aa (ar ej rfl (by exact (show _=some (Value.slice LA X.length lc) from (hk1.from_ ai.rfl_).rd 22 rfl))) ?_)));refine af rfl (aa (bu fE rfl) (af rfl (aa (b0 rfl rfl) (aa (ay (v:=.bool _) rfl rfl) (asb rfl (ak (ah (aD (bm (v:=.bool _) rfl rfl (⟨⟨_,rfl,fun h9=>?_⟩,hB⟩))))))))))
  have hh:m2≤20000∧s.es.length≤600∧X.length≤100:=by
   first
    |(exfalso;simp at h9;done)
    |(have h8:=dF_ h9;omega)
    |(simp only [decide_eq_false_iff_not] at h9;omega)
    |(simp at h9;omega)
  have hkl:k=a.L.length:=by omega
  refine ⟨⟨by omega,by omega,by omega,by omega,by omega,fun q hq=>?_⟩,hh.2.1,hh.2.2,⟨by omega,by omega⟩,fun y hy=>?_⟩
  ·rw [←h.r.r] at hq;obtain ⟨y,hy,rfl⟩:=List.mem_map.1 hq;obtain ⟨j,hj,rfl⟩:=List.getElem_of_mem hy;have:=hj1 j hj (by omega);omega
  ·obtain ⟨j,hj,rfl⟩:=List.getElem_of_mem hy;have:=hj2 j hj (by omega);omega
def dI (k:Nat) (l:List Msg):Prop:=l.length≤k∧∀ m∈l,m.es.length≤16
theorem dI.nil {k:Nat}:dI k []:=⟨Nat.zero_le _,fun m hm=>by cases hm⟩
theorem dI.tell {k:Nat} {p:Sp} (h:dI k p.out) {m:Msg} (hm:m.es.length≤16):dI (k+1) (p.tell m).out:=by
 refine ⟨by show (p.out++[_]).length≤_;rw [List.length_append,List.length_singleton];have:=h.1;omega,fun x hx=>?_⟩;rcases List.mem_append.1 hx with e | e
 ·exact h.2 x e
 ·obtain rfl:=List.mem_singleton.1 e;exact hm
theorem uI (s:Rf) (to:Int):(j4 s to).es.length≤16:=by
 unfold j4;simp only;split
 ·exact Nat.zero_le _
 ·show ((s.es.drop _).take 16).length≤16;rw [List.length_take];omega
theorem dI.sends {k:Nat} {p:Sp} (h:dI k p.out) (l:List Int):dI (k+l.length) (p.sends l).out:=by
 rw [jZ];refine ⟨by rw [List.length_append,List.length_map];have:=h.1;omega,fun x hx=>?_⟩;rcases List.mem_append.1 hx with e | e
 ·exact h.2 x e
 ·obtain ⟨y,_,rfl⟩:=List.mem_map.1 e;exact uI _ _
theorem dI.up {k j:Nat} {l:List Msg} (h:dI k l) (hj:k≤j):dI j l:=⟨Nat.le_trans h.1 hj,h.2⟩
theorem dI.all {k:Nat} {p:Sp} (h:dI k p.out) (hn:p.s.nodes≤7):dI (k+7) p.all.out:=(h.sends (dC p.s)).up (by have:=jv p.s;omega)
theorem dI.lead {k:Nat} {p:Sp} (h:dI k p.out) (hn:p.s.nodes≤7):dI (k+7) (jL p).out:=by
 unfold jL;split
 ·exact h.up (by omega)
 ·exact dI.all (p:=⟨_,p.out⟩) h hn
theorem dI.wins {k:Nat} {p:Sp} (h:dI k p.out) (hn:p.s.nodes≤7):dI (k+7) (iB p).out:=by
 unfold iB;split
 ·exact h.lead hn
 ·exact h.up (by omega)
theorem dI.asks {c:Rf}:∀ (l:List Int) (k:Nat) (p:Sp),dI k p.out→dI (k+l.length) (l.foldl (fun (p:Sp) x=>p.tell (ja c x)) p).out
 |[],_,_,h=>h
 |x::l,k,p,h=>(dI.asks l (k+1) (p.tell (ja c x)) (dI.tell (p:=p) h (Nat.zero_le _))).up (by rw [List.length_cons];omega)
theorem RfF.leads {p:Sp} (h:RfF p.s):RfF (jL p).s:=by
 unfold jL;split
 ·exact h.falls h.te.2
 ·rename_i hf;have hf':fq p.s=false:=by simpa using hf
  have h1:=h.lead hf';show RfF (cA (Sp.all ⟨_,p.out⟩).s);rw [jD];exact h1.settle rfl
theorem RfF.wins {p:Sp} (h:RfF p.s):RfF (iB p).s:=by
 unfold iB;split
 ·exact h.leads
 ·exact h
theorem RfF.elect {s:Rf} (h:RfF s):RfF (fx s).s:=by
 by_cases ht:s.term=da
 ·unfold fx;rw [if_pos ht];exact h.draws
 ·rw [j_ ht];exact RfF.wins (by rw [kL];exact h.cand ht)
theorem RfF.tick {s:Rf} (h:RfF s):RfF (cn s).s:=by
 have hel:=h.el;have hrn:=h.rn;unfold cn da;simp only;split
 ·split
  ·rw [jD];exact h.beat (by omega) (by omega)
  ·exact h.elapse (by omega)
 ·split
  ·exact (h.elapse (x:=min (s.elapsed+1) 1099511627775) (by omega)).elect
  ·exact h.elapse (by omega)
theorem uh {s:Rf} (h:RfF s):dI 100 (fx s).out:=by
 have hn:=h.n;by_cases ht:s.term=da
 ·unfold fx;rw [if_pos ht];exact dI.nil
 ·rw [j_ ht];have h1:=jv (c_ s);have h2:(c_ s).nodes=s.nodes:=rfl;refine (dI.wins (k:=7) ((dI.asks (c:=c_ s) (dC (c_ s)) 0 ⟨c_ s,[]⟩ dI.nil).up (by omega)) ?_).up (by omega);rw [kL];exact hn.2
theorem uB {s:Rf} (h:RfF s):dI 100 (cn s).out:=by
 have hn:=h.n;have hel:=h.el;unfold cn da;simp only;split
 ·split
  ·exact (dI.all (k:=0) dI.nil hn.2).up (by omega)
  ·exact dI.nil
 ·split
  ·exact uh (h.elapse (x:=min (s.elapsed+1) 1099511627775) (by omega))
  ·exact dI.nil
theorem aR.chgT {w w':World} {tag:Nat→Nat} {s:Rf} {a:Ra} {U:Nat→Prop} (h:aR w tag s a) (hC:Chg U w w') (hU:∀ q,q<w.heap.size→U q→tag q=8∨tag q=6∨∃ j,tag q=1000+2*j):aR w' tag s a:=by
 have mv:∀ {d e s n cc:Nat} {A:Option Addr} {xs:List Value},StC d→w.ownsRow 0 e s (.slice A n cc) n xs∧Col tag d A→w'.ownsRow 0 e s (.slice A n cc) n xs∧Col tag d A:=fun hd h=>⟨dB h.1 hC (fun k hk e=>by
  have h1:=h.2 k hk;have h8:=hd.eight;have h6:=hd.six;rcases hU k (cU h.1 k hk) e with e | e | ⟨j,e⟩
  ·omega
  ·omega
  ·have:=hd.even j;omega),h.2⟩
 exact ⟨fun hx=>mv (.inl (by decide)) (h.e hx),fun hx=>mv (.inl (by decide)) (h.v hx),fun hx=>mv (.inl (by decide)) (h.x hx),fun hx=>mv (.inl (by decide)) (h.m hx),fun hx=>mv (.inl (by decide)) (h.n hx),h.r,fun hx=>mv (.inl (by decide)) (h.q hx),fun i hi hx=>mv (.inr ⟨i,rfl⟩) (h.k i hi hx)⟩
theorem ew.chgT {w w':World} {tag:Nat→Nat} {out:List Msg} {O:Option Addr} {oc:Nat} {L:List Msg} {U:Nat→Prop} (h:ew w tag out O oc L) (hC:Chg U w w') (hU:∀ q,q<w.heap.size→U q→tag q=8∨StC (tag q)):ew w' tag out O oc L:=by
 have mv:∀ {d e s n cc:Nat} {A:Option Addr} {xs:List Value},(d=6∨∃ j,d=1000+2*j)→w.ownsRow 0 e s (.slice A n cc) n xs∧Col tag d A→w'.ownsRow 0 e s (.slice A n cc) n xs∧Col tag d A:=fun hd h=>⟨dB h.1 hC (fun k hk e=>by
  have h1:=h.2 k hk;rcases hU k (cU h.1 k hk) e with e | e
  ·rcases hd with hd | ⟨j,hd⟩ <;> omega
  ·rcases hd with hd | ⟨j,hd⟩
   ·have:=e.six;omega
   ·have:=e.even j;omega),h.2⟩
 exact ⟨(mv (.inl rfl) ⟨h.o,h.c⟩).1,h.l,fun j hj=>mv (.inr ⟨j,rfl⟩) (h.e j hj),h.c⟩
theorem ew.len {w:World} {tag:Nat→Nat} {out:List Msg} {O:Option Addr} {oc:Nat} {L:List Msg} (h:ew w tag out O oc L):L.length=out.length:=by
 have h9:=congrArg List.length h.l;rw [List.length_map] at h9;exact h9
theorem ew.es {w:World} {tag:Nat→Nat} {out:List Msg} {O:Option Addr} {oc:Nat} {L:List Msg} {k:Nat} (h:ew w tag out O oc L) (ho:dI k out):∀ x∈L,x.es.length≤16:=fun x hx=>by
 have h1:pl x∈out:=by rw [←h.l];exact List.mem_map_of_mem hx
 exact (show (pl x).es.length≤16 from ho.2 _ h1)
theorem ew.ents {w:World} {tag:Nat→Nat} {out:List Msg} {O:Option Addr} {oc:Nat} {L:List Msg} (h:ew w tag out O oc L):∀ x∈L,cK w (.slice x.E x.es.length x.c) x.es:=fun x hx=>by
 obtain ⟨j,hj,rfl⟩:=List.getElem_of_mem hx;exact cK.of_own (h.e j hj).1 rfl
theorem wH {w:World} {tag tag':Nat→Nat} {out:List Msg} {O O':Option Addr} {oc oc':Nat} {L L':List Msg} (h:ew w tag out O oc L) (h':ew w tag' out O' oc' L') (ho:dI 1000 out) :
 Rt prog 50 [.slice O L.length oc,.slice O' L'.length oc'] w fun v w'=>v=.bool true∧ai w w':=by
 have e:=h'.len.trans h.len.symm;have hl:=h.len;have h1:=ho.1;rw [e];exact rb O O' oc oc' L.length L L' w (gv.own nb (by decide) h.o).2 (gv.own nb (by decide) h'.o).2 rfl e (h.l.trans h'.l.symm) h.ents h'.ents (fun x hx=>by have:=h.es ho x hx;omega) (by omega)
def UBs (z b4 b11:Nat):Nat→Prop:=fun q=>q=b11∨q=b4∨z≤q
theorem kH (s:Rf) (a:Ra) (w:World) (hrd:eD w s a) (hl:s.votes.length≤1000000∧s.next.length≤1000000∧s.mtch.length≤1000000∧s.sent.length≤1000000∧s.reads.length≤1000000∧∀ q∈s.reads,q.acks.length≤1000000) {b:Bool} (hm:gb s=b):Rt prog 30 [.agg (rfV s a).toArray] w fun v w'=>v=.bool b∧ai w w':=by
 subst hm;exact wh s a w hrd hl
theorem gG (i:Int) (n N:Nat) (w:World) (hn:0<n∧n≤1000) (h:wiN i n=N):Rt prog 31 [.int .i64 i,.int .i64 (n:Nat)] w fun v w'=>v=.int .i64 (N:Nat)∧w=w':=by
 subst h;exact uy i n w hn
theorem vZ (s:Rf) (a:Ra) (w:World) (hrd:eD w s a) (hl:s.votes.length≤1000000∧s.next.length≤1000000∧s.mtch.length≤1000000∧s.sent.length≤1000000∧s.reads.length≤1000000∧∀ q∈s.reads,q.acks.length≤1000000) (hel:s.es.length≤1000000) (hm:gb s=true) :
 Rt prog 32 [.agg (rfV s a).toArray] w fun v w'=>(∃ tag a' O oc L,v=.tuple #[.agg (rfV (cn s).s a').toArray,.slice O L.length oc]∧aR w' tag (cn s).s a'∧ew w' tag (cn s).out O oc L∧∀ k,k<w.heap.size→tag k=8)∧ai w w':=
 (uL s a w hrd hl hel (iJ hm)).mono fun _ _ h=>⟨h.1.imp fun _ h=>h.imp fun _ h=>h.imp fun _ h=>h.imp fun _ h=>h.imp fun _ h=>⟨h.1,h.2.1,h.2.2.1,h.2.2.2⟩,h.2⟩
theorem sz7 {s:Rf} (hl:s.votes.length≤1000000∧s.next.length≤1000000∧s.mtch.length≤1000000∧s.sent.length≤1000000∧s.reads.length≤1000000∧∀ q∈s.reads,q.acks.length≤1000000) (hel:s.es.length≤1000000):s.es.length≤1000000∧s.votes.length≤1000000∧s.next.length≤1000000∧s.mtch.length≤1000000∧s.sent.length≤1000000∧s.reads.length≤1000000∧∀ q∈s.reads,q.acks.length≤1000000:=⟨hel,hl⟩
theorem rz:aV prog 21=true:=by kernel_rfl
theorem eR:aV prog 22=true:=by kernel_rfl
theorem kf:aV prog 23=true:=by kernel_rfl
def wkA (k:Int):Rf:={ qS 1 1 1 with elapsed:=k }
def wkB (e r:Int):Rf:=⟨1,1,2,1,1,1,0,0,[⟨1,1,⟨#[]⟩⟩],⟨#[]⟩,1,e,10+bl (nx 1) 10,nx (nx 1),[],[1],[1],[0],r,[],⟨#[]⟩,0⟩
def wkR:Nat→Rf
 |0=>qS 1 1 1
 |k+1=>(cn (wkR k)).s
theorem wy:med [1]=1:=by
 have h:srt [1]=[1]:=List.perm_singleton.1 (kZ [1]);unfold med;rw [h];rfl
theorem uw (k:Int):(fx (wkA k)).s=wkB 0 0:=by
 rw [j_ (show (wkA k).term≠da by show (0:Int)≠1099511627775;decide)];show (iB ⟨c_ (wkA k),[]⟩).s=_;unfold iB;rw [if_pos (show dK (⟨c_ (wkA k),[]⟩:Sp).s.nodes (⟨c_ (wkA k),[]⟩:Sp).s.votes=true from (by decide:dK 1 [1]=true))];unfold jL;rw [if_neg (show ¬ fq (⟨c_ (wkA k),[]⟩:Sp).s=true from fun h=>Bool.noConfusion (show false=true from h))];show cA (Sp.all ⟨ef (db (c_ (wkA k))) ⟨#[]⟩,[]⟩).s=_;rw [jD];show cA (ef (db (c_ (wkA k))) ⟨#[]⟩)=_;unfold cA;simp only;rw [show dq (ef (db (c_ (wkA k))) ⟨#[]⟩).mtch (ef (db (c_ (wkA k))) ⟨#[]⟩).id (a_ (ef (db (c_ (wkA k))) ⟨#[]⟩))=[1] from rfl,wy];rfl
theorem vT {k:Int} (h:0≤k∧k≤20):gb (wkA k)=true:=by
 have hb:=rv 1;refine aU.2 ⟨?_,?_,rfl,?_,?_⟩
 ·unfold ir wkA qS fN zR;simp only;omega
 ·exact ⟨rfl,Int.le_refl 0,⟨Int.le_refl 0,Int.le_refl 0⟩,Nat.zero_le _,.inr rfl⟩
 ·exact (bg (show (0:Int)≠2 by decide)).2 rfl
 ·exact ⟨Nat.zero_le _,⟨Int.le_refl 0,z11⟩,.inr rfl⟩
theorem vS {e r:Int} (he:0≤e∧e≤1) (hr:0≤r∧r≤20):gb (wkB e r)=true:=by
 have hb:=rv (nx 1);refine aU.2 ⟨?_,?_,rfl,?_,?_⟩
 ·unfold ir wkB;simp only;omega
 ·exact ⟨(by decide:cB 0 0 [⟨1,1,⟨#[]⟩⟩]=true),Int.le_refl 1,⟨(by decide:(0:Int)≤1),Int.le_refl 1⟩,Nat.zero_le _,.inr rfl⟩
 ·exact (aT rfl).2 ⟨⟨rfl,rfl,rfl,Nat.zero_le _⟩,⟨fun x hx=>by rw [List.mem_singleton.1 hx];exact ⟨Int.le_refl 1,(by decide:(1:Int)≤1+1)⟩,fun x hx=>by rw [List.mem_singleton.1 hx];exact ⟨(by decide:(0:Int)≤1),Int.le_refl 1⟩,fun x hx=>by rw [List.mem_singleton.1 hx];exact ⟨Int.le_refl 0,Int.le_refl 0⟩⟩,fun q hq=>by cases hq⟩
 ·exact ⟨Nat.zero_le _,⟨Int.le_refl 0,z11⟩,.inr rfl⟩
theorem ux:∀ k:Nat,k≤20→((k:Int)<10+bl 1 10∧wkR k=wkA k)∨(10+bl 1 10≤(k:Int)∧∃ e r:Int,(0≤e∧e≤1)∧(0≤r∧r≤k)∧wkR k=wkB e r)
 |0,_=>by
  have hb:=rv 1;exact .inl ⟨by show (0:Int)<_;omega,rfl⟩
 |k+1,hk=>by
  have hb:=rv 1;rcases ux k (by omega) with ⟨h1,h2⟩ | ⟨h1,e,r,he,hr,h2⟩
  ·have ht:wkR (k+1)=(cn (wkA k)).s:=by rw [←h2];rfl
   have hm:min ((k:Int)+1) da=((k+1:Nat):Int):=by unfold da;omega
   have h3:cn (wkA k)=if 10+bl 1 10≤((k+1:Nat):Int) then fx (wkA ((k+1:Nat):Int)) else ⟨wkA ((k+1:Nat):Int),[]⟩:=by
    unfold cn;simp only;rw [if_neg (show ¬ (wkA k).role=2 by show ¬ (0:Int)=2;decide),show min ((wkA (k:Int)).elapsed+1) da=((k+1:Nat):Int) from hm];rfl
   rw [ht,h3];by_cases h4:10+bl 1 10≤((k+1:Nat):Int)
   ·rw [if_pos h4,uw];exact .inr ⟨h4,0,0,⟨by omega,by omega⟩,⟨by omega,by omega⟩,rfl⟩
   ·rw [if_neg h4];exact .inl ⟨by omega,rfl⟩
  ·have ht:wkR (k+1)=(cn (wkB e r)).s:=by rw [←h2];rfl
   have hm:min (e+1) da=e+1:=by unfold da;omega
   have hm2:min (r+1) da=r+1:=by unfold da;omega
   have h3:(cn (wkB e r)).s=if 2≤e+1 then wkB 0 (r+1) else wkB (e+1) r:=by
    unfold cn;simp only;rw [if_pos (show (wkB e r).role=2 from rfl),show min ((wkB e r).elapsed+1) da=e+1 from hm,show min ((wkB e r).round+1) da=r+1 from hm2];split
    ·rw [jD];rfl
    ·rfl
   rw [ht,h3];refine .inr ⟨by omega,?_⟩;split
   ·exact ⟨0,r+1,⟨by omega,by omega⟩,⟨by omega,by omega⟩,rfl⟩
   ·exact ⟨e+1,r,⟨by omega,by omega⟩,⟨by omega,by omega⟩,rfl⟩
theorem xD {k:Nat} (hk:k≤20):gb (wkR k)=true:=by
 rcases ux k hk with ⟨_,h2⟩ | ⟨_,e,r,he,hr,h2⟩
 ·rw [h2];exact vT (by omega)
 ·rw [h2];exact vS he (by omega)
theorem xF:(wkR 20).role=2∧(wkR 20).term=1∧(wkR 20).commit=1:=by
 have hb:=rv 1;rcases ux 20 (Nat.le_refl _) with ⟨h1,_⟩ | ⟨_,e,r,_,_,h2⟩
 ·omega
 ·rw [h2];exact ⟨rfl,rfl,rfl⟩
theorem RfF.sizes {s:Rf} (h:RfF s):(s.votes.length≤1000000∧s.next.length≤1000000∧s.mtch.length≤1000000∧s.sent.length≤1000000∧s.reads.length≤1000000∧∀ q∈s.reads,q.acks.length≤1000000)∧s.es.length≤1000000:=by
 have h1:=h.vl;have h2:=h.n
 have h3:fZ s≤7:=by
  by_cases hr:s.role=2
  ·rw [gp hr];omega
  ·rw [nd hr];omega
 have h4:=h.nx.1;have h5:=h.ma.1;have h6:=h.se.1;have h7:=h.rl;have h8:=h.last;refine ⟨⟨by omega,by omega,by omega,by omega,by omega,fun q hq=>?_⟩,by omega⟩;have h9:=(ck.1 (h.rd q hq)).2.2.2;have h10:=qR h9;have h11:=lO q.acks 0 s.nodes h10.2 fun x hx=>⟨by have:=(h10.1 x hx).1;omega,(h10.1 x hx).2⟩
 omega
theorem RfF.sizes7 {s:Rf} (h:RfF s):s.es.length≤1000000∧s.votes.length≤1000000∧s.next.length≤1000000∧s.mtch.length≤1000000∧s.sent.length≤1000000∧s.reads.length≤1000000∧∀ q∈s.reads,q.acks.length≤1000000:=⟨h.sizes.2,h.sizes.1⟩
theorem yC {w:World} {id n seed:Int}:eD w (qS id n seed) a0:=aR.rd (aR.same (s':=qS id n seed) (aR.zero (w:=w) (tag:=fun _=>8)) rfl rfl rfl rfl rfl rfl)
theorem xT (w:World):Rt prog 21 [.int .i64 1,.int .i64 1,.int .u64 1] w fun v w'=>v=.tuple #[.agg (rfV (qS 1 1 1) a0).toArray,.int .i64 0]∧ai w w':=
 (wt 1 1 1 w).mono fun v w' h=>⟨h.1.elim (fun e=>e.2) (fun e=>absurd (by unfold mM;omega) e.1),h.2⟩
theorem gn (e:Int) (w:World) :
 Rt prog 22 [.int .i64 e] w (fun v w'=>v=.int .i64 e∧w=w'):=by
 refine enter (n:=4) Tryz.func22 rfl rfl rfl (an (ag (asi rfl (ak (ah (an (ag (mvi rfl (asi rfl (ak (ah (aD (bm (v:=.int _ _) rfl rfl (⟨rfl,rfl⟩))))))))))))))
theorem ni (w:World) :
 Rt prog 18 [] w (fun v w'=>v=.bool true∧ai w w'):=by
 refine enter (n:=37) Tryz.func18 rfl rfl rfl (an (ag (asb rfl (ak (ah (an (ag (aA rz (xT _) ?_))))))));rintro v5 w1 ⟨rfl,E5⟩;refine mvt rfl (aa (aN rfl rfl) (aa (aN rfl rfl) ?_));have hz1:=((ai.rfl_.next E5)).size;refine bw bC ?_;intro b1 w2 E1 hb1 hk1;have hg1:w.heap.size≤b1:=by omega
 refine bK (vs:=[_,_,_,_,_,_,_,_,_,_,_,_,_,_,_,_,_,_,_,_,_,_]) au rfl rfl (by simp [Value.oneCell']) (hk1) rfl ?_;intro w3 O1 P1;refine asi rfl (ak (ah (an (an (ag (mvi rfl (aA eR (gn _ _) ?_)))))));rintro v9 w4 ⟨rfl,rfl⟩;refine aa (ea (dp rfl rfl) rfl) (ak (ah (bM rfl (aO (ah (an (an (ag (asi rfl (ak (ah (aZ (ct (G:=Nat×Ra) [0,11,12,13,14,15,16,17,18,19,20,21,22,23] (fun (k,_)=>[(2,.int .i64 0),(3,.int .i64 (k:Nat))]) (fun (k,a) w'=>k≤20∧Blk w' b1 29 (rfV (wkR k) a).toArray∧eD w' (wkR k) a∧ai w w') (fun (k,_)=>20-k) ((0,a0)) ⟨rfl,rfl,trivial⟩ ?_ ?_)))))))))))))
 ·exact ⟨Nat.zero_le _,P1.from_ ai.rfl_,yC,(((ai.rfl_.next E5).next E1).only O1 (hg1))⟩
 rintro ⟨k,a⟩ ρ5 w5 ⟨hk,hkb,hrd,hB⟩;refine an (an (ag (mvi rfl (aa (bU rfl rfl) (ak (ah (yS rfl (fun Q6=>?_) (fun Q6=>?_))))))))
 ·have hmk:=xD (k:=k) (by omega);have hszs:=(iJ hmk).sizes;refine aO (ah (an (aZ (an (ag (aa (aJ (cs:=rfV (wkR k) a) aB au rfl ((hkb.from_ ai.rfl_).whole)) ?_))))));have hM17:ai _ w5:=ai.rfl_;have hlt1:b1<(w5).heap.size:=(hkb.from_ ai.rfl_).lt;refine aA kf (qx (wkR k) a _ (hrd.from_ ai.rfl_) hszs.1 hszs.2 hmk) ?_;rintro v17 w7 ⟨⟨tag9,a9,O9,oc9,L9,rfl,hf9,hm9,ht9⟩,E17⟩;refine mvt rfl (aa (aN rfl rfl) (aa (aN rfl rfl) (aa (aN rfl rfl) (bK (vs:=[_,_,_,_,_,_,_,_,_,_,_,_,_,_,_,_,_,_,_,_,_,_]) au rfl rfl (by simp [Value.oneCell']) (((hkb.from_ hM17).from_ E17)) rfl ?_))));intro w8 O7 P7;have hrd9:eD w8 (wkR (k+1)) a9:=aR.rd (bF.chg8 hf9 (O7.toChg rfl) (ht9 b1 hlt1));refine asi rfl (ak (ah (an (ag (mvi rfl (aA eR (gn _ _) ?_))))));rintro v22 w9 ⟨rfl,rfl⟩;refine aa (ea (dp rfl rfl) rfl) (ak (ah (bM rfl (aO (bH (ah (ag (mvi rfl (aa (bE rfl rfl (by omega)) (asi rfl (ak ?_)))))))))));refine cG ((k+1,a9)) ⟨(by first | rfl | (refine br ?_;omega)),(by first | rfl | (refine br ?_;omega)),trivial⟩ (by (iterate 31 refine bQ rfl ?_);exact cf) ⟨?_,?_⟩
  ·exact ⟨by omega,P7.from_ ai.rfl_,hrd9.from_ ai.rfl_,((hB.next E17).only O7 (hg1))⟩
  ·show 20-(k+1)<20-k;omega
 have h20:k=20:=by omega
 have hwe:=xF;rw [←h20] at hwe;refine cd (bd (bd (bL (ah (an (ag (aa (ae cV rfl) (aa (ar ao rfl (by exact (show _=some (Value.int .i64 (wkR k).role) from (hkb.from_ ai.rfl_).rd 2 rfl))) ?_))))))));refine aa (dv (bB rfl rfl) (by rw [hwe.1];rfl)) ?_;refine mvb rfl (af rfl (aa (ae cl rfl) (af rfl (aa (ar ao rfl (by exact (show _=some (Value.int .i64 (wkR k).term) from (hkb.from_ ai.rfl_).rd 3 rfl))) ?_))));refine af rfl (aa (dv (bB rfl rfl) (by rw [hwe.2.1];rfl)) ?_);refine aa (aq (v:=.bool _) rfl rfl) (mvb rfl (af rfl (aa (ae cC rfl) (af rfl (aa (ar ao rfl (by exact (show _=some (Value.int .i64 (wkR k).commit) from (hkb.from_ ai.rfl_).rd 10 rfl))) ?_)))));refine af rfl (aa (dv (bB rfl rfl) (by rw [hwe.2.2];rfl)) ?_);refine aa (aq (v:=.bool _) rfl rfl) (asb rfl (ak (ah (aD (bm (v:=.bool _) rfl rfl (⟨rfl,hB⟩))))))
theorem fC:aV prog 30=true:=by kernel_rfl
theorem eL:cL prog 41 0=some 0:=by kernel_rfl
theorem fB:aV prog 31=true:=by kernel_rfl
theorem rD:aV prog 32=true:=by kernel_rfl
theorem cX:aV prog 49=true:=by kernel_rfl
theorem fA:aV prog 50=true:=by kernel_rfl
theorem fz:aV prog 51=true:=by kernel_rfl
theorem fy:aV prog 52=true:=by kernel_rfl
theorem s3:zR.votes.length≤1000000∧zR.next.length≤1000000∧zR.mtch.length≤1000000∧zR.sent.length≤1000000∧zR.reads.length≤1000000∧∀ q∈zR.reads,q.acks.length≤1000000:=⟨Nat.zero_le _,Nat.zero_le _,Nat.zero_le _,Nat.zero_le _,Nat.zero_le _,fun q hq=>by cases hq⟩
theorem gU:zR.es.length≤1000000∧zR.votes.length≤1000000∧zR.next.length≤1000000∧zR.mtch.length≤1000000∧zR.sent.length≤1000000∧zR.reads.length≤1000000∧∀ q∈zR.reads,q.acks.length≤1000000:=⟨Nat.zero_le _,s3⟩
theorem kr (w:World):Rt prog 50 [.slice none 0 0,.slice none 0 0] w fun v w'=>v=.bool true∧ai w w':=
 rb none none 0 0 0 [] [] w (fun h=>absurd h (Nat.lt_irrefl _)) (fun h=>absurd h (Nat.lt_irrefl _)) rfl rfl rfl (fun x hx=>by cases hx) (fun x hx=>by cases hx) (fun x hx=>by cases hx) (Nat.zero_le _)
theorem gH (tag:Nat→Nat) (w:World):Rt prog 52 [.slice none 0 0] w fun v w'=>v=.tuple #[]∧Chg (fun q=>tag q=6∨∃ i,tag q=1000+2*i) w w':=
 k7 tag [] none 0 [] w ⟨World.ownsRow_nil _ _ _ _,rfl,fun j hj=>absurd hj (Nat.not_lt_zero _),Col.none⟩ (Nat.zero_le _) (fun x hx=>by cases hx)
theorem tD (s:Rf) (a:Ra) (x:Ac) (w:World) (hrd:eD w s a) (hl:s.votes.length≤1000000∧s.next.length≤1000000∧s.mtch.length≤1000000∧s.sent.length≤1000000∧s.reads.length≤1000000∧∀ q∈s.reads,q.acks.length≤1000000) (hel:s.es.length≤1000000) (hd:wiN x.dx 10=0) (hm:gb s=true) :
 Rt prog 17 [.agg (rfV s a).toArray,.agg (acV x).toArray] w (fun v w'=>(∃ a',v=.tuple #[.agg (rfV ((cn s).s) a').toArray,.bool true]∧eD w' ((cn s).s) a')∧ai w w'):=by
 have hF:=iJ hm;have hFt:=hF.tick;have hOt:=(uB hF).up (show 100≤1000 by decide);refine enter (n:=217) Tryz.func17 rfl rfl rfl (an (ag (cE (v:=.agg _) rfl ?_)));intro b2 w1 E2 hb2 hk2;have hg2:w.heap.size≤b2:=by rw [hb2];exact (ai.rfl_).size
 refine cE (v:=.agg _) rfl ?_;intro b3 w2 E3 hb3 hk3;have h23:b2<b3:=by have:=hk2.lt;omega
 replace hk2:=hk2.from_ E3;refine bw bC ?_;intro b4 w3 E4 hb4 hk4;have h34:b3<b4:=by have:=hk3.lt;omega
 replace hk2:=hk2.from_ E4;replace hk3:=hk3.from_ E4;have hg4:w.heap.size≤b4:=by omega
 refine asb rfl (ak (ah (an (ag (aa (aJ (cs:=rfV s a) aB au rfl ((hk2.from_ ai.rfl_).whole)) ?_)))));have hz4:b4<(w3).heap.size:=(hk4.from_ ai.rfl_).lt;refine aA eF (eh s a _ (hrd.from_ (((ai.rfl_.next E2).next E3).next E4)) hl hel) ?_;rintro v23 w4 ⟨⟨tagI,aI,rfl,hI,htI⟩,E23⟩;have hM6:ai _ w4:=(ai.rfl_.next E23);have hz4b:=((hk4.from_ hM6)).lt;obtain ⟨tI,hI6,htI6⟩:∃ t,aR w4 t s aI∧∀ k,(k≤b4∨(w4).heap.size≤k)→t k=8:=⟨_,hI.re 8,fun k hk=>hk.elim (fun h=>(bZ (by omega)).trans (htI k (by omega))) (fun h=>cW h)⟩;refine bw bC ?_;intro b6 w5 E6 hb6 hk6;have h46:b4<b6:=by omega
 have hg6:w.heap.size≤b6:=by omega
 replace htI6:∀ k,(k≤b4∨b6≤k)→tI k=8:=by rw [hb6];exact htI6
 replace hI6:=hI6.from_ E6;replace hk2:=hk2.from_ (hM6.next E6);replace hk3:=hk3.from_ (hM6.next E6);replace hk4:=hk4.from_ (hM6.next E6);refine bK (vs:=[_,_,_,_,_,_,_,_,_,_,_,_,_,_,_,_,_,_,_,_,_,_]) au rfl rfl (by simp [Value.oneCell']) (hk6) rfl ?_;intro w6 O1 P1;replace hk2:=hk2.only O1 (by omega);replace hk3:=hk3.only O1 (by omega);replace hk4:=hk4.only O1 (by omega);replace hI6:=bF.chg8 hI6 (O1.toChg rfl) (htI6 b6 (.inr (by omega)));have hq6:Blk w6 b6 29 (rfV s aI).toArray:=P1;refine ak (ah (an (ag (aa (aJ (cs:=rfV s a) aB au rfl ((hk2.from_ ai.rfl_).whole)) (aA fC (kH s a _ (hrd.from_ ((((((ai.rfl_.next E2).next E3).next E4).next E23).next E6).only O1 (hg6))) hl hm) ?_)))));rintro v25 w7 ⟨rfl,E25⟩;refine asb rfl (ak (ah (an (ag (aa (cp (l:=[]) (dr)) ?_)))));have hM8:ai _ w7:=(ai.rfl_.next E25);have hz6b:=(hq6.from_ hM8).lt;refine bw bC ?_;intro b8 w8 E8 hb8 hk8;have h68:b6<b8:=by omega
 have hg8:w.heap.size≤b8:=by omega
 replace hk2:=hk2.from_ (hM8.next E8);replace hk3:=hk3.from_ (hM8.next E8);replace hk4:=hk4.from_ (hM8.next E8);replace hq6:=hq6.from_ (hM8.next E8);replace hI6:=hI6.from_ (hM8.next E8);refine bK (vs:=[_,_,_,_,_,_,_,_,_,_,_,_,_,_,_,_,_,_,_,_,_,_]) au rfl rfl (by simp [Value.oneCell']) (hk8) rfl ?_;intro w9 O3 P3;replace hk2:=hk2.only O3 (by omega);replace hk3:=hk3.only O3 (by omega);replace hk4:=hk4.only O3 (by omega);replace hq6:=hq6.only O3 (by omega);replace hI6:=bF.chg8 hI6 (O3.toChg rfl) (htI6 b8 (.inr (by omega)));have hq8:Blk w9 b8 29 (rfV zR a0).toArray:=P3;refine ass rfl (asi rfl (ak (ah (an (ag ?_)))));have hM11:ai _ w9:=ai.rfl_;have hz8b:=(hq8.from_ hM11).lt;refine bw bC ?_;intro b11 w10 E11 hb11 hk11;have h811:b8<b11:=by omega
 have hg11:w.heap.size≤b11:=by omega
 replace hk2:=hk2.from_ (hM11.next E11);replace hk3:=hk3.from_ (hM11.next E11);replace hk4:=hk4.from_ (hM11.next E11);replace hq6:=hq6.from_ (hM11.next E11);replace hq8:=hq8.from_ (hM11.next E11);replace hI6:=hI6.from_ (hM11.next E11);refine ak (ah (an (ag (ass rfl (ak (ah (an (ag (asi rfl (ak (ah (an (an (ag (aa (ae eL rfl) (aa (ar ao rfl (by exact (show _=some (Value.int .i64 x.dx) from (hk3.from_ ai.rfl_).rd 0 rfl))) ?_))))))))))))))));refine aA fB (gG x.dx 10 0 _ (by decide) hd) ?_;rintro v29 w11 ⟨rfl,rfl⟩;refine ak (ah (aZ (an (an (ag (aa (dv (bB rfl rfl) rfl) (asb rfl (ak (ah (aL rfl (aO (ah (aL rfl (an (an (ag (mvb rfl ?_)))))))))))))))));refine ak (ah (aL rfl (an (ag (aa (aJ (cs:=rfV s a) aB au rfl ((hk2.from_ ai.rfl_).whole)) ?_)))));have hMr:ai _ w10:=ai.rfl_;replace hk2:=hk2.from_ hMr;replace hk3:=hk3.from_ hMr;replace hk4:=hk4.from_ hMr;replace hq6:=hq6.from_ hMr;replace hq8:=hq8.from_ hMr;replace hk11:=hk11.from_ hMr;replace hI6:=hI6.from_ hMr;have hz11:=hk11.lt;refine aA rD (vZ s a _ (hrd.from_ ((((((((((ai.rfl_.next E2).next E3).next E4).next E23).next E6).only O1 (hg6)).next E25).next E8).only O3 (hg8)).next E11)) hl hel hm) ?_;rintro v65 w12 ⟨⟨tagW,aW,O8,oc8,L8,rfl,hW,hoW,htW⟩,E65⟩;replace hk2:=hk2.from_ E65;replace hk3:=hk3.from_ E65;replace hk4:=hk4.from_ E65;replace hq6:=hq6.from_ E65;replace hq8:=hq8.from_ E65;replace hk11:=hk11.from_ E65;replace hI6:=hI6.from_ E65;have htWb:∀ k,k≤b11→tagW k=8:=fun k hk=>htW k (by omega)
 refine mvt rfl (aa (aN rfl rfl) (aa (aN rfl rfl) (bK (vs:=[_,_,_,_,_,_,_,_,_,_,_,_,_,_,_,_,_,_,_,_,_,_]) au rfl rfl (by simp [Value.oneCell']) (hq8) rfl ?_)));intro w13 O19 P19;replace hk2:=hk2.only O19 (by omega);replace hk3:=hk3.only O19 (by omega);replace hk4:=hk4.only O19 (by omega);replace hq6:=hq6.only O19 (by omega);replace hk11:=hk11.only O19 (by omega);replace hI6:=bF.chg8 hI6 (O19.toChg rfl) (htI6 b8 (.inr (by omega)));replace hW:=bF.chg8 hW (O19.toChg rfl) (htWb b8 (by omega));replace hoW:=hoW.chgT (U:=fun k=>k=b8) (O19.toChg rfl) (fun q _ e=>.inl (by rw [show q=b8 from e];exact htWb b8 (by omega)));have hq8:Blk w13 b8 29 (rfV (cn s).s aW).toArray:=P19;refine ass rfl (ak (ah (ag (asi rfl (ak (ah (ag (aa (aJ (cs:=rfV s aI) aB au rfl ((hq6.from_ ai.rfl_).whole)) ?_))))))));have hMc:ai _ w13:=ai.rfl_;replace hk2:=hk2.from_ hMc;replace hk3:=hk3.from_ hMc;replace hk4:=hk4.from_ hMc;replace hq6:=hq6.from_ hMc;replace hq8:=hq8.from_ hMc;replace hk11:=hk11.from_ hMc;replace hI6:=hI6.from_ hMc;replace hW:=hW.from_ hMc;replace hoW:=hoW.from_ hMc;have hfB:ai w w13:=((((((((((((ai.rfl_.next E2).next E3).next E4).next E23).next E6).only O1 (hg6)).next E25).next E8).only O3 (hg8)).next E11).next E65).only O19 (hg8));have hz11c:=hk11.lt;obtain ⟨wc,hwc⟩:∃ x,x=w13:=⟨_,rfl⟩;refine aA kf (qx s aI _ (aR.rd hI6) hl hel hm) ?_;rintro v70 w14 ⟨⟨tagx,ax,Ox,ocx,Lx,rfl,hx,hox,htx⟩,E70⟩;have E70c:=E70;rw [←hwc] at hk2 hk3 hk4 hq6 hq8 hk11 hI6 hW hoW hfB hz11c E70c htx;have hX0:Chg (UBs wc.heap.size b4 b11) wc w14:=ai.toChg E70c
 have hUB:∀ k,UBs wc.heap.size b4 b11 k→w.heap.size≤k:=fun k hk=>by
  have:=hfB.size;rcases hk with e | e | e <;> omega
 have fX:∀ {w9:World},Chg (UBs wc.heap.size b4 b11) wc w9→ai w w9:=fun h=>hfB.chg h hUB
 have hn2:¬ UBs wc.heap.size b4 b11 b2:=fun e=>by rcases e with e | e | e <;> omega
 have hn3:¬ UBs wc.heap.size b4 b11 b3:=fun e=>by rcases e with e | e | e <;> omega
 have hn6:¬ UBs wc.heap.size b4 b11 b6:=fun e=>by rcases e with e | e | e <;> omega
 have hn8:¬ UBs wc.heap.size b4 b11 b8:=fun e=>by rcases e with e | e | e <;> omega
 refine mvt rfl (aa (aN rfl rfl) (aa (aN rfl rfl) (aa (aN rfl rfl) (bK (vs:=[_,_,_,_,_,_,_,_,_,_,_,_,_,_,_,_,_,_,_,_,_,_]) au rfl rfl (by simp [Value.oneCell']) ((hk11.from_ E70c)) rfl ?_))));intro w15 O21 P21;have hX1:=hX0.only O21 (.inl rfl);have hx1:=bF.chg8 hx (O21.toChg rfl) (htx b11 (by omega));have hox1:=hox.chgT (U:=fun k=>k=b11) (O21.toChg rfl) (fun q _ e=>.inl (by have e9:q=b11:=e;subst e9;exact htx _ (by omega)));have hk4d:=(hk4.from_ E70c).only O21 (by omega);have hk2d:=hk2.chg hX1 hn2;have hk3d:=hk3.chg hX1 hn3;have hk6d:=hq6.chg hX1 hn6;have hk8d:=hq8.chg hX1 hn8;have hId:=aR.chgT hI6 hX1 (fun q hq e=>.inl (by rcases e with e | e | e;exact htI6 q (.inr (by omega));exact htI6 q (.inl (by omega));omega));have hWd:=aR.chgT hW hX1 (fun q hq e=>.inl (by rcases e with e | e | e;exact htWb q (by omega);exact htWb q (by omega);omega));have hoWd:=hoW.chgT hX1 (fun q hq e=>.inl (by rcases e with e | e | e;exact htWb q (by omega);exact htWb q (by omega);omega));have hk11d:Blk w15 b11 29 (rfV (cn s).s ax).toArray:=P21;refine ass rfl (asi rfl (ak (bH (ah (an (an (ag (mvi rfl (aa (ea (dp rfl rfl) rfl) (ak (ah (bM rfl (aO (ah (an (ag (mvi rfl ?_)))))))))))))))));refine aA eR (gn _ _) ?_;rintro v179 w16 ⟨rfl,rfl⟩;refine mvi rfl (aa (dv (bB rfl rfl) rfl) (mvb rfl (af rfl (aa (aJ (cs:=rfV (cn s).s ax) aB au rfl ((hk11d.from_ ai.rfl_).whole)) (af rfl (aa (aJ (cs:=rfV (cn s).s aW) aB au rfl ((hk8d.from_ ai.rfl_).whole)) (af rfl (aA cX (dE (cn s).s ax aW _ ((aR.rd hx1).from_ ai.rfl_) ((aR.rd hWd).from_ ai.rfl_) (RfF.sizes7 hFt)) ?_))))))));rintro v185 w17 ⟨rfl,E185⟩;refine aa (aq (v:=.bool _) rfl rfl) (mvb rfl (af rfl (mvs rfl (af rfl (mvs rfl (af rfl (aA fA (wH (hox1.from_ (ai.rfl_.next E185)) (hoWd.from_ (ai.rfl_.next E185)) hOt) ?_)))))));rintro v190 w18 ⟨rfl,E190⟩;refine aa (aq (v:=.bool _) rfl rfl) (mvb rfl (af rfl (aa (aJ (cs:=rfV s aI) aB au rfl ((hk6d.from_ ((ai.rfl_.next E185).next E190)).whole)) (af rfl (aa (aJ (cs:=rfV s a) aB au rfl ((hk2d.from_ ((ai.rfl_.next E185).next E190)).whole)) (af rfl (aA cX (dE s aI a _ ((aR.rd hId).from_ ((ai.rfl_.next E185).next E190)) (hrd.from_ ((((((((((((((((ai.rfl_.next E2).next E3).next E4).next E23).next E6).only O1 (hg6)).next E25).next E8).only O3 (hg8)).next E11).next E65).only O19 (hg8)).next E70).only O21 (hg11)).next E185).next E190)) (sz7 hl hel)) ?_)))))));rintro v195 w19 ⟨rfl,E195⟩;refine aa (aq (v:=.bool _) rfl rfl) (asb rfl (ak (ah (an (ag (aa (aJ (cs:=rfV (cn s).s ax) aB au rfl ((hk11d.from_ (((ai.rfl_.next E185).next E190).next E195)).whole)) ?_))))));have hM198:ai _ w19:=(((ai.rfl_.next E185).next E190).next E195);replace hk2d:=hk2d.from_ hM198;replace hk3d:=hk3d.from_ hM198;replace hk6d:=hk6d.from_ hM198;replace hk8d:=hk8d.from_ hM198;replace hk4d:=hk4d.from_ hM198;replace hk11d:=hk11d.from_ hM198;replace hId:=hId.from_ hM198;replace hWd:=hWd.from_ hM198;replace hx1:=hx1.from_ hM198;replace hox1:=hox1.from_ hM198;replace hoWd:=hoWd.from_ hM198;have fX9:∀ {w9:World},Chg (UBs wc.heap.size b4 b11) wc w9→ai w w9:=fun h=>hfB.chg h (fun k hk=>hUB k hk)
 refine aA fz (fc tagx (cn s).s ax _ hx1 (RfF.sizes hFt).1 (RfF.sizes hFt).2) ?_;rintro v198 w20 ⟨rfl,hC198⟩;have hX2:Chg (UBs wc.heap.size b4 b11) wc w20:=(hX1.next hM198.toChg).next (hC198.wide (fun q e=>.inl (.inr (.inr (by rcases Nat.lt_or_ge q wc.heap.size with h9 | h9;exact absurd (htx q h9) (fun h8=>(StC.eight e) h8.symm);exact h9)))));replace hox1:=hox1.chgT hC198 (fun q _ e=>.inr e);replace hk2d:=hk2d.chg hC198 (fun e=>by have h8:=htx b2 (by omega);exact absurd h8.symm (StC.eight e));replace hk3d:=hk3d.chg hC198 (fun e=>by have h8:=htx b3 (by omega);exact absurd h8.symm (StC.eight e));replace hk6d:=hk6d.chg hC198 (fun e=>by have h8:=htx b6 (by omega);exact absurd h8.symm (StC.eight e));replace hk8d:=hk8d.chg hC198 (fun e=>by have h8:=htx b8 (by omega);exact absurd h8.symm (StC.eight e));replace hk4d:=hk4d.chg hC198 (fun e=>by have h8:=htx b4 (by omega);exact absurd h8.symm (StC.eight e));refine ak (ah (an (ag (mvs rfl ?_))));have hM200:ai _ w20:=ai.rfl_;replace hk2d:=hk2d.from_ hM200;replace hk3d:=hk3d.from_ hM200;replace hk6d:=hk6d.from_ hM200;replace hk8d:=hk8d.from_ hM200;replace hk4d:=hk4d.from_ hM200;replace hox1:=hox1.from_ hM200;refine aA fy (k7 tagx (cn s).out Ox ocx Lx _ hox1 (by have:=hox1.len;have:=hOt.1;omega) (fun y hy=>by have:=ew.es hox1 hOt y hy;omega)) ?_;rintro v200 w21 ⟨rfl,hC200⟩;have hX3:Chg (UBs wc.heap.size b4 b11) wc w21:=(hX2.next hM200.toChg).next (hC200.wide (fun q e=>.inl (.inr (.inr (by rcases Nat.lt_or_ge q wc.heap.size with h9 | h9;exact absurd (htx q h9) (fun h8=>by rcases e with e | ⟨j,e⟩ <;> omega);exact h9)))));replace hk2d:=hk2d.chg hC200 (fun e=>by have h8:=htx b2 (by omega);exact (by rcases e with e | ⟨j,e⟩ <;> omega));replace hk3d:=hk3d.chg hC200 (fun e=>by have h8:=htx b3 (by omega);exact (by rcases e with e | ⟨j,e⟩ <;> omega));replace hk6d:=hk6d.chg hC200 (fun e=>by have h8:=htx b6 (by omega);exact (by rcases e with e | ⟨j,e⟩ <;> omega));replace hk8d:=hk8d.chg hC200 (fun e=>by have h8:=htx b8 (by omega);exact (by rcases e with e | ⟨j,e⟩ <;> omega));replace hk4d:=hk4d.chg hC200 (fun e=>by have h8:=htx b4 (by omega);exact (by rcases e with e | ⟨j,e⟩ <;> omega));have hk2e:=hk2.chg hX3 hn2;have hk3e:=hk3.chg hX3 hn3;have hk6e:=hq6.chg hX3 hn6;have hk8e:=hq8.chg hX3 hn8;have hIe:=aR.chgT hI6 hX3 (fun q hq e=>.inl (by rcases e with e | e | e;exact htI6 q (.inr (by omega));exact htI6 q (.inl (by omega));omega));have hWe:=aR.chgT hW hX3 (fun q hq e=>.inl (by rcases e with e | e | e;exact htWb q (by omega);exact htWb q (by omega);omega));have hoWe:=hoW.chgT hX3 (fun q hq e=>.inl (by rcases e with e | e | e;exact htWb q (by omega);exact htWb q (by omega);omega));refine ak (ah (an (an (ag (mvi rfl (aa (ea (dp rfl rfl) rfl) (ak (ah (bM rfl (aO (ah (an ?_))))))))))));apply iN [(0,210,fun _ v _=>v=.agg (rfV (cn s).s aW).toArray),(1,211,fun _ v _=>v=.bool true),(2,212,fun _ v _=>v=.bool true),(3,213,fun _ v _=>v=.agg (rfV s aI).toArray),(4,214,fun _ v _=>v=.agg (rfV s a).toArray),(5,215,fun _ v _=>v=.bool true),(6,216,fun _ v _=>v=.bool true),(8,5,fun _ v _=>v=.bool true)] [7] (fun S w'=>(S 7=false→ai w21 w')∧(S 7=true→Blk w' b4 29 (rfV (cn s).s aW).toArray∧Chg (fun k=>k=b4) w21 w')) (by kernel_rfl) (by kernel_rfl) (by exact ⟨trivial,trivial,trivial,⟨by kernel_rfl,_,_,(.tail _ (.tail _ (.head _))),rfl,rfl,fun _ _ _ h=>h⟩,⟨by kernel_rfl,_,_,(.tail _ (.tail _ (.head _))),rfl,rfl,fun _ _ _ h=>h⟩,⟨by kernel_rfl,_,_,(.tail _ (.tail _ (.head _))),rfl,rfl,fun _ _ _ h=>h⟩,trivial,trivial,trivial,trivial⟩) rfl rfl ⟨fun _ _ _ _ _ _ _ h=>h,fun _ _ _ _ _ _ _ h=>h,fun _ _ _ _ _ _ _ h=>h,fun _ _ _ _ _ _ _ h=>h,fun _ _ _ _ _ _ _ h=>h,fun _ _ _ _ _ _ _ h=>h,fun _ _ _ _ _ _ _ h=>h,fun _ _ _ _ _ _ _ h=>h,trivial⟩ (fun S i w1 w2 hq hF h=>⟨fun h0=>(h.1 (ku h0)).next hF,fun h1=>(fun h=>⟨h.1.from_ hF,h.2.next hF.toChg⟩) (h.2 (kG (show 7≠i by rintro rfl;exact absurd hq (by decide)) h1))⟩) ⟨fun _=>ai.rfl_.d1,fun h=>by cases h⟩
 case hstep=>
  constructor
  ·rintro S L' w22 hU hmo hme hI hM hC hS ⟨-⟩;have hS0:S 7=false:=(aj hC (j:=7) rfl (by kernel_rfl) hS);have hM22:=hM.1 hS0;have e8:=hI.1 8 (dw rfl);exact aE [(8,_)] hU hmo hme hI hM (.head _) rfl rfl (by kernel_rfl) ⟨e8,trivial⟩ ((aJ (cs:=rfV (cn s).s aW) aB au rfl ((hk8d.from_ (ai.rfl_.next hM22)).whole))) (ai.rfl_) (rfl)
  constructor
  ·rintro S L' w23 hU hmo hme hI hM hC hS ⟨-⟩;have hS0:S 7=false:=(aj hC (j:=7) rfl (by kernel_rfl) (aj hC (j:=5) rfl (by kernel_rfl) (aj hC (j:=3) rfl (by kernel_rfl) (aj hC (j:=2) rfl (by kernel_rfl) hS))));have hM23:=hM.1 hS0;have e21:=hI.1 21 (dw rfl);exact aE [(21,_)] hU hmo hme hI hM (.tail _ (.head _)) rfl rfl (by kernel_rfl) ⟨e21,trivial⟩ (aM (v:=.bool _) rfl) ai.rfl_ (rfl)
  constructor
  ·rintro S L' w24 hU hmo hme hI hM hC hS ⟨d1,-⟩;have hS0:S 7=false:=(aj hC (j:=7) rfl (by kernel_rfl) (aj hC (j:=5) rfl (by kernel_rfl) hS));have hM24:=hM.1 hS0;obtain ⟨v24_211,e211,h211⟩:=hI.get (i:=1) (.tail _ (.head _)) d1;obtain rfl:=h211;exact aE [(211,_)] hU hmo hme hI hM (.tail _ (.tail _ (.head _))) rfl rfl (by kernel_rfl) ⟨e211,trivial⟩ (aM (v:=.bool _) rfl) ai.rfl_ (rfl)
  constructor
  ·rintro S L' w25 hU hmo hme hI hM hC hS ⟨d2,-⟩;have hS0:S 7=false:=(aj hC (j:=7) rfl (by kernel_rfl) (aj hC (j:=5) rfl (by kernel_rfl) hS));have hM25:=hM.1 hS0;have e6:=hI.1 6 (dw rfl);exact aE [(6,_)] hU hmo hme hI hM (.tail _ (.tail _ (.tail _ (.head _)))) rfl rfl (by kernel_rfl) ⟨e6,trivial⟩ ((aJ (cs:=rfV s aI) aB au rfl ((hk6d.from_ (ai.rfl_.next hM25)).whole))) (ai.rfl_) (rfl)
  constructor
  ·rintro S L' w26 hU hmo hme hI hM hC hS ⟨d2,-⟩;have hS0:S 7=false:=(aj hC (j:=7) rfl (by kernel_rfl) (aj hC (j:=5) rfl (by kernel_rfl) hS));have hM26:=hM.1 hS0;have e2:=hI.1 2 (dw rfl);exact aE [(2,_)] hU hmo hme hI hM (.tail _ (.tail _ (.tail _ (.tail _ (.head _))))) rfl rfl (by kernel_rfl) ⟨e2,trivial⟩ ((aJ (cs:=rfV s a) aB au rfl ((hk2d.from_ (ai.rfl_.next hM26)).whole))) (ai.rfl_) (rfl)
  constructor
  ·rintro S L' w27 hU hmo hme hI hM hC hS ⟨d3,d4,d2,d2,-⟩;have hS0:S 7=false:=(aj hC (j:=7) rfl (by kernel_rfl) hS);have hM27:=hM.1 hS0;obtain ⟨v27_213,e213,h213⟩:=hI.get (i:=3) (.tail _ (.tail _ (.tail _ (.head _)))) d3;obtain rfl:=h213;obtain ⟨v27_214,e214,h214⟩:=hI.get (i:=4) (.tail _ (.tail _ (.tail _ (.tail _ (.head _))))) d4;obtain rfl:=h214;refine fb (al:=[.tmp 213,.tmp 214]) [(213,_),(214,_)] hU hmo hme hI hM (.tail _ (.tail _ (.tail _ (.tail _ (.tail _ (.head _)))))) rfl (by kernel_rfl) ⟨e213,e214,trivial⟩ cX ((dE s aI a _ ((aR.rd hIe).from_ (ai.rfl_.next hM27)) (hrd.from_ ((fX9 hX3).next hM27)) (sz7 hl hel)).mono ?_);rintro v w2 ⟨rfl,E27'⟩;exact ⟨E27',rfl⟩
  constructor
  ·rintro S L' w28 hU hmo hme hI hM hC hS ⟨d2,d5,-,-⟩;obtain ⟨v28_212,e212,h212⟩:=hI.get (i:=2) (.tail _ (.tail _ (.head _))) d2;obtain rfl:=h212;obtain ⟨v28_215,e215,h215⟩:=hI.get (i:=5) (.tail _ (.tail _ (.tail _ (.tail _ (.tail _ (.head _)))))) d5;obtain rfl:=h215;exact aE [(212,_),(215,_)] hU hmo hme hI hM (.tail _ (.tail _ (.tail _ (.tail _ (.tail _ (.tail _ (.head _))))))) rfl rfl (by kernel_rfl) ⟨e212,e215,trivial⟩ ((aq (v:=.bool true) rfl rfl)) (ai.rfl_) (rfl)
  constructor
  ·rintro S L' w29 hU hmo hme hI hM hC hS ⟨d0,d5,d0,-,-,-,-,-,-,-⟩;have hS0:S 7=false:=hS;have hM29:=hM.1 hS0;have e4:=hI.1 4 (dw rfl);obtain ⟨v29_210,e210,h210⟩:=hI.get (i:=0) (.head _) d0;obtain rfl:=h210;obtain ⟨w2,hR,hO,hb⟩:=fH (P:=prog) (n:=⟨217,[]⟩) (L:=[(4,.pointer (some ⟨b4,0,none⟩)),(210,.agg (rfV (cn s).s aW).toArray)]) (x:=.tmp 4) (y:=.tmp 210) (vs:=rfV (cn s).s aW) au rfl rfl (by simp [rfV,Value.oneCell']) ((hk4d.from_ (ai.rfl_.next hM29))) rfl;exact iC [(4,_),(210,_)] hI (sr rfl) rfl (by kernel_rfl) ⟨e4,e210,trivial⟩ hR ⟨fun h0=>(by rw [jQ] at h0;cases h0),fun _=>⟨hb,(ai.toChg hM29).next (hO.toChg rfl)⟩⟩ ⟨fun _ _ _ h=>h,fun _ _ _ h=>h,fun _ _ _ h=>h,fun _ _ _ h=>h,fun _ _ _ h=>h,fun _ _ _ h=>h,fun _ _ _ h=>h,fun _ _ _ h=>h,trivial⟩
  constructor
  ·rintro S L' w30 hU hmo hme hI hM hC hS ⟨d6,d7,d0,d1,d2,d3,d4,d5,d6,d7,-⟩;obtain ⟨v30_216,e216,h216⟩:=hI.get (i:=6) (.tail _ (.tail _ (.tail _ (.tail _ (.tail _ (.tail _ (.head _))))))) d6;obtain rfl:=h216;exact aE [(216,_)] hU hmo hme hI hM (.tail _ (.tail _ (.tail _ (.tail _ (.tail _ (.tail _ (.tail _ (.head _)))))))) rfl rfl (by kernel_rfl) ⟨e216,trivial⟩ (dg (v:=.bool _) rfl) ai.rfl_ (rfl)
  exact trivial
 case hend=>
  intro w31 hM;obtain ⟨hq4,hC9⟩:=hM.2 rfl;rintro v31_210 rfl v31_211 rfl v31_212 rfl v31_213 rfl v31_214 rfl v31_215 rfl v31_216 rfl v31_5 rfl;refine fj (ah (aD (fo rfl (cS (cs:=[_,_,_,_,_,_,_,_,_,_,_,_,_,_,_,_,_,_,_,_,_,_]) aB au rfl (by exact hq4.whole)) (dW (v:=.bool _) rfl) ?_)));exact ⟨⟨aW,rfl,(aR.rd (bF.chg8 hWe hC9 (htWb b4 (by omega)))).from_ ai.rfl_⟩,(fX9 ((hX3.next (ai.rfl_:ai _ w21).toChg).next (hC9.wide fun k hk=>.inl (.inr (.inl hk)))))⟩
theorem pI (s:Rf) (a:Ra) (x:Ac) (w:World) (hrd:eD w s a) (hl:s.votes.length≤1000000∧s.next.length≤1000000∧s.mtch.length≤1000000∧s.sent.length≤1000000∧s.reads.length≤1000000∧∀ q∈s.reads,q.acks.length≤1000000) (hel:s.es.length≤1000000) (hd:wiN x.dx 10=0) (hm:gb s=false) :
 Rt prog 17 [.agg (rfV s a).toArray,.agg (acV x).toArray] w (fun v w'=>(∃ a',v=.tuple #[.agg (rfV (s) a').toArray,.bool true]∧eD w' (s) a')∧ai w w'):=by
 have hOt:dI 1000 (⟨zR,[]⟩:Sp).out:=dI.nil;refine enter (n:=217) Tryz.func17 rfl rfl rfl (an (ag (cE (v:=.agg _) rfl ?_)));intro b2 w1 E2 hb2 hk2;have hg2:w.heap.size≤b2:=by rw [hb2];exact (ai.rfl_).size
 refine cE (v:=.agg _) rfl ?_;intro b3 w2 E3 hb3 hk3;have h23:b2<b3:=by have:=hk2.lt;omega
 replace hk2:=hk2.from_ E3;refine bw bC ?_;intro b4 w3 E4 hb4 hk4;have h34:b3<b4:=by have:=hk3.lt;omega
 replace hk2:=hk2.from_ E4;replace hk3:=hk3.from_ E4;have hg4:w.heap.size≤b4:=by omega
 refine asb rfl (ak (ah (an (ag (aa (aJ (cs:=rfV s a) aB au rfl ((hk2.from_ ai.rfl_).whole)) ?_)))));have hz4:b4<(w3).heap.size:=(hk4.from_ ai.rfl_).lt;refine aA eF (eh s a _ (hrd.from_ (((ai.rfl_.next E2).next E3).next E4)) hl hel) ?_;rintro v23 w4 ⟨⟨tagI,aI,rfl,hI,htI⟩,E23⟩;have hM6:ai _ w4:=(ai.rfl_.next E23);have hz4b:=((hk4.from_ hM6)).lt;obtain ⟨tI,hI6,htI6⟩:∃ t,aR w4 t s aI∧∀ k,(k≤b4∨(w4).heap.size≤k)→t k=8:=⟨_,hI.re 8,fun k hk=>hk.elim (fun h=>(bZ (by omega)).trans (htI k (by omega))) (fun h=>cW h)⟩;refine bw bC ?_;intro b6 w5 E6 hb6 hk6;have h46:b4<b6:=by omega
 have hg6:w.heap.size≤b6:=by omega
 replace htI6:∀ k,(k≤b4∨b6≤k)→tI k=8:=by rw [hb6];exact htI6
 replace hI6:=hI6.from_ E6;replace hk2:=hk2.from_ (hM6.next E6);replace hk3:=hk3.from_ (hM6.next E6);replace hk4:=hk4.from_ (hM6.next E6);refine bK (vs:=[_,_,_,_,_,_,_,_,_,_,_,_,_,_,_,_,_,_,_,_,_,_]) au rfl rfl (by simp [Value.oneCell']) (hk6) rfl ?_;intro w6 O1 P1;replace hk2:=hk2.only O1 (by omega);replace hk3:=hk3.only O1 (by omega);replace hk4:=hk4.only O1 (by omega);replace hI6:=bF.chg8 hI6 (O1.toChg rfl) (htI6 b6 (.inr (by omega)));have hq6:Blk w6 b6 29 (rfV s aI).toArray:=P1;refine ak (ah (an (ag (aa (aJ (cs:=rfV s a) aB au rfl ((hk2.from_ ai.rfl_).whole)) (aA fC (kH s a _ (hrd.from_ ((((((ai.rfl_.next E2).next E3).next E4).next E23).next E6).only O1 (hg6))) hl hm) ?_)))));rintro v25 w7 ⟨rfl,E25⟩;refine asb rfl (ak (ah (an (ag (aa (cp (l:=[]) (dr)) ?_)))));have hM8:ai _ w7:=(ai.rfl_.next E25);have hz6b:=(hq6.from_ hM8).lt;refine bw bC ?_;intro b8 w8 E8 hb8 hk8;have h68:b6<b8:=by omega
 have hg8:w.heap.size≤b8:=by omega
 replace hk2:=hk2.from_ (hM8.next E8);replace hk3:=hk3.from_ (hM8.next E8);replace hk4:=hk4.from_ (hM8.next E8);replace hq6:=hq6.from_ (hM8.next E8);replace hI6:=hI6.from_ (hM8.next E8);refine bK (vs:=[_,_,_,_,_,_,_,_,_,_,_,_,_,_,_,_,_,_,_,_,_,_]) au rfl rfl (by simp [Value.oneCell']) (hk8) rfl ?_;intro w9 O3 P3;replace hk2:=hk2.only O3 (by omega);replace hk3:=hk3.only O3 (by omega);replace hk4:=hk4.only O3 (by omega);replace hq6:=hq6.only O3 (by omega);replace hI6:=bF.chg8 hI6 (O3.toChg rfl) (htI6 b8 (.inr (by omega)));have hq8:Blk w9 b8 29 (rfV zR a0).toArray:=P3;refine ass rfl (asi rfl (ak (ah (an (ag ?_)))));have hM11:ai _ w9:=ai.rfl_;have hz8b:=(hq8.from_ hM11).lt;refine bw bC ?_;intro b11 w10 E11 hb11 hk11;have h811:b8<b11:=by omega
 have hg11:w.heap.size≤b11:=by omega
 replace hk2:=hk2.from_ (hM11.next E11);replace hk3:=hk3.from_ (hM11.next E11);replace hk4:=hk4.from_ (hM11.next E11);replace hq6:=hq6.from_ (hM11.next E11);replace hq8:=hq8.from_ (hM11.next E11);replace hI6:=hI6.from_ (hM11.next E11);refine ak (ah (an (ag (ass rfl (ak (ah (an (ag (asi rfl (ak (ah (an (an (ag (aa (ae eL rfl) (aa (ar ao rfl (by exact (show _=some (Value.int .i64 x.dx) from (hk3.from_ ai.rfl_).rd 0 rfl))) ?_))))))))))))))));refine aA fB (gG x.dx 10 0 _ (by decide) hd) ?_;rintro v29 w11 ⟨rfl,rfl⟩;refine ak (ah (aZ (an (an (ag (aa (dv (bB rfl rfl) rfl) (asb rfl (ak (ah (aL rfl (aO (ah (aL rfl (an (an (ag (mvb rfl ?_)))))))))))))))));refine ak (ah (bM rfl (aO (ah (ag (aa (aJ (cs:=rfV s aI) aB au rfl ((hq6.from_ ai.rfl_).whole)) ?_))))));have hMc:ai _ w10:=ai.rfl_;replace hk2:=hk2.from_ hMc;replace hk3:=hk3.from_ hMc;replace hk4:=hk4.from_ hMc;replace hq6:=hq6.from_ hMc;replace hq8:=hq8.from_ hMc;replace hk11:=hk11.from_ hMc;replace hI6:=hI6.from_ hMc;have hfB:ai w w10:=((((((((((ai.rfl_.next E2).next E3).next E4).next E23).next E6).only O1 (hg6)).next E25).next E8).only O3 (hg8)).next E11);have hz11c:=hk11.lt;obtain ⟨wc,hwc⟩:∃ x,x=w10:=⟨_,rfl⟩;refine aA kf (vW s aI _ (aR.rd hI6) hl hel hm) ?_;rintro v70 w12 ⟨rfl,E70⟩;have E70c:=E70;rw [←hwc] at hk2 hk3 hk4 hq6 hq8 hk11 hI6 hfB hz11c E70c;have htW:∀ k,(fun _:Nat=>8) k=8:=fun _=>rfl
 have hW:aR w12 (fun _=>8) zR a0:=aR.zero;have hx:aR w12 (fun _=>8) zR a0:=aR.zero;have htx:∀ k,k<wc.heap.size→(fun _:Nat=>8) k=8:=fun _ _=>rfl
 have hnil:∀ w9,ew w9 (fun _=>8) [] none 0 ([]:List Msg):=fun w9=>⟨World.ownsRow_nil _ _ _ _,rfl,fun j hj=>absurd hj (Nat.not_lt_zero _),Col.none⟩
 have hox:=hnil w12;have hX0:Chg (UBs wc.heap.size b4 b11) wc w12:=ai.toChg E70c
 have hUB:∀ k,UBs wc.heap.size b4 b11 k→w.heap.size≤k:=fun k hk=>by
  have:=hfB.size;rcases hk with e | e | e <;> omega
 have fX:∀ {w9:World},Chg (UBs wc.heap.size b4 b11) wc w9→ai w w9:=fun h=>hfB.chg h hUB
 have hn2:¬ UBs wc.heap.size b4 b11 b2:=fun e=>by rcases e with e | e | e <;> omega
 have hn3:¬ UBs wc.heap.size b4 b11 b3:=fun e=>by rcases e with e | e | e <;> omega
 have hn6:¬ UBs wc.heap.size b4 b11 b6:=fun e=>by rcases e with e | e | e <;> omega
 have hn8:¬ UBs wc.heap.size b4 b11 b8:=fun e=>by rcases e with e | e | e <;> omega
 refine mvt rfl (aa (aN rfl rfl) (aa (aN rfl rfl) (aa (aN rfl rfl) (bK (vs:=[_,_,_,_,_,_,_,_,_,_,_,_,_,_,_,_,_,_,_,_,_,_]) au rfl rfl (by simp [Value.oneCell']) ((hk11.from_ E70c)) rfl ?_))));intro w13 O21 P21;have hX1:=hX0.only O21 (.inl rfl);have hx1:=bF.chg8 hx (O21.toChg rfl) (htx b11 (by omega));have hox1:=hox.chgT (U:=fun k=>k=b11) (O21.toChg rfl) (fun q _ e=>.inl (by have e9:q=b11:=e;subst e9;exact htx _ (by omega)));have hk4d:=(hk4.from_ E70c).only O21 (by omega);have hk2d:=hk2.chg hX1 hn2;have hk3d:=hk3.chg hX1 hn3;have hk6d:=hq6.chg hX1 hn6;have hk8d:=hq8.chg hX1 hn8;have hId:=aR.chgT hI6 hX1 (fun q hq e=>.inl (by rcases e with e | e | e;exact htI6 q (.inr (by omega));exact htI6 q (.inl (by omega));omega));have hWd:aR w13 (fun _=>8) zR a0:=aR.zero;have hoWd:=hnil w13;have hk11d:Blk w13 b11 29 (rfV (⟨zR,[]⟩:Sp).s a0).toArray:=P21;refine ass rfl (asi rfl (ak (bH (ah (an (an (ag (mvi rfl (aa (dv (dp rfl rfl) rfl) (ak (ah (aL rfl (an (ag (aa (cp (l:=[]) (dr)) ?_)))))))))))))));have hM50:ai _ w13:=ai.rfl_;replace hk2d:=hk2d.from_ hM50;replace hk3d:=hk3d.from_ hM50;replace hk6d:=hk6d.from_ hM50;replace hk8d:=hk8d.from_ hM50;replace hk4d:=hk4d.from_ hM50;replace hk11d:=hk11d.from_ hM50;replace hId:=hId.from_ hM50;replace hWd:=hWd.from_ hM50;replace hx1:=hx1.from_ hM50;replace hox1:=hox1.from_ hM50;refine bK (vs:=[_,_,_,_,_,_,_,_,_,_,_,_,_,_,_,_,_,_,_,_,_,_]) au rfl rfl (by simp [Value.oneCell']) (hk8d) rfl ?_;intro w14 O50 P50;have hX1b:Chg (fun q=>UBs wc.heap.size b4 b11 q∨q=b8) wc w14:=((hX1.next hM50.toChg).wide fun q e=>.inl (.inl e)).only O50 (.inr rfl);replace hk2d:=hk2d.only O50 (by omega);replace hk3d:=hk3d.only O50 (by omega);replace hk6d:=hk6d.only O50 (by omega);replace hk4d:=hk4d.only O50 (by omega);replace hk11d:=hk11d.only O50 (by omega);replace hId:=bF.chg8 hId (O50.toChg rfl) (htI6 b8 (.inr (by omega)));replace hx1:aR w14 (fun _=>8) zR a0:=aR.zero;replace hWd:aR w14 (fun _=>8) zR a0:=aR.zero;replace hox1:=hnil w14;have hoWd:=hnil w14;replace hk8d:Blk w14 b8 29 (rfV zR a0).toArray:=P50;refine ak (ah (ag (ass rfl (ak (ah (an (ag (mvi rfl (aA eR (gn _ _) ?_)))))))));rintro v179 w15 ⟨rfl,rfl⟩;refine mvi rfl (aa (dv (bB rfl rfl) rfl) (mvb rfl (af rfl (aa (aJ (cs:=rfV (⟨zR,[]⟩:Sp).s a0) aB au rfl ((hk11d.from_ ai.rfl_).whole)) (af rfl (aa (aJ (cs:=rfV (⟨zR,[]⟩:Sp).s a0) aB au rfl ((hk8d.from_ ai.rfl_).whole)) (af rfl (aA cX (dE (⟨zR,[]⟩:Sp).s a0 a0 _ ((aR.rd hx1).from_ ai.rfl_) ((aR.rd hWd).from_ ai.rfl_) (gU)) ?_))))))));rintro v185 w16 ⟨rfl,E185⟩;refine aa (aq (v:=.bool _) rfl rfl) (mvb rfl (af rfl (mvs rfl (af rfl (mvs rfl (af rfl (aA fA (kr _) ?_)))))));rintro v190 w17 ⟨rfl,E190⟩;refine aa (aq (v:=.bool _) rfl rfl) (mvb rfl (af rfl (aa (aJ (cs:=rfV s aI) aB au rfl ((hk6d.from_ ((ai.rfl_.next E185).next E190)).whole)) (af rfl (aa (aJ (cs:=rfV s a) aB au rfl ((hk2d.from_ ((ai.rfl_.next E185).next E190)).whole)) (af rfl (aA cX (dE s aI a _ ((aR.rd hId).from_ ((ai.rfl_.next E185).next E190)) (hrd.from_ (((((((((((((((ai.rfl_.next E2).next E3).next E4).next E23).next E6).only O1 (hg6)).next E25).next E8).only O3 (hg8)).next E11).next E70).only O21 (hg11)).only O50 (hg8)).next E185).next E190)) (sz7 hl hel)) ?_)))))));rintro v195 w18 ⟨rfl,E195⟩;refine aa (aq (v:=.bool _) rfl rfl) (asb rfl (ak (ah (an (ag (aa (aJ (cs:=rfV (⟨zR,[]⟩:Sp).s a0) aB au rfl ((hk11d.from_ (((ai.rfl_.next E185).next E190).next E195)).whole)) ?_))))));have hM198:ai _ w18:=(((ai.rfl_.next E185).next E190).next E195);replace hk2d:=hk2d.from_ hM198;replace hk3d:=hk3d.from_ hM198;replace hk6d:=hk6d.from_ hM198;replace hk8d:=hk8d.from_ hM198;replace hk4d:=hk4d.from_ hM198;replace hk11d:=hk11d.from_ hM198;replace hId:=hId.from_ hM198;replace hWd:=hWd.from_ hM198;replace hx1:=hx1.from_ hM198;replace hox1:=hox1.from_ hM198;replace hoWd:=hoWd.from_ hM198;have fX9:∀ {w9:World},Chg (fun q=>UBs wc.heap.size b4 b11 q∨q=b8) wc w9→ai w w9:=fun h=>hfB.chg h (fun k hk=>hk.elim (hUB k) (fun e=>by omega))
 refine aA fz (fc (fun _=>8) (⟨zR,[]⟩:Sp).s a0 _ hx1 (s3) (Nat.zero_le _)) ?_;rintro v198 w19 ⟨rfl,hC198⟩;have hX2:Chg (fun q=>UBs wc.heap.size b4 b11 q∨q=b8) wc w19:=(hX1b.next hM198.toChg).next (hC198.wide (fun q e=>.inl (.inl (.inr (.inr (by rcases Nat.lt_or_ge q wc.heap.size with h9 | h9;exact absurd (htx q h9) (fun h8=>(StC.eight e) h8.symm);exact h9))))));replace hox1:=hox1.chgT hC198 (fun q _ e=>.inr e);replace hk2d:=hk2d.chg hC198 (fun e=>by have h8:=htx b2 (by omega);exact absurd h8.symm (StC.eight e));replace hk3d:=hk3d.chg hC198 (fun e=>by have h8:=htx b3 (by omega);exact absurd h8.symm (StC.eight e));replace hk6d:=hk6d.chg hC198 (fun e=>by have h8:=htx b6 (by omega);exact absurd h8.symm (StC.eight e));replace hk8d:=hk8d.chg hC198 (fun e=>by have h8:=htx b8 (by omega);exact absurd h8.symm (StC.eight e));replace hk4d:=hk4d.chg hC198 (fun e=>by have h8:=htx b4 (by omega);exact absurd h8.symm (StC.eight e));refine ak (ah (an (ag (mvs rfl ?_))));have hM200:ai _ w19:=ai.rfl_;replace hk2d:=hk2d.from_ hM200;replace hk3d:=hk3d.from_ hM200;replace hk6d:=hk6d.from_ hM200;replace hk8d:=hk8d.from_ hM200;replace hk4d:=hk4d.from_ hM200;replace hox1:=hox1.from_ hM200;refine aA fy (gH (fun _=>8) _) ?_;rintro v200 w20 ⟨rfl,hC200⟩;have hX3:Chg (fun q=>UBs wc.heap.size b4 b11 q∨q=b8) wc w20:=(hX2.next hM200.toChg).next (hC200.wide (fun q e=>.inl (.inl (.inr (.inr (by rcases Nat.lt_or_ge q wc.heap.size with h9 | h9;exact absurd (htx q h9) (fun h8=>by rcases e with e | ⟨j,e⟩ <;> omega);exact h9))))));replace hk2d:=hk2d.chg hC200 (fun e=>by have h8:=htx b2 (by omega);exact (by rcases e with e | ⟨j,e⟩ <;> omega));replace hk3d:=hk3d.chg hC200 (fun e=>by have h8:=htx b3 (by omega);exact (by rcases e with e | ⟨j,e⟩ <;> omega));replace hk6d:=hk6d.chg hC200 (fun e=>by have h8:=htx b6 (by omega);exact (by rcases e with e | ⟨j,e⟩ <;> omega));replace hk8d:=hk8d.chg hC200 (fun e=>by have h8:=htx b8 (by omega);exact (by rcases e with e | ⟨j,e⟩ <;> omega));replace hk4d:=hk4d.chg hC200 (fun e=>by have h8:=htx b4 (by omega);exact (by rcases e with e | ⟨j,e⟩ <;> omega));have hIe:=aR.chgT hI6 hX3 (fun q hq e=>.inl (by rcases e with (e | e | e) | e;exact htI6 q (.inr (by omega));exact htI6 q (.inl (by omega));omega;exact htI6 q (.inr (by omega))));have hWe:aR w20 (fun _=>8) zR a0:=aR.zero;refine ak (ah (an (an (ag (mvi rfl (aa (dv (dp rfl rfl) rfl) (ak (ah (aL rfl (an ?_))))))))));apply iN [(0,203,fun _ v _=>v=.agg (rfV s a).toArray),(1,204,fun _ v _=>v=.bool true),(2,205,fun _ v _=>v=.bool true),(3,206,fun _ v _=>v=.agg (rfV s aI).toArray),(4,207,fun _ v _=>v=.agg (rfV s a).toArray),(5,208,fun _ v _=>v=.bool true),(6,209,fun _ v _=>v=.bool true),(8,5,fun _ v _=>v=.bool true)] [7] (fun S w'=>(S 7=false→ai w20 w')∧(S 7=true→Blk w' b4 29 (rfV s a).toArray∧Chg (fun k=>k=b4) w20 w')) (by kernel_rfl) (by kernel_rfl) (by exact ⟨trivial,trivial,trivial,⟨by kernel_rfl,_,_,(.tail _ (.tail _ (.head _))),rfl,rfl,fun _ _ _ h=>h⟩,⟨by kernel_rfl,_,_,(.tail _ (.tail _ (.head _))),rfl,rfl,fun _ _ _ h=>h⟩,⟨by kernel_rfl,_,_,(.tail _ (.tail _ (.head _))),rfl,rfl,fun _ _ _ h=>h⟩,trivial,trivial,trivial,trivial⟩) rfl rfl ⟨fun _ _ _ _ _ _ _ h=>h,fun _ _ _ _ _ _ _ h=>h,fun _ _ _ _ _ _ _ h=>h,fun _ _ _ _ _ _ _ h=>h,fun _ _ _ _ _ _ _ h=>h,fun _ _ _ _ _ _ _ h=>h,fun _ _ _ _ _ _ _ h=>h,fun _ _ _ _ _ _ _ h=>h,trivial⟩ (fun S i w1 w2 hq hF h=>⟨fun h0=>(h.1 (ku h0)).next hF,fun h1=>(fun h=>⟨h.1.from_ hF,h.2.next hF.toChg⟩) (h.2 (kG (show 7≠i by rintro rfl;exact absurd hq (by decide)) h1))⟩) ⟨fun _=>ai.rfl_.d1,fun h=>by cases h⟩
 case hstep=>
  constructor
  ·rintro S L' w21 hU hmo hme hI hM hC hS ⟨-⟩;have hS0:S 7=false:=(aj hC (j:=7) rfl (by kernel_rfl) hS);have hM21:=hM.1 hS0;have e2:=hI.1 2 (dw rfl);exact aE [(2,_)] hU hmo hme hI hM (.head _) rfl rfl (by kernel_rfl) ⟨e2,trivial⟩ ((aJ (cs:=rfV s a) aB au rfl ((hk2d.from_ (ai.rfl_.next hM21)).whole))) (ai.rfl_) (rfl)
  constructor
  ·rintro S L' w22 hU hmo hme hI hM hC hS ⟨-⟩;have hS0:S 7=false:=(aj hC (j:=7) rfl (by kernel_rfl) (aj hC (j:=5) rfl (by kernel_rfl) (aj hC (j:=3) rfl (by kernel_rfl) (aj hC (j:=2) rfl (by kernel_rfl) hS))));have hM22:=hM.1 hS0;have e21:=hI.1 21 (dw rfl);exact aE [(21,_)] hU hmo hme hI hM (.tail _ (.head _)) rfl rfl (by kernel_rfl) ⟨e21,trivial⟩ (aM (v:=.bool _) rfl) ai.rfl_ (rfl)
  constructor
  ·rintro S L' w23 hU hmo hme hI hM hC hS ⟨d1,-⟩;have hS0:S 7=false:=(aj hC (j:=7) rfl (by kernel_rfl) (aj hC (j:=5) rfl (by kernel_rfl) hS));have hM23:=hM.1 hS0;obtain ⟨v23_204,e204,h204⟩:=hI.get (i:=1) (.tail _ (.head _)) d1;obtain rfl:=h204;exact aE [(204,_)] hU hmo hme hI hM (.tail _ (.tail _ (.head _))) rfl rfl (by kernel_rfl) ⟨e204,trivial⟩ (aM (v:=.bool _) rfl) ai.rfl_ (rfl)
  constructor
  ·rintro S L' w24 hU hmo hme hI hM hC hS ⟨d2,-⟩;have hS0:S 7=false:=(aj hC (j:=7) rfl (by kernel_rfl) (aj hC (j:=5) rfl (by kernel_rfl) hS));have hM24:=hM.1 hS0;have e6:=hI.1 6 (dw rfl);exact aE [(6,_)] hU hmo hme hI hM (.tail _ (.tail _ (.tail _ (.head _)))) rfl rfl (by kernel_rfl) ⟨e6,trivial⟩ ((aJ (cs:=rfV s aI) aB au rfl ((hk6d.from_ (ai.rfl_.next hM24)).whole))) (ai.rfl_) (rfl)
  constructor
  ·rintro S L' w25 hU hmo hme hI hM hC hS ⟨d2,-⟩;have hS0:S 7=false:=(aj hC (j:=7) rfl (by kernel_rfl) (aj hC (j:=5) rfl (by kernel_rfl) hS));have hM25:=hM.1 hS0;have e2:=hI.1 2 (dw rfl);exact aE [(2,_)] hU hmo hme hI hM (.tail _ (.tail _ (.tail _ (.tail _ (.head _))))) rfl rfl (by kernel_rfl) ⟨e2,trivial⟩ ((aJ (cs:=rfV s a) aB au rfl ((hk2d.from_ (ai.rfl_.next hM25)).whole))) (ai.rfl_) (rfl)
  constructor
  ·rintro S L' w26 hU hmo hme hI hM hC hS ⟨d3,d4,d2,d2,-⟩;have hS0:S 7=false:=(aj hC (j:=7) rfl (by kernel_rfl) hS);have hM26:=hM.1 hS0;obtain ⟨v26_206,e206,h206⟩:=hI.get (i:=3) (.tail _ (.tail _ (.tail _ (.head _)))) d3;obtain rfl:=h206;obtain ⟨v26_207,e207,h207⟩:=hI.get (i:=4) (.tail _ (.tail _ (.tail _ (.tail _ (.head _))))) d4;obtain rfl:=h207;refine fb (al:=[.tmp 206,.tmp 207]) [(206,_),(207,_)] hU hmo hme hI hM (.tail _ (.tail _ (.tail _ (.tail _ (.tail _ (.head _)))))) rfl (by kernel_rfl) ⟨e206,e207,trivial⟩ cX ((dE s aI a _ ((aR.rd hIe).from_ (ai.rfl_.next hM26)) (hrd.from_ ((fX9 hX3).next hM26)) (sz7 hl hel)).mono ?_);rintro v w2 ⟨rfl,E26'⟩;exact ⟨E26',rfl⟩
  constructor
  ·rintro S L' w27 hU hmo hme hI hM hC hS ⟨d2,d5,-,-⟩;obtain ⟨v27_205,e205,h205⟩:=hI.get (i:=2) (.tail _ (.tail _ (.head _))) d2;obtain rfl:=h205;obtain ⟨v27_208,e208,h208⟩:=hI.get (i:=5) (.tail _ (.tail _ (.tail _ (.tail _ (.tail _ (.head _)))))) d5;obtain rfl:=h208;exact aE [(205,_),(208,_)] hU hmo hme hI hM (.tail _ (.tail _ (.tail _ (.tail _ (.tail _ (.tail _ (.head _))))))) rfl rfl (by kernel_rfl) ⟨e205,e208,trivial⟩ ((aq (v:=.bool true) rfl rfl)) (ai.rfl_) (rfl)
  constructor
  ·rintro S L' w28 hU hmo hme hI hM hC hS ⟨d0,d5,d0,-,-,-,-,-,-,-⟩;have hS0:S 7=false:=hS;have hM28:=hM.1 hS0;have e4:=hI.1 4 (dw rfl);obtain ⟨v28_203,e203,h203⟩:=hI.get (i:=0) (.head _) d0;obtain rfl:=h203;obtain ⟨w2,hR,hO,hb⟩:=fH (P:=prog) (n:=⟨217,[]⟩) (L:=[(4,.pointer (some ⟨b4,0,none⟩)),(203,.agg (rfV s a).toArray)]) (x:=.tmp 4) (y:=.tmp 203) (vs:=rfV s a) au rfl rfl (by simp [rfV,Value.oneCell']) ((hk4d.from_ (ai.rfl_.next hM28))) rfl;exact iC [(4,_),(203,_)] hI (sr rfl) rfl (by kernel_rfl) ⟨e4,e203,trivial⟩ hR ⟨fun h0=>(by rw [jQ] at h0;cases h0),fun _=>⟨hb,(ai.toChg hM28).next (hO.toChg rfl)⟩⟩ ⟨fun _ _ _ h=>h,fun _ _ _ h=>h,fun _ _ _ h=>h,fun _ _ _ h=>h,fun _ _ _ h=>h,fun _ _ _ h=>h,fun _ _ _ h=>h,fun _ _ _ h=>h,trivial⟩
  constructor
  ·rintro S L' w29 hU hmo hme hI hM hC hS ⟨d6,d7,d0,d1,d2,d3,d4,d5,d6,d7,-⟩;obtain ⟨v29_209,e209,h209⟩:=hI.get (i:=6) (.tail _ (.tail _ (.tail _ (.tail _ (.tail _ (.tail _ (.head _))))))) d6;obtain rfl:=h209;exact aE [(209,_)] hU hmo hme hI hM (.tail _ (.tail _ (.tail _ (.tail _ (.tail _ (.tail _ (.tail _ (.head _)))))))) rfl rfl (by kernel_rfl) ⟨e209,trivial⟩ (dg (v:=.bool _) rfl) ai.rfl_ (rfl)
  exact trivial
 case hend=>
  intro w30 hM;obtain ⟨hq4,hC9⟩:=hM.2 rfl;rintro v30_203 rfl v30_204 rfl v30_205 rfl v30_206 rfl v30_207 rfl v30_208 rfl v30_209 rfl v30_5 rfl;refine fj (ah (aD (aC (fo rfl (cS (cs:=[_,_,_,_,_,_,_,_,_,_,_,_,_,_,_,_,_,_,_,_,_,_]) aB au rfl (by exact hq4.whole)) (dW (v:=.bool _) rfl) ?_))));exact ⟨⟨a,rfl,hrd.from_ (fX9 ((hX3.next (ai.rfl_:ai _ w20).toChg).next (hC9.wide fun k hk=>.inl (.inl (.inr (.inl hk))))))⟩,(fX9 ((hX3.next (ai.rfl_:ai _ w20).toChg).next (hC9.wide fun k hk=>.inl (.inl (.inr (.inl hk))))))⟩
theorem jH:iR prog 32=some true:=by kernel_rfl
theorem jG:ec prog 32=some 23:=by kernel_rfl
theorem oG:aV prog 15=true:=by kernel_rfl
theorem rN:prog.built 41 []=some #[.int .i64 0,.int .i64 0,.int .i64 0,.int .i64 0,.int .i64 0,.int .i64 0,.int .i64 0,.int .i64 0,.int .i64 0,.bool false,.slice none 0 0,.int .i64 0,.string ⟨#[]⟩,.bool false,.bool false,.string ⟨#[]⟩,.int .i64 0]:=by kernel_rfl
theorem oF:aV prog 17=true:=by kernel_rfl
theorem kS:aV prog 18=true:=by kernel_rfl
def ac0:Ac:=⟨0,zM,false,⟨#[]⟩,0⟩
def Sz9 (s:Rf):Prop:=(s.votes.length≤1000000∧s.next.length≤1000000∧s.mtch.length≤1000000∧s.sent.length≤1000000∧s.reads.length≤1000000∧∀ q∈s.reads,q.acks.length≤1000000)∧s.es.length≤1000000
theorem Small.sz9 {s:Rf} {X:List Ac} (h:Small s X):Sz9 s:=by
 obtain ⟨⟨h1,h2,h3,h4,h5,h6⟩,h7,_⟩:=h;exact ⟨⟨by omega,by omega,by omega,by omega,by omega,fun q hq=>by have:=h6 q hq;omega⟩,by omega⟩
theorem r5 (s:Rf) (a:Ra) (w:World) (hrd:eD w s a) (hz:Sz9 s):Rt prog 17 [.agg (rfV s a).toArray,.agg (acV ac0).toArray] w fun v w'=>(∃ s' a',v=.tuple #[.agg (rfV s' a').toArray,.bool true]∧eD w' s' a'∧Sz9 s')∧ai w w':=by
 cases hm:gb s with
 |true=>exact (tD s a ac0 w hrd hz.1 hz.2 (by decide) hm).mono fun v w' h=>⟨h.1.elim fun a' h9=>⟨_,a',h9.1,h9.2,(iJ hm).tick.sizes⟩,h.2⟩
 |false=>exact (pI s a ac0 w hrd hz.1 hz.2 (by decide) hm).mono fun v w' h=>⟨h.1.elim fun a' h9=>⟨_,a',h9.1,h9.2,hz⟩,h.2⟩
theorem dD (s:Rf) (a:Ra) (LA:Option Addr) (lc:Nat) (X:List Ac) (w:World) (h:qh w s a LA X) :
 Rt prog 9 [.agg (scV s a LA X.length lc).toArray] w (fun v w'=>v=.bool true∧ai w w'):=by
 refine enter (n:=27) Tryz.func9 rfl rfl rfl (an (ag (cE (v:=.agg _) rfl ?_)));intro b1 w1 E1 hb1 hk1;refine asb rfl (ak (ah (an (an (ag (aa (aJ (cs:=scV s a LA X.length lc) jH jG rfl ((hk1.from_ ai.rfl_).whole)) ?_))))));replace hk1:=hk1.from_ ai.rfl_;refine aA oG (cq s a LA lc X _ (h.from_ (ai.rfl_.next E1))) ?_;rintro v8 w2 ⟨⟨bb,rfl,hbb⟩,E8⟩;replace hk1:=hk1.from_ E8;refine ak (ah (aY rfl (fun Q3=>?_) (fun Q3=>?_)))
 ·(try with_reducible first | (replace Q3 := dT_ Q3; trace "@MK N dD:c8+ 1.1") | (replace Q3 := dF_ Q3; trace "@MK N dD:c8+ 1.2") | (replace Q3 := dz Q3; trace "@MK N dD:c8+ 1.3") | (replace Q3 := dA Q3; trace "@MK N dD:c8+ 1.4"))
  (try with_reducible first | (replace Q3 := dT_ Q3; trace "@MK N dD:c8+ 2.1") | (replace Q3 := dF_ Q3; trace "@MK N dD:c8+ 2.2") | (replace Q3 := jo Q3; trace "@MK N dD:c8+ 2.3") | (replace Q3 := jq Q3; trace "@MK N dD:c8+ 2.4") | (replace Q3 := fP Q3; trace "@MK N dD:c8+ 2.5") | (replace Q3 := fQ Q3; trace "@MK N dD:c8+ 2.6"))
  refine an (ag (asb rfl (ak (ah (aD (aC (bm (v:=.bool _) rfl rfl (⟨rfl,((ai.rfl_.next E1).next E8)⟩))))))))
 (try with_reducible first | (replace Q3 := dT_ Q3; trace "@MK N dD:c8- 1.1") | (replace Q3 := dF_ Q3; trace "@MK N dD:c8- 1.2") | (replace Q3 := dz Q3; trace "@MK N dD:c8- 1.3") | (replace Q3 := dA Q3; trace "@MK N dD:c8- 1.4"))
 (try with_reducible first | (replace Q3 := dT_ Q3; trace "@MK N dD:c8- 2.1") | (replace Q3 := dF_ Q3; trace "@MK N dD:c8- 2.2") | (replace Q3 := jo Q3; trace "@MK N dD:c8- 2.3") | (replace Q3 := jq Q3; trace "@MK N dD:c8- 2.4") | (replace Q3 := fP Q3; trace "@MK N dD:c8- 2.5") | (replace Q3 := fQ Q3; trace "@MK N dD:c8- 2.6"))
 have hsm:=(hbb (by simpa using Q3)).sz9;refine aO (ah (an (ag (aa (ae cY rfl) (aa (aJ (cs:=rfV s a) aB au rfl (gh (show Blk _ b1 32 (rfV s a++[Value.slice LA X.length lc]).toArray from hk1.from_ ai.rfl_))) (aA eF (eh s a _ (h.r.from_ ((ai.rfl_.next E1).next E8)) hsm.1 hsm.2) ?_))))));rintro v11 w4 ⟨⟨tag3,a3,rfl,hf3,ht3⟩,E11⟩;have hM3:ai _ w4:=ai.rfl_;have hz3:=hM3.size;refine bw bC ?_;intro b3 w5 E3 hb3 hk3;have hg3:w.heap.size≤b3:=by rw [hb3];exact ((((ai.rfl_.next E1).next E8).next E11)).size
 refine bK (vs:=[_,_,_,_,_,_,_,_,_,_,_,_,_,_,_,_,_,_,_,_,_,_]) au rfl rfl (by simp [Value.oneCell']) (hk3) rfl ?_;intro w6 O3 P3;have hF3:=(hM3.next E3).only O3 (by omega);have hr3:eD w6 s a3:=hf3.rd.from_ hF3;have hk3a:Blk w6 b3 29 (rfV s a3).toArray:=P3;refine ak (ah (an (an (ag (asi rfl (ak (ah (aZ (ct (G:=Rf×Ra×Nat) [2,5,6,12,13,14,15,16,17,18,19,20,21,22,23,24,25] (fun (_,_,k)=>[(4,.int .i64 (k:Nat))]) (fun (s1,a1,k) w'=>k≤25∧eD w' s1 a1∧Sz9 s1∧Blk w' b3 29 (rfV s1 a1).toArray∧ai w w') (fun (_,_,k)=>25-k) ((s,a3,0)) ⟨rfl,trivial⟩ ?_ ?_)))))))))
 ·exact ⟨by omega,hr3.from_ ai.rfl_,hsm,hk3a.from_ ai.rfl_,(((((ai.rfl_.next E1).next E8).next E11).next E3).only O3 (hg3))⟩
 rintro ⟨s1,a1,k⟩ ρ7 w7 ⟨hk,hr1,hz1,hk3L,hB⟩;refine an (an (ag (mvi rfl (aa (bU rfl rfl) (ak (ah (yS rfl (fun Q8=>?_) (fun Q8=>?_))))))))
 ·refine aO (ah (an (aZ (an (ag (aa (aJ (cs:=rfV s1 a1) aB au rfl ((hk3L.from_ ai.rfl_).whole)) (aa (cp (l:=[]) (rN)) (ey (t:=18) (v:=.agg _) (v':=.agg (acV ac0).toArray) rfl (by rfl) ?_))))))));have hM19:ai _ w7:=ai.rfl_;replace hr1:=hr1.from_ hM19;replace hk3L:=hk3L.from_ hM19;refine aA oF (r5 s1 a1 _ hr1 hz1) ?_;rintro v19 w9 ⟨⟨s2,a2,rfl,hr2,hz2⟩,E19⟩;replace hk3L:=hk3L.from_ E19;refine mvt rfl (aa (aN rfl rfl) (aa (aN rfl rfl) ?_));have hM5:ai _ w9:=ai.rfl_;have hz5:=hM5.size;have hlt3:=(hk3L.from_ hM5).lt;refine bw bC ?_;intro b5 w10 E5 hb5 hk5;have hg5:w.heap.size≤b5:=by rw [hb5];exact ((hB.next E19)).size
  have h35:b3≠b5:=by omega
  replace hk3L:=hk3L.from_ (hM5.next E5);refine bK (vs:=[_,_,_,_,_,_,_,_,_,_,_,_,_,_,_,_,_,_,_,_,_,_]) au rfl rfl (by simp [Value.oneCell']) (hk5) rfl ?_;intro w11 O7 P7;have hF5:=(hM5.next E5).only O7 (by omega);have hr2b:eD w11 s2 a2:=hr2.from_ hF5;have hk5b:Blk w11 b5 29 (rfV s2 a2).toArray:=P7;have hk3c:=hk3L.only O7 h35;refine asb rfl (ak (ah (an (an (ag (mvb rfl (aa (ea (cz rfl) rfl) (ak (ah (bM rfl (aO (ah (ag (aa (aJ (cs:=rfV s2 a2) aB au rfl ((hk5b.from_ ai.rfl_).whole)) ?_))))))))))))));have hM25:ai _ w11:=ai.rfl_;replace hr2b:=hr2b.from_ hM25;replace hk3c:=hk3c.from_ hM25;have hlt3c:=hk3c.lt;refine aA eF (eh s2 a2 _ hr2b hz2.1 hz2.2) ?_;rintro v25 w12 ⟨⟨tag4,a4,rfl,hf4,ht4⟩,E25⟩;replace hk3c:=hk3c.from_ E25;have hM10:ai _ w12:=ai.rfl_;refine bK (vs:=[_,_,_,_,_,_,_,_,_,_,_,_,_,_,_,_,_,_,_,_,_,_]) au rfl rfl (by simp [Value.oneCell']) ((hk3c.from_ ai.rfl_)) rfl ?_;intro w13 O10 P10;have hr4:eD w13 s2 a4:=aR.rd (bF.chg8 (hf4.from_ hM10) (O10.toChg rfl) (ht4 b3 hlt3c));have hk34:Blk w13 b3 29 (rfV s2 a4).toArray:=P10;refine ak (bH (ah (ag (mvi rfl (aa (bE rfl rfl (by omega)) (asi rfl (ak ?_)))))));refine cG ((s2,a4,k+1)) ⟨(by first | rfl | (refine br ?_;omega)),trivial⟩ (by (iterate 36 refine bQ rfl ?_);exact cf) ⟨?_,?_⟩
  ·exact ⟨by omega,hr4.from_ ai.rfl_,hz2,hk34.from_ ai.rfl_,(((((hB.next E19).next E5).only O7 (hg5)).next E25).only O10 (hg3))⟩
  ·show 25-(k+1)<25-k;omega
 refine cd (bd (bd (bL (ah (an (ag (aA kS (ni _) ?_)))))));rintro v26 w14 ⟨rfl,E26⟩;refine asb rfl (ak (ah (aD (bm (v:=.bool _) rfl rfl (⟨rfl,(hB.next E26)⟩)))))
theorem tB (cs:Array Value) (x:(Ty.pr jf (.pr (.sl l_) .unit)).den) (w:World) (hs:cs.size=23) (h:(Ty.pr jf (.pr (.sl l_) .unit)).At w (fun j=>cs[j]?) x):Rt prog 9 [.agg cs] w fun v w'=>v=.bool true∧ai w w':=by
 obtain ⟨s,a,LA,lc,X,rfl,hr⟩:=lZ hs h;exact dD s a LA lc X w hr
theorem mg (os:Os) (started:os.Started) (H:Type) (enc:TypeId×Value→H) :
 ReturnsInHanded {} Tryz.checked os 9 .any (Rows.raftTicksSpec.pre6 enc prog Tryz.f9 Rows.raftTicksRow.domain false) (Rows.raftTicksSpec.post enc prog Tryz.f9 false true false false):=by
 refine returnsInHanded_of_change_sized (C:=Tryz.checked) Tryz.own started (by kernel_rfl) Tryz.func9
  (ChangeSpec.witness6 (enc:=enc) (C:=Tryz.checked) false ⟨#[],#[.agg #[.int .i64 0,.int .i64 0,.int .i64 0,.int .i64 0,.int .i64 0,.int .i64 0,.int .i64 0,.int .i64 0,.slice none 0 0,.string ⟨#[]⟩,.int .i64 0,.int .i64 0,.int .i64 0,.int .u64 0,.slice none 0 0,.slice none 0 0,.slice none 0 0,.slice none 0 0,.int .i64 0,.slice none 0 0,.string ⟨#[]⟩,.int .i64 0,.slice none 0 0]],[]⟩ 8 (by kernel_rfl) (by kernel_rfl) (by kernel_rfl) (by kernel_rfl)) ?_
 intro W base args ds gs before hval hW _ hsz _;exact nS 9 Tryz.f9 32 4 Rows.raftTicksSpec Tryz.params9 (by kernel_rfl) Tryz.underlying4 rfl (fun _=>rfl) (by kernel_rfl) (dT_ (by kernel_rfl)) (jW jf (.pr (.sl l_) .unit) (by kernel_rfl) tB) W base args ds gs before hval hW hsz
theorem RaftTicks_holds:Rows.RaftTicksSaid:=
 OpenClaim.holds_of_wide 9 Tryz.f9 rfl rfl rfl rfl rfl rfl rfl ⟨rfl,rfl,rfl,rfl,rfl⟩ rfl rfl rfl rfl rfl (by kernel_rfl) Tryz.func9 (by kernel_rfl)
  (dT_ (by kernel_rfl)) (by unfold Func.isWrapper;first | (rw [if_pos (by decide+kernel)];kernel_rfl) | (rw [if_neg (by decide+kernel)];exact ⟨rfl,rfl⟩))
  (fun os started H enc _=>mg os started H enc)
end Go.Proofs.YtkpooenofjdpmaaGreat
