/- texts that the claim stands on. -/
import Derived.Test.YtkpooenofjdpmaaGreatSlRfLawP6

set_option maxRecDepth 100000
set_option maxHeartbeats 4000000
namespace Go.Proofs.YtkpooenofjdpmaaGreat
open Go.Proofs.Tryz (prog)
open Go.RowKit
open Go.ChangeShapes Go.WideShapes Go.ChangeAt
theorem jA:aY prog 92=true:=by kernel_rfl
theorem uy:aY prog 87=true:=by kernel_rfl
theorem ux:aY prog 91=true:=by kernel_rfl
theorem uz:aY prog 42=true:=by kernel_rfl
theorem xp (A B:Option Addr) (ca cb:Nat) (a b:List Int) (w:World) (ha:dI iV w A a) (hb:dI iV w B b) (hla:a.length*8≤140737488351232) :
 Rt prog 92 [.slice A a.length ca,.slice B b.length cb] w (fun v w'=>v=.bool (decide (a=b))∧aj w w'):=by
 refine enter (n:=26) Tryz.func92 rfl rfl rfl (an (ah (asb rfl (ak (ag (an (an (ah (mvs rfl (aa (bm bJ rfl) (mvs rfl (aa (bm bJ rfl) (aa (dt rfl rfl) ?_)))))))))))));refine ak (ag (aV rfl (fun Q1=>?_) (fun Q1=>?_)))
 ·replace Q1:=dc Q1;replace Q1:=fE Q1;refine an (ah (asb rfl (ak (ag (aC (ay (bh (v:=.bool _) rfl rfl ?_)))))));exact ⟨by rw [decide_eq_false];rintro rfl;omega,aj.rfl_⟩
 replace Q1:=dd Q1;replace Q1:=fD Q1;refine aR (ag (an (an (ah (asi rfl (ak (ag (bf (cz (G:=Nat) [4,11,12,13,14,15,16,17,18,19,20,21,22,23,24,25] (fun k=>[(5,.int .i64 (k:Nat))]) (fun k w'=>k≤a.length∧a.take k=b.take k∧aj w w') (fun k=>a.length-k) (0) ⟨rfl,trivial⟩ ?_ ?_)))))))))
 ·exact ⟨Nat.zero_le _,rfl,aj.rfl_⟩
 rintro k ρ2 w2 ⟨hk,ht,hB⟩;refine an (an (ah (mvi rfl (mvs rfl (aa (bm bJ rfl) (aa (bG rfl rfl) (ak (ag (xD rfl (fun Q3=>?_) (fun Q3=>?_))))))))))
 ·obtain ⟨ba,oa,rfl,ca⟩:=ha (by omega);obtain ⟨bb,ob,rfl,cb⟩:=hb (by omega);refine aR (ag (an (bf (an ?_))));apply p6 9 [(17,eqp _),(18,eqp _),(19,eqp _),(20,eqp _),(21,eqp _),(22,eqp _),(23,eqp _),(24,eqp _),(25,eqp _)] (by kernel_rfl) (by kernel_rfl) ⟨au _,au _,au _,au _,au _,au _,au _,au _,au _,trivial⟩
  case hop=>
   constructor
   ·intro w5 D5;exact az (aP (v:=.slice _ _ _) rfl) rfl
   constructor
   ·intro w6 D6;exact az (aP (v:=.int _ _) rfl) rfl
   constructor
   ·intro w7 D7;rintro _ rfl _ rfl;exact az (cl bK rfl rfl (by omega)) rfl
   constructor
   ·intro w8 D8;rintro _ rfl;exact az (aq ar rfl (by first | (exact dF (hB.next D8) (ca k (by omega))) | (exact dF (hB.next D8) (cb k (by omega))))) rfl
   constructor
   ·intro w9 D9;exact az (aP (v:=.slice _ _ _) rfl) rfl
   constructor
   ·intro w10 D10;exact az (aP (v:=.int _ _) rfl) rfl
   constructor
   ·intro w11 D11;rintro _ rfl _ rfl;exact az (cl bK rfl rfl (by omega)) rfl
   constructor
   ·intro w12 D12;rintro _ rfl;exact az (aq ar rfl (by first | (exact dF (hB.next D12) (ca k (by omega))) | (exact dF (hB.next D12) (cb k (by omega))))) rfl
   constructor
   ·intro w13 D13;rintro _ rfl _ rfl;exact az (dt rfl rfl) rfl
   exact trivial
  case hend=>
   intro w14 D14;rintro _ rfl _ rfl _ rfl _ rfl _ rfl _ rfl _ rfl _ rfl _ rfl;show St ..;refine ak (ag (aV rfl (fun Q15=>?_) (fun Q15=>?_)))
   ·replace Q15:=dc Q15;replace Q15:=fE Q15;refine an (ah (asb rfl (ak (ag (aC (aZ (ay (ay (aZ (ay (bh (v:=.bool _) rfl rfl ?_)))))))))));exact ⟨by rw [decide_eq_false];rintro rfl;exact absurd rfl (by assumption),(hB.next D14)⟩
   replace Q15:=dd Q15;replace Q15:=fD Q15;refine aR (bN (ag (ah (mvi rfl (aa (bE rfl rfl (by omega)) (asi rfl (ak ?_)))))));refine cK (k+1) ⟨(by first | rfl | (refine br ?_;omega)),trivial⟩ (by (iterate 33 refine bQ rfl ?_);exact b_) ⟨?_,?_⟩
   ·exact ⟨by omega,rO (by omega) (by omega) ht (by omega),(hB.next D14)⟩
   ·omega
 refine bZ (bg (bg (bF (ag (an (ah (asb rfl (ak (ag (aC (bh (v:=.bool _) rfl rfl (⟨by rw [decide_eq_true (vD (by omega) (by omega) ht)],hB⟩))))))))))))
theorem mP (A B:Option Addr) (ca cb:Nat) (l:List Int) (w:World) (ha:dI iV w A l) (hb:dI iV w B l) (hl:l.length≤1000000):Rt prog 92 [.slice A l.length ca,.slice B l.length cb] w fun v w'=>v=.bool true∧aj w w':=
 (xp A B ca cb l l w ha hb (by omega)).mono fun v w' h=>⟨by rw [h.1,decide_eq_true rfl],h.2⟩
theorem wm (B T:Int) (A A':Option Addr) (n n' c c':Nat) (xs:List Ent) (w:World) (h1:ct w (.slice A n c) xs) (h2:ct w (.slice A' n' c') xs) (hl:xs.length≤1000000):Rt prog 91 [.agg #[.int .i64 B,.int .i64 T,.slice A n c],.agg #[.int .i64 B,.int .i64 T,.slice A' n' c']] w fun v w'=>v=.bool true∧aj w w':=Rt.of (qY B T _ _ xs w h1 h2 (by omega))
theorem sP (q:Rd) (A B:Option Addr) (ca cb:Nat) (w:World) (ha:dI iV w A q.acks) (hb:dI iV w B q.acks) (hl:q.acks.length≤1000000) :
 Rt prog 87 [.agg (rdV (q,A,ca)).toArray,.agg (rdV (q,B,cb)).toArray] w (fun v w'=>v=.bool true∧aj w w'):=by
 refine enter (n:=31) Tryz.func87 rfl rfl rfl (an (ah (cU (v:=.agg _) rfl ?_)));intro b2 w1 E2 hb2 hk2;refine cU (v:=.agg _) rfl ?_;intro b3 w2 E3 hb3 hk3;replace hk2:=hk2.from_ E3;refine asb rfl (ak (ag (an (ah (aa (ae dz rfl) (aa (aq ar rfl (by exact (show _=some (Value.int .i64 q.id) from (hk2.from_ aj.rfl_).rd 0 rfl))) ?_))))));refine aa (ae dz rfl) (aa (aq ar rfl (by exact (show _=some (Value.int .i64 q.id) from (hk3.from_ aj.rfl_).rd 0 rfl))) ?_);refine aa (dN (bC rfl rfl) (beq_self_eq_true _)) (mvb rfl (af rfl (aa (ae dy rfl) (af rfl (aa (aq ar rfl (by exact (show _=some (Value.int .i64 q.ix) from (hk2.from_ aj.rfl_).rd 1 rfl))) ?_)))));refine af rfl (aa (ae dy rfl) (af rfl (aa (aq ar rfl (by exact (show _=some (Value.int .i64 q.ix) from (hk3.from_ aj.rfl_).rd 1 rfl))) ?_)));refine af rfl (aa (dN (bC rfl rfl) (beq_self_eq_true _)) (aa (ao (v:=.bool _) rfl rfl) (mvb rfl (af rfl (aa (ae dw rfl) (af rfl (aa (aq ar rfl (by exact (show _=some (Value.int .i64 q.rn) from (hk2.from_ aj.rfl_).rd 2 rfl))) ?_)))))));refine af rfl (aa (ae dw rfl) (af rfl (aa (aq ar rfl (by exact (show _=some (Value.int .i64 q.rn) from (hk3.from_ aj.rfl_).rd 2 rfl))) ?_)));refine af rfl (aa (dN (bC rfl rfl) (beq_self_eq_true _)) (aa (ao (v:=.bool _) rfl rfl) (mvb rfl (af rfl (aa (ae c_ rfl) (af rfl (aa (aq aM rfl (by exact (show _=some (Value.slice A q.acks.length ca) from (hk2.from_ aj.rfl_).rd 3 rfl))) ?_)))))));refine af rfl (aa (ae c_ rfl) (af rfl (aa (aq aM rfl (by exact (show _=some (Value.slice B q.acks.length cb) from (hk3.from_ aj.rfl_).rd 3 rfl))) ?_)));refine af rfl (aG jA (mP A B ca cb q.acks _ (ha.from_ ((aj.rfl_.next E2).next E3)) (hb.from_ ((aj.rfl_.next E2).next E3)) hl) ?_);rintro v29 w3 ⟨rfl,E29⟩;refine aa (ao (v:=.bool _) rfl rfl) (asb rfl (ak (ag (aC (bh (v:=.bool _) rfl rfl (⟨rfl,(((aj.rfl_.next E2).next E3).next E29)⟩))))))
theorem qX (x y:Rd×Option Addr×Nat) (w:World) (h:x.1=y.1) (ha:dI iV w x.2.1 x.1.acks) (hb:dI iV w y.2.1 y.1.acks) (hl:x.1.acks.length≤1000000):Rt prog 87 [.agg (rdV x).toArray,.agg (rdV y).toArray] w fun v w'=>v=.bool true∧aj w w':=by
 obtain ⟨q,A,ca⟩:=x;obtain ⟨q2,B,cb⟩:=y;obtain rfl:q=q2:=h;exact sP q A B ca cb w ha hb hl
theorem qW (A B:Option Addr) (ca cb n:Nat) (X Y:List (Rd×Option Addr×Nat)) (w:World) (hr:f_ 4 rdV w A X) (hr2:f_ 4 rdV w B Y) (hX:X.length=n) (hY:Y.length=n) (hp:X.map (fun q=>q.1)=Y.map (fun q=>q.1)) (hE:∀ x∈X,IR w x.2.1 x.2.2 x.1.acks) (hE2:∀ x∈Y,IR w x.2.1 x.2.2 x.1.acks) (hle:∀ x∈X,x.1.acks.length≤1000000) (hn:n≤1000000) :
 Rt prog 42 [.slice A n ca,.slice B n cb] w (fun v w'=>v=.bool true∧aj w w'):=by
 refine enter (n:=27) Tryz.func42 rfl rfl rfl (an (ah (asb rfl (ak (ag (an (an (ah (mvs rfl (aa (bm bI rfl) (mvs rfl (aa (bm bI rfl) (aa (fh (dt rfl rfl) (bne_self_eq_false _)) ?_)))))))))))));refine ak (ag (ck rfl (aR (ag (an (an (ah (asi rfl (ak (ag (bf (cz (G:=Nat) [4,11,12,13,14,15,16,17,18,19,20,21,22,23,24,25,26] (fun k=>[(5,.int .i64 (k:Nat))]) (fun k w'=>k≤n∧aj w w') (fun k=>n-k) (0) ⟨rfl,trivial⟩ ?_ ?_))))))))))))
 ·exact ⟨Nat.zero_le _,aj.rfl_⟩
 rintro k ρ1 w1 ⟨hk,hB⟩;refine an (an (ah (mvi rfl (mvs rfl (aa (bm bI rfl) (aa (bG rfl rfl) (ak (ag (xD rfl (fun Q2=>?_) (fun Q2=>?_))))))))))
 ·have hkX:k<X.length:=by omega
  have hkY:k<Y.length:=by omega
  obtain ⟨ba,oa,rfl,hca⟩:=hr (by omega);obtain ⟨bb,ob,rfl,hcb⟩:=hr2 (by omega);have hxk:=hE _ (List.getElem_mem hkX);have hyk:=hE2 _ (List.getElem_mem hkY);have hlk:=hle _ (List.getElem_mem hkX)
  have hpk:X[k].1=Y[k].1:=by
   have h9:(X.map (fun q=>q.1))[k]? =(Y.map (fun q=>q.1))[k]? :=by rw [hp]
   rw [List.getElem?_map,List.getElem?_map,List.getElem?_eq_getElem hkX,List.getElem?_eq_getElem hkY] at h9;exact Option.some.inj h9
  refine aR (ag (an (bf (an ?_))));apply dR 10 [(17,eqp _),(18,eqp _),(19,eqp _),(20,eqp (.agg (rdV X[k]).toArray)),(21,eqp _),(22,eqp _),(23,eqp _),(24,eqp (.agg (rdV Y[k]).toArray)),(25,eqp _),(26,eqp _)] (by repeat first | exact ej | refine ei ?_ | refine dO ?_) (by kernel_rfl) (by kernel_rfl) ⟨au _,au _,au _,au _,au _,au _,au _,au _,au _,au _,trivial⟩
  case hop=>
   constructor
   ·rintro-w4 D4;exact az (aP (v:=.slice _ _ _) rfl) rfl
   constructor
   ·rintro-w5 D5;exact az (aP (v:=.int _ _) rfl) rfl
   constructor
   ·rintro-w6 D6;rintro _ rfl _ rfl;exact az (bL dC rfl rfl (by omega)) rfl
   constructor
   ·rintro-w7 D7;rintro _ rfl;exact az (aT (cs:=rdV X[k]) dX cN rfl (eN (hB.next D7) (hca k hkX))) rfl
   constructor
   ·rintro-w8 D8;exact az (aP (v:=.slice _ _ _) rfl) rfl
   constructor
   ·rintro-w9 D9;exact az (aP (v:=.int _ _) rfl) rfl
   constructor
   ·rintro-w10 D10;rintro _ rfl _ rfl;exact az (bL dC rfl rfl (by omega)) rfl
   constructor
   ·rintro-w11 D11;rintro _ rfl;exact az (aT (cs:=rdV Y[k]) dX cN rfl (eN (hB.next D11) (hcb k hkY))) rfl
   constructor
   ·rintro-w12 D12;rintro v12_20 rfl v12_24 rfl;refine ia uy ((qX X[k] Y[k] _ hpk (hxk.1.from_ (hB.next D12)) (hyk.1.from_ (hB.next D12)) hlk).mono ?_);rintro v _ ⟨rfl,E12'⟩;exact ⟨E12',rfl⟩
   constructor
   ·rintro-w13 D13;rintro _ rfl;exact az (cd rfl) rfl
   exact trivial
  case hend=>
   intro w14 D14;rintro _ rfl _ rfl _ rfl v20 rfl _ rfl _ rfl _ rfl v24 rfl _ rfl _ rfl;show St ..;refine ak (ag (xB rfl (fun Q15=>?_) (fun Q15=>?_)))
   ·exfalso;contradiction
   refine aR (bN (ag (ah (mvi rfl (aa (cR (b:=1) rfl rfl (by omega)) (asi rfl (ak ?_)))))));refine cK (k+1) ⟨(by first | rfl | (refine br ?_;omega)),trivial⟩ (by (iterate 35 refine bQ rfl ?_);exact b_) ⟨?_,?_⟩
   ·exact ⟨by omega,(hB.next D14)⟩
   ·omega
 refine bZ (bg (bg (bF (ag (an (ah (asb rfl (ak (ag (aC (bh (v:=.bool _) rfl rfl (⟨rfl,hB⟩))))))))))))
theorem rX {s:Rf} {a:Ra} {w:World} {b T:Nat} (hb:Blk w b T (rfV s a).toArray):w.rangeAt b 6 [.int .i64 s.b,.int .i64 s.t,.slice a.E s.es.length a.Ec]:=hb.range 6 _ (fun j v hj=>by
 match j,hj with
 |0,hj=>exact hj
 |1,hj=>exact hj
 |2,hj=>exact hj
 |j+3,hj=>simp at hj)
theorem fe (s:Rf) (a b:Ra) (w:World) (ha:fi w s a) (hb:fi w s b) (hl:s.es.length≤1000000∧s.votes.length≤1000000∧s.next.length≤1000000∧s.mtch.length≤1000000∧s.sent.length≤1000000∧s.reads.length≤1000000∧∀ q∈s.reads,q.acks.length≤1000000) :
 Rt prog 49 [.agg (rfV s a).toArray,.agg (rfV s b).toArray] w (fun v w'=>v=.bool true∧aj w w'):=by
 obtain ⟨hl0,hl1,hl2,hl3,hl4,hl5,hl6⟩:=hl;have hla:a.L.length=s.reads.length:=by rw [←ha.r,List.length_map]
 have hlb:a.L.length=b.L.length:=by rw [hla,←hb.r,List.length_map]
 refine enter (n:=143) Tryz.func49 rfl rfl rfl (an (ah (cU (v:=.agg _) rfl ?_)));intro b2 w1 E2 hb2 hk2;refine cU (v:=.agg _) rfl ?_;intro b3 w2 E3 hb3 hk3;replace hk2:=hk2.from_ E3;refine asb rfl (ak (ag (an (ah (aa (ae cW rfl) (aa (aq ar rfl (by exact (show _=some (Value.int .i64 s.id) from (hk2.from_ aj.rfl_).rd 0 rfl))) ?_))))));refine aa (ae cW rfl) (aa (aq ar rfl (by exact (show _=some (Value.int .i64 s.id) from (hk3.from_ aj.rfl_).rd 0 rfl))) ?_);refine aa (dN (bC rfl rfl) (beq_self_eq_true _)) (mvb rfl (af rfl (aa (ae bw rfl) (af rfl (aa (aq ar rfl (by exact (show _=some (Value.int .i64 s.nodes) from (hk2.from_ aj.rfl_).rd 1 rfl))) ?_)))));refine af rfl (aa (ae bw rfl) (af rfl (aa (aq ar rfl (by exact (show _=some (Value.int .i64 s.nodes) from (hk3.from_ aj.rfl_).rd 1 rfl))) ?_)));refine af rfl (aa (dN (bC rfl rfl) (beq_self_eq_true _)) (aa (ao (v:=.bool _) rfl rfl) (mvb rfl (af rfl (aa (ae cF rfl) (af rfl (aa (aq ar rfl (by exact (show _=some (Value.int .i64 s.role) from (hk2.from_ aj.rfl_).rd 2 rfl))) ?_)))))));refine af rfl (aa (ae cF rfl) (af rfl (aa (aq ar rfl (by exact (show _=some (Value.int .i64 s.role) from (hk3.from_ aj.rfl_).rd 2 rfl))) ?_)));refine af rfl (aa (dN (bC rfl rfl) (beq_self_eq_true _)) (aa (ao (v:=.bool _) rfl rfl) (mvb rfl (af rfl (aa (ae cB rfl) (af rfl (aa (aq ar rfl (by exact (show _=some (Value.int .i64 s.term) from (hk2.from_ aj.rfl_).rd 3 rfl))) ?_)))))));refine af rfl (aa (ae cB rfl) (af rfl (aa (aq ar rfl (by exact (show _=some (Value.int .i64 s.term) from (hk3.from_ aj.rfl_).rd 3 rfl))) ?_)));refine af rfl (aa (dN (bC rfl rfl) (beq_self_eq_true _)) (aa (ao (v:=.bool _) rfl rfl) (mvb rfl (af rfl (aa (ae eG rfl) (af rfl (aa (aq ar rfl (by exact (show _=some (Value.int .i64 s.vote) from (hk2.from_ aj.rfl_).rd 4 rfl))) ?_)))))));refine af rfl (aa (ae eG rfl) (af rfl (aa (aq ar rfl (by exact (show _=some (Value.int .i64 s.vote) from (hk3.from_ aj.rfl_).rd 4 rfl))) ?_)));refine af rfl (aa (dN (bC rfl rfl) (beq_self_eq_true _)) (aa (ao (v:=.bool _) rfl rfl) (mvb rfl (af rfl (aa (ae er rfl) (af rfl (aa (aq ar rfl (by exact (show _=some (Value.int .i64 s.leader) from (hk2.from_ aj.rfl_).rd 5 rfl))) ?_)))))));refine af rfl (aa (ae er rfl) (af rfl (aa (aq ar rfl (by exact (show _=some (Value.int .i64 s.leader) from (hk3.from_ aj.rfl_).rd 5 rfl))) ?_)));refine af rfl (aa (dN (bC rfl rfl) (beq_self_eq_true _)) (aa (ao (v:=.bool _) rfl rfl) (mvb rfl (af rfl (aa (ae bk rfl) (af rfl (aa (aT (cs:=[.int .i64 s.b,.int .i64 s.t,.slice a.E s.es.length a.Ec]) cZ cI rfl (rX (hk2.from_ aj.rfl_))) (af rfl ?_))))))));refine aa (ae bk rfl) (af rfl (aa (aT (cs:=[.int .i64 s.b,.int .i64 s.t,.slice b.E s.es.length b.Ec]) cZ cI rfl (rX (hk3.from_ aj.rfl_))) (af rfl (aG ux (wm s.b s.t a.E b.E s.es.length s.es.length a.Ec b.Ec s.es _ (ha.e.from_ ((aj.rfl_.next E2).next E3)) (hb.e.from_ ((aj.rfl_.next E2).next E3)) hl0) ?_))));rintro v50 w3 ⟨rfl,E50⟩;refine aa (ao (v:=.bool _) rfl rfl) (mvb rfl (af rfl (aa (ae cf rfl) (af rfl (aa (aq bD rfl (by exact (show _=some (Value.string s.snap) from (hk2.from_ (aj.rfl_.next E50)).rd 9 rfl))) ?_)))));refine af rfl (aa (ae cf rfl) (af rfl (aa (aq bD rfl (by exact (show _=some (Value.string s.snap) from (hk3.from_ (aj.rfl_.next E50)).rd 9 rfl))) ?_)));refine af rfl (aa (dN (kn rfl rfl) (beq_self_eq_true _)) (aa (ao (v:=.bool _) rfl rfl) (mvb rfl (af rfl (aa (ae cA rfl) (af rfl (aa (aq ar rfl (by exact (show _=some (Value.int .i64 s.commit) from (hk2.from_ (aj.rfl_.next E50)).rd 10 rfl))) ?_)))))));refine af rfl (aa (ae cA rfl) (af rfl (aa (aq ar rfl (by exact (show _=some (Value.int .i64 s.commit) from (hk3.from_ (aj.rfl_.next E50)).rd 10 rfl))) ?_)));refine af rfl (aa (dN (bC rfl rfl) (beq_self_eq_true _)) (aa (ao (v:=.bool _) rfl rfl) (mvb rfl (af rfl (aa (ae dk rfl) (af rfl (aa (aq ar rfl (by exact (show _=some (Value.int .i64 s.elapsed) from (hk2.from_ (aj.rfl_.next E50)).rd 11 rfl))) ?_)))))));refine af rfl (aa (ae dk rfl) (af rfl (aa (aq ar rfl (by exact (show _=some (Value.int .i64 s.elapsed) from (hk3.from_ (aj.rfl_.next E50)).rd 11 rfl))) ?_)));refine af rfl (aa (dN (bC rfl rfl) (beq_self_eq_true _)) (aa (ao (v:=.bool _) rfl rfl) (mvb rfl (af rfl (aa (ae eh rfl) (af rfl (aa (aq ar rfl (by exact (show _=some (Value.int .i64 s.timeout) from (hk2.from_ (aj.rfl_.next E50)).rd 12 rfl))) ?_)))))));refine af rfl (aa (ae eh rfl) (af rfl (aa (aq ar rfl (by exact (show _=some (Value.int .i64 s.timeout) from (hk3.from_ (aj.rfl_.next E50)).rd 12 rfl))) ?_)));refine af rfl (aa (dN (bC rfl rfl) (beq_self_eq_true _)) (aa (ao (v:=.bool _) rfl rfl) (mvb rfl (af rfl (aa (ae fA rfl) (af rfl (aa (aq jy rfl (by exact (show _=some (Value.int .u64 s.seed) from (hk2.from_ (aj.rfl_.next E50)).rd 13 rfl))) ?_)))))));refine af rfl (aa (ae fA rfl) (af rfl (aa (aq jy rfl (by exact (show _=some (Value.int .u64 s.seed) from (hk3.from_ (aj.rfl_.next E50)).rd 13 rfl))) ?_)));refine af rfl (aa (dN (bC rfl rfl) (beq_self_eq_true _)) (aa (ao (v:=.bool _) rfl rfl) (mvb rfl (af rfl (aa (ae cP rfl) (af rfl (aa (aq aM rfl (by exact (show _=some (Value.slice a.V s.votes.length a.Vc) from (hk2.from_ (aj.rfl_.next E50)).rd 14 rfl))) ?_)))))));refine af rfl (aa (ae cP rfl) (af rfl (aa (aq aM rfl (by exact (show _=some (Value.slice b.V s.votes.length b.Vc) from (hk3.from_ (aj.rfl_.next E50)).rd 14 rfl))) ?_)));refine af rfl (aG jA (mP a.V b.V a.Vc b.Vc s.votes _ (ha.v.1.from_ (((aj.rfl_.next E2).next E3).next E50)) (hb.v.1.from_ (((aj.rfl_.next E2).next E3).next E50)) hl1) ?_);rintro v92 w4 ⟨rfl,E92⟩;refine aa (ao (v:=.bool _) rfl rfl) (mvb rfl (af rfl (aa (ae bu rfl) (af rfl (aa (aq aM rfl (by exact (show _=some (Value.slice a.X s.next.length a.Xc) from (hk2.from_ ((aj.rfl_.next E50).next E92)).rd 15 rfl))) ?_)))));refine af rfl (aa (ae bu rfl) (af rfl (aa (aq aM rfl (by exact (show _=some (Value.slice b.X s.next.length b.Xc) from (hk3.from_ ((aj.rfl_.next E50).next E92)).rd 15 rfl))) ?_)));refine af rfl (aG jA (mP a.X b.X a.Xc b.Xc s.next _ (ha.x.1.from_ ((((aj.rfl_.next E2).next E3).next E50).next E92)) (hb.x.1.from_ ((((aj.rfl_.next E2).next E3).next E50).next E92)) hl2) ?_);rintro v99 w5 ⟨rfl,E99⟩;refine aa (ao (v:=.bool _) rfl rfl) (mvb rfl (af rfl (aa (ae bM rfl) (af rfl (aa (aq aM rfl (by exact (show _=some (Value.slice a.M s.mtch.length a.Mc) from (hk2.from_ (((aj.rfl_.next E50).next E92).next E99)).rd 16 rfl))) ?_)))));refine af rfl (aa (ae bM rfl) (af rfl (aa (aq aM rfl (by exact (show _=some (Value.slice b.M s.mtch.length b.Mc) from (hk3.from_ (((aj.rfl_.next E50).next E92).next E99)).rd 16 rfl))) ?_)));refine af rfl (aG jA (mP a.M b.M a.Mc b.Mc s.mtch _ (ha.m.1.from_ (((((aj.rfl_.next E2).next E3).next E50).next E92).next E99)) (hb.m.1.from_ (((((aj.rfl_.next E2).next E3).next E50).next E92).next E99)) hl3) ?_);rintro v106 w6 ⟨rfl,E106⟩;refine aa (ao (v:=.bool _) rfl rfl) (mvb rfl (af rfl (aa (ae bW rfl) (af rfl (aa (aq aM rfl (by exact (show _=some (Value.slice a.S s.sent.length a.Sc) from (hk2.from_ ((((aj.rfl_.next E50).next E92).next E99).next E106)).rd 17 rfl))) ?_)))));refine af rfl (aa (ae bW rfl) (af rfl (aa (aq aM rfl (by exact (show _=some (Value.slice b.S s.sent.length b.Sc) from (hk3.from_ ((((aj.rfl_.next E50).next E92).next E99).next E106)).rd 17 rfl))) ?_)));refine af rfl (aG jA (mP a.S b.S a.Sc b.Sc s.sent _ (ha.n.1.from_ ((((((aj.rfl_.next E2).next E3).next E50).next E92).next E99).next E106)) (hb.n.1.from_ ((((((aj.rfl_.next E2).next E3).next E50).next E92).next E99).next E106)) hl4) ?_);rintro v113 w7 ⟨rfl,E113⟩;refine aa (ao (v:=.bool _) rfl rfl) (mvb rfl (af rfl (aa (ae cL rfl) (af rfl (aa (aq ar rfl (by exact (show _=some (Value.int .i64 s.round) from (hk2.from_ (((((aj.rfl_.next E50).next E92).next E99).next E106).next E113)).rd 18 rfl))) ?_)))));refine af rfl (aa (ae cL rfl) (af rfl (aa (aq ar rfl (by exact (show _=some (Value.int .i64 s.round) from (hk3.from_ (((((aj.rfl_.next E50).next E92).next E99).next E106).next E113)).rd 18 rfl))) ?_)));refine af rfl (aa (dN (bC rfl rfl) (beq_self_eq_true _)) (aa (ao (v:=.bool _) rfl rfl) (mvb rfl (af rfl (aa (ae bd rfl) (af rfl (aa (aq bn rfl (by exact (show _=some (Value.slice a.Q a.L.length a.Qc) from (hk2.from_ (((((aj.rfl_.next E50).next E92).next E99).next E106).next E113)).rd 19 rfl))) ?_)))))));refine af rfl (aa (ae bd rfl) (af rfl ?_));refine aa (aq bn rfl (by have h9:=(hk3.from_ (((((aj.rfl_.next E50).next E92).next E99).next E106).next E113)).rd 19 rfl;exact (show _=some (Value.slice b.Q a.L.length b.Qc) from by rw [hlb];exact h9))) ?_;refine af rfl (aG uz (qW a.Q b.Q a.Qc b.Qc a.L.length a.L b.L _ (ha.q.from_ (((((((aj.rfl_.next E2).next E3).next E50).next E92).next E99).next E106).next E113)) (hb.q.from_ (((((((aj.rfl_.next E2).next E3).next E50).next E92).next E99).next E106).next E113)) rfl hlb.symm (ha.r.trans hb.r.symm) (fun x hx=>(ha.k x hx).from_ (((((((aj.rfl_.next E2).next E3).next E50).next E92).next E99).next E106).next E113)) (fun x hx=>(hb.k x hx).from_ (((((((aj.rfl_.next E2).next E3).next E50).next E92).next E99).next E106).next E113)) (fun x hx=>hl6 _ (by rw [←ha.r];exact List.mem_map_of_mem hx)) (by omega)) ?_);rintro v127 w8 ⟨rfl,E127⟩;refine aa (ao (v:=.bool _) rfl rfl) (mvb rfl (af rfl (aa (ae dv rfl) (af rfl (aa (aq bD rfl (by exact (show _=some (Value.string s.part) from (hk2.from_ ((((((aj.rfl_.next E50).next E92).next E99).next E106).next E113).next E127)).rd 20 rfl))) ?_)))));refine af rfl (aa (ae dv rfl) (af rfl (aa (aq bD rfl (by exact (show _=some (Value.string s.part) from (hk3.from_ ((((((aj.rfl_.next E50).next E92).next E99).next E106).next E113).next E127)).rd 20 rfl))) ?_)));refine af rfl (aa (dN (kn rfl rfl) (beq_self_eq_true _)) (aa (ao (v:=.bool _) rfl rfl) (mvb rfl (af rfl (aa (ae di rfl) (af rfl (aa (aq ar rfl (by exact (show _=some (Value.int .i64 s.partOf) from (hk2.from_ ((((((aj.rfl_.next E50).next E92).next E99).next E106).next E113).next E127)).rd 21 rfl))) ?_)))))));refine af rfl (aa (ae di rfl) (af rfl (aa (aq ar rfl (by exact (show _=some (Value.int .i64 s.partOf) from (hk3.from_ ((((((aj.rfl_.next E50).next E92).next E99).next E106).next E113).next E127)).rd 21 rfl))) ?_)));refine af rfl (aa (dN (bC rfl rfl) (beq_self_eq_true _)) (aa (ao (v:=.bool _) rfl rfl) (asb rfl (ak (ag (aC (bh (v:=.bool _) rfl rfl (⟨rfl,((((((((aj.rfl_.next E2).next E3).next E50).next E92).next E99).next E106).next E113).next E127)⟩))))))))
theorem ot:gV prog 99=some true:=by kernel_rfl
theorem lj:dL prog 99=some 3:=by kernel_rfl
theorem lI:cr prog 39 0=some 0:=by kernel_rfl
theorem lH:cr prog 39 4=some 4:=by kernel_rfl
theorem lG:cr prog 39 5=some 5:=by kernel_rfl
theorem lF:cr prog 39 6=some 6:=by kernel_rfl
theorem lE:cr prog 39 7=some 7:=by kernel_rfl
theorem lD:cr prog 39 8=some 8:=by kernel_rfl
theorem gg:cr prog 39 9=some 9:=by kernel_rfl
theorem sY:aY prog 90=true:=by kernel_rfl
theorem kB:cr prog 39 10=some 10:=by kernel_rfl
theorem iT:cr prog 39 11=some 11:=by kernel_rfl
theorem kA:cr prog 39 12=some 12:=by kernel_rfl
theorem jN:(fI prog 48).isSome=true:=by kernel_rfl
theorem jO:fI prog 48=some (39,13):=by kernel_rfl
theorem sZ:aY prog 48=true:=by kernel_rfl
theorem mb {a b:ByteArray}:a.toList=b.toList↔a=b:=by
 refine ⟨fun hh=>?_,fun h=>by rw [h]⟩;rw [ByteArray.toList_eq,ByteArray.toList_eq] at hh;obtain ⟨⟨x⟩⟩:=a;obtain ⟨⟨y⟩⟩:=b
 simp_all
instance:DecidableEq Ent:=fun x y=>decidable_of_iff (x.i=y.i∧x.t=y.t∧x.d=y.d) ⟨fun h=>by cases x;cases y;simp_all,fun h=>by rw [h];exact ⟨rfl,rfl,rfl⟩⟩
theorem xr (a b:Ent) (w:World):(Op.equalIn 10000 99 (.agg #[.int .i64 a.i,.int .i64 a.t,.string a.d]) (.agg #[.int .i64 b.i,.int .i64 b.t,.string b.d])).run prog w=.ok (decide (a=b)) w:=by
 have u3:=Tryz.underlying3;have a3:=Tryz.isAgg3;have z3:=Tryz.sizeOf3;have u9:=Tryz.underlying9;have a9:=Tryz.isAgg9;have z9:=Tryz.sizeOf9;have hS:prog.underlying 99=some (.struct (prog.fieldsOf 99)):=by kernel_rfl
 have hp:prog.stoodInHeld 99=false:=by kernel_rfl
 obtain ⟨i1,t1,d1⟩:=a;obtain ⟨i2,t2,d2⟩:=b;rw [show (10000:Nat)=9999+1 from rfl,run_equalIn_agg w 9999 99 _ _ hS hp];simp only [Program.fieldsOf,Tryz.underlying99 ]
 go_simp
 simp only [mb];by_cases h1:i1=i2 <;> by_cases h2:t1=t2 <;> by_cases h3:d1=d2 <;> simp [h1,h2,h3]
theorem sC {ρ:Operand→Value} {w:World} {yt:TypeId} {x y:Operand} {a b:Ent} (hx:ρ x=.agg #[.int .i64 a.i,.int .i64 a.t,.string a.d]) (hy:ρ y=.agg #[.int .i64 b.i,.int .i64 b.t,.string b.d]):RO prog ρ (.binOp .neq 99 x y yt) w (.bool (!decide (a=b))) w:=by
 refine kQ hx hy (run_eqGuard_agg w _ _ _ _ _ _ (by kernel_rfl)) ?_;rw [run_neq_struct,xr];rfl
theorem nZ {w:World} {A:Option Addr} {n c:Nat} {es:List Ent} (h:ct w (.slice A n c) es) (hn:0<es.length):∃ b o,A=some ⟨b,o,none⟩∧∀ i (hi:i<es.length),w.rangeAt b (o+i*3) [.int .i64 es[i].i,.int .i64 es[i].t,.string es[i].d]:=by
 obtain ⟨A',c',hv,_,_,_,hp⟩:=h;simp only [Value.slice.injEq] at hv;obtain ⟨rfl,_,_⟩:=hv;obtain ⟨b,o,hA,_,hc⟩:=hp hn;exact ⟨b,o,hA,fun i hi=>vU (hc i hi).1 (hc i hi).2.1 (hc i hi).2.2⟩
theorem xU (a b:ByteArray):(a.toList==b.toList)=decide (a=b):=by
 rw [Bool.eq_iff_iff,beq_iff_eq,decide_eq_true_eq,mb]
theorem xF (a b:Bool):(a==b)=decide (a=b):=by cases a <;> cases b <;> rfl
theorem uc (A B:Option Addr) (ca cb n m:Nat) (xs ys:List Ent) (w:World) (hn:n=xs.length) (hm:m=ys.length) (h1:ct w (.slice A n ca) xs) (h2:ct w (.slice B m cb) ys) (hl:xs.length≤400000000000) :
 Rt prog 90 [.slice A n ca,.slice B m cb] w (fun v w'=>v=.bool (decide (xs=ys))∧aj w w'):=by
 subst hn hm;refine enter (n:=26) Tryz.func90 rfl rfl rfl (an (ah (asb rfl (ak (ag (an (an (ah (mvs rfl (aa (bm cT rfl) (mvs rfl (aa (bm cT rfl) (aa (dt rfl rfl) ?_)))))))))))));refine ak (ag (aV rfl (fun Q1=>?_) (fun Q1=>?_)))
 ·replace Q1:=dc Q1;replace Q1:=fE Q1;refine an (ah (asb rfl (ak (ag (aC (ay (bh (v:=.bool _) rfl rfl (⟨congrArg Value.bool (decide_eq_false (fun e=>absurd (congrArg List.length e) (by omega))).symm,aj.rfl_⟩))))))))
 replace Q1:=dd Q1;replace Q1:=fD Q1;have hlen:xs.length=ys.length:=by omega
 refine aR (ag (an (an (ah (asi rfl (ak (ag (bf (cz (G:=Nat) [4,11,12,13,14,15,16,17,18,19,20,21,22,23,24,25] (fun k=>[(5,.int .i64 (k:Nat))]) (fun k w'=>k≤xs.length∧xs.take k=ys.take k∧aj w w') (fun k=>xs.length-k) (0) ⟨rfl,trivial⟩ ?_ ?_)))))))))
 ·exact ⟨Nat.zero_le _,rfl,aj.rfl_⟩
 rintro k ρ2 w2 ⟨hk,ht,hB⟩;refine an (an (ah (mvi rfl (mvs rfl (aa (bm cT rfl) (aa (bG rfl rfl) (ak (ag (xD rfl (fun Q3=>?_) (fun Q3=>?_))))))))))
 ·have hkx:k<xs.length:=by omega
  have hky:k<ys.length:=by omega
  obtain ⟨ba,oa,rfl,hca⟩:=nZ h1 (by omega);obtain ⟨bb,ob,rfl,hcb⟩:=nZ h2 (by omega);refine aR (ag (an (bf (an ?_))));apply dR 9 [(17,eqp _),(18,eqp _),(19,eqp _),(20,eqp (.agg #[.int .i64 (xs[k]'hkx).i,.int .i64 (xs[k]'hkx).t,.string (xs[k]'hkx).d])),(21,eqp _),(22,eqp _),(23,eqp _),(24,eqp (.agg #[.int .i64 (ys[k]'hky).i,.int .i64 (ys[k]'hky).t,.string (ys[k]'hky).d])),(25,eqp (.bool (!decide (xs[k]'hkx=ys[k]'hky))))] (by repeat first | exact ej | refine ei ?_ | refine dO ?_) (by kernel_rfl) (by kernel_rfl) ⟨au _,au _,au _,au _,au _,au _,au _,au _,au _,trivial⟩
  case hop=>
   constructor
   ·rintro-w5 D5;exact az (aP (v:=.slice _ _ _) rfl) rfl
   constructor
   ·rintro-w6 D6;exact az (aP (v:=.int _ _) rfl) rfl
   constructor
   ·rintro-w7 D7;rintro _ rfl _ rfl;exact az (bL fC rfl rfl (by omega)) rfl
   constructor
   ·rintro-w8 D8;rintro _ rfl;exact az (aT (cs:=[.int .i64 xs[k].i,.int .i64 xs[k].t,.string xs[k].d]) ot lj rfl (eN (hB.next D8) (hca k hkx))) rfl
   constructor
   ·rintro-w9 D9;exact az (aP (v:=.slice _ _ _) rfl) rfl
   constructor
   ·rintro-w10 D10;exact az (aP (v:=.int _ _) rfl) rfl
   constructor
   ·rintro-w11 D11;rintro _ rfl _ rfl;exact az (bL fC rfl rfl (by omega)) rfl
   constructor
   ·rintro-w12 D12;rintro _ rfl;exact az (aT (cs:=[.int .i64 ys[k].i,.int .i64 ys[k].t,.string ys[k].d]) ot lj rfl (eN (hB.next D12) (hcb k hky))) rfl
   constructor
   ·rintro-w13 D13;rintro v13_20 rfl v13_24 rfl;exact az (sC (a:=xs[k]) (b:=ys[k]) rfl rfl) rfl
   exact trivial
  case hend=>
   intro w14 D14;rintro _ rfl _ rfl _ rfl v20 rfl _ rfl _ rfl _ rfl v24 rfl v25 rfl;show St ..;refine ak (ag (aV rfl (fun Q15=>?_) (fun Q15=>?_)))
   ·replace Q15:=dc Q15;replace Q15:=dF_ Q15;have hne:¬ xs[k]=ys[k]:=by simpa using Q15
    refine an (ah (asb rfl (ak (ag (aC (aZ (ay (ay (aZ (ay (bh (v:=.bool _) rfl rfl (⟨congrArg Value.bool (decide_eq_false (fun e=>by subst e;exact hne rfl)).symm,(hB.next D14)⟩))))))))))))
   replace Q15:=dd Q15;replace Q15:=dT_ Q15;have heq:xs[k]=ys[k]:=by simpa using Q15
   refine aR (bN (ag (ah (mvi rfl (aa (cR (b:=1) rfl rfl (by omega)) (asi rfl (ak ?_)))))));refine cK (k+1) ⟨(by first | rfl | (refine br ?_;omega)),trivial⟩ (by (iterate 33 refine bQ rfl ?_);exact b_) ⟨?_,?_⟩
   ·exact ⟨by omega,rO hkx hky ht heq,(hB.next D14)⟩
   ·omega
 refine bZ (bg (bg (bF (ag (an (ah (asb rfl (ak (ag (aC (bh (v:=.bool _) rfl rfl (⟨congrArg Value.bool (decide_eq_true (vD hlen (by omega) ht)).symm,hB⟩))))))))))))
theorem u_ (k f t tm ix lt cm rd:Int) (ok:Bool) (E:Option Addr) (n c:Nat) (a:Int) (d:ByteArray) (dn:Bool) (k2 f2 t2 tm2 ix2 lt2 cm2 rd2:Int) (ok2:Bool) (Eb:Option Addr) (n2 c2:Nat) (a2:Int) (d2:ByteArray) (dn2:Bool) (w:World) (es es2:List Ent) (hn:n=es.length) (hn2:n2=es2.length) (he:ct w (.slice E n c) es) (he2:ct w (.slice Eb n2 c2) es2) (hl:es.length≤400000000000) :
 Rt prog 48 [.agg #[.int .i64 k,.int .i64 f,.int .i64 t,.int .i64 tm,.int .i64 ix,.int .i64 lt,.int .i64 cm,.int .i64 rd,.bool ok,.slice E n c,.int .i64 a,.string d,.bool dn],.agg #[.int .i64 k2,.int .i64 f2,.int .i64 t2,.int .i64 tm2,.int .i64 ix2,.int .i64 lt2,.int .i64 cm2,.int .i64 rd2,.bool ok2,.slice Eb n2 c2,.int .i64 a2,.string d2,.bool dn2]] w (fun v w'=>v=.bool (decide (k=k2∧f=f2∧t=t2∧tm=tm2∧ix=ix2∧lt=lt2∧cm=cm2∧rd=rd2∧ok=ok2∧es=es2∧a=a2∧d=d2∧dn=dn2))∧aj w w'):=by
 refine enter (n:=94) Tryz.func48 rfl rfl rfl (an (ah (cU (v:=.agg _) rfl ?_)));intro b2 w1 E2 hb2 hk2;refine cU (v:=.agg _) rfl ?_;intro b3 w2 E3 hb3 hk3;replace hk2:=hk2.from_ E3;refine asb rfl (ak (ag (an (ah (aa (ae lI rfl) (aa (aq ar rfl (by exact (hk2.from_ aj.rfl_).rd 0 rfl)) ?_))))));refine aa (ae lI rfl) (aa (aq ar rfl (by exact (hk3.from_ aj.rfl_).rd 0 rfl)) ?_);refine aa (bC rfl rfl) (mvb rfl (wJ (t:=10) rfl (fun Q3=>?_) (fun Q3=>?_)))
 ·have q0:=Q3;refine af rfl (aa (ae gx rfl) (af rfl (aa (aq ar rfl (by exact (hk2.from_ aj.rfl_).rd 1 rfl)) ?_)));refine af rfl (aa (ae gx rfl) (af rfl (aa (aq ar rfl (by exact (hk3.from_ aj.rfl_).rd 1 rfl)) ?_)));refine af rfl (aa (bC rfl rfl) (aa (ao (v:=.bool _) rfl rfl) (mvb rfl (wJ (t:=17) rfl (fun Q4=>?_) (fun Q4=>?_)))))
  ·have q1:=Q4;refine af rfl (aa (ae iS rfl) (af rfl (aa (aq ar rfl (by exact (hk2.from_ aj.rfl_).rd 2 rfl)) ?_)));refine af rfl (aa (ae iS rfl) (af rfl (aa (aq ar rfl (by exact (hk3.from_ aj.rfl_).rd 2 rfl)) ?_)));refine af rfl (aa (bC rfl rfl) (aa (ao (v:=.bool _) rfl rfl) (mvb rfl (wJ (t:=24) rfl (fun Q5=>?_) (fun Q5=>?_)))))
   ·have q2:=Q5;refine af rfl (aa (ae gv rfl) (af rfl (aa (aq ar rfl (by exact (hk2.from_ aj.rfl_).rd 3 rfl)) ?_)));refine af rfl (aa (ae gv rfl) (af rfl (aa (aq ar rfl (by exact (hk3.from_ aj.rfl_).rd 3 rfl)) ?_)));refine af rfl (aa (bC rfl rfl) (aa (ao (v:=.bool _) rfl rfl) (mvb rfl (wJ (t:=31) rfl (fun Q6=>?_) (fun Q6=>?_)))))
    ·have q3:=Q6;refine af rfl (aa (ae lH rfl) (af rfl (aa (aq ar rfl (by exact (hk2.from_ aj.rfl_).rd 4 rfl)) ?_)));refine af rfl (aa (ae lH rfl) (af rfl (aa (aq ar rfl (by exact (hk3.from_ aj.rfl_).rd 4 rfl)) ?_)));refine af rfl (aa (bC rfl rfl) (aa (ao (v:=.bool _) rfl rfl) (mvb rfl (wJ (t:=38) rfl (fun Q7=>?_) (fun Q7=>?_)))))
     ·have q4:=Q7;refine af rfl (aa (ae lG rfl) (af rfl (aa (aq ar rfl (by exact (hk2.from_ aj.rfl_).rd 5 rfl)) ?_)));refine af rfl (aa (ae lG rfl) (af rfl (aa (aq ar rfl (by exact (hk3.from_ aj.rfl_).rd 5 rfl)) ?_)));refine af rfl (aa (bC rfl rfl) (aa (ao (v:=.bool _) rfl rfl) (mvb rfl (wJ (t:=45) rfl (fun Q8=>?_) (fun Q8=>?_)))))
      ·have q5:=Q8;refine af rfl (aa (ae lF rfl) (af rfl (aa (aq ar rfl (by exact (hk2.from_ aj.rfl_).rd 6 rfl)) ?_)));refine af rfl (aa (ae lF rfl) (af rfl (aa (aq ar rfl (by exact (hk3.from_ aj.rfl_).rd 6 rfl)) ?_)));refine af rfl (aa (bC rfl rfl) (aa (ao (v:=.bool _) rfl rfl) (mvb rfl (wJ (t:=52) rfl (fun Q9=>?_) (fun Q9=>?_)))))
       ·have q6:=Q9;refine af rfl (aa (ae lE rfl) (af rfl (aa (aq ar rfl (by exact (hk2.from_ aj.rfl_).rd 7 rfl)) ?_)));refine af rfl (aa (ae lE rfl) (af rfl (aa (aq ar rfl (by exact (hk3.from_ aj.rfl_).rd 7 rfl)) ?_)));refine af rfl (aa (bC rfl rfl) (aa (ao (v:=.bool _) rfl rfl) (mvb rfl (wJ (t:=59) rfl (fun Q10=>?_) (fun Q10=>?_)))))
        ·have q7:=Q10;refine af rfl (aa (ae lD rfl) (af rfl (aa (aq jD rfl (by exact (hk2.from_ aj.rfl_).rd 8 rfl)) ?_)));refine af rfl (aa (ae lD rfl) (af rfl (aa (aq jD rfl (by exact (hk3.from_ aj.rfl_).rd 8 rfl)) ?_)));refine af rfl (aa (gk (rV (by kernel_rfl) rfl rfl) (congrArg Value.bool (xF ok ok2))) (aa (ao (v:=.bool _) rfl rfl) (mvb rfl (wK (t:=66) rfl (fun Q11=>?_) (fun Q11=>?_)))))
         ·have q8:=Q11;refine af rfl (aa (ae gg rfl) (af rfl (aa (aq cG rfl (by exact (hk2.from_ aj.rfl_).rd 9 rfl)) ?_)));refine af rfl (aa (ae gg rfl) (af rfl (aa (aq cG rfl (by exact (hk3.from_ aj.rfl_).rd 9 rfl)) ?_)));refine af rfl (aG sY (uc E Eb c c2 n n2 es es2 _ hn hn2 (he.from_ ((aj.rfl_.next E2).next E3)) (he2.from_ ((aj.rfl_.next E2).next E3)) hl) ?_);rintro v71 w12 ⟨rfl,E71⟩;refine aa (ao (v:=.bool _) rfl rfl) (mvb rfl (wK (t:=73) rfl (fun Q13=>?_) (fun Q13=>?_)))
          ·have q9:=Q13;refine af rfl (aa (ae kB rfl) (af rfl (aa (aq ar rfl (by exact (hk2.from_ (aj.rfl_.next E71)).rd 10 rfl)) ?_)));refine af rfl (aa (ae kB rfl) (af rfl (aa (aq ar rfl (by exact (hk3.from_ (aj.rfl_.next E71)).rd 10 rfl)) ?_)));refine af rfl (aa (bC rfl rfl) (aa (ao (v:=.bool _) rfl rfl) (mvb rfl (wJ (t:=80) rfl (fun Q14=>?_) (fun Q14=>?_)))))
           ·have q10:=Q14;refine af rfl (aa (ae iT rfl) (af rfl (aa (aq bD rfl (by exact (hk2.from_ (aj.rfl_.next E71)).rd 11 rfl)) ?_)));refine af rfl (aa (ae iT rfl) (af rfl (aa (aq bD rfl (by exact (hk3.from_ (aj.rfl_.next E71)).rd 11 rfl)) ?_)));refine af rfl (aa (gk (kn rfl rfl) (congrArg Value.bool (xU d d2))) (aa (ao (v:=.bool _) rfl rfl) (mvb rfl (wK (t:=87) rfl (fun Q15=>?_) (fun Q15=>?_)))))
            ·have q11:=Q15;refine af rfl (aa (ae kA rfl) (af rfl (aa (aq jD rfl (by exact (hk2.from_ (aj.rfl_.next E71)).rd 12 rfl)) ?_)));refine af rfl (aa (ae kA rfl) (af rfl (aa (aq jD rfl (by exact (hk3.from_ (aj.rfl_.next E71)).rd 12 rfl)) ?_)));refine af rfl (aa (gk (rV (by kernel_rfl) rfl rfl) (congrArg Value.bool (xF dn dn2))) (aa (ao (v:=.bool _) rfl rfl) (asb rfl (ak (ag (aC (bh (v:=.bool _) rfl rfl (⟨congrArg Value.bool ?_,(((aj.rfl_.next E2).next E3).next E71)⟩))))))))
             first
              |exact (decide_eq_false hno).symm
              |(rw [decide_eq_decide];exact ⟨fun h=>⟨q0,q1,q2,q3,q4,q5,q6,q7,q8,q9,q10,q11,h⟩,fun h=>h.2.2.2.2.2.2.2.2.2.2.2.2⟩)
            have hno:¬ (k=k2∧f=f2∧t=t2∧tm=tm2∧ix=ix2∧lt=lt2∧cm=cm2∧rd=rd2∧ok=ok2∧es=es2∧a=a2∧d=d2∧dn=dn2):=fun e=>Q15 e.2.2.2.2.2.2.2.2.2.2.2.1
            refine ab rfl rfl (ab rfl rfl (ab rfl rfl (ab rfl rfl (ab rfl rfl (aa (av (v:=.bool _) rfl rfl) (asb rfl (ak (ag (aC (bh (v:=.bool _) rfl rfl ?_))))))))));refine ⟨congrArg Value.bool ?_,(((aj.rfl_.next E2).next E3).next E71)⟩
            first
             |exact (decide_eq_false hno).symm
             |(rw [decide_eq_decide];exact ⟨fun h=>⟨q0,q1,q2,q3,q4,q5,q6,q7,q8,q9,q10,q11,h⟩,fun h=>h.2.2.2.2.2.2.2.2.2.2.2.2⟩)
           have hno:¬ (k=k2∧f=f2∧t=t2∧tm=tm2∧ix=ix2∧lt=lt2∧cm=cm2∧rd=rd2∧ok=ok2∧es=es2∧a=a2∧d=d2∧dn=dn2):=fun e=>Q14 e.2.2.2.2.2.2.2.2.2.2.1
           refine ab rfl rfl (ab rfl rfl (ab rfl rfl (ab rfl rfl (ab rfl rfl (aa (av (v:=.bool _) rfl rfl) (mvb rfl (ab rfl rfl (ab rfl rfl ?_))))))));refine ab rfl rfl (ab rfl rfl (ab rfl rfl (aa (av (v:=.bool _) rfl rfl) (asb rfl (ak (ag (aC (bh (v:=.bool _) rfl rfl (⟨congrArg Value.bool ?_,(((aj.rfl_.next E2).next E3).next E71)⟩)))))))))
           first
            |exact (decide_eq_false hno).symm
            |(rw [decide_eq_decide];exact ⟨fun h=>⟨q0,q1,q2,q3,q4,q5,q6,q7,q8,q9,q10,q11,h⟩,fun h=>h.2.2.2.2.2.2.2.2.2.2.2.2⟩)
          have hno:¬ (k=k2∧f=f2∧t=t2∧tm=tm2∧ix=ix2∧lt=lt2∧cm=cm2∧rd=rd2∧ok=ok2∧es=es2∧a=a2∧d=d2∧dn=dn2):=fun e=>Q13 e.2.2.2.2.2.2.2.2.2.1
          refine ab rfl rfl (ab rfl rfl (ab rfl rfl (ab rfl rfl (ab rfl rfl (aa (av (v:=.bool _) rfl rfl) (mvb rfl (ab rfl rfl (ab rfl rfl ?_))))))));refine ab rfl rfl (ab rfl rfl (ab rfl rfl (aa (av (v:=.bool _) rfl rfl) (mvb rfl (ab rfl rfl (ab rfl rfl (ab rfl rfl (ab rfl rfl ?_))))))));refine ab rfl rfl (aa (av (v:=.bool _) rfl rfl) (asb rfl (ak (ag (aC (bh (v:=.bool _) rfl rfl (⟨congrArg Value.bool ?_,(((aj.rfl_.next E2).next E3).next E71)⟩)))))))
          first
           |exact (decide_eq_false hno).symm
           |(rw [decide_eq_decide];exact ⟨fun h=>⟨q0,q1,q2,q3,q4,q5,q6,q7,q8,q9,q10,q11,h⟩,fun h=>h.2.2.2.2.2.2.2.2.2.2.2.2⟩)
         have hno:¬ (k=k2∧f=f2∧t=t2∧tm=tm2∧ix=ix2∧lt=lt2∧cm=cm2∧rd=rd2∧ok=ok2∧es=es2∧a=a2∧d=d2∧dn=dn2):=fun e=>Q11 e.2.2.2.2.2.2.2.2.1
         refine ab rfl rfl (ab rfl rfl (ab rfl rfl (ab rfl rfl (ab rfl rfl (aa (av (v:=.bool _) rfl rfl) (mvb rfl (ab rfl rfl (ab rfl rfl ?_))))))));refine ab rfl rfl (ab rfl rfl (ab rfl rfl (aa (av (v:=.bool _) rfl rfl) (mvb rfl (ab rfl rfl (ab rfl rfl (ab rfl rfl (ab rfl rfl ?_))))))));refine ab rfl rfl (aa (av (v:=.bool _) rfl rfl) (mvb rfl (ab rfl rfl (ab rfl rfl (ab rfl rfl (ab rfl rfl (ab rfl rfl (aa (av (v:=.bool _) rfl rfl) ?_))))))));refine asb rfl (ak (ag (aC (bh (v:=.bool _) rfl rfl (⟨congrArg Value.bool ?_,((aj.rfl_.next E2).next E3)⟩)))))
         first
          |exact (decide_eq_false hno).symm
          |(rw [decide_eq_decide];exact ⟨fun h=>⟨q0,q1,q2,q3,q4,q5,q6,q7,q8,q9,q10,q11,h⟩,fun h=>h.2.2.2.2.2.2.2.2.2.2.2.2⟩)
        have hno:¬ (k=k2∧f=f2∧t=t2∧tm=tm2∧ix=ix2∧lt=lt2∧cm=cm2∧rd=rd2∧ok=ok2∧es=es2∧a=a2∧d=d2∧dn=dn2):=fun e=>Q10 e.2.2.2.2.2.2.2.1
        refine ab rfl rfl (ab rfl rfl (ab rfl rfl (ab rfl rfl (ab rfl rfl (aa (av (v:=.bool _) rfl rfl) (mvb rfl (ab rfl rfl (ab rfl rfl ?_))))))));refine ab rfl rfl (ab rfl rfl (ab rfl rfl (aa (av (v:=.bool _) rfl rfl) (mvb rfl (ab rfl rfl (ab rfl rfl (ab rfl rfl (ab rfl rfl ?_))))))));refine ab rfl rfl (aa (av (v:=.bool _) rfl rfl) (mvb rfl (ab rfl rfl (ab rfl rfl (ab rfl rfl (ab rfl rfl (ab rfl rfl (aa (av (v:=.bool _) rfl rfl) ?_))))))));refine mvb rfl (ab rfl rfl (ab rfl rfl (ab rfl rfl (ab rfl rfl (ab rfl rfl (aa (av (v:=.bool _) rfl rfl) (asb rfl (ak (ag (aC ?_))))))))));refine bh (v:=.bool _) rfl rfl (⟨congrArg Value.bool ?_,((aj.rfl_.next E2).next E3)⟩)
        first
         |exact (decide_eq_false hno).symm
         |(rw [decide_eq_decide];exact ⟨fun h=>⟨q0,q1,q2,q3,q4,q5,q6,q7,q8,q9,q10,q11,h⟩,fun h=>h.2.2.2.2.2.2.2.2.2.2.2.2⟩)
       have hno:¬ (k=k2∧f=f2∧t=t2∧tm=tm2∧ix=ix2∧lt=lt2∧cm=cm2∧rd=rd2∧ok=ok2∧es=es2∧a=a2∧d=d2∧dn=dn2):=fun e=>Q9 e.2.2.2.2.2.2.1
       refine ab rfl rfl (ab rfl rfl (ab rfl rfl (ab rfl rfl (ab rfl rfl (aa (av (v:=.bool _) rfl rfl) (mvb rfl (ab rfl rfl (ab rfl rfl ?_))))))));refine ab rfl rfl (ab rfl rfl (ab rfl rfl (aa (av (v:=.bool _) rfl rfl) (mvb rfl (ab rfl rfl (ab rfl rfl (ab rfl rfl (ab rfl rfl ?_))))))));refine ab rfl rfl (aa (av (v:=.bool _) rfl rfl) (mvb rfl (ab rfl rfl (ab rfl rfl (ab rfl rfl (ab rfl rfl (ab rfl rfl (aa (av (v:=.bool _) rfl rfl) ?_))))))));refine mvb rfl (ab rfl rfl (ab rfl rfl (ab rfl rfl (ab rfl rfl (ab rfl rfl (aa (av (v:=.bool _) rfl rfl) (mvb rfl (ab rfl rfl ?_))))))));refine ab rfl rfl (ab rfl rfl (ab rfl rfl (ab rfl rfl (aa (av (v:=.bool _) rfl rfl) (asb rfl (ak (ag (aC (bh (v:=.bool _) rfl rfl (⟨congrArg Value.bool ?_,((aj.rfl_.next E2).next E3)⟩))))))))))
       first
        |exact (decide_eq_false hno).symm
        |(rw [decide_eq_decide];exact ⟨fun h=>⟨q0,q1,q2,q3,q4,q5,q6,q7,q8,q9,q10,q11,h⟩,fun h=>h.2.2.2.2.2.2.2.2.2.2.2.2⟩)
      have hno:¬ (k=k2∧f=f2∧t=t2∧tm=tm2∧ix=ix2∧lt=lt2∧cm=cm2∧rd=rd2∧ok=ok2∧es=es2∧a=a2∧d=d2∧dn=dn2):=fun e=>Q8 e.2.2.2.2.2.1
      refine ab rfl rfl (ab rfl rfl (ab rfl rfl (ab rfl rfl (ab rfl rfl (aa (av (v:=.bool _) rfl rfl) (mvb rfl (ab rfl rfl (ab rfl rfl ?_))))))));refine ab rfl rfl (ab rfl rfl (ab rfl rfl (aa (av (v:=.bool _) rfl rfl) (mvb rfl (ab rfl rfl (ab rfl rfl (ab rfl rfl (ab rfl rfl ?_))))))));refine ab rfl rfl (aa (av (v:=.bool _) rfl rfl) (mvb rfl (ab rfl rfl (ab rfl rfl (ab rfl rfl (ab rfl rfl (ab rfl rfl (aa (av (v:=.bool _) rfl rfl) ?_))))))));refine mvb rfl (ab rfl rfl (ab rfl rfl (ab rfl rfl (ab rfl rfl (ab rfl rfl (aa (av (v:=.bool _) rfl rfl) (mvb rfl (ab rfl rfl ?_))))))));refine ab rfl rfl (ab rfl rfl (ab rfl rfl (ab rfl rfl (aa (av (v:=.bool _) rfl rfl) (mvb rfl (ab rfl rfl (ab rfl rfl (ab rfl rfl ?_))))))));refine ab rfl rfl (ab rfl rfl (aa (av (v:=.bool _) rfl rfl) (asb rfl (ak (ag (aC (bh (v:=.bool _) rfl rfl (⟨congrArg Value.bool ?_,((aj.rfl_.next E2).next E3)⟩))))))))
      first
       |exact (decide_eq_false hno).symm
       |(rw [decide_eq_decide];exact ⟨fun h=>⟨q0,q1,q2,q3,q4,q5,q6,q7,q8,q9,q10,q11,h⟩,fun h=>h.2.2.2.2.2.2.2.2.2.2.2.2⟩)
     have hno:¬ (k=k2∧f=f2∧t=t2∧tm=tm2∧ix=ix2∧lt=lt2∧cm=cm2∧rd=rd2∧ok=ok2∧es=es2∧a=a2∧d=d2∧dn=dn2):=fun e=>Q7 e.2.2.2.2.1
     refine ab rfl rfl (ab rfl rfl (ab rfl rfl (ab rfl rfl (ab rfl rfl (aa (av (v:=.bool _) rfl rfl) (mvb rfl (ab rfl rfl (ab rfl rfl ?_))))))));refine ab rfl rfl (ab rfl rfl (ab rfl rfl (aa (av (v:=.bool _) rfl rfl) (mvb rfl (ab rfl rfl (ab rfl rfl (ab rfl rfl (ab rfl rfl ?_))))))));refine ab rfl rfl (aa (av (v:=.bool _) rfl rfl) (mvb rfl (ab rfl rfl (ab rfl rfl (ab rfl rfl (ab rfl rfl (ab rfl rfl (aa (av (v:=.bool _) rfl rfl) ?_))))))));refine mvb rfl (ab rfl rfl (ab rfl rfl (ab rfl rfl (ab rfl rfl (ab rfl rfl (aa (av (v:=.bool _) rfl rfl) (mvb rfl (ab rfl rfl ?_))))))));refine ab rfl rfl (ab rfl rfl (ab rfl rfl (ab rfl rfl (aa (av (v:=.bool _) rfl rfl) (mvb rfl (ab rfl rfl (ab rfl rfl (ab rfl rfl ?_))))))));refine ab rfl rfl (ab rfl rfl (aa (av (v:=.bool _) rfl rfl) (mvb rfl (ab rfl rfl (ab rfl rfl (ab rfl rfl (ab rfl rfl (ab rfl rfl ?_))))))));refine aa (av (v:=.bool _) rfl rfl) (asb rfl (ak (ag (aC (bh (v:=.bool _) rfl rfl (⟨congrArg Value.bool ?_,((aj.rfl_.next E2).next E3)⟩))))))
     first
      |exact (decide_eq_false hno).symm
      |(rw [decide_eq_decide];exact ⟨fun h=>⟨q0,q1,q2,q3,q4,q5,q6,q7,q8,q9,q10,q11,h⟩,fun h=>h.2.2.2.2.2.2.2.2.2.2.2.2⟩)
    have hno:¬ (k=k2∧f=f2∧t=t2∧tm=tm2∧ix=ix2∧lt=lt2∧cm=cm2∧rd=rd2∧ok=ok2∧es=es2∧a=a2∧d=d2∧dn=dn2):=fun e=>Q6 e.2.2.2.1
    refine ab rfl rfl (ab rfl rfl (ab rfl rfl (ab rfl rfl (ab rfl rfl (aa (av (v:=.bool _) rfl rfl) (mvb rfl (ab rfl rfl (ab rfl rfl ?_))))))));refine ab rfl rfl (ab rfl rfl (ab rfl rfl (aa (av (v:=.bool _) rfl rfl) (mvb rfl (ab rfl rfl (ab rfl rfl (ab rfl rfl (ab rfl rfl ?_))))))));refine ab rfl rfl (aa (av (v:=.bool _) rfl rfl) (mvb rfl (ab rfl rfl (ab rfl rfl (ab rfl rfl (ab rfl rfl (ab rfl rfl (aa (av (v:=.bool _) rfl rfl) ?_))))))));refine mvb rfl (ab rfl rfl (ab rfl rfl (ab rfl rfl (ab rfl rfl (ab rfl rfl (aa (av (v:=.bool _) rfl rfl) (mvb rfl (ab rfl rfl ?_))))))));refine ab rfl rfl (ab rfl rfl (ab rfl rfl (ab rfl rfl (aa (av (v:=.bool _) rfl rfl) (mvb rfl (ab rfl rfl (ab rfl rfl (ab rfl rfl ?_))))))));refine ab rfl rfl (ab rfl rfl (aa (av (v:=.bool _) rfl rfl) (mvb rfl (ab rfl rfl (ab rfl rfl (ab rfl rfl (ab rfl rfl (ab rfl rfl ?_))))))));refine aa (av (v:=.bool _) rfl rfl) (mvb rfl (ab rfl rfl (ab rfl rfl (ab rfl rfl (ab rfl rfl (ab rfl rfl (aa (av (v:=.bool _) rfl rfl) (asb rfl ?_))))))));refine ak (ag (aC (bh (v:=.bool _) rfl rfl (⟨congrArg Value.bool ?_,((aj.rfl_.next E2).next E3)⟩))))
    first
     |exact (decide_eq_false hno).symm
     |(rw [decide_eq_decide];exact ⟨fun h=>⟨q0,q1,q2,q3,q4,q5,q6,q7,q8,q9,q10,q11,h⟩,fun h=>h.2.2.2.2.2.2.2.2.2.2.2.2⟩)
   have hno:¬ (k=k2∧f=f2∧t=t2∧tm=tm2∧ix=ix2∧lt=lt2∧cm=cm2∧rd=rd2∧ok=ok2∧es=es2∧a=a2∧d=d2∧dn=dn2):=fun e=>Q5 e.2.2.1
   refine ab rfl rfl (ab rfl rfl (ab rfl rfl (ab rfl rfl (ab rfl rfl (aa (av (v:=.bool _) rfl rfl) (mvb rfl (ab rfl rfl (ab rfl rfl ?_))))))));refine ab rfl rfl (ab rfl rfl (ab rfl rfl (aa (av (v:=.bool _) rfl rfl) (mvb rfl (ab rfl rfl (ab rfl rfl (ab rfl rfl (ab rfl rfl ?_))))))));refine ab rfl rfl (aa (av (v:=.bool _) rfl rfl) (mvb rfl (ab rfl rfl (ab rfl rfl (ab rfl rfl (ab rfl rfl (ab rfl rfl (aa (av (v:=.bool _) rfl rfl) ?_))))))));refine mvb rfl (ab rfl rfl (ab rfl rfl (ab rfl rfl (ab rfl rfl (ab rfl rfl (aa (av (v:=.bool _) rfl rfl) (mvb rfl (ab rfl rfl ?_))))))));refine ab rfl rfl (ab rfl rfl (ab rfl rfl (ab rfl rfl (aa (av (v:=.bool _) rfl rfl) (mvb rfl (ab rfl rfl (ab rfl rfl (ab rfl rfl ?_))))))));refine ab rfl rfl (ab rfl rfl (aa (av (v:=.bool _) rfl rfl) (mvb rfl (ab rfl rfl (ab rfl rfl (ab rfl rfl (ab rfl rfl (ab rfl rfl ?_))))))));refine aa (av (v:=.bool _) rfl rfl) (mvb rfl (ab rfl rfl (ab rfl rfl (ab rfl rfl (ab rfl rfl (ab rfl rfl (aa (av (v:=.bool _) rfl rfl) (mvb rfl ?_))))))));refine ab rfl rfl (ab rfl rfl (ab rfl rfl (ab rfl rfl (ab rfl rfl (aa (av (v:=.bool _) rfl rfl) (asb rfl (ak (ag (aC (bh (v:=.bool _) rfl rfl ?_))))))))));refine ⟨congrArg Value.bool ?_,((aj.rfl_.next E2).next E3)⟩
   first
    |exact (decide_eq_false hno).symm
    |(rw [decide_eq_decide];exact ⟨fun h=>⟨q0,q1,q2,q3,q4,q5,q6,q7,q8,q9,q10,q11,h⟩,fun h=>h.2.2.2.2.2.2.2.2.2.2.2.2⟩)
  have hno:¬ (k=k2∧f=f2∧t=t2∧tm=tm2∧ix=ix2∧lt=lt2∧cm=cm2∧rd=rd2∧ok=ok2∧es=es2∧a=a2∧d=d2∧dn=dn2):=fun e=>Q4 e.2.1
  refine ab rfl rfl (ab rfl rfl (ab rfl rfl (ab rfl rfl (ab rfl rfl (aa (av (v:=.bool _) rfl rfl) (mvb rfl (ab rfl rfl (ab rfl rfl ?_))))))));refine ab rfl rfl (ab rfl rfl (ab rfl rfl (aa (av (v:=.bool _) rfl rfl) (mvb rfl (ab rfl rfl (ab rfl rfl (ab rfl rfl (ab rfl rfl ?_))))))));refine ab rfl rfl (aa (av (v:=.bool _) rfl rfl) (mvb rfl (ab rfl rfl (ab rfl rfl (ab rfl rfl (ab rfl rfl (ab rfl rfl (aa (av (v:=.bool _) rfl rfl) ?_))))))));refine mvb rfl (ab rfl rfl (ab rfl rfl (ab rfl rfl (ab rfl rfl (ab rfl rfl (aa (av (v:=.bool _) rfl rfl) (mvb rfl (ab rfl rfl ?_))))))));refine ab rfl rfl (ab rfl rfl (ab rfl rfl (ab rfl rfl (aa (av (v:=.bool _) rfl rfl) (mvb rfl (ab rfl rfl (ab rfl rfl (ab rfl rfl ?_))))))));refine ab rfl rfl (ab rfl rfl (aa (av (v:=.bool _) rfl rfl) (mvb rfl (ab rfl rfl (ab rfl rfl (ab rfl rfl (ab rfl rfl (ab rfl rfl ?_))))))));refine aa (av (v:=.bool _) rfl rfl) (mvb rfl (ab rfl rfl (ab rfl rfl (ab rfl rfl (ab rfl rfl (ab rfl rfl (aa (av (v:=.bool _) rfl rfl) (mvb rfl ?_))))))));refine ab rfl rfl (ab rfl rfl (ab rfl rfl (ab rfl rfl (ab rfl rfl (aa (av (v:=.bool _) rfl rfl) (mvb rfl (ab rfl rfl (ab rfl rfl ?_))))))));refine ab rfl rfl (ab rfl rfl (ab rfl rfl (aa (av (v:=.bool _) rfl rfl) (asb rfl (ak (ag (aC (bh (v:=.bool _) rfl rfl (⟨congrArg Value.bool ?_,((aj.rfl_.next E2).next E3)⟩)))))))))
  first
   |exact (decide_eq_false hno).symm
   |(rw [decide_eq_decide];exact ⟨fun h=>⟨q0,q1,q2,q3,q4,q5,q6,q7,q8,q9,q10,q11,h⟩,fun h=>h.2.2.2.2.2.2.2.2.2.2.2.2⟩)
 have hno:¬ (k=k2∧f=f2∧t=t2∧tm=tm2∧ix=ix2∧lt=lt2∧cm=cm2∧rd=rd2∧ok=ok2∧es=es2∧a=a2∧d=d2∧dn=dn2):=fun e=>Q3 e.1
 refine ab rfl rfl (ab rfl rfl (ab rfl rfl (ab rfl rfl (ab rfl rfl (aa (av (v:=.bool _) rfl rfl) (mvb rfl (ab rfl rfl (ab rfl rfl ?_))))))));refine ab rfl rfl (ab rfl rfl (ab rfl rfl (aa (av (v:=.bool _) rfl rfl) (mvb rfl (ab rfl rfl (ab rfl rfl (ab rfl rfl (ab rfl rfl ?_))))))));refine ab rfl rfl (aa (av (v:=.bool _) rfl rfl) (mvb rfl (ab rfl rfl (ab rfl rfl (ab rfl rfl (ab rfl rfl (ab rfl rfl (aa (av (v:=.bool _) rfl rfl) ?_))))))));refine mvb rfl (ab rfl rfl (ab rfl rfl (ab rfl rfl (ab rfl rfl (ab rfl rfl (aa (av (v:=.bool _) rfl rfl) (mvb rfl (ab rfl rfl ?_))))))));refine ab rfl rfl (ab rfl rfl (ab rfl rfl (ab rfl rfl (aa (av (v:=.bool _) rfl rfl) (mvb rfl (ab rfl rfl (ab rfl rfl (ab rfl rfl ?_))))))));refine ab rfl rfl (ab rfl rfl (aa (av (v:=.bool _) rfl rfl) (mvb rfl (ab rfl rfl (ab rfl rfl (ab rfl rfl (ab rfl rfl (ab rfl rfl ?_))))))));refine aa (av (v:=.bool _) rfl rfl) (mvb rfl (ab rfl rfl (ab rfl rfl (ab rfl rfl (ab rfl rfl (ab rfl rfl (aa (av (v:=.bool _) rfl rfl) (mvb rfl ?_))))))));refine ab rfl rfl (ab rfl rfl (ab rfl rfl (ab rfl rfl (ab rfl rfl (aa (av (v:=.bool _) rfl rfl) (mvb rfl (ab rfl rfl (ab rfl rfl ?_))))))));refine ab rfl rfl (ab rfl rfl (ab rfl rfl (aa (av (v:=.bool _) rfl rfl) (mvb rfl (ab rfl rfl (ab rfl rfl (ab rfl rfl (ab rfl rfl ?_))))))));refine ab rfl rfl (aa (av (v:=.bool _) rfl rfl) (asb rfl (ak (ag (aC (bh (v:=.bool _) rfl rfl (⟨congrArg Value.bool ?_,((aj.rfl_.next E2).next E3)⟩)))))))
 first
  |exact (decide_eq_false hno).symm
  |(rw [decide_eq_decide];exact ⟨fun h=>⟨q0,q1,q2,q3,q4,q5,q6,q7,q8,q9,q10,q11,h⟩,fun h=>h.2.2.2.2.2.2.2.2.2.2.2.2⟩)
theorem u7 (x y:Msg) (w:World) (h:pl x=pl y) (hx:ct w (.slice x.E x.es.length x.c) x.es) (hy:ct w (.slice y.E y.es.length y.c) y.es) (hl:x.es.length≤1000000) :
 Rt prog 48 [.agg (dT x).toArray,.agg (dT y).toArray] w fun v w'=>v=.bool true∧aj w w':=
 (u_ x.k x.f x.t x.tm x.ix x.lt x.cm x.rd x.ok x.E x.es.length x.c x.a x.d x.dn y.k y.f y.t y.tm y.ix y.lt y.cm y.rd y.ok y.E y.es.length y.c y.a y.d y.dn w x.es y.es rfl rfl hx hy (by omega)).mono fun v w' hv=>⟨by
  rw [hv.1];exact congrArg Value.bool (decide_eq_true ⟨(show (pl x).k=(pl y).k from congrArg Msg.k h),(show (pl x).f=(pl y).f from congrArg Msg.f h),(show (pl x).t=(pl y).t from congrArg Msg.t h),(show (pl x).tm=(pl y).tm from congrArg Msg.tm h),(show (pl x).ix=(pl y).ix from congrArg Msg.ix h),(show (pl x).lt=(pl y).lt from congrArg Msg.lt h),(show (pl x).cm=(pl y).cm from congrArg Msg.cm h),(show (pl x).rd=(pl y).rd from congrArg Msg.rd h),(show (pl x).ok=(pl y).ok from congrArg Msg.ok h),(show (pl x).es=(pl y).es from congrArg Msg.es h),(show (pl x).a=(pl y).a from congrArg Msg.a h),(show (pl x).d=(pl y).d from congrArg Msg.d h),(show (pl x).dn=(pl y).dn from congrArg Msg.dn h)⟩),hv.2⟩
theorem wU {X Y:List Msg} (h:X.map pl=Y.map pl) {k:Nat} (hx:k<X.length) (hy:k<Y.length):pl X[k]=pl Y[k]:=by
 have:(X.map pl)[k]'(by simpa using hx)=(Y.map pl)[k]'(by simpa using hy):=by simp only [h]
 simpa using this
theorem pW (A B:Option Addr) (c c2 n:Nat) (X Y:List Msg) (w:World) (hr:f_ 13 dT w A X) (hr2:f_ 13 dT w B Y) (hX:X.length=n) (hY:Y.length=n) (hp:X.map pl=Y.map pl) (hE:∀ x∈X,ct w (.slice x.E x.es.length x.c) x.es) (hE2:∀ x∈Y,ct w (.slice x.E x.es.length x.c) x.es) (hle:∀ x∈X,x.es.length≤1000000) (hn:n≤100000) :
 Rt prog 50 [.slice A n c,.slice B n c2] w (fun v w'=>v=.bool true∧aj w w'):=by
 refine enter (n:=27) Tryz.func50 rfl rfl rfl (an (ah (asb rfl (ak (ag (an (an (ah (mvs rfl (aa (bm jN rfl) (mvs rfl (aa (bm jN rfl) (aa (fh (dt rfl rfl) (bne_self_eq_false _)) ?_)))))))))))));refine ak (ag (ck rfl (aR (ag (an (an (ah (asi rfl (ak (ag (bf (cz (G:=Nat) [4,11,12,13,14,15,16,17,18,19,20,21,22,23,24,25,26] (fun k=>[(5,.int .i64 (k:Nat))]) (fun k w'=>k≤n∧aj w w') (fun k=>n-k) (0) ⟨rfl,trivial⟩ ?_ ?_))))))))))))
 ·exact ⟨Nat.zero_le _,aj.rfl_⟩
 rintro k ρ1 w1 ⟨hk,hB⟩;refine an (an (ah (mvi rfl (mvs rfl (aa (bm jN rfl) (aa (bG rfl rfl) (ak (ag (xD rfl (fun Q2=>?_) (fun Q2=>?_))))))))))
 ·have hkX:k<X.length:=by omega
  have hkY:k<Y.length:=by omega
  obtain ⟨ba,oa,rfl,hca⟩:=hr (by omega);obtain ⟨bb,ob,rfl,hcb⟩:=hr2 (by omega);have hxk:=hE _ (List.getElem_mem hkX);have hyk:=hE2 _ (List.getElem_mem hkY);have hlk:=hle _ (List.getElem_mem hkX);refine aR (ag (an (bf (an ?_))));apply dR 10 [(17,eqp _),(18,eqp _),(19,eqp _),(20,eqp (.agg (dT (X[k]'hkX)).toArray)),(21,eqp _),(22,eqp _),(23,eqp _),(24,eqp (.agg (dT (Y[k]'hkY)).toArray)),(25,eqp _),(26,eqp _)] (by repeat first | exact ej | refine ei ?_ | refine dO ?_) (by kernel_rfl) (by kernel_rfl) ⟨au _,au _,au _,au _,au _,au _,au _,au _,au _,au _,trivial⟩
  case hop=>
   constructor
   ·rintro-w4 D4;exact az (aP (v:=.slice _ _ _) rfl) rfl
   constructor
   ·rintro-w5 D5;exact az (aP (v:=.int _ _) rfl) rfl
   constructor
   ·rintro-w6 D6;rintro _ rfl _ rfl;exact az (bL jO rfl rfl (by omega)) rfl
   constructor
   ·rintro-w7 D7;rintro _ rfl;exact az (aT (cs:=dT (X[k]'hkX)) fQ fq rfl (eN (hB.next D7) (hca k hkX))) rfl
   constructor
   ·rintro-w8 D8;exact az (aP (v:=.slice _ _ _) rfl) rfl
   constructor
   ·rintro-w9 D9;exact az (aP (v:=.int _ _) rfl) rfl
   constructor
   ·rintro-w10 D10;rintro _ rfl _ rfl;exact az (bL jO rfl rfl (by omega)) rfl
   constructor
   ·rintro-w11 D11;rintro _ rfl;exact az (aT (cs:=dT (Y[k]'hkY)) fQ fq rfl (eN (hB.next D11) (hcb k hkY))) rfl
   constructor
   ·rintro-w12 D12;rintro v12_20 rfl v12_24 rfl;refine ia sZ ((u7 (X[k]'hkX) (Y[k]'hkY) _ (wU hp hkX hkY) (hxk.from_ (hB.next D12)) (hyk.from_ (hB.next D12)) hlk).mono ?_);rintro v _ ⟨rfl,E12'⟩;exact ⟨E12',rfl⟩
   constructor
   ·rintro-w13 D13;rintro _ rfl;exact az (cd rfl) rfl
   exact trivial
  case hend=>
   intro w14 D14;rintro _ rfl _ rfl _ rfl v20 rfl _ rfl _ rfl _ rfl v24 rfl _ rfl _ rfl;show St ..;refine ak (ag (xB rfl (fun Q15=>?_) (fun Q15=>?_)))
   ·exfalso;contradiction
   refine aR (bN (ag (ah (mvi rfl (aa (cR (b:=1) rfl rfl (by omega)) (asi rfl (ak ?_)))))));refine cK (k+1) ⟨(by first | rfl | (refine br ?_;omega)),trivial⟩ (by (iterate 35 refine bQ rfl ?_);exact b_) ⟨?_,?_⟩
   ·exact ⟨by omega,(hB.next D14)⟩
   ·omega
 refine bZ (bg (bg (bF (ag (an (ah (asb rfl (ak (ag (aC (bh (v:=.bool _) rfl rfl (⟨rfl,hB⟩))))))))))))
theorem iY:prog.built 99 [(0,.int .i64 (-9))]=some #[.int .i64 (-9),.int .i64 0,.string ⟨#[]⟩]:=by kernel_rfl
theorem oZ:prog.built 99 []=some #[.int .i64 0,.int .i64 0,.string ⟨#[]⟩]:=by kernel_rfl
theorem lB:aY prog 93=true:=by kernel_rfl
theorem gb:aY prog 43=true:=by kernel_rfl
theorem iZ:prog.built 54 [(0,.int .i64 (-9))]=some #[.int .i64 (-9),.int .i64 0,.int .i64 0,.slice none 0 0]:=by kernel_rfl
theorem i_:prog.built 39 [(0,.int .i64 (-9))]=some #[.int .i64 (-9),.int .i64 0,.int .i64 0,.int .i64 0,.int .i64 0,.int .i64 0,.int .i64 0,.int .i64 0,.bool false,.slice none 0 0,.int .i64 0,.string ⟨#[]⟩,.bool false]:=by kernel_rfl
theorem o0:prog.built 39 []=some #[.int .i64 0,.int .i64 0,.int .i64 0,.int .i64 0,.int .i64 0,.int .i64 0,.int .i64 0,.int .i64 0,.bool false,.slice none 0 0,.int .i64 0,.string ⟨#[]⟩,.bool false]:=by kernel_rfl
theorem nI (base:Nat) (A:Option Addr) (c n:Nat) (xs:List Value) (w:World) (ho:w.ownsRow base 99 3 (.slice A n c) n xs) (hb:base≤w.heap.size) (hl:n≤1000000000) :
 Rt prog 93 [.slice A n c] w (fun v w'=>v=.tuple #[]∧w.grownBy w' (A.map (·.block))):=by
 refine enter (n:=17) Tryz.func93 rfl rfl rfl (an (an (ah (asi rfl (ak (ag (bf (cz (G:=Nat×List Value) [3,4,5,6,7,8,9,10,11,12] (fun (k,_)=>[(2,.int .i64 (k:Nat))]) (fun (k,ys) w'=>k≤n∧w'.ownsRow base 99 3 (.slice A n c) n ys∧w.grownBy w' (A.map (·.block))) (fun (k,_)=>n-k) ((0,xs)) ⟨rfl,trivial⟩ ?_ ?_))))))))
 ·exact ⟨Nat.zero_le _,ho,World.grownBy.refl _ _⟩
 rintro ⟨k,ys⟩ ρ1 w1 ⟨hk,ho2,hG⟩;refine an (an (ah (mvi rfl (mvs rfl (aa (bm cT rfl) (aa (bG rfl rfl) (ak (ag (xD rfl (fun Q2=>?_) (fun Q2=>?_))))))))))
 ·obtain ⟨g,rfl⟩:=dP ho2 (by omega);refine aR (ag (an (bf (ah (mvs rfl (mvi rfl (aa (cM (l:=[(0,.const (.int .i64 (-9)))]) (iY)) (aa (iG fC rfl rfl (by omega)) ?_))))))));refine jX (size:=3) (o:=k*3) (vs:=[.int .i64 (-9),.int .i64 0,.string ⟨#[]⟩]) lj (by show Value.pointer (some ⟨g,0+k*3,none⟩)=_;rw [Nat.zero_add]) rfl (by simp [Value.oneCell']) ho2 (by omega) (by show k*3+3≤n*3;omega) ?_;intro w3 O3 P3;refine ak (bN (ag (ah (mvi rfl (aa (bE rfl rfl (by omega)) (asi rfl (ak ?_)))))));refine cK ((k+1,gL ys (k*3) [.int .i64 (-9),.int .i64 0,.string ⟨#[]⟩])) ⟨(by first | rfl | (refine br ?_;omega)),trivial⟩ (by (iterate 22 refine bQ rfl ?_);exact b_) ⟨?_,?_⟩
  ·exact ⟨by omega,P3,dG hG (eu.grown O3)⟩
  ·show n-(k+1)<n-k;omega
 refine bZ (bg (bg (bF (ag (ah (mvs rfl (aa (cM (l:=[]) (oZ)) (kJ (l:=[(0,.tmp 14)]) (cells:=#[.int .i64 0,.int .i64 0,.string ⟨#[]⟩]) gR rfl rfl (by first | rfl | kernel_rfl) ?_))))))));intro bx w4 Ex hbx hkx;refine iC (news:=[.int .i64 0,.int .i64 0,.string ⟨#[]⟩]) gR rfl (by decide) rfl (ho2.kept_from Ex) (Nat.le_trans hb (Nat.le_trans hG.size Ex.size)) rfl rfl (fun _=>⟨bx,0,rfl,hkx.whole⟩) (fun h=>by cases h) (by simp [Value.oneCell']) (by omega) (by omega) ?_;intro Ax cx w5 hox hgx;refine ass rfl (ak (dA (fj rfl (⟨rfl,dG (dG hG (Ex.grown _)) hgx⟩))))
theorem im (base:Nat) (A:Option Addr) (c n:Nat) (xs:List Value) (w:World) (ho:w.ownsRow base 3 1 (.slice A n c) n xs) (hb:base≤w.heap.size) (hl:n≤1000000000) :
 Rt prog 43 [.slice A n c] w (fun v w'=>v=.tuple #[]∧w.grownBy w' (A.map (·.block))):=by
 refine enter (n:=15) Tryz.func43 rfl rfl rfl (an (an (ah (asi rfl (ak (ag (bf (cz (G:=Nat×List Value) [3,4,5,6,7,8,9,10,11] (fun (k,_)=>[(2,.int .i64 (k:Nat))]) (fun (k,ys) w'=>k≤n∧w'.ownsRow base 3 1 (.slice A n c) n ys∧w.grownBy w' (A.map (·.block))) (fun (k,_)=>n-k) ((0,xs)) ⟨rfl,trivial⟩ ?_ ?_))))))))
 ·exact ⟨Nat.zero_le _,ho,World.grownBy.refl _ _⟩
 rintro ⟨k,ys⟩ ρ1 w1 ⟨hk,ho2,hG⟩;refine an (an (ah (mvi rfl (mvs rfl (aa (bm bJ rfl) (aa (bG rfl rfl) (ak (ag (xD rfl (fun Q2=>?_) (fun Q2=>?_))))))))))
 ·obtain ⟨g,rfl⟩:=dP ho2 (by omega);refine aR (ag (an (bf (ah (mvs rfl (mvi rfl (aa (cH bK rfl rfl (by omega)) (jG (i:=k) (v:=.int .i64 (-99)) b0 rfl rfl rfl ho2 (by omega) ?_))))))));intro w3 O3 P3;refine ak (bN (ag (ah (mvi rfl (aa (bE rfl rfl (by omega)) (asi rfl (ak ?_)))))));refine cK ((k+1,ys.set k (.int .i64 (-99)))) ⟨(by first | rfl | (refine br ?_;omega)),trivial⟩ (by (iterate 20 refine bQ rfl ?_);exact b_) ⟨?_,?_⟩
  ·exact ⟨by omega,P3,dG hG (eu.grown O3)⟩
  ·show n-(k+1)<n-k;omega
 refine bZ (bg (bg (bF (ag (ah (mvs rfl (kJ (l:=[(0,.const (.int .i64 5))]) (cells:=#[.int .i64 5]) cD rfl rfl (by first | rfl | kernel_rfl) ?_)))))));intro bx w4 Ex hbx hkx;refine iC (news:=[.int .i64 5]) cD rfl (by decide) rfl (ho2.kept_from Ex) (Nat.le_trans hb (Nat.le_trans hG.size Ex.size)) rfl rfl (fun _=>⟨bx,0,rfl,hkx.whole⟩) (fun h=>by cases h) (by simp [Value.oneCell']) (by omega) (by omega) ?_;intro Ax cx w5 hox hgx;refine ass rfl (ak (dA (fj rfl (⟨rfl,dG (dG hG (Ex.grown _)) hgx⟩))))
def mZ (k:Int):Msg:={ zM with k:=k }
def qZ:Rd×Option Addr×Nat:=(⟨-9,0,0,[]⟩,none,0)
section
variable {α:Type}
def spX (z:α) (X:List α) (k:Nat):List α:=List.replicate k z++X.drop k
theorem iE {z:α} {X:List α} {k:Nat} (h:k≤X.length):(spX z X k).length=X.length:=by simp [spX];omega
theorem td {z:α} {X:List α} {k:Nat} (h:k<X.length):(spX z X k)[k]'(by rw [iE (by omega)];exact h)=X[k]:=by
 simp [spX,List.getElem_append_right]
theorem rS {z:α} {X:List α} {k:Nat} (h:k<X.length):(spX z X k).set k z=spX z X (k+1):=by
 unfold spX;rw [List.set_append_right _ _ (by simp),List.length_replicate,Nat.sub_self,List.drop_eq_getElem_cons h,List.set_cons_zero,List.replicate_succ',List.append_assoc];rfl
end
theorem xo (k:Int):Instr.fill (fun i=>some (i*13,13)) ((Array.range (1*13)).map ((.agg (dT (mZ 0)).toArray:Value).cells[·%(.agg (dT (mZ 0)).toArray:Value).cells.size]!)) [(0,.agg (dT (mZ k)).toArray)]=some (dT (mZ k)).toArray:=by
 first
  |kernel_rfl
  |rfl
def U5 (Z:Nat) (tag:Nat→Nat) (j:Nat):Nat→Prop:=fun q=>q<Z∧tag q<j
def UA (Z:Nat) (tag:Nat→Nat) (k:Nat):Nat→Prop:=fun q=>q<Z∧(tag q≤5∨∃ i,i<k∧tag q=1001+2*i)
def UM (Z:Nat) (tag:Nat→Nat) (k:Nat):Nat→Prop:=fun q=>q<Z∧(tag q=6∨∃ i,i<k∧tag q=1000+2*i)
theorem U5.up {Z j:Nat} {tag:Nat→Nat} {w w':World} (h:Chg (U5 Z tag j) w w'):Chg (U5 Z tag (j+1)) w w':=h.wide fun _ h=>.inl ⟨h.1,Nat.lt_succ_of_lt h.2⟩
theorem UA.up {Z k:Nat} {tag:Nat→Nat} {w w':World} (h:Chg (UA Z tag k) w w'):Chg (UA Z tag (k+1)) w w':=h.wide fun _ h=>.inl ⟨h.1,h.2.imp id fun ⟨i,a,b⟩=>⟨i,Nat.lt_succ_of_lt a,b⟩⟩
theorem UM.up {Z k:Nat} {tag:Nat→Nat} {w w':World} (h:Chg (UM Z tag k) w w'):Chg (UM Z tag (k+1)) w w':=h.wide fun _ h=>.inl ⟨h.1,h.2.imp id fun ⟨i,a,b⟩=>⟨i,Nat.lt_succ_of_lt a,b⟩⟩
theorem ml {w0 w1 w2 w3:World} {tag:Nat→Nat} {d e s n c:Nat} {A:Option Addr} {xs:List Value} (h:w0.ownsRow 0 e s (.slice A n c) n xs∧Col tag d A) (hg:w2.grownBy w3 (A.map (·.block))) (hC:Chg (U5 w0.heap.size tag d) w1 w2):Chg (U5 w0.heap.size tag (d+1)) w1 w3:=
 (U5.up hC).next (Chg.of_grown hg fun q hq=>⟨dD h.1 q hq,by rw [h.2 q hq];exact Nat.lt_succ_self _⟩)
theorem iD (tag:Nat→Nat) (s:Rf) (a:Ra) (w:World) (h:bj w tag s a) (hl:s.votes.length≤1000000∧s.next.length≤1000000∧s.mtch.length≤1000000∧s.sent.length≤1000000∧s.reads.length≤1000000∧∀ q∈s.reads,q.acks.length≤1000000) (hel:s.es.length≤1000000) :
 Rt prog 51 [.agg (rfV s a).toArray] w (fun v w'=>v=.tuple #[]∧Chg (fun q=>StC (tag q)) w w'):=by
 obtain ⟨hl1,hl2,hl3,hl4,hl5,hl6⟩:=id hl;have hLl:a.L.length=s.reads.length:=by rw [←h.r (by decide),List.length_map]
 refine enter (n:=38) Tryz.func51 rfl rfl rfl (an (ah (cU (v:=.agg _) rfl ?_)));intro b1 w1 E1 hb1 hk1;refine ak (ag (an (ah (aa (ae bk rfl) (aa (ae cE rfl) (aa (aq cG rfl (by exact (show _=some (Value.slice a.E s.es.length a.Ec) from (hk1.from_ aj.rfl_).rd 8 rfl))) ?_))))));have hz0:=E1.size;have hB1:aj w w1:=(aj.rfl_.next E1);have hC0:Chg (U5 w.heap.size tag 0) w1 w1:=Chg.rfl_;have hkb0:=hk1.from_ aj.rfl_;have hn1:∀ j,¬ U5 w.heap.size tag j b1:=fun j e=>absurd e.1 (by omega)
 have hnA:∀ j,¬ UA w.heap.size tag j b1:=fun j e=>absurd e.1 (by omega)
 obtain ⟨wb,hwb⟩:∃ x,x=w1:=⟨_,rfl⟩;rw [←hwb] at hB1 hC0 hkb0;have hr0:=dY ((h.e (by decide)).1.kept_from hB1) hC0 (fun k hk e=>absurd e.2 (by rw [(h.e (by decide)).2 k hk];omega));refine aG lB (nI 0 a.E a.Ec s.es.length (dE s.es) _ (by rw [←hwb];exact hr0) (Nat.zero_le _) (by omega)) ?_;rintro v6 w2 ⟨rfl,hg0⟩;rw [←hwb] at hg0;have hC1:=ml (h.e (by decide)) hg0 hC0;have hkb1:=hkb0.chg hC1 (hn1 _);refine ak (ag (an (ah (aa (ae cP rfl) (aa (aq aM rfl (by exact (show _=some (Value.slice a.V s.votes.length a.Vc) from (hkb1.from_ aj.rfl_).rd 14 rfl))) ?_)))));have hM1:aj _ w2:=aj.rfl_;have hr1:=dY ((h.v (by decide)).1.kept_from hB1) (hC1.next hM1.toChg) (fun k hk e=>absurd e.2 (by rw [(h.v (by decide)).2 k hk];omega));refine aG gb (im 0 a.V a.Vc s.votes.length (s.votes.map iV) _ hr1 (Nat.zero_le _) (by omega)) ?_;rintro v9 w3 ⟨rfl,hg1⟩;have hC2:=ml (h.v (by decide)) hg1 (hC1.next hM1.toChg);have hkb2:=hkb0.chg hC2 (hn1 _);refine ak (ag (an (ah (aa (ae bu rfl) (aa (aq aM rfl (by exact (show _=some (Value.slice a.X s.next.length a.Xc) from (hkb2.from_ aj.rfl_).rd 15 rfl))) ?_)))));have hM2:aj _ w3:=aj.rfl_;have hr2:=dY ((h.x (by decide)).1.kept_from hB1) (hC2.next hM2.toChg) (fun k hk e=>absurd e.2 (by rw [(h.x (by decide)).2 k hk];omega));refine aG gb (im 0 a.X a.Xc s.next.length (s.next.map iV) _ hr2 (Nat.zero_le _) (by omega)) ?_;rintro v12 w4 ⟨rfl,hg2⟩;have hC3:=ml (h.x (by decide)) hg2 (hC2.next hM2.toChg);have hkb3:=hkb0.chg hC3 (hn1 _);refine ak (ag (an (ah (aa (ae bM rfl) (aa (aq aM rfl (by exact (show _=some (Value.slice a.M s.mtch.length a.Mc) from (hkb3.from_ aj.rfl_).rd 16 rfl))) ?_)))));have hM3:aj _ w4:=aj.rfl_;have hr3:=dY ((h.m (by decide)).1.kept_from hB1) (hC3.next hM3.toChg) (fun k hk e=>absurd e.2 (by rw [(h.m (by decide)).2 k hk];omega));refine aG gb (im 0 a.M a.Mc s.mtch.length (s.mtch.map iV) _ hr3 (Nat.zero_le _) (by omega)) ?_;rintro v15 w5 ⟨rfl,hg3⟩;have hC4:=ml (h.m (by decide)) hg3 (hC3.next hM3.toChg);have hkb4:=hkb0.chg hC4 (hn1 _);refine ak (ag (an (ah (aa (ae bW rfl) (aa (aq aM rfl (by exact (show _=some (Value.slice a.S s.sent.length a.Sc) from (hkb4.from_ aj.rfl_).rd 17 rfl))) ?_)))));have hM4:aj _ w5:=aj.rfl_;have hr4:=dY ((h.n (by decide)).1.kept_from hB1) (hC4.next hM4.toChg) (fun k hk e=>absurd e.2 (by rw [(h.n (by decide)).2 k hk];omega));refine aG gb (im 0 a.S a.Sc s.sent.length (s.sent.map iV) _ hr4 (Nat.zero_le _) (by omega)) ?_;rintro v18 w6 ⟨rfl,hg4⟩;have hC5:=ml (h.n (by decide)) hg4 (hC4.next hM4.toChg);have hkb5:=hkb0.chg hC5 (hn1 _);refine ak (ag (an (ah (asi rfl (ak (ag (bf (cz (G:=Nat) [19,20,21,22,23,24,25,26,27,28,29,30,31,32,33,34,35,36,37] (fun k=>[(2,.int .i64 (k:Nat))]) (fun k w'=>k≤a.L.length∧w'.ownsRow 0 54 4 (.slice a.Q a.L.length a.Qc) a.L.length ((spX qZ a.L k).flatMap rdV)∧Chg (UA w.heap.size tag k) wb w') (fun k=>a.L.length-k) (0) ⟨rfl,trivial⟩ ?_ ?_))))))))
 ·exact ⟨Nat.zero_le _,dY ((h.q (by decide)).1.kept_from hB1) (hC5.next (aj.rfl_:aj _ w6).toChg) (fun k hk e=>absurd e.2 (by rw [(h.q (by decide)).2 k hk];omega)),(hC5.next (aj.rfl_:aj _ w6).toChg).wide fun q e=>.inl ⟨e.1,.inl (by have:=e.2;omega)⟩⟩
 rintro k ρ7 w7 ⟨hk,hoQ,hCk⟩;refine an (an (ah (mvi rfl (aa (ae bd rfl) (aa (aq bn rfl (by exact (show _=some (Value.slice a.Q a.L.length a.Qc) from ((hkb0.chg hCk (hnA _)).from_ aj.rfl_).rd 19 rfl))) ?_)))));refine aa (bm bI rfl) (aa (bG rfl rfl) (ak (ag (xD rfl (fun Q8=>?_) (fun Q8=>?_)))))
 ·have hkL:k<a.L.length:=by omega
  have hqk:a.L[k].1∈s.reads:=by rw [←h.r (by decide)];exact List.mem_map_of_mem (List.getElem_mem hkL)
  obtain ⟨gq,hgq⟩:∃ g,a.Q=some ⟨g,0,none⟩:=dP hoQ (by omega);have hcq:∀ q,a.Q.map (·.block)=some q→tag q=5:=fun q hq=>(h.q (by decide)).2 q hq
  have hlq:=dD (h.q (by decide)).1;rw [hgq] at hoQ hcq hlq;have hkq:Blk w7 b1 29 (rfV s { a with Q:=some ⟨gq,0,none⟩ }).toArray:=by rw [←hgq];exact (hkb0.chg hCk (hnA _)).from_ aj.rfl_
  obtain ⟨bx,ox,hAx,hcx⟩:=(f_.own h_ (by decide) hoQ).2 (by rw [iE (by omega)];omega);cases hAx;have hvx:=hcx k (by rw [iE (by omega)];exact hkL);rw [td hkL] at hvx;have hc31:(w7).cell? ⟨gq,0+k*4+3,none⟩=some (.slice a.L[k].2.1 a.L[k].1.acks.length a.L[k].2.2):=dF aj.rfl_ (hvx 3 _ rfl);refine aR (ag (an (bf (an (ah (aa (ae bd rfl) (aa (aq bn rfl (by exact (show _=some (Value.slice (some ⟨gq,0,none⟩) a.L.length a.Qc) from (hkq.from_ aj.rfl_).rd 19 rfl))) ?_)))))));refine mvi rfl (aa (bL dC rfl rfl (by omega)) (aa (ae c_ rfl) (aa (aq aM rfl (by exact dF aj.rfl_ hc31)) ?_)));have hM32:aj _ w7:=aj.rfl_;have hrk:=dY ((h.k k hkL (by omega)).1.kept_from hB1) (hCk.next hM32.toChg) (fun q hq e=>by rcases e.2 with e2 | ⟨i,hi,e2⟩ <;> rw [(h.k k hkL (by omega)).2 q hq] at e2 <;> omega);refine aG gb (im 0 a.L[k].2.1 a.L[k].2.2 a.L[k].1.acks.length (a.L[k].1.acks.map iV) _ hrk (Nat.zero_le _) (by have:=hl.2.2.2.2.2 _ hqk;omega)) ?_;rintro v32 w9 ⟨rfl,hg32⟩;have hC9:Chg (UA w.heap.size tag (k+1)) wb w9:=(UA.up (hCk.next hM32.toChg)).next (Chg.of_grown hg32 fun q hq=>⟨dD (h.k k hkL (by omega)).1 q hq,.inr ⟨k,Nat.lt_succ_self _,(h.k k hkL (by omega)).2 q hq⟩⟩);have hoQ9:=dY (hoQ.kept_from hM32) (Chg.of_grown (U:=fun q=>tag q=1001+2*k) hg32 fun q hq=>(h.k k hkL (by omega)).2 q hq) (fun q hq e=>by have:=hcq q hq;omega);refine ak (ag (ah (aa (ae bd rfl) ?_)));refine aa (aq bn rfl (by exact (show _=some (Value.slice (some ⟨gq,0,none⟩) a.L.length a.Qc) from by rw [←hgq];exact ((hkb0.chg hC9 (hnA _)).from_ aj.rfl_).rd 19 rfl))) ?_;refine mvi rfl (aa (cM (l:=[(0,.const (.int .i64 (-9)))]) (iZ)) (aa (bL dC rfl rfl (by omega)) ?_));have hM10:aj _ w9:=aj.rfl_;have hoQ8:=hoQ9.kept_from hM10;obtain ⟨g',cur,hgA,_,hbk,_⟩:=lU hoQ8 (by omega);cases hgA;refine jX (size:=4) (o:=k*4) (vs:=rdV qZ) cN (by show Value.pointer (some ⟨gq,0+k*4,none⟩)=_;rw [Nat.zero_add]) rfl (by simp [rdV,qZ,Value.oneCell']) hoQ8 (by omega) (by show k*4+4≤a.L.length*4;omega) ?_;intro w10 O10 P10;rw [nQ h_ _ k (by rw [iE (by omega)];exact hkL),rS hkL] at P10;have hC10:Chg (UA w.heap.size tag (k+1)) wb w10:=(hC9.next hM10.toChg).next (O10.toChg ⟨hlq gq rfl,.inl (by have:=hcq gq rfl;omega)⟩);rw [←hgq] at P10;refine ak (bN (ag (ah (mvi rfl (aa (bE rfl rfl (by omega)) (asi rfl (ak ?_)))))));refine cK (k+1) ⟨(by first | rfl | (refine br ?_;omega)),trivial⟩ (by (iterate 40 refine bQ rfl ?_);exact b_) ⟨?_,?_⟩
  ·exact ⟨by omega,P10.kept_from aj.rfl_,(hC10.next (aj.rfl_:aj _ w10).toChg)⟩
  ·omega
 refine bZ (bg (bg (bF (dA (fj rfl (⟨rfl,(hB1.toChg.next ((hCk.next (aj.rfl_:aj _ w7).toChg).wide fun q e=>.inl ?_))⟩))))));rcases e.2 with e2 | ⟨i,_,e2⟩
 ·exact .inl e2
 ·exact .inr ⟨i,e2⟩
theorem ki (tag:Nat→Nat) (out:List Msg) (A:Option Addr) (c:Nat) (L:List Msg) (w:World) (h:eb w tag out A c L) (hl:L.length≤100000) (hle:∀ x∈L,x.es.length≤1000000) :
 Rt prog 52 [.slice A L.length c] w (fun v w'=>v=.tuple #[]∧Chg (fun q=>tag q=6∨∃ i,tag q=1000+2*i) w w'):=by
 refine enter (n:=23) Tryz.func52 rfl rfl rfl (an (an (ah (asi rfl (ak (ag (bf (cz (G:=Nat) [3,4,5,6,7,8,9,10,11,12,13,14,15,16,17,18] (fun k=>[(2,.int .i64 (k:Nat))]) (fun k w'=>k≤L.length∧w'.ownsRow 0 39 13 (.slice A L.length c) L.length ((spX (mZ (-9)) L k).flatMap dT)∧Chg (UM w.heap.size tag k) w w') (fun k=>L.length-k) (0) ⟨rfl,trivial⟩ ?_ ?_))))))))
 ·exact ⟨Nat.zero_le _,h.o.kept_from aj.rfl_,(aj.rfl_:aj _ w).toChg⟩
 rintro k ρ1 w1 ⟨hk,hoQ,hCk⟩;refine an (an (ah (mvi rfl (mvs rfl (aa (bm jN rfl) (aa (bG rfl rfl) (ak (ag (xD rfl (fun Q2=>?_) (fun Q2=>?_))))))))))
 ·have hkX:k<L.length:=by omega
  obtain ⟨g,hgq⟩:∃ g,A=some ⟨g,0,none⟩:=dP hoQ (by omega);subst hgq;have hcq:∀ q,(some (⟨g,0,none⟩:Addr)).map (·.block)=some q→tag q=6:=fun q hq=>h.c q hq
  have hlq:=dD h.o;have hEk:=hle _ (List.getElem_mem hkX);obtain ⟨bx,ox,hAx,hcx⟩:=(f_.own lV (by decide) hoQ).2 (by rw [iE (by omega)];omega);cases hAx;have hvx:=hcx k (by rw [iE (by omega)];exact hkX);rw [td hkX] at hvx;refine aR (ag (an (bf (an (ah (mvs rfl (mvi rfl (aa (bL jO rfl rfl (by omega)) (aa (ae gg rfl) (aa (aq cG rfl (by exact dF aj.rfl_ (hvx 9 _ rfl))) ?_))))))))));have hM14:aj _ w1:=aj.rfl_;have hrk:=dY (h.e k hkX).1 (hCk.next hM14.toChg) (fun q hq e=>by rcases e.2 with e2 | ⟨i,hi,e2⟩ <;> rw [(h.e k hkX).2 q hq] at e2 <;> omega);refine aG lB (nI 0 L[k].E L[k].c L[k].es.length (dE L[k].es) _ hrk (Nat.zero_le _) (by omega)) ?_;rintro v14 w3 ⟨rfl,hg14⟩;have hC9:Chg (UM w.heap.size tag (k+1)) w w3:=(UM.up (hCk.next hM14.toChg)).next (Chg.of_grown hg14 fun q hq=>⟨dD (h.e k hkX).1 q hq,.inr ⟨k,Nat.lt_succ_self _,(h.e k hkX).2 q hq⟩⟩);have hoQ9:=dY (hoQ.kept_from hM14) (Chg.of_grown (U:=fun q=>tag q=1000+2*k) hg14 fun q hq=>(h.e k hkX).2 q hq) (fun q hq e=>by have:=hcq q hq;omega);refine ak (ag (ah (mvs rfl (mvi rfl (aa (cM (l:=[(0,.const (.int .i64 (-9)))]) (i_)) (aa (bL jO rfl rfl (by omega)) ?_))))));have hM10:aj _ w3:=aj.rfl_;have hoQ8:=hoQ9.kept_from hM10;obtain ⟨g',cur,hgA,_,hbk,_⟩:=lU hoQ8 (by omega);cases hgA;refine jX (size:=13) (o:=k*13) (vs:=dT (mZ (-9))) fq (by show Value.pointer (some ⟨g,0+k*13,none⟩)=_;rw [Nat.zero_add]) rfl (by simp [dT,mZ,zM,Value.oneCell']) hoQ8 (by omega) (by show k*13+13≤L.length*13;omega) ?_;intro w4 O10 P10;rw [nQ lV _ k (by rw [iE (by omega)];exact hkX),rS hkX] at P10;have hC10:Chg (UM w.heap.size tag (k+1)) w w4:=(hC9.next hM10.toChg).next (O10.toChg ⟨hlq g rfl,.inl (by have:=hcq g rfl;omega)⟩);refine ak (bN (ag (ah (mvi rfl (aa (bE rfl rfl (by omega)) (asi rfl (ak ?_)))))));refine cK (k+1) ⟨(by first | rfl | (refine br ?_;omega)),trivial⟩ (by (iterate 34 refine bQ rfl ?_);exact b_) ⟨?_,?_⟩
  ·exact ⟨by omega,P10.kept_from aj.rfl_,hC10.next (aj.rfl_:aj _ w4).toChg⟩
  ·omega
 refine bZ (bg (bg (bF (ag (ah (mvs rfl (aa (cM (l:=[]) (o0)) ?_)))))));have hM21:aj _ w1:=aj.rfl_;refine kJ (l:=[(0,.tmp 20)]) (cells:=(dT (mZ 0)).toArray) fP rfl rfl (xo 0) ?_;intro b21 w5 E21 hb21 hk21;have hM22:aj _ w5:=(hM21.next E21);have ho9:=hoQ.kept_from hM22;refine iC (base:=0) (news:=dT (mZ 0)) fP rfl (by decide) rfl ho9 (Nat.zero_le _) rfl rfl (fun _=>⟨b21,0,rfl,hk21.whole⟩) (fun h=>by cases h) (by simp [dT,mZ,zM,Value.oneCell']) (by omega) (by omega) ?_;intro A22 c22 w6 ho22 hg22;have hC22:Chg (UM w.heap.size tag L.length) w w6:=((hCk.wide fun q e=>.inl ⟨e.1,e.2.imp id fun ⟨i,a,b⟩=>⟨i,by omega,b⟩⟩).next hM22.toChg).next (Chg.of_grown hg22 fun q hq=>⟨dD h.o q hq,.inl (h.c q hq)⟩);refine ass rfl (ak (dA (fj rfl (⟨rfl,(hC22.next (aj.rfl_:aj _ w6).toChg).wide fun q e=>.inl (e.2.imp id fun ⟨i,_,b⟩=>⟨i,b⟩)⟩))))
end Go.Proofs.YtkpooenofjdpmaaGreat
namespace Go.Proofs.YtkpooenofjdpmaaGreat
open Go.Proofs.Tryz (prog)
open Go.RowKit
abbrev sq:Ty:=.pr (.int .i64) (.pr (.int .i64) (.pr .str .unit))
theorem sa {w:World} {c:Nat→Option Value} {xs:List sq.den} (h:(Ty.sl sq).At w c xs) :
 ∃ (v:Value) (es:List Ent),c 0=some v∧ct w v es∧(∀ e∈es,e.Ok)∧es.length*32≤140737488351232:=by
 obtain ⟨A,cap,h0,h1,h2,h3⟩:=h;refine ⟨_,xs.map fun x=>⟨x.1,x.2.1,x.2.2.1⟩,h0,⟨A,cap,by rw [List.length_map],by rw [List.length_map];exact h2.1,h2.2.1,h2.2.2,fun hp=>?_⟩,?_,by rw [List.length_map];exact h1⟩
 ·rw [List.length_map] at hp;obtain ⟨b,o,hA,hb,hi⟩:=h3 hp;refine ⟨b,o,hA,hb,fun i hil=>?_⟩;rw [List.length_map] at hil;obtain ⟨⟨c1,_⟩,⟨c2,_⟩,⟨c3,_⟩,_⟩:=hi i _ (List.getElem?_eq_getElem hil);rw [List.getElem_map];exact ⟨c1,c2,c3⟩
 ·intro e he;simp only [List.mem_map] at he;obtain ⟨x,hx,rfl⟩:=he;obtain ⟨i,hil,rfl⟩:=List.mem_iff_getElem.1 hx;obtain ⟨b,o,hA,hb,hi⟩:=h3 (Nat.lt_of_le_of_lt (Nat.zero_le _) hil);obtain ⟨⟨_,c1⟩,⟨_,c2⟩,⟨_,c3⟩,_⟩:=hi i _ (List.getElem?_eq_getElem hil);have b1:=bounds_i64 c1;have b2:=bounds_i64 c2;exact ⟨b1.1,b1.2,b2.1,b2.2,c3⟩
end Go.Proofs.YtkpooenofjdpmaaGreat
namespace Go.Proofs.YtkpooenofjdpmaaGreat
open Go.Proofs.Tryz (prog)
open Go.RowKit
open Go.ChangeShapes Go.WideShapes Go.ChangeAt
theorem qq:cr prog 99 2=some 2:=by kernel_rfl
theorem qp:(prog.underlying 3).isSome=true:=by kernel_rfl
theorem nt:prog.underlying 108=some (.int .u64):=by kernel_rfl
theorem rK:(prog.underlying 108).isSome=true:=by kernel_rfl
theorem uA:prog.underlying 3=some (.int .i64):=by kernel_rfl
theorem ou:aY prog 25=true:=by kernel_rfl
abbrev xL:Ty:=.pr (.int .i64) (.pr (.int .i64) (.pr (.int .i64) (.pr (.int .i64) (.pr (.int .i64) (.pr (.int .i64) (.pr (.int .i64) (.pr (.int .i64) (.pr .bool (.pr (.sl sq) (.pr (.int .i64) (.pr .str (.pr .bool .unit))))))))))))
abbrev rv:Ty:=.pr (.int .i64) (.pr xL (.pr .bool (.pr .str (.pr (.int .i64) .unit))))
abbrev tw:Ty:=.pr (.int .i64) (.pr (.int .i64) (.pr (.int .i64) (.pr (.sl (.int .i64)) .unit)))
abbrev xQ:Ty:=.pr (.int .i64) (.pr (.int .i64) (.pr (.sl sq) .unit))
abbrev mE:Ty:=.pr (.int .i64) (.pr (.int .i64) (.pr (.int .i64) (.pr (.int .i64) (.pr (.int .i64) (.pr (.int .i64) (.pr xQ (.pr .str (.pr (.int .i64) (.pr (.int .i64) (.pr (.int .i64) (.pr (.int .u64) (.pr (.sl (.int .i64)) (.pr (.sl (.int .i64)) (.pr (.sl (.int .i64)) (.pr (.sl (.int .i64)) (.pr (.int .i64) (.pr (.sl tw) (.pr .str (.pr (.int .i64) .unit)))))))))))))))))))
structure Ac where
 dx:Int
 m:Msg
 fit:Bool
 d:ByteArray
 i:Int
def acV (x:Ac):List Value:=.int .i64 x.dx::(dT x.m++[.bool x.fit,.string x.d,.int .i64 x.i])
theorem sg {α:Type} {f:α→List Value} {t:Ty} {w:World} {P:α→Prop} (hg:∀ (c:Nat→Option Value) (x:t.den),t.At w c x→∃ y:α,(∀ j v,(f y)[j]? =some v→c j=some v)∧P y) {c:Nat→Option Value} {xs:List t.den} (h:(Ty.sl t).At w c xs) :
 ∃ (A:Option Addr) (cap:Nat) (L:List α),c 0=some (.slice A L.length cap)∧f_ t.size f w A L∧(∀ y∈L,P y)∧L.length*t.bytes≤140737488351232∧L.length≤cap∧cap≤9223372036854775807∧(A=none→L.length=0∧cap=0):=by
 obtain ⟨A,cap,h0,h1,h2,h3⟩:=h
 have hno:A=none→xs.length=0:=fun e=>by
  rcases Nat.eq_zero_or_pos xs.length with hz | hz
  ·exact hz
  ·obtain ⟨b,o,hA,_⟩:=h3 hz;rw [e] at hA;cases hA
 rcases Nat.eq_zero_or_pos xs.length with hz | hz
 ·refine ⟨A,cap,[],by rw [h0];rw [hz];rfl,fun h=>absurd h (Nat.lt_irrefl _),fun y hy=>(by cases hy),(by rw [List.length_nil,Nat.zero_mul];exact Nat.zero_le _),Nat.zero_le _,h2.2.1,fun e=>⟨rfl,h2.2.2 e⟩⟩
 ·obtain ⟨b,o,hA,hb,hi⟩:=h3 hz;have g:∀ i:Fin xs.length,∃ y:α,(∀ j v,(f y)[j]? =some v→w.cell? ⟨b,o+i*t.size+j,none⟩=some v)∧P y:=fun i=>hg _ _ (hi i.1 xs[i.1] (List.getElem?_eq_getElem i.2))
  refine ⟨A,cap,List.ofFn fun i=>Classical.choose (g i),by rw [List.length_ofFn];exact h0,fun _=>⟨b,o,hA,fun i hil=>?_⟩,fun y hy=>?_,by rw [List.length_ofFn];exact h1,by rw [List.length_ofFn];exact h2.1,h2.2.1,fun e=>⟨by rw [List.length_ofFn];exact hno e,h2.2.2 e⟩⟩
  ·rw [List.length_ofFn] at hil;intro j v hv;rw [List.getElem_ofFn] at hv;exact (Classical.choose_spec (g ⟨i,hil⟩)).1 j v hv
  ·obtain ⟨i,hil,rfl⟩:=List.getElem_of_mem hy;rw [List.length_ofFn] at hil;rw [List.getElem_ofFn];exact (Classical.choose_spec (g ⟨i,hil⟩)).2
theorem p8 {w:World} {c:Nat→Option Value} {xs:List Int} (h:(Ty.sl (.int .i64)).At w c xs):∃ (A:Option Addr) (cap:Nat),c 0=some (.slice A xs.length cap)∧IR w A cap xs∧xs.length*8≤140737488351232:=by
 have h':=h;obtain ⟨A0,c0,g0,g1,g2,g3⟩:=h';obtain ⟨A,cap,h0,hr,_,hb,hc⟩:=vn h;rw [g0] at h0;cases h0;refine ⟨A0,c0,g0,⟨(dI.of_row hr).2,hc.1,hc.2,fun e=>⟨?_,g2.2.2 e⟩⟩,hb⟩;rcases Nat.eq_zero_or_pos xs.length with hz | hz
 ·exact hz
 ·obtain ⟨b,o,hA,_⟩:=g3 hz;rw [e] at hA;cases hA
def xX (w:World) (q:Rd×Option Addr×Nat):Prop:=IR w q.2.1 q.2.2 q.1.acks∧q.1.acks.length*8≤140737488351232
theorem vk {w:World} (c:Nat→Option Value) (x:tw.den) (h:tw.At w c x):∃ q:Rd×Option Addr×Nat,(∀ j v,(rdV q)[j]? =some v→c j=some v)∧xX w q:=by
 obtain ⟨x0,x1,x2,xl,_⟩:=x;obtain ⟨g0,g1,g2,gl,_⟩:=h;obtain ⟨A,cap,e0,e1,e2⟩:=p8 gl;refine ⟨(⟨x0,x1,x2,xl⟩,A,cap),fun j v hv=>?_,e1,e2⟩
 match j,hv with
 |0,hv=>cases hv;exact g0.1
 |1,hv=>cases hv;exact g1.1
 |2,hv=>cases hv;exact g2.1
 |3,hv=>cases hv;exact e0
 |j+4,hv=>simp [rdV] at hv
def uE (w:World) (x:Ac):Prop:=ct w (.slice x.m.E x.m.es.length x.m.c) x.m.es∧(∀ e∈x.m.es,e.Ok)∧x.m.es.length*32≤140737488351232∧x.m.d.size≤140737488351232∧x.d.size≤140737488351232
theorem uE.from_ {w w':World} {x:Ac} (h:uE w x) (hF:aj w w'):uE w' x:=⟨h.1.from_ hF,h.2⟩
theorem wu {w:World} (c:Nat→Option Value) (x:rv.den) (h:rv.At w c x):∃ X:Ac,(∀ j v,(acV X)[j]? =some v→c j=some v)∧uE w X:=by
 obtain ⟨x0,⟨xk,xf,xt,xtm,xix,xlt,xcm,xrd,xok,xE,xa,xd,xdn,_⟩,xb,xs,xi,_⟩:=x;obtain ⟨g0,⟨g1,g2,g3,g4,g5,g6,g7,g8,g9,gE,g11,g12,g13,_⟩,g14,g15,g16,_⟩:=h;obtain ⟨v,es,e0,e1,e2,e3⟩:=sa gE;have e1':=e1;obtain ⟨E,c9,rfl,_⟩:=e1';refine ⟨⟨x0,{ zM with k:=xk,f:=xf,t:=xt,tm:=xtm,ix:=xix,lt:=xlt,cm:=xcm,rd:=xrd,ok:=xok,a:=xa,d:=xd,dn:=xdn,E:=E,c:=c9,es:=es },xb,xs,xi⟩,fun j v hv=>?_,e1,e2,e3,g12.2,g15.2⟩
 match j,hv with
 |0,hv=>cases hv;exact g0.1
 |1,hv=>cases hv;exact g1.1
 |2,hv=>cases hv;exact g2.1
 |3,hv=>cases hv;exact g3.1
 |4,hv=>cases hv;exact g4.1
 |5,hv=>cases hv;exact g5.1
 |6,hv=>cases hv;exact g6.1
 |7,hv=>cases hv;exact g7.1
 |8,hv=>cases hv;exact g8.1
 |9,hv=>cases hv;exact g9
 |10,hv=>cases hv;exact e0
 |11,hv=>cases hv;exact g11.1
 |12,hv=>cases hv;exact g12.1
 |13,hv=>cases hv;exact g13
 |14,hv=>cases hv;exact g14
 |15,hv=>cases hv;exact g15.1
 |16,hv=>cases hv;exact g16.1
 |j+17,hv=>simp [acV,dT] at hv
structure xI (s:Rf) (a:Ra):Prop where
 sn:s.snap.size≤140737488351232
 pa:s.part.size≤140737488351232
 es:s.es.length*32≤140737488351232
 eo:∀ e∈s.es,e.Ok
 v:s.votes.length*8≤140737488351232
 x:s.next.length*8≤140737488351232
 m:s.mtch.length*8≤140737488351232
 n:s.sent.length*8≤140737488351232
 q:a.L.length*48≤140737488351232
 k:∀ q∈a.L,q.1.acks.length*8≤140737488351232
theorem vm {w:World} {c:Nat→Option Value} {x:mE.den} (h:mE.At w c x):∃ (s:Rf) (a:Ra),(∀ j v,(rfV s a)[j]? =some v→c j=some v)∧fi w s a∧xI s a:=by
 obtain ⟨x0,x1,x2,x3,x4,x5,⟨xb,xt,xe,_⟩,xsn,xco,xel,xti,xse,xv,xx,xm,xn,xro,xq,xpa,xpo,_⟩:=x;obtain ⟨g0,g1,g2,g3,g4,g5,⟨g6,g7,g8,_⟩,g9,g10,g11,g12,g13,g14,g15,g16,g17,g18,g19,g20,g21,_⟩:=h;obtain ⟨v,es,e0,e1,e2,e3⟩:=sa g8;have e1':=e1;obtain ⟨E,Ec,rfl,_⟩:=e1';obtain ⟨V,Vc,v0,v1,v2⟩:=p8 g14;obtain ⟨X,Xc,y0,y1,y2⟩:=p8 g15;obtain ⟨M,Mc,m0,m1,m2⟩:=p8 g16;obtain ⟨N,Nc,n0,n1,n2⟩:=p8 g17;obtain ⟨Q,Qc,L,q0,q1,q2,q3,q4,q5,q6⟩:=sg (f:=rdV) vk g19;refine ⟨{ id:=x0,nodes:=x1,role:=x2,term:=x3,vote:=x4,leader:=x5,b:=xb,t:=xt,es:=es,snap:=xsn,commit:=xco,elapsed:=xel,timeout:=xti,seed:=xse,votes:=xv,next:=xx,mtch:=xm,sent:=xn,round:=xro,reads:=L.map (fun q=>q.1),part:=xpa,partOf:=xpo },⟨E,Ec,V,Vc,X,Xc,M,Mc,N,Nc,Q,Qc,L⟩,fun j v hv=>?_,⟨e1,v1,y1,m1,n1,rfl,q1,⟨q4,q5,q6⟩,fun q hq=>(q2 q hq).1⟩,⟨g9.2,g20.2,e3,e2,v2,y2,m2,n2,q3,fun q hq=>(q2 q hq).2⟩⟩
 match j,hv with
 |0,hv=>cases hv;exact g0.1
 |1,hv=>cases hv;exact g1.1
 |2,hv=>cases hv;exact g2.1
 |3,hv=>cases hv;exact g3.1
 |4,hv=>cases hv;exact g4.1
 |5,hv=>cases hv;exact g5.1
 |6,hv=>cases hv;exact g6.1
 |7,hv=>cases hv;exact g7.1
 |8,hv=>cases hv;exact e0
 |9,hv=>cases hv;exact g9.1
 |10,hv=>cases hv;exact g10.1
 |11,hv=>cases hv;exact g11.1
 |12,hv=>cases hv;exact g12.1
 |13,hv=>cases hv;exact g13.1
 |14,hv=>cases hv;exact v0
 |15,hv=>cases hv;exact y0
 |16,hv=>cases hv;exact m0
 |17,hv=>cases hv;exact n0
 |18,hv=>cases hv;exact g18.1
 |19,hv=>cases hv;exact q0
 |20,hv=>cases hv;exact g20.1
 |21,hv=>cases hv;exact g21.1
 |j+22,hv=>simp [rfV] at hv
structure rA (w:World) (s:Rf) (a:Ra) (LA:Option Addr) (X:List Ac):Prop where
 r:fi w s a
 z:xI s a
 x:f_ 17 acV w LA X
 o:∀ y∈X,uE w y
 n:X.length*147≤140737488351232
theorem rA.from_ {w w':World} {s:Rf} {a:Ra} {LA:Option Addr} {X:List Ac} (h:rA w s a LA X) (hF:aj w w'):rA w' s a LA X:=⟨h.r.from_ hF,h.z,h.x.from_ hF,fun y hy=>(h.o y hy).from_ hF,h.n⟩
def scV (s:Rf) (a:Ra) (LA:Option Addr) (n lc:Nat):List Value:=rfV s a++[.slice LA n lc]
theorem xV {cs:Array Value} {l:List Value} (hs:cs.size=l.length) (h:∀ (j:Nat) (v:Value),l[j]? =some v→cs[j]? =some v):cs=l.toArray:=by
 apply Array.ext_getElem?;intro i;rcases Nat.lt_or_ge i l.length with hi | hi
 ·rw [h i _ (List.getElem?_eq_getElem hi)];simp [hi]
 ·rw [Array.getElem?_eq_none (by omega)];simp [hi]
theorem sU {w:World} {cs:Array Value} {x:(Ty.pr mE (.pr (.sl rv) .unit)).den} (hs:cs.size=23) (h:(Ty.pr mE (.pr (.sl rv) .unit)).At w (fun j=>cs[j]?) x):∃ s a LA lc X,cs=(scV s a LA (List.length X) lc).toArray∧rA w s a LA X:=by
 obtain ⟨h1,h2,_⟩:=h;obtain ⟨s,a,hc,hr,hz⟩:=vm h1;obtain ⟨LA,lc,X,q0,q1,q2,q3,q4,q5,q6⟩:=sg (f:=acV) wu h2;refine ⟨s,a,LA,lc,X,xV hs fun j v hv=>?_,⟨hr,hz,q1,q2,q3⟩⟩;unfold scV at hv;rcases Nat.lt_or_ge j 22 with hj | hj
 ·rw [List.getElem?_append_left (show j<(rfV s a).length from hj)] at hv;exact hc j v hv
 ·rw [List.getElem?_append_right (show (rfV s a).length≤j from hj)] at hv
  obtain rfl:j=22:=by
   have:=(List.getElem?_eq_some_iff.1 hv).1;rw [ko] at this;simp at this;omega
  simp [ko] at hv;subst hv;exact q0
def Small (s:Rf) (X:List Ac):Prop:=(s.votes.length≤20000∧s.next.length≤20000∧s.mtch.length≤20000∧s.sent.length≤20000∧s.reads.length≤20000∧∀ q∈s.reads,q.acks.length≤20000)∧s.es.length≤600∧X.length≤100∧(s.snap.size≤20000∧s.part.size≤20000)∧∀ y∈X,y.m.es.length≤200∧y.m.d.size≤20000∧y.d.size≤20000
theorem ue {w:World} {A:Option Addr} {n c:Nat} {es:List Ent} (h:ct w (.slice A n c) es) (hs:∀ e∈es,e.Ok) (h0:0<n):∃ b o,A=some ⟨b,o,none⟩∧∀ j,j<n→∃ s:ByteArray,w.cell? ⟨b,o+j*3+2,none⟩=some (.string s)∧s.size≤140737488351232:=by
 obtain ⟨A',c',hv,_,_,_,hp⟩:=h;simp only [Value.slice.injEq] at hv;obtain ⟨rfl,rfl,rfl⟩:=hv;obtain ⟨b,o,hA,_,hc⟩:=hp h0;exact ⟨b,o,hA,fun j hj=>⟨es[j].d,(hc j hj).2.2,(hs _ (List.getElem_mem hj)).2.2.2.2⟩⟩
theorem kt (A:Option Addr) (c n:Nat) (es:List Ent) (w:World) (he:ct w (.slice A n c) es) (ho:∀ e∈es,e.Ok) (hl:n≤140737488351232) :
 Rt prog 25 [.slice A n c] w (fun v w'=>(∃ m:Nat,v=.int .i64 (m:Nat)∧n≤m∧m≤562949953421312)∧w=w'):=by
 refine enter (n:=26) Tryz.func25 rfl rfl rfl (an (ah (asi rfl (ak (ag (an (ah (mvs rfl (aa (bm cT rfl) (asi rfl (ak (ag (an (an (ah (asi rfl ?_))))))))))))))));refine ak (ag (bf (cz (G:=Nat×Nat) [7,8,9,10,11,12,13,14,15,16,17,18,19,20,21,22,23,24] (fun (m,k)=>[(3,.int .i64 (m:Nat)),(4,.int .i64 (k:Nat))]) (fun (m,k) w'=>k≤n∧n≤m∧m≤562949953421312∧w=w') (fun (_,k)=>n-k) ((n,0)) ⟨rfl,rfl,trivial⟩ ?_ ?_)))
 ·exact ⟨Nat.zero_le _,Nat.le_refl _,by omega,rfl⟩
 rintro ⟨m,k⟩ ρ1 w1 ⟨hk,hnm,hm,rfl⟩;refine an (an (ah (mvi rfl (mvs rfl (aa (bm cT rfl) (aa (bG rfl rfl) (mvb rfl (wK (t:=11) rfl (fun Q2=>?_) (fun Q2=>?_)))))))))
 ·refine af rfl (mvi rfl (af rfl (aa (bG rfl rfl) (aa (ao (v:=.bool _) rfl rfl) (ak (ag (xD rfl (fun Q3=>?_) (fun Q3=>?_))))))))
  ·obtain ⟨ba,oa,hA,hcs⟩:=ue he ho (by omega);subst hA;obtain ⟨s,hs1,hs2⟩:=hcs k (by omega);refine aR (ag (an (bf (ah (mvi rfl (mvs rfl (mvi rfl (aa (bL fC rfl rfl (by omega)) (aa (ae qq rfl) (aa (aq bD rfl (by exact hs1)) ?_))))))))));refine aa (df (by kernel_rfl) rfl) (aa (cR rfl rfl (by omega)) (asi rfl (ak (bN (ag (ah (mvi rfl (aa (cR (b:=1) rfl rfl (by omega)) (asi rfl (ak ?_))))))))));refine cK ((m+s.size,k+1)) ⟨(by first | rfl | (refine br ?_;omega)),(by first | rfl | (refine br ?_;omega)),trivial⟩ (by (iterate 41 refine bQ rfl ?_);exact b_) ⟨?_,?_⟩
   ·exact ⟨by omega,by omega,by omega,rfl⟩
   ·show n-(k+1)<n-k;omega
  refine bZ (bg (bg (bF (ag (an (ah (mvi rfl (asi rfl (ak (ag (aC (bh (v:=.int _ _) rfl rfl (⟨⟨_,rfl,hnm,hm⟩,rfl⟩)))))))))))))
 refine ab rfl rfl (ab rfl rfl (aa (av (v:=.bool _) rfl rfl) (ak (ag (ck rfl (bZ (bg (bg (bF (ag (an (ah (mvi rfl (asi rfl ?_))))))))))))));refine ak (ag (aC (bh (v:=.int _ _) rfl rfl (⟨⟨_,rfl,hnm,hm⟩,rfl⟩))))
def wiN (i:Int) (n:Nat):Nat:=(IntKind.u64.wrap i).toNat%n
theorem s7 (i:Int) (n:Nat) (w:World) (hn:0<n∧n≤1000) :
 Rt prog 31 [.int .i64 i,.int .i64 (n:Nat)] w (fun v w'=>v=.int .i64 (wiN i n:Nat)∧w=w'):=by
 obtain ⟨a,ha,ha2⟩:∃ a:Nat,IntKind.u64.wrap i=(a:Int)∧a<18446744073709551616:=⟨(IntKind.u64.wrap i).toNat,by rw [IntKind.wrap_u64];omega,by rw [IntKind.wrap_u64];omega⟩;have hm:a%n<n:=Nat.mod_lt _ hn.1;have hwi:wiN i n=a%n:=by unfold wiN;rw [ha];rfl
 refine enter (n:=11) Tryz.func31 rfl rfl rfl (an (ah (asi rfl (ak (ag (an (ah (mvi rfl (aa (rW qp nt rfl) (ed (t:=6) (v:=.int _ _) (v':=.int .u64 (a:Nat)) rfl (by rw [ha]) ?_))))))))));refine mvi rfl (aa (sE qp nt rfl (by omega)) (aa (vL rfl rfl (by omega)) ?_));refine ed (t:=9) (v:=.int _ _) (v':=.int .u64 ((a%n:Nat):Int)) rfl (by rw [Int.tmod_eq_emod_of_nonneg (by omega)];rfl) ?_;refine aa (tq rK uA rfl (by omega)) (asi rfl (ak (ag (aC (bh (v:=.int _ _) rfl rfl ?_)))));rw [hwi];exact ⟨rfl,rfl⟩
theorem nW (m:Msg) (w:World) (he:ct w (.slice m.E m.es.length m.c) m.es) (ho:∀ e∈m.es,e.Ok) (hl:m.es.length≤140737488351232) (hd:m.d.size≤140737488351232) :
 Rt prog 26 [.agg (dT m).toArray] w (fun v w'=>(∃ b,v=.bool b∧(b=false→m.es.length≤200∧m.d.size≤20000))∧aj w w'):=by
 refine enter (n:=19) Tryz.func26 rfl rfl rfl (an (ah (cU (v:=.agg _) rfl ?_)));intro b1 w1 E1 hb1 hk1;refine asb rfl (ak (ag (an (ah (aa (ae iT rfl) (aa (aq bD rfl (by exact (show _=some (Value.string m.d) from (hk1.from_ aj.rfl_).rd 11 rfl))) ?_))))));refine aa (df (by kernel_rfl) rfl) (aa (bH rfl rfl) (mvb rfl (wK (t:=7) rfl (fun Q2=>?_) (fun Q2=>?_))))
 ·refine ab rfl rfl (ab rfl rfl (ab rfl rfl (ab rfl rfl (aa (ao (v:=.bool _) rfl rfl) (mvb rfl (ab rfl rfl (ab rfl rfl (ab rfl rfl ?_))))))));refine ab rfl rfl (aa (ao (v:=.bool _) rfl rfl) (asb rfl (ak (ag (aC (bh (v:=.bool _) rfl rfl (⟨⟨_,rfl,fun h=>?_⟩,(aj.rfl_.next E1)⟩)))))))
  first
   |(exfalso;simp at h;done)
   |(have h9:=dF_ h;omega)
   |(simp only [decide_eq_false_iff_not] at h;omega)
   |(simp at h;omega)
 refine af rfl (aa (ae gg rfl) (af rfl (aa (aq cG rfl (by exact (show _=some (Value.slice m.E m.es.length m.c) from (hk1.from_ aj.rfl_).rd 9 rfl))) ?_)));refine af rfl (aG ou (kt m.E m.c m.es.length m.es _ (he.from_ (aj.rfl_.next E1)) ho hl) ?_);rintro v10 w3 ⟨⟨m10,rfl,hm1,hm2⟩,rfl⟩;refine af rfl (aa (bH rfl rfl) (aa (av (v:=.bool _) rfl rfl) (mvb rfl (wK (t:=13) rfl (fun Q4=>?_) (fun Q4=>?_)))))
 ·refine ab rfl rfl (ab rfl rfl (ab rfl rfl (ab rfl rfl (aa (ao (v:=.bool _) rfl rfl) (asb rfl (ak (ag (aC (bh (v:=.bool _) rfl rfl (⟨⟨_,rfl,fun h=>?_⟩,(aj.rfl_.next E1)⟩))))))))))
  first
   |(exfalso;simp at h;done)
   |(have h9:=dF_ h;omega)
   |(simp only [decide_eq_false_iff_not] at h;omega)
   |(simp at h;omega)
 refine af rfl (aa (ae gg rfl) (af rfl (aa (aq cG rfl (by exact (show _=some (Value.slice m.E m.es.length m.c) from (hk1.from_ aj.rfl_).rd 9 rfl))) ?_)));refine af rfl (aa (bm cT rfl) (af rfl (aa (bH rfl rfl) (aa (av (v:=.bool _) rfl rfl) (asb rfl (ak (ag (aC (bh (v:=.bool _) rfl rfl (⟨⟨_,rfl,fun h=>?_⟩,(aj.rfl_.next E1)⟩))))))))))
 first
  |(exfalso;simp at h;done)
  |(have h9:=dF_ h;omega)
  |(simp only [decide_eq_false_iff_not] at h;omega)
  |(simp at h;omega)
theorem cQ:cr prog 32 0=some 0:=by kernel_rfl
theorem dm:cr prog 32 1=some 22:=by kernel_rfl
theorem dJ:gV prog 30=some false:=by kernel_rfl
theorem eZ:(fI prog 30).isSome=true:=by kernel_rfl
theorem gd:fI prog 30=some (41,17):=by kernel_rfl
theorem ew:cr prog 41 3=some 15:=by kernel_rfl
theorem jV:cr prog 41 1=some 1:=by kernel_rfl
theorem lC:aY prog 26=true:=by kernel_rfl
theorem sh {w:World} {b a:Nat} {x:Ac} (h:w.rangeAt b a (acV x)):w.rangeAt b (a+1) (dT x.m):=fun j v hv=>by
 have hj:j<13:=(List.getElem?_eq_some_iff.1 hv).1
 have h1:(acV x)[j+1]? =some v:=by
  show (dT x.m++[Value.bool x.fit,.string x.d,.int .i64 x.i])[j]? =some v;rw [List.getElem?_append_left (show j<(dT x.m).length from hj)];exact hv
 have:=h (j+1) v h1
 rwa [show a+(j+1)=a+1+j by omega] at this
theorem bY (s:Rf) (a:Ra) (LA:Option Addr) (lc:Nat) (X:List Ac) (w:World) (h:rA w s a LA X) :
 Rt prog 15 [.agg (scV s a LA X.length lc).toArray] w (fun v w'=>(∃ b,v=.bool b∧(b=false→Small s X))∧aj w w'):=by
 have z1:=h.z.sn;have z2:=h.z.pa;have z3:=h.z.es;have z4:=h.z.v;have z5:=h.z.x;have z6:=h.z.m;have z7:=h.z.n;have z8:=h.z.q;have z9:=h.z.k;have z10:=h.n;have hLl:a.L.length=s.reads.length:=by rw [←h.r.r,List.length_map]
 refine enter (n:=111) Tryz.func15 rfl rfl rfl (an (ah (cU (v:=.agg _) rfl ?_)));intro b1 w1 E1 hb1 hk1;refine asb rfl (ak (ag (an ?_)));apply dR 41 [(6,eqp _),(7,eqp _),(8,eqp (.string s.snap)),(9,eqp _),(10,eqp _),(11,eqp _),(12,eqp (.string s.part)),(13,eqp _),(14,eqp (.int .i64 ((s.snap.size+s.part.size:Nat):Int))),(15,eqp _),(16,eqp _),(17,eqp _),(18,eqp (.slice a.E s.es.length a.Ec)),(19,fun v _=>∃ q:Nat,v=.int .i64 (q:Nat)∧s.es.length≤q∧q≤562949953421312),(20,fun v _=>∃ q:Nat,v=.int .i64 (q:Nat)∧s.snap.size+s.part.size+s.es.length≤q∧q≤844424930123776),(21,eqp _),(22,eqp _),(23,eqp (.slice a.V s.votes.length a.Vc)),(24,eqp _),(25,fun v _=>∃ q:Nat,v=.int .i64 (q:Nat)∧s.snap.size+s.part.size+s.es.length+s.votes.length≤q∧q≤985162418475008),(26,eqp _),(27,eqp _),(28,eqp (.slice a.X s.next.length a.Xc)),(29,eqp _),(30,fun v _=>∃ q:Nat,v=.int .i64 (q:Nat)∧s.snap.size+s.part.size+s.es.length+s.votes.length+s.next.length≤q∧q≤1125899906826240),(31,eqp _),(32,eqp _),(33,eqp (.slice a.M s.mtch.length a.Mc)),(34,eqp _),(35,fun v _=>∃ q:Nat,v=.int .i64 (q:Nat)∧s.snap.size+s.part.size+s.es.length+s.votes.length+s.next.length+s.mtch.length≤q∧q≤1266637395177472),(36,eqp _),(37,eqp _),(38,eqp (.slice a.S s.sent.length a.Sc)),(39,eqp _),(40,fun v _=>∃ q:Nat,v=.int .i64 (q:Nat)∧s.snap.size+s.part.size+s.es.length+s.votes.length+s.next.length+s.mtch.length+s.sent.length≤q∧q≤1407374883528704),(41,eqp _),(42,eqp _),(43,eqp (.slice a.Q a.L.length a.Qc)),(44,eqp _),(45,fun v _=>∃ q:Nat,v=.int .i64 (q:Nat)∧s.snap.size+s.part.size+s.es.length+s.votes.length+s.next.length+s.mtch.length+s.sent.length+a.L.length≤q∧q≤1548112371879936),(3,fun v _=>∃ q:Nat,v=.int .i64 (q:Nat)∧s.snap.size+s.part.size+s.es.length+s.votes.length+s.next.length+s.mtch.length+s.sent.length+a.L.length≤q∧q≤1548112371879936)] (by repeat first | exact ej | refine ei ?_ | refine dO ?_) (by kernel_rfl) (by kernel_rfl) ⟨au _,au _,au _,au _,au _,au _,au _,au _,au _,au _,au _,au _,au _,(fun _ _ _ _ h=>h),(fun _ _ _ _ h=>h),au _,au _,au _,au _,(fun _ _ _ _ h=>h),au _,au _,au _,au _,(fun _ _ _ _ h=>h),au _,au _,au _,au _,(fun _ _ _ _ h=>h),au _,au _,au _,au _,(fun _ _ _ _ h=>h),au _,au _,au _,au _,(fun _ _ _ _ h=>h),(fun _ _ _ _ h=>h),trivial⟩
 case hop=>
  constructor
  ·rintro-w3 D3;exact az (ae cQ rfl) rfl
  constructor
  ·rintro-w4 D4;rintro _ rfl;exact az (ae cf rfl) rfl
  constructor
  ·rintro-w5 D5;rintro _ rfl;exact az (aq bD rfl (by exact (show _=some (Value.string s.snap) from (hk1.from_ (aj.rfl_.next D5)).rd 9 rfl))) rfl
  constructor
  ·rintro-w6 D6;rintro v6_8 rfl;exact az (df (by kernel_rfl) rfl) rfl
  constructor
  ·rintro-w7 D7;exact az (ae cQ rfl) rfl
  constructor
  ·rintro-w8 D8;rintro _ rfl;exact az (ae dv rfl) rfl
  constructor
  ·rintro-w9 D9;rintro _ rfl;exact az (aq bD rfl (by exact (show _=some (Value.string s.part) from (hk1.from_ (aj.rfl_.next D9)).rd 20 rfl))) rfl
  constructor
  ·rintro-w10 D10;rintro v10_12 rfl;exact az (df (by kernel_rfl) rfl) rfl
  constructor
  ·rintro-w11 D11;rintro _ rfl _ rfl;exact az (cR rfl rfl (by omega)) rfl
  constructor
  ·rintro-w12 D12;exact az (ae cQ rfl) rfl
  constructor
  ·rintro-w13 D13;rintro _ rfl;exact az (ae bk rfl) rfl
  constructor
  ·rintro-w14 D14;rintro _ rfl;exact az (ae cE rfl) rfl
  constructor
  ·rintro-w15 D15;rintro _ rfl;exact az (aq cG rfl (by exact (show _=some (Value.slice a.E s.es.length a.Ec) from (hk1.from_ (aj.rfl_.next D15)).rd 8 rfl))) rfl
  constructor
  ·rintro-w16 D16;rintro v16_18 rfl;refine ia ou ((kt a.E a.Ec s.es.length s.es _ (h.r.e.from_ ((aj.rfl_.next E1).next D16)) h.z.eo (by omega)).mono ?_);rintro v w2 ⟨⟨q,rfl,hp,hq⟩,rfl⟩;exact ⟨aj.rfl_,q,rfl,hp,hq⟩
  constructor
  ·rintro-w17 D17;rintro v17_14 rfl v17_19 ⟨q17,rfl,hl17,hu17⟩;exact az (cR rfl rfl (by omega)) ⟨_,rfl,by omega,by omega⟩
  constructor
  ·rintro-w18 D18;exact az (ae cQ rfl) rfl
  constructor
  ·rintro-w19 D19;rintro _ rfl;exact az (ae cP rfl) rfl
  constructor
  ·rintro-w20 D20;rintro _ rfl;exact az (aq aM rfl (by exact (show _=some (Value.slice a.V s.votes.length a.Vc) from (hk1.from_ (aj.rfl_.next D20)).rd 14 rfl))) rfl
  constructor
  ·rintro-w21 D21;rintro v21_23 rfl;exact az (bm bJ rfl) rfl
  constructor
  ·rintro-w22 D22;rintro v22_20 ⟨q22,rfl,hl22,hu22⟩ _ rfl;exact az (cR rfl rfl (by omega)) ⟨_,rfl,by omega,by omega⟩
  constructor
  ·rintro-w23 D23;exact az (ae cQ rfl) rfl
  constructor
  ·rintro-w24 D24;rintro _ rfl;exact az (ae bu rfl) rfl
  constructor
  ·rintro-w25 D25;rintro _ rfl;exact az (aq aM rfl (by exact (show _=some (Value.slice a.X s.next.length a.Xc) from (hk1.from_ (aj.rfl_.next D25)).rd 15 rfl))) rfl
  constructor
  ·rintro-w26 D26;rintro v26_28 rfl;exact az (bm bJ rfl) rfl
  constructor
  ·rintro-w27 D27;rintro v27_25 ⟨q27,rfl,hl27,hu27⟩ _ rfl;exact az (cR rfl rfl (by omega)) ⟨_,rfl,by omega,by omega⟩
  constructor
  ·rintro-w28 D28;exact az (ae cQ rfl) rfl
  constructor
  ·rintro-w29 D29;rintro _ rfl;exact az (ae bM rfl) rfl
  constructor
  ·rintro-w30 D30;rintro _ rfl;exact az (aq aM rfl (by exact (show _=some (Value.slice a.M s.mtch.length a.Mc) from (hk1.from_ (aj.rfl_.next D30)).rd 16 rfl))) rfl
  constructor
  ·rintro-w31 D31;rintro v31_33 rfl;exact az (bm bJ rfl) rfl
  constructor
  ·rintro-w32 D32;rintro v32_30 ⟨q32,rfl,hl32,hu32⟩ _ rfl;exact az (cR rfl rfl (by omega)) ⟨_,rfl,by omega,by omega⟩
  constructor
  ·rintro-w33 D33;exact az (ae cQ rfl) rfl
  constructor
  ·rintro-w34 D34;rintro _ rfl;exact az (ae bW rfl) rfl
  constructor
  ·rintro-w35 D35;rintro _ rfl;exact az (aq aM rfl (by exact (show _=some (Value.slice a.S s.sent.length a.Sc) from (hk1.from_ (aj.rfl_.next D35)).rd 17 rfl))) rfl
  constructor
  ·rintro-w36 D36;rintro v36_38 rfl;exact az (bm bJ rfl) rfl
  constructor
  ·rintro-w37 D37;rintro v37_35 ⟨q37,rfl,hl37,hu37⟩ _ rfl;exact az (cR rfl rfl (by omega)) ⟨_,rfl,by omega,by omega⟩
  constructor
  ·rintro-w38 D38;exact az (ae cQ rfl) rfl
  constructor
  ·rintro-w39 D39;rintro _ rfl;exact az (ae bd rfl) rfl
  constructor
  ·rintro-w40 D40;rintro _ rfl;exact az (aq bn rfl (by exact (show _=some (Value.slice a.Q a.L.length a.Qc) from (hk1.from_ (aj.rfl_.next D40)).rd 19 rfl))) rfl
  constructor
  ·rintro-w41 D41;rintro v41_43 rfl;exact az (bm bI rfl) rfl
  constructor
  ·rintro-w42 D42;rintro v42_40 ⟨q42,rfl,hl42,hu42⟩ _ rfl;exact az (cR rfl rfl (by omega)) ⟨_,rfl,by omega,by omega⟩
  constructor
  ·rintro-w43 D43;rintro v43_45 ⟨q43,rfl,hl43,hu43⟩;exact az (de rfl) ⟨_,rfl,by omega,by omega⟩
  exact trivial
 case hend=>
  intro w44 D44;rintro _ rfl _ rfl v8 rfl _ rfl _ rfl _ rfl v12 rfl _ rfl v14 rfl _ rfl _ rfl _ rfl v18 rfl v19 ⟨q44,rfl,hl44,hu44⟩ v20 ⟨q44,rfl,hl44,hu44⟩ _ rfl _ rfl v23 rfl _ rfl v25 ⟨q44,rfl,hl44,hu44⟩ _ rfl _ rfl v28 rfl _ rfl v30 ⟨q44,rfl,hl44,hu44⟩ _ rfl _ rfl v33 rfl _ rfl v35 ⟨q44,rfl,hl44,hu44⟩ _ rfl _ rfl v38 rfl _ rfl v40 ⟨q44,rfl,hl44,hu44⟩ _ rfl _ rfl v43 rfl _ rfl v45 ⟨q44,rfl,hl44,hu44⟩ v3 ⟨q3,rfl,hl3,hu3⟩;show St ..;refine ak (ag (an (an (ah (asi rfl (ak (ag (bf (cz (G:=Nat×Nat) [46,47,48,49,50,51,52,53,54,55,56,57,58,59,60,61,62,63,64,65,66,67] (fun (m,k)=>[(3,.int .i64 (m:Nat)),(4,.int .i64 (k:Nat))]) (fun (m,k) w'=>k≤a.L.length∧s.snap.size+s.part.size+s.es.length+s.votes.length+s.next.length+s.mtch.length+s.sent.length+a.L.length≤m∧m≤2000000000000000∧(∀ j (h:j<a.L.length),j<k→a.L[j].1.acks.length≤m)∧Blk w' b1 32 (scV s a LA X.length lc).toArray∧aj w w') (fun (_,k)=>a.L.length-k) ((q3,0)) ⟨rfl,rfl,trivial⟩ ?_ ?_)))))))))
  ·exact ⟨Nat.zero_le _,hl3,by omega,fun j _ h=>absurd h (by omega),hk1.from_ (aj.rfl_.next D44),((aj.rfl_.next E1).next D44)⟩
  rintro ⟨m,k⟩ ρ45 w45 ⟨hk,hm1,hm2,hj1,hk1,hB⟩;refine an (an (ah (mvi rfl (aa (ae cQ rfl) (aa (ae bd rfl) (aa (aq bn rfl (by exact (show _=some (Value.slice a.Q a.L.length a.Qc) from (hk1.from_ aj.rfl_).rd 19 rfl))) ?_))))));refine aa (bm bI rfl) (aa (bG rfl rfl) (mvb rfl (wK (t:=52) rfl (fun Q46=>?_) (fun Q46=>?_))))
  ·refine af rfl (mvi rfl (af rfl (aa (bG rfl rfl) (aa (ao (v:=.bool _) rfl rfl) (ak (ag (xD rfl (fun Q47=>?_) (fun Q47=>?_))))))))
   ·have hkL:k<a.L.length:=by omega
    have zk:=z9 _ (List.getElem_mem hkL);obtain ⟨ba,oa,hQe,hcs⟩:=h.r.q (by omega);have hkq:Blk w45 b1 32 (scV s { a with Q:=some ⟨ba,oa,none⟩ } LA X.length lc).toArray:=by rw [←hQe];exact hk1.from_ aj.rfl_
    refine aR (ag (an (bf (ah (mvi rfl (aa (ae cQ rfl) (aa (ae bd rfl) (aa (aq bn rfl (by exact (show _=some (Value.slice (some ⟨ba,oa,none⟩) a.L.length a.Qc) from (hkq.from_ aj.rfl_).rd 19 rfl))) ?_))))))));refine mvi rfl (aa (bL dC rfl rfl (by omega)) (aa (ae c_ rfl) (aa (aq aM rfl (by exact dF hB (hcs k hkL 3 _ rfl))) ?_)));refine aa (bm bJ rfl) (aa (cR rfl rfl (by omega)) (asi rfl (ak (bN (ag (ah (mvi rfl (aa (bE rfl rfl (by omega)) (asi rfl (ak ?_))))))))));refine cK ((m+a.L[k].1.acks.length,k+1)) ⟨(by first | rfl | (refine br ?_;omega)),(by first | rfl | (refine br ?_;omega)),trivial⟩ (by (iterate 49 refine bQ rfl ?_);exact b_) ⟨?_,?_⟩
    ·refine ⟨by omega,by omega,by omega,fun j h hj=>?_,hk1.from_ aj.rfl_,hB⟩;rcases Nat.lt_or_ge j k with e | e
     ·have:=hj1 j h e;omega
     ·obtain rfl:j=k:=by omega
      omega
    ·show a.L.length-(k+1)<a.L.length-k;omega
   refine bZ (bg (bg (bF (ag (an (an (ah (asi rfl (ak (ag (bf (cz (G:=Nat×Nat) [2,68,69,70,71,72,73,74,75,76,77,78,79,80,81,82,83,84,85,86,87,88,89,90,91,92,93,94] (fun (m2,i)=>[(3,.int .i64 (m2:Nat)),(5,.int .i64 (i:Nat))]) (fun (m2,i) w'=>i≤X.length∧m≤m2∧m2≤2000000000000000∧(∀ j (h:j<X.length),j<i→X[j].m.es.length≤200∧X[j].m.d.size≤20000∧X[j].d.size≤m2)∧Blk w' b1 32 (scV s a LA X.length lc).toArray∧aj w w') (fun (_,i)=>X.length-i) ((m,0)) ⟨rfl,rfl,trivial⟩ ?_ ?_))))))))))))
   ·exact ⟨Nat.zero_le _,Nat.le_refl _,hm2,fun j _ h=>absurd h (by omega),hk1.from_ aj.rfl_,hB⟩
   rintro ⟨m2,i⟩ ρ48 w48 ⟨hk2,hn1,hn2,hj2,hk1,hB⟩;refine an (an (ah (mvi rfl (aa (ae dm rfl) (aa (aq dJ rfl (by exact (show _=some (Value.slice LA X.length lc) from (hk1.from_ aj.rfl_).rd 22 rfl))) ?_)))));refine aa (bm eZ rfl) (aa (bG rfl rfl) (mvb rfl (wK (t:=73) rfl (fun Q49=>?_) (fun Q49=>?_))))
   ·refine af rfl (mvi rfl (af rfl (aa (bG rfl rfl) (aa (ao (v:=.bool _) rfl rfl) (ak (ag (xD rfl (fun Q50=>?_) (fun Q50=>?_))))))))
    ·have hkX:i<X.length:=by omega
     have hox:=h.o _ (List.getElem_mem hkX);have zk:=hox.2.2.2.2;obtain ⟨ba,oa,hQe,hcs⟩:=h.x (by omega);have hkq:Blk w48 b1 32 (scV s a (some ⟨ba,oa,none⟩) X.length lc).toArray:=by rw [←hQe];exact hk1.from_ aj.rfl_
     refine aR (ag (an (bf (an (ah (mvi rfl (aa (ae dm rfl) (aa (aq dJ rfl (by exact (show _=some (Value.slice (some ⟨ba,oa,none⟩) X.length lc) from (hkq.from_ aj.rfl_).rd 22 rfl))) ?_))))))));refine mvi rfl (aa (bL gd rfl rfl (by omega)) (aa (ae ew rfl) (aa (aq bD rfl (by exact dF hB (hcs i hkX 15 _ rfl))) ?_)));refine aa (df (by kernel_rfl) rfl) (aa (cR rfl rfl (by omega)) (asi rfl (ak (ag (an (ah (aa (ae dm rfl) (aa (aq dJ rfl (by exact (show _=some (Value.slice (some ⟨ba,oa,none⟩) X.length lc) from (hkq.from_ aj.rfl_).rd 22 rfl))) ?_))))))));refine mvi rfl (aa (bL gd rfl rfl (by omega)) (aa (ae jV rfl) (aa (aT (cs:=dT X[i].m) fQ fq rfl (sh (eN hB (hcs i hkX)))) (aG lC (nW X[i].m _ (hox.1.from_ hB) hox.2.1 (by have:=hox.2.2.1;omega) hox.2.2.2.1) ?_))));rintro v94 w51 ⟨⟨b94,rfl,hb94⟩,E94⟩;refine ak (ag (aV rfl (fun Q52=>?_) (fun Q52=>?_)))
     ·(try with_reducible first | (replace Q52 := dT_ Q52; trace "@MK N bY:g52+.c55-.g73+.c76+.c94+ 1.1") | (replace Q52 := dF_ Q52; trace "@MK N bY:g52+.c55-.g73+.c76+.c94+ 1.2") | (replace Q52 := dc Q52; trace "@MK N bY:g52+.c55-.g73+.c76+.c94+ 1.3") | (replace Q52 := dd Q52; trace "@MK N bY:g52+.c55-.g73+.c76+.c94+ 1.4"))
      (try with_reducible first | (replace Q52 := dT_ Q52; trace "@MK N bY:g52+.c55-.g73+.c76+.c94+ 2.1") | (replace Q52 := dF_ Q52; trace "@MK N bY:g52+.c55-.g73+.c76+.c94+ 2.2") | (replace Q52 := ij Q52; trace "@MK N bY:g52+.c55-.g73+.c76+.c94+ 2.3") | (replace Q52 := ik Q52; trace "@MK N bY:g52+.c55-.g73+.c76+.c94+ 2.4") | (replace Q52 := fD Q52; trace "@MK N bY:g52+.c55-.g73+.c76+.c94+ 2.5") | (replace Q52 := fE Q52; trace "@MK N bY:g52+.c55-.g73+.c76+.c94+ 2.6"))
      refine an (ah (asb rfl (ak (ag (aC (aZ (ay (ay (aZ (ay (bh (v:=.bool _) rfl rfl (⟨⟨_,rfl,fun h=>by cases h⟩,(hB.next E94)⟩))))))))))))
     (try with_reducible first | (replace Q52 := dT_ Q52; trace "@MK N bY:g52+.c55-.g73+.c76+.c94- 1.1") | (replace Q52 := dF_ Q52; trace "@MK N bY:g52+.c55-.g73+.c76+.c94- 1.2") | (replace Q52 := dc Q52; trace "@MK N bY:g52+.c55-.g73+.c76+.c94- 1.3") | (replace Q52 := dd Q52; trace "@MK N bY:g52+.c55-.g73+.c76+.c94- 1.4"))
     (try with_reducible first | (replace Q52 := dT_ Q52; trace "@MK N bY:g52+.c55-.g73+.c76+.c94- 2.1") | (replace Q52 := dF_ Q52; trace "@MK N bY:g52+.c55-.g73+.c76+.c94- 2.2") | (replace Q52 := ij Q52; trace "@MK N bY:g52+.c55-.g73+.c76+.c94- 2.3") | (replace Q52 := ik Q52; trace "@MK N bY:g52+.c55-.g73+.c76+.c94- 2.4") | (replace Q52 := fD Q52; trace "@MK N bY:g52+.c55-.g73+.c76+.c94- 2.5") | (replace Q52 := fE Q52; trace "@MK N bY:g52+.c55-.g73+.c76+.c94- 2.6"))
     refine aR (bN (ag (ah (mvi rfl (aa (bE rfl rfl (by omega)) (asi rfl (ak ?_)))))));refine cK ((m2+X[i].d.size,i+1)) ⟨(by first | rfl | (refine br ?_;omega)),(by first | rfl | (refine br ?_;omega)),trivial⟩ (by (iterate 60 refine bQ rfl ?_);exact b_) ⟨?_,?_⟩
     ·refine ⟨by omega,by omega,by omega,fun j h hj=>?_,hk1.from_ (aj.rfl_.next E94),(hB.next E94)⟩;rcases Nat.lt_or_ge j i with e | e
      ·have:=hj2 j h e;omega
      ·obtain rfl:j=i:=by omega
       have:=hb94 (by first | rfl | assumption | simp_all);omega
     ·show X.length-(i+1)<X.length-i;omega
    refine bZ (bg (bg (bF (ag (an (ah (mvi rfl (aa (bH rfl rfl) (mvb rfl (wK (t:=97) rfl (fun Q53=>?_) (fun Q53=>?_)))))))))))
    ·refine ab rfl rfl (ab rfl rfl (ab rfl rfl (ab rfl rfl (ab rfl rfl (ab rfl rfl (aa (ao (v:=.bool _) rfl rfl) (mvb rfl (ab rfl rfl ?_))))))));refine ab rfl rfl (ab rfl rfl (ab rfl rfl (aa (ao (v:=.bool _) rfl rfl) (asb rfl (ak (ag (aC (bh (v:=.bool _) rfl rfl (⟨⟨_,rfl,fun h9=>?_⟩,hB⟩)))))))))
     have hh:m2≤20000∧s.es.length≤600∧X.length≤100:=by
      first
       |(exfalso;simp at h9;done)
       |(have h8:=dF_ h9;omega)
       |(simp only [decide_eq_false_iff_not] at h9;omega)
       |(simp at h9;omega)
     have hkl:k=a.L.length:=by omega
     refine ⟨⟨by omega,by omega,by omega,by omega,by omega,fun q hq=>?_⟩,hh.2.1,hh.2.2,⟨by omega,by omega⟩,fun y hy=>?_⟩
     ·rw [←h.r.r] at hq;obtain ⟨y,hy,rfl⟩:=List.mem_map.1 hq;obtain ⟨j,hj,rfl⟩:=List.getElem_of_mem hy;have:=hj1 j hj (by omega);omega
     ·obtain ⟨j,hj,rfl⟩:=List.getElem_of_mem hy;have:=hj2 j hj (by omega);omega
    refine af rfl (aa (ae cQ rfl) (af rfl (aa (ae bk rfl) (af rfl (aa (ae cE rfl) (af rfl (aa (aq cG rfl (by exact (show _=some (Value.slice a.E s.es.length a.Ec) from (hk1.from_ aj.rfl_).rd 8 rfl))) ?_)))))));refine af rfl (aa (bm cT rfl) (af rfl (aa (bH rfl rfl) (aa (av (v:=.bool _) rfl rfl) (mvb rfl (wK (t:=105) rfl (fun Q54=>?_) (fun Q54=>?_)))))))
    ·refine ab rfl rfl (ab rfl rfl (ab rfl rfl (ab rfl rfl (aa (ao (v:=.bool _) rfl rfl) (asb rfl (ak (ag (aC (bh (v:=.bool _) rfl rfl (⟨⟨_,rfl,fun h9=>?_⟩,hB⟩))))))))))
     have hh:m2≤20000∧s.es.length≤600∧X.length≤100:=by
      first
       |(exfalso;simp at h9;done)
       |(have h8:=dF_ h9;omega)
       |(simp only [decide_eq_false_iff_not] at h9;omega)
       |(simp at h9;omega)
     have hkl:k=a.L.length:=by omega
     refine ⟨⟨by omega,by omega,by omega,by omega,by omega,fun q hq=>?_⟩,hh.2.1,hh.2.2,⟨by omega,by omega⟩,fun y hy=>?_⟩
     ·rw [←h.r.r] at hq;obtain ⟨y,hy,rfl⟩:=List.mem_map.1 hq;obtain ⟨j,hj,rfl⟩:=List.getElem_of_mem hy;have:=hj1 j hj (by omega);omega
     ·obtain ⟨j,hj,rfl⟩:=List.getElem_of_mem hy;have:=hj2 j hj (by omega);omega
    refine af rfl (aa (ae dm rfl) (af rfl (aa (aq dJ rfl (by exact (show _=some (Value.slice LA X.length lc) from (hk1.from_ aj.rfl_).rd 22 rfl))) ?_)));refine af rfl (aa (bm eZ rfl) (af rfl (aa (bH rfl rfl) (aa (av (v:=.bool _) rfl rfl) (asb rfl (ak (ag (aC (bh (v:=.bool _) rfl rfl (⟨⟨_,rfl,fun h9=>?_⟩,hB⟩))))))))))
    have hh:m2≤20000∧s.es.length≤600∧X.length≤100:=by
     first
      |(exfalso;simp at h9;done)
      |(have h8:=dF_ h9;omega)
      |(simp only [decide_eq_false_iff_not] at h9;omega)
      |(simp at h9;omega)
    have hkl:k=a.L.length:=by omega
    refine ⟨⟨by omega,by omega,by omega,by omega,by omega,fun q hq=>?_⟩,hh.2.1,hh.2.2,⟨by omega,by omega⟩,fun y hy=>?_⟩
    ·rw [←h.r.r] at hq;obtain ⟨y,hy,rfl⟩:=List.mem_map.1 hq;obtain ⟨j,hj,rfl⟩:=List.getElem_of_mem hy;have:=hj1 j hj (by omega);omega
    ·obtain ⟨j,hj,rfl⟩:=List.getElem_of_mem hy;have:=hj2 j hj (by omega);omega
   refine ab rfl rfl (ab rfl rfl (aa (av (v:=.bool _) rfl rfl) (ak (ag (ck rfl (bZ (bg (bg (bF (ag (an (ah (mvi rfl (aa (bH rfl rfl) ?_))))))))))))));refine mvb rfl (wK (t:=97) rfl (fun Q55=>?_) (fun Q55=>?_))
   ·refine ab rfl rfl (ab rfl rfl (ab rfl rfl (ab rfl rfl (ab rfl rfl (ab rfl rfl (aa (ao (v:=.bool _) rfl rfl) (mvb rfl (ab rfl rfl ?_))))))));refine ab rfl rfl (ab rfl rfl (ab rfl rfl (aa (ao (v:=.bool _) rfl rfl) (asb rfl (ak (ag (aC (bh (v:=.bool _) rfl rfl (⟨⟨_,rfl,fun h9=>?_⟩,hB⟩)))))))))
    have hh:m2≤20000∧s.es.length≤600∧X.length≤100:=by
     first
      |(exfalso;simp at h9;done)
      |(have h8:=dF_ h9;omega)
      |(simp only [decide_eq_false_iff_not] at h9;omega)
      |(simp at h9;omega)
    have hkl:k=a.L.length:=by omega
    refine ⟨⟨by omega,by omega,by omega,by omega,by omega,fun q hq=>?_⟩,hh.2.1,hh.2.2,⟨by omega,by omega⟩,fun y hy=>?_⟩
    ·rw [←h.r.r] at hq;obtain ⟨y,hy,rfl⟩:=List.mem_map.1 hq;obtain ⟨j,hj,rfl⟩:=List.getElem_of_mem hy;have:=hj1 j hj (by omega);omega
    ·obtain ⟨j,hj,rfl⟩:=List.getElem_of_mem hy;have:=hj2 j hj (by omega);omega
   refine af rfl (aa (ae cQ rfl) (af rfl (aa (ae bk rfl) (af rfl (aa (ae cE rfl) (af rfl (aa (aq cG rfl (by exact (show _=some (Value.slice a.E s.es.length a.Ec) from (hk1.from_ aj.rfl_).rd 8 rfl))) ?_)))))));refine af rfl (aa (bm cT rfl) (af rfl (aa (bH rfl rfl) (aa (av (v:=.bool _) rfl rfl) (mvb rfl (wK (t:=105) rfl (fun Q56=>?_) (fun Q56=>?_)))))))
   ·refine ab rfl rfl (ab rfl rfl (ab rfl rfl (ab rfl rfl (aa (ao (v:=.bool _) rfl rfl) (asb rfl (ak (ag (aC (bh (v:=.bool _) rfl rfl (⟨⟨_,rfl,fun h9=>?_⟩,hB⟩))))))))))
    have hh:m2≤20000∧s.es.length≤600∧X.length≤100:=by
     first
      |(exfalso;simp at h9;done)
      |(have h8:=dF_ h9;omega)
      |(simp only [decide_eq_false_iff_not] at h9;omega)
      |(simp at h9;omega)
    have hkl:k=a.L.length:=by omega
    refine ⟨⟨by omega,by omega,by omega,by omega,by omega,fun q hq=>?_⟩,hh.2.1,hh.2.2,⟨by omega,by omega⟩,fun y hy=>?_⟩
    ·rw [←h.r.r] at hq;obtain ⟨y,hy,rfl⟩:=List.mem_map.1 hq;obtain ⟨j,hj,rfl⟩:=List.getElem_of_mem hy;have:=hj1 j hj (by omega);omega
    ·obtain ⟨j,hj,rfl⟩:=List.getElem_of_mem hy;have:=hj2 j hj (by omega);omega
   refine af rfl (aa (ae dm rfl) (af rfl (aa (aq dJ rfl (by exact (show _=some (Value.slice LA X.length lc) from (hk1.from_ aj.rfl_).rd 22 rfl))) ?_)));refine af rfl (aa (bm eZ rfl) (af rfl (aa (bH rfl rfl) (aa (av (v:=.bool _) rfl rfl) (asb rfl (ak (ag (aC (bh (v:=.bool _) rfl rfl (⟨⟨_,rfl,fun h9=>?_⟩,hB⟩))))))))))
   have hh:m2≤20000∧s.es.length≤600∧X.length≤100:=by
    first
     |(exfalso;simp at h9;done)
     |(have h8:=dF_ h9;omega)
     |(simp only [decide_eq_false_iff_not] at h9;omega)
     |(simp at h9;omega)
   have hkl:k=a.L.length:=by omega
   refine ⟨⟨by omega,by omega,by omega,by omega,by omega,fun q hq=>?_⟩,hh.2.1,hh.2.2,⟨by omega,by omega⟩,fun y hy=>?_⟩
   ·rw [←h.r.r] at hq;obtain ⟨y,hy,rfl⟩:=List.mem_map.1 hq;obtain ⟨j,hj,rfl⟩:=List.getElem_of_mem hy;have:=hj1 j hj (by omega);omega
   ·obtain ⟨j,hj,rfl⟩:=List.getElem_of_mem hy;have:=hj2 j hj (by omega);omega
  refine ab rfl rfl (ab rfl rfl (aa (av (v:=.bool _) rfl rfl) (ak (ag (ck rfl (bZ (bg (bg (bF (ag (an (an (ah (asi rfl (ak (ag (bf ?_)))))))))))))))));refine cz (G:=Nat×Nat) [2,68,69,70,71,72,73,74,75,76,77,78,79,80,81,82,83,84,85,86,87,88,89,90,91,92,93,94] (fun (m2,i)=>[(3,.int .i64 (m2:Nat)),(5,.int .i64 (i:Nat))]) (fun (m2,i) w'=>i≤X.length∧m≤m2∧m2≤2000000000000000∧(∀ j (h:j<X.length),j<i→X[j].m.es.length≤200∧X[j].m.d.size≤20000∧X[j].d.size≤m2)∧Blk w' b1 32 (scV s a LA X.length lc).toArray∧aj w w') (fun (_,i)=>X.length-i) ((m,0)) ⟨rfl,rfl,trivial⟩ ?_ ?_
  ·exact ⟨Nat.zero_le _,Nat.le_refl _,hm2,fun j _ h=>absurd h (by omega),hk1.from_ aj.rfl_,hB⟩
  rintro ⟨m2,i⟩ ρ57 w57 ⟨hk2,hn1,hn2,hj2,hk1,hB⟩;refine an (an (ah (mvi rfl (aa (ae dm rfl) (aa (aq dJ rfl (by exact (show _=some (Value.slice LA X.length lc) from (hk1.from_ aj.rfl_).rd 22 rfl))) ?_)))));refine aa (bm eZ rfl) (aa (bG rfl rfl) (mvb rfl (wK (t:=73) rfl (fun Q58=>?_) (fun Q58=>?_))))
  ·refine af rfl (mvi rfl (af rfl (aa (bG rfl rfl) (aa (ao (v:=.bool _) rfl rfl) (ak (ag (xD rfl (fun Q59=>?_) (fun Q59=>?_))))))))
   ·have hkX:i<X.length:=by omega
    have hox:=h.o _ (List.getElem_mem hkX);have zk:=hox.2.2.2.2;obtain ⟨ba,oa,hQe,hcs⟩:=h.x (by omega);have hkq:Blk w57 b1 32 (scV s a (some ⟨ba,oa,none⟩) X.length lc).toArray:=by rw [←hQe];exact hk1.from_ aj.rfl_
    refine aR (ag (an (bf (an (ah (mvi rfl (aa (ae dm rfl) (aa (aq dJ rfl (by exact (show _=some (Value.slice (some ⟨ba,oa,none⟩) X.length lc) from (hkq.from_ aj.rfl_).rd 22 rfl))) ?_))))))));refine mvi rfl (aa (bL gd rfl rfl (by omega)) (aa (ae ew rfl) (aa (aq bD rfl (by exact dF hB (hcs i hkX 15 _ rfl))) ?_)));refine aa (df (by kernel_rfl) rfl) (aa (cR rfl rfl (by omega)) (asi rfl (ak (ag (an (ah (aa (ae dm rfl) (aa (aq dJ rfl (by exact (show _=some (Value.slice (some ⟨ba,oa,none⟩) X.length lc) from (hkq.from_ aj.rfl_).rd 22 rfl))) ?_))))))));refine mvi rfl (aa (bL gd rfl rfl (by omega)) (aa (ae jV rfl) (aa (aT (cs:=dT X[i].m) fQ fq rfl (sh (eN hB (hcs i hkX)))) (aG lC (nW X[i].m _ (hox.1.from_ hB) hox.2.1 (by have:=hox.2.2.1;omega) hox.2.2.2.1) ?_))));rintro v94 w60 ⟨⟨b94,rfl,hb94⟩,E94⟩;refine ak (ag (aV rfl (fun Q61=>?_) (fun Q61=>?_)))
    ·(try with_reducible first | (replace Q61 := dT_ Q61; trace "@MK N bY:g52-.g73+.c76+.c94+ 1.1") | (replace Q61 := dF_ Q61; trace "@MK N bY:g52-.g73+.c76+.c94+ 1.2") | (replace Q61 := dc Q61; trace "@MK N bY:g52-.g73+.c76+.c94+ 1.3") | (replace Q61 := dd Q61; trace "@MK N bY:g52-.g73+.c76+.c94+ 1.4"))
     (try with_reducible first | (replace Q61 := dT_ Q61; trace "@MK N bY:g52-.g73+.c76+.c94+ 2.1") | (replace Q61 := dF_ Q61; trace "@MK N bY:g52-.g73+.c76+.c94+ 2.2") | (replace Q61 := ij Q61; trace "@MK N bY:g52-.g73+.c76+.c94+ 2.3") | (replace Q61 := ik Q61; trace "@MK N bY:g52-.g73+.c76+.c94+ 2.4") | (replace Q61 := fD Q61; trace "@MK N bY:g52-.g73+.c76+.c94+ 2.5") | (replace Q61 := fE Q61; trace "@MK N bY:g52-.g73+.c76+.c94+ 2.6"))
     refine an (ah (asb rfl (ak (ag (aC (aZ (ay (ay (aZ (ay (bh (v:=.bool _) rfl rfl (⟨⟨_,rfl,fun h=>by cases h⟩,(hB.next E94)⟩))))))))))))
    (try with_reducible first | (replace Q61 := dT_ Q61; trace "@MK N bY:g52-.g73+.c76+.c94- 1.1") | (replace Q61 := dF_ Q61; trace "@MK N bY:g52-.g73+.c76+.c94- 1.2") | (replace Q61 := dc Q61; trace "@MK N bY:g52-.g73+.c76+.c94- 1.3") | (replace Q61 := dd Q61; trace "@MK N bY:g52-.g73+.c76+.c94- 1.4"))
    (try with_reducible first | (replace Q61 := dT_ Q61; trace "@MK N bY:g52-.g73+.c76+.c94- 2.1") | (replace Q61 := dF_ Q61; trace "@MK N bY:g52-.g73+.c76+.c94- 2.2") | (replace Q61 := ij Q61; trace "@MK N bY:g52-.g73+.c76+.c94- 2.3") | (replace Q61 := ik Q61; trace "@MK N bY:g52-.g73+.c76+.c94- 2.4") | (replace Q61 := fD Q61; trace "@MK N bY:g52-.g73+.c76+.c94- 2.5") | (replace Q61 := fE Q61; trace "@MK N bY:g52-.g73+.c76+.c94- 2.6"))
    refine aR (bN (ag (ah (mvi rfl (aa (bE rfl rfl (by omega)) (asi rfl (ak ?_)))))));refine cK ((m2+X[i].d.size,i+1)) ⟨(by first | rfl | (refine br ?_;omega)),(by first | rfl | (refine br ?_;omega)),trivial⟩ (by (iterate 60 refine bQ rfl ?_);exact b_) ⟨?_,?_⟩
    ·refine ⟨by omega,by omega,by omega,fun j h hj=>?_,hk1.from_ (aj.rfl_.next E94),(hB.next E94)⟩;rcases Nat.lt_or_ge j i with e | e
     ·have:=hj2 j h e;omega
     ·obtain rfl:j=i:=by omega
      have:=hb94 (by first | rfl | assumption | simp_all);omega
    ·show X.length-(i+1)<X.length-i;omega
   refine bZ (bg (bg (bF (ag (an (ah (mvi rfl (aa (bH rfl rfl) (mvb rfl (wK (t:=97) rfl (fun Q62=>?_) (fun Q62=>?_)))))))))))
   ·refine ab rfl rfl (ab rfl rfl (ab rfl rfl (ab rfl rfl (ab rfl rfl (ab rfl rfl (aa (ao (v:=.bool _) rfl rfl) (mvb rfl (ab rfl rfl ?_))))))));refine ab rfl rfl (ab rfl rfl (ab rfl rfl (aa (ao (v:=.bool _) rfl rfl) (asb rfl (ak (ag (aC (bh (v:=.bool _) rfl rfl (⟨⟨_,rfl,fun h9=>?_⟩,hB⟩)))))))))
    have hh:m2≤20000∧s.es.length≤600∧X.length≤100:=by
     first
      |(exfalso;simp at h9;done)
      |(have h8:=dF_ h9;omega)
      |(simp only [decide_eq_false_iff_not] at h9;omega)
      |(simp at h9;omega)
    have hkl:k=a.L.length:=by omega
    refine ⟨⟨by omega,by omega,by omega,by omega,by omega,fun q hq=>?_⟩,hh.2.1,hh.2.2,⟨by omega,by omega⟩,fun y hy=>?_⟩
    ·rw [←h.r.r] at hq;obtain ⟨y,hy,rfl⟩:=List.mem_map.1 hq;obtain ⟨j,hj,rfl⟩:=List.getElem_of_mem hy;have:=hj1 j hj (by omega);omega
    ·obtain ⟨j,hj,rfl⟩:=List.getElem_of_mem hy;have:=hj2 j hj (by omega);omega
   refine af rfl (aa (ae cQ rfl) (af rfl (aa (ae bk rfl) (af rfl (aa (ae cE rfl) (af rfl (aa (aq cG rfl (by exact (show _=some (Value.slice a.E s.es.length a.Ec) from (hk1.from_ aj.rfl_).rd 8 rfl))) ?_)))))));refine af rfl (aa (bm cT rfl) (af rfl (aa (bH rfl rfl) (aa (av (v:=.bool _) rfl rfl) (mvb rfl (wK (t:=105) rfl (fun Q63=>?_) (fun Q63=>?_)))))))
   ·refine ab rfl rfl (ab rfl rfl (ab rfl rfl (ab rfl rfl (aa (ao (v:=.bool _) rfl rfl) (asb rfl (ak (ag (aC (bh (v:=.bool _) rfl rfl (⟨⟨_,rfl,fun h9=>?_⟩,hB⟩))))))))))
    have hh:m2≤20000∧s.es.length≤600∧X.length≤100:=by
     first
      |(exfalso;simp at h9;done)
      |(have h8:=dF_ h9;omega)
      |(simp only [decide_eq_false_iff_not] at h9;omega)
      |(simp at h9;omega)
    have hkl:k=a.L.length:=by omega
    refine ⟨⟨by omega,by omega,by omega,by omega,by omega,fun q hq=>?_⟩,hh.2.1,hh.2.2,⟨by omega,by omega⟩,fun y hy=>?_⟩
    ·rw [←h.r.r] at hq;obtain ⟨y,hy,rfl⟩:=List.mem_map.1 hq;obtain ⟨j,hj,rfl⟩:=List.getElem_of_mem hy;have:=hj1 j hj (by omega);omega
    ·obtain ⟨j,hj,rfl⟩:=List.getElem_of_mem hy;have:=hj2 j hj (by omega);omega
   refine af rfl (aa (ae dm rfl) (af rfl (aa (aq dJ rfl (by exact (show _=some (Value.slice LA X.length lc) from (hk1.from_ aj.rfl_).rd 22 rfl))) ?_)));refine af rfl (aa (bm eZ rfl) (af rfl (aa (bH rfl rfl) (aa (av (v:=.bool _) rfl rfl) (asb rfl (ak (ag (aC (bh (v:=.bool _) rfl rfl (⟨⟨_,rfl,fun h9=>?_⟩,hB⟩))))))))))
   have hh:m2≤20000∧s.es.length≤600∧X.length≤100:=by
    first
     |(exfalso;simp at h9;done)
     |(have h8:=dF_ h9;omega)
     |(simp only [decide_eq_false_iff_not] at h9;omega)
     |(simp at h9;omega)
   have hkl:k=a.L.length:=by omega
   refine ⟨⟨by omega,by omega,by omega,by omega,by omega,fun q hq=>?_⟩,hh.2.1,hh.2.2,⟨by omega,by omega⟩,fun y hy=>?_⟩
   ·rw [←h.r.r] at hq;obtain ⟨y,hy,rfl⟩:=List.mem_map.1 hq;obtain ⟨j,hj,rfl⟩:=List.getElem_of_mem hy;have:=hj1 j hj (by omega);omega
   ·obtain ⟨j,hj,rfl⟩:=List.getElem_of_mem hy;have:=hj2 j hj (by omega);omega
  refine ab rfl rfl (ab rfl rfl (aa (av (v:=.bool _) rfl rfl) (ak (ag (ck rfl (bZ (bg (bg (bF (ag (an (ah (mvi rfl (aa (bH rfl rfl) ?_))))))))))))));refine mvb rfl (wK (t:=97) rfl (fun Q64=>?_) (fun Q64=>?_))
  ·refine ab rfl rfl (ab rfl rfl (ab rfl rfl (ab rfl rfl (ab rfl rfl (ab rfl rfl (aa (ao (v:=.bool _) rfl rfl) (mvb rfl (ab rfl rfl ?_))))))));refine ab rfl rfl (ab rfl rfl (ab rfl rfl (aa (ao (v:=.bool _) rfl rfl) (asb rfl (ak (ag (aC (bh (v:=.bool _) rfl rfl (⟨⟨_,rfl,fun h9=>?_⟩,hB⟩)))))))))
   have hh:m2≤20000∧s.es.length≤600∧X.length≤100:=by
    first
     |(exfalso;simp at h9;done)
     |(have h8:=dF_ h9;omega)
     |(simp only [decide_eq_false_iff_not] at h9;omega)
     |(simp at h9;omega)
   have hkl:k=a.L.length:=by omega
   refine ⟨⟨by omega,by omega,by omega,by omega,by omega,fun q hq=>?_⟩,hh.2.1,hh.2.2,⟨by omega,by omega⟩,fun y hy=>?_⟩
   ·rw [←h.r.r] at hq;obtain ⟨y,hy,rfl⟩:=List.mem_map.1 hq;obtain ⟨j,hj,rfl⟩:=List.getElem_of_mem hy;have:=hj1 j hj (by omega);omega
   ·obtain ⟨j,hj,rfl⟩:=List.getElem_of_mem hy;have:=hj2 j hj (by omega);omega
  refine af rfl (aa (ae cQ rfl) (af rfl (aa (ae bk rfl) (af rfl (aa (ae cE rfl) (af rfl (aa (aq cG rfl (by exact (show _=some (Value.slice a.E s.es.length a.Ec) from (hk1.from_ aj.rfl_).rd 8 rfl))) ?_)))))));refine af rfl (aa (bm cT rfl) (af rfl (aa (bH rfl rfl) (aa (av (v:=.bool _) rfl rfl) (mvb rfl (wK (t:=105) rfl (fun Q65=>?_) (fun Q65=>?_)))))))
  ·refine ab rfl rfl (ab rfl rfl (ab rfl rfl (ab rfl rfl (aa (ao (v:=.bool _) rfl rfl) (asb rfl (ak (ag (aC (bh (v:=.bool _) rfl rfl (⟨⟨_,rfl,fun h9=>?_⟩,hB⟩))))))))))
   have hh:m2≤20000∧s.es.length≤600∧X.length≤100:=by
    first
     |(exfalso;simp at h9;done)
     |(have h8:=dF_ h9;omega)
     |(simp only [decide_eq_false_iff_not] at h9;omega)
     |(simp at h9;omega)
   have hkl:k=a.L.length:=by omega
   refine ⟨⟨by omega,by omega,by omega,by omega,by omega,fun q hq=>?_⟩,hh.2.1,hh.2.2,⟨by omega,by omega⟩,fun y hy=>?_⟩
   ·rw [←h.r.r] at hq;obtain ⟨y,hy,rfl⟩:=List.mem_map.1 hq;obtain ⟨j,hj,rfl⟩:=List.getElem_of_mem hy;have:=hj1 j hj (by omega);omega
   ·obtain ⟨j,hj,rfl⟩:=List.getElem_of_mem hy;have:=hj2 j hj (by omega);omega
  refine af rfl (aa (ae dm rfl) (af rfl (aa (aq dJ rfl (by exact (show _=some (Value.slice LA X.length lc) from (hk1.from_ aj.rfl_).rd 22 rfl))) ?_)));refine af rfl (aa (bm eZ rfl) (af rfl (aa (bH rfl rfl) (aa (av (v:=.bool _) rfl rfl) (asb rfl (ak (ag (aC (bh (v:=.bool _) rfl rfl (⟨⟨_,rfl,fun h9=>?_⟩,hB⟩))))))))))
  have hh:m2≤20000∧s.es.length≤600∧X.length≤100:=by
   first
    |(exfalso;simp at h9;done)
    |(have h8:=dF_ h9;omega)
    |(simp only [decide_eq_false_iff_not] at h9;omega)
    |(simp at h9;omega)
  have hkl:k=a.L.length:=by omega
  refine ⟨⟨by omega,by omega,by omega,by omega,by omega,fun q hq=>?_⟩,hh.2.1,hh.2.2,⟨by omega,by omega⟩,fun y hy=>?_⟩
  ·rw [←h.r.r] at hq;obtain ⟨y,hy,rfl⟩:=List.mem_map.1 hq;obtain ⟨j,hj,rfl⟩:=List.getElem_of_mem hy;have:=hj1 j hj (by omega);omega
  ·obtain ⟨j,hj,rfl⟩:=List.getElem_of_mem hy;have:=hj2 j hj (by omega);omega
def fK (k:Nat) (l:List Msg):Prop:=l.length≤k∧∀ m∈l,m.es.length≤16
theorem fK.nil {k:Nat}:fK k []:=⟨Nat.zero_le _,fun m hm=>by cases hm⟩
theorem tj (s:Rf) (to:Int):(jf s to).es.length≤16:=by
 unfold jf;simp only;split
 ·exact Nat.zero_le _
 ·show ((s.es.drop _).take 16).length≤16;rw [List.length_take];omega
theorem fK.sends {k:Nat} {p:Sp} (h:fK k p.out) (l:List Int):fK (k+l.length) (p.sends l).out:=by
 rw [fW];refine ⟨by rw [List.length_append,List.length_map];have:=h.1;omega,fun x hx=>?_⟩;rcases List.mem_append.1 hx with e | e
 ·exact h.2 x e
 ·obtain ⟨y,_,rfl⟩:=List.mem_map.1 e;exact tj _ _
theorem fK.up {k j:Nat} {l:List Msg} (h:fK k l) (hj:k≤j):fK j l:=⟨Nat.le_trans h.1 hj,h.2⟩
theorem bj.chgT {w w':World} {tag:Nat→Nat} {s:Rf} {a:Ra} {U:Nat→Prop} (h:bj w tag s a) (hC:Chg U w w') (hU:∀ q,q<w.heap.size→U q→tag q=8∨tag q=6∨∃ j,tag q=1000+2*j):bj w' tag s a:=by
 have mv:∀ {d e s n cc:Nat} {A:Option Addr} {xs:List Value},StC d→w.ownsRow 0 e s (.slice A n cc) n xs∧Col tag d A→w'.ownsRow 0 e s (.slice A n cc) n xs∧Col tag d A:=fun hd h=>⟨dY h.1 hC (fun k hk e=>by
  have h1:=h.2 k hk;have h8:=hd.eight;have h6:=hd.six;rcases hU k (dD h.1 k hk) e with e | e | ⟨j,e⟩
  ·omega
  ·omega
  ·have:=hd.even j;omega),h.2⟩
 exact ⟨fun hx=>mv (.inl (by decide)) (h.e hx),fun hx=>mv (.inl (by decide)) (h.v hx),fun hx=>mv (.inl (by decide)) (h.x hx),fun hx=>mv (.inl (by decide)) (h.m hx),fun hx=>mv (.inl (by decide)) (h.n hx),h.r,fun hx=>mv (.inl (by decide)) (h.q hx),fun i hi hx=>mv (.inr ⟨i,rfl⟩) (h.k i hi hx)⟩
theorem eb.chgT {w w':World} {tag:Nat→Nat} {out:List Msg} {O:Option Addr} {oc:Nat} {L:List Msg} {U:Nat→Prop} (h:eb w tag out O oc L) (hC:Chg U w w') (hU:∀ q,q<w.heap.size→U q→tag q=8∨StC (tag q)):eb w' tag out O oc L:=by
 have mv:∀ {d e s n cc:Nat} {A:Option Addr} {xs:List Value},(d=6∨∃ j,d=1000+2*j)→w.ownsRow 0 e s (.slice A n cc) n xs∧Col tag d A→w'.ownsRow 0 e s (.slice A n cc) n xs∧Col tag d A:=fun hd h=>⟨dY h.1 hC (fun k hk e=>by
  have h1:=h.2 k hk;rcases hU k (dD h.1 k hk) e with e | e
  ·rcases hd with hd | ⟨j,hd⟩ <;> omega
  ·rcases hd with hd | ⟨j,hd⟩
   ·have:=e.six;omega
   ·have:=e.even j;omega),h.2⟩
 exact ⟨(mv (.inl rfl) ⟨h.o,h.c⟩).1,h.l,fun j hj=>mv (.inr ⟨j,rfl⟩) (h.e j hj),h.c⟩
theorem eb.len {w:World} {tag:Nat→Nat} {out:List Msg} {O:Option Addr} {oc:Nat} {L:List Msg} (h:eb w tag out O oc L):L.length=out.length:=by
 have h9:=congrArg List.length h.l;rw [List.length_map] at h9;exact h9
theorem eb.es {w:World} {tag:Nat→Nat} {out:List Msg} {O:Option Addr} {oc:Nat} {L:List Msg} {k:Nat} (h:eb w tag out O oc L) (ho:fK k out):∀ x∈L,x.es.length≤16:=fun x hx=>by
 have h1:pl x∈out:=by rw [←h.l];exact List.mem_map_of_mem hx
 exact (show (pl x).es.length≤16 from ho.2 _ h1)
theorem eb.ents {w:World} {tag:Nat→Nat} {out:List Msg} {O:Option Addr} {oc:Nat} {L:List Msg} (h:eb w tag out O oc L):∀ x∈L,ct w (.slice x.E x.es.length x.c) x.es:=fun x hx=>by
 obtain ⟨j,hj,rfl⟩:=List.getElem_of_mem hx;exact ct.of_own (h.e j hj).1 rfl
theorem u6 {w:World} {tag tag':Nat→Nat} {out:List Msg} {O O':Option Addr} {oc oc':Nat} {L L':List Msg} (h:eb w tag out O oc L) (h':eb w tag' out O' oc' L') (ho:fK 1000 out) :
 Rt prog 50 [.slice O L.length oc,.slice O' L'.length oc'] w fun v w'=>v=.bool true∧aj w w':=by
 have e:=h'.len.trans h.len.symm;have hl:=h.len;have h1:=ho.1;rw [e];exact pW O O' oc oc' L.length L L' w (f_.own lV (by decide) h.o).2 (f_.own lV (by decide) h'.o).2 rfl e (h.l.trans h'.l.symm) h.ents h'.ents (fun x hx=>by have:=h.es ho x hx;omega) (by omega)
def UBs (z b4 b11:Nat):Nat→Prop:=fun q=>q=b11∨q=b4∨z≤q
theorem qG (s:Rf) (a:Ra) (w:World) (hrd:fi w s a) (hl:s.votes.length≤1000000∧s.next.length≤1000000∧s.mtch.length≤1000000∧s.sent.length≤1000000∧s.reads.length≤1000000∧∀ q∈s.reads,q.acks.length≤1000000) {b:Bool} (hm:iw s=b):Rt prog 30 [.agg (rfV s a).toArray] w fun v w'=>v=.bool b∧aj w w':=by
 subst hm;exact uP s a w hrd hl
theorem kE (i:Int) (n N:Nat) (w:World) (hn:0<n∧n≤1000) (h:wiN i n=N):Rt prog 31 [.int .i64 i,.int .i64 (n:Nat)] w fun v w'=>v=.int .i64 (N:Nat)∧w=w':=by
 subst h;exact s7 i n w hn
theorem sz7 {s:Rf} (hl:s.votes.length≤1000000∧s.next.length≤1000000∧s.mtch.length≤1000000∧s.sent.length≤1000000∧s.reads.length≤1000000∧∀ q∈s.reads,q.acks.length≤1000000) (hel:s.es.length≤1000000):s.es.length≤1000000∧s.votes.length≤1000000∧s.next.length≤1000000∧s.mtch.length≤1000000∧s.sent.length≤1000000∧s.reads.length≤1000000∧∀ q∈s.reads,q.acks.length≤1000000:=⟨hel,hl⟩
theorem p_:aY prog 21=true:=by kernel_rfl
theorem ga:aY prog 22=true:=by kernel_rfl
theorem p9:aY prog 23=true:=by kernel_rfl
def wkA (k:Int):Rf:={ pM 1 1 1 with elapsed:=k }
def wkB (e r:Int):Rf:=⟨1,1,2,1,1,1,0,0,[⟨1,1,⟨#[]⟩⟩],⟨#[]⟩,1,e,10+bl (nx 1) 10,nx (nx 1),[],[1],[1],[0],r,[],⟨#[]⟩,0⟩
def wkR:Nat→Rf
 |0=>pM 1 1 1
 |k+1=>(gj (wkR k)).s
theorem uZ:med [1]=1:=by
 have h:srt [1]=[1]:=List.perm_singleton.1 (kg [1]);unfold med;rw [h];rfl
theorem s5 (k:Int):(gQ (wkA k)).s=wkB 0 0:=by
 rw [pY (show (wkA k).term≠ec by show (0:Int)≠1099511627775;decide)];show (ln ⟨dH (wkA k),[]⟩).s=_;unfold ln;rw [if_pos (show ep (⟨dH (wkA k),[]⟩:Sp).s.nodes (⟨dH (wkA k),[]⟩:Sp).s.votes=true from (by decide:ep 1 [1]=true))];unfold pP;rw [if_neg (show ¬ eR (⟨dH (wkA k),[]⟩:Sp).s=true from fun h=>Bool.noConfusion (show false=true from h))];show bX (Sp.all ⟨ch (dW (dH (wkA k))) ⟨#[]⟩,[]⟩).s=_;rw [m_];show bX (ch (dW (dH (wkA k))) ⟨#[]⟩)=_;unfold bX;simp only;rw [show cV (ch (dW (dH (wkA k))) ⟨#[]⟩).mtch (ch (dW (dH (wkA k))) ⟨#[]⟩).id (aQ (ch (dW (dH (wkA k))) ⟨#[]⟩))=[1] from rfl,uZ];rfl
theorem uI {k:Int} (h:0≤k∧k≤20):iw (wkA k)=true:=by
 have hb:=rq 1;refine aO.2 ⟨?_,?_,rfl,?_,?_⟩
 ·unfold gy wkA pM gh zR;simp only;omega
 ·exact ⟨rfl,Int.le_refl 0,⟨Int.le_refl 0,Int.le_refl 0⟩,Nat.zero_le _,.inr rfl⟩
 ·exact (a_ (show (0:Int)≠2 by decide)).2 rfl
 ·exact ⟨Nat.zero_le _,⟨Int.le_refl 0,z11⟩,.inr rfl⟩
theorem uH {e r:Int} (he:0≤e∧e≤1) (hr:0≤r∧r≤20):iw (wkB e r)=true:=by
 have hb:=rq (nx 1);refine aO.2 ⟨?_,?_,rfl,?_,?_⟩
 ·unfold gy wkB;simp only;omega
 ·exact ⟨(by decide:cg 0 0 [⟨1,1,⟨#[]⟩⟩]=true),Int.le_refl 1,⟨(by decide:(0:Int)≤1),Int.le_refl 1⟩,Nat.zero_le _,.inr rfl⟩
 ·exact (aN rfl).2 ⟨⟨rfl,rfl,rfl,Nat.zero_le _⟩,⟨fun x hx=>by rw [List.mem_singleton.1 hx];exact ⟨Int.le_refl 1,(by decide:(1:Int)≤1+1)⟩,fun x hx=>by rw [List.mem_singleton.1 hx];exact ⟨(by decide:(0:Int)≤1),Int.le_refl 1⟩,fun x hx=>by rw [List.mem_singleton.1 hx];exact ⟨Int.le_refl 0,Int.le_refl 0⟩⟩,fun q hq=>by cases hq⟩
 ·exact ⟨Nat.zero_le _,⟨Int.le_refl 0,z11⟩,.inr rfl⟩
theorem s6:∀ k:Nat,k≤20→((k:Int)<10+bl 1 10∧wkR k=wkA k)∨(10+bl 1 10≤(k:Int)∧∃ e r:Int,(0≤e∧e≤1)∧(0≤r∧r≤k)∧wkR k=wkB e r)
 |0,_=>by
  have hb:=rq 1;exact .inl ⟨by show (0:Int)<_;omega,rfl⟩
 |k+1,hk=>by
  have hb:=rq 1;rcases s6 k (by omega) with ⟨h1,h2⟩ | ⟨h1,e,r,he,hr,h2⟩
  ·have ht:wkR (k+1)=(gj (wkA k)).s:=by rw [←h2];rfl
   have hm:min ((k:Int)+1) ec=((k+1:Nat):Int):=by unfold ec;omega
   have h3:gj (wkA k)=if 10+bl 1 10≤((k+1:Nat):Int) then gQ (wkA ((k+1:Nat):Int)) else ⟨wkA ((k+1:Nat):Int),[]⟩:=by
    unfold gj;simp only;rw [if_neg (show ¬ (wkA k).role=2 by show ¬ (0:Int)=2;decide),show min ((wkA (k:Int)).elapsed+1) ec=((k+1:Nat):Int) from hm];rfl
   rw [ht,h3];by_cases h4:10+bl 1 10≤((k+1:Nat):Int)
   ·rw [if_pos h4,s5];exact .inr ⟨h4,0,0,⟨by omega,by omega⟩,⟨by omega,by omega⟩,rfl⟩
   ·rw [if_neg h4];exact .inl ⟨by omega,rfl⟩
  ·have ht:wkR (k+1)=(gj (wkB e r)).s:=by rw [←h2];rfl
   have hm:min (e+1) ec=e+1:=by unfold ec;omega
   have hm2:min (r+1) ec=r+1:=by unfold ec;omega
   have h3:(gj (wkB e r)).s=if 2≤e+1 then wkB 0 (r+1) else wkB (e+1) r:=by
    unfold gj;simp only;rw [if_pos (show (wkB e r).role=2 from rfl),show min ((wkB e r).elapsed+1) ec=e+1 from hm,show min ((wkB e r).round+1) ec=r+1 from hm2];split
    ·rw [m_];rfl
    ·rfl
   rw [ht,h3];refine .inr ⟨by omega,?_⟩;split
   ·exact ⟨0,r+1,⟨by omega,by omega⟩,⟨by omega,by omega⟩,rfl⟩
   ·exact ⟨e+1,r,⟨by omega,by omega⟩,⟨by omega,by omega⟩,rfl⟩
theorem vG {k:Nat} (hk:k≤20):iw (wkR k)=true:=by
 rcases s6 k hk with ⟨_,h2⟩ | ⟨_,e,r,he,hr,h2⟩
 ·rw [h2];exact uI (by omega)
 ·rw [h2];exact uH he (by omega)
theorem vH:(wkR 20).role=2∧(wkR 20).term=1∧(wkR 20).commit=1:=by
 have hb:=rq 1;rcases s6 20 (Nat.le_refl _) with ⟨h1,_⟩ | ⟨_,e,r,_,_,h2⟩
 ·omega
 ·rw [h2];exact ⟨rfl,rfl,rfl⟩
theorem RfF.sizes {s:Rf} (h:RfF s):(s.votes.length≤1000000∧s.next.length≤1000000∧s.mtch.length≤1000000∧s.sent.length≤1000000∧s.reads.length≤1000000∧∀ q∈s.reads,q.acks.length≤1000000)∧s.es.length≤1000000:=by
 have h1:=h.vl;have h2:=h.n
 have h3:fv s≤7:=by
  by_cases hr:s.role=2
  ·rw [fc hr];omega
  ·rw [lX hr];omega
 have h4:=h.nx.1;have h5:=h.ma.1;have h6:=h.se.1;have h7:=h.rl;have h8:=h.last;refine ⟨⟨by omega,by omega,by omega,by omega,by omega,fun q hq=>?_⟩,by omega⟩;have h9:=(bS.1 (h.rd q hq)).2.2.2;have h10:=pL h9;have h11:=kR q.acks 0 s.nodes h10.2 fun x hx=>⟨by have:=(h10.1 x hx).1;omega,(h10.1 x hx).2⟩
 omega
theorem wY {w:World} {id n seed:Int}:fi w (pM id n seed) a0:=bj.rd (bj.same (s':=pM id n seed) (bj.zero (w:=w) (tag:=fun _=>8)) rfl rfl rfl rfl rfl rfl)
theorem vY (w:World):Rt prog 21 [.int .i64 1,.int .i64 1,.int .u64 1] w fun v w'=>v=.tuple #[.agg (rfV (pM 1 1 1) a0).toArray,.int .i64 0]∧aj w w':=
 (uW 1 1 1 w).mono fun v w' h=>⟨h.1.elim (fun e=>e.2) (fun e=>absurd (by unfold lM;omega) e.1),h.2⟩
theorem ji (e:Int) (w:World) :
 Rt prog 22 [.int .i64 e] w (fun v w'=>v=.int .i64 e∧w=w'):=by
 refine enter (n:=4) Tryz.func22 rfl rfl rfl (an (ah (asi rfl (ak (ag (an (ah (mvi rfl (asi rfl (ak (ag (aC (bh (v:=.int _ _) rfl rfl (⟨rfl,rfl⟩))))))))))))))
theorem pg (w:World) :
 Rt prog 18 [] w (fun v w'=>v=.bool true∧aj w w'):=by
 refine enter (n:=37) Tryz.func18 rfl rfl rfl (an (ah (asb rfl (ak (ag (an (ah (aG p_ (vY _) ?_))))))));rintro v5 w1 ⟨rfl,E5⟩;refine mvt rfl (aa (aS rfl rfl) (aa (aS rfl rfl) ?_));have hz1:=((aj.rfl_.next E5)).size;refine cq cJ ?_;intro b1 w2 E1 hb1 hk1;have hg1:w.heap.size≤b1:=by omega
 refine cu (vs:=[_,_,_,_,_,_,_,_,_,_,_,_,_,_,_,_,_,_,_,_,_,_]) aD rfl rfl (by simp [Value.oneCell']) (hk1) rfl ?_;intro w3 O1 P1;refine asi rfl (ak (ag (an (an (ah (mvi rfl (aG ga (ji _ _) ?_)))))));rintro v9 w4 ⟨rfl,rfl⟩;refine aa (fh (dt rfl rfl) rfl) (ak (ag (ck rfl (aR (ag (an (an (ah (asi rfl (ak (ag (bf (cz (G:=Nat×Ra) [0,11,12,13,14,15,16,17,18,19,20,21,22,23] (fun (k,_)=>[(2,.int .i64 0),(3,.int .i64 (k:Nat))]) (fun (k,a) w'=>k≤20∧Blk w' b1 29 (rfV (wkR k) a).toArray∧fi w' (wkR k) a∧aj w w') (fun (k,_)=>20-k) ((0,a0)) ⟨rfl,rfl,trivial⟩ ?_ ?_)))))))))))))
 ·exact ⟨Nat.zero_le _,P1.from_ aj.rfl_,wY,(((aj.rfl_.next E5).next E1).only O1 (hg1))⟩
 rintro ⟨k,a⟩ ρ5 w5 ⟨hk,hkb,hrd,hB⟩;refine an (an (ah (mvi rfl (aa (bG rfl rfl) (ak (ag (xD rfl (fun Q6=>?_) (fun Q6=>?_))))))))
 ·have hmk:=vG (k:=k) (by omega);have hszs:=(jZ hmk).sizes;refine aR (ag (an (bf (an (ah (aa (aT (cs:=rfV (wkR k) a) aL aD rfl ((hkb.from_ aj.rfl_).whole)) ?_))))));have hM17:aj _ w5:=aj.rfl_;have hlt1:b1<(w5).heap.size:=(hkb.from_ aj.rfl_).lt;refine aG p9 (s_ (wkR k) a _ (hrd.from_ aj.rfl_) hszs.1 hszs.2 hmk) ?_;rintro v17 w7 ⟨⟨tag9,a9,O9,oc9,L9,rfl,hf9,hm9,ht9⟩,E17⟩;refine mvt rfl (aa (aS rfl rfl) (aa (aS rfl rfl) (aa (aS rfl rfl) (cu (vs:=[_,_,_,_,_,_,_,_,_,_,_,_,_,_,_,_,_,_,_,_,_,_]) aD rfl rfl (by simp [Value.oneCell']) (((hkb.from_ hM17).from_ E17)) rfl ?_))));intro w8 O7 P7;have hrd9:fi w8 (wkR (k+1)) a9:=bj.rd (cn.chg8 hf9 (O7.toChg rfl) (ht9 b1 hlt1));refine asi rfl (ak (ag (an (ah (mvi rfl (aG ga (ji _ _) ?_))))));rintro v22 w9 ⟨rfl,rfl⟩;refine aa (fh (dt rfl rfl) rfl) (ak (ag (ck rfl (aR (bN (ag (ah (mvi rfl (aa (bE rfl rfl (by omega)) (asi rfl (ak ?_)))))))))));refine cK ((k+1,a9)) ⟨(by first | rfl | (refine br ?_;omega)),(by first | rfl | (refine br ?_;omega)),trivial⟩ (by (iterate 31 refine bQ rfl ?_);exact b_) ⟨?_,?_⟩
  ·exact ⟨by omega,P7.from_ aj.rfl_,hrd9.from_ aj.rfl_,((hB.next E17).only O7 (hg1))⟩
  ·show 20-(k+1)<20-k;omega
 have h20:k=20:=by omega
 have hwe:=vH;rw [←h20] at hwe;refine bZ (bg (bg (bF (ag (an (ah (aa (ae cF rfl) (aa (aq ar rfl (by exact (show _=some (Value.int .i64 (wkR k).role) from (hkb.from_ aj.rfl_).rd 2 rfl))) ?_))))))));refine aa (dN (bC rfl rfl) (by rw [hwe.1];rfl)) ?_;refine mvb rfl (af rfl (aa (ae cB rfl) (af rfl (aa (aq ar rfl (by exact (show _=some (Value.int .i64 (wkR k).term) from (hkb.from_ aj.rfl_).rd 3 rfl))) ?_))));refine af rfl (aa (dN (bC rfl rfl) (by rw [hwe.2.1];rfl)) ?_);refine aa (ao (v:=.bool _) rfl rfl) (mvb rfl (af rfl (aa (ae cA rfl) (af rfl (aa (aq ar rfl (by exact (show _=some (Value.int .i64 (wkR k).commit) from (hkb.from_ aj.rfl_).rd 10 rfl))) ?_)))));refine af rfl (aa (dN (bC rfl rfl) (by rw [hwe.2.2];rfl)) ?_);refine aa (ao (v:=.bool _) rfl rfl) (asb rfl (ak (ag (aC (bh (v:=.bool _) rfl rfl (⟨rfl,hB⟩))))))
theorem uF:zR.votes.length≤1000000∧zR.next.length≤1000000∧zR.mtch.length≤1000000∧zR.sent.length≤1000000∧zR.reads.length≤1000000∧∀ q∈zR.reads,q.acks.length≤1000000:=⟨Nat.zero_le _,Nat.zero_le _,Nat.zero_le _,Nat.zero_le _,Nat.zero_le _,fun q hq=>by cases hq⟩
theorem jE:zR.es.length≤1000000∧zR.votes.length≤1000000∧zR.next.length≤1000000∧zR.mtch.length≤1000000∧zR.sent.length≤1000000∧zR.reads.length≤1000000∧∀ q∈zR.reads,q.acks.length≤1000000:=⟨Nat.zero_le _,uF⟩
theorem r_ (w:World):Rt prog 50 [.slice none 0 0,.slice none 0 0] w fun v w'=>v=.bool true∧aj w w':=
 pW none none 0 0 0 [] [] w (fun h=>absurd h (Nat.lt_irrefl _)) (fun h=>absurd h (Nat.lt_irrefl _)) rfl rfl rfl (fun x hx=>by cases hx) (fun x hx=>by cases hx) (fun x hx=>by cases hx) (Nat.zero_le _)
theorem mj (tag:Nat→Nat) (w:World):Rt prog 52 [.slice none 0 0] w fun v w'=>v=.tuple #[]∧Chg (fun q=>tag q=6∨∃ i,tag q=1000+2*i) w w':=
 ki tag [] none 0 [] w ⟨World.ownsRow_nil _ _ _ _,rfl,fun j hj=>absurd hj (Nat.not_lt_zero _),Col.none⟩ (Nat.zero_le _) (fun x hx=>by cases hx)
theorem mc {α:Type} (L:List α) (n:Nat) (h:n<L.length):L.take (n+1)=L.take n++[L[n]]:=List.take_succ_eq_append_getElem h
structure xJ (w:World) (tag:Nat→Nat) (l:List Rd) (A:Option Addr) (c:Nat) (N:List (Rd×Option Addr×Nat)):Prop where
 q:w.ownsRow 0 54 4 (.slice A N.length c) N.length (N.flatMap rdV)
 r:N.map (fun q=>q.1)=l
 k:∀ (j:Nat) (h:j<N.length),w.ownsRow 0 3 1 (.slice N[j].2.1 N[j].1.acks.length N[j].2.2) N[j].1.acks.length (N[j].1.acks.map iV)∧Col tag (1000+2*j) N[j].2.1
 c:Col tag 6 A
section
variable {w w':World} {tag:Nat→Nat} {l:List Rd} {A:Option Addr} {c:Nat} {N:List (Rd×Option Addr×Nat)}
structure yf (w:World) (l:List Rd) (A:Option Addr) (N:List (Rd×Option Addr×Nat)):Prop where
 q:f_ 4 rdV w A N
 r:N.map (fun q=>q.1)=l
 k:∀ q∈N,IR w q.2.1 q.2.2 q.1.acks
end
def Sz7 (s:Rf):Prop:=s.es.length≤1000000∧s.votes.length≤1000000∧s.next.length≤1000000∧s.mtch.length≤1000000∧s.sent.length≤1000000∧s.reads.length≤1000000∧∀ q∈s.reads,q.acks.length≤1000000
theorem Sz7.settle {s:Rf} (h:Sz7 s):Sz7 (bX s):=by
 obtain ⟨h0,h1,h2,h3,h4,h5,h6⟩:=h;exact ⟨h0,h1,h2,by show (cV s.mtch s.id _).length≤_;rw [fk];exact h3,h4,h5,h6⟩
theorem ib:∀ (l:List Int) (p:Sp),l.foldl (fun (p:Sp) k=>p.send k) p=p.sends l
 |[],_=>rfl
 |x::l,p=>ib l (p.send x)
theorem Sz7.propose {s:Rf} (h:Sz7 s) (he:s.es.length≤1000) (d:ByteArray):Sz7 (bU s d).s:=by
 show Sz7 (bX (((bR (ch s d)).filter fun k=>decide (at1 (ch s d).next k=aQ (ch s d))).foldl (fun (p:Sp) k=>p.send k) (⟨ch s d,[]⟩:Sp)).s);rw [ib,fW];have h1:Sz7 (ch s d):=⟨by show (s.es++[_]).length≤_;rw [List.length_append,List.length_singleton];omega,h.2⟩;exact Sz7.settle h1
theorem pE {s:Rf} (h:RfF s) (d:ByteArray):fK 100 (bU s d).out:=by
 show fK 100 (((bR (ch s d)).filter fun k=>decide (at1 (ch s d).next k=aQ (ch s d))).foldl (fun (p:Sp) k=>p.send k) (⟨ch s d,[]⟩:Sp)).out;rw [ib];have hn:=h.n;have h1:=iH (ch s d);have h2:(ch s d).nodes=s.nodes:=rfl;refine (fK.sends (k:=0) fK.nil _).up ?_;have:=List.length_filter_le (fun k=>decide (at1 (ch s d).next k=aQ (ch s d))) (bR (ch s d));omega
end Go.Proofs.YtkpooenofjdpmaaGreat
namespace Go.Proofs.YtkpooenofjdpmaaGreat
open Go.Proofs.Tryz (prog)
open Go.RowKit
open Go.ChangeShapes Go.WideShapes Go.ChangeAt
def enB (n:Int) (x:Rd×Option Addr×Nat):Bool:=ep n x.1.acks
section
variable {α:Type} {p:α→Bool} {L:List α} {i:Nat}
theorem vV (h:i<L.length) (hp:p L[i]=true):(L.take (i+1)).filter p=(L.take i).filter p++[L[i]]∧(L.take (i+1)).filter (fun x=> !p x)=(L.take i).filter fun x=> !p x:=by
 rw [mc L i h,List.filter_append,List.filter_append];simp [hp]
theorem vW (h:i<L.length) (hp:p L[i]=false):(L.take (i+1)).filter p=(L.take i).filter p∧(L.take (i+1)).filter (fun x=> !p x)=((L.take i).filter fun x=> !p x)++[L[i]]:=by
 rw [mc L i h,List.filter_append,List.filter_append];simp [hp]
end
def yd (w w':World) (s:Rf) (l:List Rd) (v:Value):Prop:=∃ tag a A c N,v=.tuple #[.agg (rfV s a).toArray,.slice A (List.length N) c,.int .i64 0]∧bj w' tag s a∧xJ w' tag l A c N∧∀ k,k<w.heap.size→tag k=8
structure ye (z:Nat) (w:World) (A1:Option Addr) (c1:Nat) (A2:Option Addr) (c2:Nat) (N1 N2:List (Rd×Option Addr×Nat)):Prop where
 r1:w.ownsRow z 54 4 (.slice A1 N1.length c1) N1.length (N1.flatMap rdV)
 r2:w.ownsRow z 54 4 (.slice A2 N2.length c2) N2.length (N2.flatMap rdV)
 ne:∀ k,A1.map (·.block)=some k→¬ A2.map (·.block)=some k
end Go.Proofs.YtkpooenofjdpmaaGreat
namespace Go.Proofs.YtkpooenofjdpmaaGreat
open Go.Proofs.Tryz (prog)
open Go.RowKit
open Go.ChangeShapes Go.WideShapes Go.ChangeAt
section
variable {P:Program} {L:List (Nat×Value)} {w:World} {fn:Func}
theorem jS {m:Nat} {r r' r'' r3:ResultVar} {R:Value→World→Prop} {v v' v'' v3:Value} (hr:fn.results=#[r,r',r'',r3]) (h1:RV P ⟨m,[]⟩ L w r v) (h2:RV P ⟨m,[]⟩ L w r' v') (h3:RV P ⟨m,[]⟩ L w r'' v'') (h4:RV P ⟨m,[]⟩ L w r3 v3) (h:R (.tuple #[v,v',v'',v3]) w) :
 bodyPost P fn (fun e w'=>∃ v,e=.returned v∧R v w') .ret (mkA ⟨m,[]⟩ L) w:=by
 refine bodyPost_ret (v:=.tuple #[v,v',v'',v3]) ?_ rfl ⟨_,rfl,h⟩;have e1:=h1.out;have e2:=h2.out;have e3:=h3.out;have e4:=h4.out;show (results fn (mkT m L)).run P w=_;cases r <;> cases r' <;> cases r'' <;> cases r3 <;> simp_all only [] <;> (try obtain ⟨_,_,_⟩:=e1) <;> (try obtain ⟨_,_,_⟩:=e2) <;> (try obtain ⟨_,_,_⟩:=e3) <;> (try obtain ⟨_,_,_⟩:=e4) <;> simp_all [results,asAddr]
end
def iN (s:Rf) (d:ByteArray):Int:=if 4096<d.size then 1 else if s.role≠2 then 8 else if eR s=true then 6 else 0
theorem t_ {s:Rf} {d:ByteArray} (h:4096<d.size):iN s d=1:=by unfold iN;rw [if_pos h]
theorem tZ {s:Rf} {d:ByteArray} (h:¬ 4096<d.size) (h2:s.role≠2):iN s d=8:=by unfold iN;rw [if_neg h,if_pos h2]
theorem qV {s:Rf} {d:ByteArray} (h:¬ 4096<d.size) (h2:s.role=2) (h3:eR s=true):iN s d=6:=by unfold iN;rw [if_neg h,if_neg (fun e=>e h2),if_pos h3]
theorem ua {s:Rf} {d:ByteArray} (h:iN s d=0):d.size≤4096∧s.role=2∧eR s=false:=by
 unfold iN at h;split at h
 ·cases h
 ·split at h
  ·cases h
  ·split at h
   ·cases h
   ·rename_i h1 h2 h3;exact ⟨Nat.le_of_not_lt h1,Decidable.byContradiction h2,by simpa using h3⟩
theorem r9 {s:Rf} {d:ByteArray} (h:iN s d≠0) (h1:¬ 4096<d.size) (h2:s.role=2):eR s=true:=by
 cases h3:eR s with
 |true=>rfl
 |false=>
  refine absurd ?_ h;unfold iN;rw [if_neg h1,if_neg (fun e=>e h2),if_neg (by rw [h3];decide)]
def PS (C:Rf) (i:Nat):Sp:=(⟨C,[]⟩:Sp).sends (((bR C).take i).filter fun k=>decide (at1 C.next k=aQ C))
theorem sj (C:Rf) (i:Nat):PS C i=⟨C,(PS C i).out⟩:=by
 unfold PS;rw [fW]
theorem wB (C:Rf) (i:Nat):(PS C i).out.length≤(bR C).length:=by
 unfold PS;rw [kL];have h1:=List.length_filter_le (fun k=>decide (at1 C.next k=aQ C)) ((bR C).take i);have h2:((bR C).take i).length≤(bR C).length:=by rw [List.length_take];omega
 have h3:((⟨C,[]⟩:Sp).out).length=0:=rfl;omega
theorem xY {C:Rf} {i:Nat} (h:i<(bR C).length) (hp:at1 C.next (bR C)[i]=aQ C):PS C (i+1)=(PS C i).send (bR C)[i]:=by
 unfold PS;rw [(vV (p:=fun k=>decide (at1 C.next k=aQ C)) h (decide_eq_true hp)).1,jH];rfl
theorem xZ {C:Rf} {i:Nat} (h:i<(bR C).length) (hp:¬ at1 C.next (bR C)[i]=aQ C):PS C (i+1)=PS C i:=by
 unfold PS;rw [(vW (p:=fun k=>decide (at1 C.next k=aQ C)) h (decide_eq_false hp)).1]
theorem uC (s:Rf) (d:ByteArray):bU s d=⟨bX (ch s d),(PS (ch s d) (bR (ch s d)).length).out⟩:=by
 have h1:bU s d=⟨bX (PS (ch s d) (bR (ch s d)).length).s,(PS (ch s d) (bR (ch s d)).length).out⟩:=by
  unfold PS;rw [List.take_length,←ib];rfl
 rw [h1,sj]
theorem r7 (T g:Nat) (s:Rf) (a:Ra) (R:List Value) (w:World) (hb:Blk w g T (rfV s a++R).toArray) (he:ct w (.slice a.E s.es.length a.Ec) s.es) (hm:cg s.b s.t s.es=true) {b:Bool} (h9:eR s=b):Rt prog 75 [.pointer (some ⟨g,0,none⟩)] w fun v w'=>v=.bool b∧aj w w':=by
 subst h9;exact r6 T g s a R w hb he hm
theorem pG (s:Rf) (a:Ra) (d:ByteArray) (w:World) (hrd:fi w s a) (hl:s.votes.length≤1000000∧s.next.length≤1000000∧s.mtch.length≤1000000∧s.sent.length≤1000000∧s.reads.length≤1000000∧∀ q∈s.reads,q.acks.length≤1000000) (hel:s.es.length≤1000000) (hm:iw s=false) :
 Rt prog 34 [.agg (rfV s a).toArray,.string d] w (fun v w'=>v=.tuple #[.agg (rfV zR a0).toArray,.slice none 0 0,.int .i64 0,.int .i64 1]∧aj w w'):=by
 refine enter (n:=83) Tryz.func34 rfl rfl rfl (an (ah (cU (v:=.agg _) rfl ?_)));intro b2 w1 E2 hb2 hk2;refine cq cJ ?_;intro b4 w2 E4 hb4 hk4;have hg4:w.heap.size≤b4:=by rw [hb4];exact ((aj.rfl_.next E2)).size
 refine ass rfl (asi rfl (asi rfl (ak (ag (an (ah (aa (aT (cs:=rfV s a) aL aD rfl (((hk2.from_ E4).from_ aj.rfl_).whole)) (aG jM (uq s a _ (hrd.from_ ((aj.rfl_.next E2).next E4)) hl hel hm) ?_))))))));rintro v15 w3 ⟨rfl,E15⟩;refine mvt rfl (aa (aS rfl rfl) (aa (aS rfl rfl) (asp rfl (asi rfl (ak (ag (an (an (ah (mvi rfl (aa (dN (dt rfl rfl) rfl) (mvb rfl ?_))))))))))));refine ab rfl rfl (ab rfl rfl (ab rfl rfl (aa (ao (v:=.bool _) rfl rfl) (ak (ag (aJ rfl (an (ah (aa (cM (l:=[]) (eg)) (cu (vs:=[_,_,_,_,_,_,_,_,_,_,_,_,_,_,_,_,_,_,_,_,_,_]) aD rfl rfl (by simp [Value.oneCell']) ((hk4.from_ (aj.rfl_.next E15))) rfl ?_))))))))));intro w4 O3 P3;refine ass rfl (asi rfl (asi rfl (ak (ag (aC (ay (jS rfl (dB (cs:=[_,_,_,_,_,_,_,_,_,_,_,_,_,_,_,_,_,_,_,_,_,_]) aL aD rfl (by exact P3.whole)) (c8 (v:=.slice _ _ _) rfl) (c8 (v:=.int _ _) rfl) (c8 (v:=.int _ _) rfl) ?_)))))));exact ⟨rfl,((((aj.rfl_.next E2).next E4).next E15).only O3 (hg4))⟩
theorem oF (s:Rf) (a:Ra) (d:ByteArray) (w:World) (hrd:fi w s a) (hl:s.votes.length≤1000000∧s.next.length≤1000000∧s.mtch.length≤1000000∧s.sent.length≤1000000∧s.reads.length≤1000000∧∀ q∈s.reads,q.acks.length≤1000000) (hel:s.es.length≤1000000) (hm:iw s=true) (he:iN s d≠0) :
 Rt prog 34 [.agg (rfV s a).toArray,.string d] w (fun v w'=>v=.tuple #[.agg (rfV zR a0).toArray,.slice none 0 0,.int .i64 0,.int .i64 (iN s d)]∧aj w w'):=by
 have hF:=jZ hm;refine enter (n:=83) Tryz.func34 rfl rfl rfl (an (ah (cU (v:=.agg _) rfl ?_)));intro b2 w1 E2 hb2 hk2;refine cq cJ ?_;intro b4 w2 E4 hb4 hk4;have hg4:w.heap.size≤b4:=by rw [hb4];exact ((aj.rfl_.next E2)).size
 refine ass rfl (asi rfl (asi rfl (ak (ag (an (ah (aa (aT (cs:=rfV s a) aL aD rfl (((hk2.from_ E4).from_ aj.rfl_).whole)) ?_)))))));have hB9:aj w w2:=((aj.rfl_.next E2).next E4);have hk4b:=hk4.from_ aj.rfl_;have hlt4:=hk4b.lt;obtain ⟨wb,hw9⟩:∃ x,x=w2:=⟨_,rfl⟩;obtain ⟨Z,hZ⟩:∃ Z:Nat→Prop,Z=fun k=>k<wb.heap.size:=⟨_,rfl⟩
 refine aG jM (mW s a _ (hrd.from_ ((aj.rfl_.next E2).next E4)) hl hel hm) ?_;rintro v15 w3 ⟨g,rfl,h9⟩;rw [←hw9] at hB9 hk4b hlt4;rw [←hw9,←hZ] at h9;have stB:∀ {w':World} {p:Sp},bt wb Z w' 96 g p→aj w w':=fun h=>hB9.next (gA (by rw [hZ] at h;exact h))
 have hz4:Z b4:=by rw [hZ];exact hlt4
 have hzw:∀ k,k<w.heap.size→Z k:=fun k hk=>by rw [hZ];exact Nat.lt_of_lt_of_le hk hB9.size
 obtain ⟨tag9,a9,O9,oc9,L9,hs9⟩:=h9.ex;have he9:=hs9.f.rd.e;refine mvt rfl (aa (aS rfl rfl) (aa (aS rfl rfl) (asp rfl (asi rfl (ak (ag (an (an (ah (mvi rfl (aa (fh (dt rfl rfl) rfl) (mvb rfl ?_))))))))))));refine af rfl (mvg rfl (af rfl (aa (df (by kernel_rfl) rfl) (af rfl (aa (bH rfl rfl) (aa (av (v:=.bool _) rfl rfl) (ak (ag (xD rfl (fun Q4=>?_) (fun Q4=>?_))))))))))
 ·refine an (ah (aa (cM (l:=[]) (eg)) (cu (vs:=[_,_,_,_,_,_,_,_,_,_,_,_,_,_,_,_,_,_,_,_,_,_]) aD rfl rfl (by simp [Value.oneCell']) (((h9.kept hz4 hk4b).from_ aj.rfl_)) rfl ?_)));intro w5 O3 P3;refine ass rfl (asi rfl (asi rfl (ak (ag (aC (ay (jS rfl (dB (cs:=[_,_,_,_,_,_,_,_,_,_,_,_,_,_,_,_,_,_,_,_,_,_]) aL aD rfl (by first | exact P3.whole | exact P5.whole | exact P7.whole)) (c8 (v:=.slice _ _ _) rfl) (c8 (v:=.int _ _) rfl) (c8 (v:=.int _ _) rfl) ?_)))))));rw [t_ (by omega)];exact ⟨rfl,((stB h9).only O3 (hg4))⟩
 refine aR (ag (an (an (ah (mvp rfl (aa (aw rfl) (aa (ae aK rfl) (aa (ae aF rfl) (aa (ae cF rfl) (aa (aq ar rfl (by exact (show _=some (Value.int .i64 s.role) from cC (hs9.b.from_ aj.rfl_) 2 rfl))) ?_))))))))));refine aa (dt rfl rfl) (ak (ag (xA rfl (fun Q6=>?_) (fun Q6=>?_))))
 ·refine an (ah (aa (cM (l:=[]) (eg)) (cu (vs:=[_,_,_,_,_,_,_,_,_,_,_,_,_,_,_,_,_,_,_,_,_,_]) aD rfl rfl (by simp [Value.oneCell']) (((h9.kept hz4 hk4b).from_ aj.rfl_)) rfl ?_)));intro w7 O5 P5;refine ass rfl (asi rfl (asi rfl (ak (ag (aC (ay (jS rfl (dB (cs:=[_,_,_,_,_,_,_,_,_,_,_,_,_,_,_,_,_,_,_,_,_,_]) aL aD rfl (by first | exact P3.whole | exact P5.whole | exact P7.whole)) (c8 (v:=.slice _ _ _) rfl) (c8 (v:=.int _ _) rfl) (c8 (v:=.int _ _) rfl) ?_)))))));rw [tZ (by omega) (by omega)];exact ⟨rfl,((stB h9).only O5 (hg4))⟩
 refine aR (ag (an (an (ah (mvp rfl (aa (aw rfl) (aa (ae aK rfl) ?_)))))));have hfu:=r9 he (by omega) (by omega);refine aG kb (r7 96 g s a9 _ _ (hs9.b.from_ aj.rfl_) (he9.from_ aj.rfl_) hF.lg hfu) ?_;rintro v37 w8 ⟨rfl,E37⟩;refine ak (ag (aJ rfl (an (ah (aa (cM (l:=[]) (eg)) (cu (vs:=[_,_,_,_,_,_,_,_,_,_,_,_,_,_,_,_,_,_,_,_,_,_]) aD rfl rfl (by simp [Value.oneCell']) (((h9.kept hz4 hk4b).from_ (aj.rfl_.next E37))) rfl ?_))))));intro w9 O7 P7;refine ass rfl (asi rfl (asi rfl (ak (ag (aC (ay (jS rfl (dB (cs:=[_,_,_,_,_,_,_,_,_,_,_,_,_,_,_,_,_,_,_,_,_,_]) aL aD rfl (by first | exact P3.whole | exact P5.whole | exact P7.whole)) (c8 (v:=.slice _ _ _) rfl) (c8 (v:=.int _ _) rfl) (c8 (v:=.int _ _) rfl) ?_)))))));rw [qV (by omega) (by omega) hfu];exact ⟨rfl,(((stB h9).next E37).only O7 (hg4))⟩
theorem pF (s:Rf) (a:Ra) (d:ByteArray) (w:World) (hrd:fi w s a) (hl:s.votes.length≤1000000∧s.next.length≤1000000∧s.mtch.length≤1000000∧s.sent.length≤1000000∧s.reads.length≤1000000∧∀ q∈s.reads,q.acks.length≤1000000) (hel:s.es.length≤1000000) (hm:iw s=true) (he:iN s d=0) :
 Rt prog 34 [.agg (rfV s a).toArray,.string d] w (fun v w'=>(∃ tag a' O oc L,v=.tuple #[.agg (rfV (bU s d).s a').toArray,.slice O (List.length L) oc,.int .i64 (aQ s+1),.int .i64 0]∧bj w' tag (bU s d).s a'∧eb w' tag (bU s d).out O oc L∧∀ k,k<w.heap.size→tag k=8)∧aj w w'):=by
 have hF:=jZ hm;obtain ⟨hd4,hr2,hfu⟩:=ua he;have hnn:=hF.n;refine enter (n:=83) Tryz.func34 rfl rfl rfl (an (ah (cU (v:=.agg _) rfl ?_)));intro b2 w1 E2 hb2 hk2;refine cq cJ ?_;intro b4 w2 E4 hb4 hk4;have hg4:w.heap.size≤b4:=by rw [hb4];exact ((aj.rfl_.next E2)).size
 refine ass rfl (asi rfl (asi rfl (ak (ag (an (ah (aa (aT (cs:=rfV s a) aL aD rfl (((hk2.from_ E4).from_ aj.rfl_).whole)) ?_)))))));have hB9:aj w w2:=((aj.rfl_.next E2).next E4);have hk4b:=hk4.from_ aj.rfl_;have hlt4:=hk4b.lt;obtain ⟨wb,hw9⟩:∃ x,x=w2:=⟨_,rfl⟩;obtain ⟨Z,hZ⟩:∃ Z:Nat→Prop,Z=fun k=>k<wb.heap.size:=⟨_,rfl⟩
 refine aG jM (mW s a _ (hrd.from_ ((aj.rfl_.next E2).next E4)) hl hel hm) ?_;rintro v15 w3 ⟨g,rfl,h9⟩;rw [←hw9] at hB9 hk4b hlt4;rw [←hw9,←hZ] at h9;have stB:∀ {w':World} {p:Sp},bt wb Z w' 96 g p→aj w w':=fun h=>hB9.next (gA (by rw [hZ] at h;exact h))
 have hz4:Z b4:=by rw [hZ];exact hlt4
 have hzw:∀ k,k<w.heap.size→Z k:=fun k hk=>by rw [hZ];exact Nat.lt_of_lt_of_le hk hB9.size
 obtain ⟨tag9,a9,O9,oc9,L9,hs9⟩:=h9.ex;have he9:=hs9.f.rd.e;refine mvt rfl (aa (aS rfl rfl) (aa (aS rfl rfl) (asp rfl (asi rfl (ak (ag (an (an (ah (mvi rfl (aa (fh (dt rfl rfl) rfl) (mvb rfl ?_))))))))))));refine af rfl (mvg rfl (af rfl (aa (df (by kernel_rfl) rfl) (af rfl (aa (bH rfl rfl) (aa (av (v:=.bool _) rfl rfl) (ak (ag (xD rfl (fun Q4=>?_) (fun Q4=>?_))))))))))
 ·exfalso;omega
 refine aR (ag (an (an (ah (mvp rfl (aa (aw rfl) (aa (ae aK rfl) (aa (ae aF rfl) (aa (ae cF rfl) (aa (aq ar rfl (by exact (show _=some (Value.int .i64 s.role) from cC (hs9.b.from_ aj.rfl_) 2 rfl))) ?_))))))))));refine aa (dt rfl rfl) (ak (ag (xA rfl (fun Q6=>?_) (fun Q6=>?_))))
 ·exfalso;omega
 refine aR (ag (an (an (ah (mvp rfl (aa (aw rfl) (aa (ae aK rfl) (aG kb (r7 96 g s a9 _ _ (hs9.b.from_ aj.rfl_) (he9.from_ aj.rfl_) hF.lg hfu) ?_))))))));rintro v37 w8 ⟨rfl,E37⟩;refine ak (ag (ck rfl (aR (ag (an (ah (mvp rfl (aa (aw rfl) (aa (ae aK rfl) (mvg rfl (aG ns (uw wb Z 96 g ⟨s,[]⟩ _ (h9.from_ (aj.rfl_.next E37)) hF hfu d hd4) ?_)))))))))));rintro v43 w9 ⟨rfl,h10⟩;have hFc:RfF (ch s d):=(hF.added hfu d hd4).1;have hlc:aQ (ch s d)=aQ s+1:=(hF.added hfu d hd4).2;obtain ⟨tg10,a10,O10,oc10,L10,hs10⟩:=h10.ex;have hnc:=hFc.n;refine asi rfl (ak (ag (an (an (ah (mvp rfl (aa (aw rfl) (aa (ae aK rfl) ?_))))))));have hM46:aj _ w9:=aj.rfl_;have hz46:=hM46.size;refine aG j7 (kW 96 g (ch s d) _ _ _ (hs10.b.from_ aj.rfl_) (by omega)) ?_;rintro v47 w10 ⟨⟨A47,c47,rfl,ho47⟩,E47⟩;have hM47:aj _ w10:=(aj.rfl_.next E47)
 have h7:=h10.at_ (Z':=fun k=>Z k∨A47.map (·.block)=some k) hM47 (fun k hk=>by
  have hz7:=hM47.size;rcases hk with e | e
  ·exact ⟨Nat.lt_of_lt_of_le (h10.zw k e) hz7,.inl e⟩
  ·have:=ee ho47 k e;exact ⟨this.2,.inr (by omega)⟩)
 obtain ⟨Z7,hZ7⟩:∃ Z7,Z7=fun k=>Z k∨A47.map (·.block)=some k:=⟨_,rfl⟩
 rw [←hZ7] at h7;have hzi:∀ k,Z k→Z7 k:=fun k hk=>by rw [hZ7];exact .inl hk
 have hzr:∀ k,A47.map (·.block)=some k→Z7 k:=fun k hk=>by rw [hZ7];exact .inr hk
 have hol:=iH (ch s d);have ho7:=ho47;refine aa (bm bJ rfl) (mvi rfl (ak (ag (bf (cz (G:=Nat) [12,50,51,52,53,54,55,56,57,58,59,60,61,62,63,64,65,66,67,68] (fun i=>[(49,.int .i64 (i:Nat))]) (fun i w'=>i≤(bR (ch s d)).length∧bt w10 Z7 w' 96 g (PS (ch s d) i)) (fun i=>(bR (ch s d)).length-i) (0) ⟨rfl,trivial⟩ ?_ ?_)))))
 ·exact ⟨Nat.zero_le _,h7⟩
 rintro i ρ11 w11 ⟨hi,h15⟩;refine an (ah (aa (bG rfl rfl) (ak (ag (an (xD rfl (fun Q12=>?_) (fun Q12=>?_)))))))
 ·have hi9:i<(bR (ch s d)).length:=by omega
  obtain ⟨g7,rfl⟩:=dP ho7 (by omega);have ho8:=dY ho7 h15.fr (fun q hq e=>e (hzr q hq));have hc8:=eJ (l:=bR (ch s d)) ho8 i hi9;have hme:=mH (List.getElem_mem hi9) (by omega);obtain ⟨x,hx9⟩:∃ x,x=(bR (ch s d))[i]:=⟨_,rfl⟩;rw [←hx9] at hc8 hme;have hnd:(ch s d).nodes=s.nodes:=rfl;obtain ⟨k,hk9⟩:∃ k:Nat,x=(k:Int)+1:=⟨(x-1).toNat,by omega⟩;have hXl:s.next.length=s.nodes.toNat:=by rw [hF.nx.1,fc hr2]
  have hkX:k<s.next.length:=by omega
  have h15b:=h15;rw [sj] at h15b;obtain ⟨tgk,⟨eE,eEc,eV,eVc,eX,eXc,eM,eMc,eS,eSc,eQ,eQc,eL⟩,Ok,ock,Lk,hsk⟩:=h15b.ex;have hXo:(w11).ownsRow 0 3 1 (.slice eX s.next.length eXc) s.next.length (s.next.map iV):=(hsk.f.x (by decide)).1;obtain ⟨gX,rfl⟩:=dP hXo (by omega);have hXc:=eJ (l:=s.next) hXo k hkX;have hat:at1 (ch s d).next x=s.next[k]:=by rw [hk9];exact la hkX
  have hPl:=wB (ch s d) i;refine aR (ag (an (bf (an (ah (aa (cH bK rfl rfl (by omega)) (aa (aq ar rfl (by exact dF aj.rfl_ hc8)) ?_)))))));refine asi rfl (ak (ag (an (ah (mvp rfl (aa (aw rfl) (aa (ae aK rfl) (aa (ae aF rfl) (aa (ae bu rfl) (aa (aq aM rfl (by exact (show _=some (Value.slice (some ⟨gX,0,none⟩) s.next.length eXc) from cC (hsk.b.from_ aj.rfl_) 15 rfl))) ?_))))))))));refine mvi rfl (aa (dM rfl rfl (by omega)) (ed (t:=60) (v:=.int _ _) (v':=.int .i64 (k:Nat)) rfl (by exact br (by omega)) ?_));refine aa (cH bK rfl rfl (by omega)) (aa (aq ar rfl (by exact dF aj.rfl_ hXc)) ?_);refine mvi rfl (aa (bC rfl rfl) (ak (ag (xD rfl (fun Q13=>?_) (fun Q13=>?_)))))
  ·refine ah (mvp rfl (mvi rfl ?_));refine aG nc (rT _ Z7 96 g ⟨ch s d,(PS (ch s d) i).out⟩ _ (h15b.from_ aj.rfl_) hFc hr2 (by show (PS (ch s d) i).out.length≤900;omega) x (by show 1≤x∧x≤(ch s d).nodes;omega)) ?_;rintro v67 w14 ⟨rfl,h16⟩;have h26:=h16;rw [←sj,hx9,←xY hi9 (by rw [←hx9,hat,hlc];omega)] at h26;refine ak (bN (ag (ah (aa (bE rfl rfl (by omega)) (mvi rfl (ak ?_))))));refine cK (i+1) ⟨(by first | rfl | (refine br ?_;omega)),trivial⟩ (by (iterate 43 refine bQ rfl ?_);exact b_) ⟨?_,?_⟩
   ·exact ⟨by omega,h26.from_ aj.rfl_⟩
   ·omega
  have h26:=h15.from_ aj.rfl_;rw [←xZ hi9 (by rw [←hx9,hat,hlc];omega)] at h26;refine aR (bN (ag (ah (aa (bE rfl rfl (by omega)) (mvi rfl (ak ?_))))));refine cK (i+1) ⟨(by first | rfl | (refine br ?_;omega)),trivial⟩ (by (iterate 40 refine bQ rfl ?_);exact b_) ⟨?_,?_⟩
  ·exact ⟨by omega,h26.from_ aj.rfl_⟩
  ·omega
 obtain rfl:i=(bR (ch s d)).length:=by omega
 have h9z:=h10.back hM47 h15 hzi;refine bZ (bg (bg (bF (ag (an (ah (mvp rfl (aa (aw rfl) (aa (ae aK rfl) ?_)))))))))
 have h11:bt wb Z w11 96 g ⟨ch s d,(PS (ch s d) (bR (ch s d)).length).out⟩:=by
  rw [←sj];exact h9z.from_ aj.rfl_
 obtain ⟨tg11,a11,O11,oc11,L11,hs11⟩:=h11.ex;refine aG nr (nJ wb Z 96 g (ch s d) (PS (ch s d) (bR (ch s d)).length).out _ h11 _ _ _ _ _ hs11 hFc hr2) ?_;rintro v72 w15 ⟨rfl,h12,_⟩
 have hT:bt wb Z w15 96 g (bU s d):=by
  rw [uC];exact h12
 obtain ⟨tgX,aX,OX,ocX,LX,hsX⟩:=hT.ex;have hBq:aj w w15:=stB hT;have hk4d:=hT.kept hz4 hk4b;have hn4:g≠b4:=fun e=>by have h1:=hsX.z b4 hz4;rw [←e,hsX.gc] at h1;cases h1
 refine ak (ag (an ?_));have hU16:j6 [(0,73,.pointer (some ⟨g,0,none⟩)),(1,74,.pointer (some ⟨g,0,none⟩)),(2,75,.pointer (some ⟨g,0+0,none⟩)),(3,76,.pointer (some ⟨g,0+0+0,none⟩)),(4,77,.agg (rfV (bU s d).s aX).toArray),(5,78,.pointer (some ⟨g,0,none⟩)),(6,79,.pointer (some ⟨g,0,none⟩)),(7,80,.pointer (some ⟨g,0+22,none⟩)),(8,81,.slice OX LX.length ocX),(9,82,.int .i64 (aQ s+1)),(11,5,.slice OX LX.length ocX),(12,6,.int .i64 (aQ s+1)),(13,7,.int .i64 0)]:=by simp [j6]
 refine lZ [(0,73,.pointer (some ⟨g,0,none⟩)),(1,74,.pointer (some ⟨g,0,none⟩)),(2,75,.pointer (some ⟨g,0+0,none⟩)),(3,76,.pointer (some ⟨g,0+0+0,none⟩)),(4,77,.agg (rfV (bU s d).s aX).toArray),(5,78,.pointer (some ⟨g,0,none⟩)),(6,79,.pointer (some ⟨g,0,none⟩)),(7,80,.pointer (some ⟨g,0+22,none⟩)),(8,81,.slice OX LX.length ocX),(9,82,.int .i64 (aQ s+1)),(11,5,.slice OX LX.length ocX),(12,6,.int .i64 (aQ s+1)),(13,7,.int .i64 0)] (fun S w'=>Blk w' g 96 ((rfV (bU s d).s aX)++[Value.slice OX LX.length ocX]).toArray∧(∃ cs:Array Value,cs.size=22∧Blk w' b4 29 cs∧(S 10=true→cs=(rfV (bU s d).s aX).toArray))∧Chg (fun k=>k=b4) w15 w') (by kernel_rfl) (by kernel_rfl) hU16 (by simp) (⟨(hsX.b.from_ aj.rfl_).from_ aj.rfl_.d1,⟨_,rfl,(hk4d.from_ aj.rfl_).from_ aj.rfl_.d1,fun h=>(by cases h)⟩,aj.rfl_.d1.toChg⟩) ?_ ?_
 ·constructor
  ·rintro S L' wS hI hM hS0 ⟨-⟩;have e8:=hI.1 8 (by simp);have hM':=hM;obtain ⟨hgB,⟨cs9,hs9z,hq9,hqe⟩,hC9⟩:=hM';exact bT (aP e8) ⟨hI.put hU16 (.head _),hM⟩
  constructor
  ·rintro S L' wS hI hM hS0 ⟨d0,-⟩;have e73:bp L' 73=.pointer (some ⟨g,0,none⟩):=hI.get (i:=0) (.head _) d0;have hM':=hM;obtain ⟨hgB,⟨cs9,hs9z,hq9,hqe⟩,hC9⟩:=hM';exact bT (aw e73) ⟨hI.put hU16 (.tail _ (.head _)),hM⟩
  constructor
  ·rintro S L' wS hI hM hS0 ⟨d1,-⟩;have e74:bp L' 74=.pointer (some ⟨g,0,none⟩):=hI.get (i:=1) (.tail _ (.head _)) d1;have hM':=hM;obtain ⟨hgB,⟨cs9,hs9z,hq9,hqe⟩,hC9⟩:=hM';exact bT (ae aK e74) ⟨hI.put hU16 (.tail _ (.tail _ (.head _))),hM⟩
  constructor
  ·rintro S L' wS hI hM hS0 ⟨d2,-⟩;have e75:bp L' 75=.pointer (some ⟨g,0+0,none⟩):=hI.get (i:=2) (.tail _ (.tail _ (.head _))) d2;have hM':=hM;obtain ⟨hgB,⟨cs9,hs9z,hq9,hqe⟩,hC9⟩:=hM';exact bT (ae aF e75) ⟨hI.put hU16 (.tail _ (.tail _ (.tail _ (.head _)))),hM⟩
  constructor
  ·rintro S L' wS hI hM hS0 ⟨d3,-⟩;have e76:bp L' 76=.pointer (some ⟨g,0+0+0,none⟩):=hI.get (i:=3) (.tail _ (.tail _ (.tail _ (.head _)))) d3;have hM':=hM;obtain ⟨hgB,⟨cs9,hs9z,hq9,hqe⟩,hC9⟩:=hM';exact bT (aT (cs:=(rfV (bU s d).s aX)) aL aD e76 (kS hgB)) ⟨hI.put hU16 (.tail _ (.tail _ (.tail _ (.tail _ (.head _))))),hM⟩
  constructor
  ·rintro S L' wS hI hM hS0 ⟨-,-⟩;have e8:=hI.1 8 (by simp);have hM':=hM;obtain ⟨hgB,⟨cs9,hs9z,hq9,hqe⟩,hC9⟩:=hM';exact bT (aP e8) ⟨hI.put hU16 (.tail _ (.tail _ (.tail _ (.tail _ (.tail _ (.head _)))))),hM⟩
  constructor
  ·rintro S L' wS hI hM hS0 ⟨d5,-,-⟩;have e78:bp L' 78=.pointer (some ⟨g,0,none⟩):=hI.get (i:=5) (.tail _ (.tail _ (.tail _ (.tail _ (.tail _ (.head _)))))) d5;have hM':=hM;obtain ⟨hgB,⟨cs9,hs9z,hq9,hqe⟩,hC9⟩:=hM';exact bT (aw e78) ⟨hI.put hU16 (.tail _ (.tail _ (.tail _ (.tail _ (.tail _ (.tail _ (.head _))))))),hM⟩
  constructor
  ·rintro S L' wS hI hM hS0 ⟨d6,-,-⟩;have e79:bp L' 79=.pointer (some ⟨g,0,none⟩):=hI.get (i:=6) (.tail _ (.tail _ (.tail _ (.tail _ (.tail _ (.tail _ (.head _))))))) d6;have hM':=hM;obtain ⟨hgB,⟨cs9,hs9z,hq9,hqe⟩,hC9⟩:=hM';exact bT (ae gu e79) ⟨hI.put hU16 (.tail _ (.tail _ (.tail _ (.tail _ (.tail _ (.tail _ (.tail _ (.head _)))))))),hM⟩
  constructor
  ·rintro S L' wS hI hM hS0 ⟨d7,-,-⟩;have e80:bp L' 80=.pointer (some ⟨g,0+22,none⟩):=hI.get (i:=7) (.tail _ (.tail _ (.tail _ (.tail _ (.tail _ (.tail _ (.tail _ (.head _)))))))) d7;have hM':=hM;obtain ⟨hgB,⟨cs9,hs9z,hq9,hqe⟩,hC9⟩:=hM';exact bT (aq gT e80 (by exact (show _=some (Value.slice OX LX.length ocX) from hgB.rd 22 rfl))) ⟨hI.put hU16 (.tail _ (.tail _ (.tail _ (.tail _ (.tail _ (.tail _ (.tail _ (.tail _ (.head _))))))))),hM⟩
  constructor
  ·rintro S L' wS hI hM hS0 ⟨-,-⟩;have e10:=hI.1 10 (by simp);have hM':=hM;obtain ⟨hgB,⟨cs9,hs9z,hq9,hqe⟩,hC9⟩:=hM';exact bT (aP e10) ⟨hI.put hU16 (.tail _ (.tail _ (.tail _ (.tail _ (.tail _ (.tail _ (.tail _ (.tail _ (.tail _ (.head _)))))))))),hM⟩
  constructor
  ·rintro S L' wS hI hM hS0 ⟨d4,d0,d1,d2,d3,d4,-,-,-,-,-,-⟩;have e4:=hI.1 4 (by simp);have e77:bp L' 77=.agg (rfV (bU s d).s aX).toArray:=hI.get (i:=4) (.tail _ (.tail _ (.tail _ (.tail _ (.head _))))) d4;have hM':=hM;obtain ⟨hgB,⟨cs9,hs9z,hq9,hqe⟩,hC9⟩:=hM';obtain ⟨w2,hR,hO,hb⟩:=jI (n:=83) (L:=L') (x:=.tmp 4) (y:=.tmp 77) (vs:=(rfV (bU s d).s aX)) aD e4 e77 (by simp [rfV,Value.oneCell']) hq9 (by rw [hs9z];rfl);exact jF hR ⟨hI.skip (by simp),hgB.only hO hn4,⟨_,rfl,hb,fun _=>rfl⟩,hC9.next (hO.toChg rfl)⟩
  constructor
  ·rintro S L' wS hI hM hS0 ⟨d8,d10,d0,d1,d2,d3,d4,d5,d6,d7,d8,-,d10,-⟩;have e81:bp L' 81=.slice OX LX.length ocX:=hI.get (i:=8) (.tail _ (.tail _ (.tail _ (.tail _ (.tail _ (.tail _ (.tail _ (.tail _ (.head _))))))))) d8;have hM':=hM;obtain ⟨hgB,⟨cs9,hs9z,hq9,hqe⟩,hC9⟩:=hM';exact bT (de e81) ⟨hI.put hU16 (.tail _ (.tail _ (.tail _ (.tail _ (.tail _ (.tail _ (.tail _ (.tail _ (.tail _ (.tail _ (.head _))))))))))),hM⟩
  constructor
  ·rintro S L' wS hI hM hS0 ⟨d9,d11,d0,d1,d2,d3,d4,d5,d6,d7,d8,d9,d10,d11,-⟩;have e82:bp L' 82=.int .i64 (aQ s+1):=hI.get (i:=9) (.tail _ (.tail _ (.tail _ (.tail _ (.tail _ (.tail _ (.tail _ (.tail _ (.tail _ (.head _)))))))))) d9;have hM':=hM;obtain ⟨hgB,⟨cs9,hs9z,hq9,hqe⟩,hC9⟩:=hM';exact bT (de e82) ⟨hI.put hU16 (.tail _ (.tail _ (.tail _ (.tail _ (.tail _ (.tail _ (.tail _ (.tail _ (.tail _ (.tail _ (.tail _ (.head _)))))))))))),hM⟩
  constructor
  ·rintro S L' wS hI hM hS0 ⟨d12,d0,d1,d2,d3,d4,d5,d6,d7,d8,d9,d10,d11,d12,-⟩;have hM':=hM;obtain ⟨hgB,⟨cs9,hs9z,hq9,hqe⟩,hC9⟩:=hM';exact bT (de rfl) ⟨hI.put hU16 (.tail _ (.tail _ (.tail _ (.tail _ (.tail _ (.tail _ (.tail _ (.tail _ (.tail _ (.tail _ (.tail _ (.tail _ (.head _))))))))))))),hM⟩
  exact trivial
 ·intro w17 hM;obtain ⟨hgB,⟨cs9,hs9z,hq9,hqe⟩,hC9⟩:=hM;have hqe:=hqe rfl;subst hqe;refine ag (aC (jS rfl (dB (cs:=[_,_,_,_,_,_,_,_,_,_,_,_,_,_,_,_,_,_,_,_,_,_]) aL aD rfl (by exact hq9.whole)) (c8 (v:=.slice _ _ _) rfl) (c8 (v:=.int _ _) rfl) (c8 (v:=.int _ _) rfl) ?_));exact ⟨⟨tgX,aX,OX,ocX,LX,rfl,so.mk_ hsX hzw (hC9.wide (fun k hk=>.inl (by rw [show k=b4 from hk];exact hz4)))⟩,(hBq.chg hC9 (fun k hk=>by rw [show k=b4 from hk];exact hg4))⟩
end Go.Proofs.YtkpooenofjdpmaaGreat
namespace Go.Proofs.YtkpooenofjdpmaaGreat
open Go.Proofs.Tryz (prog)
open Go.RowKit
open Go.ChangeShapes Go.WideShapes Go.ChangeAt
theorem eY:aY prog 16=true:=by kernel_rfl
theorem ic:∀ (a0:Int) (a1:Int) (a2:Int) (a3:Int) (a4:Int) (a5:Int) (a6:Int) (a7:Int) (a8:Option Addr) (a9 a10:Nat) (a11:ByteArray) (a12:Int) (a13:Int) (a14:Int) (a15:Int) (a16:Option Addr) (a17 a18:Nat) (a19:Option Addr) (a20 a21:Nat) (a22:Option Addr) (a23 a24:Nat) (a25:Option Addr) (a26 a27:Nat) (a28:Int) (a29:Option Addr) (a30 a31:Nat) (a32:ByteArray) (a33:Int),prog.built 111 [(0,.agg #[.int .i64 a0,.int .i64 a1,.int .i64 a2,.int .i64 a3,.int .i64 a4,.int .i64 a5,.int .i64 a6,.int .i64 a7,.slice a8 a9 a10,.string a11,.int .i64 a12,.int .i64 a13,.int .i64 a14,.int .u64 a15,.slice a16 a17 a18,.slice a19 a20 a21,.slice a22 a23 a24,.slice a25 a26 a27,.int .i64 a28,.slice a29 a30 a31,.string a32,.int .i64 a33])]=some #[.int .i64 a0,.int .i64 a1,.int .i64 a2,.int .i64 a3,.int .i64 a4,.int .i64 a5,.int .i64 a6,.int .i64 a7,.slice a8 a9 a10,.string a11,.int .i64 a12,.int .i64 a13,.int .i64 a14,.int .u64 a15,.slice a16 a17 a18,.slice a19 a20 a21,.slice a22 a23 a24,.slice a25 a26 a27,.int .i64 a28,.slice a29 a30 a31,.string a32,.int .i64 a33,.slice none 0 0]:=by intros;kernel_rfl
theorem jz:∀ (a0:Int) (a1:Int) (a2:ByteArray),prog.built 99 [(0,.int .i64 a0),(1,.int .i64 a1),(2,.string a2)]=some #[.int .i64 a0,.int .i64 a1,.string a2]:=by intros;kernel_rfl
theorem nj:aY prog 73=true:=by kernel_rfl
theorem ni:aY prog 74=true:=by kernel_rfl
def PK (C:Rf) (k:Nat):Sp:=(⟨C,[]⟩:Sp).sends ((gN C.id k).filter fun k=>decide (at1 C.next k=aQ C))
theorem sk (C:Rf) (k:Nat):PK C k=⟨C,(PK C k).out⟩:=by
 unfold PK;rw [fW]
theorem wC (C:Rf) (k:Nat):(PK C k).out.length≤k:=by
 unfold PK;rw [kL];have h1:=List.length_filter_le (fun k=>decide (at1 C.next k=aQ C)) (gN C.id k);have h2:=oI C.id k;have h3:((⟨C,[]⟩:Sp).out).length=0:=rfl;omega
theorem x6 {C:Rf} {k:Nat} (hp:at1 C.next ((k:Int)+1)=aQ C):PK C (k+1)=if ((k:Int)+1)=C.id then PK C k else (PK C k).send ((k:Int)+1):=by
 unfold PK;rw [jJ];by_cases h:((k:Int)+1)=C.id
 ·rw [if_pos (show ((k+1:Nat):Int)=C.id by omega),if_pos h]
 ·have e:[((k:Int)+1)].filter (fun k=>decide (at1 C.next k=aQ C))=[((k:Int)+1)]:=by rw [List.filter_cons,if_pos (decide_eq_true hp)];rfl
  rw [if_neg (show ¬ ((k+1:Nat):Int)=C.id by omega),if_neg h,List.filter_append,show (((k+1:Nat):Int))=(k:Int)+1 by omega,e,jH];rfl
theorem x7 {C:Rf} {k:Nat} (hp:¬ at1 C.next ((k:Int)+1)=aQ C):PK C (k+1)=PK C k:=by
 unfold PK;rw [jJ];by_cases h:((k:Int)+1)=C.id
 ·rw [if_pos (show ((k+1:Nat):Int)=C.id by omega)]
 ·have e:[((k:Int)+1)].filter (fun k=>decide (at1 C.next k=aQ C))=[]:=by rw [List.filter_cons,if_neg (by rw [decide_eq_true_eq];exact hp)];rfl
  rw [if_neg (show ¬ ((k+1:Nat):Int)=C.id by omega),List.filter_append,show (((k+1:Nat):Int))=(k:Int)+1 by omega,e,List.append_nil]
theorem wD (s:Rf) (d:ByteArray):bU s d=⟨bX (ch s d),(PK (ch s d) s.nodes.toNat).out⟩:=by
 rw [uC]
 have h:PS (ch s d) (bR (ch s d)).length=PK (ch s d) s.nodes.toNat:=by
  unfold PS PK;rw [List.take_length,qK];rfl
 rw [h]
theorem pw (s:Rf) (a:Ra) (d:ByteArray) (w:World) (hrd:fi w s a) (hl:s.votes.length≤1000000∧s.next.length≤1000000∧s.mtch.length≤1000000∧s.sent.length≤1000000∧s.reads.length≤1000000∧∀ q∈s.reads,q.acks.length≤1000000) (hel:s.es.length≤1000000) (hF:RfF s) (he:iN s d=0) :
 Rt prog 33 [.agg (rfV s a).toArray,.string d] w (fun v w'=>(∃ tag a' O oc L,v=.tuple #[.agg (rfV (bU s d).s a').toArray,.slice O (List.length L) oc,.int .i64 (aQ s+1),.int .i64 0]∧bj w' tag (bU s d).s a'∧eb w' tag (bU s d).out O oc L∧∀ k,k<w.heap.size→tag k=8)∧aj w w'):=by
 have hnn:=hF.n;obtain ⟨hd4,hr2,hfu⟩:=ua he;have hFc:RfF (ch s d):=(hF.added hfu d hd4).1;have hlc:aQ (ch s d)=aQ s+1:=(hF.added hfu d hd4).2;have hla:=hF.last
 have hf9u:s.es.length≠512∧aQ s≠1099511627776:=by
  unfold eR at hfu;simpa [Bool.or_eq_false_iff,decide_eq_false_iff_not] using hfu
 refine enter (n:=91) Tryz.func33 rfl rfl rfl (an (ah (cU (v:=.agg _) rfl ?_)));intro b2 w1 E2 hb2 hk2;refine cq cJ ?_;intro b4 w2 E4 hb4 hk4;have hg4:w.heap.size≤b4:=by rw [hb4];exact ((aj.rfl_.next E2)).size
 have hlt2:=hk2.lt;replace hk2:=hk2.from_ E4;have h24:b2<b4:=by omega
 refine ass rfl (asi rfl (asi rfl (ak (ag (an (an (ah (mvg rfl (aa (df (by kernel_rfl) rfl) (aa (bH rfl rfl) (ak (ag (xD rfl (fun Q3=>?_) (fun Q3=>?_))))))))))))))
 ·exfalso;omega
 refine aR (ag (an (an (ah (aa (ae cF rfl) (aa (aq ar rfl (by exact (show _=some (Value.int .i64 s.role) from (hk2.from_ aj.rfl_).rd 2 rfl))) ?_))))));refine aa (dt rfl rfl) (ak (ag (xA rfl (fun Q5=>?_) (fun Q5=>?_))))
 ·exfalso;omega
 refine aR (ag (an (ah (aa (aT (cs:=rfV s a) aL aD rfl ((hk2.from_ aj.rfl_).whole)) ?_))));have hB9:aj w w2:=((aj.rfl_.next E2).next E4);have hk2b:=hk2.from_ aj.rfl_;have hlt2:=hk2b.lt;obtain ⟨wb,hw9⟩:∃ x,x=w2:=⟨_,rfl⟩;obtain ⟨Z,hZ⟩:∃ Z:Nat→Prop,Z=fun k=>k<wb.heap.size:=⟨_,rfl⟩
 have hk4b:=hk4.from_ aj.rfl_;have hlt4:=hk4b.lt;refine aG eY (fY s a _ (hrd.from_ ((aj.rfl_.next E2).next E4)) hl hel) ?_;rintro v22 w7 ⟨⟨tag9,a9,rfl,hf9,ht9⟩,E22⟩;refine aa (cM (l:=[(0,.tmp 22)]) (ic _ _ _ _ _ _ _ _ _ _ _ _ _ _ _ _ _ _ _ _ _ _ _ _ _ _ _ _ _ _ _ _ _ _)) (cU (v:=.agg _) rfl ?_);intro b24 w8 E24 hb24 hk24
 have h11:bt wb Z w8 111 b24 ⟨s,[]⟩:=by
  rw [hZ,hw9];exact mg E22 hf9 ht9 E24 hb24 (show Blk _ b24 111 (rfV s a9++[Value.slice none 0 0]).toArray from hk24)
 rw [←hw9] at hB9 hk2b hlt2;have stB:∀ {w':World} {p:Sp},bt wb Z w' 111 b24 p→aj w w':=fun h=>hB9.next (gA (by rw [hZ] at h;exact h))
 have hzB:=hB9.size;have hz2:Z b2:=by rw [hZ];exact hlt2
 have hzw:∀ k,k<w.heap.size→Z k:=fun k hk=>by rw [hZ];exact Nat.lt_of_lt_of_le hk hzB
 rw [←hw9] at hk4b hlt4;have hz4:Z b4:=by rw [hZ];exact hlt4
 obtain ⟨tg2,a2,O2,oc2,L2,hs2⟩:=h11.ex;refine asp rfl (ak (ag (an (ah (mvp rfl (aG j8 (mA 111 b24 s _ _ _ (hs2.b.from_ aj.rfl_) (hs2.f.rd.e.from_ aj.rfl_) hF.lg) ?_))))));rintro v27 w9 ⟨rfl,E27⟩;refine mvt rfl (aa (aS rfl rfl) (aa (aS rfl rfl) (asi rfl (asi rfl (ak (ag (an (an (ah (aa (ae bk rfl) (aa (ae cE rfl) (aa (aq cG rfl (by exact (show _=some (Value.slice a.E s.es.length a.Ec) from ((h11.kept hz2 hk2b).from_ (aj.rfl_.next E27)).rd 8 rfl))) ?_))))))))))));refine aa (bm cT rfl) (aa (bC rfl rfl) (mvb rfl (wK (t:=35) rfl (fun Q10=>?_) (fun Q10=>?_))))
 ·exfalso;omega
 refine af rfl (mvi rfl (af rfl (aa (bC rfl rfl) (aa (av (v:=.bool _) rfl rfl) (ak (ag (xD rfl (fun Q12=>?_) (fun Q12=>?_))))))))
 ·exfalso;omega
 have h11b:=h11.from_ (aj.rfl_.next E27);obtain ⟨tgB,aB,OB,ocB,LB,hsB⟩:=h11b.ex;have hrB:(w9).ownsRow 0 99 3 (.slice aB.E s.es.length aB.Ec) s.es.length (dE s.es):=(hsB.f.e (by decide)).1;have hk2B:=h11b.kept hz2 hk2b;refine aR (ag (an (ah (mvi rfl (aa (bE rfl rfl (by omega)) (asi rfl (ak (ag (an ?_)))))))));apply rk 14 13 [54] [(42,eqp _),(43,eqp _),(44,eqp _),(45,eqp _),(46,eqp _),(47,eqp _),(48,eqp (.slice aB.E s.es.length aB.Ec)),(49,eqp _),(50,eqp _),(51,eqp (.int .i64 s.term)),(52,eqp _),(53,eqp (.agg #[.int .i64 (aQ s+1),.int .i64 s.term,.string d])),(54,fun v w'=>∃ q,v=.slice (some ⟨q,0,none⟩) 1 1∧Blk w' q 99 #[.int .i64 (aQ s+1),.int .i64 s.term,.string d]),(55,fun (v:Value) (w':World)=>∃ (A2:Option Addr) (c2:Nat),v=Value.slice A2 (s.es.length+1) c2∧w'.ownsRow 0 99 3 (.slice A2 (s.es.length+1) c2) (s.es.length+1) (dE (ch s d).es)∧(∀ k,A2.map (·.block)=some k→aB.E.map (·.block)=some k∨(w9).heap.size≤k))] (fun w'=>aj w9 w') (fun w'=>(w9).grownBy w' (aB.E.map (·.block))) (by repeat first | exact ej | refine ei ?_ | refine dO ?_) (by kernel_rfl) (by kernel_rfl) (by kernel_rfl) ⟨au _,au _,au _,au _,au _,au _,au _,au _,au _,au _,au _,au _,(fun _ _ _ hF ⟨q,h1,h2⟩=>⟨q,h1,h2.from_ hF⟩),(fun _ _ _ hF ⟨A2,c2,h1,h2,h3⟩=>⟨A2,c2,h1,h2.kept_from hF,h3⟩),trivial⟩ (aj.rfl_.d1) (aj.rfl_.d1.grown _) (fun _ _ hF h=>h.next hF) (fun _ _ hF h=>dG h (hF.grown _))
 case hop=>
  constructor
  ·rintro-w15 hG15;exact az (aP (v:=.pointer _) rfl) rfl
  constructor
  ·rintro-w16 hG16;exact az (aP (v:=.pointer _) rfl) rfl
  constructor
  ·rintro-w17 hG17;rintro _ rfl;exact az (aw rfl) rfl
  constructor
  ·rintro-w18 D18;rintro _ rfl;exact az (ae bB rfl) rfl
  constructor
  ·rintro-w19 D19;rintro _ rfl;exact az (ae bk rfl) rfl
  constructor
  ·rintro-w20 D20;rintro _ rfl;exact az (ae cE rfl) rfl
  constructor
  ·rintro-w21 D21;rintro _ rfl;exact az (aq cG rfl (show _=some (Value.slice aB.E s.es.length aB.Ec) from cC (hsB.b.from_ D21) 8 rfl)) rfl
  constructor
  ·rintro-w22 D22;exact az (aP (v:=.int _ _) rfl) rfl
  constructor
  ·rintro-w23 D23;exact az (ae cB rfl) rfl
  constructor
  ·rintro-w24 D24;rintro _ rfl;exact az (aq ar rfl (show _=some (Value.int .i64 s.term) from (hk2B.from_ D24).rd 3 rfl)) rfl
  constructor
  ·rintro-w25 D25;exact az (aP (v:=.string _) rfl) rfl
  constructor
  ·rintro-w26 D26;rintro _ rfl v26_51 rfl _ rfl;exact az (cM (l:=[(0,.tmp 49),(1,.tmp 51),(2,.tmp 52)]) (jz _ _ _)) rfl
  constructor
  ·rintro-w27 D27;rintro v27_53 rfl;exact kY (mx (l:=[(0,.tmp 53)]) (cells:=#[.int .i64 (aQ s+1),.int .i64 s.term,.string d]) gR rfl rfl (by show Instr.fill _ _ [(0,Value.agg #[.int .i64 (aQ s+1),.int .i64 s.term,.string d])]=_;kernel_rfl)) (aj.rfl_.new _) ⟨_,rfl,Blk.new _ _ _⟩
  constructor
  ·intro h;cases h
  exact trivial
 case hmu=>
  rintro w29 D29;rintro v29_48 rfl v29_54 ⟨q29,rfl,hq29⟩;show rM ..;refine jY (news:=[Value.int .i64 (aQ s+1),.int .i64 s.term,.string d]) gR rfl (by decide) rfl (hrB.kept_from D29) (Nat.zero_le _) rfl rfl ⟨_,_,rfl,hq29.whole⟩ (by simp [Value.oneCell']) (by omega) (by omega) ?_;intro A3 c3 w3 ho3 hg3 hl3;exact ⟨dG (D29.grown _) hg3,⟨A3,c3,rfl,by rw [show (ch s d).es=s.es++[⟨aQ s+1,s.term,d⟩] from rfl,lu];exact ho3,fun k hk=>(hl3 k hk).imp id fun e=>Nat.le_trans D29.size e⟩,fun t u ht h=>kr (by repeat first | exact trivial | refine ⟨.inl rfl,?_⟩ | refine ⟨.inr (fun _ h=>h),?_⟩) t u ht h⟩
 case hend=>
  rintro w30 hG30;rintro _ rfl _ rfl _ rfl _ rfl _ rfl _ rfl v48 rfl _ rfl _ rfl v51 rfl _ rfl v53 rfl v54 _ v55 ⟨A55,c55,rfl,ho55,hL55⟩;show St ..;have hgD:=hG30;have hCB:Chg (fun q=>tgB q=0) _ w30:=Chg.of_grown hgD (fun q hq=>(hsB.f.e (by decide)).2 q hq);have hbB:=hsB.b.chg hCB (fun e=>by have h8:=hsB.gc;rw [e] at h8;cases h8);have hfB:=cn.log (bj.but (c:=0) hsB.f hCB) s.b s.t (l:=(ch s d).es) (by show _=(s.es++[_]).length;rw [List.length_append];rfl) ho55 ((hsB.f.e (by decide)).2.new (dD (hsB.f.e (by decide)).1) hL55);refine aa (aw rfl) (aa (ae bB rfl) (aa (ae bk rfl) (aa (ae cE rfl) ?_)));refine cO (s':=ch s d) (a':={ aB with E:=A55,Ec:=c55 }) lJ rfl rfl rfl hbB ⟨by decide,by unfold rfV ch;simp only [List.length_append,List.length_singleton];rfl⟩ ?_;intro w31 O10 P10;have h12:=(h11b.put (s':=ch s d) (a':={ aB with E:=A55,Ec:=c55 }) hsB hCB (.inl (by decide)) hfB (O10.toChg rfl) P10).2;refine ak (ag (an (an (ah (asi rfl (ak (ag (bf (cz (G:=Nat) [60,61,62,63,64,65,66,67,68,69,70,71,72,73,74,75,76,77,78,79] (fun k=>[(12,.int .i64 ((k:Int)+1))]) (fun k w'=>(k:Int)≤s.nodes∧bt wb Z w' 111 b24 (PK (ch s d) k)) (fun k=>s.nodes.toNat-k) (0) ⟨rfl,trivial⟩ ?_ ?_)))))))))
  ·exact ⟨by omega,by rw [sk];exact h12.from_ aj.rfl_⟩
  rintro k ρ32 w32 ⟨hk,h15⟩;refine an (an (ah (mvi rfl (aa (ae bw rfl) (aa (aq ar rfl (by exact (show _=some (Value.int .i64 s.nodes) from ((h15.kept hz2 hk2b).from_ aj.rfl_).rd 1 rfl))) ?_)))));refine aa (iF rfl rfl) (ak (ag (xD rfl (fun Q33=>?_) (fun Q33=>?_))))
  ·have hkn:k<s.nodes.toNat:=by omega
   have hXl:s.next.length=s.nodes.toNat:=by rw [hF.nx.1,fc hr2]
   have hkX:k<s.next.length:=by omega
   have h15b:=h15;rw [sk] at h15b;obtain ⟨tgk,⟨eE,eEc,eV,eVc,eX,eXc,eM,eMc,eS,eSc,eQ,eQc,eL⟩,Ok,ock,Lk,hsk⟩:=h15b.ex;have hXo:(w32).ownsRow 0 3 1 (.slice eX s.next.length eXc) s.next.length (s.next.map iV):=(hsk.f.x (by decide)).1;obtain ⟨gX,rfl⟩:=dP hXo (by omega);have hXc:=eJ (l:=s.next) hXo k hkX;have hat:at1 (ch s d).next ((k:Int)+1)=s.next[k]:=la hkX;have hPl:=wC (ch s d) k;refine aR (ag (an (bf (an (ah (mvp rfl (aa (aw rfl) (aa (ae bB rfl) (aa (ae bu rfl) (aa (aq aM rfl (by exact (show _=some (Value.slice (some ⟨gX,0,none⟩) s.next.length eXc) from cC (hsk.b.from_ aj.rfl_) 15 rfl))) ?_))))))))));refine mvi rfl (aa (dM rfl rfl (by omega)) (ed (t:=72) (v:=.int _ _) (v':=.int .i64 (k:Nat)) rfl (by exact br (by omega)) ?_));refine aa (cH bK rfl rfl (by omega)) (aa (aq ar rfl (by exact dF aj.rfl_ hXc)) ?_);refine mvi rfl (aa (bC rfl rfl) (ak (ag (xD rfl (fun Q34=>?_) (fun Q34=>?_)))))
   ·refine ah (mvp rfl (mvi rfl ?_));refine aG nj (sy wb Z 111 b24 ⟨ch s d,(PK (ch s d) k).out⟩ _ (h15b.from_ aj.rfl_) hFc hr2 (by show (PK (ch s d) k).out.length≤900;omega) ((k:Int)+1) (by show 1≤(k:Int)+1∧(k:Int)+1≤s.nodes;omega)) ?_;rintro v79 w35 ⟨rfl,h16⟩;have e26:=x6 (C:=ch s d) (k:=k) (by rw [hat,hlc];omega)
    have h26:bt wb Z w35 111 b24 (PK (ch s d) (k+1)):=by
     rw [e26,sk];exact h16
    refine ak (bN (ag (ah (mvi rfl (aa (bE rfl rfl (by omega)) (asi rfl (ak ?_)))))));refine cK (k+1) ⟨br (by omega),trivial⟩ (by (iterate 43 refine bQ rfl ?_);exact b_) ⟨?_,?_⟩
    ·exact ⟨by omega,h26.from_ aj.rfl_⟩
    ·show s.nodes.toNat-(k+1)<s.nodes.toNat-k;omega
   have h26:bt wb Z w32 111 b24 (PK (ch s d) (k+1)):=by
    rw [x7 (by rw [hat,hlc];omega)];exact h15.from_ aj.rfl_
   refine aR (bN (ag (ah (mvi rfl (aa (bE rfl rfl (by omega)) (asi rfl (ak ?_)))))));refine cK (k+1) ⟨br (by omega),trivial⟩ (by (iterate 40 refine bQ rfl ?_);exact b_) ⟨?_,?_⟩
   ·exact ⟨by omega,h26.from_ aj.rfl_⟩
   ·show s.nodes.toNat-(k+1)<s.nodes.toNat-k;omega
  obtain rfl:k=s.nodes.toNat:=by omega
  refine bZ (bg (bg (bF (ag (an (ah (mvp rfl ?_)))))))
  have h17:bt wb Z w32 111 b24 ⟨ch s d,(PK (ch s d) s.nodes.toNat).out⟩:=by
   rw [←sk];exact h15.from_ aj.rfl_
  obtain ⟨tg17,a17,O17,oc17,L17,hs17⟩:=h17.ex;refine aG ni (qE wb Z 111 b24 (ch s d) (PK (ch s d) s.nodes.toNat).out _ h17 _ _ _ _ _ hs17 hFc hr2) ?_;rintro v81 w36 ⟨rfl,h20,_⟩
  have hT:bt wb Z w36 111 b24 (bU s d):=by
   rw [wD];exact h20
  obtain ⟨tgX,aX,OX,ocX,LX,hsX⟩:=hT.ex;have hBq:aj w w36:=stB hT;have hk4d:=hT.kept hz4 hk4b;have hn4:b24≠b4:=fun e=>by have h1:=hsX.z b4 hz4;rw [←e,hsX.gc] at h1;cases h1
  refine ak (ag (an ?_));have hU37:j6 [(0,82,.pointer (some ⟨b24,0,none⟩)),(1,83,.pointer (some ⟨b24,0,none⟩)),(2,84,.pointer (some ⟨b24,0+0,none⟩)),(3,85,.agg (rfV (bU s d).s aX).toArray),(4,86,.pointer (some ⟨b24,0,none⟩)),(5,87,.pointer (some ⟨b24,0,none⟩)),(6,88,.pointer (some ⟨b24,0+22,none⟩)),(7,89,.slice OX LX.length ocX),(8,90,.int .i64 (aQ s+1)),(10,5,.slice OX LX.length ocX),(11,6,.int .i64 (aQ s+1)),(12,7,.int .i64 0)]:=by simp [j6]
  refine lZ [(0,82,.pointer (some ⟨b24,0,none⟩)),(1,83,.pointer (some ⟨b24,0,none⟩)),(2,84,.pointer (some ⟨b24,0+0,none⟩)),(3,85,.agg (rfV (bU s d).s aX).toArray),(4,86,.pointer (some ⟨b24,0,none⟩)),(5,87,.pointer (some ⟨b24,0,none⟩)),(6,88,.pointer (some ⟨b24,0+22,none⟩)),(7,89,.slice OX LX.length ocX),(8,90,.int .i64 (aQ s+1)),(10,5,.slice OX LX.length ocX),(11,6,.int .i64 (aQ s+1)),(12,7,.int .i64 0)] (fun S w'=>Blk w' b24 111 ((rfV (bU s d).s aX)++[Value.slice OX LX.length ocX]).toArray∧(∃ cs:Array Value,cs.size=22∧Blk w' b4 29 cs∧(S 9=true→cs=(rfV (bU s d).s aX).toArray))∧Chg (fun k=>k=b4) w36 w') (by kernel_rfl) (by kernel_rfl) hU37 (by simp) (⟨(hsX.b.from_ aj.rfl_).from_ aj.rfl_.d1,⟨_,rfl,(hk4d.from_ aj.rfl_).from_ aj.rfl_.d1,fun h=>(by cases h)⟩,aj.rfl_.d1.toChg⟩) ?_ ?_
  ·constructor
   ·rintro S L' wS hI hM hS0 ⟨-⟩;have e8:=hI.1 8 (by simp);have hM':=hM;obtain ⟨hgB,⟨cs9,hs9z,hq9,hqe⟩,hC9⟩:=hM';exact bT (aP e8) ⟨hI.put hU37 (.head _),hM⟩
   constructor
   ·rintro S L' wS hI hM hS0 ⟨d0,-⟩;have e82:bp L' 82=.pointer (some ⟨b24,0,none⟩):=hI.get (i:=0) (.head _) d0;have hM':=hM;obtain ⟨hgB,⟨cs9,hs9z,hq9,hqe⟩,hC9⟩:=hM';exact bT (aw e82) ⟨hI.put hU37 (.tail _ (.head _)),hM⟩
   constructor
   ·rintro S L' wS hI hM hS0 ⟨d1,-⟩;have e83:bp L' 83=.pointer (some ⟨b24,0,none⟩):=hI.get (i:=1) (.tail _ (.head _)) d1;have hM':=hM;obtain ⟨hgB,⟨cs9,hs9z,hq9,hqe⟩,hC9⟩:=hM';exact bT (ae bB e83) ⟨hI.put hU37 (.tail _ (.tail _ (.head _))),hM⟩
   constructor
   ·rintro S L' wS hI hM hS0 ⟨d2,-⟩;have e84:bp L' 84=.pointer (some ⟨b24,0+0,none⟩):=hI.get (i:=2) (.tail _ (.tail _ (.head _))) d2;have hM':=hM;obtain ⟨hgB,⟨cs9,hs9z,hq9,hqe⟩,hC9⟩:=hM';exact bT (aT (cs:=(rfV (bU s d).s aX)) aL aD e84 (kS hgB)) ⟨hI.put hU37 (.tail _ (.tail _ (.tail _ (.head _)))),hM⟩
   constructor
   ·rintro S L' wS hI hM hS0 ⟨-,-⟩;have e8:=hI.1 8 (by simp);have hM':=hM;obtain ⟨hgB,⟨cs9,hs9z,hq9,hqe⟩,hC9⟩:=hM';exact bT (aP e8) ⟨hI.put hU37 (.tail _ (.tail _ (.tail _ (.tail _ (.head _))))),hM⟩
   constructor
   ·rintro S L' wS hI hM hS0 ⟨d4,-,-⟩;have e86:bp L' 86=.pointer (some ⟨b24,0,none⟩):=hI.get (i:=4) (.tail _ (.tail _ (.tail _ (.tail _ (.head _))))) d4;have hM':=hM;obtain ⟨hgB,⟨cs9,hs9z,hq9,hqe⟩,hC9⟩:=hM';exact bT (aw e86) ⟨hI.put hU37 (.tail _ (.tail _ (.tail _ (.tail _ (.tail _ (.head _)))))),hM⟩
   constructor
   ·rintro S L' wS hI hM hS0 ⟨d5,-,-⟩;have e87:bp L' 87=.pointer (some ⟨b24,0,none⟩):=hI.get (i:=5) (.tail _ (.tail _ (.tail _ (.tail _ (.tail _ (.head _)))))) d5;have hM':=hM;obtain ⟨hgB,⟨cs9,hs9z,hq9,hqe⟩,hC9⟩:=hM';exact bT (ae il e87) ⟨hI.put hU37 (.tail _ (.tail _ (.tail _ (.tail _ (.tail _ (.tail _ (.head _))))))),hM⟩
   constructor
   ·rintro S L' wS hI hM hS0 ⟨d6,-,-⟩;have e88:bp L' 88=.pointer (some ⟨b24,0+22,none⟩):=hI.get (i:=6) (.tail _ (.tail _ (.tail _ (.tail _ (.tail _ (.tail _ (.head _))))))) d6;have hM':=hM;obtain ⟨hgB,⟨cs9,hs9z,hq9,hqe⟩,hC9⟩:=hM';exact bT (aq gT e88 (by exact (show _=some (Value.slice OX LX.length ocX) from hgB.rd 22 rfl))) ⟨hI.put hU37 (.tail _ (.tail _ (.tail _ (.tail _ (.tail _ (.tail _ (.tail _ (.head _)))))))),hM⟩
   constructor
   ·rintro S L' wS hI hM hS0 ⟨-,-⟩;have e11:=hI.1 11 (by simp);have hM':=hM;obtain ⟨hgB,⟨cs9,hs9z,hq9,hqe⟩,hC9⟩:=hM';exact bT (aP e11) ⟨hI.put hU37 (.tail _ (.tail _ (.tail _ (.tail _ (.tail _ (.tail _ (.tail _ (.tail _ (.head _))))))))),hM⟩
   constructor
   ·rintro S L' wS hI hM hS0 ⟨d3,d0,d1,d2,d3,-,-,-,-,-,-⟩;have e4:=hI.1 4 (by simp);have e85:bp L' 85=.agg (rfV (bU s d).s aX).toArray:=hI.get (i:=3) (.tail _ (.tail _ (.tail _ (.head _)))) d3;have hM':=hM;obtain ⟨hgB,⟨cs9,hs9z,hq9,hqe⟩,hC9⟩:=hM';obtain ⟨w2,hR,hO,hb⟩:=jI (n:=91) (L:=L') (x:=.tmp 4) (y:=.tmp 85) (vs:=(rfV (bU s d).s aX)) aD e4 e85 (by simp [rfV,Value.oneCell']) hq9 (by rw [hs9z];rfl);exact jF hR ⟨hI.skip (by simp),hgB.only hO hn4,⟨_,rfl,hb,fun _=>rfl⟩,hC9.next (hO.toChg rfl)⟩
   constructor
   ·rintro S L' wS hI hM hS0 ⟨d7,d9,d0,d1,d2,d3,d4,d5,d6,d7,-,d9,-⟩;have e89:bp L' 89=.slice OX LX.length ocX:=hI.get (i:=7) (.tail _ (.tail _ (.tail _ (.tail _ (.tail _ (.tail _ (.tail _ (.head _)))))))) d7;have hM':=hM;obtain ⟨hgB,⟨cs9,hs9z,hq9,hqe⟩,hC9⟩:=hM';exact bT (de e89) ⟨hI.put hU37 (.tail _ (.tail _ (.tail _ (.tail _ (.tail _ (.tail _ (.tail _ (.tail _ (.tail _ (.head _)))))))))),hM⟩
   constructor
   ·rintro S L' wS hI hM hS0 ⟨d8,d10,d0,d1,d2,d3,d4,d5,d6,d7,d8,d9,d10,-⟩;have e90:bp L' 90=.int .i64 (aQ s+1):=hI.get (i:=8) (.tail _ (.tail _ (.tail _ (.tail _ (.tail _ (.tail _ (.tail _ (.tail _ (.head _))))))))) d8;have hM':=hM;obtain ⟨hgB,⟨cs9,hs9z,hq9,hqe⟩,hC9⟩:=hM';exact bT (de e90) ⟨hI.put hU37 (.tail _ (.tail _ (.tail _ (.tail _ (.tail _ (.tail _ (.tail _ (.tail _ (.tail _ (.tail _ (.head _))))))))))),hM⟩
   constructor
   ·rintro S L' wS hI hM hS0 ⟨d11,d0,d1,d2,d3,d4,d5,d6,d7,d8,d9,d10,d11,-⟩;have hM':=hM;obtain ⟨hgB,⟨cs9,hs9z,hq9,hqe⟩,hC9⟩:=hM';exact bT (de rfl) ⟨hI.put hU37 (.tail _ (.tail _ (.tail _ (.tail _ (.tail _ (.tail _ (.tail _ (.tail _ (.tail _ (.tail _ (.tail _ (.head _)))))))))))),hM⟩
   exact trivial
  ·intro w38 hM;obtain ⟨hgB,⟨cs9,hs9z,hq9,hqe⟩,hC9⟩:=hM;have hqe:=hqe rfl;subst hqe;refine ag (aC (jS rfl (dB (cs:=[_,_,_,_,_,_,_,_,_,_,_,_,_,_,_,_,_,_,_,_,_,_]) aL aD rfl (by first | exact hq9.whole | exact P2.whole | exact P4.whole | exact P8.whole)) (c8 (v:=.slice _ _ _) rfl) (c8 (v:=.int _ _) rfl) (c8 (v:=.int _ _) rfl) ?_));exact ⟨⟨tgX,aX,OX,ocX,LX,rfl,so.mk_ hsX hzw (hC9.wide (fun k hk=>.inl (by rw [show k=b4 from hk];exact hz4)))⟩,(hBq.chg hC9 (fun k hk=>by rw [show k=b4 from hk];exact hg4))⟩
theorem oC (s:Rf) (a:Ra) (d:ByteArray) (w:World) (hrd:fi w s a) (hl:s.votes.length≤1000000∧s.next.length≤1000000∧s.mtch.length≤1000000∧s.sent.length≤1000000∧s.reads.length≤1000000∧∀ q∈s.reads,q.acks.length≤1000000) (hel:s.es.length≤1000000) (hF:RfF s) (he:iN s d≠0) :
 Rt prog 33 [.agg (rfV s a).toArray,.string d] w (fun v w'=>v=.tuple #[.agg (rfV s a).toArray,.slice none 0 0,.int .i64 0,.int .i64 (iN s d)]∧aj w w'):=by
 have hnn:=hF.n;refine enter (n:=91) Tryz.func33 rfl rfl rfl (an (ah (cU (v:=.agg _) rfl ?_)));intro b2 w1 E2 hb2 hk2;refine cq cJ ?_;intro b4 w2 E4 hb4 hk4;have hg4:w.heap.size≤b4:=by rw [hb4];exact ((aj.rfl_.next E2)).size
 have hlt2:=hk2.lt;replace hk2:=hk2.from_ E4;have h24:b2<b4:=by omega
 refine ass rfl (asi rfl (asi rfl (ak (ag (an (an (ah (mvg rfl (aa (df (by kernel_rfl) rfl) (aa (bH rfl rfl) (ak (ag (xD rfl (fun Q3=>?_) (fun Q3=>?_))))))))))))))
 ·refine an (ah (aa (aT (cs:=rfV s a) aL aD rfl ((hk2.from_ aj.rfl_).whole)) (cu (vs:=[_,_,_,_,_,_,_,_,_,_,_,_,_,_,_,_,_,_,_,_,_,_]) aD rfl rfl (by simp [Value.oneCell']) ((hk4.from_ aj.rfl_)) rfl ?_)));intro w4 O2 P2;refine ass rfl (asi rfl (asi rfl (ak (ag (aC (ay (jS rfl (dB (cs:=[_,_,_,_,_,_,_,_,_,_,_,_,_,_,_,_,_,_,_,_,_,_]) aL aD rfl (by first | exact hq9.whole | exact P2.whole | exact P4.whole | exact P8.whole)) (c8 (v:=.slice _ _ _) rfl) (c8 (v:=.int _ _) rfl) (c8 (v:=.int _ _) rfl) ?_)))))));rw [t_ (by omega)];exact ⟨rfl,(((aj.rfl_.next E2).next E4).only O2 (hg4))⟩
 refine aR (ag (an (an (ah (aa (ae cF rfl) (aa (aq ar rfl (by exact (show _=some (Value.int .i64 s.role) from (hk2.from_ aj.rfl_).rd 2 rfl))) ?_))))));refine aa (dt rfl rfl) (ak (ag (xA rfl (fun Q5=>?_) (fun Q5=>?_))))
 ·refine an (ah (aa (aT (cs:=rfV s a) aL aD rfl ((hk2.from_ aj.rfl_).whole)) (cu (vs:=[_,_,_,_,_,_,_,_,_,_,_,_,_,_,_,_,_,_,_,_,_,_]) aD rfl rfl (by simp [Value.oneCell']) ((hk4.from_ aj.rfl_)) rfl ?_)));intro w6 O4 P4;refine ass rfl (asi rfl (asi rfl (ak (ag (aC (ay (jS rfl (dB (cs:=[_,_,_,_,_,_,_,_,_,_,_,_,_,_,_,_,_,_,_,_,_,_]) aL aD rfl (by first | exact hq9.whole | exact P2.whole | exact P4.whole | exact P8.whole)) (c8 (v:=.slice _ _ _) rfl) (c8 (v:=.int _ _) rfl) (c8 (v:=.int _ _) rfl) ?_)))))));rw [tZ (by omega) (by omega)];exact ⟨rfl,(((aj.rfl_.next E2).next E4).only O4 (hg4))⟩
 refine aR (ag (an (ah (aa (aT (cs:=rfV s a) aL aD rfl ((hk2.from_ aj.rfl_).whole)) ?_))));have hfu:=r9 he (by omega) (by omega)
 have hf9u:s.es.length=512∨aQ s=1099511627776:=by
  unfold eR at hfu;simpa [Bool.or_eq_true,decide_eq_true_eq] using hfu
 have hB9:aj w w2:=((aj.rfl_.next E2).next E4);have hk2b:=hk2.from_ aj.rfl_;have hlt2:=hk2b.lt;obtain ⟨wb,hw9⟩:∃ x,x=w2:=⟨_,rfl⟩;obtain ⟨Z,hZ⟩:∃ Z:Nat→Prop,Z=fun k=>k<wb.heap.size:=⟨_,rfl⟩
 have hk4b:=hk4.from_ aj.rfl_;have hlt4:=hk4b.lt;refine aG eY (fY s a _ (hrd.from_ ((aj.rfl_.next E2).next E4)) hl hel) ?_;rintro v22 w7 ⟨⟨tag9,a9,rfl,hf9,ht9⟩,E22⟩;refine aa (cM (l:=[(0,.tmp 22)]) (ic _ _ _ _ _ _ _ _ _ _ _ _ _ _ _ _ _ _ _ _ _ _ _ _ _ _ _ _ _ _ _ _ _ _)) (cU (v:=.agg _) rfl ?_);intro b24 w8 E24 hb24 hk24
 have h11:bt wb Z w8 111 b24 ⟨s,[]⟩:=by
  rw [hZ,hw9];exact mg E22 hf9 ht9 E24 hb24 (show Blk _ b24 111 (rfV s a9++[Value.slice none 0 0]).toArray from hk24)
 rw [←hw9] at hB9 hk2b hlt2;have stB:∀ {w':World} {p:Sp},bt wb Z w' 111 b24 p→aj w w':=fun h=>hB9.next (gA (by rw [hZ] at h;exact h))
 have hzB:=hB9.size;have hz2:Z b2:=by rw [hZ];exact hlt2
 have hzw:∀ k,k<w.heap.size→Z k:=fun k hk=>by rw [hZ];exact Nat.lt_of_lt_of_le hk hzB
 rw [←hw9] at hk4b hlt4;have hz4:Z b4:=by rw [hZ];exact hlt4
 obtain ⟨tg2,a2,O2,oc2,L2,hs2⟩:=h11.ex;refine asp rfl (ak (ag (an (ah (mvp rfl (aG j8 (mA 111 b24 s _ _ _ (hs2.b.from_ aj.rfl_) (hs2.f.rd.e.from_ aj.rfl_) hF.lg) ?_))))));rintro v27 w9 ⟨rfl,E27⟩;refine mvt rfl (aa (aS rfl rfl) (aa (aS rfl rfl) (asi rfl (asi rfl (ak (ag (an (an (ah (aa (ae bk rfl) (aa (ae cE rfl) (aa (aq cG rfl (by exact (show _=some (Value.slice a.E s.es.length a.Ec) from ((h11.kept hz2 hk2b).from_ (aj.rfl_.next E27)).rd 8 rfl))) ?_))))))))))));refine aa (bm cT rfl) (aa (bC rfl rfl) (mvb rfl (wK (t:=35) rfl (fun Q10=>?_) (fun Q10=>?_))))
 ·refine ab rfl rfl (ab rfl rfl (aa (ao (v:=.bool _) rfl rfl) (ak (ag (aJ rfl (an (ah (aa (aT (cs:=rfV s a) aL aD rfl (((h11.kept hz2 hk2b).from_ (aj.rfl_.next E27)).whole)) (cu (vs:=[_,_,_,_,_,_,_,_,_,_,_,_,_,_,_,_,_,_,_,_,_,_]) aD rfl rfl (by simp [Value.oneCell']) (((h11.kept hz4 hk4b).from_ (aj.rfl_.next E27))) rfl ?_)))))))));intro w11 O8 P8;refine ass rfl (asi rfl (asi rfl (ak (ag (aC (ay (jS rfl (dB (cs:=[_,_,_,_,_,_,_,_,_,_,_,_,_,_,_,_,_,_,_,_,_,_]) aL aD rfl (by first | exact hq9.whole | exact P2.whole | exact P4.whole | exact P8.whole)) (c8 (v:=.slice _ _ _) rfl) (c8 (v:=.int _ _) rfl) (c8 (v:=.int _ _) rfl) ?_)))))));rw [qV (by omega) (by omega) hfu];exact ⟨rfl,((((((aj.rfl_.next E2).next E4).next E22).next E24).next E27).only O8 (hg4))⟩
 refine af rfl (mvi rfl (af rfl (aa (bC rfl rfl) (aa (av (v:=.bool _) rfl rfl) (ak (ag (xD rfl (fun Q12=>?_) (fun Q12=>?_))))))));rotate_left
 ·have h11b:=h11.from_ (aj.rfl_.next E27);obtain ⟨tgB,aB,OB,ocB,LB,hsB⟩:=h11b.ex;have hrB:(w9).ownsRow 0 99 3 (.slice aB.E s.es.length aB.Ec) s.es.length (dE s.es):=(hsB.f.e (by decide)).1;have hk2B:=h11b.kept hz2 hk2b;exfalso;omega
 refine an (ah (aa (aT (cs:=rfV s a) aL aD rfl (((h11.kept hz2 hk2b).from_ (aj.rfl_.next E27)).whole)) (cu (vs:=[_,_,_,_,_,_,_,_,_,_,_,_,_,_,_,_,_,_,_,_,_,_]) aD rfl rfl (by simp [Value.oneCell']) (((h11.kept hz4 hk4b).from_ (aj.rfl_.next E27))) rfl ?_)));intro w38 O8 P8;refine ass rfl (asi rfl (asi rfl (ak (ag (aC (ay (jS rfl (dB (cs:=[_,_,_,_,_,_,_,_,_,_,_,_,_,_,_,_,_,_,_,_,_,_]) aL aD rfl (by first | exact hq9.whole | exact P2.whole | exact P4.whole | exact P8.whole)) (c8 (v:=.slice _ _ _) rfl) (c8 (v:=.int _ _) rfl) (c8 (v:=.int _ _) rfl) ?_)))))));rw [qV (by omega) (by omega) hfu];exact ⟨rfl,((((((aj.rfl_.next E2).next E4).next E22).next E24).next E27).only O8 (hg4))⟩
end Go.Proofs.YtkpooenofjdpmaaGreat
