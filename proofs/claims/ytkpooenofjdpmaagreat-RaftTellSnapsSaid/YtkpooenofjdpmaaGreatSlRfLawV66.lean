/- texts that the claim stands on. -/
import Derived.Test.YtkpooenofjdpmaaGreatSlRfLawV65

set_option maxRecDepth 100000
set_option maxHeartbeats 4000000
namespace Go.Proofs.YtkpooenofjdpmaaGreat
open Go.Proofs.Tryz (prog)
open Go.RowKit
open Go.ChangeShapes Go.WideShapes Go.ChangeAt
theorem fH:prog.built 29 []=some #[.int .i64 0,.int .i64 0,.int .i64 0,.int .i64 0,.int .i64 0,.int .i64 0,.int .i64 0,.int .i64 0,.slice none 0 0,.string ⟨#[]⟩,.int .i64 0,.int .i64 0,.int .i64 0,.int .u64 0,.slice none 0 0,.slice none 0 0,.slice none 0 0,.slice none 0 0,.int .i64 0,.slice none 0 0,.string ⟨#[]⟩,.int .i64 0]:=by kernel_rfl
theorem m_:∀ (a0:Int) (a1:Int) (a2:Int),prog.built 29 [(0,.int .i64 a0),(1,.int .i64 a1),(11,.int .u64 a2)]=some #[.int .i64 a0,.int .i64 a1,.int .i64 0,.int .i64 0,.int .i64 0,.int .i64 0,.int .i64 0,.int .i64 0,.slice none 0 0,.string ⟨#[]⟩,.int .i64 0,.int .i64 0,.int .i64 0,.int .u64 a2,.slice none 0 0,.slice none 0 0,.slice none 0 0,.slice none 0 0,.int .i64 0,.slice none 0 0,.string ⟨#[]⟩,.int .i64 0]:=by intros;kernel_rfl
theorem sI:∀ (a0:Int) (a1:Int) (a2:Int) (a3:Int) (a4:Int) (a5:Int) (a6:Int) (a7:Int) (a8:Option Addr) (a9 a10:Nat) (a11:ByteArray) (a12:Int) (a13:Int) (a14:Int) (a15:Int) (a16:Option Addr) (a17 a18:Nat) (a19:Option Addr) (a20 a21:Nat) (a22:Option Addr) (a23 a24:Nat) (a25:Option Addr) (a26 a27:Nat) (a28:Int) (a29:Option Addr) (a30 a31:Nat) (a32:ByteArray) (a33:Int),prog.built 91 [(0,.agg #[.int .i64 a0,.int .i64 a1,.int .i64 a2,.int .i64 a3,.int .i64 a4,.int .i64 a5,.int .i64 a6,.int .i64 a7,.slice a8 a9 a10,.string a11,.int .i64 a12,.int .i64 a13,.int .i64 a14,.int .u64 a15,.slice a16 a17 a18,.slice a19 a20 a21,.slice a22 a23 a24,.slice a25 a26 a27,.int .i64 a28,.slice a29 a30 a31,.string a32,.int .i64 a33])]=some #[.int .i64 a0,.int .i64 a1,.int .i64 a2,.int .i64 a3,.int .i64 a4,.int .i64 a5,.int .i64 a6,.int .i64 a7,.slice a8 a9 a10,.string a11,.int .i64 a12,.int .i64 a13,.int .i64 a14,.int .u64 a15,.slice a16 a17 a18,.slice a19 a20 a21,.slice a22 a23 a24,.slice a25 a26 a27,.int .i64 a28,.slice a29 a30 a31,.string a32,.int .i64 a33]:=by intros;kernel_rfl
theorem lh:aP prog 55=true:=by kernel_rfl
theorem we:aP prog 56=true:=by kernel_rfl
theorem kX {P:Program} {n:Fr} {L:List (Nat×Value)} {w:World} {t:TypeId} {x y:Operand} {g:Nat} {u:TypeId} {cs:Array Value} {vs:List Value} (ht:ec P t=some vs.length) (hx:ev n L x=.pointer (some ⟨g,0,none⟩)) (hy:ev n L y=.agg vs.toArray) (h1:∀ v∈vs,v.oneCell'=true) (hb:Blk w g u cs) (hi:vs.length=cs.size) :
 ∃ w',RS P (ev n L) (.store t x y) w w'∧d_ g w w'∧Blk w' g u vs.toArray:=by
 have hb':Blk w g u cs.toList.toArray:=by simpa using hb
 refine ⟨_,mL ht hx hy h1 (hb'.there 0 vs.length (by simp;omega)),d_.sets vs 0 w,?_⟩;have:=Blk.sets vs 0 hb' (by simp;omega)
 rwa [r5 cs.toList vs (by simp;omega)] at this
theorem jI {w w':World} {T g:Nat} {p:Sp} (h:aQ w (fun k=>k<w.heap.size) w' T g p):ai w w':=
 ⟨h.fr.os,h.fr.tape,h.fr.output,h.fr.size,fun k hk=>h.fr.block k hk fun e=>e hk⟩
def zJ (w w':World) (p:Sp) (v:Value):Prop:=∃ tag a O oc L,v=.tuple #[.agg (rfV p.s a).toArray,.slice O L.length oc,.int .i64 0]∧bm w' tag p.s a∧eD w' tag p.out O oc L∧∀ k,k<w.heap.size→tag k=8
theorem zJ.mk_ {w w1 w':World} {T g oc:Nat} {tag:Nat→Nat} {p:Sp} {a:Ra} {O:Option Addr} {L:List Msg} {Z:Nat→Prop} (hs:eX w1 Z T g tag p a O oc L) (hz:∀ k,k<w.heap.size→Z k) (hC:Chg (fun k=>Z k) w1 w'):zJ w w' p (.tuple #[.agg (rfV p.s a).toArray,.slice O L.length oc,.int .i64 0]):=by
 have ne:∀ {d:Nat} {A:Option Addr},d≠8→Col tag d A→∀ k,A.map (·.block)=some k→¬ Z k:=fun hd hc k hk e=>hd ((hc k hk).symm.trans (hs.z k e))
 have mv:∀ {d e s n cc:Nat} {A:Option Addr} {xs:List Value},d≠8→w1.ownsRow 0 e s (.slice A n cc) n xs∧Col tag d A→w'.ownsRow 0 e s (.slice A n cc) n xs∧Col tag d A:=fun hd h=>⟨ew h.1 hC (ne hd h.2),h.2⟩
 refine ⟨tag,a,O,oc,L,rfl,⟨fun hx=>mv (by decide) (hs.f.e hx),fun hx=>mv (by decide) (hs.f.v hx),fun hx=>mv (by decide) (hs.f.x hx),fun hx=>mv (by decide) (hs.f.m hx),fun hx=>mv (by decide) (hs.f.n hx),hs.f.r,fun hx=>mv (by decide) (hs.f.q hx),fun i hi hx=>mv (by omega) (hs.f.k i hi hx)⟩,⟨(mv (d:=6) (by decide) ⟨hs.m.o,hs.m.c⟩).1,hs.m.l,fun j hj=>mv (by omega) (hs.m.e j hj),hs.m.c⟩,fun k hk=>hs.z k (hz k hk)⟩
def nI (id n:Int):Prop:=(1≤n∧n≤7)∧(1≤id∧id≤n)
instance (id n:Int):Decidable (nI id n):=by unfold nI;exact inferInstance
theorem y8 (id n seed:Int) (w:World) :
 Rt prog 21 [.int .i64 id,.int .i64 n,.int .u64 seed] w (fun v w'=>((nI id n∧v=.tuple #[.agg (rfV (r7 id n seed) a0).toArray,.int .i64 0])∨(¬ nI id n∧v=.tuple #[.agg (rfV zR a0).toArray,.int .i64 1]))∧ai w w'):=by
 refine enter (n:=29) Tryz.func21 rfl rfl rfl (an (af (bU df ?_)));intro b6 w1 E6 hb6 hk6;have hg6:w.heap.size≤b6:=Nat.le_of_eq hb6.symm;refine asi rfl (ak (ag (an (an (af (mvi rfl (fD (v:=.int _ _) bS rfl rfl rfl ?_)))))));intro b10 w2 E10 hb10 hk10;refine aC dB (eG 1 7 (some ⟨b10,0,none⟩) 1 [n] _ (fT hk10) (by simp)) ?_;rintro v11 w3 ⟨rfl,rfl⟩;refine ab (cp rfl) (mvb rfl (aM (t:=13) rfl (fun Q4=>?_) (fun Q4=>?_)))
 ·with_reducible (replace Q4:=dS Q4;replace Q4:=dF_ Q4)
  (try simp only [bu,bA,and_true] at Q4)
  refine ar rfl rfl (ar rfl rfl (ar rfl rfl (ar rfl rfl (ar rfl rfl (ab (aL (v:=.bool _) rfl rfl) (ak (ag (a_ rfl (an (af ?_))))))))));refine ab (c6 (l:=[]) (fH)) (cq (vs:=[_,_,_,_,_,_,_,_,_,_,_,_,_,_,_,_,_,_,_,_,_,_]) aJ rfl rfl (by simp [Value.oneCell']) ((hk6.from_ (ai.rfl_.next E10))) rfl ?_);intro w5 O2 P2;refine asi rfl (ak (ag (aE (aG (ow rfl (dY (cs:=[_,_,_,_,_,_,_,_,_,_,_,_,_,_,_,_,_,_,_,_,_,_]) aS aJ rfl (by first | exact P5.whole | exact P2.whole)) (gn (v:=.int _ _) rfl) ?_)))));exact ⟨.inr ⟨by unfold nI;omega,rfl⟩,(((ai.rfl_.next E6).next E10).only O2 (hg6))⟩
 with_reducible (replace Q4:=dU Q4;replace Q4:=dT_ Q4)
 (try simp only [bu,bA,and_true] at Q4)
 refine ae rfl (mvi rfl (ae rfl (mvi rfl (ae rfl (fD (v:=.int _ _) bS rfl rfl rfl ?_)))));intro b16 w6 E16 hb16 hk16;refine ae rfl (aC dB (eG 1 n (some ⟨b16,0,none⟩) 1 [id] _ (fT hk16) (by simp)) ?_);rintro v17 w7 ⟨rfl,rfl⟩;refine ae rfl (ab (cp rfl) (ab (ay (v:=.bool _) rfl rfl) (ak (ag (aU rfl (fun Q8=>?_) (fun Q8=>?_))))))
 ·with_reducible (replace Q8:=dS Q8;replace Q8:=dF_ Q8)
  (try simp only [bu,bA,and_true] at Q8)
  refine an (af (ab (c6 (l:=[]) (fH)) (cq (vs:=[_,_,_,_,_,_,_,_,_,_,_,_,_,_,_,_,_,_,_,_,_,_]) aJ rfl rfl (by simp [Value.oneCell']) ((hk6.from_ ((ai.rfl_.next E10).next E16))) rfl ?_)));intro w9 O2 P2;refine asi rfl (ak (ag (aE (aG (ow rfl (dY (cs:=[_,_,_,_,_,_,_,_,_,_,_,_,_,_,_,_,_,_,_,_,_,_]) aS aJ rfl (by first | exact P5.whole | exact P2.whole)) (gn (v:=.int _ _) rfl) ?_)))));exact ⟨.inr ⟨by unfold nI;omega,rfl⟩,((((ai.rfl_.next E6).next E10).next E16).only O2 (hg6))⟩
 with_reducible (replace Q8:=dU Q8;replace Q8:=dT_ Q8)
 (try simp only [bu,bA,and_true] at Q8)
 refine aN (ag (an (af (mvi rfl (mvi rfl (mvi rfl (ab (c6 (l:=[(0,.tmp 21),(1,.tmp 22),(11,.tmp 23)]) (m_ _ _ _)) (ab (c6 (l:=[(0,.tmp 24)]) (sI _ _ _ _ _ _ _ _ _ _ _ _ _ _ _ _ _ _ _ _ _ _ _ _ _ _ _ _ _ _ _ _ _ _)) ?_))))))));have hM8:ai _ w6:=((ai.rfl_.next E10).next E16);have hz8:=((((ai.rfl_.next E6).next E10).next E16)).size;refine bU nG ?_;intro b8 w10 E8 hb8 hk8;have hg8:w.heap.size≤b8:=by omega
 have hk6b:=hk6.from_ (hM8.next E8);have h68:b6≠b8:=by have:=(hk6.from_ hM8).lt;omega
 refine cq (vs:=[_,_,_,_,_,_,_,_,_,_,_,_,_,_,_,_,_,_,_,_,_,_]) kT rfl rfl (by simp [Value.oneCell']) (hk8) rfl ?_;intro w11 O3 P3;have hb8:Blk w11 b8 91 (rfV ({ zR with id:=id,nodes:=n,seed:=seed }:Rf) a0++[]).toArray:=P3;have hk6c:=hk6b.only O3 h68;refine ak (ag (an (af ?_)));have hB8:ai w w11:=(((((ai.rfl_.next E6).next E10).next E16).next E8).only O3 (hg8));refine aC kS (qK 91 b8 { zR with id:=id,nodes:=n,seed:=seed } a0 [] _ hb8) ?_;rintro v26 w12 ⟨rfl,hb26,hC26⟩;have hk6d:=hk6c.chg hC26 h68;refine ak (ag (an (af (ab (aa az rfl) (ab (aK (cs:=rfV (r7 id n seed) a0) aS aJ rfl (mN (hb26.from_ ai.rfl_))) (cq (vs:=[_,_,_,_,_,_,_,_,_,_,_,_,_,_,_,_,_,_,_,_,_,_]) aJ rfl rfl (by simp [Value.oneCell']) ((hk6d.from_ ai.rfl_)) rfl ?_))))));intro w13 O5 P5;refine asi rfl (ak (ag (aE (ow rfl (dY (cs:=[_,_,_,_,_,_,_,_,_,_,_,_,_,_,_,_,_,_,_,_,_,_]) aS aJ rfl (by first | exact P5.whole | exact P2.whole)) (gn (v:=.int _ _) rfl) ?_))));exact ⟨.inl ⟨by unfold nI;omega,rfl⟩,((hB8.chg hC26 (fun k hk=>by rw [show k=b8 from hk];exact hg8)).only O5 (hg6))⟩
theorem wE (s:Rf) (a:Ra) (w:World) (hrd:eQ w s a) (hl:s.votes.length≤1000000∧s.next.length≤1000000∧s.mtch.length≤1000000∧s.sent.length≤1000000∧s.reads.length≤1000000∧∀ q∈s.reads,q.acks.length≤1000000) (hel:s.es.length≤1000000) (hm:iq s=true) :
 Rt prog 23 [.agg (rfV s a).toArray] w (fun v w'=>zJ w w' (iI s) v∧ai w w'):=by
 refine enter (n:=27) Tryz.func23 rfl rfl rfl (an (af (bQ (v:=.agg _) rfl ?_)));intro b1 w1 E1 hb1 hk1;refine bU df ?_;intro b2 w2 E2 hb2 hk2;have hg2:w.heap.size≤b2:=by rw [hb2];exact ((ai.rfl_.next E1)).size
 refine ass rfl (asi rfl (ak (ag (an (af (ab (aK (cs:=rfV s a) aS aJ rfl (((hk1.from_ E2).from_ ai.rfl_).whole)) ?_))))));have hB9:ai w w2:=((ai.rfl_.next E1).next E2);have hk2b:=hk2.from_ ai.rfl_;have hlt2:=hk2b.lt;refine aC lh (oX s a _ (hrd.from_ ((ai.rfl_.next E1).next E2)) hl hel hm) ?_;rintro v9 w3 ⟨g,rfl,h9⟩;refine mvt rfl (ab (aY rfl rfl) (ab (aY rfl rfl) (asp rfl (asi rfl (ak (ag (an (an (af (mvi rfl (ab (bY (de rfl rfl) rfl) (ak (ag ?_)))))))))))));refine bc rfl (aN (ag (an (af (mvp rfl (aC we (yN _ _ 96 g s _ (h9.from_ ai.rfl_) (mS hm)) ?_))))));rintro v17 w4 ⟨rfl,h17⟩;obtain ⟨tag9,a9,O9,oc9,L9,hs9⟩:=h17.ex;have hF17:=jI h17;have hk2c:=hk2b.from_ hF17;have hz9:=hB9.size;have hBq:ai w w4:=(hB9.next (jI h17));have hn2:b2≠g:=fun e=>by have h1:=hs9.z b2 hlt2;rw [e,hs9.gc] at h1;cases h1
 replace hn2:=hn2.symm;refine ak (ag (an ?_));have hU5:kI [(0,18,.pointer (some ⟨g,0,none⟩)),(1,19,.pointer (some ⟨g,0,none⟩)),(2,20,.pointer (some ⟨g,0+0,none⟩)),(3,21,.pointer (some ⟨g,0+0+0,none⟩)),(4,22,.agg (rfV (iI s).s a9).toArray),(5,23,.pointer (some ⟨g,0,none⟩)),(6,24,.pointer (some ⟨g,0,none⟩)),(7,25,.pointer (some ⟨g,0+22,none⟩)),(8,26,.slice O9 L9.length oc9),(10,3,.slice O9 L9.length oc9),(11,4,.int .i64 0)]:=by simp [kI]
 refine mr [(0,18,.pointer (some ⟨g,0,none⟩)),(1,19,.pointer (some ⟨g,0,none⟩)),(2,20,.pointer (some ⟨g,0+0,none⟩)),(3,21,.pointer (some ⟨g,0+0+0,none⟩)),(4,22,.agg (rfV (iI s).s a9).toArray),(5,23,.pointer (some ⟨g,0,none⟩)),(6,24,.pointer (some ⟨g,0,none⟩)),(7,25,.pointer (some ⟨g,0+22,none⟩)),(8,26,.slice O9 L9.length oc9),(10,3,.slice O9 L9.length oc9),(11,4,.int .i64 0)] (fun S w'=>Blk w' g 96 ((rfV (iI s).s a9)++[Value.slice O9 L9.length oc9]).toArray∧(∃ cs:Array Value,cs.size=22∧Blk w' b2 29 cs∧(S 9=true→cs=(rfV (iI s).s a9).toArray))∧Chg (fun k=>k=b2) w4 w') (by kernel_rfl) (by kernel_rfl) hU5 (by simp) (⟨(hs9.b.from_ ai.rfl_).from_ ai.rfl_.d1,⟨_,rfl,(hk2c.from_ ai.rfl_).from_ ai.rfl_.d1,fun h=>(by cases h)⟩,ai.rfl_.d1.toChg⟩) ?_ ?_
 ·constructor
  ·rintro S L' wS hI hM hS0 ⟨-⟩;have e5:=hI.1 5 (by simp);have hM':=hM;obtain ⟨hgB,⟨cs9,hs9z,hq9,hqe⟩,hC9⟩:=hM';exact cj (aB e5) ⟨hI.put hU5 (.head _),hM⟩
  constructor
  ·rintro S L' wS hI hM hS0 ⟨d0,-⟩;have e18:bF L' 18=.pointer (some ⟨g,0,none⟩):=hI.get (i:=0) (.head _) d0;have hM':=hM;obtain ⟨hgB,⟨cs9,hs9z,hq9,hqe⟩,hC9⟩:=hM';exact cj (av e18) ⟨hI.put hU5 (.tail _ (.head _)),hM⟩
  constructor
  ·rintro S L' wS hI hM hS0 ⟨d1,-⟩;have e19:bF L' 19=.pointer (some ⟨g,0,none⟩):=hI.get (i:=1) (.tail _ (.head _)) d1;have hM':=hM;obtain ⟨hgB,⟨cs9,hs9z,hq9,hqe⟩,hC9⟩:=hM';exact cj (aa aF e19) ⟨hI.put hU5 (gM 2 rfl),hM⟩
  constructor
  ·rintro S L' wS hI hM hS0 ⟨d2,-⟩;have e20:bF L' 20=.pointer (some ⟨g,0+0,none⟩):=hI.get (i:=2) (gM 2 rfl) d2;have hM':=hM;obtain ⟨hgB,⟨cs9,hs9z,hq9,hqe⟩,hC9⟩:=hM';exact cj (aa az e20) ⟨hI.put hU5 (gM 3 rfl),hM⟩
  constructor
  ·rintro S L' wS hI hM hS0 ⟨d3,-⟩;have e21:bF L' 21=.pointer (some ⟨g,0+0+0,none⟩):=hI.get (i:=3) (gM 3 rfl) d3;have hM':=hM;obtain ⟨hgB,⟨cs9,hs9z,hq9,hqe⟩,hC9⟩:=hM';exact cj (aK (cs:=(rfV (iI s).s a9)) aS aJ e21 (mN hgB)) ⟨hI.put hU5 (gM 4 rfl),hM⟩
  constructor
  ·rintro S L' wS hI hM hS0 ⟨-,-⟩;have e5:=hI.1 5 (by simp);have hM':=hM;obtain ⟨hgB,⟨cs9,hs9z,hq9,hqe⟩,hC9⟩:=hM';exact cj (aB e5) ⟨hI.put hU5 (gM 5 rfl),hM⟩
  constructor
  ·rintro S L' wS hI hM hS0 ⟨d5,-,-⟩;have e23:bF L' 23=.pointer (some ⟨g,0,none⟩):=hI.get (i:=5) (gM 5 rfl) d5;have hM':=hM;obtain ⟨hgB,⟨cs9,hs9z,hq9,hqe⟩,hC9⟩:=hM';exact cj (av e23) ⟨hI.put hU5 (gM 6 rfl),hM⟩
  constructor
  ·rintro S L' wS hI hM hS0 ⟨d6,-,-⟩;have e24:bF L' 24=.pointer (some ⟨g,0,none⟩):=hI.get (i:=6) (gM 6 rfl) d6;have hM':=hM;obtain ⟨hgB,⟨cs9,hs9z,hq9,hqe⟩,hC9⟩:=hM';exact cj (aa iP e24) ⟨hI.put hU5 (gM 7 rfl),hM⟩
  constructor
  ·rintro S L' wS hI hM hS0 ⟨d7,-,-⟩;have e25:bF L' 25=.pointer (some ⟨g,0+22,none⟩):=hI.get (i:=7) (gM 7 rfl) d7;have hM':=hM;obtain ⟨hgB,⟨cs9,hs9z,hq9,hqe⟩,hC9⟩:=hM';exact cj (au jl e25 (by exact (show _=some (Value.slice O9 L9.length oc9) from hgB.rd 22 rfl))) ⟨hI.put hU5 (gM 8 rfl),hM⟩
  constructor
  ·rintro S L' wS hI hM hS0 ⟨d4,d0,d1,d2,d3,d4,-,-,-,-,-⟩;have e2:=hI.1 2 (by simp);have e22:bF L' 22=.agg (rfV (iI s).s a9).toArray:=hI.get (i:=4) (gM 4 rfl) d4;have hM':=hM;obtain ⟨hgB,⟨cs9,hs9z,hq9,hqe⟩,hC9⟩:=hM';obtain ⟨w2,hR,hO,hb⟩:=kX (n:=27) (L:=L') (x:=.tmp 2) (y:=.tmp 22) (vs:=(rfV (iI s).s a9)) aJ e2 e22 (by simp [rfV,Value.oneCell']) hq9 (by rw [hs9z];rfl);exact iK hR ⟨hI.skip (by simp),hgB.only hO hn2,⟨_,rfl,hb,fun _=>rfl⟩,hC9.next (hO.toChg rfl)⟩
  constructor
  ·rintro S L' wS hI hM hS0 ⟨d8,d9,d0,d1,d2,d3,d4,d5,d6,d7,d8,d9,-⟩;have e26:bF L' 26=.slice O9 L9.length oc9:=hI.get (i:=8) (gM 8 rfl) d8;have hM':=hM;obtain ⟨hgB,⟨cs9,hs9z,hq9,hqe⟩,hC9⟩:=hM';exact cj (dp e26) ⟨hI.put hU5 (gM 9 rfl),hM⟩
  constructor
  ·rintro S L' wS hI hM hS0 ⟨d10,d0,d1,d2,d3,d4,d5,d6,d7,d8,d9,d10,-⟩;have hM':=hM;obtain ⟨hgB,⟨cs9,hs9z,hq9,hqe⟩,hC9⟩:=hM';exact cj (dp rfl) ⟨hI.put hU5 (gM 10 rfl),hM⟩
  exact trivial
 ·intro w6 hM;obtain ⟨hgB,⟨cs9,hs9z,hq9,hqe⟩,hC9⟩:=hM;have hqe:=hqe rfl;subst hqe;refine ag (aE (uZ rfl (dY (cs:=[_,_,_,_,_,_,_,_,_,_,_,_,_,_,_,_,_,_,_,_,_,_]) aS aJ rfl (by exact hq9.whole)) (gn (v:=.slice _ _ _) rfl) (gn (v:=.int _ _) rfl) ?_));exact ⟨zJ.mk_ hs9 (fun k hk=>Nat.lt_of_lt_of_le hk hz9) (hC9.wide (fun k hk=>.inl (by rw [show k=b2 from hk];exact hlt2))),(hBq.chg hC9 (fun k hk=>by rw [show k=b2 from hk];exact hg2))⟩
section
variable {P:Program} {ops:Array Oper} {Q:Exit→Act→World→Prop} {rest:List Oper} {n:Fr} {L:List (Nat×Value)} {w0 w:World} {Z:Nat→Prop} {ty:TypeId} {pos:String} {after:Array Edge} {t:TypeId} {x y:Operand} {T g:Nat} {p:Sp} {s':Rf}
theorem aQ.rd {k:Nat} {v:Value} (h:aQ w0 Z w T g p) (hv:∀ a,(rfV p.s a)[k]? =some v):w.cell? ⟨g,k,none⟩=some v:=by
 obtain ⟨tag,a,O,oc,L,hs⟩:=h.ex;exact ch hs.b k (hv a)
end
def vn (w w':World) (p:Sp) (tag:Nat→Nat) (a:Ra) (O:Option Addr) (oc:Nat) (L:List Msg):Prop:=bm w' tag p.s a∧eD w' tag p.out O oc L∧∀ k,k<w.heap.size→tag k=8
theorem vn.mk_ {w w1 w':World} {T g oc:Nat} {tag:Nat→Nat} {p:Sp} {a:Ra} {O:Option Addr} {L:List Msg} {Z:Nat→Prop} (hs:eX w1 Z T g tag p a O oc L) (hz:∀ k,k<w.heap.size→Z k) (hC:Chg (fun k=>Z k) w1 w'):vn w w' p tag a O oc L:=by
 have ne:∀ {d:Nat} {A:Option Addr},d≠8→Col tag d A→∀ k,A.map (·.block)=some k→¬ Z k:=fun hd hc k hk e=>hd ((hc k hk).symm.trans (hs.z k e))
 have mv:∀ {d e s n cc:Nat} {A:Option Addr} {xs:List Value},d≠8→w1.ownsRow 0 e s (.slice A n cc) n xs∧Col tag d A→w'.ownsRow 0 e s (.slice A n cc) n xs∧Col tag d A:=fun hd h=>⟨ew h.1 hC (ne hd h.2),h.2⟩
 exact ⟨⟨fun hx=>mv (by decide) (hs.f.e hx),fun hx=>mv (by decide) (hs.f.v hx),fun hx=>mv (by decide) (hs.f.x hx),fun hx=>mv (by decide) (hs.f.m hx),fun hx=>mv (by decide) (hs.f.n hx),hs.f.r,fun hx=>mv (by decide) (hs.f.q hx),fun i hi hx=>mv (by omega) (hs.f.k i hi hx)⟩,⟨(mv (d:=6) (by decide) ⟨hs.m.o,hs.m.c⟩).1,hs.m.l,fun j hj=>mv (by omega) (hs.m.e j hj),hs.m.c⟩,fun k hk=>hs.z k (hz k hk)⟩
def BP (p:Sp) (a:Ra) (O:Option Addr) (oc:Nat) (L:List Msg):List Value:=[.agg (rfV p.s a).toArray,.slice O L.length oc]
end Go.Proofs.YtkpooenofjdpmaaGreat
namespace Go.Proofs.YtkpooenofjdpmaaGreat
open Go.Proofs.Tryz (prog)
open Go.RowKit
open Go.ChangeShapes Go.WideShapes Go.ChangeAt
theorem kp:prog.built 99 [(0,.int .i64 (-9))]=some #[.int .i64 (-9),.int .i64 0,.string ⟨#[]⟩]:=by kernel_rfl
theorem ra:prog.built 99 []=some #[.int .i64 0,.int .i64 0,.string ⟨#[]⟩]:=by kernel_rfl
theorem nD:aP prog 93=true:=by kernel_rfl
theorem iz:aP prog 43=true:=by kernel_rfl
theorem kq:prog.built 54 [(0,.int .i64 (-9))]=some #[.int .i64 (-9),.int .i64 0,.int .i64 0,.slice none 0 0]:=by kernel_rfl
theorem kr:prog.built 39 [(0,.int .i64 (-9))]=some #[.int .i64 (-9),.int .i64 0,.int .i64 0,.int .i64 0,.int .i64 0,.int .i64 0,.int .i64 0,.int .i64 0,.bool false,.slice none 0 0,.int .i64 0,.string ⟨#[]⟩,.bool false]:=by kernel_rfl
theorem rb:prog.built 39 []=some #[.int .i64 0,.int .i64 0,.int .i64 0,.int .i64 0,.int .i64 0,.int .i64 0,.int .i64 0,.int .i64 0,.bool false,.slice none 0 0,.int .i64 0,.string ⟨#[]⟩,.bool false]:=by kernel_rfl
theorem pL (base:Nat) (A:Option Addr) (c n:Nat) (xs:List Value) (w:World) (ho:w.ownsRow base 99 3 (.slice A n c) n xs) (hb:base≤w.heap.size) (hl:n≤1000000000) :
 Rt prog 93 [.slice A n c] w (fun v w'=>v=.tuple #[]∧w.grownBy w' (A.map (·.block))):=by
 refine enter (n:=17) Tryz.func93 rfl rfl rfl (an (an (af (asi rfl (ak (ag (bf (cS (G:=Nat×List Value) [3,4,5,6,7,8,9,10,11,12] (fun (k,_)=>[(2,.int .i64 (k:Nat))]) (fun (k,ys) w'=>k≤n∧w'.ownsRow base 99 3 (.slice A n c) n ys∧w.grownBy w' (A.map (·.block))) (fun (k,_)=>n-k) ((0,xs)) ⟨rfl,trivial⟩ ?_ ?_))))))))
 ·exact ⟨Nat.zero_le _,ho,World.grownBy.refl _ _⟩
 rintro ⟨k,ys⟩ ρ1 w1 ⟨hk,ho2,hG⟩;refine an (an (af (mvi rfl (mvs rfl (ab (bL db rfl) (ab (bZ rfl rfl) (ak (ag (Bu rfl (fun Q2=>?_) (fun Q2=>?_))))))))))
 ·obtain ⟨g,rfl⟩:=c8 ho2 (by omega);refine aN (ag (an (bf (af (mvs rfl (mvi rfl (ab (c6 (l:=[(0,.const (.int .i64 (-9)))]) (kp)) (ab (iL fk rfl rfl (by omega)) ?_))))))));refine ly (size:=3) (o:=k*3) (vs:=[.int .i64 (-9),.int .i64 0,.string ⟨#[]⟩]) gB (by show Value.pointer (some ⟨g,0+k*3,none⟩)=_;rw [Nat.zero_add]) rfl (by simp [Value.oneCell']) ho2 (by omega) (by show k*3+3≤n*3;omega) ?_;intro w3 O3 P3;refine ak (bq (ag (af (mvi rfl (ab (b0 rfl rfl (by omega)) (asi rfl (ak ?_)))))));refine cG ((k+1,fV ys (k*3) [.int .i64 (-9),.int .i64 0,.string ⟨#[]⟩])) ⟨(by first | rfl | (refine bo ?_;omega)),trivial⟩ (by (iterate 22 refine bE rfl ?_);exact bX) ⟨?_,?_⟩
  ·exact ⟨by omega,P3,dk hG (d_.grown O3)⟩
  ·show n-(k+1)<n-k;omega
 refine cz (bk (bk (bW (ag (af (mvs rfl (ab (c6 (l:=[]) (ra)) (jC (l:=[(0,.tmp 14)]) (cells:=#[.int .i64 0,.int .i64 0,.string ⟨#[]⟩]) jk rfl rfl (by first | rfl | kernel_rfl) ?_))))))));intro bx w4 Ex hbx hkx;refine gT (news:=[.int .i64 0,.int .i64 0,.string ⟨#[]⟩]) jk rfl (by decide) rfl (ho2.kept_from Ex) (Nat.le_trans hb (Nat.le_trans hG.size Ex.size)) rfl rfl (fun _=>⟨bx,0,rfl,hkx.whole⟩) (fun h=>by cases h) (by simp [Value.oneCell']) (by omega) (by omega) ?_;intro Ax cx w5 hox hgx;refine ass rfl (ak (cB (dN rfl (⟨rfl,dk (dk hG (Ex.grown _)) hgx⟩))))
theorem jJ (base:Nat) (A:Option Addr) (c n:Nat) (xs:List Value) (w:World) (ho:w.ownsRow base 3 1 (.slice A n c) n xs) (hb:base≤w.heap.size) (hl:n≤1000000000) :
 Rt prog 43 [.slice A n c] w (fun v w'=>v=.tuple #[]∧w.grownBy w' (A.map (·.block))):=by
 refine enter (n:=15) Tryz.func43 rfl rfl rfl (an (an (af (asi rfl (ak (ag (bf (cS (G:=Nat×List Value) [3,4,5,6,7,8,9,10,11] (fun (k,_)=>[(2,.int .i64 (k:Nat))]) (fun (k,ys) w'=>k≤n∧w'.ownsRow base 3 1 (.slice A n c) n ys∧w.grownBy w' (A.map (·.block))) (fun (k,_)=>n-k) ((0,xs)) ⟨rfl,trivial⟩ ?_ ?_))))))))
 ·exact ⟨Nat.zero_le _,ho,World.grownBy.refl _ _⟩
 rintro ⟨k,ys⟩ ρ1 w1 ⟨hk,ho2,hG⟩;refine an (an (af (mvi rfl (mvs rfl (ab (bL bP rfl) (ab (bZ rfl rfl) (ak (ag (Bu rfl (fun Q2=>?_) (fun Q2=>?_))))))))))
 ·obtain ⟨g,rfl⟩:=c8 ho2 (by omega);refine aN (ag (an (bf (af (mvs rfl (mvi rfl (ab (bp aV rfl rfl (by omega)) (eg (i:=k) (v:=.int .i64 (-99)) bj rfl rfl rfl ho2 (by omega) ?_))))))));intro w3 O3 P3;refine ak (bq (ag (af (mvi rfl (ab (b0 rfl rfl (by omega)) (asi rfl (ak ?_)))))));refine cG ((k+1,ys.set k (.int .i64 (-99)))) ⟨(by first | rfl | (refine bo ?_;omega)),trivial⟩ (by (iterate 20 refine bE rfl ?_);exact bX) ⟨?_,?_⟩
  ·exact ⟨by omega,P3,dk hG (d_.grown O3)⟩
  ·show n-(k+1)<n-k;omega
 refine cz (bk (bk (bW (ag (af (mvs rfl (jC (l:=[(0,.const (.int .i64 5))]) (cells:=#[.int .i64 5]) bS rfl rfl (by first | rfl | kernel_rfl) ?_)))))));intro bx w4 Ex hbx hkx;refine gT (news:=[.int .i64 5]) bS rfl (by decide) rfl (ho2.kept_from Ex) (Nat.le_trans hb (Nat.le_trans hG.size Ex.size)) rfl rfl (fun _=>⟨bx,0,rfl,hkx.whole⟩) (fun h=>by cases h) (by simp [Value.oneCell']) (by omega) (by omega) ?_;intro Ax cx w5 hox hgx;refine ass rfl (ak (cB (dN rfl (⟨rfl,dk (dk hG (Ex.grown _)) hgx⟩))))
def mZ (k:Int):Msg:={ zM with k:=k }
def qZ:Rd×Option Addr×Nat:=(⟨-9,0,0,[]⟩,none,0)
section
variable {α:Type}
def spX (z:α) (X:List α) (k:Nat):List α:=List.replicate k z++X.drop k
theorem jZ {z:α} {X:List α} {k:Nat} (h:k≤X.length):(spX z X k).length=X.length:=by simp [spX];omega
theorem wK {z:α} {X:List α} {k:Nat} (h:k<X.length):(spX z X k)[k]'(by rw [jZ (by omega)];exact h)=X[k]:=by
 simp [spX,List.getElem_append_right]
theorem uR {z:α} {X:List α} {k:Nat} (h:k<X.length):(spX z X k).set k z=spX z X (k+1):=by
 unfold spX;rw [List.set_append_right _ _ (by simp),List.length_replicate,Nat.sub_self,List.drop_eq_getElem_cons h,List.set_cons_zero,List.replicate_succ',List.append_assoc];rfl
end
theorem Bj (k:Int):Instr.fill (fun i=>some (i*13,13)) ((Array.range (1*13)).map ((.agg (bC (mZ 0)).toArray:Value).cells[·%(.agg (bC (mZ 0)).toArray:Value).cells.size]!)) [(0,.agg (bC (mZ k)).toArray)]=some (bC (mZ k)).toArray:=by
 first
  |kernel_rfl
  |rfl
def U5 (Z:Nat) (tag:Nat→Nat) (j:Nat):Nat→Prop:=fun q=>q<Z∧tag q<j
def UA (Z:Nat) (tag:Nat→Nat) (k:Nat):Nat→Prop:=fun q=>q<Z∧(tag q≤5∨∃ i,i<k∧tag q=1001+2*i)
def UM (Z:Nat) (tag:Nat→Nat) (k:Nat):Nat→Prop:=fun q=>q<Z∧(tag q=6∨∃ i,i<k∧tag q=1000+2*i)
theorem U5.up {Z j:Nat} {tag:Nat→Nat} {w w':World} (h:Chg (U5 Z tag j) w w'):Chg (U5 Z tag (j+1)) w w':=h.wide fun _ h=>.inl ⟨h.1,Nat.lt_succ_of_lt h.2⟩
theorem UA.up {Z k:Nat} {tag:Nat→Nat} {w w':World} (h:Chg (UA Z tag k) w w'):Chg (UA Z tag (k+1)) w w':=h.wide fun _ h=>.inl ⟨h.1,h.2.imp id fun ⟨i,a,b⟩=>⟨i,Nat.lt_succ_of_lt a,b⟩⟩
theorem UM.up {Z k:Nat} {tag:Nat→Nat} {w w':World} (h:Chg (UM Z tag k) w w'):Chg (UM Z tag (k+1)) w w':=h.wide fun _ h=>.inl ⟨h.1,h.2.imp id fun ⟨i,a,b⟩=>⟨i,Nat.lt_succ_of_lt a,b⟩⟩
theorem oe {w0 w1 w2 w3:World} {tag:Nat→Nat} {d e s n c:Nat} {A:Option Addr} {xs:List Value} (h:w0.ownsRow 0 e s (.slice A n c) n xs∧Col tag d A) (hg:w2.grownBy w3 (A.map (·.block))) (hC:Chg (U5 w0.heap.size tag d) w1 w2):Chg (U5 w0.heap.size tag (d+1)) w1 w3:=
 (U5.up hC).next (Chg.of_grown hg fun q hq=>⟨dG h.1 q hq,by rw [h.2 q hq];exact Nat.lt_succ_self _⟩)
theorem jY (tag:Nat→Nat) (s:Rf) (a:Ra) (w:World) (h:bm w tag s a) (hl:s.votes.length≤1000000∧s.next.length≤1000000∧s.mtch.length≤1000000∧s.sent.length≤1000000∧s.reads.length≤1000000∧∀ q∈s.reads,q.acks.length≤1000000) (hel:s.es.length≤1000000) :
 Rt prog 51 [.agg (rfV s a).toArray] w (fun v w'=>v=.tuple #[]∧Chg (fun q=>StC (tag q)) w w'):=by
 obtain ⟨hl1,hl2,hl3,hl4,hl5,hl6⟩:=id hl;have hLl:a.L.length=s.reads.length:=by rw [←h.r (by decide),List.length_map]
 refine enter (n:=38) Tryz.func51 rfl rfl rfl (an (af (bQ (v:=.agg _) rfl ?_)));intro b1 w1 E1 hb1 hk1;refine ak (ag (an (af (ab (aa bg rfl) (ab (aa dy rfl) (ab (au cU rfl (by exact (show _=some (Value.slice a.E s.es.length a.Ec) from (hk1.from_ ai.rfl_).rd 8 rfl))) ?_))))));have hz0:=E1.size;have hB1:ai w w1:=(ai.rfl_.next E1);have hC0:Chg (U5 w.heap.size tag 0) w1 w1:=Chg.rfl_;have hkb0:=hk1.from_ ai.rfl_;have hn1:∀ j,¬ U5 w.heap.size tag j b1:=fun j e=>absurd e.1 (by omega)
 have hnA:∀ j,¬ UA w.heap.size tag j b1:=fun j e=>absurd e.1 (by omega)
 obtain ⟨wb,hwb⟩:∃ x,x=w1:=⟨_,rfl⟩;rw [←hwb] at hB1 hC0 hkb0;have hr0:=ew ((h.e (by decide)).1.kept_from hB1) hC0 (fun k hk e=>absurd e.2 (by rw [(h.e (by decide)).2 k hk];omega));refine aC nD (pL 0 a.E a.Ec s.es.length (dR s.es) _ (by rw [←hwb];exact hr0) (Nat.zero_le _) (by omega)) ?_;rintro v6 w2 ⟨rfl,hg0⟩;rw [←hwb] at hg0;have hC1:=oe (h.e (by decide)) hg0 hC0;have hkb1:=hkb0.chg hC1 (hn1 _);refine ak (ag (an (af (ab (aa dc rfl) (ab (au aR rfl (by exact (show _=some (Value.slice a.V s.votes.length a.Vc) from (hkb1.from_ ai.rfl_).rd 14 rfl))) ?_)))));have hM1:ai _ w2:=ai.rfl_;have hr1:=ew ((h.v (by decide)).1.kept_from hB1) (hC1.next hM1.toChg) (fun k hk e=>absurd e.2 (by rw [(h.v (by decide)).2 k hk];omega));refine aC iz (jJ 0 a.V a.Vc s.votes.length (s.votes.map iV) _ hr1 (Nat.zero_le _) (by omega)) ?_;rintro v9 w3 ⟨rfl,hg1⟩;have hC2:=oe (h.v (by decide)) hg1 (hC1.next hM1.toChg);have hkb2:=hkb0.chg hC2 (hn1 _);refine ak (ag (an (af (ab (aa bw rfl) (ab (au aR rfl (by exact (show _=some (Value.slice a.X s.next.length a.Xc) from (hkb2.from_ ai.rfl_).rd 15 rfl))) ?_)))));have hM2:ai _ w3:=ai.rfl_;have hr2:=ew ((h.x (by decide)).1.kept_from hB1) (hC2.next hM2.toChg) (fun k hk e=>absurd e.2 (by rw [(h.x (by decide)).2 k hk];omega));refine aC iz (jJ 0 a.X a.Xc s.next.length (s.next.map iV) _ hr2 (Nat.zero_le _) (by omega)) ?_;rintro v12 w4 ⟨rfl,hg2⟩;have hC3:=oe (h.x (by decide)) hg2 (hC2.next hM2.toChg);have hkb3:=hkb0.chg hC3 (hn1 _);refine ak (ag (an (af (ab (aa cf rfl) (ab (au aR rfl (by exact (show _=some (Value.slice a.M s.mtch.length a.Mc) from (hkb3.from_ ai.rfl_).rd 16 rfl))) ?_)))));have hM3:ai _ w4:=ai.rfl_;have hr3:=ew ((h.m (by decide)).1.kept_from hB1) (hC3.next hM3.toChg) (fun k hk e=>absurd e.2 (by rw [(h.m (by decide)).2 k hk];omega));refine aC iz (jJ 0 a.M a.Mc s.mtch.length (s.mtch.map iV) _ hr3 (Nat.zero_le _) (by omega)) ?_;rintro v15 w5 ⟨rfl,hg3⟩;have hC4:=oe (h.m (by decide)) hg3 (hC3.next hM3.toChg);have hkb4:=hkb0.chg hC4 (hn1 _);refine ak (ag (an (af (ab (aa ct rfl) (ab (au aR rfl (by exact (show _=some (Value.slice a.S s.sent.length a.Sc) from (hkb4.from_ ai.rfl_).rd 17 rfl))) ?_)))));have hM4:ai _ w5:=ai.rfl_;have hr4:=ew ((h.n (by decide)).1.kept_from hB1) (hC4.next hM4.toChg) (fun k hk e=>absurd e.2 (by rw [(h.n (by decide)).2 k hk];omega));refine aC iz (jJ 0 a.S a.Sc s.sent.length (s.sent.map iV) _ hr4 (Nat.zero_le _) (by omega)) ?_;rintro v18 w6 ⟨rfl,hg4⟩;have hC5:=oe (h.n (by decide)) hg4 (hC4.next hM4.toChg);have hkb5:=hkb0.chg hC5 (hn1 _);refine ak (ag (an (af (asi rfl (ak (ag (bf (cS (G:=Nat) [19,20,21,22,23,24,25,26,27,28,29,30,31,32,33,34,35,36,37] (fun k=>[(2,.int .i64 (k:Nat))]) (fun k w'=>k≤a.L.length∧w'.ownsRow 0 54 4 (.slice a.Q a.L.length a.Qc) a.L.length ((spX qZ a.L k).flatMap rdV)∧Chg (UA w.heap.size tag k) wb w') (fun k=>a.L.length-k) (0) ⟨rfl,trivial⟩ ?_ ?_))))))))
 ·exact ⟨Nat.zero_le _,ew ((h.q (by decide)).1.kept_from hB1) (hC5.next (ai.rfl_:ai _ w6).toChg) (fun k hk e=>absurd e.2 (by rw [(h.q (by decide)).2 k hk];omega)),(hC5.next (ai.rfl_:ai _ w6).toChg).wide fun q e=>.inl ⟨e.1,.inl (by have:=e.2;omega)⟩⟩
 rintro k ρ7 w7 ⟨hk,hoQ,hCk⟩;refine an (an (af (mvi rfl (ab (aa bH rfl) (ab (au du rfl (by exact (show _=some (Value.slice a.Q a.L.length a.Qc) from ((hkb0.chg hCk (hnA _)).from_ ai.rfl_).rd 19 rfl))) ?_)))));refine ab (bL eK rfl) (ab (bZ rfl rfl) (ak (ag (Bu rfl (fun Q8=>?_) (fun Q8=>?_)))))
 ·have hkL:k<a.L.length:=by omega
  have hqk:a.L[k].1∈s.reads:=by rw [←h.r (by decide)];exact List.mem_map_of_mem (List.getElem_mem hkL)
  obtain ⟨gq,hgq⟩:∃ g,a.Q=some ⟨g,0,none⟩:=c8 hoQ (by omega);have hcq:∀ q,a.Q.map (·.block)=some q→tag q=5:=fun q hq=>(h.q (by decide)).2 q hq
  have hlq:=dG (h.q (by decide)).1;rw [hgq] at hoQ hcq hlq;have hkq:Blk w7 b1 29 (rfV s { a with Q:=some ⟨gq,0,none⟩ }).toArray:=by rw [←hgq];exact (hkb0.chg hCk (hnA _)).from_ ai.rfl_
  obtain ⟨bx,ox,hAx,hcx⟩:=(iv.own ib (by decide) hoQ).2 (by rw [jZ (by omega)];omega);cases hAx;have hvx:=hcx k (by rw [jZ (by omega)];exact hkL);rw [wK hkL] at hvx;have hc31:(w7).cell? ⟨gq,0+k*4+3,none⟩=some (.slice a.L[k].2.1 a.L[k].1.acks.length a.L[k].2.2):=dg ai.rfl_ (hvx 3 _ rfl);refine aN (ag (an (bf (an (af (ab (aa bH rfl) (ab (au du rfl (by exact (show _=some (Value.slice (some ⟨gq,0,none⟩) a.L.length a.Qc) from (hkq.from_ ai.rfl_).rd 19 rfl))) ?_)))))));refine mvi rfl (ab (bN eT rfl rfl (by omega)) (ab (aa ef rfl) (ab (au aR rfl (by exact dg ai.rfl_ hc31)) ?_)));have hM32:ai _ w7:=ai.rfl_;have hrk:=ew ((h.k k hkL (by omega)).1.kept_from hB1) (hCk.next hM32.toChg) (fun q hq e=>by rcases e.2 with e2 | ⟨i,hi,e2⟩ <;> rw [(h.k k hkL (by omega)).2 q hq] at e2 <;> omega);refine aC iz (jJ 0 a.L[k].2.1 a.L[k].2.2 a.L[k].1.acks.length (a.L[k].1.acks.map iV) _ hrk (Nat.zero_le _) (by have:=hl.2.2.2.2.2 _ hqk;omega)) ?_;rintro v32 w9 ⟨rfl,hg32⟩;have hC9:Chg (UA w.heap.size tag (k+1)) wb w9:=(UA.up (hCk.next hM32.toChg)).next (Chg.of_grown hg32 fun q hq=>⟨dG (h.k k hkL (by omega)).1 q hq,.inr ⟨k,Nat.lt_succ_self _,(h.k k hkL (by omega)).2 q hq⟩⟩);have hoQ9:=ew (hoQ.kept_from hM32) (Chg.of_grown (U:=fun q=>tag q=1001+2*k) hg32 fun q hq=>(h.k k hkL (by omega)).2 q hq) (fun q hq e=>by have:=hcq q hq;omega);refine ak (ag (af (ab (aa bH rfl) ?_)));refine ab (au du rfl (by exact (show _=some (Value.slice (some ⟨gq,0,none⟩) a.L.length a.Qc) from by rw [←hgq];exact ((hkb0.chg hC9 (hnA _)).from_ ai.rfl_).rd 19 rfl))) ?_;refine mvi rfl (ab (c6 (l:=[(0,.const (.int .i64 (-9)))]) (kq)) (ab (bN eT rfl rfl (by omega)) ?_));have hM10:ai _ w9:=ai.rfl_;have hoQ8:=hoQ9.kept_from hM10;obtain ⟨g',cur,hgA,_,hbk,_⟩:=mh hoQ8 (by omega);cases hgA;refine ly (size:=4) (o:=k*4) (vs:=rdV qZ) eS (by show Value.pointer (some ⟨gq,0+k*4,none⟩)=_;rw [Nat.zero_add]) rfl (by simp [rdV,qZ,Value.oneCell']) hoQ8 (by omega) (by show k*4+4≤a.L.length*4;omega) ?_;intro w10 O10 P10;rw [pY ib _ k (by rw [jZ (by omega)];exact hkL),uR hkL] at P10;have hC10:Chg (UA w.heap.size tag (k+1)) wb w10:=(hC9.next hM10.toChg).next (O10.toChg ⟨hlq gq rfl,.inl (by have:=hcq gq rfl;omega)⟩);rw [←hgq] at P10;refine ak (bq (ag (af (mvi rfl (ab (b0 rfl rfl (by omega)) (asi rfl (ak ?_)))))));refine cG (k+1) ⟨(by first | rfl | (refine bo ?_;omega)),trivial⟩ (by (iterate 40 refine bE rfl ?_);exact bX) ⟨?_,?_⟩
  ·exact ⟨by omega,P10.kept_from ai.rfl_,(hC10.next (ai.rfl_:ai _ w10).toChg)⟩
  ·omega
 refine cz (bk (bk (bW (cB (dN rfl (⟨rfl,(hB1.toChg.next ((hCk.next (ai.rfl_:ai _ w7).toChg).wide fun q e=>.inl ?_))⟩))))));rcases e.2 with e2 | ⟨i,_,e2⟩
 ·exact .inl e2
 ·exact .inr ⟨i,e2⟩
theorem lT (tag:Nat→Nat) (out:List Msg) (A:Option Addr) (c:Nat) (L:List Msg) (w:World) (h:eD w tag out A c L) (hl:L.length≤100000) (hle:∀ x∈L,x.es.length≤1000000) :
 Rt prog 52 [.slice A L.length c] w (fun v w'=>v=.tuple #[]∧Chg (fun q=>tag q=6∨∃ i,tag q=1000+2*i) w w'):=by
 refine enter (n:=23) Tryz.func52 rfl rfl rfl (an (an (af (asi rfl (ak (ag (bf (cS (G:=Nat) [3,4,5,6,7,8,9,10,11,12,13,14,15,16,17,18] (fun k=>[(2,.int .i64 (k:Nat))]) (fun k w'=>k≤L.length∧w'.ownsRow 0 39 13 (.slice A L.length c) L.length ((spX (mZ (-9)) L k).flatMap bC)∧Chg (UM w.heap.size tag k) w w') (fun k=>L.length-k) (0) ⟨rfl,trivial⟩ ?_ ?_))))))))
 ·exact ⟨Nat.zero_le _,h.o.kept_from ai.rfl_,(ai.rfl_:ai _ w).toChg⟩
 rintro k ρ1 w1 ⟨hk,hoQ,hCk⟩;refine an (an (af (mvi rfl (mvs rfl (ab (bL lj rfl) (ab (bZ rfl rfl) (ak (ag (Bu rfl (fun Q2=>?_) (fun Q2=>?_))))))))))
 ·have hkX:k<L.length:=by omega
  obtain ⟨g,hgq⟩:∃ g,A=some ⟨g,0,none⟩:=c8 hoQ (by omega);subst hgq;have hcq:∀ q,(some (⟨g,0,none⟩:Addr)).map (·.block)=some q→tag q=6:=fun q hq=>h.c q hq
  have hlq:=dG h.o;have hEk:=hle _ (List.getElem_mem hkX);obtain ⟨bx,ox,hAx,hcx⟩:=(iv.own nN (by decide) hoQ).2 (by rw [jZ (by omega)];omega);cases hAx;have hvx:=hcx k (by rw [jZ (by omega)];exact hkX);rw [wK hkX] at hvx;refine aN (ag (an (bf (an (af (mvs rfl (mvi rfl (ab (bN lk rfl rfl (by omega)) (ab (aa eN rfl) (ab (au cU rfl (by exact dg ai.rfl_ (hvx 9 _ rfl))) ?_))))))))));have hM14:ai _ w1:=ai.rfl_;have hrk:=ew (h.e k hkX).1 (hCk.next hM14.toChg) (fun q hq e=>by rcases e.2 with e2 | ⟨i,hi,e2⟩ <;> rw [(h.e k hkX).2 q hq] at e2 <;> omega);refine aC nD (pL 0 L[k].E L[k].c L[k].es.length (dR L[k].es) _ hrk (Nat.zero_le _) (by omega)) ?_;rintro v14 w3 ⟨rfl,hg14⟩;have hC9:Chg (UM w.heap.size tag (k+1)) w w3:=(UM.up (hCk.next hM14.toChg)).next (Chg.of_grown hg14 fun q hq=>⟨dG (h.e k hkX).1 q hq,.inr ⟨k,Nat.lt_succ_self _,(h.e k hkX).2 q hq⟩⟩);have hoQ9:=ew (hoQ.kept_from hM14) (Chg.of_grown (U:=fun q=>tag q=1000+2*k) hg14 fun q hq=>(h.e k hkX).2 q hq) (fun q hq e=>by have:=hcq q hq;omega);refine ak (ag (af (mvs rfl (mvi rfl (ab (c6 (l:=[(0,.const (.int .i64 (-9)))]) (kr)) (ab (bN lk rfl rfl (by omega)) ?_))))));have hM10:ai _ w3:=ai.rfl_;have hoQ8:=hoQ9.kept_from hM10;obtain ⟨g',cur,hgA,_,hbk,_⟩:=mh hoQ8 (by omega);cases hgA;refine ly (size:=13) (o:=k*13) (vs:=bC (mZ (-9))) aZ (by show Value.pointer (some ⟨g,0+k*13,none⟩)=_;rw [Nat.zero_add]) rfl (by simp [bC,mZ,zM,Value.oneCell']) hoQ8 (by omega) (by show k*13+13≤L.length*13;omega) ?_;intro w4 O10 P10;rw [pY nN _ k (by rw [jZ (by omega)];exact hkX),uR hkX] at P10;have hC10:Chg (UM w.heap.size tag (k+1)) w w4:=(hC9.next hM10.toChg).next (O10.toChg ⟨hlq g rfl,.inl (by have:=hcq g rfl;omega)⟩);refine ak (bq (ag (af (mvi rfl (ab (b0 rfl rfl (by omega)) (asi rfl (ak ?_)))))));refine cG (k+1) ⟨(by first | rfl | (refine bo ?_;omega)),trivial⟩ (by (iterate 34 refine bE rfl ?_);exact bX) ⟨?_,?_⟩
  ·exact ⟨by omega,P10.kept_from ai.rfl_,hC10.next (ai.rfl_:ai _ w4).toChg⟩
  ·omega
 refine cz (bk (bk (bW (ag (af (mvs rfl (ab (c6 (l:=[]) (rb)) ?_)))))));have hM21:ai _ w1:=ai.rfl_;refine jC (l:=[(0,.tmp 20)]) (cells:=(bC (mZ 0)).toArray) g_ rfl rfl (Bj 0) ?_;intro b21 w5 E21 hb21 hk21;have hM22:ai _ w5:=(hM21.next E21);have ho9:=hoQ.kept_from hM22;refine gT (base:=0) (news:=bC (mZ 0)) g_ rfl (by decide) rfl ho9 (Nat.zero_le _) rfl rfl (fun _=>⟨b21,0,rfl,hk21.whole⟩) (fun h=>by cases h) (by simp [bC,mZ,zM,Value.oneCell']) (by omega) (by omega) ?_;intro A22 c22 w6 ho22 hg22;have hC22:Chg (UM w.heap.size tag L.length) w w6:=((hCk.wide fun q e=>.inl ⟨e.1,e.2.imp id fun ⟨i,a,b⟩=>⟨i,by omega,b⟩⟩).next hM22.toChg).next (Chg.of_grown hg22 fun q hq=>⟨dG h.o q hq,.inl (h.c q hq)⟩);refine ass rfl (ak (cB (dN rfl (⟨rfl,(hC22.next (ai.rfl_:ai _ w6).toChg).wide fun q e=>.inl (e.2.imp id fun ⟨i,_,b⟩=>⟨i,b⟩)⟩))))
end Go.Proofs.YtkpooenofjdpmaaGreat
namespace Go.Proofs.YtkpooenofjdpmaaGreat
open Go.Proofs.Tryz (prog)
open Go.RowKit
abbrev vp:Ty:=.pr (.int .i64) (.pr (.int .i64) (.pr .str .unit))
theorem vd {w:World} {c:Nat→Option Value} {xs:List vp.den} (h:(Ty.sl vp).At w c xs) :
 ∃ (v:Value) (es:List Ent),c 0=some v∧cH w v es∧(∀ e∈es,e.Ok)∧es.length*32≤140737488351232:=by
 obtain ⟨A,cap,h0,h1,h2,h3⟩:=h;refine ⟨_,xs.map fun x=>⟨x.1,x.2.1,x.2.2.1⟩,h0,⟨A,cap,by rw [List.length_map],by rw [List.length_map];exact h2.1,h2.2.1,h2.2.2,fun hp=>?_⟩,?_,by rw [List.length_map];exact h1⟩
 ·rw [List.length_map] at hp;obtain ⟨b,o,hA,hb,hi⟩:=h3 hp;refine ⟨b,o,hA,hb,fun i hil=>?_⟩;rw [List.length_map] at hil;obtain ⟨⟨c1,_⟩,⟨c2,_⟩,⟨c3,_⟩,_⟩:=hi i _ (List.getElem?_eq_getElem hil);rw [List.getElem_map];exact ⟨c1,c2,c3⟩
 ·intro e he;simp only [List.mem_map] at he;obtain ⟨x,hx,rfl⟩:=he;obtain ⟨i,hil,rfl⟩:=List.mem_iff_getElem.1 hx;obtain ⟨b,o,hA,hb,hi⟩:=h3 (Nat.lt_of_le_of_lt (Nat.zero_le _) hil);obtain ⟨⟨_,c1⟩,⟨_,c2⟩,⟨_,c3⟩,_⟩:=hi i _ (List.getElem?_eq_getElem hil);have b1:=bounds_i64 c1;have b2:=bounds_i64 c2;exact ⟨b1.1,b1.2,b2.1,b2.2,c3⟩
end Go.Proofs.YtkpooenofjdpmaaGreat
namespace Go.Proofs.YtkpooenofjdpmaaGreat
open Go.Proofs.Tryz (prog)
open Go.RowKit
open Go.ChangeShapes Go.WideShapes Go.ChangeAt
theorem tc:cL prog 99 2=some 2:=by kernel_rfl
theorem pk:(prog.underlying 3).isSome=true:=by kernel_rfl
theorem lI:prog.underlying 108=some (.int .u64):=by kernel_rfl
theorem pn:(prog.underlying 108).isSome=true:=by kernel_rfl
theorem tb:prog.underlying 3=some (.int .i64):=by kernel_rfl
theorem qq:aP prog 25=true:=by kernel_rfl
abbrev BB:Ty:=.pr (.int .i64) (.pr (.int .i64) (.pr (.int .i64) (.pr (.int .i64) (.pr (.int .i64) (.pr (.int .i64) (.pr (.int .i64) (.pr (.int .i64) (.pr .bool (.pr (.sl vp) (.pr (.int .i64) (.pr .str (.pr .bool .unit))))))))))))
abbrev uu:Ty:=.pr (.int .i64) (.pr BB (.pr .bool (.pr .str (.pr (.int .i64) .unit))))
abbrev xu:Ty:=.pr (.int .i64) (.pr (.int .i64) (.pr (.int .i64) (.pr (.sl (.int .i64)) .unit)))
abbrev BG:Ty:=.pr (.int .i64) (.pr (.int .i64) (.pr (.sl vp) .unit))
abbrev oy:Ty:=.pr (.int .i64) (.pr (.int .i64) (.pr (.int .i64) (.pr (.int .i64) (.pr (.int .i64) (.pr (.int .i64) (.pr BG (.pr .str (.pr (.int .i64) (.pr (.int .i64) (.pr (.int .i64) (.pr (.int .u64) (.pr (.sl (.int .i64)) (.pr (.sl (.int .i64)) (.pr (.sl (.int .i64)) (.pr (.sl (.int .i64)) (.pr (.int .i64) (.pr (.sl xu) (.pr .str (.pr (.int .i64) .unit)))))))))))))))))))
structure Ac where
 dx:Int
 m:Msg
 fit:Bool
 d:ByteArray
 i:Int
def acV (x:Ac):List Value:=.int .i64 x.dx::(bC x.m++[.bool x.fit,.string x.d,.int .i64 x.i])
theorem vh {α:Type} {f:α→List Value} {t:Ty} {w:World} {P:α→Prop} (hg:∀ (c:Nat→Option Value) (x:t.den),t.At w c x→∃ y:α,(∀ j v,(f y)[j]? =some v→c j=some v)∧P y) {c:Nat→Option Value} {xs:List t.den} (h:(Ty.sl t).At w c xs) :
 ∃ (A:Option Addr) (cap:Nat) (L:List α),c 0=some (.slice A L.length cap)∧iv t.size f w A L∧(∀ y∈L,P y)∧L.length*t.bytes≤140737488351232∧L.length≤cap∧cap≤9223372036854775807∧(A=none→L.length=0∧cap=0):=by
 obtain ⟨A,cap,h0,h1,h2,h3⟩:=h
 have hno:A=none→xs.length=0:=fun e=>by
  rcases Nat.eq_zero_or_pos xs.length with hz | hz
  ·exact hz
  ·obtain ⟨b,o,hA,_⟩:=h3 hz;rw [e] at hA;cases hA
 rcases Nat.eq_zero_or_pos xs.length with hz | hz
 ·refine ⟨A,cap,[],by rw [h0];rw [hz];rfl,fun h=>absurd h (Nat.lt_irrefl _),fun y hy=>(by cases hy),(by rw [List.length_nil,Nat.zero_mul];exact Nat.zero_le _),Nat.zero_le _,h2.2.1,fun e=>⟨rfl,h2.2.2 e⟩⟩
 ·obtain ⟨b,o,hA,hb,hi⟩:=h3 hz;have g:∀ i:Fin xs.length,∃ y:α,(∀ j v,(f y)[j]? =some v→w.cell? ⟨b,o+i*t.size+j,none⟩=some v)∧P y:=fun i=>hg _ _ (hi i.1 xs[i.1] (List.getElem?_eq_getElem i.2))
  refine ⟨A,cap,List.ofFn fun i=>Classical.choose (g i),by rw [List.length_ofFn];exact h0,fun _=>⟨b,o,hA,fun i hil=>?_⟩,fun y hy=>?_,by rw [List.length_ofFn];exact h1,by rw [List.length_ofFn];exact h2.1,h2.2.1,fun e=>⟨by rw [List.length_ofFn];exact hno e,h2.2.2 e⟩⟩
  ·rw [List.length_ofFn] at hil;intro j v hv;rw [List.getElem_ofFn] at hv;exact (Classical.choose_spec (g ⟨i,hil⟩)).1 j v hv
  ·obtain ⟨i,hil,rfl⟩:=List.getElem_of_mem hy;rw [List.length_ofFn] at hil;rw [List.getElem_ofFn];exact (Classical.choose_spec (g ⟨i,hil⟩)).2
theorem sy {w:World} {c:Nat→Option Value} {xs:List Int} (h:(Ty.sl (.int .i64)).At w c xs):∃ (A:Option Addr) (cap:Nat),c 0=some (.slice A xs.length cap)∧IR w A cap xs∧xs.length*8≤140737488351232:=by
 have h':=h;obtain ⟨A0,c0,g0,g1,g2,g3⟩:=h';obtain ⟨A,cap,h0,hr,_,hb,hc⟩:=zF h;rw [g0] at h0;cases h0;refine ⟨A0,c0,g0,⟨(dW.of_row hr).2,hc.1,hc.2,fun e=>⟨?_,g2.2.2 e⟩⟩,hb⟩;rcases Nat.eq_zero_or_pos xs.length with hz | hz
 ·exact hz
 ·obtain ⟨b,o,hA,_⟩:=g3 hz;rw [e] at hA;cases hA
def BM (w:World) (q:Rd×Option Addr×Nat):Prop:=IR w q.2.1 q.2.2 q.1.acks∧q.1.acks.length*8≤140737488351232
theorem zD {w:World} (c:Nat→Option Value) (x:xu.den) (h:xu.At w c x):∃ q:Rd×Option Addr×Nat,(∀ j v,(rdV q)[j]? =some v→c j=some v)∧BM w q:=by
 obtain ⟨x0,x1,x2,xl,_⟩:=x;obtain ⟨g0,g1,g2,gl,_⟩:=h;obtain ⟨A,cap,e0,e1,e2⟩:=sy gl;refine ⟨(⟨x0,x1,x2,xl⟩,A,cap),fun j v hv=>?_,e1,e2⟩
 match j,hv with
 |0,hv=>cases hv;exact g0.1
 |1,hv=>cases hv;exact g1.1
 |2,hv=>cases hv;exact g2.1
 |3,hv=>cases hv;exact e0
 |j+4,hv=>simp [rdV] at hv
def wo (w:World) (x:Ac):Prop:=cH w (.slice x.m.E x.m.es.length x.m.c) x.m.es∧(∀ e∈x.m.es,e.Ok)∧x.m.es.length*32≤140737488351232∧x.m.d.size≤140737488351232∧x.d.size≤140737488351232
theorem wo.from_ {w w':World} {x:Ac} (h:wo w x) (hF:ai w w'):wo w' x:=⟨h.1.from_ hF,h.2⟩
theorem AK {w:World} (c:Nat→Option Value) (x:uu.den) (h:uu.At w c x):∃ X:Ac,(∀ j v,(acV X)[j]? =some v→c j=some v)∧wo w X:=by
 obtain ⟨x0,⟨xk,xf,xt,xtm,xix,xlt,xcm,xrd,xok,xE,xa,xd,xdn,_⟩,xb,xs,xi,_⟩:=x;obtain ⟨g0,⟨g1,g2,g3,g4,g5,g6,g7,g8,g9,gE,g11,g12,g13,_⟩,g14,g15,g16,_⟩:=h;obtain ⟨v,es,e0,e1,e2,e3⟩:=vd gE;have e1':=e1;obtain ⟨E,c9,rfl,_⟩:=e1';refine ⟨⟨x0,{ zM with k:=xk,f:=xf,t:=xt,tm:=xtm,ix:=xix,lt:=xlt,cm:=xcm,rd:=xrd,ok:=xok,a:=xa,d:=xd,dn:=xdn,E:=E,c:=c9,es:=es },xb,xs,xi⟩,fun j v hv=>?_,e1,e2,e3,g12.2,g15.2⟩
 match j,hv with
 |0,hv=>cases hv;exact g0.1
 |1,hv=>cases hv;exact g1.1
 |2,hv=>cases hv;exact g2.1
 |3,hv=>cases hv;exact g3.1
 |4,hv=>cases hv;exact g4.1
 |5,hv=>cases hv;exact g5.1
 |6,hv=>cases hv;exact g6.1
 |7,hv=>cases hv;exact g7.1
 |8,hv=>cases hv;exact g8.1
 |9,hv=>cases hv;exact g9
 |10,hv=>cases hv;exact e0
 |11,hv=>cases hv;exact g11.1
 |12,hv=>cases hv;exact g12.1
 |13,hv=>cases hv;exact g13
 |14,hv=>cases hv;exact g14
 |15,hv=>cases hv;exact g15.1
 |16,hv=>cases hv;exact g16.1
 |j+17,hv=>simp [acV,bC] at hv
structure Bz (s:Rf) (a:Ra):Prop where
 sn:s.snap.size≤140737488351232
 pa:s.part.size≤140737488351232
 es:s.es.length*32≤140737488351232
 eo:∀ e∈s.es,e.Ok
 v:s.votes.length*8≤140737488351232
 x:s.next.length*8≤140737488351232
 m:s.mtch.length*8≤140737488351232
 n:s.sent.length*8≤140737488351232
 q:a.L.length*48≤140737488351232
 k:∀ q∈a.L,q.1.acks.length*8≤140737488351232
theorem zE {w:World} {c:Nat→Option Value} {x:oy.den} (h:oy.At w c x):∃ (s:Rf) (a:Ra),(∀ j v,(rfV s a)[j]? =some v→c j=some v)∧eQ w s a∧Bz s a:=by
 obtain ⟨x0,x1,x2,x3,x4,x5,⟨xb,xt,xe,_⟩,xsn,xco,xel,xti,xse,xv,xx,xm,xn,xro,xq,xpa,xpo,_⟩:=x;obtain ⟨g0,g1,g2,g3,g4,g5,⟨g6,g7,g8,_⟩,g9,g10,g11,g12,g13,g14,g15,g16,g17,g18,g19,g20,g21,_⟩:=h;obtain ⟨v,es,e0,e1,e2,e3⟩:=vd g8;have e1':=e1;obtain ⟨E,Ec,rfl,_⟩:=e1';obtain ⟨V,Vc,v0,v1,v2⟩:=sy g14;obtain ⟨X,Xc,y0,y1,y2⟩:=sy g15;obtain ⟨M,Mc,m0,m1,m2⟩:=sy g16;obtain ⟨N,Nc,n0,n1,n2⟩:=sy g17;obtain ⟨Q,Qc,L,q0,q1,q2,q3,q4,q5,q6⟩:=vh (f:=rdV) zD g19;refine ⟨{ id:=x0,nodes:=x1,role:=x2,term:=x3,vote:=x4,leader:=x5,b:=xb,t:=xt,es:=es,snap:=xsn,commit:=xco,elapsed:=xel,timeout:=xti,seed:=xse,votes:=xv,next:=xx,mtch:=xm,sent:=xn,round:=xro,reads:=L.map (fun q=>q.1),part:=xpa,partOf:=xpo },⟨E,Ec,V,Vc,X,Xc,M,Mc,N,Nc,Q,Qc,L⟩,fun j v hv=>?_,⟨e1,v1,y1,m1,n1,rfl,q1,⟨q4,q5,q6⟩,fun q hq=>(q2 q hq).1⟩,⟨g9.2,g20.2,e3,e2,v2,y2,m2,n2,q3,fun q hq=>(q2 q hq).2⟩⟩
 match j,hv with
 |0,hv=>cases hv;exact g0.1
 |1,hv=>cases hv;exact g1.1
 |2,hv=>cases hv;exact g2.1
 |3,hv=>cases hv;exact g3.1
 |4,hv=>cases hv;exact g4.1
 |5,hv=>cases hv;exact g5.1
 |6,hv=>cases hv;exact g6.1
 |7,hv=>cases hv;exact g7.1
 |8,hv=>cases hv;exact e0
 |9,hv=>cases hv;exact g9.1
 |10,hv=>cases hv;exact g10.1
 |11,hv=>cases hv;exact g11.1
 |12,hv=>cases hv;exact g12.1
 |13,hv=>cases hv;exact g13.1
 |14,hv=>cases hv;exact v0
 |15,hv=>cases hv;exact y0
 |16,hv=>cases hv;exact m0
 |17,hv=>cases hv;exact n0
 |18,hv=>cases hv;exact g18.1
 |19,hv=>cases hv;exact q0
 |20,hv=>cases hv;exact g20.1
 |21,hv=>cases hv;exact g21.1
 |j+22,hv=>simp [rfV] at hv
structure uz (w:World) (s:Rf) (a:Ra) (LA:Option Addr) (X:List Ac):Prop where
 r:eQ w s a
 z:Bz s a
 x:iv 17 acV w LA X
 o:∀ y∈X,wo w y
 n:X.length*147≤140737488351232
theorem uz.from_ {w w':World} {s:Rf} {a:Ra} {LA:Option Addr} {X:List Ac} (h:uz w s a LA X) (hF:ai w w'):uz w' s a LA X:=⟨h.r.from_ hF,h.z,h.x.from_ hF,fun y hy=>(h.o y hy).from_ hF,h.n⟩
def scV (s:Rf) (a:Ra) (LA:Option Addr) (n lc:Nat):List Value:=rfV s a++[.slice LA n lc]
theorem BL {cs:Array Value} {l:List Value} (hs:cs.size=l.length) (h:∀ (j:Nat) (v:Value),l[j]? =some v→cs[j]? =some v):cs=l.toArray:=by
 apply Array.ext_getElem?;intro i;rcases Nat.lt_or_ge i l.length with hi | hi
 ·rw [h i _ (List.getElem?_eq_getElem hi)];simp [hi]
 ·rw [Array.getElem?_eq_none (by omega)];simp [hi]
theorem vZ {w:World} {cs:Array Value} {x:(Ty.pr oy (.pr (.sl uu) .unit)).den} (hs:cs.size=23) (h:(Ty.pr oy (.pr (.sl uu) .unit)).At w (fun j=>cs[j]?) x):∃ s a LA lc X,cs=(scV s a LA (List.length X) lc).toArray∧uz w s a LA X:=by
 obtain ⟨h1,h2,_⟩:=h;obtain ⟨s,a,hc,hr,hz⟩:=zE h1;obtain ⟨LA,lc,X,q0,q1,q2,q3,q4,q5,q6⟩:=vh (f:=acV) AK h2;refine ⟨s,a,LA,lc,X,BL hs fun j v hv=>?_,⟨hr,hz,q1,q2,q3⟩⟩;unfold scV at hv;rcases Nat.lt_or_ge j 22 with hj | hj
 ·rw [List.getElem?_append_left (show j<(rfV s a).length from hj)] at hv;exact hc j v hv
 ·rw [List.getElem?_append_right (show (rfV s a).length≤j from hj)] at hv
  obtain rfl:j=22:=by
   have:=(List.getElem?_eq_some_iff.1 hv).1;rw [lV] at this;simp at this;omega
  simp [lV] at hv;subst hv;exact q0
def Small (s:Rf) (X:List Ac):Prop:=(s.votes.length≤20000∧s.next.length≤20000∧s.mtch.length≤20000∧s.sent.length≤20000∧s.reads.length≤20000∧∀ q∈s.reads,q.acks.length≤20000)∧s.es.length≤600∧X.length≤100∧(s.snap.size≤20000∧s.part.size≤20000)∧∀ y∈X,y.m.es.length≤200∧y.m.d.size≤20000∧y.d.size≤20000
theorem ye {w:World} {A:Option Addr} {n c:Nat} {es:List Ent} (h:cH w (.slice A n c) es) (hs:∀ e∈es,e.Ok) (h0:0<n):∃ b o,A=some ⟨b,o,none⟩∧∀ j,j<n→∃ s:ByteArray,w.cell? ⟨b,o+j*3+2,none⟩=some (.string s)∧s.size≤140737488351232:=by
 obtain ⟨A',c',hv,_,_,_,hp⟩:=h;simp only [Value.slice.injEq] at hv;obtain ⟨rfl,rfl,rfl⟩:=hv;obtain ⟨b,o,hA,_,hc⟩:=hp h0;exact ⟨b,o,hA,fun j hj=>⟨es[j].d,(hc j hj).2.2,(hs _ (List.getElem_mem hj)).2.2.2.2⟩⟩
theorem ml (A:Option Addr) (c n:Nat) (es:List Ent) (w:World) (he:cH w (.slice A n c) es) (ho:∀ e∈es,e.Ok) (hl:n≤140737488351232) :
 Rt prog 25 [.slice A n c] w (fun v w'=>(∃ m:Nat,v=.int .i64 (m:Nat)∧n≤m∧m≤562949953421312)∧w=w'):=by
 refine enter (n:=26) Tryz.func25 rfl rfl rfl (an (af (asi rfl (ak (ag (an (af (mvs rfl (ab (bL db rfl) (asi rfl (ak (ag (an (an (af (asi rfl ?_))))))))))))))));refine ak (ag (bf (cS (G:=Nat×Nat) [7,8,9,10,11,12,13,14,15,16,17,18,19,20,21,22,23,24] (fun (m,k)=>[(3,.int .i64 (m:Nat)),(4,.int .i64 (k:Nat))]) (fun (m,k) w'=>k≤n∧n≤m∧m≤562949953421312∧w=w') (fun (_,k)=>n-k) ((n,0)) ⟨rfl,rfl,trivial⟩ ?_ ?_)))
 ·exact ⟨Nat.zero_le _,Nat.le_refl _,by omega,rfl⟩
 rintro ⟨m,k⟩ ρ1 w1 ⟨hk,hnm,hm,rfl⟩;refine an (an (af (mvi rfl (mvs rfl (ab (bL db rfl) (ab (bZ rfl rfl) (mvb rfl (AU (t:=11) rfl (fun Q2=>?_) (fun Q2=>?_)))))))))
 ·refine ae rfl (mvi rfl (ae rfl (ab (bZ rfl rfl) (ab (aL (v:=.bool _) rfl rfl) (ak (ag (Bu rfl (fun Q3=>?_) (fun Q3=>?_))))))))
  ·obtain ⟨ba,oa,hA,hcs⟩:=ye he ho (by omega);subst hA;obtain ⟨s,hs1,hs2⟩:=hcs k (by omega);refine aN (ag (an (bf (af (mvi rfl (mvs rfl (mvi rfl (ab (bN fk rfl rfl (by omega)) (ab (aa tc rfl) (ab (au cD rfl (by exact hs1)) ?_))))))))));refine ab (en (by kernel_rfl) rfl) (ab (cF rfl rfl (by omega)) (asi rfl (ak (bq (ag (af (mvi rfl (ab (cF (b:=1) rfl rfl (by omega)) (asi rfl (ak ?_))))))))));refine cG ((m+s.size,k+1)) ⟨(by first | rfl | (refine bo ?_;omega)),(by first | rfl | (refine bo ?_;omega)),trivial⟩ (by (iterate 41 refine bE rfl ?_);exact bX) ⟨?_,?_⟩
   ·exact ⟨by omega,by omega,by omega,rfl⟩
   ·show n-(k+1)<n-k;omega
  refine cz (bk (bk (bW (ag (an (af (mvi rfl (asi rfl (ak (ag (aE (bt (v:=.int _ _) rfl rfl (⟨⟨_,rfl,hnm,hm⟩,rfl⟩)))))))))))))
 refine ar rfl rfl (ar rfl rfl (ab (ay (v:=.bool _) rfl rfl) (ak (ag (bc rfl (cz (bk (bk (bW (ag (an (af (mvi rfl (asi rfl ?_))))))))))))));refine ak (ag (aE (bt (v:=.int _ _) rfl rfl (⟨⟨_,rfl,hnm,hm⟩,rfl⟩))))
def wiN (i:Int) (n:Nat):Nat:=(IntKind.u64.wrap i).toNat%n
theorem nT (i:Int) (n:Nat) (w:World) (hn:0<n∧n≤1000) :
 Rt prog 31 [.int .i64 i,.int .i64 (n:Nat)] w (fun v w'=>v=.int .i64 (wiN i n:Nat)∧w=w'):=by
 obtain ⟨a,ha,ha2⟩:∃ a:Nat,IntKind.u64.wrap i=(a:Int)∧a<18446744073709551616:=⟨(IntKind.u64.wrap i).toNat,by rw [IntKind.wrap_u64];omega,by rw [IntKind.wrap_u64];omega⟩;have hm:a%n<n:=Nat.mod_lt _ hn.1;have hwi:wiN i n=a%n:=by unfold wiN;rw [ha];rfl
 refine enter (n:=11) Tryz.func31 rfl rfl rfl (an (af (asi rfl (ak (ag (an (af (mvi rfl (ab (uX pk lI rfl) (dX (t:=6) (v:=.int _ _) (v':=.int .u64 (a:Nat)) rfl (by rw [ha]) ?_))))))))));refine mvi rfl (ab (pU pk lI rfl (by omega)) (ab (xc rfl rfl (by omega)) ?_));refine dX (t:=9) (v:=.int _ _) (v':=.int .u64 ((a%n:Nat):Int)) rfl (by rw [Int.tmod_eq_emod_of_nonneg (by omega)];rfl) ?_;refine ab (rS pn tb rfl (by omega)) (asi rfl (ak (ag (aE (bt (v:=.int _ _) rfl rfl ?_)))));rw [hwi];exact ⟨rfl,rfl⟩
theorem p_ (m:Msg) (w:World) (he:cH w (.slice m.E m.es.length m.c) m.es) (ho:∀ e∈m.es,e.Ok) (hl:m.es.length≤140737488351232) (hd:m.d.size≤140737488351232) :
 Rt prog 26 [.agg (bC m).toArray] w (fun v w'=>(∃ b,v=.bool b∧(b=false→m.es.length≤200∧m.d.size≤20000))∧ai w w'):=by
 refine enter (n:=19) Tryz.func26 rfl rfl rfl (an (af (bQ (v:=.agg _) rfl ?_)));intro b1 w1 E1 hb1 hk1;refine asb rfl (ak (ag (an (af (ab (aa iQ rfl) (ab (au cD rfl (by exact (show _=some (Value.string m.d) from (hk1.from_ ai.rfl_).rd 11 rfl))) ?_))))));refine ab (en (by kernel_rfl) rfl) (ab (cy rfl rfl) (mvb rfl (AU (t:=7) rfl (fun Q2=>?_) (fun Q2=>?_))))
 ·refine ar rfl rfl (ar rfl rfl (ar rfl rfl (ar rfl rfl (ab (aL (v:=.bool _) rfl rfl) (mvb rfl (ar rfl rfl (ar rfl rfl (ar rfl rfl ?_))))))));refine ar rfl rfl (ab (aL (v:=.bool _) rfl rfl) (asb rfl (ak (ag (aE (bt (v:=.bool _) rfl rfl (⟨⟨_,rfl,fun h=>?_⟩,(ai.rfl_.next E1)⟩)))))))
  first
   |(exfalso;simp at h;done)
   |(have h9:=dF_ h;omega)
   |(simp only [decide_eq_false_iff_not] at h;omega)
   |(simp at h;omega)
 refine ae rfl (ab (aa eN rfl) (ae rfl (ab (au cU rfl (by exact (show _=some (Value.slice m.E m.es.length m.c) from (hk1.from_ ai.rfl_).rd 9 rfl))) ?_)));refine ae rfl (aC qq (ml m.E m.c m.es.length m.es _ (he.from_ (ai.rfl_.next E1)) ho hl) ?_);rintro v10 w3 ⟨⟨m10,rfl,hm1,hm2⟩,rfl⟩;refine ae rfl (ab (cy rfl rfl) (ab (ay (v:=.bool _) rfl rfl) (mvb rfl (AU (t:=13) rfl (fun Q4=>?_) (fun Q4=>?_)))))
 ·refine ar rfl rfl (ar rfl rfl (ar rfl rfl (ar rfl rfl (ab (aL (v:=.bool _) rfl rfl) (asb rfl (ak (ag (aE (bt (v:=.bool _) rfl rfl (⟨⟨_,rfl,fun h=>?_⟩,(ai.rfl_.next E1)⟩))))))))))
  first
   |(exfalso;simp at h;done)
   |(have h9:=dF_ h;omega)
   |(simp only [decide_eq_false_iff_not] at h;omega)
   |(simp at h;omega)
 refine ae rfl (ab (aa eN rfl) (ae rfl (ab (au cU rfl (by exact (show _=some (Value.slice m.E m.es.length m.c) from (hk1.from_ ai.rfl_).rd 9 rfl))) ?_)));refine ae rfl (ab (bL db rfl) (ae rfl (ab (cy rfl rfl) (ab (ay (v:=.bool _) rfl rfl) (asb rfl (ak (ag (aE (bt (v:=.bool _) rfl rfl (⟨⟨_,rfl,fun h=>?_⟩,(ai.rfl_.next E1)⟩))))))))))
 first
  |(exfalso;simp at h;done)
  |(have h9:=dF_ h;omega)
  |(simp only [decide_eq_false_iff_not] at h;omega)
  |(simp at h;omega)
theorem di:cL prog 32 0=some 0:=by kernel_rfl
theorem dL:cL prog 32 1=some 22:=by kernel_rfl
theorem ek:jr prog 30=some false:=by kernel_rfl
theorem fS:(gd prog 30).isSome=true:=by kernel_rfl
theorem iC:gd prog 30=some (41,17):=by kernel_rfl
theorem lu:cL prog 41 3=some 15:=by kernel_rfl
theorem fv:cL prog 41 1=some 1:=by kernel_rfl
theorem nF:aP prog 26=true:=by kernel_rfl
theorem lf {w:World} {b a:Nat} {x:Ac} (h:w.rangeAt b a (acV x)):w.rangeAt b (a+1) (bC x.m):=fun j v hv=>by
 have hj:j<13:=(List.getElem?_eq_some_iff.1 hv).1
 have h1:(acV x)[j+1]? =some v:=by
  show (bC x.m++[Value.bool x.fit,.string x.d,.int .i64 x.i])[j]? =some v;rw [List.getElem?_append_left (show j<(bC x.m).length from hj)];exact hv
 have:=h (j+1) v h1
 rwa [show a+(j+1)=a+1+j by omega] at this
theorem cC (s:Rf) (a:Ra) (LA:Option Addr) (lc:Nat) (X:List Ac) (w:World) (h:uz w s a LA X) :
 Rt prog 15 [.agg (scV s a LA X.length lc).toArray] w (fun v w'=>(∃ b,v=.bool b∧(b=false→Small s X))∧ai w w'):=by
 have z1:=h.z.sn;have z2:=h.z.pa;have z3:=h.z.es;have z4:=h.z.v;have z5:=h.z.x;have z6:=h.z.m;have z7:=h.z.n;have z8:=h.z.q;have z9:=h.z.k;have z10:=h.n;have hLl:a.L.length=s.reads.length:=by rw [←h.r.r,List.length_map]
 refine enter (n:=111) Tryz.func15 rfl rfl rfl (an (af (bQ (v:=.agg _) rfl ?_)));intro b1 w1 E1 hb1 hk1;refine asb rfl (ak (ag (an ?_)));apply bD 41 [(6,eqp _),(7,eqp _),(8,eqp (.string s.snap)),(9,eqp _),(10,eqp _),(11,eqp _),(12,eqp (.string s.part)),(13,eqp _),(14,eqp (.int .i64 ((s.snap.size+s.part.size:Nat):Int))),(15,eqp _),(16,eqp _),(17,eqp _),(18,eqp (.slice a.E s.es.length a.Ec)),(19,fun v _=>∃ q:Nat,v=.int .i64 (q:Nat)∧s.es.length≤q∧q≤562949953421312),(20,fun v _=>∃ q:Nat,v=.int .i64 (q:Nat)∧s.snap.size+s.part.size+s.es.length≤q∧q≤844424930123776),(21,eqp _),(22,eqp _),(23,eqp (.slice a.V s.votes.length a.Vc)),(24,eqp _),(25,fun v _=>∃ q:Nat,v=.int .i64 (q:Nat)∧s.snap.size+s.part.size+s.es.length+s.votes.length≤q∧q≤985162418475008),(26,eqp _),(27,eqp _),(28,eqp (.slice a.X s.next.length a.Xc)),(29,eqp _),(30,fun v _=>∃ q:Nat,v=.int .i64 (q:Nat)∧s.snap.size+s.part.size+s.es.length+s.votes.length+s.next.length≤q∧q≤1125899906826240),(31,eqp _),(32,eqp _),(33,eqp (.slice a.M s.mtch.length a.Mc)),(34,eqp _),(35,fun v _=>∃ q:Nat,v=.int .i64 (q:Nat)∧s.snap.size+s.part.size+s.es.length+s.votes.length+s.next.length+s.mtch.length≤q∧q≤1266637395177472),(36,eqp _),(37,eqp _),(38,eqp (.slice a.S s.sent.length a.Sc)),(39,eqp _),(40,fun v _=>∃ q:Nat,v=.int .i64 (q:Nat)∧s.snap.size+s.part.size+s.es.length+s.votes.length+s.next.length+s.mtch.length+s.sent.length≤q∧q≤1407374883528704),(41,eqp _),(42,eqp _),(43,eqp (.slice a.Q a.L.length a.Qc)),(44,eqp _),(45,fun v _=>∃ q:Nat,v=.int .i64 (q:Nat)∧s.snap.size+s.part.size+s.es.length+s.votes.length+s.next.length+s.mtch.length+s.sent.length+a.L.length≤q∧q≤1548112371879936),(3,fun v _=>∃ q:Nat,v=.int .i64 (q:Nat)∧s.snap.size+s.part.size+s.es.length+s.votes.length+s.next.length+s.mtch.length+s.sent.length+a.L.length≤q∧q≤1548112371879936)] (by repeat first | exact cl | refine ck ?_ | refine bM ?_) (by kernel_rfl) (by kernel_rfl) ⟨ah _,ah _,ah _,ah _,ah _,ah _,ah _,ah _,ah _,ah _,ah _,ah _,ah _,(fun _ _ _ _ h=>h),(fun _ _ _ _ h=>h),ah _,ah _,ah _,ah _,(fun _ _ _ _ h=>h),ah _,ah _,ah _,ah _,(fun _ _ _ _ h=>h),ah _,ah _,ah _,ah _,(fun _ _ _ _ h=>h),ah _,ah _,ah _,ah _,(fun _ _ _ _ h=>h),ah _,ah _,ah _,ah _,(fun _ _ _ _ h=>h),(fun _ _ _ _ h=>h),trivial⟩
 case hop=>
  constructor
  ·rintro-w3 D3;exact aq (aa di rfl) rfl
  constructor
  ·rintro-w4 D4;rintro _ rfl;exact aq (aa cO rfl) rfl
  constructor
  ·rintro-w5 D5;rintro _ rfl;exact aq (au cD rfl (by exact (show _=some (Value.string s.snap) from (hk1.from_ (ai.rfl_.next D5)).rd 9 rfl))) rfl
  constructor
  ·rintro-w6 D6;rintro v6_8 rfl;exact aq (en (by kernel_rfl) rfl) rfl
  constructor
  ·rintro-w7 D7;exact aq (aa di rfl) rfl
  constructor
  ·rintro-w8 D8;rintro _ rfl;exact aq (aa eb rfl) rfl
  constructor
  ·rintro-w9 D9;rintro _ rfl;exact aq (au cD rfl (by exact (show _=some (Value.string s.part) from (hk1.from_ (ai.rfl_.next D9)).rd 20 rfl))) rfl
  constructor
  ·rintro-w10 D10;rintro v10_12 rfl;exact aq (en (by kernel_rfl) rfl) rfl
  constructor
  ·rintro-w11 D11;rintro _ rfl _ rfl;exact aq (cF rfl rfl (by omega)) rfl
  constructor
  ·rintro-w12 D12;exact aq (aa di rfl) rfl
  constructor
  ·rintro-w13 D13;rintro _ rfl;exact aq (aa bg rfl) rfl
  constructor
  ·rintro-w14 D14;rintro _ rfl;exact aq (aa dy rfl) rfl
  constructor
  ·rintro-w15 D15;rintro _ rfl;exact aq (au cU rfl (by exact (show _=some (Value.slice a.E s.es.length a.Ec) from (hk1.from_ (ai.rfl_.next D15)).rd 8 rfl))) rfl
  constructor
  ·rintro-w16 D16;rintro v16_18 rfl;refine gD qq ((ml a.E a.Ec s.es.length s.es _ (h.r.e.from_ ((ai.rfl_.next E1).next D16)) h.z.eo (by omega)).mono ?_);rintro v w2 ⟨⟨q,rfl,hp,hq⟩,rfl⟩;exact ⟨ai.rfl_,q,rfl,hp,hq⟩
  constructor
  ·rintro-w17 D17;rintro v17_14 rfl v17_19 ⟨q17,rfl,hl17,hu17⟩;exact aq (cF rfl rfl (by omega)) ⟨_,rfl,by omega,by omega⟩
  constructor
  ·rintro-w18 D18;exact aq (aa di rfl) rfl
  constructor
  ·rintro-w19 D19;rintro _ rfl;exact aq (aa dc rfl) rfl
  constructor
  ·rintro-w20 D20;rintro _ rfl;exact aq (au aR rfl (by exact (show _=some (Value.slice a.V s.votes.length a.Vc) from (hk1.from_ (ai.rfl_.next D20)).rd 14 rfl))) rfl
  constructor
  ·rintro-w21 D21;rintro v21_23 rfl;exact aq (bL bP rfl) rfl
  constructor
  ·rintro-w22 D22;rintro v22_20 ⟨q22,rfl,hl22,hu22⟩ _ rfl;exact aq (cF rfl rfl (by omega)) ⟨_,rfl,by omega,by omega⟩
  constructor
  ·rintro-w23 D23;exact aq (aa di rfl) rfl
  constructor
  ·rintro-w24 D24;rintro _ rfl;exact aq (aa bw rfl) rfl
  constructor
  ·rintro-w25 D25;rintro _ rfl;exact aq (au aR rfl (by exact (show _=some (Value.slice a.X s.next.length a.Xc) from (hk1.from_ (ai.rfl_.next D25)).rd 15 rfl))) rfl
  constructor
  ·rintro-w26 D26;rintro v26_28 rfl;exact aq (bL bP rfl) rfl
  constructor
  ·rintro-w27 D27;rintro v27_25 ⟨q27,rfl,hl27,hu27⟩ _ rfl;exact aq (cF rfl rfl (by omega)) ⟨_,rfl,by omega,by omega⟩
  constructor
  ·rintro-w28 D28;exact aq (aa di rfl) rfl
  constructor
  ·rintro-w29 D29;rintro _ rfl;exact aq (aa cf rfl) rfl
  constructor
  ·rintro-w30 D30;rintro _ rfl;exact aq (au aR rfl (by exact (show _=some (Value.slice a.M s.mtch.length a.Mc) from (hk1.from_ (ai.rfl_.next D30)).rd 16 rfl))) rfl
  constructor
  ·rintro-w31 D31;rintro v31_33 rfl;exact aq (bL bP rfl) rfl
  constructor
  ·rintro-w32 D32;rintro v32_30 ⟨q32,rfl,hl32,hu32⟩ _ rfl;exact aq (cF rfl rfl (by omega)) ⟨_,rfl,by omega,by omega⟩
  constructor
  ·rintro-w33 D33;exact aq (aa di rfl) rfl
  constructor
  ·rintro-w34 D34;rintro _ rfl;exact aq (aa ct rfl) rfl
  constructor
  ·rintro-w35 D35;rintro _ rfl;exact aq (au aR rfl (by exact (show _=some (Value.slice a.S s.sent.length a.Sc) from (hk1.from_ (ai.rfl_.next D35)).rd 17 rfl))) rfl
  constructor
  ·rintro-w36 D36;rintro v36_38 rfl;exact aq (bL bP rfl) rfl
  constructor
  ·rintro-w37 D37;rintro v37_35 ⟨q37,rfl,hl37,hu37⟩ _ rfl;exact aq (cF rfl rfl (by omega)) ⟨_,rfl,by omega,by omega⟩
  constructor
  ·rintro-w38 D38;exact aq (aa di rfl) rfl
  constructor
  ·rintro-w39 D39;rintro _ rfl;exact aq (aa bH rfl) rfl
  constructor
  ·rintro-w40 D40;rintro _ rfl;exact aq (au du rfl (by exact (show _=some (Value.slice a.Q a.L.length a.Qc) from (hk1.from_ (ai.rfl_.next D40)).rd 19 rfl))) rfl
  constructor
  ·rintro-w41 D41;rintro v41_43 rfl;exact aq (bL eK rfl) rfl
  constructor
  ·rintro-w42 D42;rintro v42_40 ⟨q42,rfl,hl42,hu42⟩ _ rfl;exact aq (cF rfl rfl (by omega)) ⟨_,rfl,by omega,by omega⟩
  constructor
  ·rintro-w43 D43;rintro v43_45 ⟨q43,rfl,hl43,hu43⟩;exact aq (dp rfl) ⟨_,rfl,by omega,by omega⟩
  exact trivial
 case hend=>
  intro w44 D44;rintro _ rfl _ rfl v8 rfl _ rfl _ rfl _ rfl v12 rfl _ rfl v14 rfl _ rfl _ rfl _ rfl v18 rfl v19 ⟨q44,rfl,hl44,hu44⟩ v20 ⟨q44,rfl,hl44,hu44⟩ _ rfl _ rfl v23 rfl _ rfl v25 ⟨q44,rfl,hl44,hu44⟩ _ rfl _ rfl v28 rfl _ rfl v30 ⟨q44,rfl,hl44,hu44⟩ _ rfl _ rfl v33 rfl _ rfl v35 ⟨q44,rfl,hl44,hu44⟩ _ rfl _ rfl v38 rfl _ rfl v40 ⟨q44,rfl,hl44,hu44⟩ _ rfl _ rfl v43 rfl _ rfl v45 ⟨q44,rfl,hl44,hu44⟩ v3 ⟨q3,rfl,hl3,hu3⟩;show St ..;refine ak (ag (an (an (af (asi rfl (ak (ag (bf (cS (G:=Nat×Nat) [46,47,48,49,50,51,52,53,54,55,56,57,58,59,60,61,62,63,64,65,66,67] (fun (m,k)=>[(3,.int .i64 (m:Nat)),(4,.int .i64 (k:Nat))]) (fun (m,k) w'=>k≤a.L.length∧s.snap.size+s.part.size+s.es.length+s.votes.length+s.next.length+s.mtch.length+s.sent.length+a.L.length≤m∧m≤2000000000000000∧(∀ j (h:j<a.L.length),j<k→a.L[j].1.acks.length≤m)∧Blk w' b1 32 (scV s a LA X.length lc).toArray∧ai w w') (fun (_,k)=>a.L.length-k) ((q3,0)) ⟨rfl,rfl,trivial⟩ ?_ ?_)))))))))
  ·exact ⟨Nat.zero_le _,hl3,by omega,fun j _ h=>absurd h (by omega),hk1.from_ (ai.rfl_.next D44),((ai.rfl_.next E1).next D44)⟩
  rintro ⟨m,k⟩ ρ45 w45 ⟨hk,hm1,hm2,hj1,hk1,hB⟩;refine an (an (af (mvi rfl (ab (aa di rfl) (ab (aa bH rfl) (ab (au du rfl (by exact (show _=some (Value.slice a.Q a.L.length a.Qc) from (hk1.from_ ai.rfl_).rd 19 rfl))) ?_))))));refine ab (bL eK rfl) (ab (bZ rfl rfl) (mvb rfl (AU (t:=52) rfl (fun Q46=>?_) (fun Q46=>?_))))
  ·refine ae rfl (mvi rfl (ae rfl (ab (bZ rfl rfl) (ab (aL (v:=.bool _) rfl rfl) (ak (ag (Bu rfl (fun Q47=>?_) (fun Q47=>?_))))))))
   ·have hkL:k<a.L.length:=by omega
    have zk:=z9 _ (List.getElem_mem hkL);obtain ⟨ba,oa,hQe,hcs⟩:=h.r.q (by omega);have hkq:Blk w45 b1 32 (scV s { a with Q:=some ⟨ba,oa,none⟩ } LA X.length lc).toArray:=by rw [←hQe];exact hk1.from_ ai.rfl_
    refine aN (ag (an (bf (af (mvi rfl (ab (aa di rfl) (ab (aa bH rfl) (ab (au du rfl (by exact (show _=some (Value.slice (some ⟨ba,oa,none⟩) a.L.length a.Qc) from (hkq.from_ ai.rfl_).rd 19 rfl))) ?_))))))));refine mvi rfl (ab (bN eT rfl rfl (by omega)) (ab (aa ef rfl) (ab (au aR rfl (by exact dg hB (hcs k hkL 3 _ rfl))) ?_)));refine ab (bL bP rfl) (ab (cF rfl rfl (by omega)) (asi rfl (ak (bq (ag (af (mvi rfl (ab (b0 rfl rfl (by omega)) (asi rfl (ak ?_))))))))));refine cG ((m+a.L[k].1.acks.length,k+1)) ⟨(by first | rfl | (refine bo ?_;omega)),(by first | rfl | (refine bo ?_;omega)),trivial⟩ (by (iterate 49 refine bE rfl ?_);exact bX) ⟨?_,?_⟩
    ·refine ⟨by omega,by omega,by omega,fun j h hj=>?_,hk1.from_ ai.rfl_,hB⟩;rcases Nat.lt_or_ge j k with e | e
     ·have:=hj1 j h e;omega
     ·obtain rfl:j=k:=by omega
      omega
    ·show a.L.length-(k+1)<a.L.length-k;omega
   refine cz (bk (bk (bW (ag (an (an (af (asi rfl (ak (ag (bf (cS (G:=Nat×Nat) [2,68,69,70,71,72,73,74,75,76,77,78,79,80,81,82,83,84,85,86,87,88,89,90,91,92,93,94] (fun (m2,i)=>[(3,.int .i64 (m2:Nat)),(5,.int .i64 (i:Nat))]) (fun (m2,i) w'=>i≤X.length∧m≤m2∧m2≤2000000000000000∧(∀ j (h:j<X.length),j<i→X[j].m.es.length≤200∧X[j].m.d.size≤20000∧X[j].d.size≤m2)∧Blk w' b1 32 (scV s a LA X.length lc).toArray∧ai w w') (fun (_,i)=>X.length-i) ((m,0)) ⟨rfl,rfl,trivial⟩ ?_ ?_))))))))))))
   ·exact ⟨Nat.zero_le _,Nat.le_refl _,hm2,fun j _ h=>absurd h (by omega),hk1.from_ ai.rfl_,hB⟩
   rintro ⟨m2,i⟩ ρ48 w48 ⟨hk2,hn1,hn2,hj2,hk1,hB⟩;refine an (an (af (mvi rfl (ab (aa dL rfl) (ab (au ek rfl (by exact (show _=some (Value.slice LA X.length lc) from (hk1.from_ ai.rfl_).rd 22 rfl))) ?_)))));refine ab (bL fS rfl) (ab (bZ rfl rfl) (mvb rfl (AU (t:=73) rfl (fun Q49=>?_) (fun Q49=>?_))))
   ·refine ae rfl (mvi rfl (ae rfl (ab (bZ rfl rfl) (ab (aL (v:=.bool _) rfl rfl) (ak (ag (Bu rfl (fun Q50=>?_) (fun Q50=>?_))))))))
    ·have hkX:i<X.length:=by omega
     have hox:=h.o _ (List.getElem_mem hkX);have zk:=hox.2.2.2.2;obtain ⟨ba,oa,hQe,hcs⟩:=h.x (by omega);have hkq:Blk w48 b1 32 (scV s a (some ⟨ba,oa,none⟩) X.length lc).toArray:=by rw [←hQe];exact hk1.from_ ai.rfl_
     refine aN (ag (an (bf (an (af (mvi rfl (ab (aa dL rfl) (ab (au ek rfl (by exact (show _=some (Value.slice (some ⟨ba,oa,none⟩) X.length lc) from (hkq.from_ ai.rfl_).rd 22 rfl))) ?_))))))));refine mvi rfl (ab (bN iC rfl rfl (by omega)) (ab (aa lu rfl) (ab (au cD rfl (by exact dg hB (hcs i hkX 15 _ rfl))) ?_)));refine ab (en (by kernel_rfl) rfl) (ab (cF rfl rfl (by omega)) (asi rfl (ak (ag (an (af (ab (aa dL rfl) (ab (au ek rfl (by exact (show _=some (Value.slice (some ⟨ba,oa,none⟩) X.length lc) from (hkq.from_ ai.rfl_).rd 22 rfl))) ?_))))))));refine mvi rfl (ab (bN iC rfl rfl (by omega)) (ab (aa fv rfl) (ab (aK (cs:=bC X[i].m) bn aZ rfl (lf (ft hB (hcs i hkX)))) (aC nF (p_ X[i].m _ (hox.1.from_ hB) hox.2.1 (by have:=hox.2.2.1;omega) hox.2.2.2.1) ?_))));rintro v94 w51 ⟨⟨b94,rfl,hb94⟩,E94⟩;refine ak (ag (aU rfl (fun Q52=>?_) (fun Q52=>?_)))
     ·(try with_reducible first | (replace Q52 := dT_ Q52; trace "@MK N cC:g52+.c55-.g73+.c76+.c94+ 1.1") | (replace Q52 := dF_ Q52; trace "@MK N cC:g52+.c55-.g73+.c76+.c94+ 1.2") | (replace Q52 := dS Q52; trace "@MK N cC:g52+.c55-.g73+.c76+.c94+ 1.3") | (replace Q52 := dU Q52; trace "@MK N cC:g52+.c55-.g73+.c76+.c94+ 1.4"))
      (try with_reducible first | (replace Q52 := dT_ Q52; trace "@MK N cC:g52+.c55-.g73+.c76+.c94+ 2.1") | (replace Q52 := dF_ Q52; trace "@MK N cC:g52+.c55-.g73+.c76+.c94+ 2.2") | (replace Q52 := jE Q52; trace "@MK N cC:g52+.c55-.g73+.c76+.c94+ 2.3") | (replace Q52 := jF Q52; trace "@MK N cC:g52+.c55-.g73+.c76+.c94+ 2.4") | (replace Q52 := eh Q52; trace "@MK N cC:g52+.c55-.g73+.c76+.c94+ 2.5") | (replace Q52 := ei Q52; trace "@MK N cC:g52+.c55-.g73+.c76+.c94+ 2.6"))
      refine an (af (asb rfl (ak (ag (aE (bG (aG (aG (bG (aG (bt (v:=.bool _) rfl rfl (⟨⟨_,rfl,fun h=>by cases h⟩,(hB.next E94)⟩))))))))))))
     (try with_reducible first | (replace Q52 := dT_ Q52; trace "@MK N cC:g52+.c55-.g73+.c76+.c94- 1.1") | (replace Q52 := dF_ Q52; trace "@MK N cC:g52+.c55-.g73+.c76+.c94- 1.2") | (replace Q52 := dS Q52; trace "@MK N cC:g52+.c55-.g73+.c76+.c94- 1.3") | (replace Q52 := dU Q52; trace "@MK N cC:g52+.c55-.g73+.c76+.c94- 1.4"))
     (try with_reducible first | (replace Q52 := dT_ Q52; trace "@MK N cC:g52+.c55-.g73+.c76+.c94- 2.1") | (replace Q52 := dF_ Q52; trace "@MK N cC:g52+.c55-.g73+.c76+.c94- 2.2") | (replace Q52 := jE Q52; trace "@MK N cC:g52+.c55-.g73+.c76+.c94- 2.3") | (replace Q52 := jF Q52; trace "@MK N cC:g52+.c55-.g73+.c76+.c94- 2.4") | (replace Q52 := eh Q52; trace "@MK N cC:g52+.c55-.g73+.c76+.c94- 2.5") | (replace Q52 := ei Q52; trace "@MK N cC:g52+.c55-.g73+.c76+.c94- 2.6"))
     refine aN (bq (ag (af (mvi rfl (ab (b0 rfl rfl (by omega)) (asi rfl (ak ?_)))))));refine cG ((m2+X[i].d.size,i+1)) ⟨(by first | rfl | (refine bo ?_;omega)),(by first | rfl | (refine bo ?_;omega)),trivial⟩ (by (iterate 60 refine bE rfl ?_);exact bX) ⟨?_,?_⟩
     ·refine ⟨by omega,by omega,by omega,fun j h hj=>?_,hk1.from_ (ai.rfl_.next E94),(hB.next E94)⟩;rcases Nat.lt_or_ge j i with e | e
      ·have:=hj2 j h e;omega
      ·obtain rfl:j=i:=by omega
       have:=hb94 (by first | rfl | assumption | simp_all);omega
     ·show X.length-(i+1)<X.length-i;omega
    refine cz (bk (bk (bW (ag (an (af (mvi rfl (ab (cy rfl rfl) (mvb rfl (AU (t:=97) rfl (fun Q53=>?_) (fun Q53=>?_)))))))))))
    ·refine ar rfl rfl (ar rfl rfl (ar rfl rfl (ar rfl rfl (ar rfl rfl (ar rfl rfl (ab (aL (v:=.bool _) rfl rfl) (mvb rfl (ar rfl rfl ?_))))))));refine ar rfl rfl (ar rfl rfl (ar rfl rfl (ab (aL (v:=.bool _) rfl rfl) (asb rfl (ak (ag (aE (bt (v:=.bool _) rfl rfl (⟨⟨_,rfl,fun h9=>?_⟩,hB⟩)))))))))
     have hh:m2≤20000∧s.es.length≤600∧X.length≤100:=by
      first
       |(exfalso;simp at h9;done)
       |(have h8:=dF_ h9;omega)
       |(simp only [decide_eq_false_iff_not] at h9;omega)
       |(simp at h9;omega)
     have hkl:k=a.L.length:=by omega
     refine ⟨⟨by omega,by omega,by omega,by omega,by omega,fun q hq=>?_⟩,hh.2.1,hh.2.2,⟨by omega,by omega⟩,fun y hy=>?_⟩
     ·rw [←h.r.r] at hq;obtain ⟨y,hy,rfl⟩:=List.mem_map.1 hq;obtain ⟨j,hj,rfl⟩:=List.getElem_of_mem hy;have:=hj1 j hj (by omega);omega
     ·obtain ⟨j,hj,rfl⟩:=List.getElem_of_mem hy;have:=hj2 j hj (by omega);omega
    refine ae rfl (ab (aa di rfl) (ae rfl (ab (aa bg rfl) (ae rfl (ab (aa dy rfl) (ae rfl (ab (au cU rfl (by exact (show _=some (Value.slice a.E s.es.length a.Ec) from (hk1.from_ ai.rfl_).rd 8 rfl))) ?_)))))));refine ae rfl (ab (bL db rfl) (ae rfl (ab (cy rfl rfl) (ab (ay (v:=.bool _) rfl rfl) (mvb rfl (AU (t:=105) rfl (fun Q54=>?_) (fun Q54=>?_)))))))
    ·refine ar rfl rfl (ar rfl rfl (ar rfl rfl (ar rfl rfl (ab (aL (v:=.bool _) rfl rfl) (asb rfl (ak (ag (aE (bt (v:=.bool _) rfl rfl (⟨⟨_,rfl,fun h9=>?_⟩,hB⟩))))))))))
     have hh:m2≤20000∧s.es.length≤600∧X.length≤100:=by
      first
       |(exfalso;simp at h9;done)
       |(have h8:=dF_ h9;omega)
       |(simp only [decide_eq_false_iff_not] at h9;omega)
       |(simp at h9;omega)
     have hkl:k=a.L.length:=by omega
     refine ⟨⟨by omega,by omega,by omega,by omega,by omega,fun q hq=>?_⟩,hh.2.1,hh.2.2,⟨by omega,by omega⟩,fun y hy=>?_⟩
     ·rw [←h.r.r] at hq;obtain ⟨y,hy,rfl⟩:=List.mem_map.1 hq;obtain ⟨j,hj,rfl⟩:=List.getElem_of_mem hy;have:=hj1 j hj (by omega);omega
     ·obtain ⟨j,hj,rfl⟩:=List.getElem_of_mem hy;have:=hj2 j hj (by omega);omega
    refine ae rfl (ab (aa dL rfl) (ae rfl (ab (au ek rfl (by exact (show _=some (Value.slice LA X.length lc) from (hk1.from_ ai.rfl_).rd 22 rfl))) ?_)));refine ae rfl (ab (bL fS rfl) (ae rfl (ab (cy rfl rfl) (ab (ay (v:=.bool _) rfl rfl) (asb rfl (ak (ag (aE (bt (v:=.bool _) rfl rfl (⟨⟨_,rfl,fun h9=>?_⟩,hB⟩))))))))))
    have hh:m2≤20000∧s.es.length≤600∧X.length≤100:=by
     first
      |(exfalso;simp at h9;done)
      |(have h8:=dF_ h9;omega)
      |(simp only [decide_eq_false_iff_not] at h9;omega)
      |(simp at h9;omega)
    have hkl:k=a.L.length:=by omega
    refine ⟨⟨by omega,by omega,by omega,by omega,by omega,fun q hq=>?_⟩,hh.2.1,hh.2.2,⟨by omega,by omega⟩,fun y hy=>?_⟩
    ·rw [←h.r.r] at hq;obtain ⟨y,hy,rfl⟩:=List.mem_map.1 hq;obtain ⟨j,hj,rfl⟩:=List.getElem_of_mem hy;have:=hj1 j hj (by omega);omega
    ·obtain ⟨j,hj,rfl⟩:=List.getElem_of_mem hy;have:=hj2 j hj (by omega);omega
   refine bB rfl (ak (ag (bc rfl (cz (bk (bk (bW (ag (an (af (mvi rfl (ab (cy rfl rfl) (mvb rfl (AU (t:=97) rfl (fun Q55=>?_) (fun Q55=>?_)))))))))))))))
   ·refine ar rfl rfl (ar rfl rfl (ar rfl rfl (ar rfl rfl (ar rfl rfl (ar rfl rfl (ab (aL (v:=.bool _) rfl rfl) (mvb rfl (ar rfl rfl ?_))))))));refine ar rfl rfl (ar rfl rfl (ar rfl rfl (ab (aL (v:=.bool _) rfl rfl) (asb rfl (ak (ag (aE (bt (v:=.bool _) rfl rfl (⟨⟨_,rfl,fun h9=>?_⟩,hB⟩)))))))))
    have hh:m2≤20000∧s.es.length≤600∧X.length≤100:=by
     first
      |(exfalso;simp at h9;done)
      |(have h8:=dF_ h9;omega)
      |(simp only [decide_eq_false_iff_not] at h9;omega)
      |(simp at h9;omega)
    have hkl:k=a.L.length:=by omega
    refine ⟨⟨by omega,by omega,by omega,by omega,by omega,fun q hq=>?_⟩,hh.2.1,hh.2.2,⟨by omega,by omega⟩,fun y hy=>?_⟩
    ·rw [←h.r.r] at hq;obtain ⟨y,hy,rfl⟩:=List.mem_map.1 hq;obtain ⟨j,hj,rfl⟩:=List.getElem_of_mem hy;have:=hj1 j hj (by omega);omega
    ·obtain ⟨j,hj,rfl⟩:=List.getElem_of_mem hy;have:=hj2 j hj (by omega);omega
   refine ae rfl (ab (aa di rfl) (ae rfl (ab (aa bg rfl) (ae rfl (ab (aa dy rfl) (ae rfl (ab (au cU rfl (by exact (show _=some (Value.slice a.E s.es.length a.Ec) from (hk1.from_ ai.rfl_).rd 8 rfl))) ?_)))))));refine ae rfl (ab (bL db rfl) (ae rfl (ab (cy rfl rfl) (ab (ay (v:=.bool _) rfl rfl) (mvb rfl (AU (t:=105) rfl (fun Q56=>?_) (fun Q56=>?_)))))))
   ·refine ar rfl rfl (ar rfl rfl (ar rfl rfl (ar rfl rfl (ab (aL (v:=.bool _) rfl rfl) (asb rfl (ak (ag (aE (bt (v:=.bool _) rfl rfl (⟨⟨_,rfl,fun h9=>?_⟩,hB⟩))))))))))
    have hh:m2≤20000∧s.es.length≤600∧X.length≤100:=by
     first
      |(exfalso;simp at h9;done)
      |(have h8:=dF_ h9;omega)
      |(simp only [decide_eq_false_iff_not] at h9;omega)
      |(simp at h9;omega)
    have hkl:k=a.L.length:=by omega
    refine ⟨⟨by omega,by omega,by omega,by omega,by omega,fun q hq=>?_⟩,hh.2.1,hh.2.2,⟨by omega,by omega⟩,fun y hy=>?_⟩
    ·rw [←h.r.r] at hq;obtain ⟨y,hy,rfl⟩:=List.mem_map.1 hq;obtain ⟨j,hj,rfl⟩:=List.getElem_of_mem hy;have:=hj1 j hj (by omega);omega
    ·obtain ⟨j,hj,rfl⟩:=List.getElem_of_mem hy;have:=hj2 j hj (by omega);omega
   refine ae rfl (ab (aa dL rfl) (ae rfl (ab (au ek rfl (by exact (show _=some (Value.slice LA X.length lc) from (hk1.from_ ai.rfl_).rd 22 rfl))) ?_)));refine ae rfl (ab (bL fS rfl) (ae rfl (ab (cy rfl rfl) (ab (ay (v:=.bool _) rfl rfl) (asb rfl (ak (ag (aE (bt (v:=.bool _) rfl rfl (⟨⟨_,rfl,fun h9=>?_⟩,hB⟩))))))))))
   have hh:m2≤20000∧s.es.length≤600∧X.length≤100:=by
    first
     |(exfalso;simp at h9;done)
     |(have h8:=dF_ h9;omega)
     |(simp only [decide_eq_false_iff_not] at h9;omega)
     |(simp at h9;omega)
   have hkl:k=a.L.length:=by omega
   refine ⟨⟨by omega,by omega,by omega,by omega,by omega,fun q hq=>?_⟩,hh.2.1,hh.2.2,⟨by omega,by omega⟩,fun y hy=>?_⟩
   ·rw [←h.r.r] at hq;obtain ⟨y,hy,rfl⟩:=List.mem_map.1 hq;obtain ⟨j,hj,rfl⟩:=List.getElem_of_mem hy;have:=hj1 j hj (by omega);omega
   ·obtain ⟨j,hj,rfl⟩:=List.getElem_of_mem hy;have:=hj2 j hj (by omega);omega
  refine bB rfl (ak (ag (bc rfl (cz (bk (bk (bW (ag (an (an (af (asi rfl (ak (ag (bf (cS (G:=Nat×Nat) [2,68,69,70,71,72,73,74,75,76,77,78,79,80,81,82,83,84,85,86,87,88,89,90,91,92,93,94] (fun (m2,i)=>[(3,.int .i64 (m2:Nat)),(5,.int .i64 (i:Nat))]) (fun (m2,i) w'=>i≤X.length∧m≤m2∧m2≤2000000000000000∧(∀ j (h:j<X.length),j<i→X[j].m.es.length≤200∧X[j].m.d.size≤20000∧X[j].d.size≤m2)∧Blk w' b1 32 (scV s a LA X.length lc).toArray∧ai w w') (fun (_,i)=>X.length-i) ((m,0)) ⟨rfl,rfl,trivial⟩ ?_ ?_))))))))))))))))
  ·exact ⟨Nat.zero_le _,Nat.le_refl _,hm2,fun j _ h=>absurd h (by omega),hk1.from_ ai.rfl_,hB⟩
  rintro ⟨m2,i⟩ ρ57 w57 ⟨hk2,hn1,hn2,hj2,hk1,hB⟩;refine an (an (af (mvi rfl (ab (aa dL rfl) (ab (au ek rfl (by exact (show _=some (Value.slice LA X.length lc) from (hk1.from_ ai.rfl_).rd 22 rfl))) ?_)))));refine ab (bL fS rfl) (ab (bZ rfl rfl) (mvb rfl (AU (t:=73) rfl (fun Q58=>?_) (fun Q58=>?_))))
  ·refine ae rfl (mvi rfl (ae rfl (ab (bZ rfl rfl) (ab (aL (v:=.bool _) rfl rfl) (ak (ag (Bu rfl (fun Q59=>?_) (fun Q59=>?_))))))))
   ·have hkX:i<X.length:=by omega
    have hox:=h.o _ (List.getElem_mem hkX);have zk:=hox.2.2.2.2;obtain ⟨ba,oa,hQe,hcs⟩:=h.x (by omega);have hkq:Blk w57 b1 32 (scV s a (some ⟨ba,oa,none⟩) X.length lc).toArray:=by rw [←hQe];exact hk1.from_ ai.rfl_
    refine aN (ag (an (bf (an (af (mvi rfl (ab (aa dL rfl) (ab (au ek rfl (by exact (show _=some (Value.slice (some ⟨ba,oa,none⟩) X.length lc) from (hkq.from_ ai.rfl_).rd 22 rfl))) ?_))))))));refine mvi rfl (ab (bN iC rfl rfl (by omega)) (ab (aa lu rfl) (ab (au cD rfl (by exact dg hB (hcs i hkX 15 _ rfl))) ?_)));refine ab (en (by kernel_rfl) rfl) (ab (cF rfl rfl (by omega)) (asi rfl (ak (ag (an (af (ab (aa dL rfl) (ab (au ek rfl (by exact (show _=some (Value.slice (some ⟨ba,oa,none⟩) X.length lc) from (hkq.from_ ai.rfl_).rd 22 rfl))) ?_))))))));refine mvi rfl (ab (bN iC rfl rfl (by omega)) (ab (aa fv rfl) (ab (aK (cs:=bC X[i].m) bn aZ rfl (lf (ft hB (hcs i hkX)))) (aC nF (p_ X[i].m _ (hox.1.from_ hB) hox.2.1 (by have:=hox.2.2.1;omega) hox.2.2.2.1) ?_))));rintro v94 w60 ⟨⟨b94,rfl,hb94⟩,E94⟩;refine ak (ag (aU rfl (fun Q61=>?_) (fun Q61=>?_)))
    ·(try with_reducible first | (replace Q61 := dT_ Q61; trace "@MK N cC:g52-.g73+.c76+.c94+ 1.1") | (replace Q61 := dF_ Q61; trace "@MK N cC:g52-.g73+.c76+.c94+ 1.2") | (replace Q61 := dS Q61; trace "@MK N cC:g52-.g73+.c76+.c94+ 1.3") | (replace Q61 := dU Q61; trace "@MK N cC:g52-.g73+.c76+.c94+ 1.4"))
     (try with_reducible first | (replace Q61 := dT_ Q61; trace "@MK N cC:g52-.g73+.c76+.c94+ 2.1") | (replace Q61 := dF_ Q61; trace "@MK N cC:g52-.g73+.c76+.c94+ 2.2") | (replace Q61 := jE Q61; trace "@MK N cC:g52-.g73+.c76+.c94+ 2.3") | (replace Q61 := jF Q61; trace "@MK N cC:g52-.g73+.c76+.c94+ 2.4") | (replace Q61 := eh Q61; trace "@MK N cC:g52-.g73+.c76+.c94+ 2.5") | (replace Q61 := ei Q61; trace "@MK N cC:g52-.g73+.c76+.c94+ 2.6"))
     refine an (af (asb rfl (ak (ag (aE (bG (aG (aG (bG (aG (bt (v:=.bool _) rfl rfl (⟨⟨_,rfl,fun h=>by cases h⟩,(hB.next E94)⟩))))))))))))
    (try with_reducible first | (replace Q61 := dT_ Q61; trace "@MK N cC:g52-.g73+.c76+.c94- 1.1") | (replace Q61 := dF_ Q61; trace "@MK N cC:g52-.g73+.c76+.c94- 1.2") | (replace Q61 := dS Q61; trace "@MK N cC:g52-.g73+.c76+.c94- 1.3") | (replace Q61 := dU Q61; trace "@MK N cC:g52-.g73+.c76+.c94- 1.4"))
    (try with_reducible first | (replace Q61 := dT_ Q61; trace "@MK N cC:g52-.g73+.c76+.c94- 2.1") | (replace Q61 := dF_ Q61; trace "@MK N cC:g52-.g73+.c76+.c94- 2.2") | (replace Q61 := jE Q61; trace "@MK N cC:g52-.g73+.c76+.c94- 2.3") | (replace Q61 := jF Q61; trace "@MK N cC:g52-.g73+.c76+.c94- 2.4") | (replace Q61 := eh Q61; trace "@MK N cC:g52-.g73+.c76+.c94- 2.5") | (replace Q61 := ei Q61; trace "@MK N cC:g52-.g73+.c76+.c94- 2.6"))
    refine aN (bq (ag (af (mvi rfl (ab (b0 rfl rfl (by omega)) (asi rfl (ak ?_)))))));refine cG ((m2+X[i].d.size,i+1)) ⟨(by first | rfl | (refine bo ?_;omega)),(by first | rfl | (refine bo ?_;omega)),trivial⟩ (by (iterate 60 refine bE rfl ?_);exact bX) ⟨?_,?_⟩
    ·refine ⟨by omega,by omega,by omega,fun j h hj=>?_,hk1.from_ (ai.rfl_.next E94),(hB.next E94)⟩;rcases Nat.lt_or_ge j i with e | e
     ·have:=hj2 j h e;omega
     ·obtain rfl:j=i:=by omega
      have:=hb94 (by first | rfl | assumption | simp_all);omega
    ·show X.length-(i+1)<X.length-i;omega
   refine cz (bk (bk (bW (ag (an (af (mvi rfl (ab (cy rfl rfl) (mvb rfl (AU (t:=97) rfl (fun Q62=>?_) (fun Q62=>?_)))))))))))
   ·refine ar rfl rfl (ar rfl rfl (ar rfl rfl (ar rfl rfl (ar rfl rfl (ar rfl rfl (ab (aL (v:=.bool _) rfl rfl) (mvb rfl (ar rfl rfl ?_))))))));refine ar rfl rfl (ar rfl rfl (ar rfl rfl (ab (aL (v:=.bool _) rfl rfl) (asb rfl (ak (ag (aE (bt (v:=.bool _) rfl rfl (⟨⟨_,rfl,fun h9=>?_⟩,hB⟩)))))))))
    have hh:m2≤20000∧s.es.length≤600∧X.length≤100:=by
     first
      |(exfalso;simp at h9;done)
      |(have h8:=dF_ h9;omega)
      |(simp only [decide_eq_false_iff_not] at h9;omega)
      |(simp at h9;omega)
    have hkl:k=a.L.length:=by omega
    refine ⟨⟨by omega,by omega,by omega,by omega,by omega,fun q hq=>?_⟩,hh.2.1,hh.2.2,⟨by omega,by omega⟩,fun y hy=>?_⟩
    ·rw [←h.r.r] at hq;obtain ⟨y,hy,rfl⟩:=List.mem_map.1 hq;obtain ⟨j,hj,rfl⟩:=List.getElem_of_mem hy;have:=hj1 j hj (by omega);omega
    ·obtain ⟨j,hj,rfl⟩:=List.getElem_of_mem hy;have:=hj2 j hj (by omega);omega
   refine ae rfl (ab (aa di rfl) (ae rfl (ab (aa bg rfl) (ae rfl (ab (aa dy rfl) (ae rfl (ab (au cU rfl (by exact (show _=some (Value.slice a.E s.es.length a.Ec) from (hk1.from_ ai.rfl_).rd 8 rfl))) ?_)))))));refine ae rfl (ab (bL db rfl) (ae rfl (ab (cy rfl rfl) (ab (ay (v:=.bool _) rfl rfl) (mvb rfl (AU (t:=105) rfl (fun Q63=>?_) (fun Q63=>?_)))))))
   ·refine ar rfl rfl (ar rfl rfl (ar rfl rfl (ar rfl rfl (ab (aL (v:=.bool _) rfl rfl) (asb rfl (ak (ag (aE (bt (v:=.bool _) rfl rfl (⟨⟨_,rfl,fun h9=>?_⟩,hB⟩))))))))))
    have hh:m2≤20000∧s.es.length≤600∧X.length≤100:=by
     first
      |(exfalso;simp at h9;done)
      |(have h8:=dF_ h9;omega)
      |(simp only [decide_eq_false_iff_not] at h9;omega)
      |(simp at h9;omega)
    have hkl:k=a.L.length:=by omega
    refine ⟨⟨by omega,by omega,by omega,by omega,by omega,fun q hq=>?_⟩,hh.2.1,hh.2.2,⟨by omega,by omega⟩,fun y hy=>?_⟩
    ·rw [←h.r.r] at hq;obtain ⟨y,hy,rfl⟩:=List.mem_map.1 hq;obtain ⟨j,hj,rfl⟩:=List.getElem_of_mem hy;have:=hj1 j hj (by omega);omega
    ·obtain ⟨j,hj,rfl⟩:=List.getElem_of_mem hy;have:=hj2 j hj (by omega);omega
   refine ae rfl (ab (aa dL rfl) (ae rfl (ab (au ek rfl (by exact (show _=some (Value.slice LA X.length lc) from (hk1.from_ ai.rfl_).rd 22 rfl))) ?_)));refine ae rfl (ab (bL fS rfl) (ae rfl (ab (cy rfl rfl) (ab (ay (v:=.bool _) rfl rfl) (asb rfl (ak (ag (aE (bt (v:=.bool _) rfl rfl (⟨⟨_,rfl,fun h9=>?_⟩,hB⟩))))))))))
   have hh:m2≤20000∧s.es.length≤600∧X.length≤100:=by
    first
     |(exfalso;simp at h9;done)
     |(have h8:=dF_ h9;omega)
     |(simp only [decide_eq_false_iff_not] at h9;omega)
     |(simp at h9;omega)
   have hkl:k=a.L.length:=by omega
   refine ⟨⟨by omega,by omega,by omega,by omega,by omega,fun q hq=>?_⟩,hh.2.1,hh.2.2,⟨by omega,by omega⟩,fun y hy=>?_⟩
   ·rw [←h.r.r] at hq;obtain ⟨y,hy,rfl⟩:=List.mem_map.1 hq;obtain ⟨j,hj,rfl⟩:=List.getElem_of_mem hy;have:=hj1 j hj (by omega);omega
   ·obtain ⟨j,hj,rfl⟩:=List.getElem_of_mem hy;have:=hj2 j hj (by omega);omega
  refine bB rfl (ak (ag (bc rfl (cz (bk (bk (bW (ag (an (af (mvi rfl (ab (cy rfl rfl) (mvb rfl (AU (t:=97) rfl (fun Q64=>?_) (fun Q64=>?_)))))))))))))))
  ·refine ar rfl rfl (ar rfl rfl (ar rfl rfl (ar rfl rfl (ar rfl rfl (ar rfl rfl (ab (aL (v:=.bool _) rfl rfl) (mvb rfl (ar rfl rfl ?_))))))));refine ar rfl rfl (ar rfl rfl (ar rfl rfl (ab (aL (v:=.bool _) rfl rfl) (asb rfl (ak (ag (aE (bt (v:=.bool _) rfl rfl (⟨⟨_,rfl,fun h9=>?_⟩,hB⟩)))))))))
   have hh:m2≤20000∧s.es.length≤600∧X.length≤100:=by
    first
     |(exfalso;simp at h9;done)
     |(have h8:=dF_ h9;omega)
     |(simp only [decide_eq_false_iff_not] at h9;omega)
     |(simp at h9;omega)
   have hkl:k=a.L.length:=by omega
   refine ⟨⟨by omega,by omega,by omega,by omega,by omega,fun q hq=>?_⟩,hh.2.1,hh.2.2,⟨by omega,by omega⟩,fun y hy=>?_⟩
   ·rw [←h.r.r] at hq;obtain ⟨y,hy,rfl⟩:=List.mem_map.1 hq;obtain ⟨j,hj,rfl⟩:=List.getElem_of_mem hy;have:=hj1 j hj (by omega);omega
   ·obtain ⟨j,hj,rfl⟩:=List.getElem_of_mem hy;have:=hj2 j hj (by omega);omega
  refine ae rfl (ab (aa di rfl) (ae rfl (ab (aa bg rfl) (ae rfl (ab (aa dy rfl) (ae rfl (ab (au cU rfl (by exact (show _=some (Value.slice a.E s.es.length a.Ec) from (hk1.from_ ai.rfl_).rd 8 rfl))) ?_)))))));refine ae rfl (ab (bL db rfl) (ae rfl (ab (cy rfl rfl) (ab (ay (v:=.bool _) rfl rfl) (mvb rfl (AU (t:=105) rfl (fun Q65=>?_) (fun Q65=>?_)))))))
  ·refine ar rfl rfl (ar rfl rfl (ar rfl rfl (ar rfl rfl (ab (aL (v:=.bool _) rfl rfl) (asb rfl (ak (ag (aE (bt (v:=.bool _) rfl rfl (⟨⟨_,rfl,fun h9=>?_⟩,hB⟩))))))))))
   have hh:m2≤20000∧s.es.length≤600∧X.length≤100:=by
    first
     |(exfalso;simp at h9;done)
     |(have h8:=dF_ h9;omega)
     |(simp only [decide_eq_false_iff_not] at h9;omega)
     |(simp at h9;omega)
   have hkl:k=a.L.length:=by omega
   refine ⟨⟨by omega,by omega,by omega,by omega,by omega,fun q hq=>?_⟩,hh.2.1,hh.2.2,⟨by omega,by omega⟩,fun y hy=>?_⟩
   ·rw [←h.r.r] at hq;obtain ⟨y,hy,rfl⟩:=List.mem_map.1 hq;obtain ⟨j,hj,rfl⟩:=List.getElem_of_mem hy;have:=hj1 j hj (by omega);omega
   ·obtain ⟨j,hj,rfl⟩:=List.getElem_of_mem hy;have:=hj2 j hj (by omega);omega
  refine ae rfl (ab (aa dL rfl) (ae rfl (ab (au ek rfl (by exact (show _=some (Value.slice LA X.length lc) from (hk1.from_ ai.rfl_).rd 22 rfl))) ?_)));refine ae rfl (ab (bL fS rfl) (ae rfl (ab (cy rfl rfl) (ab (ay (v:=.bool _) rfl rfl) (asb rfl (ak (ag (aE (bt (v:=.bool _) rfl rfl (⟨⟨_,rfl,fun h9=>?_⟩,hB⟩))))))))))
  have hh:m2≤20000∧s.es.length≤600∧X.length≤100:=by
   first
    |(exfalso;simp at h9;done)
    |(have h8:=dF_ h9;omega)
    |(simp only [decide_eq_false_iff_not] at h9;omega)
    |(simp at h9;omega)
  have hkl:k=a.L.length:=by omega
  refine ⟨⟨by omega,by omega,by omega,by omega,by omega,fun q hq=>?_⟩,hh.2.1,hh.2.2,⟨by omega,by omega⟩,fun y hy=>?_⟩
  ·rw [←h.r.r] at hq;obtain ⟨y,hy,rfl⟩:=List.mem_map.1 hq;obtain ⟨j,hj,rfl⟩:=List.getElem_of_mem hy;have:=hj1 j hj (by omega);omega
  ·obtain ⟨j,hj,rfl⟩:=List.getElem_of_mem hy;have:=hj2 j hj (by omega);omega
def eF (k:Nat) (l:List Msg):Prop:=l.length≤k∧∀ m∈l,m.es.length≤16
theorem eF.nil {k:Nat}:eF k []:=⟨Nat.zero_le _,fun m hm=>by cases hm⟩
theorem eF.tell {k:Nat} {p:Sp} (h:eF k p.out) {m:Msg} (hm:m.es.length≤16):eF (k+1) (p.tell m).out:=by
 refine ⟨by show (p.out++[_]).length≤_;rw [List.length_append,List.length_singleton];have:=h.1;omega,fun x hx=>?_⟩;rcases List.mem_append.1 hx with e | e
 ·exact h.2 x e
 ·obtain rfl:=List.mem_singleton.1 e;exact hm
theorem rN (s:Rf) (to:Int):(kz s to).es.length≤16:=by
 unfold kz;simp only;split
 ·exact Nat.zero_le _
 ·show ((s.es.drop _).take 16).length≤16;rw [List.length_take];omega
theorem eF.sends {k:Nat} {p:Sp} (h:eF k p.out) (l:List Int):eF (k+l.length) (p.sends l).out:=by
 rw [ky];refine ⟨by rw [List.length_append,List.length_map];have:=h.1;omega,fun x hx=>?_⟩;rcases List.mem_append.1 hx with e | e
 ·exact h.2 x e
 ·obtain ⟨y,_,rfl⟩:=List.mem_map.1 e;exact rN _ _
theorem eF.up {k j:Nat} {l:List Msg} (h:eF k l) (hj:k≤j):eF j l:=⟨Nat.le_trans h.1 hj,h.2⟩
theorem eF.all {k:Nat} {p:Sp} (h:eF k p.out) (hn:p.s.nodes≤7):eF (k+7) p.all.out:=(h.sends (dE p.s)).up (by have:=lD p.s;omega)
theorem eF.lead {k:Nat} {p:Sp} (h:eF k p.out) (hn:p.s.nodes≤7):eF (k+7) (mo p).out:=by
 unfold mo;split
 ·exact h.up (by omega)
 ·exact eF.all (p:=⟨_,p.out⟩) h hn
theorem eF.wins {k:Nat} {p:Sp} (h:eF k p.out) (hn:p.s.nodes≤7):eF (k+7) (km p).out:=by
 unfold km;split
 ·exact h.lead hn
 ·exact h.up (by omega)
theorem RfF.leads {p:Sp} (h:RfF p.s):RfF (mo p).s:=by
 unfold mo;split
 ·exact h.falls h.te.2
 ·rename_i hf;have hf':iu p.s=false:=by simpa using hf
  have h1:=h.lead hf';show RfF (cn (Sp.all ⟨_,p.out⟩).s);rw [mW];exact h1.settle rfl
theorem RfF.wins {p:Sp} (h:RfF p.s):RfF (km p).s:=by
 unfold km;split
 ·exact h.leads
 ·exact h
theorem bm.chgT {w w':World} {tag:Nat→Nat} {s:Rf} {a:Ra} {U:Nat→Prop} (h:bm w tag s a) (hC:Chg U w w') (hU:∀ q,q<w.heap.size→U q→tag q=8∨tag q=6∨∃ j,tag q=1000+2*j):bm w' tag s a:=by
 have mv:∀ {d e s n cc:Nat} {A:Option Addr} {xs:List Value},StC d→w.ownsRow 0 e s (.slice A n cc) n xs∧Col tag d A→w'.ownsRow 0 e s (.slice A n cc) n xs∧Col tag d A:=fun hd h=>⟨ew h.1 hC (fun k hk e=>by
  have h1:=h.2 k hk;have h8:=hd.eight;have h6:=hd.six;rcases hU k (dG h.1 k hk) e with e | e | ⟨j,e⟩
  ·omega
  ·omega
  ·have:=hd.even j;omega),h.2⟩
 exact ⟨fun hx=>mv (.inl (by decide)) (h.e hx),fun hx=>mv (.inl (by decide)) (h.v hx),fun hx=>mv (.inl (by decide)) (h.x hx),fun hx=>mv (.inl (by decide)) (h.m hx),fun hx=>mv (.inl (by decide)) (h.n hx),h.r,fun hx=>mv (.inl (by decide)) (h.q hx),fun i hi hx=>mv (.inr ⟨i,rfl⟩) (h.k i hi hx)⟩
theorem eD.chgT {w w':World} {tag:Nat→Nat} {out:List Msg} {O:Option Addr} {oc:Nat} {L:List Msg} {U:Nat→Prop} (h:eD w tag out O oc L) (hC:Chg U w w') (hU:∀ q,q<w.heap.size→U q→tag q=8∨StC (tag q)):eD w' tag out O oc L:=by
 have mv:∀ {d e s n cc:Nat} {A:Option Addr} {xs:List Value},(d=6∨∃ j,d=1000+2*j)→w.ownsRow 0 e s (.slice A n cc) n xs∧Col tag d A→w'.ownsRow 0 e s (.slice A n cc) n xs∧Col tag d A:=fun hd h=>⟨ew h.1 hC (fun k hk e=>by
  have h1:=h.2 k hk;rcases hU k (dG h.1 k hk) e with e | e
  ·rcases hd with hd | ⟨j,hd⟩ <;> omega
  ·rcases hd with hd | ⟨j,hd⟩
   ·have:=e.six;omega
   ·have:=e.even j;omega),h.2⟩
 exact ⟨(mv (.inl rfl) ⟨h.o,h.c⟩).1,h.l,fun j hj=>mv (.inr ⟨j,rfl⟩) (h.e j hj),h.c⟩
theorem eD.len {w:World} {tag:Nat→Nat} {out:List Msg} {O:Option Addr} {oc:Nat} {L:List Msg} (h:eD w tag out O oc L):L.length=out.length:=by
 have h9:=congrArg List.length h.l;rw [List.length_map] at h9;exact h9
theorem eD.es {w:World} {tag:Nat→Nat} {out:List Msg} {O:Option Addr} {oc:Nat} {L:List Msg} {k:Nat} (h:eD w tag out O oc L) (ho:eF k out):∀ x∈L,x.es.length≤16:=fun x hx=>by
 have h1:pl x∈out:=by rw [←h.l];exact List.mem_map_of_mem hx
 exact (show (pl x).es.length≤16 from ho.2 _ h1)
theorem eD.ents {w:World} {tag:Nat→Nat} {out:List Msg} {O:Option Addr} {oc:Nat} {L:List Msg} (h:eD w tag out O oc L):∀ x∈L,cH w (.slice x.E x.es.length x.c) x.es:=fun x hx=>by
 obtain ⟨j,hj,rfl⟩:=List.getElem_of_mem hx;exact cH.of_own (h.e j hj).1 rfl
theorem zo {w:World} {tag tag':Nat→Nat} {out:List Msg} {O O':Option Addr} {oc oc':Nat} {L L':List Msg} (h:eD w tag out O oc L) (h':eD w tag' out O' oc' L') (ho:eF 1000 out) :
 Rt prog 50 [.slice O L.length oc,.slice O' L'.length oc'] w fun v w'=>v=.bool true∧ai w w':=by
 have e:=h'.len.trans h.len.symm;have hl:=h.len;have h1:=ho.1;rw [e];exact sk O O' oc oc' L.length L L' w (iv.own nN (by decide) h.o).2 (iv.own nN (by decide) h'.o).2 rfl e (h.l.trans h'.l.symm) h.ents h'.ents (fun x hx=>by have:=h.es ho x hx;omega) (by omega)
def UBs (z b4 b11:Nat):Nat→Prop:=fun q=>q=b11∨q=b4∨z≤q
theorem mM (s:Rf) (a:Ra) (w:World) (hrd:eQ w s a) (hl:s.votes.length≤1000000∧s.next.length≤1000000∧s.mtch.length≤1000000∧s.sent.length≤1000000∧s.reads.length≤1000000∧∀ q∈s.reads,q.acks.length≤1000000) {b:Bool} (hm:iq s=b):Rt prog 30 [.agg (rfV s a).toArray] w fun v w'=>v=.bool b∧ai w w':=by
 subst hm;exact yW s a w hrd hl
theorem mD (i:Int) (n N:Nat) (w:World) (hn:0<n∧n≤1000) (h:wiN i n=N):Rt prog 31 [.int .i64 i,.int .i64 (n:Nat)] w fun v w'=>v=.int .i64 (N:Nat)∧w=w':=by
 subst h;exact nT i n w hn
theorem sz7 {s:Rf} (hl:s.votes.length≤1000000∧s.next.length≤1000000∧s.mtch.length≤1000000∧s.sent.length≤1000000∧s.reads.length≤1000000∧∀ q∈s.reads,q.acks.length≤1000000) (hel:s.es.length≤1000000):s.es.length≤1000000∧s.votes.length≤1000000∧s.next.length≤1000000∧s.mtch.length≤1000000∧s.sent.length≤1000000∧s.reads.length≤1000000∧∀ q∈s.reads,q.acks.length≤1000000:=⟨hel,hl⟩
structure BU (w:World) (tag:Nat→Nat) (l:List Rd) (A:Option Addr) (c:Nat) (N:List (Rd×Option Addr×Nat)):Prop where
 q:w.ownsRow 0 54 4 (.slice A N.length c) N.length (N.flatMap rdV)
 r:N.map (fun q=>q.1)=l
 k:∀ (j:Nat) (h:j<N.length),w.ownsRow 0 3 1 (.slice N[j].2.1 N[j].1.acks.length N[j].2.2) N[j].1.acks.length (N[j].1.acks.map iV)∧Col tag (1000+2*j) N[j].2.1
 c:Col tag 6 A
section
variable {w w':World} {tag:Nat→Nat} {l:List Rd} {A:Option Addr} {c:Nat} {N:List (Rd×Option Addr×Nat)}
structure BT (w:World) (l:List Rd) (A:Option Addr) (N:List (Rd×Option Addr×Nat)):Prop where
 q:iv 4 rdV w A N
 r:N.map (fun q=>q.1)=l
 k:∀ q∈N,IR w q.2.1 q.2.2 q.1.acks
end
def Sz7 (s:Rf):Prop:=s.es.length≤1000000∧s.votes.length≤1000000∧s.next.length≤1000000∧s.mtch.length≤1000000∧s.sent.length≤1000000∧s.reads.length≤1000000∧∀ q∈s.reads,q.acks.length≤1000000
theorem Sz7.settle {s:Rf} (h:Sz7 s):Sz7 (cn s):=by
 obtain ⟨h0,h1,h2,h3,h4,h5,h6⟩:=h;exact ⟨h0,h1,h2,by show (bK s.mtch s.id _).length≤_;rw [cZ];exact h3,h4,h5,h6⟩
end Go.Proofs.YtkpooenofjdpmaaGreat
namespace Go.Proofs.YtkpooenofjdpmaaGreat
open Go.Proofs.Tryz (prog)
open Go.RowKit
open Go.ChangeShapes Go.WideShapes Go.ChangeAt
open Go.RowKit
theorem RfF.sz {s:Rf} (h:RfF s):Sz7 s:=by
 have hn:=h.n;have hv:=h.vl;have hl:=h.last;have h1:=h.nx.1;have h2:=h.ma.1;have h3:=h.se.1;have h0:f_ s≤7:=by unfold f_;split <;> omega
 have h4:=h.rl
 exact ⟨by omega,by omega,by omega,by omega,by omega,by omega,fun q hq=>by
  have h5:=h.rd q hq;unfold gO at h5;simp only [Bool.and_eq_true] at h5;have:=vP h5.2 hn.2;omega⟩
structure eu (p:Sp):Prop where
 s:Sz7 p.s
 o:eF 100 p.out
theorem eu.nil {s:Rf} (h:Sz7 s):eu ⟨s,[]⟩:=⟨h,eF.nil⟩
theorem eu.tell {s:Rf} {m:Msg} (h:Sz7 s) (hm:m.es.length≤16):eu (Sp.tell ⟨s,[]⟩ m):=⟨h,(eF.tell (k:=0) (p:=⟨s,[]⟩) eF.nil hm).up (by decide)⟩
theorem eu.send {s:Rf} (h:Sz7 s) (to:Int):eu (Sp.send ⟨s,[]⟩ to):=eu.tell h (rN _ _)
theorem vJ {s:Rf} (h:Sz7 s) (m:Msg):eu (fU s m):=by
 unfold fU;split
 ·exact eu.tell h (Nat.zero_le _)
 ·split
  ·exact eu.tell h (Nat.zero_le _)
  ·exact eu.nil h
theorem yK {s:Rf} (h:Sz7 s) (m:Msg):eu (wB s m):=by
 unfold wB;simp only;split
 ·exact eu.tell (s:={ s with vote:=m.f,elapsed:=0 }) h (Nat.zero_le _)
 ·exact eu.tell h (Nat.zero_le _)
theorem wA {s:Rf} (h:RfF s) {m:Msg} (hf:1≤m.f∧m.f≤s.nodes):eu (tu s m):=by
 unfold tu;split
 ·have h1:=h.voted hf;have hn:=h.n;exact ⟨(RfF.wins (p:=⟨{ s with votes:=dM s.votes m.f },[]⟩) h1).sz,(eF.wins (k:=0) (p:=⟨{ s with votes:=dM s.votes m.f },[]⟩) eF.nil hn.2).up (by decide)⟩
 ·exact eu.nil h.sz
theorem v_ {s:Rf} (h:RfF s) (m:Msg):eu (qS s m):=by
 unfold qS;simp only;split
 ·exact eu.nil h.sz
 ·rename_i h1;split
  ·exact eu.tell h.sz (Nat.zero_le _)
  ·rename_i h2;split
   ·exact eu.nil h.sz
   ·have h3:lE s.b s.t m.ix m.lt s.es m.es=(0,false,(lE s.b s.t m.ix m.lt s.es m.es).2.2):=by
     have e1:(lE s.b s.t m.ix m.lt s.es m.es).1=0:=Decidable.byContradiction h1;have e2:(lE s.b s.t m.ix m.lt s.es m.es).2.1=false:=by simpa using h2
     exact Prod.ext e1 (Prod.ext e2 rfl)
    have h4:=(eY (xN h h3).2.1).2.2.2;have h5:=h.sz;exact eu.tell (s:={ s with es:=_,commit:=_ }) ⟨Nat.le_trans h4 (by decide),h5.2⟩ (Nat.zero_le _)
theorem yY {s:Rf} (h:Sz7 s) (m:Msg):eu (xy s m):=by
 unfold xy;simp only
 have h1:Sz7 (if s.partOf≠m.ix then { s with partOf:=m.ix,part:=⟨#[]⟩ } else s):=by
  split <;> exact h
 generalize (if s.partOf≠m.ix then ({ s with partOf:=m.ix,part:=⟨#[]⟩ }:Rf) else s)=a at h1 ⊢
 split
 ·exact eu.tell h (Nat.zero_le _)
 ·have h2:∀ b:Bool,Sz7 (if b=true then { a with part:=a.part++m.d } else a):=fun b=>by
   split <;> exact h1
  have h2:=h2 (decide (m.a=a.part.size)&&decide (a.part.size+m.d.size≤524288))
  generalize (if (decide (m.a=a.part.size)&&decide (a.part.size+m.d.size≤524288))=true then ({ a with part:=a.part++m.d }:Rf) else a)=c at h2 ⊢
  split
  ·refine eu.tell (s:={ c with b:=_,t:=_,es:=_,snap:=_,commit:=_,part:=_,partOf:=_ }) ⟨?_,h2.2⟩ (Nat.zero_le _);show (if _ then c.es.drop _ else []).length≤_;have:=h2.1;split
   ·rw [List.length_drop];omega
   ·exact Nat.zero_le _
  ·exact eu.tell h2 (Nat.zero_le _)
theorem zh {s:Rf} (h:RfF s) {m:Msg} (hf:1≤m.f∧m.f≤s.nodes):eu (xZ s m):=by
 unfold xZ;simp only;split
 ·exact eu.nil h.sz
 ·have h1:RfF (if s.role=1 then dh s s.term else s)∧(if s.role=1 then dh s s.term else s).nodes=s.nodes:=by
   split
   ·exact ⟨h.falls h.te.2,(j_ s s.term).2.2.2.2.1⟩
   ·exact ⟨h,rfl⟩
  generalize (if s.role=1 then dh s s.term else s)=c at h1 ⊢
  have h2:RfF { c with leader:=m.f,elapsed:=0 }:=h1.1.hear ⟨by omega,by rw [h1.2];exact hf.2⟩;split
  ·exact v_ h2 m
  ·exact yY h2.sz m
theorem Sz7.put {s:Rf} (h:Sz7 s) {N M S:List Int} (h1:N.length=s.next.length) (h2:M.length=s.mtch.length) (h3:S.length=s.sent.length):Sz7 { s with next:=N,mtch:=M,sent:=S }:=by
 obtain ⟨a0,a1,a2,a3,a4,a5,a6⟩:=h;exact ⟨a0,a1,by show N.length≤_;omega,by show M.length≤_;omega,by show S.length≤_;omega,a5,a6⟩
theorem yM {s0:Rf} (h:RfF s0) {m:Msg} (hf:1≤m.f∧m.f≤s0.nodes):eu (gj s0 m):=by
 unfold gj;split
 ·exact eu.nil h.sz
 ·have hs:=(h.ack (rn:=m.rd) hf).sz;simp only
  generalize js s0 m.f m.rd=s at hs ⊢
  split
  ·split
   ·exact eu.send (s:={ s with sent:=bK s.sent m.f m.a }) (Sz7.put hs rfl rfl (cZ _ _ _)) _
   ·exact eu.nil hs
  ·split
   ·exact eu.send (s:={ s with next:=_,sent:=_ }) (Sz7.put hs (cZ _ _ _) rfl (cZ _ _ _)) _
   ·split
    ·have h1:∀ x y:Int,Sz7 (cn { s with mtch:=bK s.mtch m.f x,next:=bK s.next m.f y,sent:=bK s.sent m.f 0 }):=fun x y=>Sz7.settle (Sz7.put hs (cZ _ _ _) (cZ _ _ _) (cZ _ _ _))
     split
     ·exact eu.send (h1 _ _) _
     ·exact eu.nil (h1 _ _)
    ·exact eu.nil hs
theorem yP {s:Rf} (h:RfF s) {m:Msg} (hf:1≤m.f∧m.f≤s.nodes) (ht:m.tm≤1099511627775):eu (cW s m):=by
 unfold cW;simp only
 have h1:RfF (if s.term<m.tm then dh s m.tm else s)∧(if s.term<m.tm then dh s m.tm else s).nodes=s.nodes:=by
  split
  ·exact ⟨h.falls ht,(j_ s m.tm).2.2.2.2.1⟩
  ·exact ⟨h,rfl⟩
 generalize (if s.term<m.tm then dh s m.tm else s)=a at h1 ⊢
 have hf':1≤m.f∧m.f≤a.nodes:=by rw [h1.2];exact hf
 split
 ·exact vJ h1.1.sz m
 ·split
  ·exact yK h1.1.sz m
  ·split
   ·exact wA h1.1 hf'
   ·split
    ·exact zh h1.1 hf'
    ·exact yM h1.1 hf'
end Go.Proofs.YtkpooenofjdpmaaGreat
namespace Go.Proofs.YtkpooenofjdpmaaGreat
open Go.Proofs.Tryz (prog)
open Go.RowKit
open Go.ChangeShapes Go.WideShapes Go.ChangeAt
theorem qo:aP prog 98=true:=by kernel_rfl
theorem qn:kj prog 99=some (.agg #[.int .i64 0,.int .i64 0,.string ⟨#[]⟩]):=by kernel_rfl
theorem nE:cL prog 99 1=some 1:=by kernel_rfl
theorem qp:aP prog 88=true:=by kernel_rfl
def OkM (m:Msg):Prop:=OkR m.k m.f m.t m.tm m.ix m.lt m.cm m.rd m.ok m.es m.a m.d m.dn
instance (m:Msg):Decidable (OkM m):=by unfold OkM;exact inferInstance
def pE (s:Rf) (m:Msg):Prop:=OkM m∧x7 s m=true
instance (s:Rf) (m:Msg):Decidable (pE s m):=by unfold pE;exact inferInstance
def Em (w:World) (m:Msg):Prop:=cH w (.slice m.E m.es.length m.c) m.es
theorem Em.from_ {w w':World} {m:Msg} (h:Em w m) (hF:ai w w'):Em w' m:=cH.from_ h hF
def rv (m:Msg):Prop:=∀ w:World,Em w m→Rt prog 98 [.agg (bC m).toArray] w fun v w'=>v=.int .i64 (if OkM m then 0 else 1)∧ai w w'
def wi (m:Msg):Prop:=∀ w:World,Em w m→Rt prog 88 [.agg (bC m).toArray] w fun v w'=>v=.bool (decide (OkM m))∧ai w w'
theorem rv.is {m:Msg} (hck:rv m) {w:World} (he:Em w m) {e:Int} (h:(if OkM m then (0:Int) else 1)=e):Rt prog 98 [.agg (bC m).toArray] w fun v w'=>v=.int .i64 e∧ai w w':=by
 subst h;exact hck w he
theorem wi.is {m:Msg} (hmr:wi m) {w:World} (he:Em w m) {b:Bool} (h:decide (OkM m)=b):Rt prog 88 [.agg (bC m).toArray] w fun v w'=>v=.bool b∧ai w w':=by
 subst h;exact hmr w he
theorem dF (s:Rf) (m:Msg):x7 s m=true↔m.t=s.id∧m.f≠s.id∧m.f≤s.nodes∧((m.k=3∨m.k=5)→m.lt≤m.tm∧∀ e∈m.es,e.t≤m.tm):=by
 unfold x7;simp only [Bool.and_eq_true,Bool.or_eq_true,decide_eq_true_eq,List.all_eq_true,Bool.not_eq_true',Bool.or_eq_false_iff,decide_eq_false_iff_not];constructor
 ·rintro ⟨⟨⟨h1,h2⟩,h3⟩,h4⟩;exact ⟨h1,h2,h3,fun hk=>h4.elim (fun e=>by omega) (fun e=>e)⟩
 ·rintro ⟨h1,h2,h3,h4⟩;refine ⟨⟨⟨h1,h2⟩,h3⟩,?_⟩;by_cases hk:m.k=3∨m.k=5
  ·exact .inr (h4 hk)
  ·exact .inl (by omega)
theorem OkM.num {m:Msg} (h:OkM m):gK m.k m.f m.t m.tm m.ix m.lt m.cm m.rd m.a:=h.1
theorem yd {w:World} {A:Option Addr} {n c:Nat} {es:List Ent} (h:cH w (.slice A n c) es) (hn:0<es.length):∃ b o,A=some ⟨b,o,none⟩∧∀ i (hi:i<es.length),w.rangeAt b (o+i*3) [.int .i64 es[i].i,.int .i64 es[i].t,.string es[i].d]:=k9 h hn
theorem uw (s:Rf) (a:Ra) (m:Msg) (w:World) (he:Em w m) (_:m.es.length≤1000000) (hck:rv m) (hok:¬ OkM m) :
 Rt prog 57 [.agg (rfV s a).toArray,.agg (bC m).toArray] w (fun v w'=>v=.bool false∧ai w w'):=by
 refine enter (n:=57) Tryz.func57 rfl rfl rfl (an (af (bQ (v:=.agg _) rfl ?_)));intro b2 w1 E2 hb2 hk2;refine bQ (v:=.agg _) rfl ?_;intro b3 w2 E3 hb3 hk3;replace hk2:=hk2.from_ E3;refine asb rfl (ak (ag (an (an (af (ab (aK (cs:=bC m) bn aZ rfl ((hk3.from_ ai.rfl_).whole)) (aC qo (hck.is (he.from_ ((ai.rfl_.next E2).next E3)) (if_neg hok)) ?_)))))));rintro v8 w3 ⟨rfl,E8⟩;refine ab (dd (de rfl rfl) rfl) (mvb rfl (ar rfl rfl (ar rfl rfl (ar rfl rfl (ar rfl rfl (ar rfl rfl (ab (aL (v:=.bool _) rfl rfl) (mvb rfl ?_))))))));refine ar rfl rfl (ar rfl rfl (ar rfl rfl (ar rfl rfl (ar rfl rfl (ab (aL (v:=.bool _) rfl rfl) (mvb rfl (ar rfl rfl (ar rfl rfl ?_))))))));refine ar rfl rfl (ar rfl rfl (ar rfl rfl (ab (aL (v:=.bool _) rfl rfl) (ak (ag (a_ rfl (an (af (asb rfl (ak (ag (aE (aG ?_)))))))))))));refine bt (v:=.bool _) rfl rfl (⟨rfl,(((ai.rfl_.next E2).next E3).next E8)⟩)
theorem uv (s:Rf) (a:Ra) (m:Msg) (w:World) (he:Em w m) (hl:m.es.length≤1000000) (hck:rv m) (hok:OkM m) :
 Rt prog 57 [.agg (rfV s a).toArray,.agg (bC m).toArray] w (fun v w'=>v=.bool (x7 s m)∧ai w w'):=by
 obtain ⟨Ee,hEe⟩:∃ x,x=m.E:=⟨_,rfl⟩;refine enter (n:=57) Tryz.func57 rfl rfl rfl (an (af (bQ (v:=.agg _) rfl ?_)));intro b2 w1 E2 hb2 hk2;refine bQ (v:=.agg _) rfl ?_;intro b3 w2 E3 hb3 hk3;replace hk2:=hk2.from_ E3;refine asb rfl (ak (ag (an (an (af (ab (aK (cs:=bC m) bn aZ rfl ((hk3.from_ ai.rfl_).whole)) (aC qo (hck.is (he.from_ ((ai.rfl_.next E2).next E3)) (if_pos hok)) ?_)))))));rintro v8 w3 ⟨rfl,E8⟩;refine ab (bY (de rfl rfl) rfl) (mvb rfl (ae rfl (ab (aa br rfl) (ae rfl (ab (au ao rfl (by exact (show _=some (Value.int .i64 m.f) from (hk3.from_ (ai.rfl_.next E8)).rd 1 rfl))) ?_)))));refine ae rfl (ab (aa cg rfl) (ae rfl (ab (au ao rfl (by exact (show _=some (Value.int .i64 s.nodes) from (hk2.from_ (ai.rfl_.next E8)).rd 1 rfl))) ?_)));refine ae rfl (ab (cy rfl rfl) (ab (ay (v:=.bool _) rfl rfl) (mvb rfl (AU (t:=17) rfl (fun Q4=>?_) (fun Q4=>?_)))))
 ·refine bB rfl (ak (ag (a_ rfl (an (af (asb rfl (ak (ag (aE (aG (bt (v:=.bool _) rfl rfl (⟨congrArg Value.bool ?_,(((ai.rfl_.next E2).next E3).next E8)⟩))))))))))));rw [eq_comm,←Bool.not_eq_true,dF];rintro ⟨h1,h2,h3,-⟩;omega
 refine ae rfl (ab (aa ey rfl) (ae rfl (ab (au ao rfl (by exact (show _=some (Value.int .i64 m.t) from (hk3.from_ (ai.rfl_.next E8)).rd 2 rfl))) ?_)));refine ae rfl (ab (aa cu rfl) (ae rfl (ab (au ao rfl (by exact (show _=some (Value.int .i64 s.id) from (hk2.from_ (ai.rfl_.next E8)).rd 0 rfl))) ?_)));refine ae rfl (ab (de rfl rfl) (ab (ay (v:=.bool _) rfl rfl) (mvb rfl (AR (t:=24) rfl (fun Q5=>?_) (fun Q5=>?_)))))
 ·refine bB rfl (ak (ag (a_ rfl (an (af (asb rfl (ak (ag (aE (aG (bt (v:=.bool _) rfl rfl (⟨congrArg Value.bool ?_,(((ai.rfl_.next E2).next E3).next E8)⟩))))))))))));rw [eq_comm,←Bool.not_eq_true,dF];rintro ⟨h1,h2,h3,-⟩;omega
 refine ae rfl (ab (aa br rfl) (ae rfl (ab (au ao rfl (by exact (show _=some (Value.int .i64 m.f) from (hk3.from_ (ai.rfl_.next E8)).rd 1 rfl))) ?_)));refine ae rfl (ab (aa cu rfl) (ae rfl (ab (au ao rfl (by exact (show _=some (Value.int .i64 s.id) from (hk2.from_ (ai.rfl_.next E8)).rd 0 rfl))) ?_)));refine ae rfl (ab (bh rfl rfl) (ab (ay (v:=.bool _) rfl rfl) (ak (ag (Bu rfl (fun Q6=>?_) (fun Q6=>?_))))))
 ·refine an (af (asb rfl (ak (ag (aE (aG (bt (v:=.bool _) rfl rfl (⟨congrArg Value.bool ?_,(((ai.rfl_.next E2).next E3).next E8)⟩))))))));rw [eq_comm,←Bool.not_eq_true,dF];rintro ⟨h1,h2,h3,-⟩;omega
 refine aN (ag (an (an (af (ab (aa cw rfl) (ab (au ao rfl (by exact (show _=some (Value.int .i64 m.k) from (hk3.from_ (ai.rfl_.next E8)).rd 0 rfl))) ?_))))));refine ab (de rfl rfl) (mvb rfl (AR (t:=34) rfl (fun Q7=>?_) (fun Q7=>?_)))
 ·refine ae rfl (ab (aa cw rfl) (ae rfl (ab (au ao rfl (by exact (show _=some (Value.int .i64 m.k) from (hk3.from_ (ai.rfl_.next E8)).rd 0 rfl))) ?_)));refine ae rfl (ab (de rfl rfl) (ab (aL (v:=.bool _) rfl rfl) (ak (ag (Bq rfl (fun Q8=>?_) (fun Q8=>?_))))))
  ·refine an (af (asb rfl (ak (ag (aE (aG (bt (v:=.bool _) rfl rfl (⟨congrArg Value.bool ?_,(((ai.rfl_.next E2).next E3).next E8)⟩))))))));rw [eq_comm,dF];exact ⟨by omega,by omega,by omega,fun h=>by omega⟩
  refine aN (ag (an (an (af (ab (aa eN rfl) ?_)))));refine ab (au cU rfl (by exact (show _=some (Value.slice Ee m.es.length m.c) from by rw [hEe];exact (hk3.from_ (ai.rfl_.next E8)).rd 9 rfl))) ?_;refine ab (bL db rfl) (mvi rfl (ak (ag (bf (cS (G:=Nat) [4,6,43,44,45,46,47,48,49,50,51] (fun i=>[(42,.int .i64 (i:Nat))]) (fun i w'=>i≤m.es.length∧(∀ j (h:j<m.es.length),j<i→m.es[j].t≤m.tm)∧Blk w' b3 39 (bC m).toArray∧ai w w') (fun i=>m.es.length-i) (0) ⟨rfl,trivial⟩ ?_ ?_)))))
  ·exact ⟨Nat.zero_le _,fun j _ h=>absurd h (Nat.not_lt_zero _),hk3.from_ (ai.rfl_.next E8),(((ai.rfl_.next E2).next E3).next E8)⟩
  rintro i ρ9 w9 ⟨hi,hj,hk3L,hB⟩;refine an (af (ab (bZ rfl rfl) (ak (ag (an (Bu rfl (fun Q10=>?_) (fun Q10=>?_)))))))
  ·have hkX:i<m.es.length:=by omega
   obtain ⟨ba,oa,hE2,hca⟩:=yd he (by omega);obtain rfl:Ee=some ⟨ba,oa,none⟩:=hEe.trans hE2;refine aN (ag (an (bf (an (af (ab (bN fk rfl rfl (by omega)) (ab (aK (cs:=[.int .i64 m.es[i].i,.int .i64 m.es[i].t,.string m.es[i].d]) jW gB rfl (ft hB (hca i hkX))) ?_)))))));have hM6:ai _ w9:=ai.rfl_;have hlt6:=(hk3L.from_ hM6).lt;refine bU qn ?_;intro b6 w11 E6 hb6 hk6;have hg6:w.heap.size≤b6:=by rw [hb6];exact (hB).size
   have h36:b3≠b6:=by omega
   have hk3p:=hk3L.from_ (hM6.next E6);refine cq (vs:=[_,_,_]) gB rfl rfl (by simp [Value.oneCell']) (hk6) rfl ?_;intro w12 O7 P7;replace hk3p:=hk3p.only O7 h36;refine ak (ag (an (af (ab (aa nE rfl) (ab (au ao rfl (by exact (show _=some (Value.int .i64 m.es[i].t) from (P7.from_ ai.rfl_).rd 1 rfl))) ?_)))));refine ab (aa cd rfl) (ab (au ao rfl (by exact (show _=some (Value.int .i64 m.tm) from (hk3p.from_ ai.rfl_).rd 3 rfl))) ?_);refine ab (cy rfl rfl) (ak (ag (Bu rfl (fun Q13=>?_) (fun Q13=>?_))))
   ·refine an (af (asb rfl (ak (ag (aE (bG (aG (aG (bG (aG (bt (v:=.bool _) rfl rfl (⟨congrArg Value.bool ?_,((hB.next E6).only O7 (hg6))⟩))))))))))));rw [eq_comm,←Bool.not_eq_true,dF];rintro ⟨h1,h2,h3,h4⟩;have h5:=(h4 (by omega)).2 _ (List.getElem_mem hkX);omega
   refine aN (bq (ag (af (ab (b0 rfl rfl (by omega)) (mvi rfl (ak ?_))))));refine cG (i+1) ⟨(by first | rfl | (refine bo ?_;omega)),trivial⟩ (by (iterate 23 refine bE rfl ?_);exact bX) ⟨?_,?_⟩
   ·refine ⟨by omega,fun j h hj2=>?_,hk3p.from_ ai.rfl_,((hB.next E6).only O7 (hg6))⟩;rcases Nat.lt_or_ge j i with e | e
    ·exact hj j h e
    ·obtain rfl:j=i:=by omega
     omega
   ·omega
  refine cz (bk (bk (bW (ag (an (af (ab (aa fR rfl) (ab (au ao rfl (by exact (show _=some (Value.int .i64 m.lt) from (hk3L.from_ ai.rfl_).rd 5 rfl))) ?_))))))));refine ab (aa cd rfl) (ab (au ao rfl (by exact (show _=some (Value.int .i64 m.tm) from (hk3L.from_ ai.rfl_).rd 3 rfl))) ?_);refine ab (eW rfl rfl) (asb rfl (ak (ag (aE (bt (v:=.bool _) rfl rfl (⟨congrArg Value.bool ?_,hB⟩))))));obtain rfl:i=m.es.length:=by omega
  rw [eq_comm,Bool.eq_iff_iff,dF,decide_eq_true_eq]
  exact ⟨fun h=>(h.2.2.2 (by omega)).1,fun h=>⟨by omega,by omega,by omega,fun _=>⟨h,fun e hE=>by
   obtain ⟨j,hj9,rfl⟩:=List.getElem_of_mem hE;exact hj j hj9 hj9⟩⟩⟩
 refine bB rfl (ak (ag (bc rfl (aN (ag (an (an (af (ab (aa eN rfl) ?_)))))))));refine ab (au cU rfl (by exact (show _=some (Value.slice Ee m.es.length m.c) from by rw [hEe];exact (hk3.from_ (ai.rfl_.next E8)).rd 9 rfl))) ?_;refine ab (bL db rfl) (mvi rfl (ak (ag (bf (cS (G:=Nat) [4,6,43,44,45,46,47,48,49,50,51] (fun i=>[(42,.int .i64 (i:Nat))]) (fun i w'=>i≤m.es.length∧(∀ j (h:j<m.es.length),j<i→m.es[j].t≤m.tm)∧Blk w' b3 39 (bC m).toArray∧ai w w') (fun i=>m.es.length-i) (0) ⟨rfl,trivial⟩ ?_ ?_)))))
 ·exact ⟨Nat.zero_le _,fun j _ h=>absurd h (Nat.not_lt_zero _),hk3.from_ (ai.rfl_.next E8),(((ai.rfl_.next E2).next E3).next E8)⟩
 rintro i ρ14 w14 ⟨hi,hj,hk3L,hB⟩;refine an (af (ab (bZ rfl rfl) (ak (ag (an (Bu rfl (fun Q15=>?_) (fun Q15=>?_)))))))
 ·have hkX:i<m.es.length:=by omega
  obtain ⟨ba,oa,hE2,hca⟩:=yd he (by omega);obtain rfl:Ee=some ⟨ba,oa,none⟩:=hEe.trans hE2;refine aN (ag (an (bf (an (af (ab (bN fk rfl rfl (by omega)) (ab (aK (cs:=[.int .i64 m.es[i].i,.int .i64 m.es[i].t,.string m.es[i].d]) jW gB rfl (ft hB (hca i hkX))) ?_)))))));have hM6:ai _ w14:=ai.rfl_;have hlt6:=(hk3L.from_ hM6).lt;refine bU qn ?_;intro b6 w16 E6 hb6 hk6;have hg6:w.heap.size≤b6:=by rw [hb6];exact (hB).size
  have h36:b3≠b6:=by omega
  have hk3p:=hk3L.from_ (hM6.next E6);refine cq (vs:=[_,_,_]) gB rfl rfl (by simp [Value.oneCell']) (hk6) rfl ?_;intro w17 O7 P7;replace hk3p:=hk3p.only O7 h36;refine ak (ag (an (af (ab (aa nE rfl) (ab (au ao rfl (by exact (show _=some (Value.int .i64 m.es[i].t) from (P7.from_ ai.rfl_).rd 1 rfl))) ?_)))));refine ab (aa cd rfl) (ab (au ao rfl (by exact (show _=some (Value.int .i64 m.tm) from (hk3p.from_ ai.rfl_).rd 3 rfl))) ?_);refine ab (cy rfl rfl) (ak (ag (Bu rfl (fun Q18=>?_) (fun Q18=>?_))))
  ·refine an (af (asb rfl (ak (ag (aE (bG (aG (aG (bG (aG (bt (v:=.bool _) rfl rfl (⟨congrArg Value.bool ?_,((hB.next E6).only O7 (hg6))⟩))))))))))));rw [eq_comm,←Bool.not_eq_true,dF];rintro ⟨h1,h2,h3,h4⟩;have h5:=(h4 (by omega)).2 _ (List.getElem_mem hkX);omega
  refine aN (bq (ag (af (ab (b0 rfl rfl (by omega)) (mvi rfl (ak ?_))))));refine cG (i+1) ⟨(by first | rfl | (refine bo ?_;omega)),trivial⟩ (by (iterate 23 refine bE rfl ?_);exact bX) ⟨?_,?_⟩
  ·refine ⟨by omega,fun j h hj2=>?_,hk3p.from_ ai.rfl_,((hB.next E6).only O7 (hg6))⟩;rcases Nat.lt_or_ge j i with e | e
   ·exact hj j h e
   ·obtain rfl:j=i:=by omega
    omega
  ·omega
 refine cz (bk (bk (bW (ag (an (af (ab (aa fR rfl) (ab (au ao rfl (by exact (show _=some (Value.int .i64 m.lt) from (hk3L.from_ ai.rfl_).rd 5 rfl))) ?_))))))));refine ab (aa cd rfl) (ab (au ao rfl (by exact (show _=some (Value.int .i64 m.tm) from (hk3L.from_ ai.rfl_).rd 3 rfl))) ?_);refine ab (eW rfl rfl) (asb rfl (ak (ag (aE (bt (v:=.bool _) rfl rfl (⟨congrArg Value.bool ?_,hB⟩))))));obtain rfl:i=m.es.length:=by omega
 rw [eq_comm,Bool.eq_iff_iff,dF,decide_eq_true_eq]
 exact ⟨fun h=>(h.2.2.2 (by omega)).1,fun h=>⟨by omega,by omega,by omega,fun _=>⟨h,fun e hE=>by
  obtain ⟨j,hj9,rfl⟩:=List.getElem_of_mem hE;exact hj j hj9 hj9⟩⟩⟩
theorem o6 (s:Rf) (a:Ra) (m:Msg) (w:World) (he:Em w m) (hl:m.es.length≤1000000) (hck:rv m) {b:Bool} (h:decide (pE s m)=b):Rt prog 57 [.agg (rfV s a).toArray,.agg (bC m).toArray] w fun v w'=>v=.bool b∧ai w w':=by
 subst h;by_cases hok:OkM m
 ·refine (uv s a m w he hl hck hok).mono fun v w' h=>⟨h.1.trans (congrArg Value.bool ?_),h.2⟩
  rw [Bool.eq_iff_iff,decide_eq_true_eq];exact ⟨fun h=>⟨hok,h⟩,fun h=>h.2⟩
 ·exact (uw s a m w he hl hck hok).mono fun v w' h=>⟨h.1.trans (congrArg Value.bool (decide_eq_false (fun e=>hok e.1)).symm),h.2⟩
theorem tP (s:Rf) (a:Ra) (m:Msg) (w:World) (he:Em w m) (_:m.es.length≤1000000) (hk:m.k≠3∧m.k≠5) (hmr:wi m) (hok:¬ OkM m) :
 Rt prog 45 [.agg (rfV s a).toArray,.agg (bC m).toArray] w (fun v w'=>v=.bool false∧ai w w'):=by
 refine enter (n:=61) Tryz.func45 rfl rfl rfl (an (af (bQ (v:=.agg _) rfl ?_)));intro b2 w1 E2 hb2 hk2;refine bQ (v:=.agg _) rfl ?_;intro b3 w2 E3 hb3 hk3;replace hk2:=hk2.from_ E3;refine asb rfl (ak (ag (an (an (af (ab (aa cw rfl) (ab (au ao rfl (by exact (show _=some (Value.int .i64 m.k) from (hk3.from_ ai.rfl_).rd 0 rfl))) ?_)))))));refine ab (bY (bh rfl rfl) (beq_eq_false_iff_ne.2 hk.1)) (mvb rfl (ae rfl (ab (aa cw rfl) (ae rfl (ab (au ao rfl (by exact (show _=some (Value.int .i64 m.k) from (hk3.from_ ai.rfl_).rd 0 rfl))) ?_)))));refine ae rfl (ab (bY (bh rfl rfl) (beq_eq_false_iff_ne.2 hk.2)) (ab (ay (v:=.bool _) rfl rfl) (ak (ag (bc rfl (aN (ag (an (af (ab (aK (cs:=bC m) bn aZ rfl ((hk3.from_ ai.rfl_).whole)) (aC qp (hmr.is (he.from_ ((ai.rfl_.next E2).next E3)) (decide_eq_false hok)) ?_)))))))))));rintro v39 w3 ⟨rfl,E39⟩;refine mvb rfl (ar rfl rfl (ar rfl rfl (ar rfl rfl (ar rfl rfl (ar rfl rfl (ab (ay (v:=.bool _) rfl rfl) (mvb rfl (ar rfl rfl ?_))))))));refine ar rfl rfl (ar rfl rfl (ar rfl rfl (ar rfl rfl (ab (ay (v:=.bool _) rfl rfl) (mvb rfl (ar rfl rfl (ar rfl rfl (ar rfl rfl ?_))))))));refine ar rfl rfl (ar rfl rfl (ab (ay (v:=.bool _) rfl rfl) (asb rfl (ak (ag (aE (bt (v:=.bool _) rfl rfl ?_)))))))
 first
  |exact ⟨rfl,(((ai.rfl_.next E2).next E3).next E39)⟩
  |omega
theorem tO (s:Rf) (a:Ra) (m:Msg) (w:World) (he:Em w m) (_:m.es.length≤1000000) (hk:m.k≠3∧m.k≠5) (hmr:wi m) (hok:OkM m) :
 Rt prog 45 [.agg (rfV s a).toArray,.agg (bC m).toArray] w (fun v w'=>v=.bool (x7 s m)∧ai w w'):=by
 refine enter (n:=61) Tryz.func45 rfl rfl rfl (an (af (bQ (v:=.agg _) rfl ?_)));intro b2 w1 E2 hb2 hk2;refine bQ (v:=.agg _) rfl ?_;intro b3 w2 E3 hb3 hk3;replace hk2:=hk2.from_ E3;refine asb rfl (ak (ag (an (an (af (ab (aa cw rfl) (ab (au ao rfl (by exact (show _=some (Value.int .i64 m.k) from (hk3.from_ ai.rfl_).rd 0 rfl))) ?_)))))));refine ab (bY (bh rfl rfl) (beq_eq_false_iff_ne.2 hk.1)) (mvb rfl (ae rfl (ab (aa cw rfl) (ae rfl (ab (au ao rfl (by exact (show _=some (Value.int .i64 m.k) from (hk3.from_ ai.rfl_).rd 0 rfl))) ?_)))));refine ae rfl (ab (bY (bh rfl rfl) (beq_eq_false_iff_ne.2 hk.2)) (ab (ay (v:=.bool _) rfl rfl) (ak (ag (bc rfl (aN (ag (an (af (ab (aK (cs:=bC m) bn aZ rfl ((hk3.from_ ai.rfl_).whole)) (aC qp (hmr.is (he.from_ ((ai.rfl_.next E2).next E3)) (decide_eq_true hok)) ?_)))))))))));rintro v39 w3 ⟨rfl,E39⟩;refine mvb rfl (ae rfl (ab (aa ey rfl) (ae rfl (ab (au ao rfl (by exact (show _=some (Value.int .i64 m.t) from (hk3.from_ (ai.rfl_.next E39)).rd 2 rfl))) ?_))));refine ae rfl (ab (aa cu rfl) (ae rfl (ab (au ao rfl (by exact (show _=some (Value.int .i64 s.id) from (hk2.from_ (ai.rfl_.next E39)).rd 0 rfl))) ?_)));refine ae rfl (ab (bh rfl rfl) (ab (aL (v:=.bool _) rfl rfl) (mvb rfl (AT (t:=47) rfl (fun Q4=>?_) (fun Q4=>?_)))))
 ·refine ae rfl (ab (aa br rfl) (ae rfl (ab (au ao rfl (by exact (show _=some (Value.int .i64 m.f) from (hk3.from_ (ai.rfl_.next E39)).rd 1 rfl))) ?_)));refine ae rfl (ab (aa cu rfl) (ae rfl (ab (au ao rfl (by exact (show _=some (Value.int .i64 s.id) from (hk2.from_ (ai.rfl_.next E39)).rd 0 rfl))) ?_)));refine ae rfl (ab (de rfl rfl) (ab (aL (v:=.bool _) rfl rfl) (mvb rfl (aM (t:=54) rfl (fun Q5=>?_) (fun Q5=>?_)))))
  ·replace Q5:=dS Q5;replace Q5:=ei Q5;refine ae rfl (ab (aa br rfl) (ae rfl (ab (au ao rfl (by exact (show _=some (Value.int .i64 m.f) from (hk3.from_ (ai.rfl_.next E39)).rd 1 rfl))) ?_)));refine ae rfl (ab (aa cg rfl) (ae rfl (ab (au ao rfl (by exact (show _=some (Value.int .i64 s.nodes) from (hk2.from_ (ai.rfl_.next E39)).rd 1 rfl))) ?_)));refine ae rfl (ab (eW rfl rfl) (ab (aL (v:=.bool _) rfl rfl) (asb rfl (ak (ag (aE (bt (v:=.bool _) rfl rfl ?_)))))))
   first
    |omega
    |(refine ⟨congrArg Value.bool ?_,(((ai.rfl_.next E2).next E3).next E39)⟩;first | (rw [eq_comm,←Bool.not_eq_true,dF];rintro ⟨h1,h2,h3,-⟩;omega) | (rw [eq_comm,Bool.eq_iff_iff,dF,decide_eq_true_eq];exact ⟨fun h=>h.2.2.1,fun h=>⟨by omega,by omega,h,fun e=>by omega⟩⟩) | (rw [eq_comm,dF];exact ⟨by omega,by omega,by omega,fun e=>by omega⟩))
  replace Q5:=dU Q5;replace Q5:=eh Q5;refine ar rfl rfl (ar rfl rfl (ar rfl rfl (ar rfl rfl (ar rfl rfl (ab (ay (v:=.bool _) rfl rfl) (asb rfl (ak (ag (aE (bt (v:=.bool _) rfl rfl ?_))))))))))
  first
   |omega
   |(refine ⟨congrArg Value.bool ?_,(((ai.rfl_.next E2).next E3).next E39)⟩;first | (rw [eq_comm,←Bool.not_eq_true,dF];rintro ⟨h1,h2,h3,-⟩;omega) | (rw [eq_comm,Bool.eq_iff_iff,dF,decide_eq_true_eq];exact ⟨fun h=>h.2.2.1,fun h=>⟨by omega,by omega,h,fun e=>by omega⟩⟩) | (rw [eq_comm,dF];exact ⟨by omega,by omega,by omega,fun e=>by omega⟩))
 refine ar rfl rfl (ar rfl rfl (ar rfl rfl (ar rfl rfl (ar rfl rfl (ab (ay (v:=.bool _) rfl rfl) (mvb rfl (ar rfl rfl (ar rfl rfl ?_))))))));refine ar rfl rfl (ar rfl rfl (ar rfl rfl (ab (ay (v:=.bool _) rfl rfl) (asb rfl (ak (ag (aE (bt (v:=.bool _) rfl rfl ?_))))))))
 first
  |omega
  |(refine ⟨congrArg Value.bool ?_,(((ai.rfl_.next E2).next E3).next E39)⟩;first | (rw [eq_comm,←Bool.not_eq_true,dF];rintro ⟨h1,h2,h3,-⟩;omega) | (rw [eq_comm,Bool.eq_iff_iff,dF,decide_eq_true_eq];exact ⟨fun h=>h.2.2.1,fun h=>⟨by omega,by omega,h,fun e=>by omega⟩⟩) | (rw [eq_comm,dF];exact ⟨by omega,by omega,by omega,fun e=>by omega⟩))
theorem oI (s:Rf) (a:Ra) (m:Msg) (w:World) (he:Em w m) (hl:m.es.length≤1000000) (hk:m.k≠3∧m.k≠5) (hmr:wi m) {b:Bool} (h:decide (pE s m)=b):Rt prog 45 [.agg (rfV s a).toArray,.agg (bC m).toArray] w fun v w'=>v=.bool b∧ai w w':=by
 subst h;by_cases hok:OkM m
 ·refine (tO s a m w he hl hk hmr hok).mono fun v w' h=>⟨h.1.trans (congrArg Value.bool ?_),h.2⟩
  rw [Bool.eq_iff_iff,decide_eq_true_eq];exact ⟨fun h=>⟨hok,h⟩,fun h=>h.2⟩
 ·exact (tP s a m w he hl hk hmr hok).mono fun v w' h=>⟨h.1.trans (congrArg Value.bool (decide_eq_false (fun e=>hok e.1)).symm),h.2⟩
theorem ji:∀ (a0:Int) (a1:Int) (a2:Bool),prog.built 39 [(0,.int .i64 4),(8,.bool a2),(4,.int .i64 a0),(7,.int .i64 a1)]=some #[.int .i64 4,.int .i64 0,.int .i64 0,.int .i64 0,.int .i64 a0,.int .i64 0,.int .i64 0,.int .i64 a1,.bool a2,.slice none 0 0,.int .i64 0,.string ⟨#[]⟩,.bool false]:=by intros;kernel_rfl
theorem kJ:prog.built 39 [(0,.int .i64 2)]=some #[.int .i64 2,.int .i64 0,.int .i64 0,.int .i64 0,.int .i64 0,.int .i64 0,.int .i64 0,.int .i64 0,.bool false,.slice none 0 0,.int .i64 0,.string ⟨#[]⟩,.bool false]:=by kernel_rfl
theorem ny:aP prog 144=true:=by kernel_rfl
theorem sH:aP prog 100=true:=by kernel_rfl
def aT (s:Rf) (m:Msg):Rf:=if s.term<m.tm then dh s m.tm else s
theorem rH {s:Rf} {m:Msg} (h:s.term<m.tm):cW s m=cW (dh s m.tm) m:=by
 have h1:=fP s m.tm;unfold cW;simp only;rw [if_pos h,if_neg (show ¬ (dh s m.tm).term<m.tm by omega)]
theorem kv {s:Rf} {m:Msg} (h:m.tm<s.term):cW s m=fU s m:=by
 unfold cW;simp only;rw [if_neg (show ¬ s.term<m.tm by omega),if_pos h]
theorem eX.nilL {w:World} {Z:Nat→Prop} {T g oc:Nat} {tag:Nat→Nat} {s:Rf} {a:Ra} {O:Option Addr} {L:List Msg} (h:eX w Z T g tag ⟨s,[]⟩ a O oc L):L=[]:=List.map_eq_nil_iff.1 h.m.l
theorem uM (w0:World) (Z:Nat→Prop) (T g:Nat) (p:Sp) (m:Msg) (ok:Bool) (i:Int) (w:World) (h:aQ w0 Z w T g p) (hl:p.out.length≤900) :
 Rt prog 144 [.pointer (some ⟨g,0,none⟩),.agg (bC m).toArray,.bool ok,.int .i64 i] w (fun v w'=>v=.tuple #[]∧aQ w0 Z w' T g (pH p m ok i)):=by
 refine enter (n:=17) Tryz.func144 rfl rfl rfl (an (af (bQ (v:=.agg _) rfl ?_)));intro b5 w1 E5 hb5 hk5;obtain ⟨wm,hwm⟩:∃ x,x=w1:=⟨_,rfl⟩
 have h3a:=h.at_ (Z':=fun k=>Z k∨k=b5) E5 (fun k hk=>by
  rcases hk with e | e
  ·exact ⟨Nat.lt_of_lt_of_le (h.zw k e) E5.size,.inl e⟩
  ·subst e;exact ⟨hk5.lt,.inr (by omega)⟩)
 obtain ⟨Z7,hZ7⟩:∃ Z7,Z7=fun k=>Z k∨k=b5:=⟨_,rfl⟩
 have h3:aQ wm Z7 w1 T g p:=by
  rw [hZ7,hwm];exact h3a
 have hzi:∀ k,Z k→Z7 k:=fun k hk=>by rw [hZ7];exact .inl hk
 have hzb:Z7 b5:=by rw [hZ7];exact .inr rfl
 have hE3:ai w wm:=by rw [hwm];exact E5
 have hm9:Blk wm b5 39 (bC m).toArray:=by rw [hwm];exact hk5
 have hm3:=h3.kept hzb hm9;refine ak (ag (af (mvp rfl (ab (aa br rfl) (ab (au ao rfl (by exact (show _=some (Value.int .i64 m.f) from (hm3.from_ ai.rfl_).rd 1 rfl))) ?_)))));refine mvb rfl (mvi rfl (ab (aa dA rfl) (ab (au ao rfl (by exact (show _=some (Value.int .i64 m.rd) from (hm3.from_ ai.rfl_).rd 7 rfl))) ?_)));refine ab (c6 (l:=[(0,.const (.int .i64 4)),(8,.tmp 11),(4,.tmp 12),(7,.tmp 14)]) (ji _ _ _)) (dX (t:=15) (v:=.agg _) (v':=.agg (bC ({ zM with k:=4,ok:=ok,ix:=i,rd:=m.rd }:Msg)).toArray) rfl (by rfl) ?_);have h4:=h3.from_ ai.rfl_;obtain ⟨tgA,aA,OA,ocA,LA,hsA⟩:=h4.ex;have hlA:=hsA.m.len;refine aC iA (oz wm Z7 T g p _ h4 _ _ _ _ _ hsA (by omega) { zM with k:=4,ok:=ok,ix:=i,rd:=m.rd } m.f ⟨dQ,Col.none⟩) ?_;rintro v16 w2 ⟨rfl,h6⟩;refine ak (cB (dN rfl (⟨rfl,h.back hE3 (h6.from_ ai.rfl_) hzi⟩)))
theorem vK (w0:World) (Z:Nat→Prop) (T g:Nat) (s:Rf) (m:Msg) (w:World) (h:aQ w0 Z w T g ⟨s,[]⟩) :
 Rt prog 100 [.pointer (some ⟨g,0,none⟩),.agg (bC m).toArray] w (fun v w'=>v=.tuple #[]∧aQ w0 Z w' T g (fU s m)):=by
 refine enter (n:=19) Tryz.func100 rfl rfl rfl (an (af (bQ (v:=.agg _) rfl ?_)));intro b3 w1 E3 hb3 hk3;obtain ⟨wm,hwm⟩:∃ x,x=w1:=⟨_,rfl⟩
 have h3a:=h.at_ (Z':=fun k=>Z k∨k=b3) E3 (fun k hk=>by
  rcases hk with e | e
  ·exact ⟨Nat.lt_of_lt_of_le (h.zw k e) E3.size,.inl e⟩
  ·subst e;exact ⟨hk3.lt,.inr (by omega)⟩)
 obtain ⟨Z7,hZ7⟩:∃ Z7,Z7=fun k=>Z k∨k=b3:=⟨_,rfl⟩
 have h3:aQ wm Z7 w1 T g ⟨s,[]⟩:=by
  rw [hZ7,hwm];exact h3a
 have hzi:∀ k,Z k→Z7 k:=fun k hk=>by rw [hZ7];exact .inl hk
 have hzb:Z7 b3:=by rw [hZ7];exact .inr rfl
 have hE3:ai w wm:=by rw [hwm];exact E3
 have hm9:Blk wm b3 39 (bC m).toArray:=by rw [hwm];exact hk3
 have hm3:=h3.kept hzb hm9;refine ak (ag (an (af (ab (aa cw rfl) (ab (au ao rfl (by exact (show _=some (Value.int .i64 m.k) from (hm3.from_ ai.rfl_).rd 0 rfl))) ?_)))));refine ak (ag (bf (an (af (ab (bh rfl rfl) (asb rfl (ak (ag (Bt rfl (fun Q2=>?_) (fun Q2=>?_))))))))))
 ·refine af (mvp rfl (ab (aa br rfl) (ab (au ao rfl (by exact (show _=some (Value.int .i64 m.f) from (hm3.from_ ai.rfl_).rd 1 rfl))) ?_)));refine ab (c6 (l:=[(0,.const (.int .i64 2))]) (kJ)) (dX (t:=11) (v:=.agg _) (v':=.agg (bC ({ zM with k:=2 }:Msg)).toArray) rfl (by rfl) ?_);have h4:=h3.from_ ai.rfl_;obtain ⟨tgA,aA,OA,ocA,LA,hsA⟩:=h4.ex;obtain rfl:=hsA.nilL;refine aC iA (oz wm Z7 T g ⟨s,[]⟩ _ h4 _ _ _ _ _ hsA (Nat.zero_le _) { zM with k:=2 } m.f ⟨dQ,Col.none⟩) ?_;rintro v12 w3 ⟨rfl,h6⟩;refine ak (bq (cB (dN rfl ?_)));unfold fU
  first
   |(rw [if_pos (show m.k=1 by omega)];exact ⟨rfl,h.back hE3 (h6.from_ ai.rfl_) hzi⟩)
   |(rw [if_neg (show ¬ m.k=1 by omega),if_pos (show m.k=3∨m.k=5 by omega)];exact ⟨rfl,h.back hE3 (h6.from_ ai.rfl_) hzi⟩)
   |(rw [if_neg (show ¬ m.k=1 by omega),if_neg (show ¬ (m.k=3∨m.k=5) by omega)];exact ⟨rfl,h.from_ (E3.next ai.rfl_)⟩)
 refine an (an (af (ab (bh rfl rfl) (asb rfl (ak (ag (Bt rfl (fun Q4=>?_) (fun Q4=>?_))))))))
 ·refine aN (ag (Bt rfl (fun Q5=>?_) (fun Q5=>?_)));rotate_left
  ·exfalso;omega
  refine af (mvp rfl (ab (aK (cs:=bC m) bn aZ rfl ((hm3.from_ ai.rfl_).whole)) (aC ny (uM wm Z7 T g ⟨s,[]⟩ m false 0 _ (h3.from_ ai.rfl_) (Nat.zero_le _)) ?_)));rintro v18 w6 ⟨rfl,h6⟩;refine ak (bq (cB (dN rfl ?_)));unfold fU
  first
   |(rw [if_pos (show m.k=1 by omega)];exact ⟨rfl,h.back hE3 (h6.from_ ai.rfl_) hzi⟩)
   |(rw [if_neg (show ¬ m.k=1 by omega),if_pos (show m.k=3∨m.k=5 by omega)];exact ⟨rfl,h.back hE3 (h6.from_ ai.rfl_) hzi⟩)
   |(rw [if_neg (show ¬ m.k=1 by omega),if_neg (show ¬ (m.k=3∨m.k=5) by omega)];exact ⟨rfl,h.from_ (E3.next ai.rfl_)⟩)
 refine af (ab (bh rfl rfl) (asb rfl (ak (ag (Bt rfl (fun Q7=>?_) (fun Q7=>?_))))))
 ·refine af (mvp rfl (ab (aK (cs:=bC m) bn aZ rfl ((hm3.from_ ai.rfl_).whole)) (aC ny (uM wm Z7 T g ⟨s,[]⟩ m false 0 _ (h3.from_ ai.rfl_) (Nat.zero_le _)) ?_)));rintro v18 w8 ⟨rfl,h6⟩;refine ak (bq (cB (dN rfl ?_)));unfold fU
  first
   |(rw [if_pos (show m.k=1 by omega)];exact ⟨rfl,h.back hE3 (h6.from_ ai.rfl_) hzi⟩)
   |(rw [if_neg (show ¬ m.k=1 by omega),if_pos (show m.k=3∨m.k=5 by omega)];exact ⟨rfl,h.back hE3 (h6.from_ ai.rfl_) hzi⟩)
   |(rw [if_neg (show ¬ m.k=1 by omega),if_neg (show ¬ (m.k=3∨m.k=5) by omega)];exact ⟨rfl,h.from_ (E3.next ai.rfl_)⟩)
 refine aN (bq (cB (dN rfl ?_)));unfold fU
 first
  |(rw [if_pos (show m.k=1 by omega)];exact ⟨rfl,h.back hE3 (h6.from_ ai.rfl_) hzi⟩)
  |(rw [if_neg (show ¬ m.k=1 by omega),if_pos (show m.k=3∨m.k=5 by omega)];exact ⟨rfl,h.back hE3 (h6.from_ ai.rfl_) hzi⟩)
  |(rw [if_neg (show ¬ m.k=1 by omega),if_neg (show ¬ (m.k=3∨m.k=5) by omega)];exact ⟨rfl,h.from_ (E3.next ai.rfl_)⟩)
theorem Ae (w0:World) (Z:Nat→Prop) (T g:Nat) (s:Rf) (m:Msg) (w:World) (h:aQ w0 Z w T g ⟨s,[]⟩) (hgt:m.tm<s.term) :
 Rt prog 58 [.pointer (some ⟨g,0,none⟩),.agg (bC m).toArray] w (fun v w'=>v=.tuple #[]∧aQ w0 Z w' T g (cW s m)):=by
 refine enter (n:=55) Tryz.func58 rfl rfl rfl (an (af (bQ (v:=.agg _) rfl ?_)));intro b3 w1 E3 hb3 hk3;obtain ⟨wm,hwm⟩:∃ x,x=w1:=⟨_,rfl⟩
 have h3a:=h.at_ (Z':=fun k=>Z k∨k=b3) E3 (fun k hk=>by
  rcases hk with e | e
  ·exact ⟨Nat.lt_of_lt_of_le (h.zw k e) E3.size,.inl e⟩
  ·subst e;exact ⟨hk3.lt,.inr (by omega)⟩)
 obtain ⟨Z7,hZ7⟩:∃ Z7,Z7=fun k=>Z k∨k=b3:=⟨_,rfl⟩
 have h3:aQ wm Z7 w1 T g ⟨s,[]⟩:=by
  rw [hZ7,hwm];exact h3a
 have hzi:∀ k,Z k→Z7 k:=fun k hk=>by rw [hZ7];exact .inl hk
 have hzb:Z7 b3:=by rw [hZ7];exact .inr rfl
 have hE3:ai w wm:=by rw [hwm];exact E3
 have hm9:Blk wm b3 39 (bC m).toArray:=by rw [hwm];exact hk3
 have hm3:=h3.kept hzb hm9;refine ak (ag (an (an ?_)))
 skip
 apply bD 9 [(4,eqp _),(5,eqp (.int .i64 m.tm)),(6,eqp _),(7,eqp _),(8,eqp _),(9,eqp _),(10,eqp _),(11,eqp (.int .i64 s.term)),(12,eqp _)] (by repeat first | exact cl | refine ck ?_ | refine bM ?_) (by kernel_rfl) (by kernel_rfl) ⟨ah _,ah _,ah _,ah _,ah _,ah _,ah _,ah _,ah _,trivial⟩
 case hop=>
  constructor
  ·rintro-w3 D3;exact aq (aa cd rfl) rfl
  constructor
  ·rintro-w4 D4;rintro _ rfl;exact aq (au ao rfl (by exact (show _=some (Value.int .i64 m.tm) from (hm3.from_ (ai.rfl_.next D4)).rd 3 rfl))) rfl
  constructor
  ·rintro-w5 D5;exact aq (aB (v:=.pointer _) rfl) rfl
  constructor
  ·rintro-w6 D6;rintro _ rfl;exact aq (av rfl) rfl
  constructor
  ·rintro-w7 D7;rintro _ rfl;exact aq (aa aF rfl) rfl
  constructor
  ·rintro-w8 D8;rintro _ rfl;exact aq (aa az rfl) rfl
  constructor
  ·rintro-w9 D9;rintro _ rfl;exact aq (aa bJ rfl) rfl
  constructor
  ·rintro-w10 D10;rintro _ rfl;exact aq (au ao rfl (by exact (show _=some (Value.int .i64 s.term) from (h3.from_ (ai.rfl_.next D10)).rd (fun _=>rfl)))) rfl
  constructor
  ·rintro-w11 D11;rintro v11_5 rfl v11_11 rfl;exact aq (bY (cy rfl rfl) (decide_eq_false (by omega))) rfl
  exact trivial
 case hend=>
  intro w12 D12;rintro _ rfl v5 rfl _ rfl _ rfl _ rfl _ rfl _ rfl v11 rfl _ rfl;show St ..;refine ak (ag (bc rfl (aN (ag (an (an ?_))))))
  skip
  apply bD 9 [(19,eqp _),(20,eqp (.int .i64 m.tm)),(21,eqp _),(22,eqp _),(23,eqp _),(24,eqp _),(25,eqp _),(26,eqp (.int .i64 s.term)),(27,eqp _)] (by repeat first | exact cl | refine ck ?_ | refine bM ?_) (by kernel_rfl) (by kernel_rfl) ⟨ah _,ah _,ah _,ah _,ah _,ah _,ah _,ah _,ah _,trivial⟩
  case hop=>
   constructor
   ·rintro-w14 D14;exact aq (aa cd rfl) rfl
   constructor
   ·rintro-w15 D15;rintro _ rfl;exact aq (au ao rfl (by exact (show _=some (Value.int .i64 m.tm) from ((h3.kept hzb hm9).from_ ((ai.rfl_.next D12).next D15)).rd 3 rfl))) rfl
   constructor
   ·rintro-w16 D16;exact aq (aB (v:=.pointer _) rfl) rfl
   constructor
   ·rintro-w17 D17;rintro _ rfl;exact aq (av rfl) rfl
   constructor
   ·rintro-w18 D18;rintro _ rfl;exact aq (aa aF rfl) rfl
   constructor
   ·rintro-w19 D19;rintro _ rfl;exact aq (aa az rfl) rfl
   constructor
   ·rintro-w20 D20;rintro _ rfl;exact aq (aa bJ rfl) rfl
   constructor
   ·rintro-w21 D21;rintro _ rfl;exact aq (au ao rfl (by exact (show _=some (Value.int .i64 s.term) from (h3.from_ ((ai.rfl_.next D12).next D21)).rd (fun _=>rfl)))) rfl
   constructor
   ·rintro-w22 D22;rintro v22_20 rfl v22_26 rfl;exact aq (dd (bZ rfl rfl) (decide_eq_true hgt)) rfl
   exact trivial
  case hend=>
   intro w23 D23;rintro _ rfl v20 rfl _ rfl _ rfl _ rfl _ rfl _ rfl v26 rfl _ rfl;show St ..;refine ak (ag (a_ rfl (an (af (mvp rfl (ab (aK (cs:=bC m) bn aZ rfl (((h3.kept hzb hm9).from_ ((ai.rfl_.next D12).next D23)).whole)) (aC sH (vK wm Z7 T g s m _ (h3.from_ ((ai.rfl_.next D12).next D23))) ?_)))))));rintro v30 w24 ⟨rfl,h6⟩;refine ak (ag (aE (aG (dN rfl ?_))));rw [kv hgt];exact ⟨rfl,h.back hE3 (h6.from_ ai.rfl_) hzi⟩
theorem jU:∀ (a0:Int),prog.built 39 [(0,.int .i64 2),(2,.int .i64 a0)]=some #[.int .i64 2,.int .i64 0,.int .i64 a0,.int .i64 0,.int .i64 0,.int .i64 0,.int .i64 0,.int .i64 0,.bool false,.slice none 0 0,.int .i64 0,.string ⟨#[]⟩,.bool false]:=by intros;kernel_rfl
theorem gh:∀ (a0:Int) (a1:Int),prog.built 39 [(0,.int .i64 4),(2,.int .i64 a0),(7,.int .i64 a1)]=some #[.int .i64 4,.int .i64 0,.int .i64 a0,.int .i64 0,.int .i64 0,.int .i64 0,.int .i64 0,.int .i64 a1,.bool false,.slice none 0 0,.int .i64 0,.string ⟨#[]⟩,.bool false]:=by intros;kernel_rfl
theorem yS (w0:World) (Z:Nat→Prop) (T g:Nat) (s:Rf) (m:Msg) (w:World) (h:aQ w0 Z w T g ⟨s,[]⟩) (hgt:m.tm<s.term) :
 Rt prog 89 [.pointer (some ⟨g,0,none⟩),.agg (bC m).toArray] w (fun v w'=>v=.tuple #[]∧aQ w0 Z w' T g (cW s m)):=by
 refine enter (n:=169) Tryz.func89 rfl rfl rfl (an (af (bQ (v:=.agg _) rfl ?_)));intro b3 w1 E3 hb3 hk3;obtain ⟨wm,hwm⟩:∃ x,x=w1:=⟨_,rfl⟩
 have h3a:=h.at_ (Z':=fun k=>Z k∨k=b3) E3 (fun k hk=>by
  rcases hk with e | e
  ·exact ⟨Nat.lt_of_lt_of_le (h.zw k e) E3.size,.inl e⟩
  ·subst e;exact ⟨hk3.lt,.inr (by omega)⟩)
 obtain ⟨Z7,hZ7⟩:∃ Z7,Z7=fun k=>Z k∨k=b3:=⟨_,rfl⟩
 have h3:aQ wm Z7 w1 T g ⟨s,[]⟩:=by
  rw [hZ7,hwm];exact h3a
 have hzi:∀ k,Z k→Z7 k:=fun k hk=>by rw [hZ7];exact .inl hk
 have hzb:Z7 b3:=by rw [hZ7];exact .inr rfl
 have hE3:ai w wm:=by rw [hwm];exact E3
 have hm9:Blk wm b3 39 (bC m).toArray:=by rw [hwm];exact hk3
 have hm3:=h3.kept hzb hm9;refine ak (ag (an (an ?_)))
 skip
 apply bD 8 [(5,eqp _),(6,eqp (.int .i64 m.tm)),(7,eqp _),(8,eqp _),(9,eqp _),(10,eqp _),(11,eqp (.int .i64 s.term)),(12,eqp _)] (by repeat first | exact cl | refine ck ?_ | refine bM ?_) (by kernel_rfl) (by kernel_rfl) ⟨ah _,ah _,ah _,ah _,ah _,ah _,ah _,ah _,trivial⟩
 case hop=>
  constructor
  ·rintro-w3 D3;exact aq (aa cd rfl) rfl
  constructor
  ·rintro-w4 D4;rintro _ rfl;exact aq (au ao rfl (by exact (show _=some (Value.int .i64 m.tm) from (hm3.from_ (ai.rfl_.next D4)).rd 3 rfl))) rfl
  constructor
  ·rintro-w5 D5;exact aq (aB (v:=.pointer _) rfl) rfl
  constructor
  ·rintro-w6 D6;rintro _ rfl;exact aq (av rfl) rfl
  constructor
  ·rintro-w7 D7;rintro _ rfl;exact aq (aa aO rfl) rfl
  constructor
  ·rintro-w8 D8;rintro _ rfl;exact aq (aa bJ rfl) rfl
  constructor
  ·rintro-w9 D9;rintro _ rfl;exact aq (au ao rfl (by exact (show _=some (Value.int .i64 s.term) from (h3.from_ (ai.rfl_.next D9)).rd (fun _=>rfl)))) rfl
  constructor
  ·rintro-w10 D10;rintro v10_6 rfl v10_11 rfl;exact aq (bY (cy rfl rfl) (decide_eq_false (by omega))) rfl
  exact trivial
 case hend=>
  intro w11 D11;rintro _ rfl v6 rfl _ rfl _ rfl _ rfl _ rfl v11 rfl _ rfl;show St ..;refine ak (ag (bc rfl (aN (ag (an (an ?_))))))
  skip
  apply bD 8 [(17,eqp _),(18,eqp (.int .i64 m.tm)),(19,eqp _),(20,eqp _),(21,eqp _),(22,eqp _),(23,eqp (.int .i64 s.term)),(24,eqp _)] (by repeat first | exact cl | refine ck ?_ | refine bM ?_) (by kernel_rfl) (by kernel_rfl) ⟨ah _,ah _,ah _,ah _,ah _,ah _,ah _,ah _,trivial⟩
  case hop=>
   constructor
   ·rintro-w13 D13;exact aq (aa cd rfl) rfl
   constructor
   ·rintro-w14 D14;rintro _ rfl;exact aq (au ao rfl (by exact (show _=some (Value.int .i64 m.tm) from ((h3.kept hzb hm9).from_ ((ai.rfl_.next D11).next D14)).rd 3 rfl))) rfl
   constructor
   ·rintro-w15 D15;exact aq (aB (v:=.pointer _) rfl) rfl
   constructor
   ·rintro-w16 D16;rintro _ rfl;exact aq (av rfl) rfl
   constructor
   ·rintro-w17 D17;rintro _ rfl;exact aq (aa aO rfl) rfl
   constructor
   ·rintro-w18 D18;rintro _ rfl;exact aq (aa bJ rfl) rfl
   constructor
   ·rintro-w19 D19;rintro _ rfl;exact aq (au ao rfl (by exact (show _=some (Value.int .i64 s.term) from (h3.from_ ((ai.rfl_.next D11).next D19)).rd (fun _=>rfl)))) rfl
   constructor
   ·rintro-w20 D20;rintro v20_18 rfl v20_23 rfl;exact aq (dd (bZ rfl rfl) (decide_eq_true hgt)) rfl
   exact trivial
  case hend=>
   intro w21 D21;rintro _ rfl v18 rfl _ rfl _ rfl _ rfl _ rfl v23 rfl _ rfl;show St ..;refine ak (ag (a_ rfl (an (an (af (ab (aa cw rfl) (ab (au ao rfl (by exact (show _=some (Value.int .i64 m.k) from ((h3.kept hzb hm9).from_ ((ai.rfl_.next D11).next D21)).rd 0 rfl))) ?_)))))));refine ak (ag (bf (an (af (ab (bh rfl rfl) (asb rfl (ak (ag (Bt rfl (fun Q22=>?_) (fun Q22=>?_))))))))))
   ·refine af (mvp rfl (ab (aa br rfl) (ab (au ao rfl (by exact (show _=some (Value.int .i64 m.f) from ((h3.kept hzb hm9).from_ ((ai.rfl_.next D11).next D21)).rd 1 rfl))) ?_)));refine ab (c6 (l:=[(0,.const (.int .i64 2)),(2,.tmp 31)]) (jU _)) (dX (t:=32) (v:=.agg _) (v':=.agg (bC ({ zM with k:=2,t:=m.f }:Msg)).toArray) rfl (by rfl) ?_);have h7:=h3.from_ ((ai.rfl_.next D11).next D21);obtain ⟨tgA,aA,OA,ocA,LA,hsA⟩:=h7.ex;obtain rfl:=hsA.nilL;refine aC jm (ku wm Z7 T g ⟨s,[]⟩ _ h7 _ _ _ _ _ hsA (Nat.zero_le _) ({ zM with k:=2,t:=m.f }:Msg) ⟨dQ,Col.none⟩) ?_;rintro v33 w23 ⟨rfl,h6⟩;refine ak (bq (ag (aE (aG (dN rfl ?_)))));rw [kv hgt];unfold fU
    first
     |(rw [if_pos (show m.k=1 by omega)];exact ⟨rfl,h.back hE3 (h6.from_ ai.rfl_) hzi⟩)
     |(rw [if_neg (show ¬ m.k=1 by omega),if_pos (show m.k=3∨m.k=5 by omega)];exact ⟨rfl,h.back hE3 (h6.from_ ai.rfl_) hzi⟩)
     |(rw [if_neg (show ¬ m.k=1 by omega),if_neg (show ¬ (m.k=3∨m.k=5) by omega)];exact ⟨rfl,h.back hE3 (h3.from_ ai.rfl_) hzi⟩)
   refine an (an (af (ab (bh rfl rfl) (asb rfl (ak (ag (Bt rfl (fun Q24=>?_) (fun Q24=>?_))))))))
   ·refine aN (ag (Bt rfl (fun Q25=>?_) (fun Q25=>?_)));rotate_left
    ·exfalso;omega
    refine af (mvp rfl (ab (aa br rfl) (ab (au ao rfl (by exact (show _=some (Value.int .i64 m.f) from ((h3.kept hzb hm9).from_ ((ai.rfl_.next D11).next D21)).rd 1 rfl))) ?_)));refine ab (aa dA rfl) (ab (au ao rfl (by exact (show _=some (Value.int .i64 m.rd) from ((h3.kept hzb hm9).from_ ((ai.rfl_.next D11).next D21)).rd 7 rfl))) ?_);refine ab (c6 (l:=[(0,.const (.int .i64 4)),(2,.tmp 39),(7,.tmp 41)]) (gh _ _)) (dX (t:=42) (v:=.agg _) (v':=.agg (bC ({ zM with k:=4,t:=m.f,rd:=m.rd }:Msg)).toArray) rfl (by rfl) ?_);have h7:=h3.from_ ((ai.rfl_.next D11).next D21);obtain ⟨tgA,aA,OA,ocA,LA,hsA⟩:=h7.ex;obtain rfl:=hsA.nilL;refine aC jm (ku wm Z7 T g ⟨s,[]⟩ _ h7 _ _ _ _ _ hsA (Nat.zero_le _) ({ zM with k:=4,t:=m.f,rd:=m.rd }:Msg) ⟨dQ,Col.none⟩) ?_;rintro v43 w26 ⟨rfl,h6⟩;refine ak (bq (ag (aE (aG (dN rfl ?_)))));rw [kv hgt];unfold fU
    first
     |(rw [if_pos (show m.k=1 by omega)];exact ⟨rfl,h.back hE3 (h6.from_ ai.rfl_) hzi⟩)
     |(rw [if_neg (show ¬ m.k=1 by omega),if_pos (show m.k=3∨m.k=5 by omega)];exact ⟨rfl,h.back hE3 (h6.from_ ai.rfl_) hzi⟩)
     |(rw [if_neg (show ¬ m.k=1 by omega),if_neg (show ¬ (m.k=3∨m.k=5) by omega)];exact ⟨rfl,h.back hE3 (h3.from_ ai.rfl_) hzi⟩)
   refine af (ab (bh rfl rfl) (asb rfl (ak (ag (Bt rfl (fun Q27=>?_) (fun Q27=>?_))))))
   ·refine af (mvp rfl (ab (aa br rfl) (ab (au ao rfl (by exact (show _=some (Value.int .i64 m.f) from ((h3.kept hzb hm9).from_ ((ai.rfl_.next D11).next D21)).rd 1 rfl))) ?_)));refine ab (aa dA rfl) (ab (au ao rfl (by exact (show _=some (Value.int .i64 m.rd) from ((h3.kept hzb hm9).from_ ((ai.rfl_.next D11).next D21)).rd 7 rfl))) ?_);refine ab (c6 (l:=[(0,.const (.int .i64 4)),(2,.tmp 39),(7,.tmp 41)]) (gh _ _)) (dX (t:=42) (v:=.agg _) (v':=.agg (bC ({ zM with k:=4,t:=m.f,rd:=m.rd }:Msg)).toArray) rfl (by rfl) ?_);have h7:=h3.from_ ((ai.rfl_.next D11).next D21);obtain ⟨tgA,aA,OA,ocA,LA,hsA⟩:=h7.ex;obtain rfl:=hsA.nilL;refine aC jm (ku wm Z7 T g ⟨s,[]⟩ _ h7 _ _ _ _ _ hsA (Nat.zero_le _) ({ zM with k:=4,t:=m.f,rd:=m.rd }:Msg) ⟨dQ,Col.none⟩) ?_;rintro v43 w28 ⟨rfl,h6⟩;refine ak (bq (ag (aE (aG (dN rfl ?_)))));rw [kv hgt];unfold fU
    first
     |(rw [if_pos (show m.k=1 by omega)];exact ⟨rfl,h.back hE3 (h6.from_ ai.rfl_) hzi⟩)
     |(rw [if_neg (show ¬ m.k=1 by omega),if_pos (show m.k=3∨m.k=5 by omega)];exact ⟨rfl,h.back hE3 (h6.from_ ai.rfl_) hzi⟩)
     |(rw [if_neg (show ¬ m.k=1 by omega),if_neg (show ¬ (m.k=3∨m.k=5) by omega)];exact ⟨rfl,h.back hE3 (h3.from_ ai.rfl_) hzi⟩)
   refine aN (bq (ag (aE (aG (dN rfl ?_)))));rw [kv hgt];unfold fU
   first
    |(rw [if_pos (show m.k=1 by omega)];exact ⟨rfl,h.back hE3 (h6.from_ ((ai.rfl_.next D11).next D21)) hzi⟩)
    |(rw [if_neg (show ¬ m.k=1 by omega),if_pos (show m.k=3∨m.k=5 by omega)];exact ⟨rfl,h.back hE3 (h6.from_ ((ai.rfl_.next D11).next D21)) hzi⟩)
    |(rw [if_neg (show ¬ m.k=1 by omega),if_neg (show ¬ (m.k=3∨m.k=5) by omega)];exact ⟨rfl,h.back hE3 (h3.from_ ((ai.rfl_.next D11).next D21)) hzi⟩)
theorem sA:aP prog 182=true:=by kernel_rfl
theorem sC:aP prog 174=true:=by kernel_rfl
theorem sB:aP prog 175=true:=by kernel_rfl
theorem sE:aP prog 163=true:=by kernel_rfl
theorem sD:aP prog 164=true:=by kernel_rfl
theorem AA (base:Nat) (A:Option Addr) (c n i m b vo vc:Nat) (xs vs:List Value) (tv:TypeId) (csv:Array Value) (w:World) (ho:w.ownsRow base 3 1 (.slice A n c) n xs) (hbs:base≤w.heap.size) (hi:i≤n) (hm:0<m) (hvl:vs.length=m*1) (hvr:w.rangeAt b vo vs) (hvb:Blk w b tv csv) (hne:∀ k,A.map (·.block)=some k→k≠b) (h1:∀ u∈xs,u.oneCell'=true) (h1v:∀ u∈vs,u.oneCell'=true) (hl:n+m≤100000000000) :
 Rt prog 164 [.slice A n c,.int .i64 (i:Nat),.slice (some ⟨b,vo,none⟩) m vc] w (fun v w'=>(∃ A' c',v=.slice A' (n+m) c'∧w'.ownsRow base 3 1 (.slice A' (n+m) c') (n+m) (xs.take (i*1)++vs++xs.drop (i*1))∧∀ q,A'.map (·.block)=some q→A.map (·.block)=some q∨w.heap.size≤q)∧w.grownBy w' (A.map (·.block))):=by
 have hxl:xs.length=n*1:=ho.1;have hdl:(xs.drop (i*1)).length=(n-i)*1:=by rw [List.length_drop,hxl];omega
 have hcap:=y3 ho;refine enter (n:=95) Tryz.func164 rfl rfl rfl (an (af (ass rfl (ak (ag (an (af (mvs rfl (mvi rfl (ab (ep (l:=i) (h:=n) aV rfl (.inr ⟨_,_,_,rfl,rfl,rfl⟩) (.inl ⟨rfl,rfl⟩) (by omega) (by omega)) (ak (ag (an (af (mvs rfl ?_)))))))))))))));refine ab (bL bP rfl) (asi rfl (ak (ag (an (an (af (mvi rfl (ab (bh rfl rfl) (ak (ag (Bt rfl (fun Q1=>?_) (fun Q1=>?_))))))))))))
 ·exfalso;omega
 refine aN (ag (an (af (mvs rfl (ab (bL bP rfl) (asi rfl (ak (ag (an (an (af (mvi rfl (mvi rfl (ab (bh rfl rfl) (ak (ag ?_))))))))))))))));refine Bt rfl (fun Q2=>?_) (fun Q2=>?_)
 ·obtain rfl:i=n:=by omega
  refine an (af (mvs rfl (mvs rfl ?_)));have hs25:=Nat.le_refl (w).heap.size;refine jX bS rfl (by decide) rfl ho hbs rfl hvl ⟨b,vo,rfl,hvr⟩ h1v (by omega) (by omega) ?_;intro A25 c25 w3 ho25 hg25 hL25;refine ass rfl (ak (ag (aE (aG (bt (v:=.slice _ _ _) rfl rfl ?_)))));exact ⟨⟨A25,c25,rfl,by rw [List.take_of_length_le (by omega),List.drop_of_length_le (by omega),List.append_nil];exact ho25,fun q hq=>hL25.elim (fun e=>.inl (e ▸ hq)) (fun e=>.inr (by rw [e] at hq;cases hq;exact hs25))⟩,hg25⟩
 obtain ⟨g,cur,rfl,hg,hbk,hnc,hcm,hcl,hct⟩:=mh ho (by omega);have hgb:g≠b:=hne g rfl;have hbz:w.grownBy w (some g):=World.grownBy.refl _ _;refine aN (ag (an (an (af (mvi rfl (mvi rfl (ab (cF rfl rfl (by omega)) (mvs rfl (ab (Al bP rfl) (ab (cy rfl rfl) (ak (ag (Bu rfl (fun Q4=>?_) (fun Q4=>?_))))))))))))))
 ·refine an (af (mvs rfl (mvi rfl (ab (eI (v':=.slice (some ⟨g,0,none⟩) i c) (ep (l:=0) (h:=i) aV rfl (.inl ⟨rfl,rfl⟩) (.inr ⟨_,_,_,rfl,rfl,rfl⟩) (by omega) (by omega)) (by rw [jx,Nat.sub_zero,Nat.sub_zero])) ?_))));refine mvi rfl (mvi rfl (ab (cF rfl rfl (by omega)) (mvi rfl (ab (uS rfl rfl (by omega)) (tC (kn:=.i64) (olds:=xs.take (i*1)) bS (by kernel_rfl) rfl (by decide) rfl rfl (by rw [List.length_take,hxl];omega) (fun _=>⟨g,0,rfl,wZ hbk hct⟩) (by omega) (by omega) (by unfold maxLen;omega) (by omega) (by omega) ?_)))));intro g2 c2 w5 cur2 hg2 E40 hb2 hc2 hc2m hcl2 hct2;obtain hc2:n+m≤c2:=by omega
  replace hbz:=dk hbz (ai.grown E40 _);replace hbk:=hbk.from_ E40;have hgg:g≠g2:=by have:=ho.lt g rfl;omega
  have hvr2:=ft E40 hvr;have hbg2:b≠g2:=by have:=hvb.lt;omega
  refine ass rfl (ak (ag (an (af (mvs rfl (mvi rfl (ab (ep (l:=i) (h:=i+(n+m-i)) aV rfl (.inr ⟨_,_,_,rfl,rfl,rfl⟩) (.inl ⟨rfl,rfl⟩) (by omega) (by omega)) (mvs rfl (lQ (news:=vs) (g:=g2) (o:=i*1) aV rfl rfl (by rw [hvl];congr 1;omega) (fun h=>by rw [fO (by omega),Nat.zero_add]) (fun h=>⟨b,vo,rfl,hvr2⟩) hb2 (by rw [hvl,hcl2];omega) h1v ?_)))))))));intro w6 O45 P45;replace hbz:=qa hbz O45 (by have:=hbk.lt;have:=ho.lt g rfl;omega);replace hbk:=hbk.only O45 hgg;refine ak (ag (an ?_));apply bD 8 [(46,eqp _),(47,eqp _),(48,eqp _),(49,eqp _),(50,eqp _),(51,eqp _),(52,eqp _),(53,eqp _)] (by repeat first | exact cl | refine ck ?_ | refine bM ?_) (by kernel_rfl) (by kernel_rfl) ⟨ah _,ah _,ah _,ah _,ah _,ah _,ah _,ah _,trivial⟩
  case hop=>
   constructor
   ·rintro-w8 D8;exact aq (aB (v:=.slice _ _ _) rfl) rfl
   constructor
   ·rintro-w9 D9;exact aq (aB (v:=.int _ _) rfl) rfl
   constructor
   ·rintro-w10 D10;exact aq (aB (v:=.int _ _) rfl) rfl
   constructor
   ·rintro-w11 D11;rintro _ rfl _ rfl;exact aq (cF rfl rfl (by omega)) rfl
   constructor
   ·rintro-w12 D12;rintro _ rfl _ rfl;exact aq (ep (l:=i+m) (h:=i+(n+m-i)) aV rfl (.inr ⟨_,_,_,rfl,rfl,rfl⟩) (.inl ⟨rfl,rfl⟩) (by omega) (by omega)) rfl
   constructor
   ·rintro-w13 D13;exact aq (aB (v:=.slice _ _ _) rfl) rfl
   constructor
   ·rintro-w14 D14;exact aq (aB (v:=.int _ _) rfl) rfl
   constructor
   ·rintro-w15 D15;rintro _ rfl _ rfl;exact aq (ep (l:=i) (h:=n) aV rfl (.inr ⟨_,_,_,rfl,rfl,rfl⟩) (.inl ⟨rfl,rfl⟩) (by omega) (by omega)) rfl
   exact trivial
  case hend=>
   intro w16 D16;rintro _ rfl _ rfl _ rfl _ rfl _ rfl _ rfl _ rfl _ rfl;show St ..;replace hbz:=dk hbz (ai.grown D16 _);replace hbk:=hbk.from_ D16;replace P45:=P45.from_ D16;refine lQ (news:=xs.drop (i*1)) (g:=g2) (o:=(i+m)*1) aV rfl rfl (by rw [hdl];congr 1;omega) (fun h=>by rw [fO (by rw [hdl] at h;omega),Nat.zero_add]) (fun h=>⟨g,i*1,by rw [fO (by omega),Nat.zero_add],rP hbk hct⟩) P45 (by rw [hdl,fy _ _ _ (by rw [hvl,hcl2];omega),hcl2];omega) (fun v hv=>h1 v (List.mem_of_mem_drop hv)) ?_;intro w17 O54 P54;replace hbz:=qa hbz O54 (by have:=ho.lt g rfl;omega);refine ak (ag (an (af (mvs rfl (ass rfl (ak (ag (aE (aG (bt (v:=.slice _ _ _) rfl rfl ?_))))))))));have hnm:i+(n+m-i)=n+m:=by omega
   rw [hnm];have hbg:base≤g2:=by omega
   exact ⟨⟨_,_,rfl,oC hbg P54 hc2 hc2m (by rw [fy _ _ _ (by rw [hdl,fy _ _ _ (by rw [hvl,hcl2];omega),hcl2];omega),fy _ _ _ (by rw [hvl,hcl2];omega),hcl2]) (sh hi hc2 hcl2 hxl hct2 hvl).2,fun q hq=>.inr (by cases hq;show w.heap.size≤g2;omega)⟩,hbz⟩
 refine aN (ag (an (af (mvs rfl (mvi rfl (mvi rfl (ab (cF rfl rfl (by omega)) (ab (eI (v':=.slice (some ⟨g,0,none⟩) (n+m) c) (ep (l:=0) (h:=n+m) aV rfl (.inl ⟨rfl,rfl⟩) (.inr ⟨_,_,_,rfl,rfl,rfl⟩) (by omega) (by omega)) (by rw [jx,Nat.sub_zero,Nat.sub_zero])) ?_))))))));refine ass rfl (ak (ag (an (an (af (mvs rfl (mvs rfl (mvi rfl (mvi rfl (ab (cF rfl rfl (by omega)) (ab (ep (l:=i+m) (h:=n+m) aV rfl (.inr ⟨_,_,_,rfl,rfl,rfl⟩) (.inl ⟨rfl,rfl⟩) (by omega) (by omega)) ?_)))))))))));refine ab (rQ (tS:=26) (tR:=4) (g1:=b) (o1:=vo) (g2:=g) (o2:=(i+m)*1) Tryz.func176 (by kernel_rfl) (by kernel_rfl) (by kernel_rfl) (by kernel_rfl) aV rfl (by show Value.slice _ _ _=_;rw [fO (by omega),Nat.zero_add]) hgb.symm hvb hbk (by simp only [List.size_toArray,hcl];omega)) ?_;refine ab (dd (cp rfl) rfl) (ak (ag (a_ rfl (an ?_))));apply bD 8 [(69,eqp _),(70,eqp _),(71,eqp _),(72,eqp _),(73,eqp _),(74,eqp _),(75,eqp _),(76,eqp _)] (by repeat first | exact cl | refine ck ?_ | refine bM ?_) (by kernel_rfl) (by kernel_rfl) ⟨ah _,ah _,ah _,ah _,ah _,ah _,ah _,ah _,trivial⟩
 case hop=>
  constructor
  ·rintro-w19 D19;exact aq (aB (v:=.slice _ _ _) rfl) rfl
  constructor
  ·rintro-w20 D20;exact aq (aB (v:=.int _ _) rfl) rfl
  constructor
  ·rintro-w21 D21;exact aq (aB (v:=.int _ _) rfl) rfl
  constructor
  ·rintro-w22 D22;rintro _ rfl _ rfl;exact aq (cF rfl rfl (by omega)) rfl
  constructor
  ·rintro-w23 D23;rintro _ rfl _ rfl;exact aq (ep (l:=i+m) (h:=n+m) aV rfl (.inr ⟨_,_,_,rfl,rfl,rfl⟩) (.inl ⟨rfl,rfl⟩) (by omega) (by omega)) rfl
  constructor
  ·rintro-w24 D24;exact aq (aB (v:=.slice _ _ _) rfl) rfl
  constructor
  ·rintro-w25 D25;exact aq (aB (v:=.int _ _) rfl) rfl
  constructor
  ·rintro-w26 D26;rintro _ rfl _ rfl;exact aq (ep (l:=i) (h:=n+m) aV rfl (.inr ⟨_,_,_,rfl,rfl,rfl⟩) (.inl ⟨rfl,rfl⟩) (by omega) (by omega)) rfl
  exact trivial
 case hend=>
  intro w27 D27;rintro _ rfl _ rfl _ rfl _ rfl _ rfl _ rfl _ rfl _ rfl;show St ..;replace hbz:=dk hbz (ai.grown D27 _);replace hbk:=hbk.from_ D27;have hvr2:=ft D27 hvr;refine lQ (news:=xs.drop (i*1)) (g:=g) (o:=(i+m)*1) aV rfl rfl (by rw [hdl];congr 1;omega) (fun h=>by rw [fO (by rw [hdl] at h;omega),Nat.zero_add]) (fun h=>⟨g,i*1,by rw [fO (by omega),Nat.zero_add],rP hbk hct⟩) hbk (by rw [hdl,hcl];omega) (fun v hv=>h1 v (List.mem_of_mem_drop hv)) ?_;intro w28 O77 P77;replace hbz:=dk hbz (d_.grown O77);refine ak (ag (an (af (mvs rfl (mvi rfl (ab (ep (l:=i) (h:=n+m) aV rfl (.inr ⟨_,_,_,rfl,rfl,rfl⟩) (.inl ⟨rfl,rfl⟩) (by omega) (by omega)) (mvs rfl ?_)))))));refine lQ (news:=vs) (g:=g) (o:=i*1) aV rfl rfl (by rw [hvl];congr 1;omega) (fun h=>by rw [fO (by omega),Nat.zero_add]) (fun h=>⟨b,vo,rfl,fun j v hv=>(O77.cell (Ne.symm hgb)).trans (hvr2 j v hv)⟩) P77 (by rw [hvl,fy _ _ _ (by rw [hdl,hcl];omega),hcl];omega) h1v ?_;intro w29 O82 P82;replace hbz:=dk hbz (d_.grown O82);refine ak (ag (an (af (mvs rfl (ass rfl (ak (ag (aE (aG (bt (v:=.slice _ _ _) rfl rfl ?_))))))))));have hct3:cur.take (i*1)=xs.take (i*1):=by rw [←hct,List.take_take,Nat.min_eq_left (by omega)]
  exact ⟨⟨_,_,rfl,oC hg P82 (by omega) hcm (by rw [fy _ _ _ (by rw [hvl,fy _ _ _ (by rw [hdl,hcl];omega),hcl];omega),fy _ _ _ (by rw [hdl,hcl];omega),hcl]) (sh hi (by omega) hcl hxl hct3 hvl).1,fun q hq=>.inl hq⟩,hbz⟩
theorem Bc (x:Int) (w:World) :
 Rt prog 182 [.int .i64 x] w (fun v w'=>v=.bool false∧w=w'):=by
 refine enter (n:=6) Tryz.func182 rfl rfl rfl (an (af (asb rfl (ak (ag (an (af (mvi rfl (mvi rfl (ab (bY (de rfl rfl) (bne_self_eq_false _)) (asb rfl (ak (ag (aE ?_))))))))))))));refine bt (v:=.bool _) rfl rfl (⟨rfl,rfl⟩)
theorem Bb (x:Int) (w:World) :
 Rt prog 175 [.int .i64 x] w (fun v w'=>v=.bool false∧w=w'):=by
 refine enter (n:=6) Tryz.func175 rfl rfl rfl (an (af (asb rfl (ak (ag (an (af (mvi rfl (mvi rfl (ab (bY (de rfl rfl) (bne_self_eq_false _)) (asb rfl (ak (ag (aE ?_))))))))))))));refine bt (v:=.bool _) rfl rfl (⟨rfl,rfl⟩)
theorem xT (x y:Int) (w:World) :
 Rt prog 174 [.int .i64 x,.int .i64 y] w (fun v w'=>v=.bool (decide (x<y))∧w=w'):=by
 refine enter (n:=17) Tryz.func174 rfl rfl rfl (an (af (asb rfl (ak (ag (an (af (mvi rfl (aC sA (Bc _ _) ?_)))))))));rintro v6 w1 ⟨rfl,rfl⟩;refine mvb rfl (ar rfl rfl (ar rfl rfl (ar rfl rfl (ab (ay (v:=.bool _) rfl rfl) (mvb rfl (ae rfl (mvi rfl (ae rfl ?_))))))));refine mvi rfl (ae rfl (ab (bZ rfl rfl) (ab (ay (v:=.bool _) rfl rfl) (asb rfl (ak (ag (aE (bt (v:=.bool _) rfl rfl (⟨rfl,rfl⟩)))))))))
theorem yq {l:List Int} {x:Int} {i:Nat} (hs:∀ (i j:Nat) (_hi:i<l.length) (_hj:j<l.length),i<j→l[i]<l[j]) (hlo:∀ k (h:k<l.length),k<i→l[k]<x) (hhi:∀ k (h:k<l.length),i≤k→x≤l[k]) (hne:∀ h:i<l.length,l[i]≠x):x ∉ l:=by
 intro hm;obtain ⟨k,hk,he⟩:=List.getElem_of_mem hm;rcases Nat.lt_trichotomy k i with e | e | e
 ·have:=hlo k hk e;omega
 ·subst e;exact hne hk he
 ·have h1:=hhi i (by omega) (Nat.le_refl _);have h2:=hs i k (by omega) hk e;omega
theorem qO {l:List Int} {x:Int} {i:Nat} (h:i<l.length) (he:l[i]=x):x∈l:=he ▸ List.getElem_mem h
theorem um (A:Option Addr) (c:Nat) (l:List Int) (x:Int) (w:World) (hr:dW iV w A l) (hl:l.length≤1000000) (hs:l.Pairwise (·<·)) :
 Rt prog 163 [.slice A l.length c,.int .i64 x] w (fun v w'=>(∃ (i:Nat) (b:Bool),v=.tuple #[.int .i64 (i:Nat),.bool b]∧i≤l.length∧(∀ j (h:j<l.length),j<i→l[j]<x)∧(∀ j (h:j<l.length),i≤j→x≤l[j])∧(b=true→x∈l)∧(b=false→x ∉ l))∧ai w w'):=by
 have hs9:=List.pairwise_iff_getElem.1 hs;refine enter (n:=54) Tryz.func163 rfl rfl rfl (an (af (asi rfl (asb rfl (ak (ag (an (af (mvs rfl (ab (bL bP rfl) (asi rfl (ak (ag (an (af ?_)))))))))))))));refine mvi rfl (asi rfl (asi rfl (ak (ag (an (bf (cS (G:=Nat×Nat) [9,13,14,15,16,17,18,19,20,21,22,23,24,25,26,27,28,29,30] (fun (i,j)=>[(7,.int .i64 (i:Nat)),(8,.int .i64 (j:Nat))]) (fun (i,j) w'=>i≤j∧j≤l.length∧(∀ k (h:k<l.length),k<i→l[k]<x)∧(∀ k (h:k<l.length),j≤k→x≤l[k])∧ai w w') (fun (i,j)=>j-i) ((0,l.length)) ⟨rfl,rfl,trivial⟩ ?_ ?_)))))))
 ·exact ⟨Nat.zero_le _,Nat.le_refl _,fun x _ h=>absurd h (by omega),fun x h1 h2=>absurd h1 (by omega),ai.rfl_⟩
 rintro ⟨i,j⟩ ρ1 w1 ⟨hij,hjn,hlo,hhi,hB⟩;refine an (an (af (mvi rfl (mvi rfl (ab (bZ rfl rfl) (ak (ag (Bu rfl (fun Q2=>?_) (fun Q2=>?_)))))))))
 ·obtain ⟨ba,oa,rfl,hcs⟩:=hr (by omega);refine aN (ag (bf (an (af (mvi rfl (mvi rfl (ab (cF rfl rfl (by omega)) ?_)))))));obtain ⟨h,hh⟩:∃ h,h=(i+j)/2 ^ 1:=⟨_,rfl⟩;refine ab (pU pk lI rfl (by omega)) (ab (yT (b:=1) rfl rfl (by decide)) (ab (rS pn tb rfl (by omega)) (dX (t:=21) (v:=.int _ _) (v':=.int .i64 (h:Nat)) rfl (by rw [hh]) ?_)));refine asi rfl (ak (ag (an (af (mvs rfl (mvi rfl (ab (cr aV rfl rfl (by omega)) (ab (au ao rfl (by exact dg hB (hcs h (by omega)))) ?_))))))));refine mvi rfl (aC sC (xT l[h] x _) ?_);rintro v27 w3 ⟨rfl,rfl⟩;refine ak (ag (Bu rfl (fun Q4=>?_) (fun Q4=>?_)))
  ·refine af (mvi rfl (ab (cF (b:=1) rfl rfl (by omega)) (asi rfl (ak (bq ?_)))));refine cG ((h+1,j)) ⟨(by first | rfl | (refine bo ?_;omega)),(by first | rfl | (refine bo ?_;omega)),trivial⟩ (by (iterate 41 refine bE rfl ?_);exact bX) ⟨?_,?_⟩
   ·refine ⟨by omega,hjn,fun k hk hki=>?_,hhi,hB⟩;rcases Nat.lt_or_ge k h with e | e
    ·have:=hs9 k h hk (by omega) e;omega
    ·obtain rfl:k=h:=by omega
     omega
   ·show j-(h+1)<j-i;omega
  refine af (mvi rfl (asi rfl (ak (bq ?_))));refine cG ((i,h)) ⟨(by first | rfl | (refine bo ?_;omega)),(by first | rfl | (refine bo ?_;omega)),trivial⟩ (by (iterate 40 refine bE rfl ?_);exact bX) ⟨?_,?_⟩
  ·refine ⟨by omega,by omega,hlo,fun k hk hki=>?_,hB⟩;rcases Nat.lt_or_ge h k with e | e
   ·have:=hs9 h k (by omega) hk e;omega
   ·obtain rfl:k=h:=by omega
    omega
  ·show h-i<j-i;omega
 refine cz (bk (bk (bW (ag (an (af (mvi rfl (mvi rfl (mvi rfl (ab (bZ rfl rfl) (mvb rfl (AU (t:=35) rfl (fun Q5=>?_) (fun Q5=>?_)))))))))))))
 ·obtain ⟨ba,oa,rfl,hcs⟩:=hr (by omega);refine ae rfl (mvs rfl (ae rfl (mvi rfl (ae rfl (ab (cr aV rfl rfl (by omega)) (ae rfl (ab (au ao rfl (by exact dg hB (hcs i (by omega)))) ?_)))))));refine ae rfl (mvi rfl (ae rfl (ab (bh rfl rfl) (ae rfl (mvb rfl (AT (t:=42) rfl (fun Q6=>?_) (fun Q6=>?_)))))))
  ·refine ar rfl rfl (ar rfl rfl (ar rfl rfl (ar rfl rfl (ar rfl rfl (ar rfl rfl (c_ rfl (c_ rfl (ar rfl rfl ?_))))))));refine ae rfl (ab (aL (v:=.bool _) rfl rfl) (ab (aL (v:=.bool _) rfl rfl) (asi rfl (asb rfl (ak (ag (aE (lX (v:=.int _ _) (v':=.bool _) rfl rfl rfl ?_))))))));obtain rfl:i=j:=by omega
   first
    |exact ⟨⟨i,false,rfl,hjn,hlo,hhi,fun hb=>(by cases hb),fun _=>yq hs9 hlo hhi (fun h9=>by omega)⟩,hB⟩
    |exact ⟨⟨i,true,rfl,hjn,hlo,hhi,fun _=>qO (i:=i) (by omega) (by omega),fun hb=>(by cases hb)⟩,hB⟩
  refine ae rfl (mvs rfl (ae rfl (mvi rfl (ae rfl (ab (cr aV rfl rfl (by omega)) (ae rfl (ab (au ao rfl (by exact dg hB (hcs i (by omega)))) ?_)))))));refine ae rfl (aC sB (Bb _ _) ?_);rintro v47 w7 ⟨rfl,rfl⟩;refine ae rfl (mvb rfl (ar rfl rfl (ar rfl rfl (ae rfl (ab (ay (v:=.bool _) rfl rfl) (ae rfl (ab (ay (v:=.bool _) rfl rfl) (ab (aL (v:=.bool _) rfl rfl) ?_))))))));refine asi rfl (asb rfl (ak (ag (aE (lX (v:=.int _ _) (v':=.bool _) rfl rfl rfl ?_)))));obtain rfl:i=j:=by omega
  first
   |exact ⟨⟨i,false,rfl,hjn,hlo,hhi,fun hb=>(by cases hb),fun _=>yq hs9 hlo hhi (fun h9=>by omega)⟩,hB⟩
   |exact ⟨⟨i,true,rfl,hjn,hlo,hhi,fun _=>qO (i:=i) (by omega) (by omega),fun hb=>(by cases hb)⟩,hB⟩
 refine ar rfl rfl (ar rfl rfl (ar rfl rfl (ar rfl rfl (ar rfl rfl (ar rfl rfl (ar rfl rfl (c_ rfl (c_ rfl ?_))))))));refine c_ rfl (c_ rfl (c_ rfl (c_ rfl (c_ rfl (c_ rfl (c_ rfl (ar rfl rfl (ab (ay (v:=.bool _) rfl rfl) ?_))))))));refine asi rfl (asb rfl (ak (ag (aE (lX (v:=.int _ _) (v':=.bool _) rfl rfl rfl ?_)))));obtain rfl:i=j:=by omega
 first
  |exact ⟨⟨i,false,rfl,hjn,hlo,hhi,fun hb=>(by cases hb),fun _=>yq hs9 hlo hhi (fun h9=>by omega)⟩,hB⟩
  |exact ⟨⟨i,true,rfl,hjn,hlo,hhi,fun _=>qO (i:=i) (by omega) (by omega),fun hb=>(by cases hb)⟩,hB⟩
theorem nU {l:List Int} {x:Int} {i:Nat} (h:dM l x=l.take i++x::l.drop i) (hi:i≤l.length):(dM l x).length=l.length+1:=by
 rw [h,List.length_append,List.length_take,List.length_cons,List.length_drop];omega
theorem wu {l:List Int} {x:Int} {i:Nat} (h:dM l x=l.take i++x::l.drop i):(dM l x).map iV=(l.map iV).take (i*1)++[iV x]++(l.map iV).drop (i*1):=by
 rw [h,List.map_append,List.map_cons,List.map_take,List.map_drop,Nat.mul_one,List.append_assoc];rfl
theorem yJ (A:Option Addr) (c:Nat) (l:List Int) (x:Int) (w:World) (ho:w.ownsRow 0 3 1 (.slice A l.length c) l.length (l.map iV)) (hs:l.Pairwise (·<·)) (hl:l.length≤1000) :
 Rt prog 146 [.slice A l.length c,.int .i64 x] w (fun v w'=>(∃ A' c',v=.slice A' (dM l x).length c'∧w'.ownsRow 0 3 1 (.slice A' (dM l x).length c') (dM l x).length ((dM l x).map iV)∧∀ q,A'.map (·.block)=some q→A.map (·.block)=some q∨w.heap.size≤q)∧w.grownBy w' (A.map (·.block))):=by
 refine enter (n:=20) Tryz.func146 rfl rfl rfl (an (af (ass rfl (ak (ag (an (af (mvs rfl (mvi rfl (aC sE (um A c l x _ (((dW.own ho).2).from_ ai.rfl_) (by omega) hs) ?_))))))))));rintro v10 w1 ⟨⟨i,b,rfl,hi,hlo,hhi,hbt,hbf⟩,E10⟩;refine mvt rfl (ab (aY rfl rfl) (ab (aY rfl rfl) (asi rfl (asb rfl (ak (ag (an (an (af (mvb rfl (ak (ag (aU rfl (fun Q2=>?_) (fun Q2=>?_))))))))))))))
 ·refine an (af (mvs rfl (ass rfl (ak (ag (aE (aG (bt (v:=.slice _ _ _) rfl rfl ?_))))))));have hin:x∈l:=hbt (by first | rfl | assumption | simp_all);exact ⟨⟨A,c,by rw [lL hin],by rw [lL hin];exact ho.kept_from (ai.rfl_.next E10),fun q hq=>.inl hq⟩,((ai.rfl_.next E10)).grown _⟩
 refine aN (ag (an (af (mvs rfl (mvi rfl (mvi rfl ?_))))));have hB18:ai w w1:=(ai.rfl_.next E10);refine jC (l:=[(0,.tmp 17)]) (cells:=#[iV x]) bS rfl rfl (by first | rfl | kernel_rfl) ?_;intro b18 w3 E18 hb18 hk18;refine aC sD (AA 0 A c l.length i 1 b18 0 1 (l.map iV) [iV x] _ _ _ (ho.kept_from ((ai.rfl_.next E10).next E18)) (Nat.zero_le _) hi (by decide) rfl hk18.whole hk18 (fun k hk e=>by have:=dG ho k hk;have:=hB18.size;omega) (fun u hu=>by obtain ⟨y,_,rfl⟩:=List.mem_map.1 hu;rfl) (fun u hu=>by cases List.mem_singleton.1 hu;rfl) (by omega)) ?_;rintro v19 w4 ⟨⟨A19,c19,rfl,ho19,hL19⟩,hg19⟩;refine ass rfl (ak (ag (aE (bt (v:=.slice _ _ _) rfl rfl ?_))));have hni:x ∉ l:=hbf (by first | rfl | assumption | simp_all);have hw:=mF hni i hi hlo hhi;rw [nU hw hi,wu hw];exact ⟨⟨A19,c19,rfl,ho19,fun q hq=>(hL19 q hq).imp id fun e=>Nat.le_trans (hB18.next E18).size e⟩,dk ((hB18.next E18).grown _) hg19⟩
theorem qW:aP prog 122=true:=by kernel_rfl
theorem IR.take {w:World} {A:Option Addr} {c:Nat} {l:List Int} (h:IR w A c l) (i:Nat):IR w A c (l.take i):=by
 obtain ⟨hr,h1,h2,h3⟩:=h;have hlt:(l.take i).length≤l.length:=by rw [List.length_take];omega
 refine ⟨fun h0=>?_,by omega,h2,fun e=>⟨by have:=(h3 e).1;omega,(h3 e).2⟩⟩;obtain ⟨b,o,hA,hc⟩:=hr (by omega);refine ⟨b,o,hA,fun k hk=>?_⟩;rw [List.getElem_take];exact hc k (by omega)
theorem pT {w:World} {A:Option Addr} {c i:Nat} {l:List Int} (h:IR w A c l) (h0:0<((l.drop i).map iV).length):∃ b o,iF A c i 1=some ⟨b,o,none⟩∧w.rangeAt b o ((l.drop i).map iV):=by
 rw [List.length_map,List.length_drop] at h0;obtain ⟨hr,h1,h2,h3⟩:=h;obtain ⟨b,o,rfl,hc⟩:=hr (by omega);refine ⟨b,o+i*1,fO (by omega),fun j v hv=>?_⟩;rw [List.getElem?_map] at hv;cases hj:(l.drop i)[j]? with
 |none=>rw [hj] at hv;cases hv
 |some y=>
  obtain ⟨hjl,rfl⟩:=List.getElem?_eq_some_iff.1 hj;rw [hj] at hv;cases hv;rw [List.length_drop] at hjl;have:=hc (i+j) (by omega);rw [List.getElem_drop,show o+i*1+j=o+(i+j) by omega];exact this
theorem AB (A:Option Addr) (c:Nat) (l:List Int) (x:Int) (w:World) (hr:dW iV w A l) (hl:l.length≤1000000) :
 Rt prog 122 [.slice A l.length c,.int .i64 x] w (fun v w'=>(∃ r:Int,v=.int .i64 r∧(0≤r↔x∈l))∧ai w w'):=by
 refine enter (n:=19) Tryz.func122 rfl rfl rfl (an (af (asi rfl (ak (ag (an (an (af (asi rfl (ak (ag (bf (cS (G:=Nat) [4,6,7,8,9,10,11,12,13,14,15,16,17,18] (fun i=>[(5,.int .i64 (i:Nat))]) (fun i w'=>i≤l.length∧(∀ j (h:j<l.length),j<i→l[j]≠x)∧ai w w') (fun i=>l.length-i) (0) ⟨rfl,trivial⟩ ?_ ?_)))))))))))))
 ·exact ⟨Nat.zero_le _,fun j _ h=>absurd h (Nat.not_lt_zero _),ai.rfl_⟩
 rintro i ρ1 w1 ⟨hi,hno,hB⟩;refine an (an (af (mvi rfl (mvs rfl (ab (bL bP rfl) (ab (bZ rfl rfl) (ak (ag (Bu rfl (fun Q2=>?_) (fun Q2=>?_))))))))))
 ·obtain ⟨ba,oa,rfl,hcs⟩:=hr (by omega);refine aN (ag (an (bf (an (af (mvs rfl (mvi rfl (ab (cr aV rfl rfl (by omega)) (ab (au ao rfl (by exact dg hB (hcs i (by omega)))) ?_)))))))));refine mvi rfl (ab (bh rfl rfl) (ak (ag (Bt rfl (fun Q3=>?_) (fun Q3=>?_)))))
  ·refine an (af (mvi rfl (asi rfl (ak (ag (aE (bG (aG (aG (bG (aG (bt (v:=.int _ _) rfl rfl (⟨⟨_,rfl,⟨fun _=>qO (i:=i) (by omega) (by omega),fun _=>by omega⟩⟩,hB⟩)))))))))))))
  refine aN (bq (ag (af (mvi rfl (ab (cF (b:=1) rfl rfl (by omega)) (asi rfl (ak ?_)))))));refine cG (i+1) ⟨(by first | rfl | (refine bo ?_;omega)),trivial⟩ (by (iterate 28 refine bE rfl ?_);exact bX) ⟨?_,?_⟩
  ·refine ⟨by omega,fun j h hj=>?_,hB⟩;rcases Nat.lt_or_ge j i with e | e
   ·exact hno j h e
   ·obtain rfl:j=i:=by omega
    omega
  ·omega
 refine cz (bk (bk (bW (ag (an (af (asi rfl (ak (ag (aE (bt (v:=.int _ _) rfl rfl (⟨⟨_,rfl,⟨fun h=>absurd h (by decide),fun hm=>?_⟩⟩,hB⟩))))))))))));obtain ⟨k,hk,he⟩:=List.getElem_of_mem hm;exact absurd he (hno k hk (by omega))
theorem wQ (A:Option Addr) (c:Nat) (l:List Int) (x:Int) (w:World) (ho:w.ownsRow 0 3 1 (.slice A l.length c) l.length (l.map iV)) (hs:l.Pairwise (·<·)) (hl:l.length≤1000) :
 Rt prog 126 [.slice A l.length c,.int .i64 x] w (fun v w'=>(∃ A' c',v=.slice A' (dM l x).length c'∧w'.ownsRow 0 3 1 (.slice A' (dM l x).length c') (dM l x).length ((dM l x).map iV)∧∀ q,A'.map (·.block)=some q→A.map (·.block)=some q∨w.heap.size≤q)∧ai w w'):=by
 have hr:=(dW.own ho).2;have hir:=lC ho;have hs9:=List.pairwise_iff_getElem.1 hs;refine enter (n:=38) Tryz.func126 rfl rfl rfl (an (af (ass rfl (ak (ag (an (an (af (mvs rfl (mvi rfl (aC qW (AB A c l x _ (hr.from_ ai.rfl_) (by omega)) ?_)))))))))));rintro v9 w1 ⟨⟨r,rfl,hrI⟩,E9⟩;refine ab (j5 rfl rfl) (ak (ag (Bu rfl (fun Q2=>?_) (fun Q2=>?_))))
 ·refine an (af (mvs rfl (ass rfl (ak (ag (aE (aG (bt (v:=.slice _ _ _) rfl rfl ?_))))))));have hin:x∈l:=hrI.1 (by omega);exact ⟨⟨A,c,by rw [lL hin],by rw [lL hin];exact ho.kept_from (ai.rfl_.next E9),fun q hq=>.inl hq⟩,(ai.rfl_.next E9)⟩
 have hni:x ∉ l:=fun e=>by have:=hrI.2 e;omega
 refine aN (ag (an (af (asi rfl (ak (ag (an (bf (cS (G:=Nat) [12,13,14,15,16,17,18,19,20,21,22,23,24,25] (fun i=>[(5,.int .i64 (i:Nat))]) (fun i w'=>i≤l.length∧(∀ j (h:j<l.length),j<i→l[j]<x)∧ai w w') (fun i=>l.length-i) (0) ⟨rfl,trivial⟩ ?_ ?_)))))))))
 ·exact ⟨Nat.zero_le _,fun j _ h=>absurd h (Nat.not_lt_zero _),(ai.rfl_.next E9)⟩
 rintro i ρ3 w3 ⟨hi,hlo,hB⟩;refine an (an (af (mvi rfl (mvs rfl (ab (bL bP rfl) (ab (bZ rfl rfl) (mvb rfl (AU (t:=16) rfl (fun Q4=>?_) (fun Q4=>?_)))))))))
 ·obtain ⟨ba,oa,hAe,hcs⟩:=hr (by omega);refine ae rfl (mvs rfl (ae rfl (mvi rfl (ae rfl (ab (bN aV (by show Value.slice A l.length c=_;rw [hAe]) rfl (by omega)) ?_)))));refine ae rfl ?_;refine ab (au ao rfl (by rw [Nat.mul_one];exact dg hB (hcs i (by omega)))) ?_;refine ae rfl (mvi rfl (ae rfl (ab (bZ rfl rfl) (ab (aL (v:=.bool _) rfl rfl) (ak (ag (Bu rfl (fun Q5=>?_) (fun Q5=>?_))))))))
  ·refine aN (ag (bf (af (mvi rfl (ab (cF (b:=1) rfl rfl (by omega)) (asi rfl (ak (bq ?_))))))));refine cG (i+1) ⟨(by first | rfl | (refine bo ?_;omega)),trivial⟩ (by (iterate 31 refine bE rfl ?_);exact bX) ⟨?_,?_⟩
   ·refine ⟨by omega,fun j h hj=>?_,hB⟩;rcases Nat.lt_or_ge j i with e | e
    ·exact hlo j h e
    ·obtain rfl:j=i:=by omega
     omega
   ·omega
  have hhi:∀ j (h:j<l.length),i≤j→x≤l[j]:=fun j h hj=>by
   have h8:i<l.length:=by omega
   have h9:x≤l[i]:=by omega
   rcases Nat.lt_or_ge i j with e | e
   ·have:=hs9 i j h8 h e;omega
   ·obtain rfl:j=i:=by omega
    exact h9
  have hw:=mF hni i hi hlo hhi;refine cz (bk (bk (bW (ag (an (af (mvs rfl (mvi rfl (ab (eI (v':=.slice A (l.take i).length c) (ep (l:=0) (h:=i) aV rfl (.inl ⟨rfl,rfl⟩) (.inr ⟨_,_,_,rfl,rfl,rfl⟩) (by omega) (by have:=hir.2.1;omega)) (by rw [jx,Nat.sub_zero,Nat.sub_zero,List.length_take,Nat.min_eq_left hi])) ?_)))))))));have hB29:ai w w3:=hB;have hz29:=hB29.size;refine aC gv (jh A c (l.take i) _ ((hir.take i).from_ hB) (by rw [List.length_take];omega)) ?_;rintro v29 w6 ⟨⟨A29,c29,rfl,ho29⟩,E29⟩;refine mvi rfl ?_;have hM31:ai _ w6:=ai.rfl_;refine jC (l:=[(0,.tmp 30)]) (cells:=#[iV x]) bS rfl rfl (by first | rfl | kernel_rfl) ?_;intro b31 w7 E31 hb31 hk31;have hM32:ai _ w7:=(hM31.next E31);have ho32a:=ho29.kept_from hM32;have hz32:=(E29.next hM32).size;refine jX (news:=[iV x]) bS rfl (by decide) rfl ho32a hz32 rfl rfl ⟨b31,0,rfl,hk31.whole⟩ (by simp [iV,Value.oneCell']) (by rw [List.length_take];omega) (by rw [List.length_take];omega) ?_;intro A32 c32 w8 ho32 hg32 hL32;have hF32:ai w w8:=(hB29.next (E29.next hM32)).grew hg32 (fun k hk=>Nat.le_trans hz29 (ee ho32a k hk).1);have hz32b:=hg32.size;refine ass rfl (ak (ag (an (af (mvs rfl (mvs rfl (mvi rfl (ab (ep (l:=i) (h:=l.length) aV rfl (.inr ⟨_,_,_,rfl,rfl,rfl⟩) (.inl ⟨rfl,rfl⟩) (by omega) (by have:=hir.2.1;omega)) ?_))))))));have hM37:ai _ w8:=ai.rfl_;have ho37a:=ho32.kept_from hM37;refine gT (news:=(l.drop i).map iV) bS rfl (by decide) rfl ho37a (Nat.le_trans (Nat.le_trans hz32 hz32b) hM37.size) rfl (by rw [List.length_map,List.length_drop,Nat.mul_one]) (fun h0=>pT (hir.from_ (hF32.next hM37)) (by rw [List.length_map,List.length_drop];exact h0)) (fun h0=>?_) (fun u hu=>by obtain ⟨y,_,rfl⟩:=List.mem_map.1 hu;rfl) (by rw [List.length_take];omega) (by rw [List.length_take];omega) ?_
  ·have hA:A=none:=by
    cases A with
    |none=>rfl
    |some q=>unfold iF at h0;split at h0 <;> cases h0
   have:=(hir.2.2.2 hA).2;omega
  intro A37 c37 w9 ho37 hg37;have hF37:ai w w9:=(hF32.next hM37).grew hg37 (fun k hk=>Nat.le_trans hz29 (ee ho37a k hk).1);refine ass rfl (ak (ag (aE (bt (v:=.slice _ _ _) rfl rfl ?_))));have e1:(l.take i).length+1+(l.length-i)=(dM l x).length:=by rw [nU hw hi,List.length_take];omega
  have e2:(l.take i).map iV++[iV x]++(l.drop i).map iV=(dM l x).map iV:=by rw [hw,List.map_append,List.map_cons,List.append_assoc];rfl
  rw [e1,e2] at ho37;exact ⟨⟨A37,c37,by rw [←e1],er ho37 (Nat.zero_le _),fun q hq=>.inr (Nat.le_trans hz29 (ee ho37 q hq).1)⟩,hF37⟩
 have hhi:∀ j (h:j<l.length),i≤j→x≤l[j]:=fun j h hj=>by omega
 have hw:=mF hni i hi hlo hhi;refine ar rfl rfl (ar rfl rfl (ar rfl rfl (ar rfl rfl (ar rfl rfl (ar rfl rfl (ab (ay (v:=.bool _) rfl rfl) (ak (ag (bc rfl ?_)))))))));refine cz (bk (bk (bW (ag (an (af (mvs rfl (mvi rfl (ab (eI (v':=.slice A (l.take i).length c) (ep (l:=0) (h:=i) aV rfl (.inl ⟨rfl,rfl⟩) (.inr ⟨_,_,_,rfl,rfl,rfl⟩) (by omega) (by have:=hir.2.1;omega)) (by rw [jx,Nat.sub_zero,Nat.sub_zero,List.length_take,Nat.min_eq_left hi])) ?_)))))))));have hB29:ai w w3:=hB;have hz29:=hB29.size;refine aC gv (jh A c (l.take i) _ ((hir.take i).from_ hB) (by rw [List.length_take];omega)) ?_;rintro v29 w10 ⟨⟨A29,c29,rfl,ho29⟩,E29⟩;refine mvi rfl ?_;have hM31:ai _ w10:=ai.rfl_;refine jC (l:=[(0,.tmp 30)]) (cells:=#[iV x]) bS rfl rfl (by first | rfl | kernel_rfl) ?_;intro b31 w11 E31 hb31 hk31;have hM32:ai _ w11:=(hM31.next E31);have ho32a:=ho29.kept_from hM32;have hz32:=(E29.next hM32).size;refine jX (news:=[iV x]) bS rfl (by decide) rfl ho32a hz32 rfl rfl ⟨b31,0,rfl,hk31.whole⟩ (by simp [iV,Value.oneCell']) (by rw [List.length_take];omega) (by rw [List.length_take];omega) ?_;intro A32 c32 w12 ho32 hg32 hL32;have hF32:ai w w12:=(hB29.next (E29.next hM32)).grew hg32 (fun k hk=>Nat.le_trans hz29 (ee ho32a k hk).1);have hz32b:=hg32.size;refine ass rfl (ak (ag (an (af (mvs rfl (mvs rfl (mvi rfl (ab (ep (l:=i) (h:=l.length) aV rfl (.inr ⟨_,_,_,rfl,rfl,rfl⟩) (.inl ⟨rfl,rfl⟩) (by omega) (by have:=hir.2.1;omega)) ?_))))))));have hM37:ai _ w12:=ai.rfl_;have ho37a:=ho32.kept_from hM37;refine gT (news:=(l.drop i).map iV) bS rfl (by decide) rfl ho37a (Nat.le_trans (Nat.le_trans hz32 hz32b) hM37.size) rfl (by rw [List.length_map,List.length_drop,Nat.mul_one]) (fun h0=>pT (hir.from_ (hF32.next hM37)) (by rw [List.length_map,List.length_drop];exact h0)) (fun h0=>?_) (fun u hu=>by obtain ⟨y,_,rfl⟩:=List.mem_map.1 hu;rfl) (by rw [List.length_take];omega) (by rw [List.length_take];omega) ?_
 ·have hA:A=none:=by
   cases A with
   |none=>rfl
   |some q=>unfold iF at h0;split at h0 <;> cases h0
  have:=(hir.2.2.2 hA).2;omega
 intro A37 c37 w13 ho37 hg37;have hF37:ai w w13:=(hF32.next hM37).grew hg37 (fun k hk=>Nat.le_trans hz29 (ee ho37a k hk).1);refine ass rfl (ak (ag (aE (bt (v:=.slice _ _ _) rfl rfl ?_))));have e1:(l.take i).length+1+(l.length-i)=(dM l x).length:=by rw [nU hw hi,List.length_take];omega
 have e2:(l.take i).map iV++[iV x]++(l.drop i).map iV=(dM l x).map iV:=by rw [hw,List.map_append,List.map_cons,List.append_assoc];rfl
 rw [e1,e2] at ho37;exact ⟨⟨A37,c37,by rw [←e1],er ho37 (Nat.zero_le _),fun q hq=>.inr (Nat.le_trans hz29 (ee ho37 q hq).1)⟩,hF37⟩
end Go.Proofs.YtkpooenofjdpmaaGreat
