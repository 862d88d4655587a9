/- texts that the claim stands on. -/
import Derived.Test.YtkpooenofjdpmaaGreatSlRfLawC4

set_option maxRecDepth 100000
set_option maxHeartbeats 4000000
namespace Go.Proofs.YtkpooenofjdpmaaGreat
open Go.Proofs.Tryz (prog)
open Go.RowKit
open Go.ChangeShapes Go.WideShapes Go.ChangeAt
theorem dE:prog.built 29 []=some #[.int .i64 0,.int .i64 0,.int .i64 0,.int .i64 0,.int .i64 0,.int .i64 0,.int .i64 0,.int .i64 0,.slice none 0 0,.string ⟨#[]⟩,.int .i64 0,.int .i64 0,.int .i64 0,.int .u64 0,.slice none 0 0,.slice none 0 0,.slice none 0 0,.slice none 0 0,.int .i64 0,.slice none 0 0,.string ⟨#[]⟩,.int .i64 0]:=by kernel_rfl
theorem kW:∀ (a0:Int) (a1:Int) (a2:Int),prog.built 29 [(0,.int .i64 a0),(1,.int .i64 a1),(11,.int .u64 a2)]=some #[.int .i64 a0,.int .i64 a1,.int .i64 0,.int .i64 0,.int .i64 0,.int .i64 0,.int .i64 0,.int .i64 0,.slice none 0 0,.string ⟨#[]⟩,.int .i64 0,.int .i64 0,.int .i64 0,.int .u64 a2,.slice none 0 0,.slice none 0 0,.slice none 0 0,.slice none 0 0,.int .i64 0,.slice none 0 0,.string ⟨#[]⟩,.int .i64 0]:=by intros;kernel_rfl
theorem qi:∀ (a0:Int) (a1:Int) (a2:Int) (a3:Int) (a4:Int) (a5:Int) (a6:Int) (a7:Int) (a8:Option Addr) (a9 a10:Nat) (a11:ByteArray) (a12:Int) (a13:Int) (a14:Int) (a15:Int) (a16:Option Addr) (a17 a18:Nat) (a19:Option Addr) (a20 a21:Nat) (a22:Option Addr) (a23 a24:Nat) (a25:Option Addr) (a26 a27:Nat) (a28:Int) (a29:Option Addr) (a30 a31:Nat) (a32:ByteArray) (a33:Int),prog.built 91 [(0,.agg #[.int .i64 a0,.int .i64 a1,.int .i64 a2,.int .i64 a3,.int .i64 a4,.int .i64 a5,.int .i64 a6,.int .i64 a7,.slice a8 a9 a10,.string a11,.int .i64 a12,.int .i64 a13,.int .i64 a14,.int .u64 a15,.slice a16 a17 a18,.slice a19 a20 a21,.slice a22 a23 a24,.slice a25 a26 a27,.int .i64 a28,.slice a29 a30 a31,.string a32,.int .i64 a33])]=some #[.int .i64 a0,.int .i64 a1,.int .i64 a2,.int .i64 a3,.int .i64 a4,.int .i64 a5,.int .i64 a6,.int .i64 a7,.slice a8 a9 a10,.string a11,.int .i64 a12,.int .i64 a13,.int .i64 a14,.int .u64 a15,.slice a16 a17 a18,.slice a19 a20 a21,.slice a22 a23 a24,.slice a25 a26 a27,.int .i64 a28,.slice a29 a30 a31,.string a32,.int .i64 a33]:=by intros;kernel_rfl
theorem gH:aR prog 55=true:=by kernel_rfl
theorem sY:aR prog 56=true:=by kernel_rfl
theorem jI {P:Program} {n:Fr} {L:List (Nat×Value)} {w:World} {t:TypeId} {x y:Operand} {g:Nat} {u:TypeId} {cs:Array Value} {vs:List Value} (ht:dH P t=some vs.length) (hx:ev n L x=.pointer (some ⟨g,0,none⟩)) (hy:ev n L y=.agg vs.toArray) (h1:∀ v∈vs,v.oneCell'=true) (hb:Blk w g u cs) (hi:vs.length=cs.size) :
 ∃ w',RS P (ev n L) (.store t x y) w w'∧eh g w w'∧Blk w' g u vs.toArray:=by
 have hb':Blk w g u cs.toList.toArray:=by simpa using hb
 refine ⟨_,kH ht hx hy h1 (hb'.there 0 vs.length (by simp;omega)),eh.sets vs 0 w,?_⟩;have:=Blk.sets vs 0 hb' (by simp;omega)
 rwa [mx cs.toList vs (by simp;omega)] at this
theorem fp {w w':World} {T g:Nat} {p:Sp} (h:bN w (fun k=>k<w.heap.size) w' T g p):ai w w':=
 ⟨h.fr.os,h.fr.tape,h.fr.output,h.fr.size,fun k hk=>h.fr.block k hk fun e=>e hk⟩
def vx (w w':World) (p:Sp) (v:Value):Prop:=∃ tag a O oc L,v=.tuple #[.agg (rfV p.s a).toArray,.slice O L.length oc,.int .i64 0]∧aQ w' tag p.s a∧eQ w' tag p.out O oc L∧∀ k,k<w.heap.size→tag k=8
theorem vx.mk_ {w w1 w':World} {T g oc:Nat} {tag:Nat→Nat} {p:Sp} {a:Ra} {O:Option Addr} {L:List Msg} {Z:Nat→Prop} (hs:gm w1 Z T g tag p a O oc L) (hz:∀ k,k<w.heap.size→Z k) (hC:Chg (fun k=>Z k) w1 w'):vx w w' p (.tuple #[.agg (rfV p.s a).toArray,.slice O L.length oc,.int .i64 0]):=by
 have ne:∀ {d:Nat} {A:Option Addr},d≠8→Col tag d A→∀ k,A.map (·.block)=some k→¬ Z k:=fun hd hc k hk e=>hd ((hc k hk).symm.trans (hs.z k e))
 have mv:∀ {d e s n cc:Nat} {A:Option Addr} {xs:List Value},d≠8→w1.ownsRow 0 e s (.slice A n cc) n xs∧Col tag d A→w'.ownsRow 0 e s (.slice A n cc) n xs∧Col tag d A:=fun hd h=>⟨db h.1 hC (ne hd h.2),h.2⟩
 refine ⟨tag,a,O,oc,L,rfl,⟨fun hx=>mv (by decide) (hs.f.e hx),fun hx=>mv (by decide) (hs.f.v hx),fun hx=>mv (by decide) (hs.f.x hx),fun hx=>mv (by decide) (hs.f.m hx),fun hx=>mv (by decide) (hs.f.n hx),hs.f.r,fun hx=>mv (by decide) (hs.f.q hx),fun i hi hx=>mv (by omega) (hs.f.k i hi hx)⟩,⟨(mv (d:=6) (by decide) ⟨hs.m.o,hs.m.c⟩).1,hs.m.l,fun j hj=>mv (by omega) (hs.m.e j hj),hs.m.c⟩,fun k hk=>hs.z k (hz k hk)⟩
def lC (id n:Int):Prop:=(1≤n∧n≤7)∧(1≤id∧id≤n)
instance (id n:Int):Decidable (lC id n):=by unfold lC;exact inferInstance
theorem uZ (id n seed:Int) (w:World) :
 Rt prog 21 [.int .i64 id,.int .i64 n,.int .u64 seed] w (fun v w'=>((lC id n∧v=.tuple #[.agg (rfV (pL id n seed) a0).toArray,.int .i64 0])∨(¬ lC id n∧v=.tuple #[.agg (rfV zR a0).toArray,.int .i64 1]))∧ai w w'):=by
 refine enter (n:=29) Tryz.func21 rfl rfl rfl (ak (ag (bG bS ?_)));intro b6 w1 E6 hb6 hk6;have hg6:w.heap.size≤b6:=Nat.le_of_eq hb6.symm;refine asi rfl (aj (ah (ak (ak (ag (mvi rfl (eG (v:=.int _ _) bK rfl rfl rfl ?_)))))));intro b10 w2 E10 hb10 hk10;refine aB cX (dZ 1 7 (some ⟨b10,0,none⟩) 1 [n] _ (fe hk10) (by simp)) ?_;rintro v11 w3 ⟨rfl,rfl⟩;refine aa (cf rfl) (mvb rfl (aD (t:=13) rfl (fun Q4=>?_) (fun Q4=>?_)))
 ·with_reducible (replace Q4:=cZ Q4;replace Q4:=dF_ Q4)
  (try simp only [bo,bw,and_true] at Q4)
  refine ab rfl rfl (ab rfl rfl (ab rfl rfl (ab rfl rfl (ab rfl rfl (aa (an (v:=.bool _) rfl rfl) (aj (ah (aJ rfl (ak (ag ?_))))))))));refine aa (cA (l:=[]) (dE)) (bP (vs:=[_,_,_,_,_,_,_,_,_,_,_,_,_,_,_,_,_,_,_,_,_,_]) av rfl rfl (by simp [Value.oneCell']) ((hk6.from_ (ai.rfl_.next E10))) rfl ?_);intro w5 O2 P2;refine asi rfl (aj (ah (aA (ay (fW rfl (cU (cs:=[_,_,_,_,_,_,_,_,_,_,_,_,_,_,_,_,_,_,_,_,_,_]) aG av rfl (by first | exact P5.whole | exact P2.whole)) (ed (v:=.int _ _) rfl) ?_)))));exact ⟨.inr ⟨by unfold lC;omega,rfl⟩,(((ai.rfl_.next E6).next E10).only O2 (hg6))⟩
 with_reducible (replace Q4:=c8 Q4;replace Q4:=dT_ Q4)
 (try simp only [bo,bw,and_true] at Q4)
 refine ae rfl (mvi rfl (ae rfl (mvi rfl (ae rfl (eG (v:=.int _ _) bK rfl rfl rfl ?_)))));intro b16 w6 E16 hb16 hk16;refine ae rfl (aB cX (dZ 1 n (some ⟨b16,0,none⟩) 1 [id] _ (fe hk16) (by simp)) ?_);rintro v17 w7 ⟨rfl,rfl⟩;refine ae rfl (aa (cf rfl) (aa (au (v:=.bool _) rfl rfl) (aj (ah (aV rfl (fun Q8=>?_) (fun Q8=>?_))))))
 ·with_reducible (replace Q8:=cZ Q8;replace Q8:=dF_ Q8)
  (try simp only [bo,bw,and_true] at Q8)
  refine ak (ag (aa (cA (l:=[]) (dE)) (bP (vs:=[_,_,_,_,_,_,_,_,_,_,_,_,_,_,_,_,_,_,_,_,_,_]) av rfl rfl (by simp [Value.oneCell']) ((hk6.from_ ((ai.rfl_.next E10).next E16))) rfl ?_)));intro w9 O2 P2;refine asi rfl (aj (ah (aA (ay (fW rfl (cU (cs:=[_,_,_,_,_,_,_,_,_,_,_,_,_,_,_,_,_,_,_,_,_,_]) aG av rfl (by first | exact P5.whole | exact P2.whole)) (ed (v:=.int _ _) rfl) ?_)))));exact ⟨.inr ⟨by unfold lC;omega,rfl⟩,((((ai.rfl_.next E6).next E10).next E16).only O2 (hg6))⟩
 with_reducible (replace Q8:=c8 Q8;replace Q8:=dT_ Q8)
 (try simp only [bo,bw,and_true] at Q8)
 refine aP (ah (ak (ag (mvi rfl (mvi rfl (mvi rfl (aa (cA (l:=[(0,.tmp 21),(1,.tmp 22),(11,.tmp 23)]) (kW _ _ _)) (aa (cA (l:=[(0,.tmp 24)]) (qi _ _ _ _ _ _ _ _ _ _ _ _ _ _ _ _ _ _ _ _ _ _ _ _ _ _ _ _ _ _ _ _ _ _)) ?_))))))));have hM8:ai _ w6:=((ai.rfl_.next E10).next E16);have hz8:=((((ai.rfl_.next E6).next E10).next E16)).size;refine bG lz ?_;intro b8 w10 E8 hb8 hk8;have hg8:w.heap.size≤b8:=by omega
 have hk6b:=hk6.from_ (hM8.next E8);have h68:b6≠b8:=by have:=(hk6.from_ hM8).lt;omega
 refine bP (vs:=[_,_,_,_,_,_,_,_,_,_,_,_,_,_,_,_,_,_,_,_,_,_]) jE rfl rfl (by simp [Value.oneCell']) (hk8) rfl ?_;intro w11 O3 P3;have hb8:Blk w11 b8 91 (rfV ({ zR with id:=id,nodes:=n,seed:=seed }:Rf) a0++[]).toArray:=P3;have hk6c:=hk6b.only O3 h68;refine aj (ah (ak (ag ?_)));have hB8:ai w w11:=(((((ai.rfl_.next E6).next E10).next E16).next E8).only O3 (hg8));refine aB jD (oO 91 b8 { zR with id:=id,nodes:=n,seed:=seed } a0 [] _ hb8) ?_;rintro v26 w12 ⟨rfl,hb26,hC26⟩;have hk6d:=hk6c.chg hC26 h68;refine aj (ah (ak (ag (aa (af aC rfl) (aa (aH (cs:=rfV (pL id n seed) a0) aG av rfl (jk (hb26.from_ ai.rfl_))) (bP (vs:=[_,_,_,_,_,_,_,_,_,_,_,_,_,_,_,_,_,_,_,_,_,_]) av rfl rfl (by simp [Value.oneCell']) ((hk6d.from_ ai.rfl_)) rfl ?_))))));intro w13 O5 P5;refine asi rfl (aj (ah (aA (fW rfl (cU (cs:=[_,_,_,_,_,_,_,_,_,_,_,_,_,_,_,_,_,_,_,_,_,_]) aG av rfl (by first | exact P5.whole | exact P2.whole)) (ed (v:=.int _ _) rfl) ?_))));exact ⟨.inl ⟨by unfold lC;omega,rfl⟩,((hB8.chg hC26 (fun k hk=>by rw [show k=b8 from hk];exact hg8)).only O5 (hg6))⟩
theorem td (s:Rf) (a:Ra) (w:World) (hrd:eD w s a) (hl:s.votes.length≤1000000∧s.next.length≤1000000∧s.mtch.length≤1000000∧s.sent.length≤1000000∧s.reads.length≤1000000∧∀ q∈s.reads,q.acks.length≤1000000) (hel:s.es.length≤1000000) (hm:gj s=true) :
 Rt prog 23 [.agg (rfV s a).toArray] w (fun v w'=>vx w w' (gp s) v∧ai w w'):=by
 refine enter (n:=27) Tryz.func23 rfl rfl rfl (ak (ag (cC (v:=.agg _) rfl ?_)));intro b1 w1 E1 hb1 hk1;refine bG bS ?_;intro b2 w2 E2 hb2 hk2;have hg2:w.heap.size≤b2:=by rw [hb2];exact ((ai.rfl_.next E1)).size
 refine ass rfl (asi rfl (aj (ah (ak (ag (aa (aH (cs:=rfV s a) aG av rfl (((hk1.from_ E2).from_ ai.rfl_).whole)) ?_))))));have hB9:ai w w2:=((ai.rfl_.next E1).next E2);have hk2b:=hk2.from_ ai.rfl_;have hlt2:=hk2b.lt;refine aB gH (kv s a _ (hrd.from_ ((ai.rfl_.next E1).next E2)) hl hel hm) ?_;rintro v9 w3 ⟨g,rfl,h9⟩;refine mvt rfl (aa (aS rfl rfl) (aa (aS rfl rfl) (asp rfl (asi rfl (aj (ah (ak (ak (ag (mvi rfl (aa (dI (dr rfl rfl) rfl) (aj (ah ?_)))))))))))));refine bF rfl (aP (ah (ak (ag (mvp rfl (aB sY (uM _ _ 96 g s _ (h9.from_ ai.rfl_) (jn hm)) ?_))))));rintro v17 w4 ⟨rfl,h17⟩;obtain ⟨tag9,a9,O9,oc9,L9,hs9⟩:=h17.ex;have hF17:=fp h17;have hk2c:=hk2b.from_ hF17;have hz9:=hB9.size;have hBq:ai w w4:=(hB9.next (fp h17));have hn2:b2≠g:=fun e=>by have h1:=hs9.z b2 hlt2;rw [e,hs9.gc] at h1;cases h1
 replace hn2:=hn2.symm;refine aj (ah (ak ?_));have hU5:mR [(0,18,.pointer (some ⟨g,0,none⟩)),(1,19,.pointer (some ⟨g,0,none⟩)),(2,20,.pointer (some ⟨g,0+0,none⟩)),(3,21,.pointer (some ⟨g,0+0+0,none⟩)),(4,22,.agg (rfV (gp s).s a9).toArray),(5,23,.pointer (some ⟨g,0,none⟩)),(6,24,.pointer (some ⟨g,0,none⟩)),(7,25,.pointer (some ⟨g,0+22,none⟩)),(8,26,.slice O9 L9.length oc9),(10,3,.slice O9 L9.length oc9),(11,4,.int .i64 0)]:=by simp [mR]
 refine sh [(0,18,.pointer (some ⟨g,0,none⟩)),(1,19,.pointer (some ⟨g,0,none⟩)),(2,20,.pointer (some ⟨g,0+0,none⟩)),(3,21,.pointer (some ⟨g,0+0+0,none⟩)),(4,22,.agg (rfV (gp s).s a9).toArray),(5,23,.pointer (some ⟨g,0,none⟩)),(6,24,.pointer (some ⟨g,0,none⟩)),(7,25,.pointer (some ⟨g,0+22,none⟩)),(8,26,.slice O9 L9.length oc9),(10,3,.slice O9 L9.length oc9),(11,4,.int .i64 0)] (fun S w'=>Blk w' g 96 ((rfV (gp s).s a9)++[Value.slice O9 L9.length oc9]).toArray∧(∃ cs:Array Value,cs.size=22∧Blk w' b2 29 cs∧(S 9=true→cs=(rfV (gp s).s a9).toArray))∧Chg (fun k=>k=b2) w4 w') (by kernel_rfl) (by kernel_rfl) hU5 (by simp) (⟨(hs9.b.from_ ai.rfl_).from_ ai.rfl_.d1,⟨_,rfl,(hk2c.from_ ai.rfl_).from_ ai.rfl_.d1,fun h=>(by cases h)⟩,ai.rfl_.d1.toChg⟩) ?_ ?_
 ·constructor
  ·rintro S L' wS hI hM hS0 ⟨-⟩;have e5:=hI.1 5 (by simp);have hM':=hM;obtain ⟨hgB,⟨cs9,hs9z,hq9,hqe⟩,hC9⟩:=hM';exact dq (a_ e5) ⟨hI.put hU5 (.head _),hM⟩
  constructor
  ·rintro S L' wS hI hM hS0 ⟨d0,-⟩;have e18:bD L' 18=.pointer (some ⟨g,0,none⟩):=hI.get (i:=0) (.head _) d0;have hM':=hM;obtain ⟨hgB,⟨cs9,hs9z,hq9,hqe⟩,hC9⟩:=hM';exact dq (aE e18) ⟨hI.put hU5 (.tail _ (.head _)),hM⟩
  constructor
  ·rintro S L' wS hI hM hS0 ⟨d1,-⟩;have e19:bD L' 19=.pointer (some ⟨g,0,none⟩):=hI.get (i:=1) (.tail _ (.head _)) d1;have hM':=hM;obtain ⟨hgB,⟨cs9,hs9z,hq9,hqe⟩,hC9⟩:=hM';exact dq (af aK e19) ⟨hI.put hU5 (.tail _ (.tail _ (.head _))),hM⟩
  constructor
  ·rintro S L' wS hI hM hS0 ⟨d2,-⟩;have e20:bD L' 20=.pointer (some ⟨g,0+0,none⟩):=hI.get (i:=2) (.tail _ (.tail _ (.head _))) d2;have hM':=hM;obtain ⟨hgB,⟨cs9,hs9z,hq9,hqe⟩,hC9⟩:=hM';exact dq (af aC e20) ⟨hI.put hU5 (.tail _ (.tail _ (.tail _ (.head _)))),hM⟩
  constructor
  ·rintro S L' wS hI hM hS0 ⟨d3,-⟩;have e21:bD L' 21=.pointer (some ⟨g,0+0+0,none⟩):=hI.get (i:=3) (.tail _ (.tail _ (.tail _ (.head _)))) d3;have hM':=hM;obtain ⟨hgB,⟨cs9,hs9z,hq9,hqe⟩,hC9⟩:=hM';exact dq (aH (cs:=(rfV (gp s).s a9)) aG av e21 (jk hgB)) ⟨hI.put hU5 (.tail _ (.tail _ (.tail _ (.tail _ (.head _))))),hM⟩
  constructor
  ·rintro S L' wS hI hM hS0 ⟨-,-⟩;have e5:=hI.1 5 (by simp);have hM':=hM;obtain ⟨hgB,⟨cs9,hs9z,hq9,hqe⟩,hC9⟩:=hM';exact dq (a_ e5) ⟨hI.put hU5 (.tail _ (.tail _ (.tail _ (.tail _ (.tail _ (.head _)))))),hM⟩
  constructor
  ·rintro S L' wS hI hM hS0 ⟨d5,-,-⟩;have e23:bD L' 23=.pointer (some ⟨g,0,none⟩):=hI.get (i:=5) (.tail _ (.tail _ (.tail _ (.tail _ (.tail _ (.head _)))))) d5;have hM':=hM;obtain ⟨hgB,⟨cs9,hs9z,hq9,hqe⟩,hC9⟩:=hM';exact dq (aE e23) ⟨hI.put hU5 (.tail _ (.tail _ (.tail _ (.tail _ (.tail _ (.tail _ (.head _))))))),hM⟩
  constructor
  ·rintro S L' wS hI hM hS0 ⟨d6,-,-⟩;have e24:bD L' 24=.pointer (some ⟨g,0,none⟩):=hI.get (i:=6) (.tail _ (.tail _ (.tail _ (.tail _ (.tail _ (.tail _ (.head _))))))) d6;have hM':=hM;obtain ⟨hgB,⟨cs9,hs9z,hq9,hqe⟩,hC9⟩:=hM';exact dq (af iP e24) ⟨hI.put hU5 (.tail _ (.tail _ (.tail _ (.tail _ (.tail _ (.tail _ (.tail _ (.head _)))))))),hM⟩
  constructor
  ·rintro S L' wS hI hM hS0 ⟨d7,-,-⟩;have e25:bD L' 25=.pointer (some ⟨g,0+22,none⟩):=hI.get (i:=7) (.tail _ (.tail _ (.tail _ (.tail _ (.tail _ (.tail _ (.tail _ (.head _)))))))) d7;have hM':=hM;obtain ⟨hgB,⟨cs9,hs9z,hq9,hqe⟩,hC9⟩:=hM';exact dq (ar mU e25 (by exact (show _=some (Value.slice O9 L9.length oc9) from hgB.rd 22 rfl))) ⟨hI.put hU5 (.tail _ (.tail _ (.tail _ (.tail _ (.tail _ (.tail _ (.tail _ (.tail _ (.head _))))))))),hM⟩
  constructor
  ·rintro S L' wS hI hM hS0 ⟨d4,d0,d1,d2,d3,d4,-,-,-,-,-⟩;have e2:=hI.1 2 (by simp);have e22:bD L' 22=.agg (rfV (gp s).s a9).toArray:=hI.get (i:=4) (.tail _ (.tail _ (.tail _ (.tail _ (.head _))))) d4;have hM':=hM;obtain ⟨hgB,⟨cs9,hs9z,hq9,hqe⟩,hC9⟩:=hM';obtain ⟨w2,hR,hO,hb⟩:=jI (n:=27) (L:=L') (x:=.tmp 2) (y:=.tmp 22) (vs:=(rfV (gp s).s a9)) av e2 e22 (by simp [rfV,Value.oneCell']) hq9 (by rw [hs9z];rfl);exact lO hR ⟨hI.skip (by simp),hgB.only hO hn2,⟨_,rfl,hb,fun _=>rfl⟩,hC9.next (hO.toChg rfl)⟩
  constructor
  ·rintro S L' wS hI hM hS0 ⟨d8,d9,d0,d1,d2,d3,d4,d5,d6,d7,d8,d9,-⟩;have e26:bD L' 26=.slice O9 L9.length oc9:=hI.get (i:=8) (.tail _ (.tail _ (.tail _ (.tail _ (.tail _ (.tail _ (.tail _ (.tail _ (.head _))))))))) d8;have hM':=hM;obtain ⟨hgB,⟨cs9,hs9z,hq9,hqe⟩,hC9⟩:=hM';exact dq (dW e26) ⟨hI.put hU5 (.tail _ (.tail _ (.tail _ (.tail _ (.tail _ (.tail _ (.tail _ (.tail _ (.tail _ (.head _)))))))))),hM⟩
  constructor
  ·rintro S L' wS hI hM hS0 ⟨d10,d0,d1,d2,d3,d4,d5,d6,d7,d8,d9,d10,-⟩;have hM':=hM;obtain ⟨hgB,⟨cs9,hs9z,hq9,hqe⟩,hC9⟩:=hM';exact dq (dW rfl) ⟨hI.put hU5 (.tail _ (.tail _ (.tail _ (.tail _ (.tail _ (.tail _ (.tail _ (.tail _ (.tail _ (.tail _ (.head _))))))))))),hM⟩
  exact trivial
 ·intro w6 hM;obtain ⟨hgB,⟨cs9,hs9z,hq9,hqe⟩,hC9⟩:=hM;have hqe:=hqe rfl;subst hqe;refine ah (aA (tv rfl (cU (cs:=[_,_,_,_,_,_,_,_,_,_,_,_,_,_,_,_,_,_,_,_,_,_]) aG av rfl (by exact hq9.whole)) (ed (v:=.slice _ _ _) rfl) (ed (v:=.int _ _) rfl) ?_));exact ⟨vx.mk_ hs9 (fun k hk=>Nat.lt_of_lt_of_le hk hz9) (hC9.wide (fun k hk=>.inl (by rw [show k=b2 from hk];exact hlt2))),(hBq.chg hC9 (fun k hk=>by rw [show k=b2 from hk];exact hg2))⟩
section
variable {P:Program} {ops:Array Oper} {Q:Exit→Act→World→Prop} {rest:List Oper} {n:Fr} {L:List (Nat×Value)} {w0 w:World} {Z:Nat→Prop} {ty:TypeId} {pos:String} {after:Array Edge} {t:TypeId} {x y:Operand} {T g:Nat} {p:Sp} {s':Rf}
theorem tk {k:Nat} {v:Value} (ht:dH P t=some 1) (hx:ev n L x=.pointer (some ⟨g,k,none⟩)) (hy:ev n L y=v) (h1:v.oneCell'=true) (h:bN w0 Z w T g p) (e:∀ a,k<22∧(rfV p.s a).set k v=rfV s' a)
 (hr:s'.es=p.s.es∧s'.votes=p.s.votes∧s'.next=p.s.next∧s'.mtch=p.s.mtch∧s'.sent=p.s.sent∧s'.reads=p.s.reads)
 (kk:∀ w',bN w0 Z w' T g ⟨s',p.out⟩→St P ops Q rest n L w'):St P ops Q (⟨none,.store t x y,ty,pos,after,none⟩::rest) n L w:=by
 obtain ⟨tag,a,O,oc,L1,hs⟩:=h.ex;exact cF ht hx hy h1 hs.b (e a) fun w' o b=>kk w' (h.set hs (o.toChg rfl) (aQ.same hs.f hr.1 hr.2.1 hr.2.2.1 hr.2.2.2.1 hr.2.2.2.2.1 hr.2.2.2.2.2) b).2
end
def x_ (w w':World) (p:Sp) (tag:Nat→Nat) (a:Ra) (O:Option Addr) (oc:Nat) (L:List Msg):Prop:=aQ w' tag p.s a∧eQ w' tag p.out O oc L∧∀ k,k<w.heap.size→tag k=8
def xZ (p:Sp) (a:Ra) (O:Option Addr) (oc:Nat) (L:List Msg):List Value:=[.agg (rfV p.s a).toArray,.slice O L.length oc]
theorem qP (A:Option Addr) (c:Nat) (n:Int) (L:List Int) (w:World) (hr:dK iV w A L) (hl:L.length≤1000000) (h:1≤n∧n≤7):Rt prog 85 [.int .i64 n,.slice A L.length c] w fun v w'=>v=.bool (dJ n L)∧ai w w':=by
 obtain ⟨N,rfl⟩:∃ N:Nat,n=N:=⟨n.toNat,by omega⟩;refine (oC A c N L w hr hl (by omega)).mono fun v w' h9=>⟨h9.1.trans (congrArg Value.bool ?_),h9.2 ▸ ai.rfl_⟩
 unfold dJ;exact decide_eq_decide.2 (by rw [Int.toNat_natCast];omega)
end Go.Proofs.YtkpooenofjdpmaaGreat
