/- texts that the claim stands on. -/
import Derived.Test.YtcbakncjacnnjaaGreatSlShLawE5
import Derived.Sort.Grow
import Derived.Shelf.SlSortCmp.NoneTotal
import Derived.Shelf.SlSortCmp.WholeK
set_option maxRecDepth 100000
set_option maxHeartbeats 4000000
namespace Go.Proofs.YtcbakncjacnnjaaGreat
open Go.Proofs.Tryz (prog)
open Go.RowKit
open Go.ChangeShapes Go.WideShapes Go.ChangeAt
open Go.Proofs.YtcbakncjacnnjaaGreat.SA
theorem oM:fJ prog 64=some false:=by kernel_rfl
theorem j6:cU prog 66 1=some 1:=by kernel_rfl
theorem tO:aH prog 69=true:=by kernel_rfl
theorem mg:cU prog 66 0=some 0:=by kernel_rfl
theorem oO:fJ prog 58=some false:=by kernel_rfl
theorem Ah:aH prog 96=true:=by kernel_rfl
theorem oK:aH prog 74=true:=by kernel_rfl
theorem kZ:fJ prog 108=some false:=by kernel_rfl
theorem mi:cU prog 57 0=some 0:=by kernel_rfl
theorem wI:aH prog 73=true:=by kernel_rfl
theorem wJ:aH prog 77=true:=by kernel_rfl
theorem An:aH prog 72=true:=by kernel_rfl
theorem Aq:aH prog 71=true:=by kernel_rfl
theorem Am:aH prog 75=true:=by kernel_rfl
theorem Ak:aH prog 76=true:=by kernel_rfl
structure PtIn (w:World) (p:Pt):Prop where
 row:bU Value.string w p.A p.gone
 len:p.gone.length≤100000000
 so:SO p.gone
 seg:kF w p.lo p.hi p.s p.ds
theorem PtIn.from_ {w w':World} {p:Pt} (h:PtIn w p) (hF:aj w w'):PtIn w' p:=⟨h.row.from_ hF,h.len,h.so,h.seg.from_ hF⟩
structure nw (w:World) (g o:Nat) (p:Pt):Prop extends PtIn w p where
 ptr:w.cell? ⟨g,o,none⟩=some (.pointer (some ⟨p.s,0,none⟩))
 sl:w.cell? ⟨g,o+1,none⟩=some (.slice p.A p.gone.length p.c)
theorem nw.from_ {w w':World} {g o:Nat} {p:Pt} (h:nw w g o p) (hF:aj w w'):nw w' g o p:=⟨h.toPtIn.from_ hF,bu hF h.ptr,bu hF h.sl⟩
theorem nw.box {w:World} {b t:Nat} {p:Pt} (h:PtIn w p) (hk:Blk w b t (ptV p).toArray):nw w b 0 p:=⟨h,hk.rd 0 rfl,hk.rd 1 rfl⟩
theorem sr {w:World} {base e n c:Nat} {A:Option Addr} {ss:List ByteArray} (h:w.ownsRow base e 1 (.slice A n c) n (ss.map Value.string)):bU Value.string w A ss:=(bU.own h).2
theorem ShH.ptIn {w:World} {ps:List Pt} {L D:List Dc} {s cp cl:Nat} {Ap Al:Option Addr} (h:ShH w ps L s Ap cp Al cl) (hG:ShG ps L D) {p:Pt} (hp:p∈ps):PtIn w p:=by
 have h2:=(hG.part _ hp).2.1;have h3:=(h.seg _ hp).at.docs.2.1;exact ⟨sr (h.gone _ hp),by omega,(hG.part _ hp).1,h.seg _ hp⟩
theorem sF {w:World} {base m c g:Nat} {ps:List Pt} (h:w.ownsRow base 66 2 (.slice (some ⟨g,0,none⟩) m c) m (ps.flatMap ptV)) (hP:∀ p∈ps,PtIn w p) {i:Nat} (hi:i<ps.length):nw w g (0+i*2) ps[i]:=by
 obtain ⟨hl,hr⟩:=cN.own kQ (by decide) h;obtain ⟨b,o,e,hc⟩:=hr (by omega);cases e;have h1:=hc i hi;exact ⟨hP _ (List.getElem_mem hi),h1 0 _ rfl,h1 1 _ rfl⟩
def zG (p:Pt) (id:ByteArray):Prop:=∃ d∈p.live,d.1=id
theorem lQ (A:Option Addr) (c n:Nat) (ds:List Dc) (w:World) (hr:cN 2 dV w A ds) (hn:n=ds.length) (hl:n≤100000000) (hz:dsz ds≤1000000000000) :
 Rt prog 51 [.slice A n c] w (fun v w'=>v=.int .i64 (dsz ds:Nat)∧aj w w'):=by
 refine enter (n:=19) Tryz.func51 rfl rfl rfl (ag (aa (asi rfl (ah (ae (ag (aa (asi rfl (ah (ae (ag (ag (aa (mvs rfl (ab (aU bx rfl) (mvi rfl ?_))))))))))))))));refine ah (ae (az (bg (G:=Nat) [5,9,10,11,12,13,14,15,16,17] (fun i=>[(3,.int .i64 (dsz (ds.take i):Nat)),(8,.int .i64 (i:Nat))]) (fun i w'=>i≤ds.length∧aj w w') (fun i=>ds.length-i) (0) ⟨rfl,rfl,trivial⟩ ?_ ?_)))
 ·exact ⟨Nat.zero_le _,aj.rfl_⟩
 rintro i ρ1 w1 ⟨hi,hB⟩;refine ag (aa (ab (aY rfl rfl) (ah (ae (ag (K8 rfl (fun Q2=>?_) (fun Q2=>?_)))))))
 ·obtain ⟨bd,od,rfl,hcd⟩:=hr (by omega);have hil:i<ds.length:=by omega
  have hce:=hcd i hil;obtain ⟨d,hd⟩:∃ d,ds[i]=d:=⟨_,rfl⟩;have hdi:ds.getD i dd=d:=by rw [bO hil,hd]
  rw [hd] at hce;have hdz:=iM hil;rw [hdi] at hdz;have hdz2:=tj (ds:=ds) (i+1);refine au (ae (ag (az (ag (aa (ab (aG aP rfl rfl (by omega)) (ab (bk (cs:=[_,_]) bJ bh rfl (by exact da hB hce)) ?_)))))));refine dE kk ?_;intro b5 w3 E5 hb5 hk5;have hg5:w.heap.size≤b5:=by rw [hb5];exact (hB).size
  refine fz (vs:=[_,_]) bh rfl rfl (by simp [Value.oneCell']) (hk5) rfl ?_;intro w4 O4 P4;refine ah (ae (aa (mvi rfl (ab (ak bR rfl) (ab (aq aX rfl (by exact (P4.from_ aj.rfl_).rd 1 rfl)) ?_)))));refine ab (ck (by kernel_rfl) rfl) (ab (aI rfl rfl (by omega)) (asi rfl (ah (aL (ae (aa (ab (aI (b:=1) rfl rfl (by omega)) (mvi rfl (ah ?_)))))))));refine aO (i+1) ⟨(aM (by rw [iM hil,hdi])),rfl,trivial⟩ (by (iterate 24 refine aB rfl ?_);exact aK) ⟨?_,?_⟩
  ·exact ⟨by omega,((hB.next E5).only O4 (hg5))⟩
  ·show ds.length-(i+1)<ds.length-i;omega
 refine aZ (aC (aC (aT (ae (ag (aa (mvi rfl (asi rfl (ah (ae (aA (bE (v:=.int _ _) rfl rfl ?_))))))))))));obtain rfl:i=ds.length:=by omega
 rw [List.take_length];exact ⟨rfl,hB⟩
theorem r0 (id:ByteArray) (w:World) (hs:id.size≤140737488351232) :
 Rt prog 34 [.string id] w (fun v w'=>v=.bool (decide (1≤id.size∧id.size≤64))∧aj w w'):=by
 refine enter (n:=11) Tryz.func34 rfl rfl rfl (ag (aa (asb rfl (ah (ae (ag (aa (mvg rfl (ab (ck (by kernel_rfl) rfl) (ab (ek rfl rfl) (mvb rfl (KB (t:=6) rfl (fun Q1=>?_) (fun Q1=>?_)))))))))))))
 ·refine al rfl (mvg rfl (al rfl (ab (ck (by kernel_rfl) rfl) (al rfl (ab (mP rfl rfl) (ab (a_ (v:=.bool _) rfl rfl) (asb rfl (ah (ae (aA ?_))))))))));refine bE (v:=.bool _) rfl rfl (⟨congrArg Value.bool ?_,aj.rfl_⟩)
  first
   |(rw [Bool.eq_iff_iff];simp;omega)
   |(symm;rw [decide_eq_false_iff_not];omega)
 refine aD rfl rfl (aD rfl rfl (aD rfl rfl (ab (aR (v:=.bool _) rfl rfl) (asb rfl (ah (ae (aA (bE (v:=.bool _) rfl rfl (⟨congrArg Value.bool ?_,aj.rfl_⟩)))))))))
 first
  |(rw [Bool.eq_iff_iff];simp;omega)
  |(symm;rw [decide_eq_false_iff_not];omega)
theorem qJ (g o:Nat) (p:Pt) (w:World) (h:nw w g o p) (id:ByteArray) :
 Rt prog 74 [.pointer (some ⟨g,o,none⟩),.string id] w (fun v w'=>v=.bool (rq id p.gone)∧aj w w'):=by
 refine enter (n:=17) Tryz.func74 rfl rfl rfl (ag (aa (asb rfl (ah (ae (ag (aa (mvp rfl (ab (ay rfl) (ab (ak j6 rfl) (ab (aq oM rfl (by exact bu aj.rfl_ h.sl)) ?_)))))))))));refine mvg rfl (ax tO (AX p.A p.c p.gone.length p.gone _ (h.row.from_ aj.rfl_) rfl h.len id h.so) ?_);rintro v13 w1 ⟨⟨i,fd,rfl,hi,h1,h2,h3⟩,E13⟩;obtain rfl:=C1 h.so h1 h2 h3;refine mvt rfl (ab (aw rfl rfl) (ab (aw rfl rfl) (asi rfl (asb rfl (ah (ae (ag (aa (mvb rfl (asb rfl (ah (ae (aA ?_)))))))))))));refine bE (v:=.bool _) rfl rfl (⟨rfl,(aj.rfl_.next E13)⟩)
theorem J5 (g o:Nat) (p:Pt) (w:World) (h:nw w g o p) (id:ByteArray) :
 Rt prog 68 [.pointer (some ⟨g,o,none⟩),.string id] w (fun v w'=>(∃ b:Bool,v=.bool b∧(b=true↔zG p id))∧aj w w'):=by
 refine enter (n:=24) Tryz.func68 rfl rfl rfl (ag (aa (asb rfl (ah (ae (ag (aa (mvp rfl (ab (ay rfl) (ab (ak mg rfl) (ab (aq oO rfl (by exact bu aj.rfl_ h.ptr)) ?_)))))))))));refine mvg rfl (ax Ah (Kg p.lo p.s p.ds _ (h.seg.at.from_ aj.rfl_) id) ?_);rintro v13 w1 ⟨hd13,E13⟩;rcases hd13 with ⟨i0,hi0,hid0,rfl⟩ | ⟨hno,rfl⟩
 ·refine mvt rfl (ab (aw rfl rfl) (ab (aw rfl rfl) (asg rfl (asi rfl (ah (ae (ag (aa (mvi rfl (ab (cy rfl rfl) (mvb rfl ?_)))))))))));refine KB (t:=18) rfl (fun Q2=>?_) (fun Q2=>?_);rotate_left
  ·exfalso;omega
  refine al rfl (mvp rfl (al rfl (mvg rfl (al rfl (ax oK (qJ g o p _ (h.from_ (aj.rfl_.next E13)) id) ?_)))));rintro v21 w3 ⟨rfl,E21⟩;refine al rfl (ab (ff rfl) (ab (a_ (v:=.bool _) rfl rfl) (asb rfl (ah (ae (aA (bE (v:=.bool _) rfl rfl ?_)))))))
  first
   |exact ⟨⟨_,rfl,⟨fun hq=>⟨p.ds[i0],ot.2 ⟨List.getElem_mem hi0,by rw [←bO hi0,hid0];exact kT.1 hq⟩,by rw [←bO hi0,hid0]⟩,fun ⟨d,hd,e⟩=>kT.2 (e ▸ (ot.1 hd).2)⟩⟩,((aj.rfl_.next E13).next E21)⟩
   |exact ⟨⟨_,rfl,⟨fun hq=>(by cases hq),fun ⟨d,hd,e⟩=>by obtain ⟨j,hj,rfl⟩:=List.getElem_of_mem (ot.1 hd).1;exact absurd (by rw [bO hj];exact e) (hno j hj)⟩⟩,((aj.rfl_.next E13).next E21)⟩
 refine mvt rfl (ab (aw rfl rfl) (ab (aw rfl rfl) (asg rfl (asi rfl (ah (ae (ag (aa (mvi rfl (ab (cy rfl rfl) (mvb rfl ?_)))))))))));refine KB (t:=18) rfl (fun Q4=>?_) (fun Q4=>?_)
 ·exfalso;omega
 refine aD rfl rfl (aD rfl rfl (aD rfl rfl (aD rfl rfl (ab (aR (v:=.bool _) rfl rfl) (asb rfl (ah (ae (aA (bE (v:=.bool _) rfl rfl ?_)))))))))
 first
  |exact ⟨⟨_,rfl,⟨fun hq=>⟨p.ds[i0],ot.2 ⟨List.getElem_mem hi0,by rw [←bO hi0,hid0];exact kT.1 hq⟩,by rw [←bO hi0,hid0]⟩,fun ⟨d,hd,e⟩=>kT.2 (e ▸ (ot.1 hd).2)⟩⟩,(aj.rfl_.next E13)⟩
  |exact ⟨⟨_,rfl,⟨fun hq=>(by cases hq),fun ⟨d,hd,e⟩=>by obtain ⟨j,hj,rfl⟩:=List.getElem_of_mem (ot.1 hd).1;exact absurd (by rw [bO hj];exact e) (hno j hj)⟩⟩,(aj.rfl_.next E13)⟩
theorem Fm (g o:Nat) (p:Pt) (w:World) (h:nw w g o p) (b:Nat) (hb:Blk w b 108 #[.pointer (some ⟨g,o,none⟩)]) (d:Dc) :
 Rt prog 73 [.agg (dV d).toArray,.pointer (some ⟨b,0,none⟩)] w (fun v w'=>v=.bool (rq d.1 p.gone)∧aj w w'):=by
 refine enter (n:=8) Tryz.func73 rfl rfl rfl (ag (aa (c0 (v:=.agg _) rfl ?_)));intro b2 w1 E2 hb2 hk2;refine asb rfl (ah (ae (ag (aa (ab (aq kZ rfl (by exact (hb.from_ (aj.rfl_.next E2)).rd 0 rfl)) ?_)))));refine ab (ak aW rfl) (ab (aq aX rfl (by exact hk2.rd 0 rfl)) ?_);refine ax oK (qJ g o p _ (h.from_ (aj.rfl_.next E2)) d.1) ?_;rintro v7 w2 ⟨rfl,E7⟩;refine asb rfl (ah (ae (aA (bE (v:=.bool _) rfl rfl (⟨rfl,((aj.rfl_.next E2).next E7)⟩)))))
theorem FC (g o:Nat) (p:Pt) (w:World) (h:nw w g o p) (b:Nat) (hb:Blk w b 108 #[.pointer (some ⟨g,o,none⟩)]) (d:Ht) :
 Rt prog 77 [.agg (hV d).toArray,.pointer (some ⟨b,0,none⟩)] w (fun v w'=>v=.bool (rq d.1 p.gone)∧aj w w'):=by
 refine enter (n:=8) Tryz.func77 rfl rfl rfl (ag (aa (c0 (v:=.agg _) rfl ?_)));intro b2 w1 E2 hb2 hk2;refine asb rfl (ah (ae (ag (aa (ab (aq kZ rfl (by exact (hb.from_ (aj.rfl_.next E2)).rd 0 rfl)) ?_)))));refine ab (ak mi rfl) (ab (aq aX rfl (by exact hk2.rd 0 rfl)) ?_);refine ax oK (qJ g o p _ (h.from_ (aj.rfl_.next E2)) d.1) ?_;rintro v7 w2 ⟨rfl,E7⟩;refine asb rfl (ah (ae (aA (bE (v:=.bool _) rfl rfl (⟨rfl,((aj.rfl_.next E2).next E7)⟩)))))
theorem rQ (g o:Nat) (p:Pt) (w:World) (h:nw w g o p) :
 Rt prog 39 [.pointer (some ⟨g,o,none⟩)] w (fun v w'=>(∃ A' c',v=.slice A' p.live.length c'∧w'.ownsRow w.heap.size 37 2 (.slice A' p.live.length c') p.live.length (p.live.flatMap dV))∧aj w w'):=by
 have hdl:=h.seg.at.docs.2.1;refine enter (n:=10) Tryz.func39 rfl rfl rfl (ag (aa (c0 (v:=.pointer _) rfl ?_)));intro b1 w1 E1 hb1 hk1;refine ass rfl (ah (ae (ag (aa (ab (aq kZ rfl (by exact (hk1.from_ aj.rfl_).rd 0 rfl)) ?_)))));refine ab (ay rfl) (ab (ak mg rfl) (ab (aq oO rfl (by exact bu (aj.rfl_.next E1) h.ptr)) ?_));have hz:=((aj.rfl_.next E1)).size;have hy:=Nat.le_refl (w1).heap.size;refine ax An (Is p.lo p.s p.ds _ (h.seg.at.from_ (aj.rfl_.next E1))) ?_;rintro v7 w2 ⟨⟨A7,c7,rfl,ho7⟩,E7⟩;refine ab (eE (v':=.func (.func 73) #[] #[.pointer (some ⟨b1,0,none⟩)]) (iw (l1:=[]) (l2:=[.tmp 1])) rfl) (ax Aq (ym 73 [.pointer (some ⟨b1,0,none⟩)] (fun d=>rq d.1 p.gone) wI _ A7 c7 p.ds.length p.ds _ ho7 (by omega) (fun w2 x _ hG=>Fm g o p w2 (h.from_ ((((aj.rfl_.next E1).next E7)).grew hG (fun k hk=>Nat.le_trans hz (bM ho7 k hk).1))) b1 (hk1.from_ (((aj.rfl_.next E7)).grew hG (fun k hk=>Nat.le_trans hy (bM ho7 k hk).1))) x)) ?_);rintro v9 w3 ⟨⟨A9,c9,m,rfl,hm,ho9⟩,hg9⟩;refine ass rfl (ah (ae (aA (bE (v:=.slice _ _ _) rfl rfl ?_))));subst hm;exact ⟨⟨A9,c9,rfl,fD ho9 hz⟩,((((aj.rfl_.next E1).next E7)).grew hg9 (fun k hk=>Nat.le_trans hz (bM ho7 k hk).1))⟩
theorem Ib (g o:Nat) (p:Pt) (w:World) (h:nw w g o p) (q:ByteArray) (hq:q.size≤140737488351232) (hqe:oq q=0) :
 Rt prog 41 [.pointer (some ⟨g,o,none⟩),.string q] w (fun v w'=>(∃ A' c',v=.tuple #[.slice A' (dg p.live q).length c',.int .i64 0]∧w'.ownsRow w.heap.size 57 2 (.slice A' (dg p.live q).length c') (dg p.live q).length ((dg p.live q).flatMap hV))∧aj w w'):=by
 have hdl:=h.seg.at.docs.2.1;have hdt:=h.seg.at.docs.2.2.2;have hhl:=rR (p:=q) p.ds;have hsg:lV p.ds q=dg p.ds q:=by unfold lV;rw [if_pos hqe]
 refine enter (n:=21) Tryz.func41 rfl rfl rfl (ag (aa (c0 (v:=.pointer _) rfl ?_)));intro b2 w1 E2 hb2 hk2;refine ass rfl (asi rfl (ah (ae (ag (aa (ab (aq kZ rfl (by exact (hk2.from_ aj.rfl_).rd 0 rfl)) ?_))))));refine ab (ay rfl) (ab (ak mg rfl) (ab (aq oO rfl (by exact bu (aj.rfl_.next E2) h.ptr)) ?_));refine mvg rfl ?_;have hz:=((aj.rfl_.next E2)).size;have hy:=Nat.le_refl (w1).heap.size;refine ax Am (ql p.lo p.s p.ds _ (h.seg.at.from_ (aj.rfl_.next E2)) q hq) ?_;rintro v14 w2 ⟨⟨A14,c14,rfl,ho14⟩,E14⟩;refine mvt rfl (ab (aw rfl rfl) (ab (aw rfl rfl) (ass rfl (asi rfl (ah (ae (ag (aa (mvs rfl (ab (eE (v':=.func (.func 77) #[] #[.pointer (some ⟨b2,0,none⟩)]) (iw (l1:=[]) (l2:=[.tmp 2])) rfl) (ax Ak (yl 77 [.pointer (some ⟨b2,0,none⟩)] (fun x=>rq x.1 p.gone) wJ _ A14 c14 (lV p.ds q).length (lV p.ds q) _ ho14 (by rw [hsg];omega) (fun w2 x _ hG=>FC g o p w2 (h.from_ ((((aj.rfl_.next E2).next E14)).grew hG (fun k hk=>Nat.le_trans hz (bM ho14 k hk).1))) b2 (hk2.from_ (((aj.rfl_.next E14)).grew hG (fun k hk=>Nat.le_trans hy (bM ho14 k hk).1))) x)) ?_)))))))))));rintro v19 w3 ⟨⟨A19,c19,m,rfl,hm,ho19⟩,hg19⟩;refine mvi rfl (ass rfl (asi rfl (ah (ae (aA (cZ (v:=.slice _ _ _) (v':=.int _ _) rfl rfl rfl ?_))))));rw [hsg,BG] at hm ho19;subst hm;rw [hqe];exact ⟨⟨A19,c19,rfl,fD ho19 hz⟩,((((aj.rfl_.next E2).next E14)).grew hg19 (fun k hk=>Nat.le_trans hz (bM ho14 k hk).1))⟩
end Go.Proofs.YtcbakncjacnnjaaGreat
namespace Go.Proofs.YtcbakncjacnnjaaGreat
open Go.Proofs.Tryz (prog)
open Go.RowKit Go.ChangeShapes Go.WideShapes Go.ChangeAt
open Go.Proofs.YtcbakncjacnnjaaGreat.SA
def Pz:Pt:=⟨0,0,0,[],none,0,[]⟩
theorem Chg.only {U:Nat→Prop} {w w1 w2:World} {g:Nat} (h:Chg U w w1) (ho:dh g w1 w2) (hg:U g):Chg U w w2:=h.next (ho.toChg hg)
theorem vQ {U:Nat→Prop} {w w':World} {ps ps':List Pt} {L':List Dc} {s cp' cl':Nat} {Ap Al Ap' Al':Option Addr} (h':ShH w' ps' L' s Ap' cp' Al' cl') (hU:∀ k,qU s Ap Al ps k→U k) (hA:∀ k,Ap'.map (·.block)=some k→Ap.map (·.block)=some k∨w.heap.size≤k) (hL:∀ k,Al'.map (·.block)=some k→Al.map (·.block)=some k∨w.heap.size≤k)
 (hp:∀ p∈ps',(∃ q∈ps,(∀ k,p.A.map (·.block)=some k→q.A.map (·.block)=some k∨w.heap.size≤k)∧p.lo=q.lo∧p.hi=q.hi)∨(p.A=none∧w.heap.size≤p.lo)):∀ k,qU s Ap' Al' ps' k→Nx U w w' k:=fun k hk=>by
 have hlt:=h'.lt hk
 have key:qU s Ap Al ps k∨w.heap.size≤k:=by
  rcases hk with (e | e | e | ⟨p,h1,e⟩) | ⟨p,h1,e1,e2⟩
  ·exact .inl (.inl (.inl e))
  ·exact (hA k e).imp (fun e=>.inl (.inr (.inl e))) id
  ·exact (hL k e).imp (fun e=>.inl (.inr (.inr (.inl e)))) id
  ·rcases hp p h1 with ⟨q,hq,h2,_⟩ | ⟨h2,_⟩
   ·exact (h2 k e).imp (fun e=>.inl (.inr (.inr (.inr ⟨q,hq,e⟩)))) id
   ·rw [h2] at e;cases e
  ·rcases hp p h1 with ⟨q,hq,_,h3,h4⟩ | ⟨_,h3⟩
   ·exact .inl (.inr ⟨q,hq,h3 ▸ e1,h4 ▸ e2⟩)
   ·exact .inr (Nat.le_trans h3 e1)
 exact key.elim (fun h=>.inl (hU k h)) (fun h=>.inr ⟨h,hlt⟩)
section
variable {U:Nat→Prop} {w W w':World} {ps ps':List Pt} {L L' D D':List Dc} {s cp cl cp' cl':Nat} {Ap Al Ap' Al':Option Addr}
theorem eC.same (h:eC w U s D) (hF:aj w w'):eC w' (Nx U w w') s D∧Chg U w w':=⟨(h.from_ hF).wide fun _ hk _=>.inl hk,hF.toChg⟩
theorem qk (h:ShH w ps L s Ap cp Al cl) (hU:∀ k,qU s Ap Al ps k→U k) (hF:aj w W) (hC:Chg (fun k=>k=s∨Ap.map (·.block)=some k) W w') (hb:Blk w' s 63 #[.slice Ap' ps'.length cp',.slice Al' L'.length cl'])
 (hP:w'.ownsRow 0 66 2 (.slice Ap' ps'.length cp') ps'.length (ps'.flatMap ptV)) (hA:∀ k,Ap'.map (·.block)=some k→Ap.map (·.block)=some k∨W.heap.size≤k)
 (hL:(Al'=Al∧cl'=cl∧L'=L)∨(Al'=none∧cl'=0∧L'=[]))
 (hps:∀ p∈ps',p∈ps∨(p.A=none∧p.c=0∧p.gone=[]∧kF W p.lo p.hi p.s p.ds∧w.heap.size≤p.lo)) (hpw:ps'.Pairwise fun p q=>fy p.A q.A):ShH w' ps' L' s Ap' cp' Al' cl'∧(∀ k,qU s Ap' Al' ps' k→Nx U w w' k)∧Chg U w w':=by
 have hs:=hF.size;have hH:=(h.from_ hF).setParts hC (fun k hk=>hk) hb hP hA hL (fun p hp=>(hps p hp).imp id fun ⟨e1,e2,e3,e4,e5⟩=>⟨e1,e2,e3,e4,fun k h1 h2 hm=>by have:=h.lt (.inl hm);omega⟩) hpw;refine ⟨hH,vQ hH hU (fun k hk=>(hA k hk).imp id fun e=>Nat.le_trans hs e) (fun k hk=>?_) (fun p hp=>?_),?_⟩
 ·rcases hL with ⟨e,_⟩ | ⟨e,_⟩
  ·exact .inl (e ▸ hk)
  ·rw [e] at hk;cases hk
 ·rcases hps p hp with e | ⟨e1,_,_,_,e5⟩
  ·exact .inl ⟨p,e,fun k hk=>.inl hk,rfl,rfl⟩
  ·exact .inr ⟨e1,e5⟩
 ·refine hF.toChg.next (hC.wide fun k hk=>.inl ?_);rcases hk with e | e
  ·exact hU k (.inl (.inl e))
  ·exact hU k (.inl (.inr (.inl e)))
theorem pg (h:ShH w ps L s Ap cp Al cl) (hU:∀ k,qU s Ap Al ps k→U k) (hF:aj w W) (hC:Chg (fun k=>k=s∨Ap.map (·.block)=some k) W w') (hb:Blk w' s 63 #[.slice Ap' ps'.length cp',.slice Al' L'.length cl'])
 (hP:w'.ownsRow 0 66 2 (.slice Ap' ps'.length cp') ps'.length (ps'.flatMap ptV)) (hA:∀ k,Ap'.map (·.block)=some k→Ap.map (·.block)=some k∨W.heap.size≤k)
 (hL:(Al'=Al∧cl'=cl∧L'=L)∨(Al'=none∧cl'=0∧L'=[]))
 (hps:∀ p∈ps',p∈ps∨(p.A=none∧p.c=0∧p.gone=[]∧kF W p.lo p.hi p.s p.ds∧w.heap.size≤p.lo)) (hpw:ps'.Pairwise fun p q=>fy p.A q.A) (hG':ShG ps' L' D'):eC w' (Nx U w w') s D'∧Chg U w w':=
 let ⟨h1,h2,h3⟩:=qk h hU hF hC hb hP hA hL hps hpw
 ⟨⟨ps',L',Ap',cp',Al',cl',hG',h1,h2⟩,h3⟩
theorem xt (h:ShH w ps L s Ap cp Al cl) (hU:∀ k,qU s Ap Al ps k→U k) (hF:aj w W) (hC:Chg (fun k=>k=s∨Al.map (·.block)=some k) W w') (hb:Blk w' s 63 #[.slice Ap ps.length cp,.slice Al' L'.length cl'])
 (hL:w'.ownsRow 0 37 2 (.slice Al' L'.length cl') L'.length (L'.flatMap dV)) (hA:∀ k,Al'.map (·.block)=some k→Al.map (·.block)=some k∨W.heap.size≤k) (hG':ShG ps L' D'):eC w' (Nx U w w') s D'∧Chg U w w':=by
 have hs:=hF.size;have hH:=(h.from_ hF).setLoose hC (fun k hk=>hk) hb hL hA;refine ⟨⟨ps,L',Ap,cp,Al',cl',hG',hH,vQ hH hU (fun k hk=>.inl hk) (fun k hk=>(hA k hk).imp id fun e=>Nat.le_trans hs e) (fun p hp=>.inl ⟨p,hp,fun k hk=>.inl hk,rfl,rfl⟩)⟩,?_⟩;refine hF.toChg.next (hC.wide fun k hk=>.inl ?_);rcases hk with e | e
 ·exact hU k (.inl (.inl e))
 ·exact hU k (.inl (.inr (.inr (.inl e))))
theorem eC.then {w2:World} {D2:List Dc} (h1:Chg U w w') (h2:eC w2 (Nx (Nx U w w') w' w2) s D2) (h3:Chg (Nx U w w') w' w2):eC w2 (Nx U w w2) s D2∧Chg U w w2:=
 ⟨h2.wide fun _ hk _=>hk.trans h1.size h3.size,h1.trans h3 fun _ hk=>hk.imp id fun h=>h.1⟩
end
end Go.Proofs.YtcbakncjacnnjaaGreat
namespace Go.Proofs.YtcbakncjacnnjaaGreat
open Go.Proofs.Tryz (prog)
open Go.RowKit
open Go.ChangeShapes Go.WideShapes Go.ChangeAt
open Go.Proofs.YtcbakncjacnnjaaGreat.SA
theorem ri:aH prog 65=true:=by kernel_rfl
theorem eB:cU prog 63 1=some 1:=by kernel_rfl
theorem Do:fJ prog 66=some true:=by kernel_rfl
theorem Dl:ef prog 66=some 2:=by kernel_rfl
theorem Dm:aH prog 68=true:=by kernel_rfl
theorem yG:aH prog 67=true:=by kernel_rfl
theorem cB:cU prog 63 0=some 0:=by kernel_rfl
theorem ee:fJ prog 61=some false:=by kernel_rfl
theorem Dn:aH prog 66=true:=by kernel_rfl
theorem qR:aH prog 31=true:=by kernel_rfl
theorem tP:prog.built 63 []=some #[.slice none 0 0,.slice none 0 0]:=by kernel_rfl
theorem k9:∀ (a0:Option Addr),prog.built 66 [(0,.pointer a0)]=some #[.pointer a0,.slice none 0 0]:=by intros;kernel_rfl
theorem jq:ef prog 61=some 1:=by kernel_rfl
theorem nN:ef prog 22=some 1:=by kernel_rfl
theorem jb.cmp {ds:List Dc} (h:SD ds) {i j:Nat} (hij:i<j) (hj:j<ds.length):sLt (ds.getD i dd).1 (ds.getD j dd).1:=by
 rw [bO (Nat.lt_trans hij hj),bO hj];exact List.pairwise_iff_getElem.1 h i j _ hj hij
theorem kF.ex {w:World} {N lo s:Nat} {ds:List Dc} (h:jc w lo s ds) (hN:N≤lo):∃ lo hi,N≤lo∧hi=w.heap.size∧kF w lo hi s ds:=⟨_,_,hN,rfl,kF.of h⟩
theorem sO {w:World} {base e s n c:Nat} {A:Option Addr} {xs:List Value} (h:w.ownsRow base e s (.slice A n c) n xs):A=none→n=0∧c=0:=fun hA=>by subst hA;exact ⟨qw h,jC h⟩
theorem Hu {w:World} {g lo hi s0:Nat} {ds:List Dc} (h:Blk w g 66 #[.pointer (some ⟨s0,0,none⟩),.slice none 0 0]):w.ownsRow 0 66 2 (.slice (some ⟨g,0,none⟩) 1 1) 1 ([Pt.of lo hi s0 ds].flatMap ptV):=il (cur:=[.pointer (some ⟨s0,0,none⟩),.slice none 0 0]) (Nat.zero_le _) h (Nat.le_refl _) (by decide) rfl rfl
theorem ya (a b id:ByteArray) (w:World) :
 Rt prog 65 [.agg #[.string a,.string b],.string id] w (fun v w'=>v=.int .i64 (jG a id)∧aj w w'):=by
 refine enter (n:=9) Tryz.func65 rfl rfl rfl (ag (aa (c0 (v:=.agg _) rfl ?_)));intro b2 w1 E2 hb2 hk2;refine asi rfl (ah (ae (ag (aa (ab (ak aW rfl) (ab (aq aX rfl (by exact hk2.rd 0 rfl)) ?_))))));refine mvg rfl (ax iT (tq a id _) ?_);rintro v8 w2 ⟨rfl,rfl⟩;refine asi rfl (ah (ae (aA (bE (v:=.int _ _) rfl rfl (⟨rfl,(aj.rfl_.next E2)⟩)))))
theorem zP (A:Option Addr) (c n:Nat) (ds:List Dc) (w:World) (hr:cN 2 dV w A ds) (hn:n=ds.length) (hl:n≤100000000) (id:ByteArray) (hO:SD ds) :
 Rt prog 64 [.slice A n c,.string id,.func (.func 65) #[] #[]] w (fun v w'=>(∃ (i:Nat) (fd:Bool),v=.tuple #[.int .i64 (i:Nat),.bool fd]∧i≤n∧(∀ x,x<i→sLt (ds.getD x dd).1 id)∧(∀ x,i≤x→x<n→¬ sLt (ds.getD x dd).1 id)∧(fd=true↔i<n∧(ds.getD i dd).1=id))∧aj w w'):=by
 refine enter (n:=49) Tryz.func64 rfl rfl rfl (ag (aa (asi rfl (asb rfl (ah (ae (ag (aa (mvs rfl (ab (aU bx rfl) (asi rfl (ah (ae (ag (aa ?_)))))))))))))));refine mvi rfl (asi rfl (asi rfl (ah (ae (ag (az (bg (G:=Nat×Nat) [11,15,16,17,18,19,20,21,22,23,24,25,26,27,28,29,30,31,32,33,34] (fun (i,j)=>[(9,.int .i64 (i:Nat)),(10,.int .i64 (j:Nat))]) (fun (i,j) w'=>i≤j∧j≤n∧(∀ x,x<i→sLt (ds.getD x dd).1 id)∧(∀ x,j≤x→x<n→¬ sLt (ds.getD x dd).1 id)∧aj w w') (fun (i,j)=>j-i) ((0,n)) ⟨rfl,rfl,trivial⟩ ?_ ?_)))))))
 ·exact ⟨Nat.zero_le _,Nat.le_refl _,fun x h=>absurd h (by omega),fun x h1 h2=>absurd h1 (by omega),aj.rfl_⟩
 rintro ⟨i,j⟩ ρ1 w1 ⟨hij,hjn,hlo,hhi,hB⟩;refine ag (ag (aa (mvi rfl (mvi rfl (ab (aY rfl rfl) (ah (ae (K8 rfl (fun Q2=>?_) (fun Q2=>?_)))))))))
 ·obtain ⟨bd,od,rfl,hcd⟩:=hr (by omega);refine au (ae (az (ag (aa (mvi rfl (mvi rfl (ab (aI rfl rfl (by omega)) ?_)))))));obtain ⟨h,hh⟩:∃ h,h=(i+j)/2 ^ 1:=⟨_,rfl⟩;refine ab (fB dZ fG rfl (by omega)) (ab (fa (b:=1) rfl rfl (by decide)) (ab (eN gP eZ rfl (by omega)) (dx (t:=23) (v:=.int _ _) (v':=.int .i64 (h:Nat)) rfl (by rw [hh]) ?_)));refine asi rfl (ah (ae (ag (aa (ab (ar (v:=.func _ _ _) rfl) (mvs rfl (mvi rfl (ab (aG aP rfl rfl (by omega)) ?_))))))));refine ab (bk (cs:=[_,_]) bJ bh rfl (by have h2:=hcd h (by omega);rw [←bO (show h<ds.length by omega)] at h2;exact da hB h2)) ?_;refine mvg rfl (fY (caps:=[]) rfl ri (ya (ds.getD h dd).1 (ds.getD h dd).2 id _) ?_);rintro v3 w3 ⟨rfl,E30⟩;refine ab (aY rfl rfl) (ah (ae (K8 rfl (fun Q4=>?_) (fun Q4=>?_))))
  ·have hlt:sLt (ds.getD h dd).1 id:=kW.1 (by omega);refine aa (mvi rfl (ab (aI (b:=1) rfl rfl (by omega)) (asi rfl (ah (aL ?_)))));refine aO ((h+1,j)) ⟨(by first | rfl | (refine aM ?_;omega)),(by first | rfl | (refine aM ?_;omega)),trivial⟩ (by (iterate 45 refine aB rfl ?_);exact aK) ⟨?_,?_⟩
   ·exact ⟨by omega,hjn,fun x hx=>by
     rcases Nat.eq_or_lt_of_le (Nat.le_of_lt_succ hx) with e | e
     ·subst e;exact hlt
     ·exact eD (jb.cmp hO e (by omega)) hlt,hhi,(hB.next E30)⟩
   ·show j-(h+1)<j-i;omega
  have hnl:¬ sLt (ds.getD h dd).1 id:=fun h9=>by have:=kW.2 h9;omega
  refine aa (mvi rfl (asi rfl (ah (aL ?_))));refine aO ((i,h)) ⟨(by first | rfl | (refine aM ?_;omega)),(by first | rfl | (refine aM ?_;omega)),trivial⟩ (by (iterate 44 refine aB rfl ?_);exact aK) ⟨?_,?_⟩
  ·exact ⟨by omega,by omega,hlo,fun x h1 h2=>by
    rcases Nat.eq_or_lt_of_le h1 with e | e
    ·subst e;exact hnl
    ·exact fun h9=>hnl (eD (jb.cmp hO e (by omega)) h9),(hB.next E30)⟩
  ·show h-i<j-i;omega
 refine aZ (aC (aC (aT (ae (ag (aa (mvi rfl (mvi rfl (mvi rfl (ab (aY rfl rfl) (mvb rfl (KB (t:=39) rfl (fun Q5=>?_) (fun Q5=>?_)))))))))))))
 ·obtain ⟨bd,od,rfl,hcd⟩:=hr (by omega);refine al rfl (ab (ar (v:=.func _ _ _) rfl) (al rfl (mvs rfl (al rfl (mvi rfl (al rfl (ab (aG aP rfl rfl (by omega)) (al rfl ?_))))))));refine ab (bk (cs:=[_,_]) bJ bh rfl (by have h2:=hcd i (by omega);rw [←bO (show i<ds.length by omega)] at h2;exact da hB h2)) ?_;refine al rfl (mvg rfl (al rfl (fY (caps:=[]) rfl ri (ya (ds.getD i dd).1 (ds.getD i dd).2 id _) ?_)));rintro v6 w6 ⟨rfl,E46⟩;refine al rfl (ab (cy rfl rfl) (ab (a_ (v:=.bool _) rfl rfl) (asi rfl (asb rfl (ah (ae (aA (cZ (v:=.int _ _) (v':=.bool _) rfl rfl rfl ?_))))))));obtain rfl:i=j:=by omega
  refine ⟨⟨i,_,rfl,hjn,hlo,hhi,?_⟩,(hB.next E46)⟩
  first
   |(rw [beq_iff_eq,jx];exact ⟨fun h9=>⟨by omega,h9⟩,fun h9=>h9.2⟩)
   |(rw [decide_eq_true_iff,jx];exact ⟨fun h9=>⟨by omega,h9⟩,fun h9=>h9.2⟩)
   |exact ⟨fun h9=>(by cases h9),fun h9=>absurd h9.1 (by omega)⟩
 refine aD rfl rfl (aD rfl rfl (aD rfl rfl (aD rfl rfl (aD rfl rfl (aD rfl rfl (aD rfl rfl (aD rfl rfl (ab (aR (v:=.bool _) rfl rfl) ?_))))))));refine asi rfl (asb rfl (ah (ae (aA (cZ (v:=.int _ _) (v':=.bool _) rfl rfl rfl ?_)))));obtain rfl:i=j:=by omega
 refine ⟨⟨i,_,rfl,hjn,hlo,hhi,?_⟩,hB⟩
 first
  |(rw [beq_iff_eq,jx];exact ⟨fun h9=>⟨by omega,h9⟩,fun h9=>h9.2⟩)
  |(rw [decide_eq_true_iff,jx];exact ⟨fun h9=>⟨by omega,h9⟩,fun h9=>h9.2⟩)
  |exact ⟨fun h9=>(by cases h9),fun h9=>absurd h9.1 (by omega)⟩
theorem BK (ps:List Pt) (L D:List Dc) (s:Nat) (Ap:Option Addr) (cp:Nat) (Al:Option Addr) (cl:Nat) (w:World) (h:ShH w ps L s Ap cp Al cl) (hG:ShG ps L D) (id:ByteArray) :
 Rt prog 35 [.pointer (some ⟨s,0,none⟩),.string id] w (fun v w'=>(∃ (i:Nat) (fd:Bool),v=.tuple #[.int .i64 (i:Nat),.bool fd]∧i≤L.length∧(∀ x,x<i→sLt (L.getD x dd).1 id)∧(∀ x,i≤x→x<L.length→¬ sLt (L.getD x dd).1 id)∧(fd=true↔i<L.length∧(L.getD i dd).1=id))∧aj w w'):=by
 have hll:=hG.loose;refine enter (n:=14) Tryz.func35 rfl rfl rfl (ag (aa (asi rfl (asb rfl (ah (ae (ag (aa (mvp rfl (ab (ay rfl) (ab (ak eB rfl) (ab (aq cC rfl (by exact (h.blk.from_ aj.rfl_).rd 1 rfl)) ?_))))))))))));refine mvg rfl (ax rj (zP Al cl L.length L _ ((cN.own bH (by decide) h.rowL).2.from_ aj.rfl_) rfl (by omega) id hG.sdL) ?_);rintro v11 w1 ⟨⟨i,fd,rfl,h1,h2,h3,h4⟩,E11⟩;refine ab (aw rfl rfl) (ab (aw rfl rfl) (asi rfl (asb rfl (ah (ae (aA (cZ (v:=.int _ _) (v':=.bool _) rfl rfl rfl (⟨⟨i,fd,rfl,h1,h2,h3,h4⟩,(aj.rfl_.next E11)⟩))))))))
theorem CV (fid:FuncId) (caps:List Value) (p:Pt→Bool) (hcal:aH prog fid=true) (A:Option Addr) (c n:Nat) (l:List Pt) (w:World) (hr:cN 2 ptV w A l) (hn:n=l.length) (hl:n≤100000000) (hp:∀ w' x,x∈l→aj w w'→Rt prog fid (.agg (ptV x).toArray::caps) w' fun v w''=>v=.bool (p x)∧aj w' w'') :
 Rt prog 66 [.slice A n c,.func (.func fid) #[] caps.toArray] w (fun v w'=>((∃ i:Nat,v=.int .i64 (i:Nat)∧i<n∧p (SM.G Pz l i)=true∧∀ k,k<i→p (SM.G Pz l k)=false)∨(v=.int .i64 (-1)∧∀ k,k<n→p (SM.G Pz l k)=false))∧aj w w'):=by
 refine enter (n:=19) Tryz.func66 rfl rfl rfl (ag (aa (asi rfl (ah (ae (ag (ag (aa (mvs rfl (ab (aU dw rfl) (mvi rfl (ah (ae (az (bg (G:=Nat) [4,5,9,10,11,12,13,14,15,16,17,18] (fun i=>[(8,.int .i64 (i:Nat))]) (fun i w'=>i≤n∧(∀ k,k<i→p (SM.G Pz l k)=false)∧aj w w') (fun i=>n-i) (0) ⟨rfl,trivial⟩ ?_ ?_)))))))))))))))
 ·exact ⟨Nat.zero_le _,fun k h=>absurd h (by omega),aj.rfl_⟩
 rintro i ρ1 w1 ⟨hi,hno,hB⟩;refine ag (aa (ab (aY rfl rfl) (ah (ae (ag (K8 rfl (fun Q2=>?_) (fun Q2=>?_)))))))
 ·obtain ⟨bd,od,rfl,hcd⟩:=hr (by omega);have hil:i<l.length:=by omega
  have hmem:SM.G Pz l i∈l:=by rw [SM.G_get Pz hil];exact List.getElem_mem hil
  have hce:=hcd i hil;rw [←SM.G_get Pz hil] at hce;refine au (ae (ag (az (ag (aa (mvi rfl (asi rfl (ah (ae (ag (aa (ab (ar (v:=.func _ _ _) rfl) (mvs rfl (mvi rfl (ab (aG cM rfl rfl (by omega)) (ab (bk (cs:=[_,_]) Do Dl rfl (by exact da hB hce)) ?_))))))))))))))));refine fY (l:=[.tmp 15]) (caps:=caps) rfl hcal (hp _ (SM.G Pz l i) hmem hB) ?_;rintro v16 w3 ⟨rfl,E16⟩;refine ah (ae (av rfl (fun Q4=>?_) (fun Q4=>?_)))
  ·refine ag (aa (mvi rfl (asi rfl (ah (ae (aA (bq (aF (aF (bq (aF (bE (v:=.int _ _) rfl rfl (⟨.inl ⟨i,rfl,by omega,by simp_all,hno⟩,(hB.next E16)⟩)))))))))))))
  refine au (aL (ae (aa (ab (aI (b:=1) rfl rfl (by omega)) (mvi rfl (ah ?_))))));refine aO (i+1) ⟨(by first | rfl | (refine aM ?_;omega)),trivial⟩ (by (iterate 24 refine aB rfl ?_);exact aK) ⟨?_,?_⟩
  ·exact ⟨by omega,fun k hk=>by
    rcases Nat.eq_or_lt_of_le (Nat.le_of_lt_succ hk) with e | e
    ·subst e;simp_all
    ·exact hno k e,(hB.next E16)⟩
  ·show n-(i+1)<n-i;omega
 refine aZ (aC (aC (aT (ae (ag (aa (asi rfl (ah (ae (aA (bE (v:=.int _ _) rfl rfl (⟨.inr ⟨rfl,fun k hk=>hno k (by omega)⟩,hB⟩))))))))))))
theorem EW (p:Pt) (w:World) (hp:PtIn w p) (id:ByteArray) (b:Nat) (hb:Blk w b 9 #[.string id]) :
 Rt prog 67 [.agg (ptV p).toArray,.pointer (some ⟨b,0,none⟩)] w (fun v w'=>(∃ x:Bool,v=.bool x∧(x=true↔zG p id))∧aj w w'):=by
 refine enter (n:=6) Tryz.func67 rfl rfl rfl (ag (aa (c0 (v:=.agg _) rfl ?_)));intro b2 w1 E2 hb2 hk2;refine asb rfl (ah (ae (ag (aa (ab (aq aX rfl (by exact (hb.from_ (aj.rfl_.next E2)).rd 0 rfl)) ?_)))));refine ax Dm (J5 b2 0 p _ (nw.box (hp.from_ (aj.rfl_.next E2)) hk2) id) ?_;rintro v5 w2 ⟨⟨x,rfl,hx⟩,E5⟩;refine asb rfl (ah (ae (aA (bE (v:=.bool _) rfl rfl (⟨⟨x,rfl,hx⟩,((aj.rfl_.next E2).next E5)⟩)))))
noncomputable def J6 (id:ByteArray) (p:Pt):Bool:=@decide (zG p id) (Classical.propDecidable _)
theorem m_ {id:ByteArray} {p:Pt}:J6 id p=true↔zG p id:=by unfold J6;exact @decide_eq_true_iff _ (Classical.propDecidable _)
theorem uR (ps:List Pt) (L D:List Dc) (s:Nat) (Ap:Option Addr) (cp:Nat) (Al:Option Addr) (cl:Nat) (w:World) (h:ShH w ps L s Ap cp Al cl) (hG:ShG ps L D) (id:ByteArray) :
 Rt prog 37 [.pointer (some ⟨s,0,none⟩),.string id] w (fun v w'=>((∃ i:Nat,v=.int .i64 (i:Nat)∧∃ hi:i<ps.length,zG ps[i] id)∨(v=.int .i64 (-1)∧∀ p∈ps,¬ zG p id))∧aj w w'):=by
 have hll:=hG.parts;refine enter (n:=11) Tryz.func37 rfl rfl rfl (ag (aa (c0 (v:=.string _) rfl ?_)));intro b3 w1 E3 hb3 hk3;refine asi rfl (ah (ae (ag (aa (mvp rfl (ab (ay rfl) (ab (ak cB rfl) (ab (aq ee rfl (by exact (h.blk.from_ (aj.rfl_.next E3)).rd 0 rfl)) ?_))))))));refine ab (eE (v':=.func (.func 67) #[] #[.pointer (some ⟨b3,0,none⟩)]) (iw (l1:=[]) (l2:=[.tmp 3])) rfl) ?_;refine ax Dn (CV 67 [.pointer (some ⟨b3,0,none⟩)] (J6 id) yG Ap cp ps.length ps _ ((cN.own kQ (by decide) h.rowP).2.from_ (aj.rfl_.next E3)) rfl (by omega) (fun w2 x hx hF=>(EW x w2 ((h.ptIn hG hx).from_ (((aj.rfl_.next E3)).next hF)) id b3 (hk3.from_ ((aj.rfl_).next hF))).mono (fun v w3 hv=>by obtain ⟨⟨y,rfl,hy⟩,hF2⟩:=hv;exact ⟨congrArg Value.bool (by rw [Bool.eq_iff_iff,hy,m_]),hF2⟩))) ?_;rintro v10 w2 ⟨hi10,E10⟩;rcases hi10 with ⟨i,rfl,hi,hp,_⟩ | ⟨rfl,hno⟩
 ·refine asi rfl (ah (ae (aA (bE (v:=.int _ _) rfl rfl (⟨?_,((aj.rfl_.next E3).next E10)⟩)))))
  first
   |exact .inl ⟨i,rfl,hi,by rw [SM.G_get Pz hi] at hp;exact m_.1 hp⟩
   |exact .inr ⟨rfl,fun p hp hq=>by
     obtain ⟨i,hi,rfl⟩:=List.getElem_of_mem hp;have:=hno i hi;rw [SM.G_get Pz hi,m_.2 hq] at this;cases this⟩
 refine asi rfl (ah (ae (aA (bE (v:=.int _ _) rfl rfl (⟨?_,((aj.rfl_.next E3).next E10)⟩)))))
 first
  |exact .inl ⟨i,rfl,hi,by rw [SM.G_get Pz hi] at hp;exact m_.1 hp⟩
  |exact .inr ⟨rfl,fun p hp hq=>by
    obtain ⟨i,hi,rfl⟩:=List.getElem_of_mem hp;have:=hno i hi;rw [SM.G_get Pz hi,m_.2 hq] at this;cases this⟩
theorem rJ {w:World} {s:Nat} {ds:List Dc} {N:Nat} (hk:Blk w s 63 #[.slice none 0 0,.slice none 0 0]) (h0:ds.length=0) (hs:N≤s):eC w (fun k=>N≤k) s ds:=by
 obtain rfl:=List.eq_nil_of_length_eq_zero h0;refine ⟨[],[],none,0,none,0,ShG.new0,⟨hk,World.ownsRow_nil _ _ _ _,World.ownsRow_nil _ _ _ _,fun p hp=>(by cases hp),List.Pairwise.nil,fun p hp=>(by cases hp),fun p hp=>(by cases hp)⟩,fun k hk=>?_⟩;rcases hk with (e | e | e | ⟨p,hp,_⟩) | ⟨p,hp,_⟩
 ·show N≤k;omega
 ·cases e
 ·cases e
 ·cases hp
 ·cases hp
theorem rI {w:World} {s lo hi s0 g:Nat} {ds:List Dc} {N:Nat} (hk:Blk w s 63 #[.slice (some ⟨g,0,none⟩) 1 1,.slice none 0 0]) (hg:Blk w g 66 #[.pointer (some ⟨s0,0,none⟩),.slice none 0 0]) (hsg:kF w lo hi s0 ds) (h0:0<ds.length) (h1:N≤lo) (h2:hi≤s) (h3:hi≤g) (h4:N≤s) (h5:N≤g) (ho:jb ds) (hf:jJ ds):eC w (fun k=>N≤k) s ds:=by
 refine ⟨[Pt.of lo hi s0 ds],[],some ⟨g,0,none⟩,1,none,0,ShG.new1 lo hi s0 ho hf (fun e=>by rw [e] at h0;cases h0),⟨hk,Hu hg,World.ownsRow_nil _ _ _ _,fun p hp=>?_,List.pairwise_singleton ..,fun p hp=>?_,fun p hp k k1 k2 hm=>?_⟩,fun k hk=>?_⟩
 ·rw [List.mem_singleton.1 hp];exact World.ownsRow_nil _ _ _ _
 ·rw [List.mem_singleton.1 hp];exact hsg
 ·rw [List.mem_singleton.1 hp] at k2;have k3:k<hi:=k2;rcases hm with e | e | e | ⟨q,hq,e⟩
  ·omega
  ·cases e;have:g<hi:=k3;omega
  ·cases e
  ·rw [List.mem_singleton.1 hq] at e;cases e
 ·show N≤k;rcases hk with (e | e | e | ⟨q,hq,e⟩) | ⟨q,hq,e,_⟩
  ·omega
  ·cases e;exact h5
  ·cases e
  ·rw [List.mem_singleton.1 hq] at e;cases e
  ·rw [List.mem_singleton.1 hq] at e;have:lo≤k:=e;omega
theorem cd (A:Option Addr) (c n:Nat) (ds:List Dc) (w:World) (hr:cN 2 dV w A ds) (hn:n=ds.length) (hl:n≤100000000) (hn0:A=none→n=0∧c=0) :
 Rt prog 12 [.slice A n c] w (fun v w'=>((l7 ds≠0∧v=.tuple #[.pointer none,.int .i64 (l7 ds)])∨(l7 ds=0∧∃ s,v=.tuple #[.pointer (some ⟨s,0,none⟩),.int .i64 0]∧eC w' (fun k=>w.heap.size≤k) s ds))∧aj w w'):=by
 refine enter (n:=27) Tryz.func12 rfl rfl rfl (ag (aa (asp rfl (asi rfl (ah (ae (ag (aa (mvs rfl ?_)))))))));have hz9:w.heap.size≤(w).heap.size:=(aj.rfl_).size;refine ax qR (Fb A c n ds _ (hr.from_ aj.rfl_) hn hl hn0) ?_;rintro v9 w1 ⟨hs9,E9⟩;rcases hs9 with ⟨hck,rfl⟩ | ⟨hck,s0,rfl,hsg⟩
 ·have hb33:(l7 ds != 0)=true:=by simpa using hck
  refine mvt rfl (ab (aw rfl rfl) (ab (aw rfl rfl) (asp rfl (asi rfl (ah (ae (ag (ag (aa (mvi rfl (ab (bP rfl rfl) (ah (ae ?_)))))))))))));refine L_ rfl (fun Q2=>?_) (fun Q2=>?_)
  ·refine ag (aa (mvi rfl (asp rfl (asi rfl (ah (ae (aA (aF (cZ (v:=.pointer _) (v':=.int _ _) rfl rfl rfl (⟨.inl ⟨hck,rfl⟩,(aj.rfl_.next E9)⟩))))))))))
  first
   |(exfalso; first | (first | omega | (simp [hb33] at *; done); trace "@MK D cd:f9.0.c13- 1") | (contradiction; trace "@MK D cd:f9.0.c13- 2") | ((cases Q2; done); trace "@MK D cd:f9.0.c13- 3"))
   |(trace "@MK D cd:f9.0.c13- 0")
    refine au (ae (ag (aa (ab (cS (l:=[]) (tP)) (c0 (v:=.agg _) rfl ?_)))));intro b16 w3 E16 hb16 hk16;have hg16:w.heap.size≤b16:=by rw [hb16];exact ((aj.rfl_.next E9)).size
    have hs16:=E16.size;refine asp rfl (ah (ae (ag (ag (aa (mvs rfl (ab (aU bx rfl) (ab (bX rfl rfl) (ah (ae (av rfl (fun Q4=>?_) (fun Q4=>?_))))))))))))
    ·(try with_reducible first | (replace Q4 := dT_ Q4; trace "@MK N cd:f9.0.c13-.c19+ 1.1") | (replace Q4 := dF_ Q4; trace "@MK N cd:f9.0.c13-.c19+ 1.2") | (replace Q4 := eo Q4; trace "@MK N cd:f9.0.c13-.c19+ 1.3") | (replace Q4 := ep Q4; trace "@MK N cd:f9.0.c13-.c19+ 1.4"))
     (try with_reducible first | (replace Q4 := dT_ Q4; trace "@MK N cd:f9.0.c13-.c19+ 2.1") | (replace Q4 := dF_ Q4; trace "@MK N cd:f9.0.c13-.c19+ 2.2") | (replace Q4 := dG Q4; trace "@MK N cd:f9.0.c13-.c19+ 2.3") | (replace Q4 := dH Q4; trace "@MK N cd:f9.0.c13-.c19+ 2.4") | (replace Q4 := eJ Q4; trace "@MK N cd:f9.0.c13-.c19+ 2.5") | (replace Q4 := eK Q4; trace "@MK N cd:f9.0.c13-.c19+ 2.6"))
     first
      |(exfalso; first | (first | omega | (simp [hb33] at *; done); trace "@MK D cd:f9.0.c13-.c19+ 1") | (contradiction; trace "@MK D cd:f9.0.c13-.c19+ 2") | ((cases Q4; done); trace "@MK D cd:f9.0.c13-.c19+ 3"))
      |(trace "@MK D cd:f9.0.c13-.c19+ 0")
       refine aa (mvp rfl (mvp rfl (ab (cS (l:=[(0,.tmp 21)]) (k9 _)) (fA fF rfl rfl rfl ?_))));intro b23 w5 E23 hb23 hk23;have hsk2:=hsk.from_ (((aj.rfl_.next E16)).next E23);refine ab (ay rfl) (ab (ak cB rfl) (b_ (v:=.slice _ _ _) jq rfl rfl rfl (hk16.from_ E23) (by show 0<2;decide) ?_));intro w6 O6 P6;refine ah (ae (ag (aa (mvp rfl (asp rfl (asi rfl (ah (ae (aA (cZ (v:=.pointer _) (v':=.int _ _) rfl rfl rfl ?_))))))))))
       first
        |exact ⟨.inr ⟨hck,b16,rfl,rJ hk16 (by omega) hg16⟩,((((aj.rfl_.next E9).next E16).next E23).only O6 (hg16))⟩
        |exact ⟨.inr ⟨hck,b16,rfl,rI P6 (hk23.only O6 (by have:=hk16.lt;omega)) (hsk2.chg (O6.toChg (U:=fun k=>k=b16) rfl) (fun k _ h2 e=>by have e2:k=b16:=e;omega)) (by omega) hz9 (by omega) (by omega) hg16 (by omega) hord hfit⟩,((((aj.rfl_.next E9).next E16).next E23).only O6 (hg16))⟩
    (try with_reducible first | (replace Q4 := dT_ Q4; trace "@MK N cd:f9.0.c13-.c19- 1.1") | (replace Q4 := dF_ Q4; trace "@MK N cd:f9.0.c13-.c19- 1.2") | (replace Q4 := eo Q4; trace "@MK N cd:f9.0.c13-.c19- 1.3") | (replace Q4 := ep Q4; trace "@MK N cd:f9.0.c13-.c19- 1.4"))
    (try with_reducible first | (replace Q4 := dT_ Q4; trace "@MK N cd:f9.0.c13-.c19- 2.1") | (replace Q4 := dF_ Q4; trace "@MK N cd:f9.0.c13-.c19- 2.2") | (replace Q4 := dG Q4; trace "@MK N cd:f9.0.c13-.c19- 2.3") | (replace Q4 := dH Q4; trace "@MK N cd:f9.0.c13-.c19- 2.4") | (replace Q4 := eJ Q4; trace "@MK N cd:f9.0.c13-.c19- 2.5") | (replace Q4 := eK Q4; trace "@MK N cd:f9.0.c13-.c19- 2.6"))
    first
     |(exfalso; first | (first | omega | (simp [hb33] at *; done); trace "@MK D cd:f9.0.c13-.c19- 1") | (contradiction; trace "@MK D cd:f9.0.c13-.c19- 2") | ((cases Q4; done); trace "@MK D cd:f9.0.c13-.c19- 3"))
     |(trace "@MK D cd:f9.0.c13-.c19- 0")
      refine au (ae (ag (aa (mvp rfl (asp rfl (asi rfl (ah (ae (aA (cZ (v:=.pointer _) (v':=.int _ _) rfl rfl rfl ?_))))))))))
      first
       |exact ⟨.inr ⟨hck,b16,rfl,rJ hk16 (by omega) hg16⟩,((aj.rfl_.next E9).next E16)⟩
       |exact ⟨.inr ⟨hck,b16,rfl,rI P6 (hk23.only O6 (by have:=hk16.lt;omega)) (hsk2.chg (O6.toChg (U:=fun k=>k=b16) rfl) (fun k _ h2 e=>by have e2:k=b16:=e;omega)) (by omega) hz9 (by omega) (by omega) hg16 (by omega) hord hfit⟩,((aj.rfl_.next E9).next E16)⟩
 have hsz9:=((aj.rfl_.next E9)).size;have hsk:=kF.of hsg;obtain ⟨hord,hfit⟩:=hsg.docs;refine mvt rfl (ab (aw rfl rfl) (ab (aw rfl rfl) (asp rfl (asi rfl (ah (ae (ag (ag (aa (mvi rfl (ab (bP rfl rfl) (ah (ae ?_)))))))))))));refine L_ rfl (fun Q7=>?_) (fun Q7=>?_)
 ·first
   |(exfalso; first | (first | omega | (simp [hb33] at *; done); trace "@MK D cd:f9.1.c13+ 1") | (contradiction; trace "@MK D cd:f9.1.c13+ 2") | ((cases Q7; done); trace "@MK D cd:f9.1.c13+ 3"))
   |(trace "@MK D cd:f9.1.c13+ 0")
    refine ag (aa (mvi rfl (asp rfl (asi rfl (ah (ae (aA (aF (cZ (v:=.pointer _) (v':=.int _ _) rfl rfl rfl (⟨.inl ⟨hck,rfl⟩,(aj.rfl_.next E9)⟩))))))))))
 refine au (ae (ag (aa (ab (cS (l:=[]) (tP)) (c0 (v:=.agg _) rfl ?_)))));intro b16 w8 E16 hb16 hk16;have hg16:w.heap.size≤b16:=by rw [hb16];exact ((aj.rfl_.next E9)).size
 have hs16:=E16.size;refine asp rfl (ah (ae (ag (ag (aa (mvs rfl (ab (aU bx rfl) (ab (bX rfl rfl) (ah (ae (K8 rfl (fun Q9=>?_) (fun Q9=>?_))))))))))))
 ·refine aa (mvp rfl (mvp rfl (ab (cS (l:=[(0,.tmp 21)]) (k9 _)) (fA fF rfl rfl rfl ?_))));intro b23 w10 E23 hb23 hk23;have hsk2:=hsk.from_ (((aj.rfl_.next E16)).next E23);refine ab (ay rfl) (ab (ak cB rfl) (b_ (v:=.slice _ _ _) jq rfl rfl rfl (hk16.from_ E23) (by show 0<2;decide) ?_));intro w11 O6 P6;refine ah (ae (ag (aa (mvp rfl (asp rfl (asi rfl (ah (ae (aA (cZ (v:=.pointer _) (v':=.int _ _) rfl rfl rfl ?_))))))))))
  first
   |exact ⟨.inr ⟨hck,b16,rfl,rJ hk16 (by omega) hg16⟩,((((aj.rfl_.next E9).next E16).next E23).only O6 (hg16))⟩
   |exact ⟨.inr ⟨hck,b16,rfl,rI P6 (hk23.only O6 (by have:=hk16.lt;omega)) (hsk2.chg (O6.toChg (U:=fun k=>k=b16) rfl) (fun k _ h2 e=>by have e2:k=b16:=e;omega)) (by omega) hz9 (by omega) (by omega) hg16 (by omega) hord hfit⟩,((((aj.rfl_.next E9).next E16).next E23).only O6 (hg16))⟩
 refine au (ae (ag (aa (mvp rfl (asp rfl (asi rfl (ah (ae (aA (cZ (v:=.pointer _) (v':=.int _ _) rfl rfl rfl ?_))))))))))
 first
  |exact ⟨.inr ⟨hck,b16,rfl,rJ hk16 (by omega) hg16⟩,((aj.rfl_.next E9).next E16)⟩
  |exact ⟨.inr ⟨hck,b16,rfl,rI P6 (hk23.only O6 (by have:=hk16.lt;omega)) (hsk2.chg (O6.toChg (U:=fun k=>k=b16) rfl) (fun k _ h2 e=>by have e2:k=b16:=e;omega)) (by omega) hz9 (by omega) (by omega) hg16 (by omega) hord hfit⟩,((aj.rfl_.next E9).next E16)⟩
theorem h_ (U:Nat→Prop) (s:Nat) (D:List Dc) (w:World) (hs:eC w U s D) :
 Rt prog 24 [.pointer (some ⟨s,0,none⟩)] w (fun _ w'=>eC w' (Nx U w w') s D∧Chg U w w'):=by
 have hs0:=hs;obtain ⟨ps,L,Ap,cp,Al,cl,hG,h,hU⟩:=hs;have hll:=hG.loose;have hpl:=hG.parts;refine enter (n:=34) Tryz.func24 rfl rfl rfl (ag (ag (aa (mvp rfl (ab (ay rfl) (ab (ak eB rfl) (ab (aq cC rfl (by exact (h.blk.from_ aj.rfl_).rd 1 rfl)) ?_)))))));refine ab (aU bx rfl) (ab (cy rfl rfl) (ah (ae (K8 rfl (fun Q1=>?_) (fun Q1=>?_)))))
 ·refine aA (aF (kp rfl (hs0.same aj.rfl_)))
 refine au (ae (ag (aa (mvp rfl (ab (ay rfl) (ab (ak eB rfl) (ab (aq cC rfl (by exact (h.blk.from_ aj.rfl_).rd 1 rfl)) ?_)))))));have hz15:w.heap.size≤(w).heap.size:=(aj.rfl_).size;refine ax qR (Fb Al cl L.length L _ ((cN.own bH (by decide) h.rowL).2.from_ aj.rfl_) rfl (by omega) (sO h.rowL)) ?_;rintro v15 w2 ⟨hs15,E15⟩;rcases hs15 with ⟨hck,rfl⟩ | ⟨hck,s0,rfl,hsg⟩
 ·have hb33:(l7 L != 0)=true:=by simpa using hck
  refine mvt rfl (ab (aw rfl rfl) (ab (aw rfl rfl) (asp rfl (asi rfl (ah (ae (ag (ag (aa (mvi rfl (ab (bP rfl rfl) (ah (ae ?_)))))))))))));refine L_ rfl (fun Q3=>?_) (fun Q3=>?_)
  ·refine aA (aF (kp rfl (hs0.same (aj.rfl_.next E15))))
  first
   |(exfalso; first | (first | omega | (simp [hb33] at *; done); trace "@MK D h_:c9-.f15.0.c19- 1") | (contradiction; trace "@MK D h_:c9-.f15.0.c19- 2") | ((cases Q3; done); trace "@MK D h_:c9-.f15.0.c19- 3"))
   |(trace "@MK D h_:c9-.f15.0.c19- 0")
    refine au (ae (ag (aa (mvp rfl (mvp rfl (ab (ay rfl) (ab (ak cB rfl) (ab (aq ee rfl (by exact (h.blk.from_ (aj.rfl_.next E15)).rd 0 rfl)) ?_))))))));refine mvp rfl (ab (cS (l:=[(0,.tmp 25)]) (k9 _)) (fA fF rfl rfl rfl ?_));intro b27 w4 E27 hb27 hk27;have hF28:=((aj.rfl_.next E15).next E27);have hsk2:=hsk.from_ ((aj.rfl_.next E27));refine ig (base:=0) fF rfl (by decide) rfl (A:=Ap) (xs:=ps.flatMap ptV) (news:=[.pointer (some ⟨s0,0,none⟩),.slice none 0 0]) (h.rowP.kept_from ((aj.rfl_.next E15).next E27)) (Nat.zero_le _) rfl rfl ⟨b27,0,rfl,hk27.whole⟩ (by simp [Value.oneCell']) (by omega) (by omega) ?_;intro A28 c28 w5 ho28 hg28 hL28;have hb28:=(h.blk.from_ hF28).grown hg28 (dB (h.rowP.kept_from hF28) (h.blk.from_ hF28) (by decide));refine ab (ay rfl) (ab (ak cB rfl) (b_ (v:=.slice _ _ _) jq rfl rfl rfl (hb28) (by show 0<2;decide) ?_));intro w6 O3 P3;refine ah (ae (aa (mvp rfl (ab (ay rfl) (ab (ak eB rfl) (b_ (v:=.slice _ _ _) nN rfl rfl rfl (P3) (by show 1<2;decide) ?_))))));intro w7 O4 P4;refine ah (gm (kp rfl ?_));have hne:L≠[]:=fun e=>by subst e;simp_all
    have hlen:(ps++[Pt.of lo hi s0 L]).length=ps.length+1:=List.length_append;refine pg (ps':=ps++[Pt.of lo hi s0 L]) (L':=[]) h hU hF28 (((Chg.of_grown hg28 (fun k e=>.inr e)).only O3 (.inl rfl)).only O4 (.inl rfl)) (by rw [hlen];exact P4) ?_ (fun k hk=>hL28.elim (fun e=>.inl (e ▸ hk)) (fun e=>.inr (by rw [e] at hk;cases hk;exact Nat.le_refl _))) (.inr ⟨rfl,rfl,rfl⟩) (fun p hp=>?_) ?_ (hG.seal lo hi s0 hne)
    ·rw [hlen,List.flatMap_append];exact cG (cG ho28 O3 (dB ho28 hb28 (by decide))) O4 (dB (cG ho28 O3 (dB ho28 hb28 (by decide))) P3 (by decide))
    ·rcases List.mem_append.1 hp with hp | hp
     ·exact .inl hp
     ·rw [List.mem_singleton.1 hp];exact .inr ⟨rfl,rfl,rfl,hsk2,hlo⟩
    ·refine List.pairwise_append.2 ⟨h.apart,List.pairwise_singleton ..,fun a _ b hb=>?_⟩;rw [List.mem_singleton.1 hb];exact fun p hp q hq=>by cases hq
 obtain ⟨lo,hi,hlo,hhi,hsk⟩:=kF.ex hsg hz15;refine mvt rfl (ab (aw rfl rfl) (ab (aw rfl rfl) (asp rfl (asi rfl (ah (ae (ag (ag (aa (mvi rfl (ab (bP rfl rfl) (ah (ae ?_)))))))))))));refine L_ rfl (fun Q8=>?_) (fun Q8=>?_)
 ·first
   |(exfalso; first | (first | omega | (simp [hb33] at *; done); trace "@MK D h_:c9-.f15.1.c19+ 1") | (contradiction; trace "@MK D h_:c9-.f15.1.c19+ 2") | ((cases Q8; done); trace "@MK D h_:c9-.f15.1.c19+ 3"))
   |(trace "@MK D h_:c9-.f15.1.c19+ 0")
    refine aA (aF (kp rfl (hs0.same (aj.rfl_.next E15))))
 refine au (ae (ag (aa (mvp rfl (mvp rfl (ab (ay rfl) (ab (ak cB rfl) (ab (aq ee rfl (by exact (h.blk.from_ (aj.rfl_.next E15)).rd 0 rfl)) ?_))))))));refine mvp rfl (ab (cS (l:=[(0,.tmp 25)]) (k9 _)) (fA fF rfl rfl rfl ?_));intro b27 w9 E27 hb27 hk27;have hF28:=((aj.rfl_.next E15).next E27);have hsk2:=hsk.from_ ((aj.rfl_.next E27));refine ig (base:=0) fF rfl (by decide) rfl (A:=Ap) (xs:=ps.flatMap ptV) (news:=[.pointer (some ⟨s0,0,none⟩),.slice none 0 0]) (h.rowP.kept_from ((aj.rfl_.next E15).next E27)) (Nat.zero_le _) rfl rfl ⟨b27,0,rfl,hk27.whole⟩ (by simp [Value.oneCell']) (by omega) (by omega) ?_;intro A28 c28 w10 ho28 hg28 hL28;have hb28:=(h.blk.from_ hF28).grown hg28 (dB (h.rowP.kept_from hF28) (h.blk.from_ hF28) (by decide));refine ab (ay rfl) (ab (ak cB rfl) (b_ (v:=.slice _ _ _) jq rfl rfl rfl (hb28) (by show 0<2;decide) ?_));intro w11 O3 P3;refine ah (ae (aa (mvp rfl (ab (ay rfl) (ab (ak eB rfl) (b_ (v:=.slice _ _ _) nN rfl rfl rfl (P3) (by show 1<2;decide) ?_))))));intro w12 O4 P4;refine ah (gm (kp rfl ?_));have hne:L≠[]:=fun e=>by subst e;simp_all
 have hlen:(ps++[Pt.of lo hi s0 L]).length=ps.length+1:=List.length_append;refine pg (ps':=ps++[Pt.of lo hi s0 L]) (L':=[]) h hU hF28 (((Chg.of_grown hg28 (fun k e=>.inr e)).only O3 (.inl rfl)).only O4 (.inl rfl)) (by rw [hlen];exact P4) ?_ (fun k hk=>hL28.elim (fun e=>.inl (e ▸ hk)) (fun e=>.inr (by rw [e] at hk;cases hk;exact Nat.le_refl _))) (.inr ⟨rfl,rfl,rfl⟩) (fun p hp=>?_) ?_ (hG.seal lo hi s0 hne)
 ·rw [hlen,List.flatMap_append];exact cG (cG ho28 O3 (dB ho28 hb28 (by decide))) O4 (dB (cG ho28 O3 (dB ho28 hb28 (by decide))) P3 (by decide))
 ·rcases List.mem_append.1 hp with hp | hp
  ·exact .inl hp
  ·rw [List.mem_singleton.1 hp];exact .inr ⟨rfl,rfl,rfl,hsk2,hlo⟩
 ·refine List.pairwise_append.2 ⟨h.apart,List.pairwise_singleton ..,fun a _ b hb=>?_⟩;rw [List.mem_singleton.1 hb];exact fun p hp q hq=>by cases hq
end Go.Proofs.YtcbakncjacnnjaaGreat
namespace Go.Proofs.YtcbakncjacnnjaaGreat
open Go.Proofs.Tryz (prog)
open Go.RowKit
def Gr (a w:World):Prop:=∃ q os,w=Go.Sort.grow (a.drewN q) os
theorem Gr.rfl_ {a:World}:Gr a a:=⟨0,#[],by rw [Go.Sort.grow_empty];rfl⟩
theorem Gr.d1 {a w:World} (h:Gr a w):Gr a w.drew:=by
 obtain ⟨q,os,rfl⟩:=h;exact ⟨q+1,os,rfl⟩
theorem Gr.next {a w w':World} (h:Gr a w) (k:Gr w w'):Gr a w':=by
 obtain ⟨q,os,rfl⟩:=h;obtain ⟨q2,os2,rfl⟩:=k;refine ⟨q+q2,os++os2,?_⟩;unfold Go.Sort.grow World.drewN;simp [Array.append_assoc,Nat.add_assoc]
theorem Gr.alloc (w:World) (o:Obj):Gr w (w.alloc o):=⟨0,#[o],Go.Sort.alloc_eq_grow w o⟩
theorem Gr.new {a w:World} (h:Gr a w) (o:Obj):Gr a (w.alloc o):=h.next (Gr.alloc w o)
theorem Gr.from_ {a w:World} (h:Gr a w):aj a w:=by
 obtain ⟨q,os,rfl⟩:=h;refine (aj.rfl_.dn q).next ⟨rfl,rfl,rfl,by simp [Go.Sort.grow],fun k hk=>?_⟩;show (_++os)[k]? =_;rw [Array.getElem?_append_left hk]
namespace DG
def lO:List (Nat×(Value→World→Prop))→Prop
 |[]=>True
 |(_,R)::r=>(∀ v w1 w2,Gr w1 w2→R v w1→R v w2)∧lO r
theorem af (x:Value):∀ v w1 w2,Gr w1 w2→eqp x v w1→eqp x v w2:=fun _ _ _ _ h=>h
theorem dU:∀ {l:List (Nat×(Value→World→Prop))},lO l→∀ t v w1 w2,Gr w1 w2→eI l t v w1→eI l t v w2
 |[],_,_,_,_,_,_,_=>trivial
 |(k,R)::r,⟨h1,h2⟩,t,v,w1,w2,hF,h=>by
  have e:eI ((k,R)::r) t=bif Nat.beq t k then R else eI r t:=rfl
  rw [e] at h ⊢;cases hb:Nat.beq t k with
  |true=>rw [hb] at h;exact h1 _ _ _ hF h
  |false=>rw [hb] at h;exact dU h2 t v w1 w2 hF h
def an (P:Program) (ops:Array Oper) (n:Fr) (L:List (Nat×Value)) (o:Oper) (w:World) (R:Value→World→Prop):Prop:=
 (Region.wanted o (yielded ops (mkT n.n L))=true∧((∃ v w',(execOp (ev n L) o).run P w=.ok (.value v) w'∧Gr w w'∧R v w')∨
  (∃ f l,(execOp (ev n L) o).run P w=.ok (.enter f (List.toArray l)) w∧Rt P f l w fun v w'=>Gr w w'∧R v w')))∨
 (Region.wanted o (yielded ops (mkT n.n L))=false∧R undef w)
section
variable {P:Program} {ops:Array Oper} {n:Fr} {L:List (Nat×Value)} {w w':World} {op:Op} {ty:TypeId} {pos:String} {after:Array Edge} {d:Option Nat} {R:Value→World→Prop}
theorem fR {v:Value} (hr:RO P (ev n L) op w v w') (hF:Gr w w') (hR:R v w'):an P ops n L ⟨d,op,ty,pos,after,none⟩ w R:=
 .inl ⟨rfl,.inl ⟨v,w',hr _ _ _ _ _,hF,hR⟩⟩
theorem ai {v:Value} (hr:RO P (ev n L) op w v w) (hR:R v w):an P ops n L ⟨d,op,ty,pos,after,none⟩ w R:=fR hr Gr.rfl_ hR
theorem eH {f:FuncId} {l:List Operand} {ats:Array TypeId} (hf:aH P f=true) (hc:Rt P f (l.map (ev n L)) w fun v w'=>Gr w w'∧R v w') :
 an P ops n L ⟨d,.call { callee:=.value (.func f),args:=l.toArray,argTypes:=ats },ty,pos,after,none⟩ w R:=
 .inl ⟨rfl,.inr ⟨f,l.map (ev n L),by rw [kh (fun _=>rfl),gX hf],hc⟩⟩
end
def ud (P:Program) (ops:Array Oper) (n:Fr) (L:List (Nat×Value)) (w:World) (R:Nat→Value→World→Prop) (pre:List Nat):List Oper→Prop
 |[]=>True
 |o::r=>(∀ w',Gr w w'→g_ R w' (pc ops pre o) fun M=>an P ops n (M++L) o w' (R (o.dst.getD 0)))∧ud P ops n L w R pre r
section
variable {P:Program} {ops:Array Oper} {Q:Exit→Act→World→Prop} {rest:List Oper} {n:Fr} {L:List (Nat×Value)} {w:World} {ty:TypeId} {pos:String} {after:Array Edge} {d:Nat} {t:TypeId} {x y:Operand}
theorem c0 {v:Value} (hx:ev n L x=v) (k:∀ b w',Gr w w'→b=w.heap.size→Blk w' b t v.cells→St P ops Q rest n ((d,.pointer (some ⟨b,0,none⟩))::L) w') :
 St P ops Q (⟨some d,.box t x,ty,pos,after,none⟩::rest) n L w:=
 ab (zg hx) (k _ _ (Gr.rfl_.new _) rfl (Blk.new w t _))
end
def ir (P:Program) (ops:Array Oper) (n:Fr) (L:List (Nat×Value)) (I2:World→Prop) (R1 R2:Nat→Value→World→Prop) (l0:List Oper) (K:Nat) (mu:Nat):Nat→List Oper→Prop
 |_,[]=>True
 |i,o::r=>(Nat.beq i mu=false→∀ w',I2 w'→g_ R2 w' (fe l0 K i o) fun M=>an P ops n (M++L) o w' (R1 (o.dst.getD 0)))∧ir P ops n L I2 R1 R2 l0 K mu (i+1) r
theorem lC {P:Program} {ops:Array Oper} {n:Fr} {L:List (Nat×Value)} {I2:World→Prop} {R1 R2:Nat→Value→World→Prop} {l0:List Oper} {K mu:Nat}:∀ {l:List Oper} {k:Nat},ir P ops n L I2 R1 R2 l0 K mu k l→∀ (i:Nat) (o:Oper),l[i]? =some o→k+i≠mu→
 ∀ w',I2 w'→g_ R2 w' (fe l0 K (k+i) o) fun M=>an P ops n (M++L) o w' (R1 (o.dst.getD 0))
 |[],_,_,i,o,h,_=>by simp at h
 |x::r,k,⟨h1,h2⟩,0,o,h,hne=>by
  simp only [List.getElem?_cons_zero,Option.some.injEq] at h;subst h;rw [Nat.add_zero] at hne ⊢;refine h1 ?_;rw [←Bool.not_eq_true];intro hb;exact hne (Nat.eq_of_beq_eq_true hb)
 |x::r,k,⟨h1,h2⟩,i+1,o,h,hne=>by
  have:=lC h2 i o (by simpa using h) (by omega)
  rwa [show k+1+i=k+(i+1) by omega] at this
theorem kv {P:Program} {ops:Array Oper} {n:Fr} {L:List (Nat×Value)} {I2:World→Prop} {R1 R2:Nat→Value→World→Prop} {l0:List Oper} {K mu:Nat} {l:List Oper} (h:ir P ops n L I2 R1 R2 l0 K mu 0 l) (i:Nat) (o:Oper) (ho:l[i]? =some o) (hne:i≠mu)
 (w':World) (hw:I2 w'):g_ R2 w' (fe l0 K i o) fun M=>an P ops n (M++L) o w' (R1 (o.dst.getD 0)):=by
 have:=lC h i o ho (by rw [Nat.zero_add];exact hne) w' hw
 rwa [Nat.zero_add] at this
section late
variable {P:Program} {Q:Exit→Act→World→Prop} {n:Fr} {L:List (Nat×Value)} {w:World} {l:List Oper} {K mu:Nat} {I1 I2:World→Prop} {R1 R:Nat→Value→World→Prop}
theorem lH (hQ:PQ Q) (hc:ky l K=true) (hop:ir P l.toArray n L I2 R1 R l K mu 0 (l.take K)) (h12:∀ t v w,R1 t v w→R t v w) (hmuL:mu<K→dt l K mu=false)
 (hend:∀ w',I2 w'→g_ R w' (eG l K) fun M=>St P l.toArray Q (l.drop K) n (M++L) w') (m:Nat) (listed:Array Bool) (L':List (Nat×Value)) (w':World) (hcl:ib l listed) (hcount:listed.toList.count false=m) (hs:listed.size=l.length)
 (htail:∀ j,K≤j→j<l.length→listed.getD j true=false) (hF:I2 w')
 (hfr:∀ t,(∀ i o,i<K→l[i]? =some o→listed.getD i true=true→o.dst≠some t)→br L' t=br L t)
 (hR:∀ i o d,i<K→l[i]? =some o→listed.getD i true=true→o.dst=some d→R d (br L' d) w') (hpre:∀ i,i<K→listed.getD i true=false→dt l K i=true):wpAny P .any l.toArray Q m listed (mkA n L') w':=by
 have hc1:=(Bool.and_eq_true_iff.1 hc).1;have hlate:=(Bool.and_eq_true_iff.1 hc).2;have hKl:K≤l.length:=dT_ (Bool.and_eq_true_iff.1 hc1).1;have hck:=(List.all_eq_true.1 (Bool.and_eq_true_iff.1 hc1).2)
 have hhead:∀ i,i<K→∃ o d,l[i]? =some o∧o.dst=some d∧dK o.op=false∧(∀ j oj,j<K→j≠i→l[j]? =some oj→oj.dst≠some d):=by
  intro i hi;have hil:i<l.length:=by omega
  have hx:=hck i (List.mem_range.2 hil);rw [List.getElem?_eq_getElem hil] at hx;simp only [Bool.and_eq_true] at hx;have h3:=hx.2;rw [if_pos hi] at h3;simp only [Bool.and_eq_true] at h3;obtain ⟨h3a,h3b⟩:=h3;cases hod:(l[i]).dst with
  |none=>rw [hod] at h3a;cases h3a
  |some d=>
   rw [hod] at h3a;simp only [Bool.and_eq_true] at h3a;refine ⟨l[i],d,List.getElem?_eq_getElem hil,hod,by simpa using hx.1.2,fun j oj hj hne hoj e=>?_⟩;have h5:=List.all_eq_true.1 h3a.1 j (List.mem_range.2 hj);rw [hoj] at h5;simp [hne,e] at h5
 have hval:∀ i,i<K→listed.getD i true=false→∃ v,∀ o d,l[i]? =some o→o.dst=some d→Yields P l.toArray o v (mkA n L')∧R d v w':=by
  intro i hi hf;have hil8:=hpre i hi hf;obtain ⟨o,d,ho,hd,hsel,_⟩:=hhead i hi;obtain ⟨hk,hg,hap⟩:=ji hlate hi ho hil8
  have hfact:∀ t∈fe l K i o,R t (br L' t) w':=by
   intro t ht;obtain ⟨ht2,j,oj,hjK,hj,hdj,hji,_⟩:=iv hc hi ho ht;refine hR j oj t hjK hj ?_ hdj;cases hb:listed.getD j true with
   |true=>rfl
   |false=>
    have h6:=hpre j hjK hb;have h7:=(Oper.apart_spec (hap j oj hj (by omega) (.inl ⟨hjK,h6⟩))).2.2 t hdj;exact absurd (by simpa using ht2) h7
  have hlooks:=qE (L:=L) hc hcl hs ho (by omega) hf hfr;have hok:=fp (br L') _ hfact (kv hop i o (by rw [List.getElem?_take,if_pos hi];exact ho) (by intro e;rw [e,hmuL (by omega)] at hil8;cases hil8) w' hF);obtain ⟨hE,hW⟩:=fv (n:=n) (ops:=l.toArray) (o:=o) hsel hlooks;rw [hd] at hok;simp only [Option.getD_some] at hok
  have hyl:∃ v,Yields P l.toArray o v (mkA n L')∧R d v w':=by
   unfold an at hok;rw [hE,hW] at hok;rcases hok with ⟨hw,⟨v,w'',hr,hF',hRv⟩ | ⟨f,args,hr,hcall⟩⟩ | ⟨hw,hRv⟩
   ·obtain ⟨rfl,hall⟩:=sZ hk hr;refine ⟨v,.inl ⟨hw,fun w2=>?_⟩,h12 _ _ _ hRv⟩;rw [cz];exact hall w2
   ·exfalso;obtain ⟨dst,op,ty,pos,after,guard⟩:=o;cases op <;> simp only [q8,Bool.false_eq_true] at hk <;> simp only [execOp,Sem.run_pure,Sem.run_bind,Result.ok.injEq] at hr
    ·cases hr.1
    ·cases hr.1
    ·rename_i x i';cases hx:ev n L' x <;> simp only [hx,Instr.extract] at hr <;> (try (simp at hr;done))
     rename_i vs;cases hv:vs[i']? <;> simp [hv] at hr
   ·exact ⟨undef,.inr ⟨hw,rfl⟩,h12 _ _ _ hRv⟩
  obtain ⟨v,hv1,hv2⟩:=hyl;refine ⟨v,fun o' d' ho' hd'=>?_⟩;rw [ho] at ho';cases ho';rw [hd] at hd';cases hd';exact ⟨hv1,hv2⟩
 obtain ⟨f,hf⟩:∃ f:Nat→Value,∀ i,i<K→listed.getD i true=false→∀ o d,l[i]? =some o→o.dst=some d→Yields P l.toArray o (f i) (mkA n L')∧R d (f i) w':=by
  refine ⟨fun i=>open Classical in if h:∃ v,∀ o d,l[i]? =some o→o.dst=some d→Yields P l.toArray o v (mkA n L')∧R d v w' then h.choose else undef,fun i hi hl=>?_⟩;have h:=hval i hi hl;simp only [dif_pos h];exact h.choose_spec
 have hUm:∀ i,i∈(List.range K).filter (fun i=> !listed.getD i true)↔i<K∧listed.getD i true=false:=fun i=>by
  rw [List.mem_filter,List.mem_range];simp
 obtain ⟨U,hU,hUn⟩:∃ U:List Nat,(∀ i,i∈U↔i<K∧listed.getD i true=false)∧U.Nodup:=⟨_,hUm,List.nodup_range.sublist (List.filter_sublist ..)⟩;have hbind:∀ {i:Nat} {o:Oper},l[i]? =some o→(l[i]?).bind (·.dst)=o.dst:=fun h=>by rw [h];rfl
 have hRall:∀ d∈eG l K,R d (br ((U.filterMap fun i=>((l[i]?).bind (·.dst)).map fun d=>(d,f i))++L') d) w':=by
  intro d hd;obtain ⟨o,ho,hod⟩:=List.mem_filterMap.1 hd;obtain ⟨i,hi⟩:=List.mem_iff_getElem?.1 ho;rw [List.getElem?_take] at hi;split at hi
  ·rename_i hiK;obtain ⟨o',d',ho',hd',_,hdist⟩:=hhead i hiK;rw [hi] at ho';cases ho';rw [hod] at hd';cases hd'
   have hne:∀ j∈U,j≠i→(l[j]?).bind (·.dst)≠some d:=fun j hj hji=>by
    have hjK:=((hU j).1 hj).1;obtain ⟨oj,dj,hoj,_⟩:=hhead j hjK;rw [hbind hoj];exact hdist j oj hjK hji hoj
   cases hb:listed.getD i true with
   |true=>
    rw [iA U fun j hj=>hne j hj (fun e=>by subst e;have:=((hU j).1 hj).2;rw [hb] at this;cases this)];exact hR i o d hiK hi hb hod
   |false=>
    rw [jU U ((hU i).2 ⟨hiK,hb⟩) ((hbind hi).trans hod) hne];exact (hf i hiK hb o d hi hod).2
  ·cases hi
 have he:=fp _ (eG l K) hRall (hend w' hF)
 have hL:mkA n ((eG l K).map (fun d=>(d,br ((U.filterMap fun i=>((l[i]?).bind (·.dst)).map fun d=>(d,f i))++L') d))++L)=fg l f U (mkA n L'):=by
  rw [pq];refine iz fun t _=>?_
  rw [kz];split
  ·rfl
  ·rename_i hne
   have hnd:∀ i,i<K→∀ o,l[i]? =some o→o.dst≠some t:=fun i hi o ho hod=>hne (by
    simp only [List.elem_eq_mem,decide_eq_true_eq];exact List.mem_filterMap.2 ⟨o,List.mem_iff_getElem?.2 ⟨i,by rw [List.getElem?_take,if_pos hi];exact ho⟩,hod⟩)
   rw [iA U fun j hj=>by
    have hjK:=((hU j).1 hj).1;obtain ⟨oj,dj,hoj,_⟩:=hhead j hjK;rw [hbind hoj];exact hnd j hjK oj hoj]
   exact (hfr t fun i o hi ho _ hod=>hnd i hi o ho hod).symm
 replace he:=he.out;rw [hL] at he;refine n4 hQ hc m K listed U _ w' hcl hcount hs (Nat.le_refl _) hKl (fun j h1 h2=>by rw [htail j h1 h2];simp [h1]) hUn (fun j hj=>⟨fun h=>(hU j).2 ⟨hj,h⟩,fun h=>((hU j).1 h).2⟩) (fun j hj=>?_) he;obtain ⟨h1,h2⟩:=(hU j).1 hj;obtain ⟨oj,dj,hoj,hdj,_⟩:=hhead j h1;exact ⟨h1,hpre j h1 h2,oj,hoj,(hf j h1 h2 oj dj hoj hdj).1⟩
theorem pz (hQ:PQ Q) (hc:ky l K=true) (hm1:∀ w1 w2,Gr w1 w2→I1 w1→I1 w2) (hm2:∀ w1 w2,Gr w1 w2→I2 w1→I2 w2) (hmono1:∀ t v w1 w2,Gr w1 w2→R1 t v w1→R1 t v w2) (hmono:∀ t v w1 w2,Gr w1 w2→R t v w1→R t v w2)
 (hop:ir P l.toArray n L I2 R1 R l K mu 0 (l.take K)) (h12:∀ t v w,R1 t v w→R t v w) (hmuL:mu<K→dt l K mu=false) (hmu:yS P l.toArray n L I1 I2 R1 R l K mu l[mu]?)
 (hend:∀ w',I2 w'→g_ R w' (eG l K) fun M=>St P l.toArray Q (l.drop K) n (M++L) w') :
 ∀ (m:Nat) (listed:Array Bool) (L':List (Nat×Value)) (w':World),ib l listed→listed.toList.count false=m→listed.size=l.length→(∀ j,K≤j→j<l.length→listed.getD j true=false)→I2 w'→(listed.getD mu true=false→I1 w')→
  (∀ t,(∀ i o,i<K→l[i]? =some o→listed.getD i true=true→o.dst≠some t)→br L' t=br L t)→
  (∀ i o d,i<K→l[i]? =some o→listed.getD i true=true→o.dst=some d→R d (br L' d) w')→(listed.getD mu true=false→∀ i o d,i<K→l[i]? =some o→listed.getD i true=true→o.dst=some d→R1 d (br L' d) w')→wpAny P .any l.toArray Q m listed (mkA n L') w':=by
 have hc1:=(Bool.and_eq_true_iff.1 hc).1;have hlate:=(Bool.and_eq_true_iff.1 hc).2;have hKl:K≤l.length:=dT_ (Bool.and_eq_true_iff.1 hc1).1;have hck:=(List.all_eq_true.1 (Bool.and_eq_true_iff.1 hc1).2);intro m
 induction m with
 |zero=>
  intro listed L' w' hcl hcount hs htail hF hF1 hfr hR hR1
  exact lH hQ hc hop h12 hmuL hend 0 listed L' w' hcl hcount hs htail hF hfr hR (fun i hi h=>by
   have hm:listed[i]'(by omega)∈listed.toList:=by simp
   have hb:listed[i]'(by omega)=false:=by simpa [Array.getD,show i<listed.size by omega] using h
   rw [hb] at hm;exact absurd hcount (Nat.pos_iff_ne_zero.1 (List.count_pos_iff.2 hm)))
 |succ m ih=>
  intro listed L' w' hcl hcount hs htail hF hF1 hfr hR hR1;by_cases hpre:∀ i,i<K→listed.getD i true=false→dt l K i=true
  ·exact lH hQ hc hop h12 hmuL hend (m+1) listed L' w' hcl hcount hs htail hF hfr hR hpre
  ·
   have hn0:∃ i,i<K∧listed.getD i true=false∧dt l K i=false:=by
    refine Classical.byContradiction fun hno=>hpre fun i hi hf=>?_
    cases hb:dt l K i with
    |true=>rfl
    |false=>exact absurd ⟨i,hi,hf,hb⟩ hno
   obtain ⟨n0,hn0⟩:=hn0;obtain ⟨i0,hi0,hmin⟩:=exists_least (p:=fun i=>i<K∧listed.getD i true=false) ⟨n0,hn0.1,hn0.2.1⟩;have hi0l:i0<l.length:=by omega
   have hready:i0∈Region.ready .any l.toArray listed:=by
    refine mem_ready.2 ⟨hi0.2,l[i0],by rw [List.getElem?_toArray,List.getElem?_eq_getElem hi0l],fun e he hb=>?_⟩;have hx:=hck i0 (List.mem_range.2 hi0l);rw [List.getElem?_eq_getElem hi0l] at hx;simp only [Bool.and_eq_true] at hx;have he2:=List.all_eq_true.1 hx.1.1 e (by simpa using he);rw [hb] at he2;simp at he2;rw [←bB (by omega)];cases hb2:listed.getD e.on true with
    |true=>rfl
    |false=>exact absurd (hmin e.on ⟨by omega,hb2⟩) (by omega)
   refine ⟨fun h0=>(by rw [h0] at hready;cases hready),fun i hi=>?_⟩;obtain ⟨h0,o,ho,hall⟩:=mem_ready.1 hi;rw [List.getElem?_toArray] at ho;have hil:i<l.length:=(List.getElem?_eq_some_iff.1 ho).1;have hx:=hck i (List.mem_range.2 hil);rw [ho] at hx;simp only [Bool.and_eq_true] at hx
   have hiK:i<K:=by
    rcases Nat.lt_or_ge i K with h | h
    ·exact h
    ·exfalso;have h5:=eW hcl hall (k_ hn0.2.2 ho h);rw [←bB (by omega),hn0.2.1] at h5;cases h5
   have h3:=hx.2;rw [if_pos hiK] at h3;simp only [Bool.and_eq_true] at h3;obtain ⟨h3a,h3b⟩:=h3;cases hod:o.dst with
   |none=>rw [hod] at h3a;cases h3a
   |some d=>
    rw [hod] at h3a;simp only [Bool.and_eq_true] at h3a;have hlooks:=qE (L:=L) hc hcl hs ho hil h0 hfr
    have hfactG:∀ (RR:Nat→Value→World→Prop),(∀ i o d,i<K→l[i]? =some o→listed.getD i true=true→o.dst=some d→RR d (br L' d) w')→∀ t∈fe l K i o,RR t (br L' t) w':=by
     intro RR hRR t ht;obtain ⟨_,j,oj,hjK,hj,hd,_,hdep⟩:=iv hc hiK ho ht;have h6:=eW hcl hall hdep;exact hRR j oj t hjK hj (by rw [bB (by omega)];exact h6) hd
    have hsel:dK o.op=false:=by simpa using hx.1.2
    obtain ⟨hE,hW⟩:=fv (n:=n) (ops:=l.toArray) (o:=o) hsel hlooks
    have next:∀ v w'',I2 w''→(i≠mu→listed.getD mu true=false→I1 w'')→R d v w''→(i≠mu→R1 d v w'')→(∀ t u,t≠d→R t u w'→(i=mu→R1 t u w')→R t u w'')→(i≠mu→∀ t u,R1 t u w'→R1 t u w'')→wpAny P .any l.toArray Q m (listed.setIfInBounds i true) ((mkA n L').put (some d) v) w'':=by
     intro v w'' hI2' hI1' hRv hR1v hst hst1;rw [eO]
     have hne:∀ j oj d',j<K→l[j]? =some oj→j≠i→oj.dst=some d'→d'≠d:=by
      intro j oj d' hj hoj hji hd e;have h5:=List.all_eq_true.1 h3a.1 j (List.mem_range.2 hj);rw [hoj] at h5;simp [hji,hd,e] at h5
     refine ih _ _ w'' (kB hcl ho hall) ?_ (by simpa using hs) (fun j hj1 hj2=>?_) hI2' (fun hml=>?_) (fun t ht=>?_) (fun j oj d' hj hoj hlj hd=>?_) (fun hml j oj d' hj hoj hlj hd=>?_)
     ·have hil':i<listed.size:=by omega
      have hfalse:listed.toList[i]? =some false:=by
       rw [Array.getElem?_toList,Array.getElem?_eq_getElem hil'];simp [Array.getD,hil'] at h0;rw [h0]
      rw [Array.toList_setIfInBounds];have:=eX (l:=listed.toList) (i:=i) hfalse;omega
     ·rw [getD_set_ne true (by omega)];exact htail j hj1 hj2
     ·have him:i≠mu:=fun e=>by subst e;simp [show i<listed.size by omega] at hml
      rw [getD_set_ne true him] at hml;exact hI1' him hml
     ·have htd:t≠d:=fun e=>ht i o hiK ho (by simp [show i<listed.size by omega]) (by rw [hod,e])
      rw [cH,if_neg htd];refine hfr t fun j oj hj hoj hlj=>ht j oj hj hoj ?_
      by_cases e:i=j
      ·subst e;rw [h0] at hlj;cases hlj
      ·rw [getD_set_ne true e];exact hlj
     ·rw [cH];by_cases e:j=i
      ·subst e;rw [ho] at hoj;cases hoj;rw [hod] at hd;cases hd;rw [if_pos rfl];exact hRv
      ·have hdd:=hne j oj d' hj hoj e hd;rw [if_neg hdd];rw [getD_set_ne true (Ne.symm e)] at hlj;refine hst _ _ hdd (hR j oj d' hj hoj hlj hd) (fun e2=>?_);subst e2;exact hR1 h0 j oj d' hj hoj hlj hd
     ·have him:i≠mu:=fun e=>by subst e;simp [show i<listed.size by omega] at hml
      rw [getD_set_ne true him] at hml;rw [cH];by_cases e:j=i
      ·subst e;rw [ho] at hoj;cases hoj;rw [hod] at hd;cases hd;rw [if_pos rfl];exact hR1v him
      ·rw [if_neg (hne j oj d' hj hoj e hd)];rw [getD_set_ne true (Ne.symm e)] at hlj;exact hst1 him _ _ (hR1 hml j oj d' hj hoj hlj hd)
    unfold wpOp;rw [List.getElem?_toArray,ho];show if Region.wanted o (yielded l.toArray (mkT n.n L'))=true then _ else _
    by_cases him:i=mu
    ·subst him;rw [ho] at hmu;have hok:=fp (br L') _ (hfactG R1 (hR1 h0)) (hmu w' (hF1 h0));rw [hod] at hok;simp only [Option.getD_some] at hok;unfold mJ at hok;rw [hE,hW] at hok;obtain ⟨hw,⟨v,w'',hr,hI,hRv,hst⟩ | ⟨f,args,hr,hcall⟩⟩:=hok
     ·rw [if_pos hw];refine .inl ?_;unfold Oper.wp;rw [cz,hr,Oper.upon_value,hod];exact next v w'' hI (fun h=>absurd rfl h) hRv (fun h=>absurd rfl h) (fun t u ht _ h1=>hst t u ht (h1 rfl)) (fun h=>absurd rfl h)
     ·rw [if_pos hw];refine .inl ?_;unfold Oper.wp;rw [cz,hr,Oper.upon_enter,hod];refine Calls.mono hcall fun e w'' ⟨v,he,hI,hRv,hst⟩=>?_
      subst he;exact next v w'' hI (fun h=>absurd rfl h) hRv (fun h=>absurd rfl h) (fun t u ht _ h1=>hst t u ht (h1 rfl)) (fun h=>absurd rfl h)
    ·have hok:=fp (br L') _ (hfactG R hR) (kv hop i o (by rw [List.getElem?_take,if_pos hiK];exact ho) him w' hF);rw [hod] at hok;simp only [Option.getD_some] at hok;unfold an at hok;rw [hE,hW] at hok
     have next':∀ v w'',Gr w' w''→R1 d v w''→wpAny P .any l.toArray Q m (listed.setIfInBounds i true) ((mkA n L').put (some d) v) w'':=fun v w'' hF' hRv=>
      next v w'' (hm2 _ _ hF' hF) (fun _ h=>hm1 _ _ hF' (hF1 h)) (h12 _ _ _ hRv) (fun _=>hRv) (fun t u _ h _=>hmono _ _ _ _ hF' h) (fun _ t u h=>hmono1 _ _ _ _ hF' h)
     rcases hok with ⟨hw,⟨v,w'',hr,hF',hRv⟩ | ⟨f,args,hr,hcall⟩⟩ | ⟨hw,hRv⟩
     ·rw [if_pos hw];refine .inl ?_;unfold Oper.wp;rw [cz,hr,Oper.upon_value,hod];exact next' v w'' hF' hRv
     ·rw [if_pos hw];refine .inl ?_;unfold Oper.wp;rw [cz,hr,Oper.upon_enter,hod];refine Calls.mono hcall fun e w'' ⟨v,he,hF',hRv⟩=>?_
      subst he;exact next' v w'' hF' hRv
     ·rw [if_neg (by rw [hw];simp),hod];exact next' undef w' Gr.rfl_ hRv
theorem bI {id:Nat} (K:Nat) (RL:List (Nat×(Value→World→Prop))) (hQ:PQ Q) (hm:P.follows .mixedOrders=true) (hc:ky l K=true) (hmono:lO RL)
 (hop:ir P l.toArray n L (Gr w) (eI RL) (eI RL) l K l.length 0 (l.take K)) (hend:∀ w',Gr w w'→g_ (eI RL) w' (eG l K) fun M=>St P l.toArray Q (l.drop K) n (M++L) w'):Cd P (.region id l.toArray true) Q n L w:=by
 refine ⟨wp_region_any hm ?_⟩;have hKl:K≤l.length:=dT_ (Bool.and_eq_true_iff.1 (Bool.and_eq_true_iff.1 hc).1).1
 have:=pz (Q:=Q) (mu:=l.length) (I1:=Gr w) (I2:=Gr w) (R1:=eI RL) hQ hc (fun _ _ hF h=>h.next hF) (fun _ _ hF h=>h.next hF) (dU hmono) (dU hmono) hop (fun _ _ _ h=>h) (fun h=>absurd h (by omega)) (by simp [yS]) hend l.length (Array.replicate l.length false) L { w with drawn:=w.drawn+1 } (jH l _) (by simp) (by simp)
  (fun j _ hj=>by simp [Array.getD,hj]) Gr.rfl_.d1 (fun _=>Gr.rfl_.d1) (fun _ _=>rfl) (fun i o d hi _ hl=>by
   have:i<l.length:=by omega
   simp [Array.getD,this] at hl) (fun _ i o d hi _ hl=>by
   have:i<l.length:=by omega
   simp [Array.getD,this] at hl)
 simpa using this
end late
end DG
end Go.Proofs.YtcbakncjacnnjaaGreat
namespace Go.Proofs.YtcbakncjacnnjaaGreat
open Go.Proofs.Tryz (prog)
open Go.RowKit Go.ChangeShapes Go.WideShapes Go.ChangeAt Go.Sort Go.Proofs
section
variable {α:Type} [Inhabited α] {f:α→List Value} {s:Nat}
omit [Inhabited α] in
theorem C4 (hf:∀ x,(f x).length=s) (L:List α) (i j:Nat) (hi:i<L.length) (hj:j<s):(L.flatMap f)[i*s+j]? =(f L[i])[j]? :=by
 have hL:L.flatMap f=(L.take i).flatMap f++(f L[i]++(L.drop (i+1)).flatMap f):=by
  have h0:L=L.take i++L[i]::L.drop (i+1):=by rw [←List.drop_eq_getElem_cons hi,List.take_append_drop]
  exact (congrArg (List.flatMap f) h0).trans (by rw [List.flatMap_append,List.flatMap_cons])
 have ht:((L.take i).flatMap f).length=i*s:=by rw [dW hf,List.length_take,Nat.min_eq_left (by omega)]
 rw [hL,List.getElem?_append_right (by omega),ht,Nat.add_sub_cancel_left,List.getElem?_append_left (by rw [hf];exact hj)]
theorem ta (hf:∀ x,(f x).length=s) (hs:0<s) (L:List α):(flatK f s L.toArray).toList=L.flatMap f:=by
 apply List.ext_getElem?;intro t;have hlen:(L.flatMap f).length=L.length*s:=dW hf L;rw [Array.getElem?_toList];by_cases ht:t<L.length*s
 ·have hd:t/s<L.length:=Nat.div_lt_of_lt_mul (by rw [Nat.mul_comm];exact ht);have hm:t%s<s:=Nat.mod_lt _ hs;have e:t=t/s*s+t%s:=by rw [Nat.mul_comm];exact (Nat.div_add_mod t s).symm
  have h1:=get_flatK f s L.toArray t (by simpa using ht);rw [getElem!_pos _ t (by simpa using ht)] at h1;rw [Array.getElem?_eq_getElem (by simpa using ht),h1]
  conv=>rhs;rw [e]
  rw [C4 hf L _ _ hd hm];have h2:(L.toArray[t/s]! :α)=L[t/s]:=by rw [getElem!_pos _ _ (by simpa using hd)];simp
  rw [h2,getElem!_pos _ _ (by rw [hf];exact hm),List.getElem?_eq_getElem (by rw [hf];exact hm)]
 ·rw [Array.getElem?_eq_none (by simpa using ht),List.getElem?_eq_none (by omega)]
theorem uY (hf:∀ x,(f x).length=s) (hs:0<s) {w:World} {g:Nat} {cur:List Value} {e:TypeId} {ss:List α} (hb:Blk w g e cur.toArray) (ht:cur.take (ss.length*s)=ss.flatMap f):HoldsK f s w g 0 ss.toArray:=by
 unfold HoldsK;intro j hj;have hj':j<ss.length*s:=by simpa using hj
 have hb':w.heap[g]? =some (.cells cur.toArray e (0,0)):=hb;refine ⟨?_,by simp [World.frozen?,hb']⟩;have h1:cur[j]? =(ss.flatMap f)[j]? :=by rw [←ht,List.getElem?_take_of_lt hj']
 rw [←ta hf hs,List.getElem?_eq_getElem (l:=(flatK f s ss.toArray).toList) (by simpa using hj)] at h1;rw [Nat.zero_add,getElem!_pos _ j hj];simp only [World.cell?,hb'];simpa using h1
theorem mC {w:World} {g n:Nat} {os:Array Obj} (d:Array α):w.grownBy (sortWorldK f s w g 0 n d os) (some g):=by
 unfold sortWorldK putRowK;refine ⟨rfl,rfl,rfl,by simp,fun k hk hne=>?_⟩;rw [heap_grow_old _ _ (by simpa using hk)];have:g≠k:=fun e=>hne (by rw [e])
 simp [putRow,mapBlock,Sort.ahead,Array.getElem?_modify,this]
theorem vN {w:World} {g n:Nat} {os:Array Obj} {cur:Array Value} {e:TypeId} {fr:Nat×Nat} (d:Array α) (hb:w.heap[g]? =some (.cells cur e fr)) :
 (sortWorldK f s w g 0 n d os).heap[g]? =some (.cells (putCells id 0 (flatK f s d) cur) e fr):=by
 have hg:g<w.heap.size:=(Array.getElem?_eq_some_iff.1 hb).1;unfold sortWorldK putRowK;rw [heap_grow_old _ _ (by simpa using hg)];simp [putRow,mapBlock,Sort.ahead,Array.getElem?_modify,hb,onCells]
theorem r7 (cur F:Array Value) (h:F.size≤cur.size):(putCells id 0 F cur).toList.take F.size=F.toList:=by
 apply List.ext_getElem?;intro j;by_cases hj:j<F.size
 ·rw [List.getElem?_take_of_lt hj,Array.getElem?_toList];simp [putCells,hj,show j<cur.size by omega]
 ·rw [List.getElem?_take_eq_none (by omega),List.getElem?_eq_none (by simp;omega)]
theorem q6 (hf:∀ x,(f x).length=s) (hs:0<s) {w:World} {base g cap n:Nat} {e:TypeId} {os:Array Obj} {cur:List Value} {ts:List α} {m:Nat} (hl:ts.length=m) (hbase:base≤g) (hb:Blk w g e cur.toArray) (h1:m≤cap) (h2:cap≤maxLen) (h3:cur.length=cap*s) :
 (sortWorldK f s w g 0 n ts.toArray os).ownsRow base e s (.slice (some ⟨g,0,none⟩) m cap) m (ts.flatMap f):=by
 subst hl;refine ⟨by rw [dW hf],.inr ⟨g,cap,_,rfl,hbase,vN _ hb,h1,h2,by simp [putCells,h3],?_⟩⟩;have h4:=Nat.mul_le_mul_right s h1;have:=r7 cur.toArray (flatK f s ts.toArray) (by simp;omega);rw [ta hf hs] at this;simpa using this
end
end Go.Proofs.YtcbakncjacnnjaaGreat
namespace Go.Proofs
open Go.Shelf
def Tryz.sortDoc_ren:Go.Shelf.Ren:=⟨fun | 6=>57 | 15=>80 | 14=>91 | 28=>114 | 29=>115 | 20=>122 | 21=>123 | 22=>124 | 23=>125 | 24=>126 | 25=>127 | 26=>128 | 27=>129 | 46=>158 | 47=>150 | 48=>151 | 49=>159 | 50=>160 | 57=>181 | n=>n,fun | 22=>22 | 24=>37 | 25=>92 | 3=>3 | 39=>67 | 0=>0 | 53=>159 | 55=>161 | 4=>4 | 46=>153 | 45=>152 | 50=>70 | 5=>5 | 9=>9 | 66=>187 | 70=>191 | 76=>219 | 77=>214 | n=>n,fun | n=>n⟩
theorem Tryz.sortDoc:Go.Proofs.SlLaysF0.n6 prog Tryz.sortDoc_ren:={
 mixed:=by kernel_rfl
 f6:=⟨Tryz.f57.name,by decide,Tryz.func57.trans (congrArg some (by kernel_rfl))⟩
 f14:=⟨Tryz.f91.name,by decide,Tryz.func91.trans (congrArg some (by kernel_rfl))⟩
 f15:=Tryz.func80.trans (congrArg some (by kernel_rfl))
 f20:=⟨Tryz.f122.name,by decide,Tryz.func122.trans (congrArg some (by kernel_rfl))⟩
 f21:=⟨Tryz.f123.name,by decide,Tryz.func123.trans (congrArg some (by kernel_rfl))⟩
 f22:=⟨Tryz.f124.name,by decide,Tryz.func124.trans (congrArg some (by kernel_rfl))⟩
 f23:=⟨Tryz.f125.name,by decide,Tryz.func125.trans (congrArg some (by kernel_rfl))⟩
 f24:=⟨Tryz.f126.name,by decide,Tryz.func126.trans (congrArg some (by kernel_rfl))⟩
 f25:=⟨Tryz.f127.name,by decide,Tryz.func127.trans (congrArg some (by kernel_rfl))⟩
 f26:=⟨Tryz.f128.name,by decide,Tryz.func128.trans (congrArg some (by kernel_rfl))⟩
 f27:=⟨Tryz.f129.name,by decide,Tryz.func129.trans (congrArg some (by kernel_rfl))⟩
 f28:=Tryz.func114.trans (congrArg some (by kernel_rfl))
 f29:=Tryz.func115.trans (congrArg some (by kernel_rfl))
 f46:=⟨Tryz.f158.name,by decide,Tryz.func158.trans (congrArg some (by kernel_rfl))⟩
 f47:=Tryz.func150.trans (congrArg some (by kernel_rfl))
 f48:=Tryz.func151.trans (congrArg some (by kernel_rfl))
 f49:=⟨Tryz.f159.name,by decide,Tryz.func159.trans (congrArg some (by kernel_rfl))⟩
 f50:=⟨Tryz.f160.name,by decide,Tryz.func160.trans (congrArg some (by kernel_rfl))⟩
 f57:=⟨Tryz.f181.name,by decide,Tryz.func181.trans (congrArg some (by kernel_rfl))⟩
 t0:=Tryz.underlying0
 a0:=Tryz.isAgg0
 z0:=Tryz.sizeOf0
 v0:=Tryz.zeroValue0
 t3:=Tryz.underlying3
 a3:=Tryz.isAgg3
 z3:=Tryz.sizeOf3
 v3:=Tryz.zeroValue3
 t4:=Tryz.underlying4
 a4:=Tryz.isAgg4
 z4:=Tryz.sizeOf4
 v4:=Tryz.zeroValue4
 t5:=Tryz.underlying5
 a5:=Tryz.isAgg5
 z5:=Tryz.sizeOf5
 v5:=Tryz.zeroValue5
 t9:=Tryz.underlying9
 a9:=Tryz.isAgg9
 z9:=Tryz.sizeOf9
 v9:=Tryz.zeroValue9
 t22:=Tryz.underlying22
 a22:=Tryz.isAgg22
 z22:=Tryz.sizeOf22
 v22:=Tryz.zeroValue22
 t25:=Tryz.underlying92
 a25:=Tryz.isAgg92
 z25:=Tryz.sizeOf92
 v25:=Tryz.zeroValue92
 t39:=Tryz.underlying67
 a39:=Tryz.isAgg67
 z39:=Tryz.sizeOf67
 v39:=Tryz.zeroValue67
 t45:=Tryz.underlying152
 a45:=Tryz.isAgg152
 z45:=Tryz.sizeOf152
 v45:=Tryz.zeroValue152
 t46:=Tryz.underlying153
 a46:=Tryz.isAgg153
 z46:=Tryz.sizeOf153
 v46:=Tryz.zeroValue153
 t50:=Tryz.underlying70
 a50:=Tryz.isAgg70
 z50:=Tryz.sizeOf70
 v50:=Tryz.zeroValue70
 t53:=Tryz.underlying159
 a53:=Tryz.isAgg159
 z53:=Tryz.sizeOf159
 v53:=Tryz.zeroValue159
 t55:=Tryz.underlying161
 a55:=Tryz.isAgg161
 z55:=Tryz.sizeOf161
 v55:=Tryz.zeroValue161
 t66:=Tryz.underlying187
 a66:=Tryz.isAgg187
 z66:=Tryz.sizeOf187
 v66:=Tryz.zeroValue187
 t70:=Tryz.underlying191
 a70:=Tryz.isAgg191
 z70:=Tryz.sizeOf191
 v70:=Tryz.zeroValue191
 t76:=Tryz.underlying219
 a76:=Tryz.isAgg219
 z76:=Tryz.sizeOf219
 v76:=Tryz.zeroValue219
 t77:=Tryz.underlying214
 a77:=Tryz.isAgg214
 z77:=Tryz.sizeOf214
 v77:=Tryz.zeroValue214 }
def Tryz.sortHit_ren:Go.Shelf.Ren:=⟨fun | 6=>43 | 15=>80 | 14=>79 | 28=>114 | 29=>115 | 20=>106 | 21=>107 | 22=>108 | 23=>109 | 24=>110 | 25=>111 | 26=>112 | 27=>113 | 46=>149 | 47=>150 | 48=>151 | 49=>152 | 50=>153 | 57=>179 | n=>n,fun | 22=>44 | 24=>57 | 25=>82 | 3=>3 | 39=>67 | 0=>0 | 53=>159 | 55=>161 | 4=>4 | 46=>153 | 45=>152 | 50=>70 | 5=>5 | 9=>9 | 66=>187 | 70=>191 | 76=>219 | 77=>214 | n=>n,fun | n=>n⟩
theorem Tryz.sortHit:Go.Proofs.SlLaysF0.n6 prog Tryz.sortHit_ren:={
 mixed:=by kernel_rfl
 f6:=⟨Tryz.f43.name,by decide,Tryz.func43.trans (congrArg some (by kernel_rfl))⟩
 f14:=⟨Tryz.f79.name,by decide,Tryz.func79.trans (congrArg some (by kernel_rfl))⟩
 f15:=Tryz.func80.trans (congrArg some (by kernel_rfl))
 f20:=⟨Tryz.f106.name,by decide,Tryz.func106.trans (congrArg some (by kernel_rfl))⟩
 f21:=⟨Tryz.f107.name,by decide,Tryz.func107.trans (congrArg some (by kernel_rfl))⟩
 f22:=⟨Tryz.f108.name,by decide,Tryz.func108.trans (congrArg some (by kernel_rfl))⟩
 f23:=⟨Tryz.f109.name,by decide,Tryz.func109.trans (congrArg some (by kernel_rfl))⟩
 f24:=⟨Tryz.f110.name,by decide,Tryz.func110.trans (congrArg some (by kernel_rfl))⟩
 f25:=⟨Tryz.f111.name,by decide,Tryz.func111.trans (congrArg some (by kernel_rfl))⟩
 f26:=⟨Tryz.f112.name,by decide,Tryz.func112.trans (congrArg some (by kernel_rfl))⟩
 f27:=⟨Tryz.f113.name,by decide,Tryz.func113.trans (congrArg some (by kernel_rfl))⟩
 f28:=Tryz.func114.trans (congrArg some (by kernel_rfl))
 f29:=Tryz.func115.trans (congrArg some (by kernel_rfl))
 f46:=⟨Tryz.f149.name,by decide,Tryz.func149.trans (congrArg some (by kernel_rfl))⟩
 f47:=Tryz.func150.trans (congrArg some (by kernel_rfl))
 f48:=Tryz.func151.trans (congrArg some (by kernel_rfl))
 f49:=⟨Tryz.f152.name,by decide,Tryz.func152.trans (congrArg some (by kernel_rfl))⟩
 f50:=⟨Tryz.f153.name,by decide,Tryz.func153.trans (congrArg some (by kernel_rfl))⟩
 f57:=⟨Tryz.f179.name,by decide,Tryz.func179.trans (congrArg some (by kernel_rfl))⟩
 t0:=Tryz.underlying0
 a0:=Tryz.isAgg0
 z0:=Tryz.sizeOf0
 v0:=Tryz.zeroValue0
 t3:=Tryz.underlying3
 a3:=Tryz.isAgg3
 z3:=Tryz.sizeOf3
 v3:=Tryz.zeroValue3
 t4:=Tryz.underlying4
 a4:=Tryz.isAgg4
 z4:=Tryz.sizeOf4
 v4:=Tryz.zeroValue4
 t5:=Tryz.underlying5
 a5:=Tryz.isAgg5
 z5:=Tryz.sizeOf5
 v5:=Tryz.zeroValue5
 t9:=Tryz.underlying9
 a9:=Tryz.isAgg9
 z9:=Tryz.sizeOf9
 v9:=Tryz.zeroValue9
 t22:=Tryz.underlying44
 a22:=Tryz.isAgg44
 z22:=Tryz.sizeOf44
 v22:=Tryz.zeroValue44
 t25:=Tryz.underlying82
 a25:=Tryz.isAgg82
 z25:=Tryz.sizeOf82
 v25:=Tryz.zeroValue82
 t39:=Tryz.underlying67
 a39:=Tryz.isAgg67
 z39:=Tryz.sizeOf67
 v39:=Tryz.zeroValue67
 t45:=Tryz.underlying152
 a45:=Tryz.isAgg152
 z45:=Tryz.sizeOf152
 v45:=Tryz.zeroValue152
 t46:=Tryz.underlying153
 a46:=Tryz.isAgg153
 z46:=Tryz.sizeOf153
 v46:=Tryz.zeroValue153
 t50:=Tryz.underlying70
 a50:=Tryz.isAgg70
 z50:=Tryz.sizeOf70
 v50:=Tryz.zeroValue70
 t53:=Tryz.underlying159
 a53:=Tryz.isAgg159
 z53:=Tryz.sizeOf159
 v53:=Tryz.zeroValue159
 t55:=Tryz.underlying161
 a55:=Tryz.isAgg161
 z55:=Tryz.sizeOf161
 v55:=Tryz.zeroValue161
 t66:=Tryz.underlying187
 a66:=Tryz.isAgg187
 z66:=Tryz.sizeOf187
 v66:=Tryz.zeroValue187
 t70:=Tryz.underlying191
 a70:=Tryz.isAgg191
 z70:=Tryz.sizeOf191
 v70:=Tryz.zeroValue191
 t76:=Tryz.underlying219
 a76:=Tryz.isAgg219
 z76:=Tryz.sizeOf219
 v76:=Tryz.zeroValue219
 t77:=Tryz.underlying214
 a77:=Tryz.isAgg214
 z77:=Tryz.sizeOf214
 v77:=Tryz.zeroValue214 }
end Go.Proofs
namespace Go.Proofs.YtcbakncjacnnjaaGreat
open Go.Proofs.Tryz (prog)
open Go.RowKit
open Go.ChangeShapes Go.WideShapes Go.ChangeAt
theorem nY:cU prog 57 1=some 1:=by kernel_rfl
theorem yE:aH prog 47=true:=by kernel_rfl
theorem yF:aH prog 45=true:=by kernel_rfl
theorem rA:aH prog 58=true:=by kernel_rfl
theorem ry:aH prog 44=true:=by kernel_rfl
def zY (a b:Int):Int:=if a<b then -1 else if b<a then 1 else 0
def wc (x y:Ht):Int:=if jG x.1 y.1≠0 then jG x.1 y.1 else zY x.2 y.2
theorem Iw (a b:Int) (w:World):Rt prog 47 [.int .i64 a,.int .i64 b] w fun v w'=>v=.int .i64 (zY a b)∧w=w':=
 Calls.mono (Tryz.cmp_Compare_int a b w) fun e w' h=>⟨_,h.1,by unfold zY;first | rfl | (unfold Lib.compareInt;rfl),h.2.symm⟩
theorem yr (a b:ByteArray) (w:World):Rt prog 46 [.string a,.string b] w fun v w'=>v=.int .i64 (jG a b)∧w=w':=
 Calls.mono (Tryz.strings_Compare a b w) fun e w' h=>⟨_,h.1,by unfold jG;rw [Lib.toList_data,Lib.toList_data],h.2.symm⟩
theorem KO (g:Nat) (x y:Int) (w:World) (hk:Blk w g 3 #[.int .i64 x,.int .i64 y]) :
 Rt prog 45 [.slice (some ⟨g,0,none⟩) 2 2] w (fun v w'=>v=.int .i64 (if x≠0 then x else y)∧w=w'):=by
 refine enter (n:=18) Tryz.func45 rfl rfl rfl (ag (aa (asi rfl (ah (ae (ag (aa (asi rfl (ah (ae (ag (ag (aa (mvs rfl (ab (aU bQ rfl) (mvi rfl ?_))))))))))))))));refine ah (ae (az (bg (G:=Nat) [2,5,9,10,11,12,13,14,15,16] (fun i=>[(8,.int .i64 (i:Nat))]) (fun i w'=>(i≤2∧(0<i→x=0)∧(1<i→y=0))∧w=w') (fun i=>2-i) (0) ⟨rfl,trivial⟩ ?_ ?_)))
 ·exact ⟨⟨Nat.zero_le _,fun h=>absurd h (by omega),fun h=>absurd h (by omega)⟩,rfl⟩
 rintro i ρ1 w1 ⟨⟨hi,hx0,hy0⟩,rfl⟩;refine ag (aa (ab (aY rfl rfl) (ah (ae (ag (K8 rfl (fun Q2=>?_) (fun Q2=>?_)))))))
 ·obtain ⟨u,hu,hx⟩:∃ u:Int,u=(if i=0 then x else y)∧w.cell? ⟨g,0+i,none⟩=some (.int .i64 u):=by
   rcases Nat.eq_zero_or_pos i with e | e
   ·subst e;exact ⟨x,rfl,hk.rd 0 rfl⟩
   ·obtain rfl:i=1:=by omega
    exact ⟨y,rfl,hk.rd 1 rfl⟩
  refine au (ae (ag (az (ag (aa (ab (bm cf rfl rfl (by omega)) (ab (aq bc rfl (by exact hx)) ?_)))))));refine asi rfl (ah (ae (ag (aa (mvi rfl (mvi rfl (ab (bP rfl rfl) (ah (ae (L_ rfl (fun Q3=>?_) (fun Q3=>?_)))))))))))
  ·refine ag (aa (mvi rfl (asi rfl (ah (ae (aA (bq (aF (aF (bq (aF (bE (v:=.int _ _) rfl rfl (⟨congrArg (Value.int .i64) ?_,rfl⟩)))))))))))));rcases Nat.eq_zero_or_pos i with e | e
   ·subst e;rw [if_pos rfl] at hu;subst hu;rw [if_pos (by omega)]
   ·obtain rfl:i=1:=by omega
    rw [if_neg (by omega)] at hu;subst hu;rw [if_neg (by have:=hx0 e;omega)]
  refine au (aL (ae (aa (ab (aI (b:=1) rfl rfl (by omega)) (mvi rfl (ah ?_))))));refine aO (i+1) ⟨(by first | rfl | (refine aM ?_;omega)),trivial⟩ (by (iterate 20 refine aB rfl ?_);exact aK) ⟨?_,?_⟩
  ·refine ⟨⟨by omega,fun _=>?_,fun h=>?_⟩,rfl⟩
   ·rcases Nat.eq_zero_or_pos i with e | e
    ·subst e;omega
    ·exact hx0 e
   ·obtain rfl:i=1:=by omega
    omega
  ·show 2-(i+1)<2-i;omega
 refine aZ (aC (aC (aT (ae (ag (aa (mvi rfl (asi rfl (ah (ae (aA (bE (v:=.int _ _) rfl rfl ?_))))))))))));obtain rfl:i=2:=by omega
 have h1:=hx0 (by omega);have h2:=hy0 (by omega);subst h1 h2;exact ⟨rfl,rfl⟩
theorem DS (x y:Ht) (w:World) :
 Rt prog 44 [.agg (hV x).toArray,.agg (hV y).toArray] w (fun v w'=>v=.int .i64 (wc x y)∧Gr w w'):=by
 refine enter (n:=17) Tryz.func44 rfl rfl rfl (ag (aa (DG.c0 (v:=.agg _) rfl ?_)));intro b2 w1 E2 hb2 hk2;refine DG.c0 (v:=.agg _) rfl ?_;intro b3 w2 E3 hb3 hk3;refine asi rfl (ah (ae (ag ?_)));apply DG.bI 13 [(5,eqp _),(6,eqp (.string x.1)),(7,eqp _),(8,eqp (.string y.1)),(9,eqp (.int .i64 (jG x.1 y.1))),(10,eqp _),(11,eqp (.int .i64 x.2)),(12,eqp _),(13,eqp (.int .i64 y.2)),(14,eqp (.int .i64 (zY x.2 y.2))),(15,fun v w'=>∃ b,v=.slice (some ⟨b,0,none⟩) 2 2∧Blk w' b 3 #[.int .i64 (jG x.1 y.1),.int .i64 (zY x.2 y.2)]),(16,eqp (.int .i64 (wc x y))),(4,eqp (.int .i64 (wc x y)))] (by repeat first | exact bW | refine bT ?_ | refine bG ?_) (by kernel_rfl) (by kernel_rfl) ⟨DG.af _,DG.af _,DG.af _,DG.af _,DG.af _,DG.af _,DG.af _,DG.af _,DG.af _,DG.af _,(fun _ _ _ hF ⟨b,h1,h2⟩=>⟨b,h1,h2.from_ (Gr.from_ hF)⟩),DG.af _,DG.af _,trivial⟩
 case hop=>
  constructor
  ·rintro-w4 D4;show DG.an ..;exact DG.ai (ak mi rfl) rfl
  constructor
  ·rintro-w5 D5;rintro _ rfl;show DG.an ..;exact DG.ai (aq aX rfl (by exact (hk2.from_ (Gr.from_ (E3.next ((Gr.rfl_.next D5))))).rd 0 rfl)) rfl
  constructor
  ·rintro-w6 D6;show DG.an ..;exact DG.ai (ak mi rfl) rfl
  constructor
  ·rintro-w7 D7;rintro _ rfl;show DG.an ..;exact DG.ai (aq aX rfl (by exact (hk3.from_ (Gr.from_ ((Gr.rfl_.next D7)))).rd 0 rfl)) rfl
  constructor
  ·rintro-w8 D8;rintro v8_6 rfl v8_8 rfl;show DG.an ..;refine DG.eH iT ((yr x.1 y.1 _).mono ?_);rintro _ _ ⟨rfl,rfl⟩;exact ⟨Gr.rfl_,rfl⟩
  constructor
  ·rintro-w9 D9;show DG.an ..;exact DG.ai (ak nY rfl) rfl
  constructor
  ·rintro-w10 D10;rintro _ rfl;show DG.an ..;exact DG.ai (aq bc rfl (by exact (hk2.from_ (Gr.from_ (E3.next ((Gr.rfl_.next D10))))).rd 1 rfl)) rfl
  constructor
  ·rintro-w11 D11;show DG.an ..;exact DG.ai (ak nY rfl) rfl
  constructor
  ·rintro-w12 D12;rintro _ rfl;show DG.an ..;exact DG.ai (aq bc rfl (by exact (hk3.from_ (Gr.from_ ((Gr.rfl_.next D12)))).rd 1 rfl)) rfl
  constructor
  ·rintro-w13 D13;rintro v13_11 rfl v13_13 rfl;show DG.an ..;refine DG.eH yE ((Iw x.2 y.2 _).mono ?_);rintro _ _ ⟨rfl,rfl⟩;exact ⟨Gr.rfl_,rfl⟩
  constructor
  ·rintro-w14 D14;rintro v14_9 rfl v14_14 rfl;show DG.an ..;exact DG.fR (sw (l:=[(0,.tmp 9),(1,.tmp 14)]) (cells:=#[.int .i64 (jG x.1 y.1),.int .i64 (zY x.2 y.2)]) (m:=2) df (by decide) (by decide) (by kernel_rfl)) (Gr.new Gr.rfl_ _) ⟨_,rfl,Blk.new _ _ _⟩
  constructor
  ·rintro-w15 D15;rintro v15_15 ⟨b15,rfl,hk15⟩;show DG.an ..;refine DG.eH yF ((KO b15 _ _ _ hk15).mono ?_);rintro _ _ ⟨rfl,rfl⟩;exact ⟨Gr.rfl_,rfl⟩
  constructor
  ·rintro-w16 D16;rintro v16_16 rfl;show DG.an ..;exact DG.ai (cq (v:=.int _ _) rfl) rfl
  exact trivial
 case hend=>
  intro w17 D17;rintro _ rfl v6 rfl _ rfl v8 rfl v9 rfl _ rfl v11 rfl _ rfl v13 rfl v14 rfl v15 ⟨b15,rfl,hk15⟩ v16 rfl v4 rfl;show St ..;refine ah (ae (aA (bE (v:=.int _ _) rfl rfl (⟨rfl,(((Gr.rfl_.next E2).next E3).next D17)⟩))))
theorem F0 (x y:Dc) (w:World) :
 Rt prog 58 [.agg (dV x).toArray,.agg (dV y).toArray] w (fun v w'=>v=.int .i64 (jG x.1 y.1)∧Gr w w'):=by
 refine enter (n:=10) Tryz.func58 rfl rfl rfl (ag (aa (DG.c0 (v:=.agg _) rfl ?_)));intro b2 w1 E2 hb2 hk2;refine DG.c0 (v:=.agg _) rfl ?_;intro b3 w2 E3 hb3 hk3;refine asi rfl (ah (ae (ag (aa (ab (ak aW rfl) (ab (aq aX rfl (by exact (hk2.from_ (Gr.from_ (E3.next (Gr.rfl_)))).rd 0 rfl)) ?_))))));refine ab (ak aW rfl) (ab (aq aX rfl (by exact (hk3.from_ (Gr.from_ (Gr.rfl_))).rd 0 rfl)) ?_);refine ax iT (yr x.1 y.1 _) ?_;rintro v9 w3 ⟨rfl,rfl⟩;refine asi rfl (ah (ae (aA (bE (v:=.int _ _) rfl rfl (⟨rfl,((Gr.rfl_.next E2).next E3)⟩)))))
theorem HY:Go.Sort.SWO (Go.Proofs.ltOf fun x y:Dc=>jG x.1 y.1):=by
 have e:∀ x y:Dc,Go.Proofs.ltOf (fun x y:Dc=>jG x.1 y.1) x y=true↔ltD x y:=fun x y=>by unfold Go.Proofs.ltOf;rw [decide_eq_true_iff];exact kW
 have e2:∀ x y:Dc,Go.Proofs.ltOf (fun x y:Dc=>jG x.1 y.1) x y=false↔¬ ltD x y:=fun x y=>by rw [←e,Bool.not_eq_true]
 exact ⟨fun x=>(e2 x x).2 (iK.irr x),fun x y z h k=>(e x z).2 (eD ((e x y).1 h) ((e y z).1 k)),fun x y z h k=>(e2 x z).2 fun q=>iK.tr ((e2 y z).1 k) ((e2 x y).1 h) q⟩
theorem BV {x y:Ht}:wc x y<0↔hLt x y:=by
 unfold wc hLt zY;by_cases h:jG x.1 y.1=0
 ·have e:=jx.1 h;rw [if_neg (fun k=>k h)];constructor
  ·intro h2;exact .inr ⟨e,by split at h2 <;> first | assumption | (split at h2 <;> omega)⟩
  ·rintro (h2 | ⟨_,h2⟩)
   ·rw [e] at h2;exact absurd h2 (fN _)
   ·rw [if_pos h2];omega
 ·rw [if_pos h,kW];exact ⟨.inl,fun h2=>h2.elim id fun h3=>absurd (jx.2 h3.1) h⟩
theorem HZ:Go.Sort.SWO (Go.Proofs.ltOf wc):=by
 have e:∀ x y:Ht,Go.Proofs.ltOf wc x y=true↔hLt x y:=fun x y=>by unfold Go.Proofs.ltOf;rw [decide_eq_true_iff];exact BV
 have e2:∀ x y:Ht,Go.Proofs.ltOf wc x y=false↔¬ hLt x y:=fun x y=>by rw [←e,Bool.not_eq_true]
 exact ⟨fun x=>(e2 x x).2 (ov x),fun x y z h k=>(e x z).2 (qK ((e x y).1 h) ((e y z).1 k)),fun x y z h k=>(e2 x z).2 fun q=>by
  rcases BH x y with a | a | a
  ·exact (e2 x y).1 h a
  ·subst a;exact (e2 x z).1 k q
  ·exact (e2 y z).1 k (qK a q)⟩
instance:Inhabited Dc:=⟨(⟨#[]⟩,⟨#[]⟩)⟩
theorem Cl (base:Nat) (A:Option Addr) (c n:Nat) (xs:List Dc) (w:World) (ho:w.ownsRow base 37 2 (.slice A n c) n (xs.flatMap dV)) (hl:n≤100000000) :
 Rt prog 57 [.slice A n c,.func (.func 58) #[] #[]] w fun _ w'=>(∃ ys:List Dc,ys.Perm xs∧(ys.Pairwise fun a b=>¬ ltD b a)∧w'.ownsRow base 37 2 (.slice A n c) n (ys.flatMap dV))∧w.grownBy w' (A.map (·.block)):=by
 have hxl:xs.length=n:=fZ bH ho;rcases Nat.eq_zero_or_pos n with h0 | h0
 ·subst h0;obtain rfl:=List.eq_nil_of_length_eq_zero hxl;exact Calls.mono (AnyF.slices_SortFunc_none Tryz.sortDoc A c _ w) fun e w' h=>⟨_,h.1,by rw [h.2];exact ⟨⟨[],.refl _,List.Pairwise.nil,ho⟩,World.grownBy.refl _ _⟩⟩
 ·obtain ⟨g,cur,rfl,hg,hbk,hnc,hcm,hcl,hct⟩:=fQ ho h0;subst hxl;have hk:=AnyQ.slices_SortFunc Tryz.sortDoc 2 (fun w=>lK bJ) (fun w=>d_ bh) dV bH jY (fun x y:Dc=>jG x.1 y.1) HY 58 #[] g 0 c xs.toArray w (fun args w=>gX rA args) (fun m os dk _ x y=>?_) (uY bH (by decide) hbk hct) hbk.lt (by simp;omega)
  ·refine Calls.mono hk fun e w' ⟨he,d',n2,os,hp,hs,hw⟩=>⟨_,he,?_,?_⟩
   ·obtain ⟨ts⟩:=d';have hlen:ts.length=xs.length:=by simpa using hp.1
    refine ⟨ts,?_,?_,?_⟩
    ·have:=hp.2.2;simpa [hlen,Array.extract_eq_self_of_le] using this
    ·rw [List.pairwise_iff_getElem];intro i j hi hj hij;have h9:=hs i j (Nat.zero_le _) hij (by simpa [hlen] using hj);rw [getElem!_pos _ _ (by simpa using hj),getElem!_pos _ _ (by simpa using hi)] at h9;unfold Go.Proofs.ltOf at h9;rw [decide_eq_false_iff_not,kW] at h9
     first | exact h9 | simpa using h9 | simpa [ltD] using h9
    ·rw [hw];exact q6 bH (by decide) hlen hg hbk hnc hcm hcl
   ·rw [hw];exact mC _
  ·refine Calls.mono (F0 x y _) fun e w' ⟨v,he,hv,hG⟩=>?_
   subst hv;exact ⟨he,hG⟩
instance:Inhabited Ht:=⟨(⟨#[]⟩,0)⟩
theorem Ck (base:Nat) (A:Option Addr) (c n:Nat) (xs:List Ht) (w:World) (ho:w.ownsRow base 57 2 (.slice A n c) n (xs.flatMap hV)) (hl:n≤100000000) :
 Rt prog 43 [.slice A n c,.func (.func 44) #[] #[]] w fun _ w'=>(∃ ys:List Ht,ys.Perm xs∧(ys.Pairwise fun a b=>¬ hLt b a)∧w'.ownsRow base 57 2 (.slice A n c) n (ys.flatMap hV))∧w.grownBy w' (A.map (·.block)):=by
 have hxl:xs.length=n:=fZ eP ho;rcases Nat.eq_zero_or_pos n with h0 | h0
 ·subst h0;obtain rfl:=List.eq_nil_of_length_eq_zero hxl;exact Calls.mono (AnyF.slices_SortFunc_none Tryz.sortHit A c _ w) fun e w' h=>⟨_,h.1,by rw [h.2];exact ⟨⟨[],.refl _,List.Pairwise.nil,ho⟩,World.grownBy.refl _ _⟩⟩
 ·obtain ⟨g,cur,rfl,hg,hbk,hnc,hcm,hcl,hct⟩:=fQ ho h0;subst hxl;have hk:=AnyQ.slices_SortFunc Tryz.sortHit 2 (fun w=>lK iD) (fun w=>d_ fE) hV eP Ih (wc) HZ 44 #[] g 0 c xs.toArray w (fun args w=>gX ry args) (fun m os dk _ x y=>?_) (uY eP (by decide) hbk hct) hbk.lt (by simp;omega)
  ·refine Calls.mono hk fun e w' ⟨he,d',n2,os,hp,hs,hw⟩=>⟨_,he,?_,?_⟩
   ·obtain ⟨ts⟩:=d';have hlen:ts.length=xs.length:=by simpa using hp.1
    refine ⟨ts,?_,?_,?_⟩
    ·have:=hp.2.2;simpa [hlen,Array.extract_eq_self_of_le] using this
    ·rw [List.pairwise_iff_getElem];intro i j hi hj hij;have h9:=hs i j (Nat.zero_le _) hij (by simpa [hlen] using hj);rw [getElem!_pos _ _ (by simpa using hj),getElem!_pos _ _ (by simpa using hi)] at h9;unfold Go.Proofs.ltOf at h9;rw [decide_eq_false_iff_not,BV] at h9
     first | exact h9 | simpa using h9 | simpa [ltD] using h9
    ·rw [hw];exact q6 eP (by decide) hlen hg hbk hnc hcm hcl
   ·rw [hw];exact mC _
  ·refine Calls.mono (DS x y _) fun e w' ⟨v,he,hv,hG⟩=>?_
   subst hv;exact ⟨he,hG⟩
end Go.Proofs.YtcbakncjacnnjaaGreat
namespace Go.Proofs.YtcbakncjacnnjaaGreat
open Go.Proofs.Tryz (prog)
open Go.RowKit
open Go.ChangeShapes Go.WideShapes Go.ChangeAt
open Go.Proofs.YtcbakncjacnnjaaGreat.SA
theorem yH:prog.underlying 9=some .string:=by kernel_rfl
theorem mn:aH prog 39=true:=by kernel_rfl
theorem AG:aH prog 57=true:=by kernel_rfl
theorem AF:aH prog 78=true:=by kernel_rfl
theorem tX:∀ (a0:ByteArray) (a1:Int),prog.built 57 [(0,.string a0),(1,.int .i64 a1)]=some #[.string a0,.int .i64 a1]:=by intros;kernel_rfl
theorem Cn {ys:List Dc} (hs:ys.Pairwise fun a b=>¬ ltD b a) (hd:Dif ys):SD ys:=(hs.and hd).imp fun {a b} h=>by
 rcases lW a.1 b.1 with e | e | e
 ·exact e
 ·exact absurd e h.2
 ·exact absurd e h.1
theorem yg {ps:List Pt} {L D ys:List Dc} (hG:ShG ps L D) (hp:ys.Perm (jI ps L)) (hs:ys.Pairwise fun a b=>¬ ltD b a):ys=D:=
 SD.uniq (Cn hs (hG.dif.perm hp.symm)) hG.sd (hp.trans hG.perm.symm)
noncomputable def pf (ps:List Pt) (L:List Dc) (i:Nat):List Dc:=L++(ps.take i).flatMap Pt.live
theorem Bp (ps:List Pt) (L:List Dc):pf ps L 0=L:=List.append_nil L
theorem JC (ps:List Pt) (L:List Dc):pf ps L ps.length=jI ps L:=by unfold pf jI;rw [List.take_length]
theorem Bq {ps:List Pt} {L:List Dc} {i:Nat} (h:i<ps.length):pf ps L (i+1)=pf ps L i++ps[i].live:=by
 unfold pf;rw [List.take_succ_eq_append_getElem h,List.flatMap_append,List.append_assoc,List.flatMap_cons,List.flatMap_nil,List.append_nil]
theorem HE {ps:List Pt} {L:List Dc} {i:Nat} (_:i≤ps.length):∃ r,jI ps L=pf ps L i++r:=by
 refine ⟨(ps.drop i).flatMap Pt.live,?_⟩;unfold pf jI;rw [List.append_assoc,←List.flatMap_append,List.take_append_drop]
theorem IR {ps:List Pt} {L D:List Dc} (hG:ShG ps L D) {i:Nat} (h:i≤ps.length):(pf ps L i).length≤64∧dsz (pf ps L i)≤16384:=by
 obtain ⟨r,e⟩:=HE (L:=L) h;have h1:=hG.perm;rw [e] at h1;have h2:=tc hG.fit h1.symm;have h3:=h2.1;have h4:=h2.2.2;rw [List.length_append] at h3;rw [pH] at h4;omega
theorem Hv {t q:ByteArray} {k:Nat}:(txt q).isPrefixOf ((txt t).drop k)=q.toList.isPrefixOf (t.toList.drop k):=by
 rw [←l8,Bool.eq_iff_iff,beq_iff_eq,pn,mN,te,Nat.add_sub_cancel_left]
theorem qG {t q:List Nat} {a:Nat}:∀ d,(∀ j,a≤j→j<a+d→q.isPrefixOf (t.drop j)=false)→gj t q (a+d)=gj t q a
 |0,_=>rfl
 |d+1,h=>by
  rw [←Nat.add_assoc,pE (h (a+d) (by omega) (by omega)),qG d fun j h1 h2=>h j h1 (by omega)]
theorem FB {t q:ByteArray} {a:Nat} (ha:a≤t.size) (hq:q.size≠0):(Lib.index (t.extract a t.size).data.toList q.data.toList=-1∧ks (txt t) (txt q)=gj (txt t) (txt q) a)∨∃ k:Nat,Lib.index (t.extract a t.size).data.toList q.data.toList=(k:Int)∧a+k+q.size≤t.size∧gj (txt t) (txt q) (a+k+1)=gj (txt t) (txt q) a++[a+k]:=by
 have h0:txt q≠[]:=fun e=>hq (by rw [←dr,e];rfl)
 have hl:(t.extract a t.size).data.toList=t.toList.drop a:=by
  rw [←Lib.toList_data,te,List.take_of_length_le (by rw [List.length_drop,mN];omega)]
 have hat:∀ j,Lib.occAt (t.toList.drop a) q.toList j=(txt q).isPrefixOf ((txt t).drop (a+j)):=fun j=>by
  rw [Hv];unfold Lib.occAt;rw [List.drop_drop]
 rw [hl,←Lib.toList_data q];have hlen:(t.toList.drop a).length=t.size-a:=by rw [List.length_drop,mN]
 rcases Lib.index_spec (t.toList.drop a) q.toList with ⟨h1,h2⟩ | ⟨k,h1,h2,h3,h4⟩
 ·refine .inl ⟨h1,?_⟩;rw [BA (k:=t.size+1) h0 (by rw [dr,dr];omega) (by rw [dr];exact Nat.le_refl _)]
  have:=qG (t:=txt t) (q:=txt q) (a:=a) (t.size+1-a) fun j j1 j2=>by
   have:=h2 (j-a) (by omega);rw [hat,show a+(j-a)=j by omega] at this;exact this
  rwa [show a+(t.size+1-a)=t.size+1 by omega] at this
 ·rw [hat] at h3;have h5:=(List.isPrefixOf_iff_prefix.1 h3).length_le;rw [List.length_drop,dr,dr] at h5;refine .inr ⟨k,h1,by omega,?_⟩
  rw [pD h3,qG k fun j j1 j2=>by
   have:=h4 (j-a) (by omega);rw [hat,show a+(j-a)=j by omega] at this;exact this]
theorem Co (s sub:ByteArray) (m:Int) (w:World) (hs:s.size<4294967281) (hm:w.cell? ⟨0,0,none⟩=some (.int .i64 m)):Rt prog 78 [.string s,.string sub] w fun v w'=>v=.int .i64 (Lib.index s.data.toList sub.data.toList)∧w=w':=
 Calls.mono (Tryz.strings_Index s sub m w hs hm) fun _ _ h=>⟨_,h.1,rfl,h.2.symm⟩
theorem zd (t q:ByteArray) (a:Nat) (m:Int) (w:World) (ha:a≤t.size) (hq:q.size≠0) (ht:t.size≤1000000) (hm:w.cell? ⟨0,0,none⟩=some (.int .i64 m)):Rt prog 78 [.string (t.extract a t.size),.string q] w fun v w'=>((v=.int .i64 (-1)∧ks (txt t) (txt q)=gj (txt t) (txt q) a)∨∃ k:Nat,v=.int .i64 (k:Nat)∧a+k+q.size≤t.size∧gj (txt t) (txt q) (a+k+1)=gj (txt t) (txt q) a++[a+k])∧w=w':=
 (Co _ q m w (by rw [ByteArray.size_extract];omega) hm).mono fun v w' h=>by
  obtain ⟨rfl,rfl⟩:=h;refine ⟨?_,rfl⟩;rcases FB ha hq with ⟨h1,h2⟩ | ⟨k,h1,h2,h3⟩
  ·exact .inl ⟨by rw [h1],h2⟩
  ·exact .inr ⟨k,by rw [h1],h2,h3⟩
def hTo (d:Dc) (q:ByteArray) (a:Nat):List Ht:=(gj (txt d.2) (txt q) a).map fun k=>(d.1,((k:Nat):Int))
theorem nA (U:Nat→Prop) (s:Nat) (D:List Dc) (w:World) (hs:eC w U s D) :
 Rt prog 28 [.pointer (some ⟨s,0,none⟩)] w (fun v w'=>(∃ A' c',v=.slice A' D.length c'∧w'.ownsRow w.heap.size 37 2 (.slice A' D.length c') D.length (D.flatMap dV))∧aj w w'):=by
 have hs0:=hs;obtain ⟨ps,L,Ap,cp,Al,cl,hG,h,hU⟩:=hs;have hll:=hG.loose;have hpl:=hG.parts;refine enter (n:=31) Tryz.func28 rfl rfl rfl (ag (aa (ass rfl (ah (ae (ag (aa (mvp rfl (ab (ay rfl) (ab (ak eB rfl) (ab (aq cC rfl (by exact (h.blk.from_ aj.rfl_).rd 1 rfl)) ?_)))))))))));refine ax nt (we Al cl L.length L _ ((cN.own bH (by decide) h.rowL).2.from_ aj.rfl_) rfl (sO h.rowL) (by omega)) ?_;rintro v9 w1 ⟨⟨A9,c9,rfl,ho9⟩,E9⟩;refine ass rfl (ah (ae (ag (ag (aa (mvp rfl (ab (ay rfl) (ab (ak cB rfl) (ab (aq ee rfl (by exact (h.blk.from_ (aj.rfl_.next E9)).rd 0 rfl)) ?_)))))))));refine ab (aU dw rfl) (mvi rfl (ah (ae (az (bg (G:=Nat×Option Addr×Nat) [4,16,17,18,19,20,21,22,23,24,25,26,27] (fun (i,A3,c3)=>[(3,.slice A3 (pf ps L i).length c3),(15,.int .i64 (i:Nat))]) (fun (i,A3,c3) w'=>i≤ps.length∧w'.ownsRow w.heap.size 37 2 (.slice A3 (pf ps L i).length c3) (pf ps L i).length ((pf ps L i).flatMap dV)∧aj w w') (fun (i,_,_)=>ps.length-i) ((0,A9,c9)) ⟨(by rw [Bp];rfl),rfl,trivial⟩ ?_ ?_)))))
 ·exact ⟨Nat.zero_le _,by rw [Bp];exact ho9,(aj.rfl_.next E9)⟩
 rintro ⟨i,A3,c3⟩ ρ2 w2 ⟨hi,ho3,hB⟩;obtain ⟨hpl3,hpz3⟩:=IR hG hi;refine ag (aa (ab (aY rfl rfl) (ah (ae (ag (K8 rfl (fun Q3=>?_) (fun Q3=>?_)))))))
 ·have hil:i<ps.length:=by omega
  obtain ⟨g,rfl⟩:=dy h.rowP (by omega);have hpf:(pf ps L (i+1)).length=(pf ps L i).length+ps[i].live.length:=by rw [Bq hil,List.length_append]
  obtain ⟨hpl4,_⟩:=IR hG (show i+1≤ps.length by omega);refine au (ae (ag (az (ag (aa (mvi rfl (asi rfl (ah (ae (aa (mvs rfl (mvp rfl (ab (ay rfl) (ab (ak cB rfl) (ab (aq ee rfl (by exact (h.blk.from_ hB).rd 0 rfl)) ?_)))))))))))))));refine mvi rfl (ab (aG cM rfl rfl (by omega)) (ax mn (rQ g (0+i*2) ps[i] _ ((sF h.rowP (fun p hp=>h.ptIn hG hp) hil).from_ hB)) ?_));rintro v25 w4 ⟨⟨A25,c25,rfl,ho25⟩,E25⟩;refine cR de rfl (by decide) rfl (A:=A3) (xs:=List.flatMap dV (pf ps L i)) (news:=List.flatMap dV ps[i].live) (ho3.kept_from (aj.rfl_.next E25)) ((hB.next E25).size) rfl (dW bH _) (fun h=>((cN.own bH (by decide) ho25).2).flat bH h) (fun e=>by subst e;exact jC ho25) (nc _) (by omega) (by omega) ?_;intro A26 c26 w5 ho26 hg26;have HF26:=((hB.next E25)).grew hg26 (fun k hk=>(bM (ho3.kept_from (aj.rfl_.next E25)) k hk).1);refine ass rfl (ah (aL (ae (aa (ab (aI (b:=1) rfl rfl (by omega)) (mvi rfl (ah ?_)))))));refine aO ((i+1,A26,c26)) ⟨(by rw [hpf];rfl),rfl,trivial⟩ (by (iterate 30 refine aB rfl ?_);exact aK) ⟨?_,?_⟩
  ·exact ⟨by omega,by rw [hpf,Bq hil,List.flatMap_append];exact ho26,HF26⟩
  ·show ps.length-(i+1)<ps.length-i;omega
 refine aZ (aC (aC (aT (ae (ag (aa (mvs rfl (ax AG (Cl _ A3 c3 (pf ps L i).length (pf ps L i) _ ho3 (by omega)) ?_))))))));rintro v29 w6 ⟨⟨ys,hyp,hys,hoy⟩,hg29⟩;refine ah (ae (ag (aa (mvs rfl (ass rfl (ah (ae (aA (bE (v:=.slice _ _ _) rfl rfl ?_)))))))));obtain rfl:i=ps.length:=by omega
 rw [JC] at hyp hoy ⊢;obtain rfl:=yg hG hyp hys;rw [←hyp.length_eq] at hoy ⊢;exact ⟨⟨A3,c3,rfl,hoy⟩,((hB).grew hg29 (fun k hk=>(bM ho3 k hk).1))⟩
theorem G2 (d:Dc) (q:ByteArray) (m:Int) (w:World) (hm:w.cell? ⟨0,0,none⟩=some (.int .i64 m)) (hd:d.2.size≤2048) (hq:q.size≠0) :
 Rt prog 42 [.agg (dV d).toArray,.string q] w (fun v w'=>(∃ A' c',v=.slice A' (hOf d q).length c'∧w'.ownsRow w.heap.size 57 2 (.slice A' (hOf d q).length c') (hOf d q).length ((hOf d q).flatMap hV))∧aj w w'):=by
 refine enter (n:=29) Tryz.func42 rfl rfl rfl (ag (aa (c0 (v:=.agg _) rfl ?_)));intro b2 w1 E2 hb2 hk2;refine ass rfl (ah (ae (ag (aa (ass rfl (ah (ae (ag (aa (asi rfl (ah (ae (az (bg (G:=Nat×Option Addr×Nat) [4,7,8,9,10,11,12,13,14,15,16,17,18,19,20,21,22,23,24,25,26,27,28] (fun (a,A5,c5)=>[(5,.slice A5 (hTo d q a).length c5),(6,.int .i64 (a:Nat))]) (fun (a,A5,c5) w'=>a≤d.2.size∧w'.ownsRow w.heap.size 57 2 (.slice A5 (hTo d q a).length c5) (hTo d q a).length ((hTo d q a).flatMap hV)∧Blk w' b2 37 (dV d).toArray∧aj w w') (fun (a,_,_)=>d.2.size-a) ((0,none,0)) ⟨rfl,rfl,trivial⟩ ?_ ?_))))))))))))))
 ·exact ⟨Nat.zero_le _,World.ownsRow_nil _ _ _ _,hk2.from_ aj.rfl_,(aj.rfl_.next E2)⟩
 rintro ⟨a,A5,c5⟩ ρ2 w2 ⟨ha,ho5,hP,hB⟩;refine ag (az (ag (aa (ab (ak bR rfl) (ab (aq aX rfl (by exact (hP.from_ aj.rfl_).rd 1 rfl)) ?_)))));refine mvi rfl (ab (rM (l:=a) (h:=d.2.size) yH rfl (.inr ⟨_,_,_,rfl,rfl,rfl⟩) (.inl ⟨rfl,rfl⟩) (by omega) (by omega)) (mvg rfl (ax AF (zd d.2 q a m _ ha hq (by omega) (bu hB hm)) ?_)));rintro v15 w3 ⟨hix,rfl⟩;rcases hix with ⟨rfl,hks⟩ | ⟨k,rfl,hak,hks⟩
 ·refine asi rfl (ah (ae (ag (ag (aa (mvi rfl (ab (aY rfl rfl) (ah (ae (K8 rfl (fun Q4=>?_) (fun Q4=>?_)))))))))));rotate_left
  ·exfalso;omega
  refine ag (aa (mvs rfl (ass rfl (ah (ae (aA (aF (bq (aF (aF (bq (bE (v:=.slice _ _ _) rfl rfl ?_))))))))))));have e:hOf d q=hTo d q a:=by unfold hOf hTo;rw [hks]
  rw [e];exact ⟨⟨A5,c5,rfl,ho5⟩,hB⟩
 have hht:hTo d q (a+k+1)=hTo d q a++[(d.1,((a+k:Nat):Int))]:=by unfold hTo;rw [hks,List.map_append];rfl
 have hhl:(hTo d q (a+k+1)).length=(hTo d q a).length+1:=by rw [hht,List.length_append];rfl
 refine asi rfl (ah (ae (ag (ag (aa (mvi rfl (ab (aY rfl rfl) (ah (ae (K8 rfl (fun Q7=>?_) (fun Q7=>?_)))))))))))
 ·exfalso;omega
 refine au (ae (ag (aa (mvi rfl (mvi rfl (ab (aI rfl rfl (by omega)) (asi rfl (ah (ae (aa (mvs rfl (ab (ak aW rfl) (ab (aq aX rfl (by exact (hP.from_ aj.rfl_).rd 0 rfl)) ?_)))))))))))));refine mvi rfl (ab (cS (l:=[(0,.tmp 24),(1,.tmp 25)]) (tX _ _)) (fA en rfl rfl rfl ?_));intro b27 w8 E27 hb27 hk27;have hM28:=(aj.rfl_.next E27);have hP2:=hP.from_ hM28;have hkl:=pF (t:=txt d.2) (q:=txt q) (k:=a);have hkl2:(hTo d q a).length≤a:=by unfold hTo;rw [List.length_map];exact hkl
 refine cR en rfl (by decide) rfl (A:=A5) (xs:=(hTo d q a).flatMap hV) (news:=hV (d.1,((a+k:Nat):Int))) (ho5.kept_from (aj.rfl_.next E27)) ((hB.next E27).size) rfl rfl (fun _=>⟨b27,0,rfl,hk27.whole⟩) (fun h=>by cases h) (by simp [hV,Value.oneCell']) (by omega) (by omega) ?_;intro A28 c28 w9 ho28 hg28;have HF28:=((hB.next E27)).grew hg28 (fun k hk=>(bM (ho5.kept_from (aj.rfl_.next E27)) k hk).1);refine ass rfl (ah (aL (ae (aa (mvi rfl (ab (aI (b:=1) rfl rfl (by omega)) (asi rfl (ah ?_))))))));refine aO ((a+k+1,A28,c28)) ⟨(by rw [hhl];rfl),rfl,trivial⟩ (by (iterate 49 refine aB rfl ?_);exact aK) ⟨?_,?_⟩
 ·exact ⟨by omega,by rw [hhl,hht,List.flatMap_append];exact ho28,hP2.grown hg28 (dB (ho5.kept_from hM28) hP2 (by decide)),HF28⟩
 ·show d.2.size-(a+k+1)<d.2.size-a;omega
theorem Dt:ef prog 64=some 1:=by kernel_rfl
theorem Du:aH prog 70=true:=by kernel_rfl
noncomputable def jZ (D:List Dc) (d:Dc):Int:=if ¬ (1≤d.1.size∧d.1.size≤64) then 1 else if 2048<d.2.size then 2 else if @decide (∃ e∈D,e.1=d.1) (Classical.propDecidable _)=true then 4 else if 64≤D.length∨16384<dsz D+d.2.size then 6 else 0
noncomputable def gn (D:List Dc) (d:Dc):List Dc:=if jZ D d=0 then zC D d else D
theorem oG {D:List Dc} {d:Dc} (h:¬ (1≤d.1.size∧d.1.size≤64)):jZ D d=1:=by unfold jZ;rw [if_pos h]
theorem wt {D:List Dc} {d:Dc} (h:1≤d.1.size∧d.1.size≤64) (h2:2048<d.2.size):jZ D d=2:=by unfold jZ;rw [if_neg (fun k=>k h),if_pos h2]
theorem oE {D:List Dc} {d:Dc} (h:1≤d.1.size∧d.1.size≤64) (h2:¬ 2048<d.2.size) (h3:∃ e∈D,e.1=d.1):jZ D d=4:=by unfold jZ;rw [if_neg (fun k=>k h),if_neg h2,if_pos (@decide_eq_true _ (Classical.propDecidable _) h3)]
theorem qP {D:List Dc} {d:Dc} (h:1≤d.1.size∧d.1.size≤64) (h2:¬ 2048<d.2.size) (h3:¬ ∃ e∈D,e.1=d.1) (h4:64≤D.length∨16384<dsz D+d.2.size):jZ D d=6:=by unfold jZ;rw [if_neg (fun k=>k h),if_neg h2,if_neg (fun k=>h3 (@dT_ _ (Classical.propDecidable _) k)),if_pos h4]
theorem tH {D:List Dc} {d:Dc} (h:1≤d.1.size∧d.1.size≤64) (h2:¬ 2048<d.2.size) (h3:¬ ∃ e∈D,e.1=d.1) (h4:¬ (64≤D.length∨16384<dsz D+d.2.size)):jZ D d=0:=by unfold jZ;rw [if_neg (fun k=>k h),if_neg h2,if_neg (fun k=>h3 (@dT_ _ (Classical.propDecidable _) k)),if_neg h4]
theorem gO {D:List Dc} {d:Dc} (h:jZ D d≠0):gn D d=D:=by unfold gn;rw [if_neg h]
theorem nM {D:List Dc} {d:Dc} (h:jZ D d=0):gn D d=zC D d:=by unfold gn;rw [if_pos h]
noncomputable def tm (D:List Dc) (id:ByteArray):Int:=if ¬ (1≤id.size∧id.size≤64) then 1 else if @decide (∃ e∈D,e.1=id) (Classical.propDecidable _)=true then 0 else 3
theorem zU {D:List Dc} {id:ByteArray} (h:¬ (1≤id.size∧id.size≤64)):tm D id=1:=by unfold tm;rw [if_pos h]
theorem qM {D:List Dc} {id:ByteArray} (h:1≤id.size∧id.size≤64) (h3:∃ e∈D,e.1=id):tm D id=0:=by unfold tm;rw [if_neg (fun k=>k h),if_pos (@decide_eq_true _ (Classical.propDecidable _) h3)]
theorem zT {D:List Dc} {id:ByteArray} (h:1≤id.size∧id.size≤64) (h3:¬ ∃ e∈D,e.1=id):tm D id=3:=by unfold tm;rw [if_neg (fun k=>k h),if_neg (fun k=>h3 (@dT_ _ (Classical.propDecidable _) k))]
theorem ShG.named {ps:List Pt} {L D:List Dc} (h:ShG ps L D) {id:ByteArray}:(∃ e∈D,e.1=id)↔(∃ e∈L,e.1=id)∨∃ p∈ps,zG p id:=by
 constructor
 ·rintro ⟨e,he,rfl⟩;rcases h.mem.1 he with he | ⟨p,hp,he⟩
  ·exact .inl ⟨e,he,rfl⟩
  ·exact .inr ⟨p,hp,e,he,rfl⟩
 ·rintro (⟨e,he,rfl⟩ | ⟨p,hp,e,he,rfl⟩)
  ·exact ⟨e,h.mem.2 (.inl he),rfl⟩
  ·exact ⟨e,h.mem.2 (.inr ⟨p,hp,he⟩),rfl⟩
theorem td {L:List Dc} (hs:SD L) {id:ByteArray} {i:Nat} {fd:Bool} (h1:∀ x,x<i→sLt (L.getD x dd).1 id) (h2:∀ x,i≤x→x<L.length→¬ sLt (L.getD x dd).1 id) (h3:fd=true↔i<L.length∧(L.getD i dd).1=id):fd=true↔∃ e∈L,e.1=id:=by
 rw [h3];constructor
 ·rintro ⟨hi,e⟩;exact ⟨L.getD i dd,by rw [bO hi];exact List.getElem_mem hi,e⟩
 ·rintro ⟨e,he,rfl⟩;obtain ⟨j,hj,rfl⟩:=List.getElem_of_mem he;have hj2:(L.getD j dd).1=L[j].1:=by rw [bO hj]
  rcases Nat.lt_trichotomy j i with a | a | a
  ·have:=h1 j a;rw [hj2] at this;exact absurd this (fN _)
  ·subst a;exact ⟨hj,hj2⟩
  ·have h4:=jb.cmp hs a hj;rw [hj2] at h4;exact absurd h4 (h2 i (Nat.le_refl _) (by omega))
theorem tl {D:List Dc} {id:ByteArray} (h:¬ ∃ e∈D,e.1=id):fc D id=D:=kU fun d hd e=>h ⟨d,hd,e⟩
theorem vV {D:List Dc} (ho:jb D) {id:ByteArray} (h:¬ (1≤id.size∧id.size≤64)):fc D id=D:=kU fun _ hd e=>h (e ▸ zq ho hd)
theorem FA {L:List Dc} {k:Nat} (d:Dc):(L.flatMap dV).take (k*2)++dV d++(L.flatMap dV).drop (k*2)=(L.take k++d::L.drop k).flatMap dV:=by
 rw [iC bH,jl bH,List.flatMap_append,List.flatMap_cons,List.append_assoc]
theorem nG {α:Type} {L:List α} {k:Nat} (d:α):(L.take k++d::L.drop k).length=L.length+1:=by rw [mY.length_eq,List.length_append,List.length_singleton]
theorem F6 {L:List Dc} {k:Nat}:(L.flatMap dV).take (k*2)++(L.flatMap dV).drop ((k+1)*2)=(L.take k++L.drop (k+1)).flatMap dV:=by
 rw [iC bH,jl bH,List.flatMap_append]
theorem rV {α:Type} {L:List α} {k:Nat} (h:k<L.length):(L.take k++L.drop (k+1)).length=L.length-(k+1-k):=by
 rw [List.length_append,List.length_take,List.length_drop];omega
theorem va {L:List Pt} {k:Nat}:(L.flatMap ptV).take (k*2)++(L.flatMap ptV).drop ((k+1)*2)=(L.take k++L.drop (k+1)).flatMap ptV:=by
 rw [iC kQ,jl kQ,List.flatMap_append]
theorem vb {ps:List Pt} (k:Nat) (h:ps.Pairwise fun a b=>fy a.A b.A):(ps.take k++ps.drop (k+1)).Pairwise fun a b=>fy a.A b.A:=by
 have hx:ps.take k++ps.drop (k+1)=ps.take k++(ps.drop k).drop 1:=by rw [List.drop_drop]
 rw [hx];exact List.Pairwise.sublist (List.Sublist.append (List.Sublist.refl _) (List.drop_sublist ..)) (by rw [List.take_append_drop];exact h)
theorem FF {ps:List Pt} {i:Nat} (hi:i<ps.length) {A:Option Addr} {c:Nat} {k:Nat} {id:ByteArray}:(ps.flatMap ptV).set (i*2+1) (.slice A (ps[i].gone.length+1) c)=(ps.set i { ps[i] with A:=A,c:=c,gone:=ps[i].gone.take k++id::ps[i].gone.drop k }).flatMap ptV:=
 D_ kQ ps i 1 hi (by decide) _ _ (by unfold ptV;rw [←nG (L:=ps[i].gone) (k:=k) id];rfl)
theorem Cw (ps:List Pt) (L D:List Dc) (s g cp:Nat) (Al:Option Addr) (cl:Nat) (w:World) (h:ShH w ps L s (some ⟨g,0,none⟩) cp Al cl) (hG:ShG ps L D) (i:Nat) (hi:i<ps.length) (id:ByteArray) (hid:id ∉ ps[i].gone) :
 Rt prog 38 [.pointer (some ⟨g,0+i*2,none⟩),.string id] w (fun _ w'=>∃ (k:Nat) (A':Option Addr) (c':Nat),SO (ps[i].gone.take k++id::ps[i].gone.drop k)∧ShH w' (ps.set i { ps[i] with A:=A',c:=c',gone:=ps[i].gone.take k++id::ps[i].gone.drop k }) L s (some ⟨g,0,none⟩) cp Al cl∧Chg (fun q=>(some (⟨g,0,none⟩:Addr)).map (·.block)=some q∨ps[i].A.map (·.block)=some q) w w'∧∀ q,A'.map (·.block)=some q→ps[i].A.map (·.block)=some q∨w.heap.size≤q):=by
 have hP:=sF h.rowP (fun p hp=>h.ptIn hG hp) hi;have hgo:=h.gone _ (List.getElem_mem hi);have hlen:=hP.len;refine enter (n:=26) Tryz.func38 rfl rfl rfl (ag (aa (mvp rfl (ab (ay rfl) (ab (ak j6 rfl) (ab (aq oM rfl (by exact bu aj.rfl_ hP.sl)) ?_))))));refine mvg rfl (ax tO (AX ps[i].A ps[i].c ps[i].gone.length ps[i].gone _ (hP.row.from_ aj.rfl_) rfl hP.len id hP.so) ?_);rintro v12 w1 ⟨⟨k,fd,rfl,hk,h1,h2,h3⟩,E12⟩;refine mvt rfl (ab (aw rfl rfl) (ab (aw rfl rfl) (asi rfl (asb rfl (ah (ae (aa (mvp rfl (mvp rfl (ab (ay rfl) ?_))))))))));refine ab (ak j6 rfl) (ab (aq oM rfl (by exact bu (aj.rfl_.next E12) hP.sl)) ?_);refine mvi rfl (mvg rfl (gk (v:=.string _) qS rfl rfl rfl ?_));intro b22 w2 E22 hb22 hk22;have hs22:w.heap.size≤b22:=by rw [hb22];exact (aj.rfl_.next E12).size
 have hF23:=((aj.rfl_.next E12).next E22);have hs23:=hF23.size;refine ax Du (zA 0 ps[i].A ps[i].c ps[i].gone.length k 1 b22 0 1 (ps[i].gone.map Value.string) [.string id] _ _ _ (hgo.kept_from ((aj.rfl_.next E12).next E22)) (Nat.zero_le _) hk (by decide) rfl hk22.whole hk22 (fun q hq=>by have:=(bM hgo q hq).2;omega) (by simp [Value.oneCell']) (by simp [Value.oneCell']) (by omega)) ?_;rintro v23 w3 ⟨⟨A23,c23,rfl,ho23,hL23⟩,hg23⟩;have hPw:=lA (h.rowP.kept_from hF23) hg23 (gh (hgo.kept_from hF23) (h.rowP.kept_from hF23) (by decide));have hdis:=gh ho23 hPw (by decide);refine ab (ay rfl) (ab (ak j6 rfl) ?_);refine y_ (o:=i*2+1) Dt (by show Value.pointer (some ⟨g,0+i*2+1,none⟩)=_;rw [Nat.zero_add]) rfl rfl hPw (by omega) ?_;intro w4 O1 P1;refine ah (gm (kp rfl ?_));have hil:(ps[i].gone.take k++id::ps[i].gone.drop k).length=ps[i].gone.length+1:=nG id;have hC:Chg (fun q=>(some (⟨g,0,none⟩:Addr)).map (·.block)=some q∨ps[i].A.map (·.block)=some q) _ _:=((Chg.of_grown hg23 (fun q e=>.inr e)).only O1 (.inl rfl));refine ⟨k,A23,c23,hP.so.ins h1 h2 hid,(h.from_ hF23).setGone hi (c:=c23) hC (fun q hq=>hq) ?_ ?_ hL23,hF23.toChg.next hC,fun q hq=>(hL23 q hq).imp (fun e=>e) fun e=>Nat.le_trans hs23 e⟩
 ·rw [←FF hi];exact P1
 ·have ho9:=cG ho23 O1 (fun q hq e=>hdis q hq g rfl e);rw [hil];have e9:(ps[i].gone.take k++id::ps[i].gone.drop k).map Value.string=(ps[i].gone.map Value.string).take (k*1)++[.string id]++(ps[i].gone.map Value.string).drop (k*1):=by simp [List.map_take,List.map_drop]
  rw [e9];exact ho9
theorem Hs {w:World} {base m c g:Nat} {ps:List Pt} (h:w.ownsRow base 66 2 (.slice (some ⟨g,0,none⟩) m c) m (ps.flatMap ptV)) {i:Nat} (hi:i<ps.length) (hP:PtIn w ps[i]):nw w g (0+i*2) ps[i]:=by
 obtain ⟨hl,hr⟩:=cN.own kQ (by decide) h;obtain ⟨b,o,e,hc⟩:=hr (by omega);cases e;have h1:=hc i hi;exact ⟨hP,h1 0 _ rfl,h1 1 _ rfl⟩
def u2 (p:Pt) (A:Option Addr) (c k:Nat) (id:ByteArray):Pt:={ p with A:=A,c:=c,gone:=p.gone.take k++id::p.gone.drop k }
theorem zJ (p:Pt) (A:Option Addr) (c k:Nat) (id:ByteArray):(u2 p A c k id).live=fc p.live id:=Fi
theorem G0 {U:Nat→Prop} {w W w':World} {ps:List Pt} {L:List Dc} {s cp cl g:Nat} {Al:Option Addr} {j:Nat} (hj:j<ps.length) {A:Option Addr} {c k:Nat} {id:ByteArray} (hU:∀ k,qU s (some ⟨g,0,none⟩) Al ps k→U k) (hF:aj w W)
 (hH:ShH w' (ps.set j (u2 ps[j] A c k id)) L s (some ⟨g,0,none⟩) cp Al cl) (hC:Chg (fun q=>(some (⟨g,0,none⟩:Addr)).map (·.block)=some q∨ps[j].A.map (·.block)=some q) W w') (hA:∀ q,A.map (·.block)=some q→ps[j].A.map (·.block)=some q∨W.heap.size≤q) :
 (∀ q,qU s (some ⟨g,0,none⟩) Al (ps.set j (u2 ps[j] A c k id)) q→Nx U w w' q)∧Chg U w w':=by
 have hs:=hF.size;have hmj:=List.getElem_mem hj
 have hp:∀ p∈ps.set j (u2 ps[j] A c k id),∃ q∈ps,(∀ k,p.A.map (·.block)=some k→q.A.map (·.block)=some k∨w.heap.size≤k)∧p.lo=q.lo∧p.hi=q.hi:=by
  intro p hp;obtain ⟨i,hi,rfl⟩:=List.getElem_of_mem hp;rw [List.length_set] at hi;rw [List.getElem_set];by_cases e:j=i
  ·rw [if_pos e];exact ⟨ps[j],hmj,fun q hq=>(hA q hq).imp (fun e=>e) fun e=>Nat.le_trans hs e,rfl,rfl⟩
  ·rw [if_neg e];exact ⟨ps[i],List.getElem_mem hi,fun q hq=>.inl hq,rfl,rfl⟩
 have hq:∀ q,((some (⟨g,0,none⟩:Addr)).map (·.block)=some q∨ps[j].A.map (·.block)=some q)→U q:=by
  rintro q (e | e)
  ·exact hU q (.inl (.inr (.inl e)))
  ·exact hU q (.inl (.inr (.inr (.inr ⟨_,hmj,e⟩))))
 exact ⟨fun q hk=>vQ (w:=w) hH hU (fun k hk=>.inl hk) (fun k hk=>.inl hk) (fun p h=>.inl (hp p h)) q hk,hF.toChg.next (hC.wide fun q h=>.inl (hq q h))⟩
theorem Bc {α:Type} {ps:List α} {j:Nat} (p:α):(ps.set j p).take j++(ps.set j p).drop (j+1)=ps.take j++ps.drop (j+1):=by
 rw [List.take_set,List.set_eq_of_length_le (by rw [List.length_take];omega),List.drop_set_of_lt (by omega)]
theorem BS {α:Type} {ps:List α} {j:Nat} {p:α} (h:p∈ps.take j++ps.drop (j+1)):p∈ps:=by
 rcases List.mem_append.1 h with h | h
 ·exact List.mem_of_mem_take h
 ·exact List.mem_of_mem_drop h
theorem t_:aH prog 34=true:=by kernel_rfl
theorem tZ:aH prog 35=true:=by kernel_rfl
theorem AJ:aH prog 36=true:=by kernel_rfl
theorem tY:aH prog 37=true:=by kernel_rfl
theorem AI:aH prog 38=true:=by kernel_rfl
theorem AH:aH prog 40=true:=by kernel_rfl
theorem kj (U:Nat→Prop) (s:Nat) (D:List Dc) (w:World) (hs:eC w U s D) (id:ByteArray) (hd:id.size≤140737488351232) :
 Rt prog 19 [.pointer (some ⟨s,0,none⟩),.string id] w (fun v w'=>v=.int .i64 (tm D id)∧eC w' (Nx U w w') s (fc D id)∧Chg U w w'):=by
 have hs0:=hs;obtain ⟨ps,L,Ap,cp,Al,cl,hG,h,hU⟩:=hs;have hll:=hG.loose;have hpl:=hG.parts;refine enter (n:=62) Tryz.func19 rfl rfl rfl (ag (aa (asi rfl (ah (ae (ag (ag (aa (mvg rfl (ax t_ (r0 id _ hd) ?_))))))))));rintro v9 w1 ⟨rfl,E9⟩;refine ab (ff rfl) (ah (ae (av rfl (fun Q2=>?_) (fun Q2=>?_))))
 ·with_reducible (replace Q2:=eo Q2;replace Q2:=dF_ Q2)
  have hid:¬ (1≤id.size∧id.size≤64):=by simpa using Q2
  refine ag (aa (asi rfl (ah (ae (aA (aF (bE (v:=.int _ _) rfl rfl ?_)))))));rw [zU hid,vV hG.ord hid];exact ⟨rfl,hs0.same (aj.rfl_.next E9)⟩
 with_reducible (replace Q2:=ep Q2;replace Q2:=dT_ Q2)
 have hid:1≤id.size∧id.size≤64:=by simpa using Q2
 refine au (ae (ag (ag (aa (mvp rfl (mvg rfl (ax tZ (BK ps L D s Ap cp Al cl _ (h.from_ (aj.rfl_.next E9)) hG id) ?_)))))));rintro v14 w3 ⟨⟨i,fd,rfl,hi1,hi2,hi3,hi4⟩,E14⟩;have hfl:=td hG.sdL hi2 hi3 hi4;refine mvt rfl (ab (aw rfl rfl) (ab (aw rfl rfl) (asi rfl (asb rfl (ah (ae (ag (aa (mvb rfl (ah (ae (av rfl (fun Q4=>?_) (fun Q4=>?_)))))))))))))
 ·obtain ⟨hil,hie⟩:=hi4.1 Q4;rw [bO hil] at hie;refine ag (aa (mvp rfl (mvp rfl (ab (ay rfl) (ab (ak eB rfl) (ab (aq cC rfl (by exact (h.blk.from_ ((aj.rfl_.next E9).next E14)).rd 1 rfl)) ?_))))));refine mvi rfl (mvi rfl (ab (aI (b:=1) rfl rfl (by omega)) ?_));have hF26:=((aj.rfl_.next E9).next E14);refine ax AJ (zS 0 Al cl L.length i (i+1) (L.flatMap dV) _ (h.rowL.kept_from ((aj.rfl_.next E9).next E14)) (by omega) hil (nc _) (by omega)) ?_;rintro v26 w5 ⟨⟨A26,c26,rfl,ho26,hA26⟩,hg26⟩;have hb26:=(h.blk.from_ hF26).grown hg26 (dB (h.rowL.kept_from hF26) (h.blk.from_ hF26) (by decide));refine ab (ay rfl) (ab (ak eB rfl) (b_ (v:=.slice _ _ _) nN rfl rfl rfl (hb26) (by show 1<2;decide) ?_));intro w6 O5 P5;refine ah (ae (ag (aa (asi rfl (ah (ae (aA (aF (bE (v:=.int _ _) rfl rfl ?_)))))))));subst hie;rw [qM hid (hG.named.2 (.inl ⟨_,List.getElem_mem hil,rfl⟩))];exact ⟨rfl,xt (L':=L.take i++L.drop (i+1)) h hU hF26 ((Chg.of_grown hg26 (fun k e=>.inr e)).only O5 (.inl rfl)) (by rw [rV hil];exact P5) (by rw [rV hil,←F6];exact cG ho26 O5 (dB ho26 hb26 (by decide))) (fun k hk=>.inl (hA26 k hk)) (hG.cut hil)⟩
 have hfd:¬ fd=true:=by first | exact Q4 | (rw [Q4];decide)
 refine au (ae (ag (aa (mvp rfl (mvg rfl (ax tY (uR ps L D s Ap cp Al cl _ (h.from_ ((aj.rfl_.next E9).next E14)) hG id) ?_))))));rintro v31 w7 ⟨hp31,E31⟩;rcases hp31 with ⟨j,rfl,hj,hj2⟩ | ⟨rfl,hno⟩
 ·obtain ⟨d,hdm,rfl⟩:=hj2;obtain ⟨g,rfl⟩:=dy h.rowP (by omega);have hgn:d.1 ∉ ps[j].gone:=(ot.1 hdm).2;have hgl:=(hG.part _ (List.getElem_mem hj)).2.1;have hdl:=(h.seg _ (List.getElem_mem hj)).at.docs.2.1;refine asi rfl (ah (ae (ag (ag (aa (mvi rfl (ab (aY rfl rfl) (ah (ae (K8 rfl (fun Q8=>?_) (fun Q8=>?_)))))))))))
  ·exfalso;omega
  refine au (ae (ag (aa (mvp rfl (ab (ay rfl) (ab (ak cB rfl) (ab (aq ee rfl (by exact (h.blk.from_ (((aj.rfl_.next E9).next E14).next E31)).rd 0 rfl)) ?_)))))));refine mvi rfl (ab (aG cM rfl rfl (by omega)) (mvg rfl ?_));have hF41:=(((aj.rfl_.next E9).next E14).next E31);refine ax AI (Cw ps L D s g cp Al cl _ (h.from_ (((aj.rfl_.next E9).next E14).next E31)) hG j hj d.1 hgn) ?_;rintro v41 w9 ⟨k,A41,c41,hso,hH0,hC1,hA41⟩;obtain ⟨ps1,hps1⟩:∃ q,q=ps.set j (u2 ps[j] A41 c41 k d.1):=⟨_,rfl⟩;have hH1:ShH w9 ps1 L s (some ⟨g,0,none⟩) cp Al cl:=by rw [hps1];exact hH0
  have hl1:ps1.length=ps.length:=by rw [hps1,List.length_set]
  have hj1:ps1[j]=u2 ps[j] A41 c41 k d.1:=by subst hps1;exact List.getElem_set_self ..
  have hm1:=List.getElem_mem (l:=ps1) (n:=j) (by omega);have hgl1:ps1[j].gone.length=ps[j].gone.length+1:=by rw [hj1];exact nG _
  have hPI:PtIn w9 ps1[j]:=⟨sr (hH1.gone _ hm1),by omega,by rw [hj1];exact hso,hH1.seg _ hm1⟩;have hlv:ps1[j].live=fc ps[j].live d.1:=by rw [hj1];exact zJ ..
  obtain ⟨hU1,hCw⟩:=G0 hj hU hF41 hH0 hC1 hA41;rw [←hps1] at hU1;refine ah (ae (ag (ag (aa (mvp rfl (ab (ay rfl) (ab (ak cB rfl) (ab (aq ee rfl (by exact (hH1.blk.from_ (aj.rfl_ (a:=w9))).rd 0 rfl)) ?_))))))));refine mvi rfl (ab (aG cM rfl rfl (by omega)) (ax mn (rQ g (0+j*2) ps1[j] _ ((Hs hH1.rowP (by omega) hPI).from_ (aj.rfl_ (a:=w9)))) ?_));rintro v48 w10 ⟨⟨A48,c48,rfl,ho48⟩,E48⟩;refine ab (aU bx rfl) (ab (cy rfl rfl) (ah (ae (K8 rfl (fun Q11=>?_) (fun Q11=>?_)))))
  ·refine aa (mvp rfl (mvp rfl (ab (ay rfl) (ab (ak cB rfl) (ab (aq ee rfl (by exact (hH1.blk.from_ ((aj.rfl_ (a:=w9)).next E48)).rd 0 rfl)) ?_)))));refine mvi rfl (mvi rfl (ab (aI (b:=1) rfl rfl (by omega)) ?_));have hF59:=((aj.rfl_ (a:=w9)).next E48);refine ax AH (zR 0 (some ⟨g,0,none⟩) cp ps1.length j (j+1) (ps1.flatMap ptV) _ (hH1.rowP.kept_from ((aj.rfl_ (a:=w9)).next E48)) (by omega) (by omega) (vB _) (by omega)) ?_;rintro v59 w12 ⟨⟨A59,c59,rfl,ho59,hA59⟩,hg59⟩;have hb59:=(hH1.blk.from_ hF59).grown hg59 (dB (hH1.rowP.kept_from hF59) (hH1.blk.from_ hF59) (by decide));refine ab (ay rfl) (ab (ak cB rfl) (b_ (v:=.slice _ _ _) jq rfl rfl rfl (hb59) (by show 0<2;decide) ?_));intro w13 O12 P12;refine ah (ae (ag (aa (asi rfl (ah (ae (aA (bE (v:=.int _ _) rfl rfl ?_))))))));have hnm:∃ e∈D,e.1=d.1:=hG.named.2 (.inr ⟨_,List.getElem_mem hj,d,hdm,rfl⟩);rw [qM hid hnm];refine ⟨rfl,?_⟩;have hsd:SD ps[j].ds:=sj (h.seg _ (List.getElem_mem hj)).at.docs.1
   first
    |(have hne:fc ps[j].live d.1=[]:=by rw [←hlv];exact List.eq_nil_of_length_eq_zero (by omega)
      have hcl:(ps1.take j++ps1.drop (j+1)).length=ps1.length-(j+1-j):=rV (by omega);obtain ⟨q1,q2⟩:=pg (ps':=ps1.take j++ps1.drop (j+1)) (L':=L) hH1 hU1 hF59 ((Chg.of_grown hg59 (fun k e=>.inr e)).only O12 (.inl rfl)) (by rw [hcl];exact P12) (by rw [hcl,←va];exact cG ho59 O12 (dB ho59 hb59 (by decide))) (fun k hk=>.inl (hA59 k hk)) (.inl ⟨rfl,rfl,rfl⟩) (fun p hp=>.inl (BS hp)) (vb j hH1.apart) (by rw [hps1,Bc];exact hG.drop hj hdm hne);exact eC.then hCw q1 q2)
    |(have hne:fc ps[j].live d.1≠[]:=fun e=>by rw [←hlv] at e;have:=congrArg List.length e;simp only [List.length_nil] at this;omega
      exact ⟨⟨ps1,L,some ⟨g,0,none⟩,cp,Al,cl,by rw [hps1];exact hG.gone hj hdm hso hsd hne,hH1.from_ (aj.rfl_ (a:=w13)),fun k hk=>(hU1 k hk).imp (fun e=>e) fun e=>⟨e.1,Nat.lt_of_lt_of_le e.2 ((aj.rfl_ (a:=w13))).size⟩⟩,hCw.next ((aj.rfl_ (a:=w13))).toChg⟩)
  refine au (ae (ag (aa (asi rfl (ah (ae (aA (bE (v:=.int _ _) rfl rfl ?_))))))));have hnm:∃ e∈D,e.1=d.1:=hG.named.2 (.inr ⟨_,List.getElem_mem hj,d,hdm,rfl⟩);rw [qM hid hnm];refine ⟨rfl,?_⟩;have hsd:SD ps[j].ds:=sj (h.seg _ (List.getElem_mem hj)).at.docs.1
  first
   |(have hne:fc ps[j].live d.1=[]:=by rw [←hlv];exact List.eq_nil_of_length_eq_zero (by omega)
     have hcl:(ps1.take j++ps1.drop (j+1)).length=ps1.length-(j+1-j):=rV (by omega);obtain ⟨q1,q2⟩:=pg (ps':=ps1.take j++ps1.drop (j+1)) (L':=L) hH1 hU1 hF59 ((Chg.of_grown hg59 (fun k e=>.inr e)).only O12 (.inl rfl)) (by rw [hcl];exact P12) (by rw [hcl,←va];exact cG ho59 O12 (dB ho59 hb59 (by decide))) (fun k hk=>.inl (hA59 k hk)) (.inl ⟨rfl,rfl,rfl⟩) (fun p hp=>.inl (BS hp)) (vb j hH1.apart) (by rw [hps1,Bc];exact hG.drop hj hdm hne);exact eC.then hCw q1 q2)
   |(have hne:fc ps[j].live d.1≠[]:=fun e=>by rw [←hlv] at e;have:=congrArg List.length e;simp only [List.length_nil] at this;omega
     exact ⟨⟨ps1,L,some ⟨g,0,none⟩,cp,Al,cl,by rw [hps1];exact hG.gone hj hdm hso hsd hne,hH1.from_ ((aj.rfl_ (a:=w9)).next E48),fun k hk=>(hU1 k hk).imp (fun e=>e) fun e=>⟨e.1,Nat.lt_of_lt_of_le e.2 (((aj.rfl_ (a:=w9)).next E48)).size⟩⟩,hCw.next (((aj.rfl_ (a:=w9)).next E48)).toChg⟩)
 refine asi rfl (ah (ae (ag (ag (aa (mvi rfl (ab (aY rfl rfl) (ah (ae (K8 rfl (fun Q14=>?_) (fun Q14=>?_)))))))))));rotate_left
 ·exfalso;omega
 refine ag (aa (asi rfl (ah (ae (aA (aF (bE (v:=.int _ _) rfl rfl ?_)))))));have hn:¬ ∃ e∈D,e.1=id:=fun he=>(hG.named.1 he).elim (fun q=>hfd (hfl.2 q)) (fun ⟨p,hp,q⟩=>hno p hp q)
 rw [zT hid hn,tl hn];exact ⟨rfl,hs0.same (((aj.rfl_.next E9).next E14).next E31)⟩
theorem yI:aH prog 55=true:=by kernel_rfl
theorem mo:aH prog 28=true:=by kernel_rfl
theorem oX:aH prog 51=true:=by kernel_rfl
theorem oC (U:Nat→Prop) (s:Nat) (D:List Dc) (w:World) (hs:eC w U s D) (d:Dc) (hd1:d.1.size≤140737488351232) (hd2:d.2.size≤140737488351232) :
 Rt prog 27 [.pointer (some ⟨s,0,none⟩),.agg (dV d).toArray] w (fun v w'=>v=.int .i64 (jZ D d)∧eC w' (Nx U w w') s (gn D d)∧Chg U w w'):=by
 have hs0:=hs;obtain ⟨ps,L,Ap,cp,Al,cl,hG,h,hU⟩:=hs;have hll:=hG.loose;have hpl:=hG.parts;have hf1:=hG.fit.1;have hf3:=hG.fit.2.2;refine enter (n:=56) Tryz.func27 rfl rfl rfl (ag (aa (c0 (v:=.agg _) rfl ?_)));intro b3 w1 E3 hb3 hk3;refine asi rfl (ah (ae (ag (ag (aa (ab (ak aW rfl) (ab (aq aX rfl (by exact (hk3.from_ aj.rfl_).rd 0 rfl)) ?_)))))));refine ax t_ (r0 d.1 _ hd1) ?_;rintro v10 w2 ⟨rfl,E10⟩;refine ab (ff rfl) (ah (ae (av rfl (fun Q3=>?_) (fun Q3=>?_))))
 ·with_reducible (replace Q3:=eo Q3;replace Q3:=dF_ Q3)
  have hid:¬ (1≤d.1.size∧d.1.size≤64):=by simpa using Q3
  refine ag (aa (asi rfl (ah (ae (aA (aF (bE (v:=.int _ _) rfl rfl ?_)))))));rw [gO (by rw [oG hid];decide),oG hid];exact ⟨rfl,hs0.same ((aj.rfl_.next E3).next E10)⟩
 with_reducible (replace Q3:=ep Q3;replace Q3:=dT_ Q3)
 have hid:1≤d.1.size∧d.1.size≤64:=by simpa using Q3
 refine au (ae (ag (ag (aa (ab (ak bR rfl) (ab (aq aX rfl (by exact (hk3.from_ (aj.rfl_.next E10)).rd 1 rfl)) ?_))))));refine ab (ck (by kernel_rfl) rfl) (ab (bX rfl rfl) (ah (ae (K8 rfl (fun Q4=>?_) (fun Q4=>?_)))))
 ·refine ag (aa (asi rfl (ah (ae (aA (aF (bE (v:=.int _ _) rfl rfl ?_)))))));rw [gO (by rw [wt hid (by omega)];decide),wt hid (by omega)];exact ⟨rfl,hs0.same ((aj.rfl_.next E3).next E10)⟩
 refine au (ae (ag (aa (mvp rfl (ab (ak aW rfl) (ab (aq aX rfl (by exact (hk3.from_ (aj.rfl_.next E10)).rd 0 rfl)) ?_))))));refine ax tZ (BK ps L D s Ap cp Al cl _ (h.from_ ((aj.rfl_.next E3).next E10)) hG d.1) ?_;rintro v20 w5 ⟨⟨i,fd,rfl,hi1,hi2,hi3,hi4⟩,E20⟩;have hfl:=td hG.sdL hi2 hi3 hi4;refine mvt rfl (ab (aw rfl rfl) (ab (aw rfl rfl) (asi rfl (asb rfl (ah (ae (ag (ag (aa (mvb rfl (mvb rfl (bC (t:=24) rfl (fun Q6=>?_) (fun Q6=>?_)))))))))))))
 ·refine aD rfl rfl (aD rfl rfl (aD rfl rfl (aD rfl rfl (aD rfl rfl (ab (a_ (v:=.bool _) rfl rfl) (ah (ae (cA rfl (ag (aa ?_))))))))));refine asi rfl (ah (ae (aA (aF (bE (v:=.int _ _) rfl rfl ?_)))));have he:∃ e∈D,e.1=d.1:=hG.named.2 (by first | exact .inl (hfl.1 (by assumption)) | exact .inr ⟨_,List.getElem_mem hj,hj2⟩);rw [gO (by rw [oE hid (by omega) he];decide),oE hid (by omega) he];exact ⟨rfl,hs0.same (((aj.rfl_.next E3).next E10).next E20)⟩
 refine al rfl (mvp rfl (al rfl (ab (ak aW rfl) (al rfl (ab (aq aX rfl (by exact (hk3.from_ ((aj.rfl_.next E10).next E20)).rd 0 rfl)) ?_)))));refine al rfl (ax tY (uR ps L D s Ap cp Al cl _ (h.from_ (((aj.rfl_.next E3).next E10).next E20)) hG d.1) ?_);rintro v28 w7 ⟨hp28,E28⟩;rcases hp28 with ⟨j,rfl,hj,hj2⟩ | ⟨rfl,hno⟩
 ·refine al rfl (ab (ek rfl rfl) (ab (aR (v:=.bool _) rfl rfl) (ah (ae (K8 rfl (fun Q8=>?_) (fun Q8=>?_))))));rotate_left
  ·exfalso;omega
  refine ag (aa (asi rfl (ah (ae (aA (aF (bE (v:=.int _ _) rfl rfl ?_)))))));have he:∃ e∈D,e.1=d.1:=hG.named.2 (by first | exact .inl (hfl.1 (by assumption)) | exact .inr ⟨_,List.getElem_mem hj,hj2⟩);rw [gO (by rw [oE hid (by omega) he];decide),oE hid (by omega) he];exact ⟨rfl,hs0.same ((((aj.rfl_.next E3).next E10).next E20).next E28)⟩
 refine al rfl (ab (ek rfl rfl) (ab (aR (v:=.bool _) rfl rfl) (ah (ae (K8 rfl (fun Q65=>?_) (fun Q65=>?_))))))
 ·exfalso;omega
 refine au (ae (ag (aa (mvp rfl (ax mo (nA U s D _ (hs0.from_ ((((aj.rfl_.next E3).next E10).next E20).next E28))) ?_)))));rintro v32 w66 ⟨⟨A32,c32,rfl,ho32⟩,E32⟩;have hM8:=((((aj.rfl_.next E10).next E20).next E28).next E32);refine ass rfl (ah (ae (ag (ag ?_))));have hsp:64≤D.length∨(D.length<64∧16384<dsz D+d.2.size)∨(D.length<64∧dsz D+d.2.size≤16384):=by omega
 rcases hsp with hc1 | ⟨hc1,hc2⟩ | ⟨hc1,hc2⟩
 ·apply bI 12 [(33,eqp _),(34,eqp _),(35,eqp _),(36,eqp _),(37,eqp _),(38,eqp _),(39,eqp _),(40,eqp _),(41,eqp _),(42,eqp _),(43,eqp _),(44,eqp _)] (by repeat first | exact bW | refine bT ?_ | refine bG ?_) (by kernel_rfl) (by kernel_rfl) ⟨af _,af _,af _,af _,af _,af _,af _,af _,af _,af _,af _,af _,trivial⟩
  case hop=>
   constructor
   ·rintro-w68 D68;exact ai (ar (v:=.slice _ _ _) rfl) rfl
   constructor
   ·rintro-w69 D69;rintro _ rfl;exact ai (aU bx rfl) rfl
   constructor
   ·rintro-w70 D70;rintro _ rfl;exact ai (gx (ek rfl rfl) (decide_eq_true (by omega))) rfl
   constructor
   ·rintro-w71 D71;rintro _ rfl;exact ai (ar (v:=.bool _) rfl) rfl
   constructor
   ·rintro-w72 D72;rintro _ rfl;exact bj rfl rfl rfl
   constructor
   ·rintro-w73 D73;rintro _ rfl _ rfl;exact bj rfl rfl rfl
   constructor
   ·rintro-w74 D74;rintro _ rfl;exact bj rfl rfl rfl
   constructor
   ·rintro-w75 D75;rintro _ rfl _ rfl;exact bj rfl rfl rfl
   constructor
   ·rintro-w76 D76;rintro _ rfl _ rfl;exact bj rfl rfl rfl
   constructor
   ·rintro-w77 D77;rintro _ rfl _ rfl _ rfl;exact bj rfl rfl rfl
   constructor
   ·rintro-w78 D78;rintro _ rfl _ rfl;exact bj rfl rfl rfl
   constructor
   ·rintro-w79 D79;rintro _ rfl _ rfl;exact ai (a_ (v:=.bool _) rfl rfl) rfl
   exact trivial
  case hend=>
   intro w80 D80;rintro _ rfl _ rfl _ rfl _ rfl _ rfl _ rfl _ rfl _ rfl _ rfl _ rfl _ rfl _ rfl;show St ..;have hF11:=((((((aj.rfl_.next E3).next E10).next E20).next E28).next E32).next D80);have hM11:=(((((aj.rfl_.next E10).next E20).next E28).next E32).next D80);have hB11:=h.blk.from_ hF11;have hfd:¬ fd=true:=by first | assumption | (rw [‹fd=false›];decide)
   have hn:¬ ∃ e∈D,e.1=d.1:=fun he=>(hG.named.1 he).elim (fun q=>hfd (hfl.2 q)) (fun ⟨p,hp,q⟩=>hno p hp q)
   refine ah (ae (cA rfl (ag (aa (asi rfl (ah (ae (aA (aF (bE (v:=.int _ _) rfl rfl ?_))))))))));rw [gO (by rw [qP hid (by omega) hn (by omega)];decide),qP hid (by omega) hn (by omega)];exact ⟨rfl,hs0.same ((((((aj.rfl_.next E3).next E10).next E20).next E28).next E32).next D80)⟩
 ·apply bI 12 [(33,eqp _),(34,eqp _),(35,eqp _),(36,eqp _),(37,eqp _),(38,eqp (.int .i64 ((dsz D:Nat):Int))),(39,eqp _),(40,eqp (.string d.2)),(41,eqp _),(42,eqp _),(43,eqp _),(44,eqp _)] (by repeat first | exact bW | refine bT ?_ | refine bG ?_) (by kernel_rfl) (by kernel_rfl) ⟨af _,af _,af _,af _,af _,af _,af _,af _,af _,af _,af _,af _,trivial⟩
  case hop=>
   constructor
   ·rintro-w82 D82;exact ai (ar (v:=.slice _ _ _) rfl) rfl
   constructor
   ·rintro-w83 D83;rintro _ rfl;exact ai (aU bx rfl) rfl
   constructor
   ·rintro-w84 D84;rintro _ rfl;exact ai (cF (ek rfl rfl) (decide_eq_false (by omega))) rfl
   constructor
   ·rintro-w85 D85;rintro _ rfl;exact ai (ar (v:=.bool _) rfl) rfl
   constructor
   ·rintro-w86 D86;rintro _ rfl;exact aJ rfl (ar (v:=.slice _ _ _) rfl) rfl
   constructor
   ·rintro-w87 D87;rintro _ rfl _ rfl;refine mU rfl oX ((lQ A32 c32 D.length D _ ((cN.own bH (by decide) ho32).2.from_ D87) rfl (by omega) (by omega)).mono ?_);rintro _ w2 ⟨rfl,hE⟩;exact ⟨hE,rfl⟩
   constructor
   ·rintro-w88 D88;rintro _ rfl;exact aJ rfl (ak bR rfl) rfl
   constructor
   ·rintro-w89 D89;rintro _ rfl _ rfl;exact aJ rfl (aq (v:=.string d.2) aX rfl ((hk3.from_ (hM8.next D89)).rd 1 rfl)) rfl
   constructor
   ·rintro-w90 D90;rintro _ rfl v90_40 rfl;exact aJ rfl (ck (by kernel_rfl) rfl) rfl
   constructor
   ·rintro-w91 D91;rintro _ rfl v91_38 rfl _ rfl;exact aJ rfl (eh rfl rfl (by omega)) rfl
   constructor
   ·rintro-w92 D92;rintro _ rfl _ rfl;exact aJ rfl (gx (bX rfl rfl) (decide_eq_true (by omega))) rfl
   constructor
   ·rintro-w93 D93;rintro _ rfl _ rfl;exact ai (aR (v:=.bool _) rfl rfl) rfl
   exact trivial
  case hend=>
   intro w94 D94;rintro _ rfl _ rfl _ rfl _ rfl _ rfl v38 rfl _ rfl v40 rfl _ rfl _ rfl _ rfl _ rfl;show St ..;have hF11:=((((((aj.rfl_.next E3).next E10).next E20).next E28).next E32).next D94);have hM11:=(((((aj.rfl_.next E10).next E20).next E28).next E32).next D94);have hB11:=h.blk.from_ hF11;have hfd:¬ fd=true:=by first | assumption | (rw [‹fd=false›];decide)
   have hn:¬ ∃ e∈D,e.1=d.1:=fun he=>(hG.named.1 he).elim (fun q=>hfd (hfl.2 q)) (fun ⟨p,hp,q⟩=>hno p hp q)
   refine ah (ae (cA rfl (ag (aa (asi rfl (ah (ae (aA (aF (bE (v:=.int _ _) rfl rfl ?_))))))))));rw [gO (by rw [qP hid (by omega) hn (by omega)];decide),qP hid (by omega) hn (by omega)];exact ⟨rfl,hs0.same ((((((aj.rfl_.next E3).next E10).next E20).next E28).next E32).next D94)⟩
 apply bI 12 [(33,eqp _),(34,eqp _),(35,eqp _),(36,eqp _),(37,eqp _),(38,eqp (.int .i64 ((dsz D:Nat):Int))),(39,eqp _),(40,eqp (.string d.2)),(41,eqp _),(42,eqp _),(43,eqp _),(44,eqp _)] (by repeat first | exact bW | refine bT ?_ | refine bG ?_) (by kernel_rfl) (by kernel_rfl) ⟨af _,af _,af _,af _,af _,af _,af _,af _,af _,af _,af _,af _,trivial⟩
 case hop=>
  constructor
  ·rintro-w96 D96;exact ai (ar (v:=.slice _ _ _) rfl) rfl
  constructor
  ·rintro-w97 D97;rintro _ rfl;exact ai (aU bx rfl) rfl
  constructor
  ·rintro-w98 D98;rintro _ rfl;exact ai (cF (ek rfl rfl) (decide_eq_false (by omega))) rfl
  constructor
  ·rintro-w99 D99;rintro _ rfl;exact ai (ar (v:=.bool _) rfl) rfl
  constructor
  ·rintro-w100 D100;rintro _ rfl;exact aJ rfl (ar (v:=.slice _ _ _) rfl) rfl
  constructor
  ·rintro-w101 D101;rintro _ rfl _ rfl;refine mU rfl oX ((lQ A32 c32 D.length D _ ((cN.own bH (by decide) ho32).2.from_ D101) rfl (by omega) (by omega)).mono ?_);rintro _ w2 ⟨rfl,hE⟩;exact ⟨hE,rfl⟩
  constructor
  ·rintro-w102 D102;rintro _ rfl;exact aJ rfl (ak bR rfl) rfl
  constructor
  ·rintro-w103 D103;rintro _ rfl _ rfl;exact aJ rfl (aq (v:=.string d.2) aX rfl ((hk3.from_ (hM8.next D103)).rd 1 rfl)) rfl
  constructor
  ·rintro-w104 D104;rintro _ rfl v104_40 rfl;exact aJ rfl (ck (by kernel_rfl) rfl) rfl
  constructor
  ·rintro-w105 D105;rintro _ rfl v105_38 rfl _ rfl;exact aJ rfl (eh rfl rfl (by omega)) rfl
  constructor
  ·rintro-w106 D106;rintro _ rfl _ rfl;exact aJ rfl (cF (bX rfl rfl) (decide_eq_false (by omega))) rfl
  constructor
  ·rintro-w107 D107;rintro _ rfl _ rfl;exact ai (aR (v:=.bool _) rfl rfl) rfl
  exact trivial
 case hend=>
  intro w108 D108;rintro _ rfl _ rfl _ rfl _ rfl _ rfl v38 rfl _ rfl v40 rfl _ rfl _ rfl _ rfl _ rfl;show St ..;have hF11:=((((((aj.rfl_.next E3).next E10).next E20).next E28).next E32).next D108);have hM11:=(((((aj.rfl_.next E10).next E20).next E28).next E32).next D108);have hB11:=h.blk.from_ hF11;have hfd:¬ fd=true:=by first | assumption | (rw [‹fd=false›];decide)
  have hn:¬ ∃ e∈D,e.1=d.1:=fun he=>(hG.named.1 he).elim (fun q=>hfd (hfl.2 q)) (fun ⟨p,hp,q⟩=>hno p hp q)
  refine ah (ae (cm rfl (au (ae (ag ?_)))));apply qO 9 8 [52] [(45,eqp _),(46,eqp _),(47,eqp _),(48,eqp _),(49,eqp (.slice Al L.length cl)),(50,eqp _),(51,eqp (.agg (dV d).toArray)),(52,fun v w'=>∃ q,v=.slice (some ⟨q,0,none⟩) 1 1∧Blk w' q 37 (dV d).toArray∧(w108).heap.size≤q),(53,fun v w'=>∃ A2 c2,v=.slice A2 (L.length+1) c2∧w'.ownsRow 0 37 2 (.slice A2 (L.length+1) c2) (L.length+1) ((L.take i++d::L.drop i).flatMap dV)∧∀ q,A2.map (·.block)=some q→Al.map (·.block)=some q∨(w108).heap.size≤q)] (fun w'=>aj w108 w') (fun w'=>Chg (fun k=>k=s∨Al.map (·.block)=some k) w108 w'∧Blk w' s 63 #[.slice Ap ps.length cp,.slice Al L.length cl]) (by repeat first | exact bW | refine bT ?_ | refine bG ?_) (by kernel_rfl) (by kernel_rfl) (by kernel_rfl) ⟨af _,af _,af _,af _,af _,af _,af _,(fun _ _ _ hF ⟨q,h1,h2,h3⟩=>⟨q,h1,h2.from_ hF,h3⟩),(fun _ _ _ hF ⟨A2,c2,h1,h2,h3⟩=>⟨A2,c2,h1,h2.kept_from hF,h3⟩),trivial⟩ (aj.rfl_.d1) (⟨aj.rfl_.d1.toChg,hB11.from_ aj.rfl_.d1⟩) (fun _ _ hF h=>h.next hF) (fun _ _ hF h=>⟨h.1.next hF.toChg,h.2.from_ hF⟩)
  case hop=>
   constructor
   ·rintro-w110 ⟨hC110,hb110⟩;exact ai (ar (v:=.pointer _) rfl) rfl
   constructor
   ·rintro-w111 ⟨hC111,hb111⟩;exact ai (ar (v:=.pointer _) rfl) rfl
   constructor
   ·rintro-w112 ⟨hC112,hb112⟩;rintro _ rfl;exact ai (ay rfl) rfl
   constructor
   ·rintro-w113 D113;rintro _ rfl;exact ai (ak eB rfl) rfl
   constructor
   ·rintro-w114 D114;rintro _ rfl;exact ai (aq cC rfl ((hB11.from_ D114).rd 1 rfl)) rfl
   constructor
   ·rintro-w115 D115;exact ai (ar (v:=.int _ _) rfl) rfl
   constructor
   ·rintro-w116 D116;exact ai (bk (cs:=dV d) bJ bh rfl ((hk3.from_ (hM11.next D116)).whole)) rfl
   constructor
   ·rintro-w117 D117;rintro v117_51 rfl;exact fR (sv de rfl rfl rfl) (aj.rfl_.new _) ⟨_,rfl,Blk.new _ _ _,D117.size⟩
   constructor
   ·intro h;cases h
   exact trivial
  case hmu=>
   rintro w119 D119;rintro v119_49 rfl _ rfl v119_52 ⟨q119,rfl,hq119,hqs119⟩;show mJ ..;refine HU yI (zB 0 Al cl L.length i 1 q119 0 1 (L.flatMap dV) (dV d) _ _ _ (h.rowL.kept_from (hF11.next D119)) (Nat.zero_le _) hi1 (by decide) rfl hq119.whole hq119 (fun k hk e=>by have:=(bM (h.rowL.kept_from hF11) k hk).2;omega) (nc _) (by simp [dV,Value.oneCell']) (by omega)) ?_;rintro v w3 ⟨⟨A2,c2,rfl,ho3,hA3⟩,hg3⟩;rw [FA] at ho3;have hs9:=D119.size;refine ⟨⟨D119.toChg.next (Chg.of_grown hg3 (fun k e=>.inr e)),(hB11.from_ D119).grown hg3 (dB (h.rowL.kept_from (hF11.next D119)) (hB11.from_ D119) (by decide))⟩,⟨A2,c2,rfl,ho3,fun q hq=>(hA3 q hq).imp (fun e=>e) fun e=>Nat.le_trans hs9 e⟩,fun t u ht h=>gZ (by repeat first | exact trivial | refine ⟨.inl rfl,?_⟩ | refine ⟨.inr (fun _ h=>h),?_⟩) t u ht h⟩
  case hend=>
   rintro w120 ⟨hC120,hb120⟩;rintro _ rfl _ rfl _ rfl _ rfl v49 rfl _ rfl v51 rfl v52 _ v53 ⟨A53,c53,rfl,ho53,hA53⟩;show St ..;have hC11:=hC120;have hbb:=hb120;refine ab (ay rfl) (ab (ak eB rfl) (b_ (v:=.slice _ _ _) nN rfl rfl rfl (hbb) (by show 1<2;decide) ?_));intro w121 O11 P11;refine ah (ae (ag (aa (asi rfl (ah (ae (aA (bE (v:=.int _ _) rfl rfl ?_))))))));have he:jZ D d=0:=tH hid (by omega) hn (by omega);have hlen:(L.take i++d::L.drop i).length=L.length+1:=nG d;rw [he,nM he];refine ⟨rfl,xt (L':=L.take i++d::L.drop i) h hU hF11 (hC11.only O11 (.inl rfl)) (by rw [hlen];exact P11) (by rw [hlen];exact cG ho53 O11 (dB ho53 hbb (by decide))) hA53 (hG.add hi1 hi2 (fun hlt=>⟨hi3 i (Nat.le_refl _) hlt,fun e=>hfd (hi4.2 ⟨hlt,e⟩)⟩) (fun e he q=>hn ⟨e,he,q⟩) hid (by omega) (by omega) (by omega))⟩
theorem gR:prog.built 37 [(0,.string ⟨#[115,112,111,105,108,116]⟩)]=some #[.string ⟨#[115,112,111,105,108,116]⟩,.string ⟨#[]⟩]:=by kernel_rfl
theorem yM:prog.built 37 []=some #[.string ⟨#[]⟩,.string ⟨#[]⟩]:=by kernel_rfl
theorem gQ:prog.built 57 [(0,.string ⟨#[115,112,111,105,108,116]⟩)]=some #[.string ⟨#[115,112,111,105,108,116]⟩,.int .i64 0]:=by kernel_rfl
theorem yK:prog.built 57 []=some #[.string ⟨#[]⟩,.int .i64 0]:=by kernel_rfl
theorem oY:aH prog 32=true:=by kernel_rfl
theorem ua:∀ (a0:ByteArray) (a1:Int),prog.built 57 [(0,.string a0),(1,.int .i64 a1)]=some #[.string a0,.int .i64 a1]:=by intros;kernel_rfl
theorem jF (A:Option Addr) (c n:Nat) (l:List Dc) (w:World) (hr:cN 2 dV w A l) (hn:n=l.length) (hl:n≤100000000) :
 Rt prog 11 [.slice A n c] w (fun v w'=>(∃ A' c',v=.slice A' n c'∧w'.ownsRow w.heap.size 37 2 (.slice A' n c') n (l.flatMap dV))∧aj w w'):=by
 refine enter (n:=19) Tryz.func11 rfl rfl rfl (ag (aa (ass rfl (ah (ae (ag (aa (ass rfl (ah (ae (ag (ag (aa (asi rfl (ah (ae (az (bg (G:=Nat×Option Addr×Nat) [5,6,7,8,9,10,11,12,13,14,15,16,17] (fun (k,A3,c3)=>[(3,.slice A3 k c3),(4,.int .i64 (k:Nat))]) (fun (k,A3,c3) w'=>k≤n∧w'.ownsRow w.heap.size 37 2 (.slice A3 k c3) k ((l.take k).flatMap dV)∧aj w w') (fun (k,_,_)=>n-k) ((0,none,0)) ⟨rfl,rfl,trivial⟩ ?_ ?_))))))))))))))))))
 ·exact ⟨Nat.zero_le _,World.ownsRow_nil _ _ _ _,aj.rfl_⟩
 rintro ⟨k,A3,c3⟩ ρ1 w1 ⟨hk,ho,hB⟩;refine ag (ag (aa (mvi rfl (mvs rfl (ab (aU bx rfl) (ab (aY rfl rfl) (ah (ae (K8 rfl (fun Q2=>?_) (fun Q2=>?_))))))))))
 ·obtain ⟨ba,oa,rfl,hca⟩:=hr (by omega);have hkl:k<l.length:=by omega
  have hce:=hca k hkl;refine au (ae (ag (az (aa (mvs rfl (mvs rfl (mvi rfl (ab (aG aP rfl rfl (by omega)) (ab (bk (cs:=[_,_]) bJ bh rfl (by exact da hB hce)) ?_)))))))));refine fA de rfl rfl rfl ?_;intro b16 w3 E16 hb16 hk16;refine cR de rfl (by decide) rfl (A:=A3) (xs:=(l.take k).flatMap dV) (news:=dV l[k]) (ho.kept_from (aj.rfl_.next E16)) ((hB.next E16).size) rfl rfl (fun _=>⟨b16,0,rfl,hk16.whole⟩) (fun h=>by cases h) (by simp [dV,Value.oneCell']) (by omega) (by omega) ?_;intro A17 c17 w4 ho17 hg17;have HF17:=((hB.next E16)).grew hg17 (fun k hk=>(bM (ho.kept_from (aj.rfl_.next E16)) k hk).1);refine ass rfl (ah (aL (ae (aa (mvi rfl (ab (aI (b:=1) rfl rfl (by omega)) (asi rfl (ah ?_))))))));refine aO ((k+1,A17,c17)) ⟨(by first | rfl | (refine aM ?_;omega)),(by first | rfl | (refine aM ?_;omega)),trivial⟩ (by (iterate 30 refine aB rfl ?_);exact aK) ⟨?_,?_⟩
  ·exact ⟨by omega,by rw [List.take_succ_eq_append_getElem hkl,List.flatMap_append];simpa using ho17,HF17⟩
  ·show n-(k+1)<n-k;omega
 refine aZ (aC (aC (aT (ae (ag (aa (mvs rfl (ass rfl (ah (ae (aA (bE (v:=.slice _ _ _) rfl rfl ?_))))))))))));obtain rfl:k=n:=by omega
 rw [hn,List.take_length] at ho;exact ⟨⟨A3,c3,rfl,by rw [hn];exact ho⟩,hB⟩
theorem C5 (A B:Option Addr) (ca cb n m:Nat) (a b:List Dc) (w:World) (ha:cN 2 dV w A a) (hb:cN 2 dV w B b) (hn:n=a.length) (hm:m=b.length) (hl:n≤100000000) :
 Rt prog 29 [.slice A n ca,.slice B m cb] w (fun v w'=>v=.bool (decide (a=b))∧aj w w'):=by
 refine enter (n:=26) Tryz.func29 rfl rfl rfl (ag (aa (asb rfl (ah (ae (ag (ag (aa (mvs rfl (ab (aU bx rfl) (mvs rfl (ab (aU bx rfl) (ab (bP rfl rfl) ?_)))))))))))));refine ah (ae (L_ rfl (fun Q1=>?_) (fun Q1=>?_)))
 ·refine ag (aa (asb rfl (ah (ae (aA (aF (bE (v:=.bool _) rfl rfl ?_)))))));exact ⟨by rw [decide_eq_false];rintro rfl;omega,aj.rfl_⟩
 refine au (ae (ag (ag (aa (asi rfl (ah (ae (az (bg (G:=Nat) [4,11,12,13,14,15,16,17,18,19,20,21,22,23,24,25] (fun k=>[(5,.int .i64 (k:Nat))]) (fun k w'=>k≤n∧a.take k=b.take k∧aj w w') (fun k=>n-k) (0) ⟨rfl,trivial⟩ ?_ ?_)))))))))
 ·exact ⟨Nat.zero_le _,rfl,aj.rfl_⟩
 rintro k ρ2 w2 ⟨hk,ht,hB⟩;refine ag (ag (aa (mvi rfl (mvs rfl (ab (aU bx rfl) (ab (aY rfl rfl) (ah (ae (K8 rfl (fun Q3=>?_) (fun Q3=>?_))))))))))
 ·obtain ⟨ba,oa,rfl,hca⟩:=ha (by omega);obtain ⟨bb,ob,rfl,hcb⟩:=hb (by omega);refine au (ae (ag (az (ag ?_))));apply bI 9 [(17,eqp _),(18,eqp _),(19,eqp _),(20,eqp (.agg (dV a[k]).toArray)),(21,eqp _),(22,eqp _),(23,eqp _),(24,eqp (.agg (dV b[k]).toArray)),(25,eqp _)] (by repeat first | exact bW | refine bT ?_ | refine bG ?_) (by kernel_rfl) (by kernel_rfl) ⟨af _,af _,af _,af _,af _,af _,af _,af _,af _,trivial⟩
  case hop=>
   constructor
   ·rintro-w5 D5;exact ai (ar (v:=.slice _ _ _) rfl) rfl
   constructor
   ·rintro-w6 D6;exact ai (ar (v:=.int _ _) rfl) rfl
   constructor
   ·rintro-w7 D7;rintro _ rfl _ rfl;exact ai (aG aP rfl rfl (by omega)) rfl
   constructor
   ·rintro-w8 D8;rintro _ rfl;exact ai (bk (cs:=dV a[k]) bJ bh rfl (da (hB.next D8) (hca k (by omega)))) rfl
   constructor
   ·rintro-w9 D9;exact ai (ar (v:=.slice _ _ _) rfl) rfl
   constructor
   ·rintro-w10 D10;exact ai (ar (v:=.int _ _) rfl) rfl
   constructor
   ·rintro-w11 D11;rintro _ rfl _ rfl;exact ai (aG aP rfl rfl (by omega)) rfl
   constructor
   ·rintro-w12 D12;rintro _ rfl;exact ai (bk (cs:=dV b[k]) bJ bh rfl (da (hB.next D12) (hcb k (by omega)))) rfl
   constructor
   ·rintro-w13 D13;rintro v13_20 rfl v13_24 rfl;exact ai (Ev rfl rfl) rfl
   exact trivial
  case hend=>
   intro w14 D14;rintro _ rfl _ rfl _ rfl v20 rfl _ rfl _ rfl _ rfl v24 rfl _ rfl;show St ..;refine ah (ae (av rfl (fun Q15=>?_) (fun Q15=>?_)))
   ·with_reducible (replace Q15:=eo Q15;replace Q15:=dF_ Q15)
    have hne:¬ a[k]=b[k]:=by simpa using Q15
    refine ag (aa (asb rfl (ah (ae (aA (bq (aF (aF (bq (aF (bE (v:=.bool _) rfl rfl ?_)))))))))));exact ⟨by rw [decide_eq_false];rintro rfl;exact hne rfl,(hB.next D14)⟩
   with_reducible (replace Q15:=ep Q15;replace Q15:=dT_ Q15)
   have heq:a[k]=b[k]:=by simpa using Q15
   refine au (aL (ae (aa (mvi rfl (ab (aI (b:=1) rfl rfl (by omega)) (asi rfl (ah ?_)))))));refine aO (k+1) ⟨(by first | rfl | (refine aM ?_;omega)),trivial⟩ (by (iterate 33 refine aB rfl ?_);exact aK) ⟨?_,?_⟩
   ·exact ⟨by omega,vl (by omega) (by omega) ht heq,(hB.next D14)⟩
   ·show n-(k+1)<n-k;omega
 refine aZ (aC (aC (aT (ae (ag (aa (asb rfl (ah (ae (aA (bE (v:=.bool _) rfl rfl (⟨by rw [decide_eq_true (FW (by omega) (by omega) ht)],hB⟩))))))))))))
theorem lU (base:Nat) (A:Option Addr) (c n:Nat) (l:List Dc) (w:World) (ho:w.ownsRow base 37 2 (.slice A n c) n (l.flatMap dV)) (hl:n≤100000000) (hbs:base≤w.heap.size) :
 Rt prog 13 [.slice A n c] w (fun _ w'=>w.grownBy w' (A.map (·.block))):=by
 have hn:=(cN.own bH (by decide) ho).1;refine enter (n:=17) Tryz.func13 rfl rfl rfl (ag (ag (aa (asi rfl (ah (ae (az (bg (G:=Nat×List Dc) [3,4,5,6,7,8,9,10,11,12] (fun (k,_)=>[(2,.int .i64 (k:Nat))]) (fun (k,l1) w'=>k≤n∧l1.length=n∧w'.ownsRow base 37 2 (.slice A n c) n (l1.flatMap dV)∧w.grownBy w' (A.map (·.block))) (fun (k,_)=>n-k) ((0,l)) ⟨rfl,trivial⟩ ?_ ?_))))))))
 ·exact ⟨Nat.zero_le _,hn,ho,(aj.rfl_ (a:=w)).grown _⟩
 rintro ⟨k,l1⟩ ρ1 w1 ⟨hk,hlen,ho1,hG⟩;refine ag (ag (aa (mvi rfl (mvs rfl (ab (aU bx rfl) (ab (aY rfl rfl) (ah (ae (K8 rfl (fun Q2=>?_) (fun Q2=>?_))))))))))
 ·obtain ⟨g,rfl⟩:=dy ho (by omega);have hkl:k<l1.length:=by omega
  refine au (ae (ag (az (aa (mvs rfl (mvi rfl (ab (cS (l:=[(0,.const (.string ⟨#[115,112,111,105,108,116]⟩))]) (gR)) (ab (aG aP rfl rfl (by omega)) ?_))))))));refine lT (size:=2) (o:=k*2) (vs:=dV (⟨#[115,112,111,105,108,116]⟩,⟨#[]⟩)) bh (by show Value.pointer (some ⟨g,0+k*2,none⟩)=_;rw [Nat.zero_add]) rfl (by simp [dV,Value.oneCell']) ho1 (by omega) (by show k*2+2≤n*2;omega) ?_;intro w3 O3 P3;refine ah (aL (ae (aa (mvi rfl (ab (aI (b:=1) rfl rfl (by omega)) (asi rfl (ah ?_)))))));refine aO ((k+1,l1.set k (⟨#[115,112,111,105,108,116]⟩,⟨#[]⟩))) ⟨(by first | rfl | (refine aM ?_;omega)),trivial⟩ (by (iterate 22 refine aB rfl ?_);exact aK) ⟨?_,?_⟩
  ·exact ⟨by omega,(List.length_set ..).trans hlen,by rw [←lB bH l1 k hkl];exact P3,aS hG O3.grown⟩
  ·show n-(k+1)<n-k;omega
 refine aZ (aC (aC (aT (ae (aa (mvs rfl (ab (cS (l:=[]) (yM)) (fA de rfl rfl rfl ?_))))))));intro b15 w4 E15 hb15 hk15;refine cR (base:=base) de rfl (by decide) rfl (A:=A) (xs:=l1.flatMap dV) (news:=dV (⟨#[]⟩,⟨#[]⟩)) (ho1.kept_from E15) (by have:=hG.size;have:=E15.size;omega) rfl rfl (fun _=>⟨b15,0,rfl,hk15.whole⟩) (fun h=>by cases h) (by simp [dV,Value.oneCell']) (by omega) (by omega) ?_;intro A16 c16 w5 ho16 hg16;refine ass rfl (ah (gm (kp rfl (aS hG (aS (E15.grown _) hg16)))))
theorem u6 (A B:Option Addr) (ca cb n m:Nat) (a b:List Ht) (w:World) (ha:cN 2 hV w A a) (hb:cN 2 hV w B b) (hn:n=a.length) (hm:m=b.length) (hl:n≤100000000) :
 Rt prog 22 [.slice A n ca,.slice B m cb] w (fun v w'=>v=.bool (decide (a=b))∧aj w w'):=by
 refine enter (n:=26) Tryz.func22 rfl rfl rfl (ag (aa (asb rfl (ah (ae (ag (ag (aa (mvs rfl (ab (aU eV rfl) (mvs rfl (ab (aU eV rfl) (ab (bP rfl rfl) ?_)))))))))))));refine ah (ae (L_ rfl (fun Q1=>?_) (fun Q1=>?_)))
 ·refine ag (aa (asb rfl (ah (ae (aA (aF (bE (v:=.bool _) rfl rfl ?_)))))));exact ⟨by rw [decide_eq_false];rintro rfl;omega,aj.rfl_⟩
 refine au (ae (ag (ag (aa (asi rfl (ah (ae (az (bg (G:=Nat) [4,11,12,13,14,15,16,17,18,19,20,21,22,23,24,25] (fun k=>[(5,.int .i64 (k:Nat))]) (fun k w'=>k≤n∧a.take k=b.take k∧aj w w') (fun k=>n-k) (0) ⟨rfl,trivial⟩ ?_ ?_)))))))))
 ·exact ⟨Nat.zero_le _,rfl,aj.rfl_⟩
 rintro k ρ2 w2 ⟨hk,ht,hB⟩;refine ag (ag (aa (mvi rfl (mvs rfl (ab (aU eV rfl) (ab (aY rfl rfl) (ah (ae (K8 rfl (fun Q3=>?_) (fun Q3=>?_))))))))))
 ·obtain ⟨ba,oa,rfl,hca⟩:=ha (by omega);obtain ⟨bb,ob,rfl,hcb⟩:=hb (by omega);refine au (ae (ag (az (ag ?_))));apply bI 9 [(17,eqp _),(18,eqp _),(19,eqp _),(20,eqp (.agg (hV a[k]).toArray)),(21,eqp _),(22,eqp _),(23,eqp _),(24,eqp (.agg (hV b[k]).toArray)),(25,eqp _)] (by repeat first | exact bW | refine bT ?_ | refine bG ?_) (by kernel_rfl) (by kernel_rfl) ⟨af _,af _,af _,af _,af _,af _,af _,af _,af _,trivial⟩
  case hop=>
   constructor
   ·rintro-w5 D5;exact ai (ar (v:=.slice _ _ _) rfl) rfl
   constructor
   ·rintro-w6 D6;exact ai (ar (v:=.int _ _) rfl) rfl
   constructor
   ·rintro-w7 D7;rintro _ rfl _ rfl;exact ai (aG fH rfl rfl (by omega)) rfl
   constructor
   ·rintro-w8 D8;rintro _ rfl;exact ai (bk (cs:=hV a[k]) iD fE rfl (da (hB.next D8) (hca k (by omega)))) rfl
   constructor
   ·rintro-w9 D9;exact ai (ar (v:=.slice _ _ _) rfl) rfl
   constructor
   ·rintro-w10 D10;exact ai (ar (v:=.int _ _) rfl) rfl
   constructor
   ·rintro-w11 D11;rintro _ rfl _ rfl;exact ai (aG fH rfl rfl (by omega)) rfl
   constructor
   ·rintro-w12 D12;rintro _ rfl;exact ai (bk (cs:=hV b[k]) iD fE rfl (da (hB.next D12) (hcb k (by omega)))) rfl
   constructor
   ·rintro-w13 D13;rintro v13_20 rfl v13_24 rfl;exact ai (xA rfl rfl) rfl
   exact trivial
  case hend=>
   intro w14 D14;rintro _ rfl _ rfl _ rfl v20 rfl _ rfl _ rfl _ rfl v24 rfl _ rfl;show St ..;refine ah (ae (av rfl (fun Q15=>?_) (fun Q15=>?_)))
   ·with_reducible (replace Q15:=eo Q15;replace Q15:=dF_ Q15)
    have hne:¬ a[k]=b[k]:=by simpa using Q15
    refine ag (aa (asb rfl (ah (ae (aA (bq (aF (aF (bq (aF (bE (v:=.bool _) rfl rfl ?_)))))))))));exact ⟨by rw [decide_eq_false];rintro rfl;exact hne rfl,(hB.next D14)⟩
   with_reducible (replace Q15:=ep Q15;replace Q15:=dT_ Q15)
   have heq:a[k]=b[k]:=by simpa using Q15
   refine au (aL (ae (aa (mvi rfl (ab (aI (b:=1) rfl rfl (by omega)) (asi rfl (ah ?_)))))));refine aO (k+1) ⟨(by first | rfl | (refine aM ?_;omega)),trivial⟩ (by (iterate 33 refine aB rfl ?_);exact aK) ⟨?_,?_⟩
   ·exact ⟨by omega,vl (by omega) (by omega) ht heq,(hB.next D14)⟩
   ·show n-(k+1)<n-k;omega
 refine aZ (aC (aC (aT (ae (ag (aa (asb rfl (ah (ae (aA (bE (v:=.bool _) rfl rfl (⟨by rw [decide_eq_true (FW (by omega) (by omega) ht)],hB⟩))))))))))))
theorem vr (base:Nat) (A:Option Addr) (c n:Nat) (l:List Ht) (w:World) (ho:w.ownsRow base 57 2 (.slice A n c) n (l.flatMap hV)) (hl:n≤100000000) (hbs:base≤w.heap.size) :
 Rt prog 23 [.slice A n c] w (fun _ w'=>w.grownBy w' (A.map (·.block))):=by
 have hn:=(cN.own eP (by decide) ho).1;refine enter (n:=17) Tryz.func23 rfl rfl rfl (ag (ag (aa (asi rfl (ah (ae (az (bg (G:=Nat×List Ht) [3,4,5,6,7,8,9,10,11,12] (fun (k,_)=>[(2,.int .i64 (k:Nat))]) (fun (k,l1) w'=>k≤n∧l1.length=n∧w'.ownsRow base 57 2 (.slice A n c) n (l1.flatMap hV)∧w.grownBy w' (A.map (·.block))) (fun (k,_)=>n-k) ((0,l)) ⟨rfl,trivial⟩ ?_ ?_))))))))
 ·exact ⟨Nat.zero_le _,hn,ho,(aj.rfl_ (a:=w)).grown _⟩
 rintro ⟨k,l1⟩ ρ1 w1 ⟨hk,hlen,ho1,hG⟩;refine ag (ag (aa (mvi rfl (mvs rfl (ab (aU eV rfl) (ab (aY rfl rfl) (ah (ae (K8 rfl (fun Q2=>?_) (fun Q2=>?_))))))))))
 ·obtain ⟨g,rfl⟩:=dy ho (by omega);have hkl:k<l1.length:=by omega
  refine au (ae (ag (az (aa (mvs rfl (mvi rfl (ab (cS (l:=[(0,.const (.string ⟨#[115,112,111,105,108,116]⟩))]) (gQ)) (ab (aG fH rfl rfl (by omega)) ?_))))))));refine lT (size:=2) (o:=k*2) (vs:=hV (⟨#[115,112,111,105,108,116]⟩,0)) fE (by show Value.pointer (some ⟨g,0+k*2,none⟩)=_;rw [Nat.zero_add]) rfl (by simp [hV,Value.oneCell']) ho1 (by omega) (by show k*2+2≤n*2;omega) ?_;intro w3 O3 P3;refine ah (aL (ae (aa (mvi rfl (ab (aI (b:=1) rfl rfl (by omega)) (asi rfl (ah ?_)))))));refine aO ((k+1,l1.set k (⟨#[115,112,111,105,108,116]⟩,0))) ⟨(by first | rfl | (refine aM ?_;omega)),trivial⟩ (by (iterate 22 refine aB rfl ?_);exact aK) ⟨?_,?_⟩
  ·exact ⟨by omega,(List.length_set ..).trans hlen,by rw [←lB eP l1 k hkl];exact P3,aS hG O3.grown⟩
  ·show n-(k+1)<n-k;omega
 refine aZ (aC (aC (aT (ae (aa (mvs rfl (ab (cS (l:=[]) (yK)) (fA en rfl rfl rfl ?_))))))));intro b15 w4 E15 hb15 hk15;refine cR (base:=base) en rfl (by decide) rfl (A:=A) (xs:=l1.flatMap hV) (news:=hV (⟨#[]⟩,0)) (ho1.kept_from E15) (by have:=hG.size;have:=E15.size;omega) rfl rfl (fun _=>⟨b15,0,rfl,hk15.whole⟩) (fun h=>by cases h) (by simp [hV,Value.oneCell']) (by omega) (by omega) ?_;intro A16 c16 w5 ho16 hg16;refine ass rfl (ah (gm (kp rfl (aS hG (aS (E15.grown _) hg16)))))
theorem vT (A:Option Addr) (c n:Nat) (ds:List Dc) (w:World) (hr:cN 2 dV w A ds) (hn:n=ds.length) (hl:n≤10000000000000) (hs:∀ d∈ds,Small d.1∧Small d.2) :
 Rt prog 30 [.slice A n c] w (fun v w'=>(∃ m:Nat,v=.int .i64 (m:Nat)∧n≤m)∧aj w w'):=by
 refine enter (n:=33) Tryz.func30 rfl rfl rfl (ag (aa (asi rfl (ah (ae (ag (aa (mvs rfl (ab (aU bx rfl) (asi rfl (ah (ae (ag (ag (aa (asi rfl ?_))))))))))))))));refine ah (ae (az (bg (G:=Nat×Nat) [7,8,9,10,11,12,13,14,15,16,17,18,19,20,21,22,23,24,25,26,27,28,29,30,31] (fun (m,i)=>[(3,.int .i64 (m:Nat)),(4,.int .i64 (i:Nat))]) (fun (m,i) w'=>i≤n∧n≤m∧m≤1000000000000000∧aj w w') (fun (_,i)=>n-i) ((n,0)) ⟨rfl,rfl,trivial⟩ ?_ ?_)))
 ·exact ⟨Nat.zero_le _,Nat.le_refl _,by omega,aj.rfl_⟩
 rintro ⟨m,i⟩ ρ1 w1 ⟨hi,hnm,hmb,hB⟩;refine ag (ag (aa (mvi rfl (mvs rfl (ab (aU bx rfl) (ab (aY rfl rfl) (mvb rfl (KB (t:=11) rfl (fun Q2=>?_) (fun Q2=>?_)))))))))
 ·refine al rfl (mvi rfl (al rfl (ab (aY rfl rfl) (ab (a_ (v:=.bool _) rfl rfl) (ah (ae (K8 rfl (fun Q3=>?_) (fun Q3=>?_))))))))
  ·obtain ⟨bd,od,rfl,hcd⟩:=hr (by omega);have hil:i<ds.length:=by omega
   have hce:=hcd i hil;rw [←bO hil] at hce;obtain ⟨hz1,hz2⟩:(ds.getD i dd).1.size≤140737488351232∧(ds.getD i dd).2.size≤140737488351232:=by rw [bO hil];exact hs _ (List.getElem_mem hil)
   refine au (ae (ag (az ?_)));apply bI 16 [(17,eqp _),(18,eqp _),(19,eqp _),(20,eqp _),(21,eqp _),(22,eqp (.string (ds.getD i dd).1)),(23,eqp _),(24,eqp _),(25,eqp _),(26,eqp _),(27,eqp _),(28,eqp _),(29,eqp (.string (ds.getD i dd).2)),(30,eqp _),(31,eqp _),(3,eqp _)] (by repeat first | exact bW | refine bT ?_ | refine bG ?_) (by kernel_rfl) (by kernel_rfl) ⟨af _,af _,af _,af _,af _,af _,af _,af _,af _,af _,af _,af _,af _,af _,af _,af _,trivial⟩
   case hop=>
    constructor
    ·rintro-w5 D5;exact ai (ar (v:=.int _ _) rfl) rfl
    constructor
    ·rintro-w6 D6;exact ai (ar (v:=.slice _ _ _) rfl) rfl
    constructor
    ·rintro-w7 D7;exact ai (ar (v:=.int _ _) rfl) rfl
    constructor
    ·rintro-w8 D8;rintro _ rfl _ rfl;exact ai (aG aP rfl rfl (by omega)) rfl
    constructor
    ·rintro-w9 D9;rintro _ rfl;exact ai (ak aW rfl) rfl
    constructor
    ·rintro-w10 D10;rintro _ rfl;exact ai (aq (v:=.string (ds.getD i dd).1) aX rfl (bu (hB.next D10) (hce 0 _ rfl))) rfl
    constructor
    ·rintro-w11 D11;rintro v11_22 rfl;exact ai (ck (by kernel_rfl) rfl) rfl
    constructor
    ·rintro-w12 D12;rintro _ rfl _ rfl;exact ai (aI rfl rfl (by omega)) rfl
    constructor
    ·rintro-w13 D13;exact ai (ar (v:=.slice _ _ _) rfl) rfl
    constructor
    ·rintro-w14 D14;exact ai (ar (v:=.int _ _) rfl) rfl
    constructor
    ·rintro-w15 D15;rintro _ rfl _ rfl;exact ai (aG aP rfl rfl (by omega)) rfl
    constructor
    ·rintro-w16 D16;rintro _ rfl;exact ai (ak bR rfl) rfl
    constructor
    ·rintro-w17 D17;rintro _ rfl;exact ai (aq (v:=.string (ds.getD i dd).2) aX rfl (bu (hB.next D17) (hce 1 _ rfl))) rfl
    constructor
    ·rintro-w18 D18;rintro v18_29 rfl;exact ai (ck (by kernel_rfl) rfl) rfl
    constructor
    ·rintro-w19 D19;rintro _ rfl _ rfl;exact ai (aI rfl rfl (by omega)) rfl
    constructor
    ·rintro-w20 D20;rintro _ rfl;exact ai (cq (v:=.int _ _) rfl) rfl
    exact trivial
   case hend=>
    intro w21 D21;rintro _ rfl _ rfl _ rfl _ rfl _ rfl v22 rfl _ rfl _ rfl _ rfl _ rfl _ rfl _ rfl v29 rfl _ rfl _ rfl _ rfl;show St ..;refine ah (aL (ae (aa (mvi rfl (ab (aI (b:=1) rfl rfl (by omega)) (asi rfl (ah ?_)))))));refine aO ((m+(ds.getD i dd).1.size+(ds.getD i dd).2.size,i+1)) ⟨(by first | rfl | (refine aM ?_;omega)),(by first | rfl | (refine aM ?_;omega)),trivial⟩ (by (iterate 55 refine aB rfl ?_);exact aK) ⟨?_,?_⟩
    ·exact ⟨by omega,by omega,by omega,(hB.next D21)⟩
    ·show n-(i+1)<n-i;omega
  refine aZ (aC (aC (aT (ae (ag (aa (mvi rfl (asi rfl (ah (ae (aA (bE (v:=.int _ _) rfl rfl (⟨⟨m,rfl,hnm⟩,hB⟩)))))))))))))
 refine aD rfl rfl (aD rfl rfl (ab (aR (v:=.bool _) rfl rfl) (ah (ae (cm rfl (aZ (aC (aC (aT (ae (ag (aa (mvi rfl (asi rfl ?_))))))))))))));refine ah (ae (aA (bE (v:=.int _ _) rfl rfl (⟨⟨m,rfl,hnm⟩,hB⟩))))
theorem oh (A:Option Addr) (c n:Nat) (ds:List Dc) (w:World) (hr:cN 2 dV w A ds) (hn:n=ds.length) (hl:n≤100000000) (hz:dsz ds≤1000000000000000000) :
 Rt prog 32 [.slice A n c] w (fun v w'=>v=.int .i64 ((dsz ds:Nat):Int)∧aj w w'):=by
 refine enter (n:=20) Tryz.func32 rfl rfl rfl (ag (aa (asi rfl (ah (ae (ag (aa (asi rfl (ah (ae (ag (ag (aa (asi rfl (ah (ae (az (bg (G:=Nat) [5,6,7,8,9,10,11,12,13,14,15,16,17,18] (fun i=>[(3,.int .i64 (dsz (ds.take i):Nat)),(4,.int .i64 (i:Nat))]) (fun i w'=>i≤n∧aj w w') (fun i=>n-i) (0) ⟨rfl,rfl,trivial⟩ ?_ ?_))))))))))))))))))
 ·exact ⟨Nat.zero_le _,aj.rfl_⟩
 rintro i ρ1 w1 ⟨hi,hB⟩;refine ag (ag (aa (mvi rfl (mvs rfl (ab (aU bx rfl) (ab (aY rfl rfl) (ah (ae (K8 rfl (fun Q2=>?_) (fun Q2=>?_))))))))))
 ·obtain ⟨bd,od,rfl,hcd⟩:=hr (by omega);have hil:i<ds.length:=by omega
  have hce:=hcd i hil;rw [←bO hil] at hce;have hdt:=iM hil;have hdl:=tj (ds:=ds) (i+1);refine au (ae (ag (az (aa (mvi rfl (mvs rfl (mvi rfl (ab (aG aP rfl rfl (by omega)) (ab (ak bR rfl) (ab (aq aX rfl (by exact bu hB (hce 1 _ rfl))) ?_))))))))));refine ab (ck (by kernel_rfl) rfl) (ab (aI rfl rfl (by omega)) (asi rfl (ah (aL (ae (aa (mvi rfl (ab (aI (b:=1) rfl rfl (by omega)) (asi rfl (ah ?_))))))))));refine aO (i+1) ⟨(aM (by rw [iM hil])),rfl,trivial⟩ (by (iterate 32 refine aB rfl ?_);exact aK) ⟨?_,?_⟩
  ·exact ⟨by omega,hB⟩
  ·show n-(i+1)<n-i;omega
 refine aZ (aC (aC (aT (ae (ag (aa (mvi rfl (asi rfl (ah (ae (aA (bE (v:=.int _ _) rfl rfl ?_))))))))))));obtain rfl:i=n:=by omega
 exact ⟨by rw [hn,List.take_length],hB⟩
theorem FY {ds:List Dc} (h:∀ d∈ds,d.2.size≤2048):dsz ds≤ds.length*2048:=by
 induction ds with
 |nil=>exact Nat.zero_le _
 |cons d ds ih=>
  have h1:=h d (List.mem_cons_self ..);have h2:=ih fun e he=>h e (List.mem_cons_of_mem _ he)
  rw [dsz,List.length_cons];omega
theorem jB {s:ByteArray}:(s.toList==(⟨#[]⟩:ByteArray).toList)=true↔s.size=0:=fL.trans ⟨uL,oc⟩
theorem sC (A:Option Addr) (c n:Nat) (ds:List Dc) (w:World) (hr:cN 2 dV w A ds) (hn:n=ds.length) (hl:n≤100000000) :
 Rt prog 14 [.slice A n c] w (fun v w'=>v=.int .i64 (l7 ds)∧aj w w'):=by
 refine enter (n:=63) Tryz.func14 rfl rfl rfl (ag (aa (asi rfl (ah (ae (ag (ag (aa (asi rfl (ah (ae (az (bg (G:=Nat) [2,5,6,7,8,9,10,11,12,13,14,15,16,17,18,19,20,21,22,23,24,25,26,27,28,29,30,31,32,33,34,35,36,37,38,39,40,41,42,43] (fun i=>[(3,.int .i64 (i:Nat))]) (fun i w'=>i≤n∧(∀ x,x<i→okI ds x)∧aj w w') (fun i=>n-i) (0) ⟨rfl,trivial⟩ ?_ ?_)))))))))))))
 ·exact ⟨Nat.zero_le _,fun x h=>absurd h (by omega),aj.rfl_⟩
 rintro i ρ1 w1 ⟨hi,hok,hB⟩;refine ag (ag (aa (mvi rfl (mvs rfl (ab (aU bx rfl) (ab (aY rfl rfl) (ah (ae (K8 rfl (fun Q2=>?_) (fun Q2=>?_))))))))))
 ·obtain ⟨bd,od,rfl,hcd⟩:=hr (by omega);have hil:i<ds.length:=by omega
  have hce:=hcd i hil;rw [←bO hil] at hce
  have hcp:0<i→w.rangeAt bd (od+(i-1)*2) (dV (ds.getD (i-1) dd)):=fun h=>by
   have h2:=hcd (i-1) (by omega)
   rwa [←bO (show i-1<ds.length by omega)] at h2
  refine au (ae (ag (az (ag ?_))));have hsp:(ds.getD i dd).1.size=0∨(1≤(ds.getD i dd).1.size∧64<(ds.getD i dd).1.size)∨(1≤(ds.getD i dd).1.size∧(ds.getD i dd).1.size≤64∧i=0)∨(1≤(ds.getD i dd).1.size∧(ds.getD i dd).1.size≤64∧0<i):=by omega
  rcases hsp with hc1 | ⟨hc1,hc2⟩ | ⟨hc1,hc2,hc3⟩ | ⟨hc1,hc2,hc3⟩
  ·apply bI 33 [(11,eqp _),(12,eqp _),(13,eqp _),(14,eqp _),(15,eqp (.string (ds.getD i dd).1)),(16,eqp _),(17,eqp _),(18,eqp _),(19,eqp _),(20,eqp _),(21,eqp _),(22,eqp _),(23,eqp _),(24,eqp _),(25,eqp _),(26,eqp _),(27,eqp _),(28,eqp _),(29,eqp _),(30,eqp _),(31,eqp _),(32,eqp _),(33,eqp _),(34,eqp _),(35,eqp _),(36,eqp _),(37,eqp _),(38,eqp _),(39,eqp _),(40,eqp _),(41,eqp _),(42,eqp _),(43,eqp _)] (by repeat first | exact bW | refine bT ?_ | refine bG ?_) (by kernel_rfl) (by kernel_rfl) ⟨af _,af _,af _,af _,af _,af _,af _,af _,af _,af _,af _,af _,af _,af _,af _,af _,af _,af _,af _,af _,af _,af _,af _,af _,af _,af _,af _,af _,af _,af _,af _,af _,af _,trivial⟩
   case hop=>
    constructor
    ·rintro-w4 D4;exact ai (ar (v:=.slice _ _ _) rfl) rfl
    constructor
    ·rintro-w5 D5;exact ai (ar (v:=.int _ _) rfl) rfl
    constructor
    ·rintro-w6 D6;rintro _ rfl _ rfl;exact ai (aG aP rfl rfl (by omega)) rfl
    constructor
    ·rintro-w7 D7;rintro _ rfl;exact ai (ak aW rfl) rfl
    constructor
    ·rintro-w8 D8;rintro _ rfl;exact ai (aq (v:=.string (ds.getD i dd).1) aX rfl (bu (hB.next D8) (hce 0 _ rfl))) rfl
    constructor
    ·rintro-w9 D9;rintro v9_15 rfl;exact ai (gx (fP rfl rfl) (jB.2 (by omega))) rfl
    constructor
    ·rintro-w10 D10;rintro _ rfl;exact ai (ar (v:=.bool _) rfl) rfl
    constructor
    ·rintro-w11 D11;rintro _ rfl;exact bj rfl rfl rfl
    constructor
    ·rintro-w12 D12;rintro _ rfl;exact bj rfl rfl rfl
    constructor
    ·rintro-w13 D13;rintro _ rfl _ rfl _ rfl;exact bj rfl rfl rfl
    constructor
    ·rintro-w14 D14;rintro _ rfl _ rfl;exact bj rfl rfl rfl
    constructor
    ·rintro-w15 D15;rintro _ rfl _ rfl;exact bj rfl rfl rfl
    constructor
    ·rintro-w16 D16;rintro _ rfl _ rfl;exact bj rfl rfl rfl
    constructor
    ·rintro-w17 D17;rintro _ rfl _ rfl;exact bj rfl rfl rfl
    constructor
    ·rintro-w18 D18;rintro _ rfl _ rfl;exact ai (a_ (v:=.bool _) rfl rfl) rfl
    constructor
    ·rintro-w19 D19;rintro _ rfl;exact ai (ar (v:=.bool _) rfl) rfl
    constructor
    ·rintro-w20 D20;rintro _ rfl;exact bj rfl rfl rfl
    constructor
    ·rintro-w21 D21;rintro _ rfl _ rfl;exact bj rfl rfl rfl
    constructor
    ·rintro-w22 D22;rintro _ rfl _ rfl;exact bj rfl rfl rfl
    constructor
    ·rintro-w23 D23;rintro _ rfl;exact bZ rfl rfl
    constructor
    ·rintro-w24 D24;rintro _ rfl;exact bZ rfl rfl
    constructor
    ·rintro-w25 D25;rintro _ rfl _ rfl;exact bZ rfl rfl
    constructor
    ·rintro-w26 D26;rintro _ rfl _ rfl _ rfl;exact bZ rfl rfl
    constructor
    ·rintro-w27 D27;rintro _ rfl _ rfl;exact bZ rfl rfl
    constructor
    ·rintro-w28 D28;rintro _ rfl _ rfl;exact bZ rfl rfl
    constructor
    ·rintro-w29 D29;rintro _ rfl;exact bZ rfl rfl
    constructor
    ·rintro-w30 D30;rintro _ rfl;exact bZ rfl rfl
    constructor
    ·rintro-w31 D31;rintro _ rfl _ rfl _ rfl;exact bZ rfl rfl
    constructor
    ·rintro-w32 D32;rintro _ rfl _ rfl;exact bZ rfl rfl
    constructor
    ·rintro-w33 D33;rintro _ rfl _ rfl;exact bZ rfl rfl
    constructor
    ·rintro-w34 D34;rintro _ rfl _ rfl _ rfl;exact bZ rfl rfl
    constructor
    ·rintro-w35 D35;rintro _ rfl _ rfl _ rfl;exact bj rfl rfl rfl
    constructor
    ·rintro-w36 D36;rintro _ rfl _ rfl;exact ai (a_ (v:=.bool _) rfl rfl) rfl
    exact trivial
   case hend=>
    intro w37 D37;rintro _ rfl _ rfl _ rfl _ rfl v15 rfl _ rfl _ rfl _ rfl _ rfl _ rfl _ rfl _ rfl _ rfl _ rfl _ rfl _ rfl _ rfl _ rfl _ rfl _ rfl _ rfl _ rfl _ rfl _ rfl _ rfl _ rfl _ rfl _ rfl _ rfl _ rfl _ rfl _ rfl _ rfl;show St ..;refine ah (ae (cA rfl (ag (aa (asi rfl (ah (ae (aA (bq (aF (aF (bq (aF (bE (v:=.int _ _) rfl rfl ?_))))))))))))))
    exact ⟨aM (by rw [yi (fun h=>by
     obtain ⟨x1,x2,x3⟩:=h i (by omega)
     first
      |omega
      |exact hnl (x3 (by omega)))]),(hB.next D37)⟩
  ·apply bI 33 [(11,eqp _),(12,eqp _),(13,eqp _),(14,eqp _),(15,eqp (.string (ds.getD i dd).1)),(16,eqp _),(17,eqp _),(18,eqp _),(19,eqp _),(20,eqp _),(21,eqp _),(22,eqp (.string (ds.getD i dd).1)),(23,eqp _),(24,eqp _),(25,eqp _),(26,eqp _),(27,eqp _),(28,eqp _),(29,eqp _),(30,eqp _),(31,eqp _),(32,eqp _),(33,eqp _),(34,eqp _),(35,eqp _),(36,eqp _),(37,eqp _),(38,eqp _),(39,eqp _),(40,eqp _),(41,eqp _),(42,eqp _),(43,eqp _)] (by repeat first | exact bW | refine bT ?_ | refine bG ?_) (by kernel_rfl) (by kernel_rfl) ⟨af _,af _,af _,af _,af _,af _,af _,af _,af _,af _,af _,af _,af _,af _,af _,af _,af _,af _,af _,af _,af _,af _,af _,af _,af _,af _,af _,af _,af _,af _,af _,af _,af _,trivial⟩
   case hop=>
    constructor
    ·rintro-w39 D39;exact ai (ar (v:=.slice _ _ _) rfl) rfl
    constructor
    ·rintro-w40 D40;exact ai (ar (v:=.int _ _) rfl) rfl
    constructor
    ·rintro-w41 D41;rintro _ rfl _ rfl;exact ai (aG aP rfl rfl (by omega)) rfl
    constructor
    ·rintro-w42 D42;rintro _ rfl;exact ai (ak aW rfl) rfl
    constructor
    ·rintro-w43 D43;rintro _ rfl;exact ai (aq (v:=.string (ds.getD i dd).1) aX rfl (bu (hB.next D43) (hce 0 _ rfl))) rfl
    constructor
    ·rintro-w44 D44;rintro v44_15 rfl;exact ai (cF (fP rfl rfl) (by rw [←Bool.not_eq_true,jB];omega)) rfl
    constructor
    ·rintro-w45 D45;rintro _ rfl;exact ai (ar (v:=.bool _) rfl) rfl
    constructor
    ·rintro-w46 D46;rintro _ rfl;exact aJ rfl (ar (v:=.slice _ _ _) rfl) rfl
    constructor
    ·rintro-w47 D47;rintro _ rfl;exact aJ rfl (ar (v:=.int _ _) rfl) rfl
    constructor
    ·rintro-w48 D48;rintro _ rfl _ rfl _ rfl;exact aJ rfl (aG aP rfl rfl (by omega)) rfl
    constructor
    ·rintro-w49 D49;rintro _ rfl _ rfl;exact aJ rfl (ak aW rfl) rfl
    constructor
    ·rintro-w50 D50;rintro _ rfl _ rfl;exact aJ rfl (aq (v:=.string (ds.getD i dd).1) aX rfl (bu (hB.next D50) (hce 0 _ rfl))) rfl
    constructor
    ·rintro-w51 D51;rintro _ rfl v51_22 rfl;exact aJ rfl (ck (by kernel_rfl) rfl) rfl
    constructor
    ·rintro-w52 D52;rintro _ rfl _ rfl;exact aJ rfl (gx (bX rfl rfl) (decide_eq_true (by omega))) rfl
    constructor
    ·rintro-w53 D53;rintro _ rfl _ rfl;exact ai (aR (v:=.bool _) rfl rfl) rfl
    constructor
    ·rintro-w54 D54;rintro _ rfl;exact ai (ar (v:=.bool _) rfl) rfl
    constructor
    ·rintro-w55 D55;rintro _ rfl;exact bj rfl rfl rfl
    constructor
    ·rintro-w56 D56;rintro _ rfl _ rfl;exact bj rfl rfl rfl
    constructor
    ·rintro-w57 D57;rintro _ rfl _ rfl;exact bj rfl rfl rfl
    constructor
    ·rintro-w58 D58;rintro _ rfl;exact bZ rfl rfl
    constructor
    ·rintro-w59 D59;rintro _ rfl;exact bZ rfl rfl
    constructor
    ·rintro-w60 D60;rintro _ rfl _ rfl;exact bZ rfl rfl
    constructor
    ·rintro-w61 D61;rintro _ rfl _ rfl _ rfl;exact bZ rfl rfl
    constructor
    ·rintro-w62 D62;rintro _ rfl _ rfl;exact bZ rfl rfl
    constructor
    ·rintro-w63 D63;rintro _ rfl _ rfl;exact bZ rfl rfl
    constructor
    ·rintro-w64 D64;rintro _ rfl;exact bZ rfl rfl
    constructor
    ·rintro-w65 D65;rintro _ rfl;exact bZ rfl rfl
    constructor
    ·rintro-w66 D66;rintro _ rfl _ rfl _ rfl;exact bZ rfl rfl
    constructor
    ·rintro-w67 D67;rintro _ rfl _ rfl;exact bZ rfl rfl
    constructor
    ·rintro-w68 D68;rintro _ rfl _ rfl;exact bZ rfl rfl
    constructor
    ·rintro-w69 D69;rintro _ rfl _ rfl _ rfl;exact bZ rfl rfl
    constructor
    ·rintro-w70 D70;rintro _ rfl _ rfl _ rfl;exact bj rfl rfl rfl
    constructor
    ·rintro-w71 D71;rintro _ rfl _ rfl;exact ai (a_ (v:=.bool _) rfl rfl) rfl
    exact trivial
   case hend=>
    intro w72 D72;rintro _ rfl _ rfl _ rfl _ rfl v15 rfl _ rfl _ rfl _ rfl _ rfl _ rfl _ rfl v22 rfl _ rfl _ rfl _ rfl _ rfl _ rfl _ rfl _ rfl _ rfl _ rfl _ rfl _ rfl _ rfl _ rfl _ rfl _ rfl _ rfl _ rfl _ rfl _ rfl _ rfl _ rfl;show St ..;refine ah (ae (cA rfl (ag (aa (asi rfl (ah (ae (aA (bq (aF (aF (bq (aF (bE (v:=.int _ _) rfl rfl ?_))))))))))))))
    exact ⟨aM (by rw [yi (fun h=>by
     obtain ⟨x1,x2,x3⟩:=h i (by omega)
     first
      |omega
      |exact hnl (x3 (by omega)))]),(hB.next D72)⟩
  ·apply bI 33 [(11,eqp _),(12,eqp _),(13,eqp _),(14,eqp _),(15,eqp (.string (ds.getD i dd).1)),(16,eqp _),(17,eqp _),(18,eqp _),(19,eqp _),(20,eqp _),(21,eqp _),(22,eqp (.string (ds.getD i dd).1)),(23,eqp _),(24,eqp _),(25,eqp _),(26,eqp _),(27,eqp _),(28,eqp _),(29,eqp _),(30,eqp _),(31,eqp _),(32,eqp _),(33,eqp _),(34,eqp _),(35,eqp _),(36,eqp _),(37,eqp _),(38,eqp _),(39,eqp _),(40,eqp _),(41,eqp _),(42,eqp _),(43,eqp _)] (by repeat first | exact bW | refine bT ?_ | refine bG ?_) (by kernel_rfl) (by kernel_rfl) ⟨af _,af _,af _,af _,af _,af _,af _,af _,af _,af _,af _,af _,af _,af _,af _,af _,af _,af _,af _,af _,af _,af _,af _,af _,af _,af _,af _,af _,af _,af _,af _,af _,af _,trivial⟩
   case hop=>
    constructor
    ·rintro-w74 D74;exact ai (ar (v:=.slice _ _ _) rfl) rfl
    constructor
    ·rintro-w75 D75;exact ai (ar (v:=.int _ _) rfl) rfl
    constructor
    ·rintro-w76 D76;rintro _ rfl _ rfl;exact ai (aG aP rfl rfl (by omega)) rfl
    constructor
    ·rintro-w77 D77;rintro _ rfl;exact ai (ak aW rfl) rfl
    constructor
    ·rintro-w78 D78;rintro _ rfl;exact ai (aq (v:=.string (ds.getD i dd).1) aX rfl (bu (hB.next D78) (hce 0 _ rfl))) rfl
    constructor
    ·rintro-w79 D79;rintro v79_15 rfl;exact ai (cF (fP rfl rfl) (by rw [←Bool.not_eq_true,jB];omega)) rfl
    constructor
    ·rintro-w80 D80;rintro _ rfl;exact ai (ar (v:=.bool _) rfl) rfl
    constructor
    ·rintro-w81 D81;rintro _ rfl;exact aJ rfl (ar (v:=.slice _ _ _) rfl) rfl
    constructor
    ·rintro-w82 D82;rintro _ rfl;exact aJ rfl (ar (v:=.int _ _) rfl) rfl
    constructor
    ·rintro-w83 D83;rintro _ rfl _ rfl _ rfl;exact aJ rfl (aG aP rfl rfl (by omega)) rfl
    constructor
    ·rintro-w84 D84;rintro _ rfl _ rfl;exact aJ rfl (ak aW rfl) rfl
    constructor
    ·rintro-w85 D85;rintro _ rfl _ rfl;exact aJ rfl (aq (v:=.string (ds.getD i dd).1) aX rfl (bu (hB.next D85) (hce 0 _ rfl))) rfl
    constructor
    ·rintro-w86 D86;rintro _ rfl v86_22 rfl;exact aJ rfl (ck (by kernel_rfl) rfl) rfl
    constructor
    ·rintro-w87 D87;rintro _ rfl _ rfl;exact aJ rfl (cF (bX rfl rfl) (decide_eq_false (by omega))) rfl
    constructor
    ·rintro-w88 D88;rintro _ rfl _ rfl;exact ai (aR (v:=.bool _) rfl rfl) rfl
    constructor
    ·rintro-w89 D89;rintro _ rfl;exact ai (ar (v:=.bool _) rfl) rfl
    constructor
    ·rintro-w90 D90;rintro _ rfl;exact aJ rfl (ar (v:=.int _ _) rfl) rfl
    constructor
    ·rintro-w91 D91;rintro _ rfl _ rfl;exact aJ rfl (cF (bX rfl rfl) (decide_eq_false (by omega))) rfl
    constructor
    ·rintro-w92 D92;rintro _ rfl _ rfl;exact aJ rfl (ar (v:=.bool _) rfl) rfl
    constructor
    ·rintro-w93 D93;rintro _ rfl;exact bj rfl rfl rfl
    constructor
    ·rintro-w94 D94;rintro _ rfl;exact bj rfl rfl rfl
    constructor
    ·rintro-w95 D95;rintro _ rfl _ rfl;exact bj rfl rfl rfl
    constructor
    ·rintro-w96 D96;rintro _ rfl _ rfl _ rfl;exact bj rfl rfl rfl
    constructor
    ·rintro-w97 D97;rintro _ rfl _ rfl;exact bj rfl rfl rfl
    constructor
    ·rintro-w98 D98;rintro _ rfl _ rfl;exact bj rfl rfl rfl
    constructor
    ·rintro-w99 D99;rintro _ rfl;exact bj rfl rfl rfl
    constructor
    ·rintro-w100 D100;rintro _ rfl;exact bj rfl rfl rfl
    constructor
    ·rintro-w101 D101;rintro _ rfl _ rfl _ rfl;exact bj rfl rfl rfl
    constructor
    ·rintro-w102 D102;rintro _ rfl _ rfl;exact bj rfl rfl rfl
    constructor
    ·rintro-w103 D103;rintro _ rfl _ rfl;exact bj rfl rfl rfl
    constructor
    ·rintro-w104 D104;rintro _ rfl _ rfl _ rfl;exact bj rfl rfl rfl
    constructor
    ·rintro-w105 D105;rintro _ rfl _ rfl _ rfl;exact aJ rfl (aR (v:=.bool _) rfl rfl) rfl
    constructor
    ·rintro-w106 D106;rintro _ rfl _ rfl;exact ai (aR (v:=.bool _) rfl rfl) rfl
    exact trivial
   case hend=>
    intro w107 D107;rintro _ rfl _ rfl _ rfl _ rfl v15 rfl _ rfl _ rfl _ rfl _ rfl _ rfl _ rfl v22 rfl _ rfl _ rfl _ rfl _ rfl _ rfl _ rfl _ rfl _ rfl _ rfl _ rfl _ rfl _ rfl _ rfl _ rfl _ rfl _ rfl _ rfl _ rfl _ rfl _ rfl _ rfl;show St ..;refine ah (ae (cm rfl (au (aL (ae (aa (mvi rfl (ab (aI (b:=1) rfl rfl (by omega)) (asi rfl (ah ?_))))))))));refine aO (i+1) ⟨(by first | rfl | (refine aM ?_;omega)),trivial⟩ (by (iterate 81 refine aB rfl ?_);exact aK) ⟨?_,?_⟩
    ·have hoi:okI ds i:=by first | exact ⟨by omega,by omega,fun h=>absurd h (by omega)⟩ | exact ⟨by omega,by omega,fun _=>hlt⟩
     exact ⟨by omega,fun x hx=>by
      rcases Nat.eq_or_lt_of_le (Nat.le_of_lt_succ hx) with e | e
      ·subst e;exact hoi
      ·exact hok x e,(hB.next D107)⟩
    ·show n-(i+1)<n-i;omega
  apply bI 33 [(11,eqp _),(12,eqp _),(13,eqp _),(14,eqp _),(15,eqp (.string (ds.getD i dd).1)),(16,eqp _),(17,eqp _),(18,eqp _),(19,eqp _),(20,eqp _),(21,eqp _),(22,eqp (.string (ds.getD i dd).1)),(23,eqp _),(24,eqp _),(25,eqp _),(26,eqp _),(27,eqp _),(28,eqp _),(29,eqp _),(30,eqp _),(31,eqp _),(32,eqp _),(33,eqp _),(34,eqp _),(35,eqp (.string (ds.getD (i-1) dd).1)),(36,eqp _),(37,eqp _),(38,eqp _),(39,eqp _),(40,eqp (.string (ds.getD i dd).1)),(41,eqp _),(42,eqp _),(43,eqp _)] (by repeat first | exact bW | refine bT ?_ | refine bG ?_) (by kernel_rfl) (by kernel_rfl) ⟨af _,af _,af _,af _,af _,af _,af _,af _,af _,af _,af _,af _,af _,af _,af _,af _,af _,af _,af _,af _,af _,af _,af _,af _,af _,af _,af _,af _,af _,af _,af _,af _,af _,trivial⟩
  case hop=>
   constructor
   ·rintro-w109 D109;exact ai (ar (v:=.slice _ _ _) rfl) rfl
   constructor
   ·rintro-w110 D110;exact ai (ar (v:=.int _ _) rfl) rfl
   constructor
   ·rintro-w111 D111;rintro _ rfl _ rfl;exact ai (aG aP rfl rfl (by omega)) rfl
   constructor
   ·rintro-w112 D112;rintro _ rfl;exact ai (ak aW rfl) rfl
   constructor
   ·rintro-w113 D113;rintro _ rfl;exact ai (aq (v:=.string (ds.getD i dd).1) aX rfl (bu (hB.next D113) (hce 0 _ rfl))) rfl
   constructor
   ·rintro-w114 D114;rintro v114_15 rfl;exact ai (cF (fP rfl rfl) (by rw [←Bool.not_eq_true,jB];omega)) rfl
   constructor
   ·rintro-w115 D115;rintro _ rfl;exact ai (ar (v:=.bool _) rfl) rfl
   constructor
   ·rintro-w116 D116;rintro _ rfl;exact aJ rfl (ar (v:=.slice _ _ _) rfl) rfl
   constructor
   ·rintro-w117 D117;rintro _ rfl;exact aJ rfl (ar (v:=.int _ _) rfl) rfl
   constructor
   ·rintro-w118 D118;rintro _ rfl _ rfl _ rfl;exact aJ rfl (aG aP rfl rfl (by omega)) rfl
   constructor
   ·rintro-w119 D119;rintro _ rfl _ rfl;exact aJ rfl (ak aW rfl) rfl
   constructor
   ·rintro-w120 D120;rintro _ rfl _ rfl;exact aJ rfl (aq (v:=.string (ds.getD i dd).1) aX rfl (bu (hB.next D120) (hce 0 _ rfl))) rfl
   constructor
   ·rintro-w121 D121;rintro _ rfl v121_22 rfl;exact aJ rfl (ck (by kernel_rfl) rfl) rfl
   constructor
   ·rintro-w122 D122;rintro _ rfl _ rfl;exact aJ rfl (cF (bX rfl rfl) (decide_eq_false (by omega))) rfl
   constructor
   ·rintro-w123 D123;rintro _ rfl _ rfl;exact ai (aR (v:=.bool _) rfl rfl) rfl
   constructor
   ·rintro-w124 D124;rintro _ rfl;exact ai (ar (v:=.bool _) rfl) rfl
   constructor
   ·rintro-w125 D125;rintro _ rfl;exact aJ rfl (ar (v:=.int _ _) rfl) rfl
   constructor
   ·rintro-w126 D126;rintro _ rfl _ rfl;exact aJ rfl (gx (bX rfl rfl) (decide_eq_true (by omega))) rfl
   constructor
   ·rintro-w127 D127;rintro _ rfl _ rfl;exact aJ rfl (ar (v:=.bool _) rfl) rfl
   constructor
   ·rintro-w128 D128;rintro _ rfl;exact aJ rfl (ar (v:=.slice _ _ _) rfl) rfl
   constructor
   ·rintro-w129 D129;rintro _ rfl;exact aJ rfl (ar (v:=.int _ _) rfl) rfl
   constructor
   ·rintro-w130 D130;rintro _ rfl _ rfl;exact aJ rfl (cg (b:=1) rfl rfl (by omega)) rfl
   constructor
   ·rintro-w131 D131;rintro _ rfl _ rfl _ rfl;exact aJ rfl (aG aP rfl rfl (by omega)) rfl
   constructor
   ·rintro-w132 D132;rintro _ rfl _ rfl;exact aJ rfl (ak aW rfl) rfl
   constructor
   ·rintro-w133 D133;rintro _ rfl _ rfl;exact aJ rfl (aq (v:=.string (ds.getD (i-1) dd).1) aX rfl (bu (hB.next D133) (hcp (by omega) 0 _ rfl))) rfl
   constructor
   ·rintro-w134 D134;rintro _ rfl;exact aJ rfl (ar (v:=.slice _ _ _) rfl) rfl
   constructor
   ·rintro-w135 D135;rintro _ rfl;exact aJ rfl (ar (v:=.int _ _) rfl) rfl
   constructor
   ·rintro-w136 D136;rintro _ rfl _ rfl _ rfl;exact aJ rfl (aG aP rfl rfl (by omega)) rfl
   constructor
   ·rintro-w137 D137;rintro _ rfl _ rfl;exact aJ rfl (ak aW rfl) rfl
   constructor
   ·rintro-w138 D138;rintro _ rfl _ rfl;exact aJ rfl (aq (v:=.string (ds.getD i dd).1) aX rfl (bu (hB.next D138) (hce 0 _ rfl))) rfl
   constructor
   ·rintro-w139 D139;rintro _ rfl v139_35 rfl v139_40 rfl;exact aJ rfl (vw rfl rfl) rfl
   constructor
   ·rintro-w140 D140;rintro _ rfl _ rfl _ rfl;exact aJ rfl (a_ (v:=.bool _) rfl rfl) rfl
   constructor
   ·rintro-w141 D141;rintro _ rfl _ rfl;exact ai (aR (v:=.bool _) rfl rfl) rfl
   exact trivial
  case hend=>
   intro w142 D142;rintro _ rfl _ rfl _ rfl _ rfl v15 rfl _ rfl _ rfl _ rfl _ rfl _ rfl _ rfl v22 rfl _ rfl _ rfl _ rfl _ rfl _ rfl _ rfl _ rfl _ rfl _ rfl _ rfl _ rfl _ rfl v35 rfl _ rfl _ rfl _ rfl _ rfl v40 rfl _ rfl _ rfl _ rfl;show St ..;refine ah (ae (Ma rfl (fun Q143=>?_) (fun Q143=>?_)))
   ·have hnl:¬ sLt (ds.getD (i-1) dd).1 (ds.getD i dd).1:=fun h=>by
     have h9:=(jv _ _).2 h
     simp_all
    refine ag (aa (asi rfl (ah (ae (aA (bq (aF (aF (bq (aF (bE (v:=.int _ _) rfl rfl ?_)))))))))))
    exact ⟨aM (by rw [yi (fun h=>by
     obtain ⟨x1,x2,x3⟩:=h i (by omega)
     first
      |omega
      |exact hnl (x3 (by omega)))]),(hB.next D142)⟩
   have hlt:sLt (ds.getD (i-1) dd).1 (ds.getD i dd).1:=(jv _ _).1 (by simpa using Q143);refine au (aL (ae (aa (mvi rfl (ab (aI (b:=1) rfl rfl (by omega)) (asi rfl (ah ?_)))))));refine aO (i+1) ⟨(by first | rfl | (refine aM ?_;omega)),trivial⟩ (by (iterate 81 refine aB rfl ?_);exact aK) ⟨?_,?_⟩
   ·have hoi:okI ds i:=by first | exact ⟨by omega,by omega,fun h=>absurd h (by omega)⟩ | exact ⟨by omega,by omega,fun _=>hlt⟩
    exact ⟨by omega,fun x hx=>by
     rcases Nat.eq_or_lt_of_le (Nat.le_of_lt_succ hx) with e | e
     ·subst e;exact hoi
     ·exact hok x e,(hB.next D142)⟩
   ·show n-(i+1)<n-i;omega
 have hord:jb ds:=fun x hx=>hok x (by omega)
 refine aZ (aC (aC (aT (ae (ag (ag (aa (mvs rfl (ab (aU bx rfl) (ab (bX rfl rfl) (ah (ae (K8 rfl (fun Q144=>?_) (fun Q144=>?_))))))))))))))
 ·refine ag (aa (asi rfl (ah (ae (aA (aF (bE (v:=.int _ _) rfl rfl (⟨aM (by rw [yh hord (fun h=>by have:=h.1;omega)]),hB⟩))))))))
 refine au (ae (ag (ag (aa (asi rfl (ah (ae (az (bg (G:=Nat) [2,47,48,49,50,51,52,53,54,55,56,57,58,59] (fun i=>[(4,.int .i64 (i:Nat))]) (fun i w'=>i≤n∧(∀ x,x<i→(ds.getD x dd).2.size≤2048)∧aj w w') (fun i=>n-i) (0) ⟨rfl,trivial⟩ ?_ ?_)))))))))
 ·exact ⟨Nat.zero_le _,fun x h=>absurd h (by omega),hB⟩
 rintro i ρ145 w145 ⟨hi,hok2,hB⟩;refine ag (ag (aa (mvi rfl (mvs rfl (ab (aU bx rfl) (ab (aY rfl rfl) (ah (ae (K8 rfl (fun Q146=>?_) (fun Q146=>?_))))))))))
 ·obtain ⟨bd,od,rfl,hcd⟩:=hr (by omega);have hil:i<ds.length:=by omega
  have hce:=hcd i hil;rw [←bO hil] at hce;refine au (ae (ag (az (ag (aa (mvs rfl (mvi rfl (ab (aG aP rfl rfl (by omega)) (ab (ak bR rfl) (ab (aq aX rfl (by exact bu hB (hce 1 _ rfl))) ?_))))))))));refine ab (ck (by kernel_rfl) rfl) (ab (bX rfl rfl) (ah (ae (K8 rfl (fun Q147=>?_) (fun Q147=>?_)))))
  ·refine ag (aa (asi rfl (ah (ae (aA (bq (aF (aF (bq (aF (bE (v:=.int _ _) rfl rfl ?_)))))))))));exact ⟨aM (by rw [yh hord (fun h=>by have:=h.2.1 (ds.getD i dd) (by rw [bO (show i<ds.length by omega)];exact List.getElem_mem _);omega)]),hB⟩
  refine au (aL (ae (aa (mvi rfl (ab (aI (b:=1) rfl rfl (by omega)) (asi rfl (ah ?_)))))));refine aO (i+1) ⟨(by first | rfl | (refine aM ?_;omega)),trivial⟩ (by (iterate 29 refine aB rfl ?_);exact aK) ⟨?_,?_⟩
  ·exact ⟨by omega,fun x hx=>by
    rcases Nat.eq_or_lt_of_le (Nat.le_of_lt_succ hx) with e | e
    ·subst e;omega
    ·exact hok2 x e,hB⟩
  ·show n-(i+1)<n-i;omega
 have hall:∀ d∈ds,d.2.size≤2048:=fun d hd=>by
  obtain ⟨x,hx,rfl⟩:=List.getElem_of_mem hd;have:=hok2 x (by omega)
  rwa [bO hx] at this
 have hdm:=FY hall;refine aZ (aC (aC (aT (ae (ag (ag (aa (mvs rfl (ax oY (oh A c n ds _ (hr.from_ hB) hn hl (by omega)) ?_)))))))));rintro v61 w148 ⟨rfl,E61⟩;refine ab (bX rfl rfl) (ah (ae (K8 rfl (fun Q149=>?_) (fun Q149=>?_))))
 ·refine ag (aa (asi rfl (ah (ae (aA (aF (bE (v:=.int _ _) rfl rfl (⟨aM (by rw [yh hord (fun h=>by have:=h.2.2;omega)]),(hB.next E61)⟩))))))))
 refine au (ae (ag (aa (asi rfl (ah (ae (aA (bE (v:=.int _ _) rfl rfl (⟨aM (by rw [F1 hord ⟨by omega,hall,by omega⟩]),(hB.next E61)⟩)))))))))
def gM (p:ByteArray) (limit:Int):Int:=if p.size=0 then 5 else if 4096<p.size∨limit<1∨1000<limit then 2 else 0
theorem zn (p:ByteArray) (limit:Int) (w:World) :
 Rt prog 49 [.string p,.int .i64 limit] w (fun v w'=>v=.int .i64 (gM p limit)∧aj w w'):=by
 refine enter (n:=18) Tryz.func49 rfl rfl rfl (ag (aa (asi rfl (ah (ae (ag (ag (aa (mvg rfl (ab (fP rfl rfl) (ah (ae (Mb rfl (fun Q1=>?_) (fun Q1=>?_))))))))))))))
 ·have hp0:p.size=0:=jB.1 (by simpa using Q1);refine ag (aa (asi rfl (ah (ae (aA (aF (bE (v:=.int _ _) rfl rfl (⟨aM (by unfold gM;rw [if_pos hp0]),aj.rfl_⟩))))))))
 have hp0:p.size≠0:=fun h9=>by have:=jB.2 h9;simp_all
 refine au (ae (ag (ag (aa (mvg rfl (ab (ck (by kernel_rfl) rfl) (ab (bX rfl rfl) (mvb rfl (KB (t:=10) rfl (fun Q2=>?_) (fun Q2=>?_))))))))))
 ·refine aD rfl rfl (aD rfl rfl (ab (a_ (v:=.bool _) rfl rfl) (mvb rfl (aD rfl rfl (aD rfl rfl (ab (a_ (v:=.bool _) rfl rfl) (ah (ae (cA rfl ?_)))))))));refine ag (aa (asi rfl (ah (ae (aA (aF (bE (v:=.int _ _) rfl rfl ?_)))))));exact ⟨aM (by unfold gM;rw [if_neg hp0,if_pos (by omega)]),aj.rfl_⟩
 refine al rfl (mvi rfl (al rfl (ab (aY rfl rfl) (ab (aR (v:=.bool _) rfl rfl) (mvb rfl (KB (t:=14) rfl (fun Q3=>?_) (fun Q3=>?_)))))))
 ·refine aD rfl rfl (aD rfl rfl (ab (a_ (v:=.bool _) rfl rfl) (ah (ae (cA rfl (ag (aa (asi rfl (ah (ae (aA (aF (bE (v:=.int _ _) rfl rfl ?_)))))))))))));exact ⟨aM (by unfold gM;rw [if_neg hp0,if_pos (by omega)]),aj.rfl_⟩
 refine al rfl (mvi rfl (al rfl (ab (bX rfl rfl) (ab (aR (v:=.bool _) rfl rfl) (ah (ae (K8 rfl (fun Q4=>?_) (fun Q4=>?_))))))))
 ·refine ag (aa (asi rfl (ah (ae (aA (aF (bE (v:=.int _ _) rfl rfl ?_)))))));exact ⟨aM (by unfold gM;rw [if_neg hp0,if_pos (by omega)]),aj.rfl_⟩
 refine au (ae (ag (aa (asi rfl (ah (ae (aA (bE (v:=.int _ _) rfl rfl ?_))))))));exact ⟨aM (by unfold gM;rw [if_neg hp0,if_neg (by omega)]),aj.rfl_⟩
theorem zm (A:Option Addr) (c n:Nat) (ds:List Dc) (w:World) (hr:cN 2 dV w A ds) (hn:n=ds.length) (hl:n≤100000000) (p:ByteArray) (hp0:p.size≠0) (hp:p.size≤140737488351232) (hz:dsz ds≤100000000) :
 Rt prog 50 [.slice A n c,.string p] w (fun v w'=>(∃ A' c',v=.slice A' (dg ds p).length c'∧w'.ownsRow w.heap.size 57 2 (.slice A' (dg ds p).length c') (dg ds p).length ((dg ds p).flatMap hV))∧aj w w'):=by
 refine enter (n:=51) Tryz.func50 rfl rfl rfl (ag (aa (ass rfl (ah (ae (ag (aa (ass rfl (ah (ae (ag (ag (aa (asi rfl (ah (ae (az (bg (G:=Nat×Option Addr×Nat) [7,8,9,10,11,12,13,14,15,16,17,18,19,20,21,22,23,24,25,26,27,28,29,30,31,32,33,34,35,36,37,38,39,40,41,42,43,44,45,46,47,48,49] (fun (i,A5,c5)=>[(6,.int .i64 (i:Nat)),(5,.slice A5 (dg (ds.take i) p).length c5)]) (fun (i,A5,c5) w'=>i≤n∧w'.ownsRow w.heap.size 57 2 (.slice A5 (dg (ds.take i) p).length c5) (dg (ds.take i) p).length ((dg (ds.take i) p).flatMap hV)∧aj w w') (fun (i,_,_)=>n-i) ((0,none,0)) ⟨rfl,rfl,trivial⟩ ?_ ?_))))))))))))))))))
 ·exact ⟨Nat.zero_le _,World.ownsRow_nil _ _ _ _,aj.rfl_⟩
 rintro ⟨i,A5,c5⟩ ρ1 w1 ⟨hi,ho,hB⟩;refine ag (ag (aa (mvi rfl (mvs rfl (ab (aU bx rfl) (ab (aY rfl rfl) (ah (ae (K8 rfl (fun Q2=>?_) (fun Q2=>?_))))))))))
 ·obtain ⟨bd,od,rfl,hcd⟩:=hr (by omega);have hil:i<ds.length:=by omega
  have hce:=hcd i hil;rw [←bO hil] at hce;have hdm:=BP (show ds.getD i dd∈ds by rw [bO hil];exact List.getElem_mem hil);have hnb:=rR (p:=p) (ds.take i);have hnz:=tj (ds:=ds) i;have hnt:=List.length_take_le i ds;refine au (ae (ag (az (ag (aa (asi rfl (ah (ae (az ?_)))))))));refine bg (G:=Nat×Option Addr×Nat) [14,15,16,17,18,19,20,21,22,23,24,25,26,27,28,29,30,31,32,33,34,35,36,37,38,39,40,41,42,43,44,45,46,47,48,49] (fun (k,A5,c5)=>[(7,.int .i64 (k:Nat)),(5,.slice A5 ((dg (ds.take i) p)++(gj (txt (ds.getD i dd).2) (txt p) k).map fun k=>((ds.getD i dd).1,((k:Nat):Int))).length c5)]) (fun (k,A5,c5) w'=>k≤(ds.getD i dd).2.size+1∧(k=0∨k+p.size≤(ds.getD i dd).2.size+1)∧w'.ownsRow w.heap.size 57 2 (.slice A5 ((dg (ds.take i) p)++(gj (txt (ds.getD i dd).2) (txt p) k).map fun k=>((ds.getD i dd).1,((k:Nat):Int))).length c5) ((dg (ds.take i) p)++(gj (txt (ds.getD i dd).2) (txt p) k).map fun k=>((ds.getD i dd).1,((k:Nat):Int))).length (((dg (ds.take i) p)++(gj (txt (ds.getD i dd).2) (txt p) k).map fun k=>((ds.getD i dd).1,((k:Nat):Int))).flatMap hV)∧aj w w') (fun (k,_,_)=>(ds.getD i dd).2.size+1-k) ((0,A5,c5)) ⟨rfl,(by rw [show gj (txt (ds.getD i dd).2) (txt p) 0=[] from rfl,List.map_nil,List.append_nil];rfl),trivial⟩ ?_ ?_
  ·exact ⟨Nat.zero_le _,.inl rfl,by rw [show gj (txt (ds.getD i dd).2) (txt p) 0=[] from rfl,List.map_nil,List.append_nil];exact ho.kept_from aj.rfl_,hB⟩
  rintro ⟨k,A5,c5⟩ ρ3 w3 ⟨hk,hk2,ho,hB⟩;have hkb:=pF (t:=txt (ds.getD i dd).2) (q:=txt p) (k:=k);refine ag (ag (aa (mvi rfl (mvs rfl (mvi rfl (ab (aG aP rfl rfl (by omega)) (ab (ak bR rfl) (ab (aq aX rfl (by exact bu hB (hce 1 _ rfl))) ?_))))))));refine ab (ck (by kernel_rfl) rfl) (mvg rfl (ab (ck (by kernel_rfl) rfl) (ab (et rfl rfl (by omega)) (ab (mP rfl rfl) (ah (ae (K8 rfl (fun Q4=>?_) (fun Q4=>?_))))))))
  ·refine au (ae (eY (G:=Option Addr×Nat) [27,28,29,30,31,32,33,34,35,36,37,38,39,40,41,42,43,44,45,46,47,48,49] (fun (A9,c9)=>[(5,.slice A9 ((dg (ds.take i) p)++(gj (txt (ds.getD i dd).2) (txt p) (k+1)).map fun k=>((ds.getD i dd).1,((k:Nat):Int))).length c9)]) (fun (A9,c9) w'=>w'.ownsRow w.heap.size 57 2 (.slice A9 ((dg (ds.take i) p)++(gj (txt (ds.getD i dd).2) (txt p) (k+1)).map fun k=>((ds.getD i dd).1,((k:Nat):Int))).length c9) ((dg (ds.take i) p)++(gj (txt (ds.getD i dd).2) (txt p) (k+1)).map fun k=>((ds.getD i dd).1,((k:Nat):Int))).length (((dg (ds.take i) p)++(gj (txt (ds.getD i dd).2) (txt p) (k+1)).map fun k=>((ds.getD i dd).1,((k:Nat):Int))).flatMap hV)∧aj w w') ?_ ?_))
   ·refine az (ag (aa (mvs rfl (mvi rfl (ab (aG aP rfl rfl (by omega)) (ab (ak bR rfl) (ab (aq aX rfl (by exact bu hB (hce 1 _ rfl))) ?_)))))));refine mvi rfl (mvi rfl (mvg rfl (ab (ck (by kernel_rfl) rfl) (ab (aI rfl rfl (by omega)) (ab (rM (l:=k) (h:=k+p.size) (by kernel_rfl) rfl (.inr ⟨_,_,_,rfl,rfl,rfl⟩) (.inr ⟨_,_,_,rfl,rfl,rfl⟩) (by omega) (by omega)) (mvg rfl (ab (fP rfl rfl) (ah (ae ?_)))))))));refine Mb rfl (fun Q5=>?_) (fun Q5=>?_)
    ·have hpre:(txt p).isPrefixOf ((txt (ds.getD i dd).2).drop k)=true:=by rw [←l8];exact beq_iff_eq.2 Q5
     have hks:=pD hpre;refine aa (mvs rfl (mvs rfl (mvi rfl (ab (aG aP rfl rfl (by omega)) (ab (ak aW rfl) (ab (aq aX rfl (by exact bu hB (hce 0 _ rfl))) ?_))))));refine mvi rfl (ab (cS (l:=[(0,.tmp 45),(1,.tmp 46)]) (ua _ _)) (fA en rfl rfl rfl ?_));intro b48 w6 E48 hb48 hk48;refine cR en rfl (by decide) rfl (A:=A5) (xs:=((dg (ds.take i) p)++(gj (txt (ds.getD i dd).2) (txt p) k).map fun k=>((ds.getD i dd).1,((k:Nat):Int))).flatMap hV) (news:=hV ((ds.getD i dd).1,((k:Nat):Int))) (ho.kept_from (aj.rfl_.next E48)) ((hB.next E48).size) rfl rfl (fun _=>⟨b48,0,rfl,hk48.whole⟩) (fun h=>by cases h) (by simp [hV,Value.oneCell']) (by simp only [List.length_append,List.length_map];omega) (by simp only [List.length_append,List.length_map];omega) ?_;intro A49 c49 w7 ho49 hg49;have HF49:=((hB.next E48)).grew hg49 (fun k hk=>(bM (ho.kept_from (aj.rfl_.next E48)) k hk).1);refine ass rfl (ah (aL ?_));refine aO ((A49,c49)) ⟨(by rw [hks];simp only [List.length_append,List.length_map,List.length_cons,List.length_nil,Nat.add_assoc];rfl),trivial⟩ (by (iterate 24 refine aB rfl ?_);exact aK) ?_;exact ⟨by rw [hks,List.map_append,←List.append_assoc,List.flatMap_append,List.length_append];exact ho49.kept_from aj.rfl_,HF49⟩
    have hpre:(txt p).isPrefixOf ((txt (ds.getD i dd).2).drop k)=false:=by rw [←l8];exact beq_eq_false_iff_ne.2 Q5
    have hks:=pE hpre;refine au (aL ?_);refine aO ((A5,c5)) ⟨(by rw [hks];rfl),trivial⟩ (by (iterate 13 refine aB rfl ?_);exact aK) ?_;exact ⟨by rw [hks];exact ho.kept_from aj.rfl_,hB⟩
   rintro ⟨A9,c9⟩ ρ8 w8 ⟨ho9,hB⟩;refine aa (mvi rfl (ab (aI (b:=1) rfl rfl (by omega)) (asi rfl (ah ?_))));refine aO ((k+1,A9,c9)) ⟨(by first | rfl | (refine aM ?_;omega)),(by first | rfl | (refine aM ?_;omega)),trivial⟩ (by (iterate 76 refine aB rfl ?_);exact aK) ⟨?_,?_⟩
   ·exact ⟨by omega,by omega,ho9.kept_from aj.rfl_,hB⟩
   ·show (ds.getD i dd).2.size+1-(k+1)<(ds.getD i dd).2.size+1-k;omega
  have hnx:dg (ds.take (i+1)) p=((dg (ds.take i) p)++(gj (txt (ds.getD i dd).2) (txt p) k).map fun k=>((ds.getD i dd).1,((k:Nat):Int))):=by
   rw [List.take_succ_eq_append_getElem hil,jE,←bO hil,dg,dg,List.append_nil,BA (r4 hp0) (k:=k) (by rw [dr,dr];omega) (by rw [dr];omega)]
  refine aZ (aC (aC (aT (aL (ae (aa (mvi rfl (ab (aI (b:=1) rfl rfl (by omega)) (asi rfl (ah ?_))))))))));refine aO ((i+1,A5,c5)) ⟨rfl,(by rw [hnx];rfl),trivial⟩ (by (iterate 102 refine aB rfl ?_);exact aK) ⟨?_,?_⟩
  ·exact ⟨by omega,by rw [hnx];exact ho.kept_from aj.rfl_,hB⟩
  ·show n-(i+1)<n-i;omega
 refine aZ (aC (aC (aT (ae (ag (aa (mvs rfl (ass rfl (ah (ae (aA (bE (v:=.slice _ _ _) rfl rfl ?_))))))))))));obtain rfl:i=n:=by omega
 rw [hn,List.take_length] at ho;rw [hn,List.take_length];exact ⟨⟨A5,c5,rfl,ho⟩,hB⟩
end Go.Proofs.YtcbakncjacnnjaaGreat
