/- texts that the claim stands on. -/
import Derived.Test.YtcbakncjacnnjaaGreatSlShLawT5
import Derived.Sort.Grow
import Derived.Shelf.SlSortCmp.NoneTotal
import Derived.Shelf.SlSortCmp.WholeK
set_option maxRecDepth 100000
set_option maxHeartbeats 4000000
namespace Go.Proofs.YtcbakncjacnnjaaGreat
open Go.Proofs.Tryz (prog)
open Go.RowKit
open Go.ChangeShapes Go.WideShapes Go.ChangeAt
open Go.Proofs.YtcbakncjacnnjaaGreat.SA
theorem nw:fp prog 64=some false:=by kernel_rfl
theorem jo:cG prog 66 1=some 1:=by kernel_rfl
theorem r9:az prog 69=true:=by kernel_rfl
theorem lu:cG prog 66 0=some 0:=by kernel_rfl
theorem nx:fp prog 58=some false:=by kernel_rfl
theorem yC:az prog 96=true:=by kernel_rfl
theorem nv:az prog 74=true:=by kernel_rfl
theorem ke:fp prog 108=some false:=by kernel_rfl
theorem ly:cG prog 57 0=some 0:=by kernel_rfl
theorem uS:az prog 73=true:=by kernel_rfl
theorem uT:az prog 77=true:=by kernel_rfl
theorem yF:az prog 72=true:=by kernel_rfl
theorem yG:az prog 71=true:=by kernel_rfl
theorem yE:az prog 75=true:=by kernel_rfl
theorem yD:az prog 76=true:=by kernel_rfl
structure PtIn (w:World) (p:Pt):Prop where
 row:bA Value.string w p.A p.gone
 len:p.gone.length≤100000000
 so:SO p.gone
 seg:jT w p.lo p.hi p.s p.ds
theorem PtIn.from_ {w w':World} {p:Pt} (h:PtIn w p) (hF:aj w w'):PtIn w' p:=⟨h.row.from_ hF,h.len,h.so,h.seg.from_ hF⟩
structure ml (w:World) (g o:Nat) (p:Pt):Prop extends PtIn w p where
 ptr:w.cell? ⟨g,o,none⟩=some (.pointer (some ⟨p.s,0,none⟩))
 sl:w.cell? ⟨g,o+1,none⟩=some (.slice p.A p.gone.length p.c)
theorem ml.from_ {w w':World} {g o:Nat} {p:Pt} (h:ml w g o p) (hF:aj w w'):ml w' g o p:=⟨h.toPtIn.from_ hF,bx hF h.ptr,bx hF h.sl⟩
theorem ml.box {w:World} {b t:Nat} {p:Pt} (h:PtIn w p) (hk:Blk w b t (ptV p).toArray):ml w b 0 p:=⟨h,hk.rd 0 rfl,hk.rd 1 rfl⟩
theorem qR {w:World} {base e n c:Nat} {A:Option Addr} {ss:List ByteArray} (h:w.ownsRow base e 1 (.slice A n c) n (ss.map Value.string)):bA Value.string w A ss:=(bA.own h).2
theorem ShH.ptIn {w:World} {ps:List Pt} {L D:List Dc} {s cp cl:Nat} {Ap Al:Option Addr} (h:ShH w ps L s Ap cp Al cl) (hG:ShG ps L D) {p:Pt} (hp:p∈ps):PtIn w p:=by
 have h2:=(hG.part _ hp).2.1;have h3:=(h.seg _ hp).at.docs.2.1;exact ⟨qR (h.gone _ hp),by omega,(hG.part _ hp).1,h.seg _ hp⟩
theorem qZ {w:World} {base m c g:Nat} {ps:List Pt} (h:w.ownsRow base 66 2 (.slice (some ⟨g,0,none⟩) m c) m (ps.flatMap ptV)) (hP:∀ p∈ps,PtIn w p) {i:Nat} (hi:i<ps.length):ml w g (0+i*2) ps[i]:=by
 obtain ⟨hl,hr⟩:=dg.own j7 (by decide) h;obtain ⟨b,o,e,hc⟩:=hr (by omega);cases e;have h1:=hc i hi;exact ⟨hP _ (List.getElem_mem hi),h1 0 _ rfl,h1 1 _ rfl⟩
def x6 (p:Pt) (id:ByteArray):Prop:=∃ d∈p.live,d.1=id
theorem kP (A:Option Addr) (c n:Nat) (ds:List Dc) (w:World) (hr:dg 2 dV w A ds) (hn:n=ds.length) (hl:n≤100000000) (hz:dsz ds≤1000000000000) :
 Rt prog 51 [.slice A n c] w (fun v w'=>v=.int .i64 (dsz ds:Nat)∧aj w w'):=by
 refine enter (n:=19) Tryz.func51 rfl rfl rfl (af (aa (asi rfl (ah (ab (af (aa (asi rfl (ah (ab (af (af (aa (mvs rfl (ae (aQ bG rfl) (mvi rfl ?_))))))))))))))));refine ah (ab (aw (a_ (G:=Nat) [5,9,10,11,12,13,14,15,16,17] (fun i=>[(3,.int .i64 (dsz (ds.take i):Nat)),(8,.int .i64 (i:Nat))]) (fun i w'=>i≤ds.length∧aj w w') (fun i=>ds.length-i) (0) ⟨rfl,rfl,trivial⟩ ?_ ?_)))
 ·exact ⟨Nat.zero_le _,aj.rfl_⟩
 rintro i ρ1 w1 ⟨hi,hB⟩;refine af (aa (ae (aW rfl rfl) (ah (ab (af (JV rfl (fun Q2=>?_) (fun Q2=>?_)))))))
 ·obtain ⟨bd,od,rfl,hcd⟩:=hr (by omega);have hil:i<ds.length:=by omega
  have hce:=hcd i hil;obtain ⟨d,hd⟩:∃ d,ds[i]=d:=⟨_,rfl⟩;have hdi:ds.getD i dd=d:=by rw [bZ hil,hd]
  rw [hd] at hce;have hdz:=jO hil;rw [hdi] at hdz;have hdz2:=ye (ds:=ds) (i+1);refine av (ab (af (aw (af (aa (ae (aM aT rfl rfl (by omega)) (ae (bn (cs:=[_,_]) bK bh rfl (by exact du hB hce)) ?_)))))));refine dI jB ?_;intro b5 w3 E5 hb5 hk5;have hg5:w.heap.size≤b5:=by rw [hb5];exact (hB).size
  refine fR (vs:=[_,_]) bh rfl rfl (by simp [Value.oneCell']) (hk5) rfl ?_;intro w4 O4 P4;refine ah (ab (aa (mvi rfl (ae (ak df rfl) (ae (an bC rfl (by exact (P4.from_ aj.rfl_).rd 1 rfl)) ?_)))));refine ae (dR (by kernel_rfl) rfl) (ae (aG rfl rfl (by omega)) (asi rfl (ah (aI (ab (aa (ae (aG (b:=1) rfl rfl (by omega)) (mvi rfl (ah ?_)))))))));refine aO (i+1) ⟨(aK (by rw [jO hil,hdi])),rfl,trivial⟩ (by (iterate 24 refine aB rfl ?_);exact aJ) ⟨?_,?_⟩
  ·exact ⟨by omega,((hB.next E5).only O4 (hg5))⟩
  ·show ds.length-(i+1)<ds.length-i;omega
 refine bc (aC (aC (aS (ab (af (aa (mvi rfl (asi rfl (ah (ab (ay (bE (v:=.int _ _) rfl rfl ?_))))))))))));obtain rfl:i=ds.length:=by omega
 rw [List.take_length];exact ⟨rfl,hB⟩
theorem qB (id:ByteArray) (w:World) (hs:id.size≤140737488351232) :
 Rt prog 34 [.string id] w (fun v w'=>v=.bool (decide (1≤id.size∧id.size≤64))∧aj w w'):=by
 refine enter (n:=11) Tryz.func34 rfl rfl rfl (af (aa (asb rfl (ah (ab (af (aa (mvg rfl (ae (dR (by kernel_rfl) rfl) (ae (eA rfl rfl) (mvb rfl (Jk (t:=6) rfl (fun Q1=>?_) (fun Q1=>?_)))))))))))))
 ·refine ao rfl (mvg rfl (ao rfl (ae (dR (by kernel_rfl) rfl) (ao rfl (ae (qU rfl rfl) (ae (bB (v:=.bool _) rfl rfl) (asb rfl (ah (ab (ay ?_))))))))));refine bE (v:=.bool _) rfl rfl (⟨congrArg Value.bool ?_,aj.rfl_⟩)
  first
   |(rw [Bool.eq_iff_iff];simp;omega)
   |(symm;rw [decide_eq_false_iff_not];omega)
 refine aL rfl rfl (aL rfl rfl (aL rfl rfl (ae (bk (v:=.bool _) rfl rfl) (asb rfl (ah (ab (ay (bE (v:=.bool _) rfl rfl (⟨congrArg Value.bool ?_,aj.rfl_⟩)))))))))
 first
  |(rw [Bool.eq_iff_iff];simp;omega)
  |(symm;rw [decide_eq_false_iff_not];omega)
theorem pj (g o:Nat) (p:Pt) (w:World) (h:ml w g o p) (id:ByteArray) :
 Rt prog 74 [.pointer (some ⟨g,o,none⟩),.string id] w (fun v w'=>v=.bool (pX id p.gone)∧aj w w'):=by
 refine enter (n:=17) Tryz.func74 rfl rfl rfl (af (aa (asb rfl (ah (ab (af (aa (mvp rfl (ae (ar rfl) (ae (ak jo rfl) (ae (an nw rfl (by exact bx aj.rfl_ h.sl)) ?_)))))))))));refine mvg rfl (aF r9 (zf p.A p.c p.gone.length p.gone _ (h.row.from_ aj.rfl_) rfl h.len id h.so) ?_);rintro v13 w1 ⟨⟨i,fd,rfl,hi,h1,h2,h3⟩,E13⟩;obtain rfl:=Bz h.so h1 h2 h3;refine mvt rfl (ae (ax rfl rfl) (ae (ax rfl rfl) (asi rfl (asb rfl (ah (ab (af (aa (mvb rfl (asb rfl (ah (ab (ay ?_)))))))))))));refine bE (v:=.bool _) rfl rfl (⟨rfl,(aj.rfl_.next E13)⟩)
theorem II (g o:Nat) (p:Pt) (w:World) (h:ml w g o p) (id:ByteArray) :
 Rt prog 68 [.pointer (some ⟨g,o,none⟩),.string id] w (fun v w'=>(∃ b:Bool,v=.bool b∧(b=true↔x6 p id))∧aj w w'):=by
 refine enter (n:=24) Tryz.func68 rfl rfl rfl (af (aa (asb rfl (ah (ab (af (aa (mvp rfl (ae (ar rfl) (ae (ak lu rfl) (ae (an nx rfl (by exact bx aj.rfl_ h.ptr)) ?_)))))))))));refine mvg rfl (aF yC (IU p.lo p.s p.ds _ (h.seg.at.from_ aj.rfl_) id) ?_);rintro v13 w1 ⟨hd13,E13⟩;rcases hd13 with ⟨i0,hi0,hid0,rfl⟩ | ⟨hno,rfl⟩
 ·refine mvt rfl (ae (ax rfl rfl) (ae (ax rfl rfl) (asg rfl (asi rfl (ah (ab (af (aa (mvi rfl (ae (cx rfl rfl) (mvb rfl ?_)))))))))));refine Jk (t:=18) rfl (fun Q2=>?_) (fun Q2=>?_);rotate_left
  ·exfalso;omega
  refine ao rfl (mvp rfl (ao rfl (mvg rfl (ao rfl (aF nv (pj g o p _ (h.from_ (aj.rfl_.next E13)) id) ?_)))));rintro v21 w3 ⟨rfl,E21⟩;refine ao rfl (ae (eQ rfl) (ae (bB (v:=.bool _) rfl rfl) (asb rfl (ah (ab (ay (bE (v:=.bool _) rfl rfl ?_)))))))
  first
   |exact ⟨⟨_,rfl,⟨fun hq=>⟨p.ds[i0],nf.2 ⟨List.getElem_mem hi0,by rw [←bZ hi0,hid0];exact j9.1 hq⟩,by rw [←bZ hi0,hid0]⟩,fun ⟨d,hd,e⟩=>j9.2 (e ▸ (nf.1 hd).2)⟩⟩,((aj.rfl_.next E13).next E21)⟩
   |exact ⟨⟨_,rfl,⟨fun hq=>(by cases hq),fun ⟨d,hd,e⟩=>by obtain ⟨j,hj,rfl⟩:=List.getElem_of_mem (nf.1 hd).1;exact absurd (by rw [bZ hj];exact e) (hno j hj)⟩⟩,((aj.rfl_.next E13).next E21)⟩
 refine mvt rfl (ae (ax rfl rfl) (ae (ax rfl rfl) (asg rfl (asi rfl (ah (ab (af (aa (mvi rfl (ae (cx rfl rfl) (mvb rfl ?_)))))))))));refine Jk (t:=18) rfl (fun Q4=>?_) (fun Q4=>?_)
 ·exfalso;omega
 refine aL rfl rfl (aL rfl rfl (aL rfl rfl (aL rfl rfl (ae (bk (v:=.bool _) rfl rfl) (asb rfl (ah (ab (ay (bE (v:=.bool _) rfl rfl ?_)))))))))
 first
  |exact ⟨⟨_,rfl,⟨fun hq=>⟨p.ds[i0],nf.2 ⟨List.getElem_mem hi0,by rw [←bZ hi0,hid0];exact j9.1 hq⟩,by rw [←bZ hi0,hid0]⟩,fun ⟨d,hd,e⟩=>j9.2 (e ▸ (nf.1 hd).2)⟩⟩,(aj.rfl_.next E13)⟩
  |exact ⟨⟨_,rfl,⟨fun hq=>(by cases hq),fun ⟨d,hd,e⟩=>by obtain ⟨j,hj,rfl⟩:=List.getElem_of_mem (nf.1 hd).1;exact absurd (by rw [bZ hj];exact e) (hno j hj)⟩⟩,(aj.rfl_.next E13)⟩
theorem DA (g o:Nat) (p:Pt) (w:World) (h:ml w g o p) (b:Nat) (hb:Blk w b 108 #[.pointer (some ⟨g,o,none⟩)]) (d:Dc) :
 Rt prog 73 [.agg (dV d).toArray,.pointer (some ⟨b,0,none⟩)] w (fun v w'=>v=.bool (pX d.1 p.gone)∧aj w w'):=by
 refine enter (n:=8) Tryz.func73 rfl rfl rfl (af (aa (cK (v:=.agg _) rfl ?_)));intro b2 w1 E2 hb2 hk2;refine asb rfl (ah (ab (af (aa (ae (an ke rfl (by exact (hb.from_ (aj.rfl_.next E2)).rd 0 rfl)) ?_)))));refine ae (ak bq rfl) (ae (an bC rfl (by exact hk2.rd 0 rfl)) ?_);refine aF nv (pj g o p _ (h.from_ (aj.rfl_.next E2)) d.1) ?_;rintro v7 w2 ⟨rfl,E7⟩;refine asb rfl (ah (ab (ay (bE (v:=.bool _) rfl rfl (⟨rfl,((aj.rfl_.next E2).next E7)⟩)))))
theorem DR (g o:Nat) (p:Pt) (w:World) (h:ml w g o p) (b:Nat) (hb:Blk w b 108 #[.pointer (some ⟨g,o,none⟩)]) (d:Ht) :
 Rt prog 77 [.agg (hV d).toArray,.pointer (some ⟨b,0,none⟩)] w (fun v w'=>v=.bool (pX d.1 p.gone)∧aj w w'):=by
 refine enter (n:=8) Tryz.func77 rfl rfl rfl (af (aa (cK (v:=.agg _) rfl ?_)));intro b2 w1 E2 hb2 hk2;refine asb rfl (ah (ab (af (aa (ae (an ke rfl (by exact (hb.from_ (aj.rfl_.next E2)).rd 0 rfl)) ?_)))));refine ae (ak ly rfl) (ae (an bC rfl (by exact hk2.rd 0 rfl)) ?_);refine aF nv (pj g o p _ (h.from_ (aj.rfl_.next E2)) d.1) ?_;rintro v7 w2 ⟨rfl,E7⟩;refine asb rfl (ah (ab (ay (bE (v:=.bool _) rfl rfl (⟨rfl,((aj.rfl_.next E2).next E7)⟩)))))
theorem qq (g o:Nat) (p:Pt) (w:World) (h:ml w g o p) :
 Rt prog 39 [.pointer (some ⟨g,o,none⟩)] w (fun v w'=>(∃ A' c',v=.slice A' p.live.length c'∧w'.ownsRow w.heap.size 37 2 (.slice A' p.live.length c') p.live.length (p.live.flatMap dV))∧aj w w'):=by
 have hdl:=h.seg.at.docs.2.1;refine enter (n:=10) Tryz.func39 rfl rfl rfl (af (aa (cK (v:=.pointer _) rfl ?_)));intro b1 w1 E1 hb1 hk1;refine ass rfl (ah (ab (af (aa (ae (an ke rfl (by exact (hk1.from_ aj.rfl_).rd 0 rfl)) ?_)))));refine ae (ar rfl) (ae (ak lu rfl) (ae (an nx rfl (by exact bx (aj.rfl_.next E1) h.ptr)) ?_));have hz:=((aj.rfl_.next E1)).size;have hy:=Nat.le_refl (w1).heap.size;refine aF yF (G0 p.lo p.s p.ds _ (h.seg.at.from_ (aj.rfl_.next E1))) ?_;rintro v7 w2 ⟨⟨A7,c7,rfl,ho7⟩,E7⟩;refine ae (eR (v':=.func (.func 73) #[] #[.pointer (some ⟨b1,0,none⟩)]) (gG (l1:=[]) (l2:=[.tmp 1])) rfl) (aF yG (wF 73 [.pointer (some ⟨b1,0,none⟩)] (fun d=>pX d.1 p.gone) uS _ A7 c7 p.ds.length p.ds _ ho7 (by omega) (fun w2 x _ hG=>DA g o p w2 (h.from_ ((((aj.rfl_.next E1).next E7)).grew hG (fun k hk=>Nat.le_trans hz (cd ho7 k hk).1))) b1 (hk1.from_ (((aj.rfl_.next E7)).grew hG (fun k hk=>Nat.le_trans hy (cd ho7 k hk).1))) x)) ?_);rintro v9 w3 ⟨⟨A9,c9,m,rfl,hm,ho9⟩,hg9⟩;refine ass rfl (ah (ab (ay (bE (v:=.slice _ _ _) rfl rfl ?_))));subst hm;exact ⟨⟨A9,c9,rfl,gx ho9 hz⟩,((((aj.rfl_.next E1).next E7)).grew hg9 (fun k hk=>Nat.le_trans hz (cd ho7 k hk).1))⟩
theorem GK (g o:Nat) (p:Pt) (w:World) (h:ml w g o p) (q:ByteArray) (hq:q.size≤140737488351232) (hqe:nd q=0) :
 Rt prog 41 [.pointer (some ⟨g,o,none⟩),.string q] w (fun v w'=>(∃ A' c',v=.tuple #[.slice A' (eg p.live q).length c',.int .i64 0]∧w'.ownsRow w.heap.size 57 2 (.slice A' (eg p.live q).length c') (eg p.live q).length ((eg p.live q).flatMap hV))∧aj w w'):=by
 have hdl:=h.seg.at.docs.2.1;have hdt:=h.seg.at.docs.2.2.2;have hhl:=tZ (p:=q) p.ds;have hsg:kR p.ds q=eg p.ds q:=by unfold kR;rw [if_pos hqe]
 refine enter (n:=21) Tryz.func41 rfl rfl rfl (af (aa (cK (v:=.pointer _) rfl ?_)));intro b2 w1 E2 hb2 hk2;refine ass rfl (asi rfl (ah (ab (af (aa (ae (an ke rfl (by exact (hk2.from_ aj.rfl_).rd 0 rfl)) ?_))))));refine ae (ar rfl) (ae (ak lu rfl) (ae (an nx rfl (by exact bx (aj.rfl_.next E2) h.ptr)) ?_));refine mvg rfl ?_;have hz:=((aj.rfl_.next E2)).size;have hy:=Nat.le_refl (w1).heap.size;refine aF yE (oM p.lo p.s p.ds _ (h.seg.at.from_ (aj.rfl_.next E2)) q hq) ?_;rintro v14 w2 ⟨⟨A14,c14,rfl,ho14⟩,E14⟩;refine mvt rfl (ae (ax rfl rfl) (ae (ax rfl rfl) (ass rfl (asi rfl (ah (ab (af (aa (mvs rfl (ae (eR (v':=.func (.func 77) #[] #[.pointer (some ⟨b2,0,none⟩)]) (gG (l1:=[]) (l2:=[.tmp 2])) rfl) (aF yD (wE 77 [.pointer (some ⟨b2,0,none⟩)] (fun x=>pX x.1 p.gone) uT _ A14 c14 (kR p.ds q).length (kR p.ds q) _ ho14 (by rw [hsg];omega) (fun w2 x _ hG=>DR g o p w2 (h.from_ ((((aj.rfl_.next E2).next E14)).grew hG (fun k hk=>Nat.le_trans hz (cd ho14 k hk).1))) b2 (hk2.from_ (((aj.rfl_.next E14)).grew hG (fun k hk=>Nat.le_trans hy (cd ho14 k hk).1))) x)) ?_)))))))))));rintro v19 w3 ⟨⟨A19,c19,m,rfl,hm,ho19⟩,hg19⟩;refine mvi rfl (ass rfl (asi rfl (ah (ab (ay (cV (v:=.slice _ _ _) (v':=.int _ _) rfl rfl rfl ?_))))));rw [hsg,zN] at hm ho19;subst hm;rw [hqe];exact ⟨⟨A19,c19,rfl,gx ho19 hz⟩,((((aj.rfl_.next E2).next E14)).grew hg19 (fun k hk=>Nat.le_trans hz (cd ho14 k hk).1))⟩
end Go.Proofs.YtcbakncjacnnjaaGreat
namespace Go.Proofs.YtcbakncjacnnjaaGreat
open Go.Proofs.Tryz (prog)
open Go.RowKit Go.ChangeShapes Go.WideShapes Go.ChangeAt
open Go.Proofs.YtcbakncjacnnjaaGreat.SA
def Pz:Pt:=⟨0,0,0,[],none,0,[]⟩
theorem Chg.only {U:Nat→Prop} {w w1 w2:World} {g:Nat} (h:Chg U w w1) (ho:cH g w1 w2) (hg:U g):Chg U w w2:=h.next (ho.toChg hg)
theorem uc {U:Nat→Prop} {w w':World} {ps ps':List Pt} {L':List Dc} {s cp' cl':Nat} {Ap Al Ap' Al':Option Addr} (h':ShH w' ps' L' s Ap' cp' Al' cl') (hU:∀ k,pA s Ap Al ps k→U k) (hA:∀ k,Ap'.map (·.block)=some k→Ap.map (·.block)=some k∨w.heap.size≤k) (hL:∀ k,Al'.map (·.block)=some k→Al.map (·.block)=some k∨w.heap.size≤k)
 (hp:∀ p∈ps',(∃ q∈ps,(∀ k,p.A.map (·.block)=some k→q.A.map (·.block)=some k∨w.heap.size≤k)∧p.lo=q.lo∧p.hi=q.hi)∨(p.A=none∧w.heap.size≤p.lo)):∀ k,pA s Ap' Al' ps' k→Nx U w w' k:=fun k hk=>by
 have hlt:=h'.lt hk
 have key:pA s Ap Al ps k∨w.heap.size≤k:=by
  rcases hk with (e | e | e | ⟨p,h1,e⟩) | ⟨p,h1,e1,e2⟩
  ·exact .inl (.inl (.inl e))
  ·exact (hA k e).imp (fun e=>.inl (.inr (.inl e))) id
  ·exact (hL k e).imp (fun e=>.inl (.inr (.inr (.inl e)))) id
  ·rcases hp p h1 with ⟨q,hq,h2,_⟩ | ⟨h2,_⟩
   ·exact (h2 k e).imp (fun e=>.inl (.inr (.inr (.inr ⟨q,hq,e⟩)))) id
   ·rw [h2] at e;cases e
  ·rcases hp p h1 with ⟨q,hq,_,h3,h4⟩ | ⟨_,h3⟩
   ·exact .inl (.inr ⟨q,hq,h3 ▸ e1,h4 ▸ e2⟩)
   ·exact .inr (Nat.le_trans h3 e1)
 exact key.elim (fun h=>.inl (hU k h)) (fun h=>.inr ⟨h,hlt⟩)
section
variable {U:Nat→Prop} {w W w':World} {ps ps':List Pt} {L L' D D':List Dc} {s cp cl cp' cl':Nat} {Ap Al Ap' Al':Option Addr}
theorem eZ.same (h:eZ w U s D) (hF:aj w w'):eZ w' (Nx U w w') s D∧Chg U w w':=⟨(h.from_ hF).wide fun _ hk _=>.inl hk,hF.toChg⟩
theorem oK (h:ShH w ps L s Ap cp Al cl) (hU:∀ k,pA s Ap Al ps k→U k) (hF:aj w W) (hC:Chg (fun k=>k=s∨Ap.map (·.block)=some k) W w') (hb:Blk w' s 63 #[.slice Ap' ps'.length cp',.slice Al' L'.length cl'])
 (hP:w'.ownsRow 0 66 2 (.slice Ap' ps'.length cp') ps'.length (ps'.flatMap ptV)) (hA:∀ k,Ap'.map (·.block)=some k→Ap.map (·.block)=some k∨W.heap.size≤k)
 (hL:(Al'=Al∧cl'=cl∧L'=L)∨(Al'=none∧cl'=0∧L'=[]))
 (hps:∀ p∈ps',p∈ps∨(p.A=none∧p.c=0∧p.gone=[]∧jT W p.lo p.hi p.s p.ds∧w.heap.size≤p.lo)) (hpw:ps'.Pairwise fun p q=>eP p.A q.A):ShH w' ps' L' s Ap' cp' Al' cl'∧(∀ k,pA s Ap' Al' ps' k→Nx U w w' k)∧Chg U w w':=by
 have hs:=hF.size;have hH:=(h.from_ hF).setParts hC (fun k hk=>hk) hb hP hA hL (fun p hp=>(hps p hp).imp id fun ⟨e1,e2,e3,e4,e5⟩=>⟨e1,e2,e3,e4,fun k h1 h2 hm=>by have:=h.lt (.inl hm);omega⟩) hpw;refine ⟨hH,uc hH hU (fun k hk=>(hA k hk).imp id fun e=>Nat.le_trans hs e) (fun k hk=>?_) (fun p hp=>?_),?_⟩
 ·rcases hL with ⟨e,_⟩ | ⟨e,_⟩
  ·exact .inl (e ▸ hk)
  ·rw [e] at hk;cases hk
 ·rcases hps p hp with e | ⟨e1,_,_,_,e5⟩
  ·exact .inl ⟨p,e,fun k hk=>.inl hk,rfl,rfl⟩
  ·exact .inr ⟨e1,e5⟩
 ·refine hF.toChg.next (hC.wide fun k hk=>.inl ?_);rcases hk with e | e
  ·exact hU k (.inl (.inl e))
  ·exact hU k (.inl (.inr (.inl e)))
theorem nL (h:ShH w ps L s Ap cp Al cl) (hU:∀ k,pA s Ap Al ps k→U k) (hF:aj w W) (hC:Chg (fun k=>k=s∨Ap.map (·.block)=some k) W w') (hb:Blk w' s 63 #[.slice Ap' ps'.length cp',.slice Al' L'.length cl'])
 (hP:w'.ownsRow 0 66 2 (.slice Ap' ps'.length cp') ps'.length (ps'.flatMap ptV)) (hA:∀ k,Ap'.map (·.block)=some k→Ap.map (·.block)=some k∨W.heap.size≤k)
 (hL:(Al'=Al∧cl'=cl∧L'=L)∨(Al'=none∧cl'=0∧L'=[]))
 (hps:∀ p∈ps',p∈ps∨(p.A=none∧p.c=0∧p.gone=[]∧jT W p.lo p.hi p.s p.ds∧w.heap.size≤p.lo)) (hpw:ps'.Pairwise fun p q=>eP p.A q.A) (hG':ShG ps' L' D'):eZ w' (Nx U w w') s D'∧Chg U w w':=
 let ⟨h1,h2,h3⟩:=oK h hU hF hC hb hP hA hL hps hpw
 ⟨⟨ps',L',Ap',cp',Al',cl',hG',h1,h2⟩,h3⟩
theorem vA (h:ShH w ps L s Ap cp Al cl) (hU:∀ k,pA s Ap Al ps k→U k) (hF:aj w W) (hC:Chg (fun k=>k=s∨Al.map (·.block)=some k) W w') (hb:Blk w' s 63 #[.slice Ap ps.length cp,.slice Al' L'.length cl'])
 (hL:w'.ownsRow 0 37 2 (.slice Al' L'.length cl') L'.length (L'.flatMap dV)) (hA:∀ k,Al'.map (·.block)=some k→Al.map (·.block)=some k∨W.heap.size≤k) (hG':ShG ps L' D'):eZ w' (Nx U w w') s D'∧Chg U w w':=by
 have hs:=hF.size;have hH:=(h.from_ hF).setLoose hC (fun k hk=>hk) hb hL hA;refine ⟨⟨ps,L',Ap,cp,Al',cl',hG',hH,uc hH hU (fun k hk=>.inl hk) (fun k hk=>(hA k hk).imp id fun e=>Nat.le_trans hs e) (fun p hp=>.inl ⟨p,hp,fun k hk=>.inl hk,rfl,rfl⟩)⟩,?_⟩;refine hF.toChg.next (hC.wide fun k hk=>.inl ?_);rcases hk with e | e
 ·exact hU k (.inl (.inl e))
 ·exact hU k (.inl (.inr (.inr (.inl e))))
theorem eZ.then {w2:World} {D2:List Dc} (h1:Chg U w w') (h2:eZ w2 (Nx (Nx U w w') w' w2) s D2) (h3:Chg (Nx U w w') w' w2):eZ w2 (Nx U w w2) s D2∧Chg U w w2:=
 ⟨h2.wide fun _ hk _=>hk.trans h1.size h3.size,h1.trans h3 fun _ hk=>hk.imp id fun h=>h.1⟩
end
end Go.Proofs.YtcbakncjacnnjaaGreat
namespace Go.Proofs.YtcbakncjacnnjaaGreat
open Go.Proofs.Tryz (prog)
open Go.RowKit
open Go.ChangeShapes Go.WideShapes Go.ChangeAt
open Go.Proofs.YtcbakncjacnnjaaGreat.SA
theorem pQ:az prog 65=true:=by kernel_rfl
theorem dO:cG prog 63 1=some 1:=by kernel_rfl
theorem BW:fp prog 66=some true:=by kernel_rfl
theorem BT:dK prog 66=some 2:=by kernel_rfl
theorem BU:az prog 68=true:=by kernel_rfl
theorem w_:az prog 67=true:=by kernel_rfl
theorem bW:cG prog 63 0=some 0:=by kernel_rfl
theorem dH:fp prog 61=some false:=by kernel_rfl
theorem BV:az prog 66=true:=by kernel_rfl
theorem pt:az prog 31=true:=by kernel_rfl
theorem r_:prog.built 63 []=some #[.slice none 0 0,.slice none 0 0]:=by kernel_rfl
theorem kf:∀ (a0:Option Addr),prog.built 66 [(0,.pointer a0)]=some #[.pointer a0,.slice none 0 0]:=by intros;kernel_rfl
theorem iK:dK prog 61=some 1:=by kernel_rfl
theorem mJ:dK prog 22=some 1:=by kernel_rfl
theorem jZ.cmp {ds:List Dc} (h:SD ds) {i j:Nat} (hij:i<j) (hj:j<ds.length):sLt (ds.getD i dd).1 (ds.getD j dd).1:=by
 rw [bZ (Nat.lt_trans hij hj),bZ hj];exact List.pairwise_iff_getElem.1 h i j _ hj hij
theorem jT.ex {w:World} {N lo s:Nat} {ds:List Dc} (h:ix w lo s ds) (hN:N≤lo):∃ lo hi,N≤lo∧hi=w.heap.size∧jT w lo hi s ds:=⟨_,_,hN,rfl,jT.of h⟩
theorem q_ {w:World} {base e s n c:Nat} {A:Option Addr} {xs:List Value} (h:w.ownsRow base e s (.slice A n c) n xs):A=none→n=0∧c=0:=fun hA=>by subst hA;exact ⟨oY h,jI h⟩
theorem F3 {w:World} {g lo hi s0:Nat} {ds:List Dc} (h:Blk w g 66 #[.pointer (some ⟨s0,0,none⟩),.slice none 0 0]):w.ownsRow 0 66 2 (.slice (some ⟨g,0,none⟩) 1 1) 1 ([Pt.of lo hi s0 ds].flatMap ptV):=gv (cur:=[.pointer (some ⟨s0,0,none⟩),.slice none 0 0]) (Nat.zero_le _) h (Nat.le_refl _) (by decide) rfl rfl
theorem wu (a b id:ByteArray) (w:World) :
 Rt prog 65 [.agg #[.string a,.string b],.string id] w (fun v w'=>v=.int .i64 (iW a id)∧aj w w'):=by
 refine enter (n:=9) Tryz.func65 rfl rfl rfl (af (aa (cK (v:=.agg _) rfl ?_)));intro b2 w1 E2 hb2 hk2;refine asi rfl (ah (ab (af (aa (ae (ak bq rfl) (ae (an bC rfl (by exact hk2.rd 0 rfl)) ?_))))));refine mvg rfl (aF ik (rO a id _) ?_);rintro v8 w2 ⟨rfl,rfl⟩;refine asi rfl (ah (ab (ay (bE (v:=.int _ _) rfl rfl (⟨rfl,(aj.rfl_.next E2)⟩)))))
theorem yf (A:Option Addr) (c n:Nat) (ds:List Dc) (w:World) (hr:dg 2 dV w A ds) (hn:n=ds.length) (hl:n≤100000000) (id:ByteArray) (hO:SD ds) :
 Rt prog 64 [.slice A n c,.string id,.func (.func 65) #[] #[]] w (fun v w'=>(∃ (i:Nat) (fd:Bool),v=.tuple #[.int .i64 (i:Nat),.bool fd]∧i≤n∧(∀ x,x<i→sLt (ds.getD x dd).1 id)∧(∀ x,i≤x→x<n→¬ sLt (ds.getD x dd).1 id)∧(fd=true↔i<n∧(ds.getD i dd).1=id))∧aj w w'):=by
 refine enter (n:=49) Tryz.func64 rfl rfl rfl (af (aa (asi rfl (asb rfl (ah (ab (af (aa (mvs rfl (ae (aQ bG rfl) (asi rfl (ah (ab (af (aa ?_)))))))))))))));refine mvi rfl (asi rfl (asi rfl (ah (ab (af (aw (a_ (G:=Nat×Nat) [11,15,16,17,18,19,20,21,22,23,24,25,26,27,28,29,30,31,32,33,34] (fun (i,j)=>[(9,.int .i64 (i:Nat)),(10,.int .i64 (j:Nat))]) (fun (i,j) w'=>i≤j∧j≤n∧(∀ x,x<i→sLt (ds.getD x dd).1 id)∧(∀ x,j≤x→x<n→¬ sLt (ds.getD x dd).1 id)∧aj w w') (fun (i,j)=>j-i) ((0,n)) ⟨rfl,rfl,trivial⟩ ?_ ?_)))))))
 ·exact ⟨Nat.zero_le _,Nat.le_refl _,fun x h=>absurd h (by omega),fun x h1 h2=>absurd h1 (by omega),aj.rfl_⟩
 rintro ⟨i,j⟩ ρ1 w1 ⟨hij,hjn,hlo,hhi,hB⟩;refine af (af (aa (mvi rfl (mvi rfl (ae (aW rfl rfl) (ah (ab (JV rfl (fun Q2=>?_) (fun Q2=>?_)))))))))
 ·obtain ⟨bd,od,rfl,hcd⟩:=hr (by omega);refine av (ab (aw (af (aa (mvi rfl (mvi rfl (ae (aG rfl rfl (by omega)) ?_)))))));obtain ⟨h,hh⟩:∃ h,h=(i+j)/2 ^ 1:=⟨_,rfl⟩;refine ae (fq dP fS rfl (by omega)) (ae (ep (b:=1) rfl rfl (by decide)) (ae (ef gQ eK rfl (by omega)) (dh (t:=23) (v:=.int _ _) (v':=.int .i64 (h:Nat)) rfl (by rw [hh]) ?_)));refine asi rfl (ah (ab (af (aa (ae (aq (v:=.func _ _ _) rfl) (mvs rfl (mvi rfl (ae (aM aT rfl rfl (by omega)) ?_))))))));refine ae (bn (cs:=[_,_]) bK bh rfl (by have h2:=hcd h (by omega);rw [←bZ (show h<ds.length by omega)] at h2;exact du hB h2)) ?_;refine mvg rfl (fh (caps:=[]) rfl pQ (wu (ds.getD h dd).1 (ds.getD h dd).2 id _) ?_);rintro v3 w3 ⟨rfl,E30⟩;refine ae (aW rfl rfl) (ah (ab (JV rfl (fun Q4=>?_) (fun Q4=>?_))))
  ·have hlt:sLt (ds.getD h dd).1 id:=ka.1 (by omega);refine aa (mvi rfl (ae (aG (b:=1) rfl rfl (by omega)) (asi rfl (ah (aI ?_)))));refine aO ((h+1,j)) ⟨(by first | rfl | (refine aK ?_;omega)),(by first | rfl | (refine aK ?_;omega)),trivial⟩ (by (iterate 45 refine aB rfl ?_);exact aJ) ⟨?_,?_⟩
   ·exact ⟨by omega,hjn,fun x hx=>by
     rcases Nat.eq_or_lt_of_le (Nat.le_of_lt_succ hx) with e | e
     ·subst e;exact hlt
     ·exact dQ (jZ.cmp hO e (by omega)) hlt,hhi,(hB.next E30)⟩
   ·show j-(h+1)<j-i;omega
  have hnl:¬ sLt (ds.getD h dd).1 id:=fun h9=>by have:=ka.2 h9;omega
  refine aa (mvi rfl (asi rfl (ah (aI ?_))));refine aO ((i,h)) ⟨(by first | rfl | (refine aK ?_;omega)),(by first | rfl | (refine aK ?_;omega)),trivial⟩ (by (iterate 44 refine aB rfl ?_);exact aJ) ⟨?_,?_⟩
  ·exact ⟨by omega,by omega,hlo,fun x h1 h2=>by
    rcases Nat.eq_or_lt_of_le h1 with e | e
    ·subst e;exact hnl
    ·exact fun h9=>hnl (dQ (jZ.cmp hO e (by omega)) h9),(hB.next E30)⟩
  ·show h-i<j-i;omega
 refine bc (aC (aC (aS (ab (af (aa (mvi rfl (mvi rfl (mvi rfl (ae (aW rfl rfl) (mvb rfl (Jk (t:=39) rfl (fun Q5=>?_) (fun Q5=>?_)))))))))))))
 ·obtain ⟨bd,od,rfl,hcd⟩:=hr (by omega);refine ao rfl (ae (aq (v:=.func _ _ _) rfl) (ao rfl (mvs rfl (ao rfl (mvi rfl (ao rfl (ae (aM aT rfl rfl (by omega)) (ao rfl ?_))))))));refine ae (bn (cs:=[_,_]) bK bh rfl (by have h2:=hcd i (by omega);rw [←bZ (show i<ds.length by omega)] at h2;exact du hB h2)) ?_;refine ao rfl (mvg rfl (ao rfl (fh (caps:=[]) rfl pQ (wu (ds.getD i dd).1 (ds.getD i dd).2 id _) ?_)));rintro v6 w6 ⟨rfl,E46⟩;refine ao rfl (ae (cx rfl rfl) (ae (bB (v:=.bool _) rfl rfl) (asi rfl (asb rfl (ah (ab (ay (cV (v:=.int _ _) (v':=.bool _) rfl rfl rfl ?_))))))));obtain rfl:i=j:=by omega
  refine ⟨⟨i,_,rfl,hjn,hlo,hhi,?_⟩,(hB.next E46)⟩
  first
   |(rw [beq_iff_eq,iO];exact ⟨fun h9=>⟨by omega,h9⟩,fun h9=>h9.2⟩)
   |(rw [decide_eq_true_iff,iO];exact ⟨fun h9=>⟨by omega,h9⟩,fun h9=>h9.2⟩)
   |exact ⟨fun h9=>(by cases h9),fun h9=>absurd h9.1 (by omega)⟩
 refine aL rfl rfl (aL rfl rfl (aL rfl rfl (aL rfl rfl (aL rfl rfl (aL rfl rfl (aL rfl rfl (aL rfl rfl (ae (bk (v:=.bool _) rfl rfl) ?_))))))));refine asi rfl (asb rfl (ah (ab (ay (cV (v:=.int _ _) (v':=.bool _) rfl rfl rfl ?_)))));obtain rfl:i=j:=by omega
 refine ⟨⟨i,_,rfl,hjn,hlo,hhi,?_⟩,hB⟩
 first
  |(rw [beq_iff_eq,iO];exact ⟨fun h9=>⟨by omega,h9⟩,fun h9=>h9.2⟩)
  |(rw [decide_eq_true_iff,iO];exact ⟨fun h9=>⟨by omega,h9⟩,fun h9=>h9.2⟩)
  |exact ⟨fun h9=>(by cases h9),fun h9=>absurd h9.1 (by omega)⟩
theorem zR (ps:List Pt) (L D:List Dc) (s:Nat) (Ap:Option Addr) (cp:Nat) (Al:Option Addr) (cl:Nat) (w:World) (h:ShH w ps L s Ap cp Al cl) (hG:ShG ps L D) (id:ByteArray) :
 Rt prog 35 [.pointer (some ⟨s,0,none⟩),.string id] w (fun v w'=>(∃ (i:Nat) (fd:Bool),v=.tuple #[.int .i64 (i:Nat),.bool fd]∧i≤L.length∧(∀ x,x<i→sLt (L.getD x dd).1 id)∧(∀ x,i≤x→x<L.length→¬ sLt (L.getD x dd).1 id)∧(fd=true↔i<L.length∧(L.getD i dd).1=id))∧aj w w'):=by
 have hll:=hG.loose;refine enter (n:=14) Tryz.func35 rfl rfl rfl (af (aa (asi rfl (asb rfl (ah (ab (af (aa (mvp rfl (ae (ar rfl) (ae (ak dO rfl) (ae (an cQ rfl (by exact (h.blk.from_ aj.rfl_).rd 1 rfl)) ?_))))))))))));refine mvg rfl (aF pR (yf Al cl L.length L _ ((dg.own bz (by decide) h.rowL).2.from_ aj.rfl_) rfl (by omega) id hG.sdL) ?_);rintro v11 w1 ⟨⟨i,fd,rfl,h1,h2,h3,h4⟩,E11⟩;refine ae (ax rfl rfl) (ae (ax rfl rfl) (asi rfl (asb rfl (ah (ab (ay (cV (v:=.int _ _) (v':=.bool _) rfl rfl rfl (⟨⟨i,fd,rfl,h1,h2,h3,h4⟩,(aj.rfl_.next E11)⟩))))))))
theorem Br (fid:FuncId) (caps:List Value) (p:Pt→Bool) (hcal:az prog fid=true) (A:Option Addr) (c n:Nat) (l:List Pt) (w:World) (hr:dg 2 ptV w A l) (hn:n=l.length) (hl:n≤100000000) (hp:∀ w' x,x∈l→aj w w'→Rt prog fid (.agg (ptV x).toArray::caps) w' fun v w''=>v=.bool (p x)∧aj w' w'') :
 Rt prog 66 [.slice A n c,.func (.func fid) #[] caps.toArray] w (fun v w'=>((∃ i:Nat,v=.int .i64 (i:Nat)∧i<n∧p (SM.G Pz l i)=true∧∀ k,k<i→p (SM.G Pz l k)=false)∨(v=.int .i64 (-1)∧∀ k,k<n→p (SM.G Pz l k)=false))∧aj w w'):=by
 refine enter (n:=19) Tryz.func66 rfl rfl rfl (af (aa (asi rfl (ah (ab (af (af (aa (mvs rfl (ae (aQ cU rfl) (mvi rfl (ah (ab (aw (a_ (G:=Nat) [4,5,9,10,11,12,13,14,15,16,17,18] (fun i=>[(8,.int .i64 (i:Nat))]) (fun i w'=>i≤n∧(∀ k,k<i→p (SM.G Pz l k)=false)∧aj w w') (fun i=>n-i) (0) ⟨rfl,trivial⟩ ?_ ?_)))))))))))))))
 ·exact ⟨Nat.zero_le _,fun k h=>absurd h (by omega),aj.rfl_⟩
 rintro i ρ1 w1 ⟨hi,hno,hB⟩;refine af (aa (ae (aW rfl rfl) (ah (ab (af (JV rfl (fun Q2=>?_) (fun Q2=>?_)))))))
 ·obtain ⟨bd,od,rfl,hcd⟩:=hr (by omega);have hil:i<l.length:=by omega
  have hmem:SM.G Pz l i∈l:=by rw [SM.G_get Pz hil];exact List.getElem_mem hil
  have hce:=hcd i hil;rw [←SM.G_get Pz hil] at hce;refine av (ab (af (aw (af (aa (mvi rfl (asi rfl (ah (ab (af (aa (ae (aq (v:=.func _ _ _) rfl) (mvs rfl (mvi rfl (ae (aM cq rfl rfl (by omega)) (ae (bn (cs:=[_,_]) BW BT rfl (by exact du hB hce)) ?_))))))))))))))));refine fh (l:=[.tmp 15]) (caps:=caps) rfl hcal (hp _ (SM.G Pz l i) hmem hB) ?_;rintro v16 w3 ⟨rfl,E16⟩;refine ah (ab (au rfl (fun Q4=>?_) (fun Q4=>?_)))
  ·refine af (aa (mvi rfl (asi rfl (ah (ab (ay (bj (aD (aD (bj (aD (bE (v:=.int _ _) rfl rfl (⟨.inl ⟨i,rfl,by omega,by simp_all,hno⟩,(hB.next E16)⟩)))))))))))))
  refine av (aI (ab (aa (ae (aG (b:=1) rfl rfl (by omega)) (mvi rfl (ah ?_))))));refine aO (i+1) ⟨(by first | rfl | (refine aK ?_;omega)),trivial⟩ (by (iterate 24 refine aB rfl ?_);exact aJ) ⟨?_,?_⟩
  ·exact ⟨by omega,fun k hk=>by
    rcases Nat.eq_or_lt_of_le (Nat.le_of_lt_succ hk) with e | e
    ·subst e;simp_all
    ·exact hno k e,(hB.next E16)⟩
  ·show n-(i+1)<n-i;omega
 refine bc (aC (aC (aS (ab (af (aa (asi rfl (ah (ab (ay (bE (v:=.int _ _) rfl rfl (⟨.inr ⟨rfl,fun k hk=>hno k (by omega)⟩,hB⟩))))))))))))
theorem Di (p:Pt) (w:World) (hp:PtIn w p) (id:ByteArray) (b:Nat) (hb:Blk w b 9 #[.string id]) :
 Rt prog 67 [.agg (ptV p).toArray,.pointer (some ⟨b,0,none⟩)] w (fun v w'=>(∃ x:Bool,v=.bool x∧(x=true↔x6 p id))∧aj w w'):=by
 refine enter (n:=6) Tryz.func67 rfl rfl rfl (af (aa (cK (v:=.agg _) rfl ?_)));intro b2 w1 E2 hb2 hk2;refine asb rfl (ah (ab (af (aa (ae (an bC rfl (by exact (hb.from_ (aj.rfl_.next E2)).rd 0 rfl)) ?_)))));refine aF BU (II b2 0 p _ (ml.box (hp.from_ (aj.rfl_.next E2)) hk2) id) ?_;rintro v5 w2 ⟨⟨x,rfl,hx⟩,E5⟩;refine asb rfl (ah (ab (ay (bE (v:=.bool _) rfl rfl (⟨⟨x,rfl,hx⟩,((aj.rfl_.next E2).next E5)⟩)))))
noncomputable def IJ (id:ByteArray) (p:Pt):Bool:=@decide (x6 p id) (Classical.propDecidable _)
theorem l4 {id:ByteArray} {p:Pt}:IJ id p=true↔x6 p id:=by unfold IJ;exact @decide_eq_true_iff _ (Classical.propDecidable _)
theorem ta (ps:List Pt) (L D:List Dc) (s:Nat) (Ap:Option Addr) (cp:Nat) (Al:Option Addr) (cl:Nat) (w:World) (h:ShH w ps L s Ap cp Al cl) (hG:ShG ps L D) (id:ByteArray) :
 Rt prog 37 [.pointer (some ⟨s,0,none⟩),.string id] w (fun v w'=>((∃ i:Nat,v=.int .i64 (i:Nat)∧∃ hi:i<ps.length,x6 ps[i] id)∨(v=.int .i64 (-1)∧∀ p∈ps,¬ x6 p id))∧aj w w'):=by
 have hll:=hG.parts;refine enter (n:=11) Tryz.func37 rfl rfl rfl (af (aa (cK (v:=.string _) rfl ?_)));intro b3 w1 E3 hb3 hk3;refine asi rfl (ah (ab (af (aa (mvp rfl (ae (ar rfl) (ae (ak bW rfl) (ae (an dH rfl (by exact (h.blk.from_ (aj.rfl_.next E3)).rd 0 rfl)) ?_))))))));refine ae (eR (v':=.func (.func 67) #[] #[.pointer (some ⟨b3,0,none⟩)]) (gG (l1:=[]) (l2:=[.tmp 3])) rfl) ?_;refine aF BV (Br 67 [.pointer (some ⟨b3,0,none⟩)] (IJ id) w_ Ap cp ps.length ps _ ((dg.own j7 (by decide) h.rowP).2.from_ (aj.rfl_.next E3)) rfl (by omega) (fun w2 x hx hF=>(Di x w2 ((h.ptIn hG hx).from_ (((aj.rfl_.next E3)).next hF)) id b3 (hk3.from_ ((aj.rfl_).next hF))).mono (fun v w3 hv=>by obtain ⟨⟨y,rfl,hy⟩,hF2⟩:=hv;exact ⟨congrArg Value.bool (by rw [Bool.eq_iff_iff,hy,l4]),hF2⟩))) ?_;rintro v10 w2 ⟨hi10,E10⟩;rcases hi10 with ⟨i,rfl,hi,hp,_⟩ | ⟨rfl,hno⟩
 ·refine asi rfl (ah (ab (ay (bE (v:=.int _ _) rfl rfl (⟨?_,((aj.rfl_.next E3).next E10)⟩)))))
  first
   |exact .inl ⟨i,rfl,hi,by rw [SM.G_get Pz hi] at hp;exact l4.1 hp⟩
   |exact .inr ⟨rfl,fun p hp hq=>by
     obtain ⟨i,hi,rfl⟩:=List.getElem_of_mem hp;have:=hno i hi;rw [SM.G_get Pz hi,l4.2 hq] at this;cases this⟩
 refine asi rfl (ah (ab (ay (bE (v:=.int _ _) rfl rfl (⟨?_,((aj.rfl_.next E3).next E10)⟩)))))
 first
  |exact .inl ⟨i,rfl,hi,by rw [SM.G_get Pz hi] at hp;exact l4.1 hp⟩
  |exact .inr ⟨rfl,fun p hp hq=>by
    obtain ⟨i,hi,rfl⟩:=List.getElem_of_mem hp;have:=hno i hi;rw [SM.G_get Pz hi,l4.2 hq] at this;cases this⟩
theorem qj {w:World} {s:Nat} {ds:List Dc} {N:Nat} (hk:Blk w s 63 #[.slice none 0 0,.slice none 0 0]) (h0:ds.length=0) (hs:N≤s):eZ w (fun k=>N≤k) s ds:=by
 obtain rfl:=List.eq_nil_of_length_eq_zero h0;refine ⟨[],[],none,0,none,0,ShG.new0,⟨hk,World.ownsRow_nil _ _ _ _,World.ownsRow_nil _ _ _ _,fun p hp=>(by cases hp),List.Pairwise.nil,fun p hp=>(by cases hp),fun p hp=>(by cases hp)⟩,fun k hk=>?_⟩;rcases hk with (e | e | e | ⟨p,hp,_⟩) | ⟨p,hp,_⟩
 ·show N≤k;omega
 ·cases e
 ·cases e
 ·cases hp
 ·cases hp
theorem qi {w:World} {s lo hi s0 g:Nat} {ds:List Dc} {N:Nat} (hk:Blk w s 63 #[.slice (some ⟨g,0,none⟩) 1 1,.slice none 0 0]) (hg:Blk w g 66 #[.pointer (some ⟨s0,0,none⟩),.slice none 0 0]) (hsg:jT w lo hi s0 ds) (h0:0<ds.length) (h1:N≤lo) (h2:hi≤s) (h3:hi≤g) (h4:N≤s) (h5:N≤g) (ho:jZ ds) (hf:kq ds):eZ w (fun k=>N≤k) s ds:=by
 refine ⟨[Pt.of lo hi s0 ds],[],some ⟨g,0,none⟩,1,none,0,ShG.new1 lo hi s0 ho hf (fun e=>by rw [e] at h0;cases h0),⟨hk,F3 hg,World.ownsRow_nil _ _ _ _,fun p hp=>?_,List.pairwise_singleton ..,fun p hp=>?_,fun p hp k k1 k2 hm=>?_⟩,fun k hk=>?_⟩
 ·rw [List.mem_singleton.1 hp];exact World.ownsRow_nil _ _ _ _
 ·rw [List.mem_singleton.1 hp];exact hsg
 ·rw [List.mem_singleton.1 hp] at k2;have k3:k<hi:=k2;rcases hm with e | e | e | ⟨q,hq,e⟩
  ·omega
  ·cases e;have:g<hi:=k3;omega
  ·cases e
  ·rw [List.mem_singleton.1 hq] at e;cases e
 ·show N≤k;rcases hk with (e | e | e | ⟨q,hq,e⟩) | ⟨q,hq,e,_⟩
  ·omega
  ·cases e;exact h5
  ·cases e
  ·rw [List.mem_singleton.1 hq] at e;cases e
  ·rw [List.mem_singleton.1 hq] at e;have:lo≤k:=e;omega
theorem bM (A:Option Addr) (c n:Nat) (ds:List Dc) (w:World) (hr:dg 2 dV w A ds) (hn:n=ds.length) (hl:n≤100000000) (hn0:A=none→n=0∧c=0) :
 Rt prog 12 [.slice A n c] w (fun v w'=>((n9 ds≠0∧v=.tuple #[.pointer none,.int .i64 (n9 ds)])∨(n9 ds=0∧∃ s,v=.tuple #[.pointer (some ⟨s,0,none⟩),.int .i64 0]∧eZ w' (fun k=>w.heap.size≤k) s ds))∧aj w w'):=by
 refine enter (n:=27) Tryz.func12 rfl rfl rfl (af (aa (asp rfl (asi rfl (ah (ab (af (aa (mvs rfl ?_)))))))));have hz9:w.heap.size≤(w).heap.size:=(aj.rfl_).size;refine aF pt (Dp A c n ds _ (hr.from_ aj.rfl_) hn hl hn0) ?_;rintro v9 w1 ⟨hs9,E9⟩;rcases hs9 with ⟨hck,rfl⟩ | ⟨hck,s0,rfl,hsg⟩
 ·have hb33:(n9 ds != 0)=true:=by simpa using hck
  refine mvt rfl (ae (ax rfl rfl) (ae (ax rfl rfl) (asp rfl (asi rfl (ah (ab (af (af (aa (mvi rfl (ae (cD rfl rfl) (ah (ab ?_)))))))))))));refine JR rfl (fun Q2=>?_) (fun Q2=>?_)
  ·refine af (aa (mvi rfl (asp rfl (asi rfl (ah (ab (ay (aD (cV (v:=.pointer _) (v':=.int _ _) rfl rfl rfl (⟨.inl ⟨hck,rfl⟩,(aj.rfl_.next E9)⟩))))))))))
  first
   |(exfalso; first | (first | omega | (simp [hb33] at *; done); trace "@MK D bM:f9.0.c13- 1") | (contradiction; trace "@MK D bM:f9.0.c13- 2") | ((cases Q2; done); trace "@MK D bM:f9.0.c13- 3"))
   |(trace "@MK D bM:f9.0.c13- 0")
    refine av (ab (af (aa (ae (cM (l:=[]) (r_)) (cK (v:=.agg _) rfl ?_)))));intro b16 w3 E16 hb16 hk16;have hg16:w.heap.size≤b16:=by rw [hb16];exact ((aj.rfl_.next E9)).size
    have hs16:=E16.size;refine asp rfl (ah (ab (af (af (aa (mvs rfl (ae (aQ bG rfl) (ae (cL rfl rfl) (ah (ab (au rfl (fun Q4=>?_) (fun Q4=>?_))))))))))))
    ·(try with_reducible first | (replace Q4 := dT_ Q4; trace "@MK N bM:f9.0.c13-.c19+ 1.1") | (replace Q4 := dF_ Q4; trace "@MK N bM:f9.0.c13-.c19+ 1.2") | (replace Q4 := fm Q4; trace "@MK N bM:f9.0.c13-.c19+ 1.3") | (replace Q4 := fo Q4; trace "@MK N bM:f9.0.c13-.c19+ 1.4"))
     (try with_reducible first | (replace Q4 := dT_ Q4; trace "@MK N bM:f9.0.c13-.c19+ 2.1") | (replace Q4 := dF_ Q4; trace "@MK N bM:f9.0.c13-.c19+ 2.2") | (replace Q4 := eH Q4; trace "@MK N bM:f9.0.c13-.c19+ 2.3") | (replace Q4 := eI Q4; trace "@MK N bM:f9.0.c13-.c19+ 2.4") | (replace Q4 := fX Q4; trace "@MK N bM:f9.0.c13-.c19+ 2.5") | (replace Q4 := fY Q4; trace "@MK N bM:f9.0.c13-.c19+ 2.6"))
     first
      |(exfalso; first | (first | omega | (simp [hb33] at *; done); trace "@MK D bM:f9.0.c13-.c19+ 1") | (contradiction; trace "@MK D bM:f9.0.c13-.c19+ 2") | ((cases Q4; done); trace "@MK D bM:f9.0.c13-.c19+ 3"))
      |(trace "@MK D bM:f9.0.c13-.c19+ 0")
       refine aa (mvp rfl (mvp rfl (ae (cM (l:=[(0,.tmp 21)]) (kf _)) (gV eX rfl rfl rfl ?_))));intro b23 w5 E23 hb23 hk23;have hsk2:=hsk.from_ (((aj.rfl_.next E16)).next E23);refine ae (ar rfl) (ae (ak bW rfl) (bH (v:=.slice _ _ _) iK rfl rfl rfl (hk16.from_ E23) (by show 0<2;decide) ?_));intro w6 O6 P6;refine ah (ab (af (aa (mvp rfl (asp rfl (asi rfl (ah (ab (ay (cV (v:=.pointer _) (v':=.int _ _) rfl rfl rfl ?_))))))))))
       first
        |exact ⟨.inr ⟨hck,b16,rfl,qj hk16 (by omega) hg16⟩,((((aj.rfl_.next E9).next E16).next E23).only O6 (hg16))⟩
        |exact ⟨.inr ⟨hck,b16,rfl,qi P6 (hk23.only O6 (by have:=hk16.lt;omega)) (hsk2.chg (O6.toChg (U:=fun k=>k=b16) rfl) (fun k _ h2 e=>by have e2:k=b16:=e;omega)) (by omega) hz9 (by omega) (by omega) hg16 (by omega) hord hfit⟩,((((aj.rfl_.next E9).next E16).next E23).only O6 (hg16))⟩
    (try with_reducible first | (replace Q4 := dT_ Q4; trace "@MK N bM:f9.0.c13-.c19- 1.1") | (replace Q4 := dF_ Q4; trace "@MK N bM:f9.0.c13-.c19- 1.2") | (replace Q4 := fm Q4; trace "@MK N bM:f9.0.c13-.c19- 1.3") | (replace Q4 := fo Q4; trace "@MK N bM:f9.0.c13-.c19- 1.4"))
    (try with_reducible first | (replace Q4 := dT_ Q4; trace "@MK N bM:f9.0.c13-.c19- 2.1") | (replace Q4 := dF_ Q4; trace "@MK N bM:f9.0.c13-.c19- 2.2") | (replace Q4 := eH Q4; trace "@MK N bM:f9.0.c13-.c19- 2.3") | (replace Q4 := eI Q4; trace "@MK N bM:f9.0.c13-.c19- 2.4") | (replace Q4 := fX Q4; trace "@MK N bM:f9.0.c13-.c19- 2.5") | (replace Q4 := fY Q4; trace "@MK N bM:f9.0.c13-.c19- 2.6"))
    first
     |(exfalso; first | (first | omega | (simp [hb33] at *; done); trace "@MK D bM:f9.0.c13-.c19- 1") | (contradiction; trace "@MK D bM:f9.0.c13-.c19- 2") | ((cases Q4; done); trace "@MK D bM:f9.0.c13-.c19- 3"))
     |(trace "@MK D bM:f9.0.c13-.c19- 0")
      refine av (ab (af (aa (mvp rfl (asp rfl (asi rfl (ah (ab (ay (cV (v:=.pointer _) (v':=.int _ _) rfl rfl rfl ?_))))))))))
      first
       |exact ⟨.inr ⟨hck,b16,rfl,qj hk16 (by omega) hg16⟩,((aj.rfl_.next E9).next E16)⟩
       |exact ⟨.inr ⟨hck,b16,rfl,qi P6 (hk23.only O6 (by have:=hk16.lt;omega)) (hsk2.chg (O6.toChg (U:=fun k=>k=b16) rfl) (fun k _ h2 e=>by have e2:k=b16:=e;omega)) (by omega) hz9 (by omega) (by omega) hg16 (by omega) hord hfit⟩,((aj.rfl_.next E9).next E16)⟩
 have hsz9:=((aj.rfl_.next E9)).size;have hsk:=jT.of hsg;obtain ⟨hord,hfit⟩:=hsg.docs;refine mvt rfl (ae (ax rfl rfl) (ae (ax rfl rfl) (asp rfl (asi rfl (ah (ab (af (af (aa (mvi rfl (ae (cD rfl rfl) (ah (ab ?_)))))))))))));refine JR rfl (fun Q7=>?_) (fun Q7=>?_)
 ·first
   |(exfalso; first | (first | omega | (simp [hb33] at *; done); trace "@MK D bM:f9.1.c13+ 1") | (contradiction; trace "@MK D bM:f9.1.c13+ 2") | ((cases Q7; done); trace "@MK D bM:f9.1.c13+ 3"))
   |(trace "@MK D bM:f9.1.c13+ 0")
    refine af (aa (mvi rfl (asp rfl (asi rfl (ah (ab (ay (aD (cV (v:=.pointer _) (v':=.int _ _) rfl rfl rfl (⟨.inl ⟨hck,rfl⟩,(aj.rfl_.next E9)⟩))))))))))
 refine av (ab (af (aa (ae (cM (l:=[]) (r_)) (cK (v:=.agg _) rfl ?_)))));intro b16 w8 E16 hb16 hk16;have hg16:w.heap.size≤b16:=by rw [hb16];exact ((aj.rfl_.next E9)).size
 have hs16:=E16.size;refine asp rfl (ah (ab (af (af (aa (mvs rfl (ae (aQ bG rfl) (ae (cL rfl rfl) (ah (ab (JV rfl (fun Q9=>?_) (fun Q9=>?_))))))))))))
 ·refine aa (mvp rfl (mvp rfl (ae (cM (l:=[(0,.tmp 21)]) (kf _)) (gV eX rfl rfl rfl ?_))));intro b23 w10 E23 hb23 hk23;have hsk2:=hsk.from_ (((aj.rfl_.next E16)).next E23);refine ae (ar rfl) (ae (ak bW rfl) (bH (v:=.slice _ _ _) iK rfl rfl rfl (hk16.from_ E23) (by show 0<2;decide) ?_));intro w11 O6 P6;refine ah (ab (af (aa (mvp rfl (asp rfl (asi rfl (ah (ab (ay (cV (v:=.pointer _) (v':=.int _ _) rfl rfl rfl ?_))))))))))
  first
   |exact ⟨.inr ⟨hck,b16,rfl,qj hk16 (by omega) hg16⟩,((((aj.rfl_.next E9).next E16).next E23).only O6 (hg16))⟩
   |exact ⟨.inr ⟨hck,b16,rfl,qi P6 (hk23.only O6 (by have:=hk16.lt;omega)) (hsk2.chg (O6.toChg (U:=fun k=>k=b16) rfl) (fun k _ h2 e=>by have e2:k=b16:=e;omega)) (by omega) hz9 (by omega) (by omega) hg16 (by omega) hord hfit⟩,((((aj.rfl_.next E9).next E16).next E23).only O6 (hg16))⟩
 refine av (ab (af (aa (mvp rfl (asp rfl (asi rfl (ah (ab (ay (cV (v:=.pointer _) (v':=.int _ _) rfl rfl rfl ?_))))))))))
 first
  |exact ⟨.inr ⟨hck,b16,rfl,qj hk16 (by omega) hg16⟩,((aj.rfl_.next E9).next E16)⟩
  |exact ⟨.inr ⟨hck,b16,rfl,qi P6 (hk23.only O6 (by have:=hk16.lt;omega)) (hsk2.chg (O6.toChg (U:=fun k=>k=b16) rfl) (fun k _ h2 e=>by have e2:k=b16:=e;omega)) (by omega) hz9 (by omega) (by omega) hg16 (by omega) hord hfit⟩,((aj.rfl_.next E9).next E16)⟩
theorem jb (U:Nat→Prop) (s:Nat) (D:List Dc) (w:World) (hs:eZ w U s D) :
 Rt prog 24 [.pointer (some ⟨s,0,none⟩)] w (fun _ w'=>eZ w' (Nx U w w') s D∧Chg U w w'):=by
 have hs0:=hs;obtain ⟨ps,L,Ap,cp,Al,cl,hG,h,hU⟩:=hs;have hll:=hG.loose;have hpl:=hG.parts;refine enter (n:=34) Tryz.func24 rfl rfl rfl (af (af (aa (mvp rfl (ae (ar rfl) (ae (ak dO rfl) (ae (an cQ rfl (by exact (h.blk.from_ aj.rfl_).rd 1 rfl)) ?_)))))));refine ae (aQ bG rfl) (ae (cx rfl rfl) (ah (ab (JV rfl (fun Q1=>?_) (fun Q1=>?_)))))
 ·refine ay (aD (kh rfl (hs0.same aj.rfl_)))
 refine av (ab (af (aa (mvp rfl (ae (ar rfl) (ae (ak dO rfl) (ae (an cQ rfl (by exact (h.blk.from_ aj.rfl_).rd 1 rfl)) ?_)))))));have hz15:w.heap.size≤(w).heap.size:=(aj.rfl_).size;refine aF pt (Dp Al cl L.length L _ ((dg.own bz (by decide) h.rowL).2.from_ aj.rfl_) rfl (by omega) (q_ h.rowL)) ?_;rintro v15 w2 ⟨hs15,E15⟩;rcases hs15 with ⟨hck,rfl⟩ | ⟨hck,s0,rfl,hsg⟩
 ·have hb33:(n9 L != 0)=true:=by simpa using hck
  refine mvt rfl (ae (ax rfl rfl) (ae (ax rfl rfl) (asp rfl (asi rfl (ah (ab (af (af (aa (mvi rfl (ae (cD rfl rfl) (ah (ab ?_)))))))))))));refine JR rfl (fun Q3=>?_) (fun Q3=>?_)
  ·refine ay (aD (kh rfl (hs0.same (aj.rfl_.next E15))))
  first
   |(exfalso; first | (first | omega | (simp [hb33] at *; done); trace "@MK D jb:c9-.f15.0.c19- 1") | (contradiction; trace "@MK D jb:c9-.f15.0.c19- 2") | ((cases Q3; done); trace "@MK D jb:c9-.f15.0.c19- 3"))
   |(trace "@MK D jb:c9-.f15.0.c19- 0")
    refine av (ab (af (aa (mvp rfl (mvp rfl (ae (ar rfl) (ae (ak bW rfl) (ae (an dH rfl (by exact (h.blk.from_ (aj.rfl_.next E15)).rd 0 rfl)) ?_))))))));refine mvp rfl (ae (cM (l:=[(0,.tmp 25)]) (kf _)) (gV eX rfl rfl rfl ?_));intro b27 w4 E27 hb27 hk27;have hF28:=((aj.rfl_.next E15).next E27);have hsk2:=hsk.from_ ((aj.rfl_.next E27));refine gn (base:=0) eX rfl (by decide) rfl (A:=Ap) (xs:=ps.flatMap ptV) (news:=[.pointer (some ⟨s0,0,none⟩),.slice none 0 0]) (h.rowP.kept_from ((aj.rfl_.next E15).next E27)) (Nat.zero_le _) rfl rfl ⟨b27,0,rfl,hk27.whole⟩ (by simp [Value.oneCell']) (by omega) (by omega) ?_;intro A28 c28 w5 ho28 hg28 hL28;have hb28:=(h.blk.from_ hF28).grown hg28 (cZ (h.rowP.kept_from hF28) (h.blk.from_ hF28) (by decide));refine ae (ar rfl) (ae (ak bW rfl) (bH (v:=.slice _ _ _) iK rfl rfl rfl (hb28) (by show 0<2;decide) ?_));intro w6 O3 P3;refine ah (ab (aa (mvp rfl (ae (ar rfl) (ae (ak dO rfl) (bH (v:=.slice _ _ _) mJ rfl rfl rfl (P3) (by show 1<2;decide) ?_))))));intro w7 O4 P4;refine ah (gk (kh rfl ?_));have hne:L≠[]:=fun e=>by subst e;simp_all
    have hlen:(ps++[Pt.of lo hi s0 L]).length=ps.length+1:=List.length_append;refine nL (ps':=ps++[Pt.of lo hi s0 L]) (L':=[]) h hU hF28 (((Chg.of_grown hg28 (fun k e=>.inr e)).only O3 (.inl rfl)).only O4 (.inl rfl)) (by rw [hlen];exact P4) ?_ (fun k hk=>hL28.elim (fun e=>.inl (e ▸ hk)) (fun e=>.inr (by rw [e] at hk;cases hk;exact Nat.le_refl _))) (.inr ⟨rfl,rfl,rfl⟩) (fun p hp=>?_) ?_ (hG.seal lo hi s0 hne)
    ·rw [hlen,List.flatMap_append];exact cf (cf ho28 O3 (cZ ho28 hb28 (by decide))) O4 (cZ (cf ho28 O3 (cZ ho28 hb28 (by decide))) P3 (by decide))
    ·rcases List.mem_append.1 hp with hp | hp
     ·exact .inl hp
     ·rw [List.mem_singleton.1 hp];exact .inr ⟨rfl,rfl,rfl,hsk2,hlo⟩
    ·refine List.pairwise_append.2 ⟨h.apart,List.pairwise_singleton ..,fun a _ b hb=>?_⟩;rw [List.mem_singleton.1 hb];exact fun p hp q hq=>by cases hq
 obtain ⟨lo,hi,hlo,hhi,hsk⟩:=jT.ex hsg hz15;refine mvt rfl (ae (ax rfl rfl) (ae (ax rfl rfl) (asp rfl (asi rfl (ah (ab (af (af (aa (mvi rfl (ae (cD rfl rfl) (ah (ab ?_)))))))))))));refine JR rfl (fun Q8=>?_) (fun Q8=>?_)
 ·first
   |(exfalso; first | (first | omega | (simp [hb33] at *; done); trace "@MK D jb:c9-.f15.1.c19+ 1") | (contradiction; trace "@MK D jb:c9-.f15.1.c19+ 2") | ((cases Q8; done); trace "@MK D jb:c9-.f15.1.c19+ 3"))
   |(trace "@MK D jb:c9-.f15.1.c19+ 0")
    refine ay (aD (kh rfl (hs0.same (aj.rfl_.next E15))))
 refine av (ab (af (aa (mvp rfl (mvp rfl (ae (ar rfl) (ae (ak bW rfl) (ae (an dH rfl (by exact (h.blk.from_ (aj.rfl_.next E15)).rd 0 rfl)) ?_))))))));refine mvp rfl (ae (cM (l:=[(0,.tmp 25)]) (kf _)) (gV eX rfl rfl rfl ?_));intro b27 w9 E27 hb27 hk27;have hF28:=((aj.rfl_.next E15).next E27);have hsk2:=hsk.from_ ((aj.rfl_.next E27));refine gn (base:=0) eX rfl (by decide) rfl (A:=Ap) (xs:=ps.flatMap ptV) (news:=[.pointer (some ⟨s0,0,none⟩),.slice none 0 0]) (h.rowP.kept_from ((aj.rfl_.next E15).next E27)) (Nat.zero_le _) rfl rfl ⟨b27,0,rfl,hk27.whole⟩ (by simp [Value.oneCell']) (by omega) (by omega) ?_;intro A28 c28 w10 ho28 hg28 hL28;have hb28:=(h.blk.from_ hF28).grown hg28 (cZ (h.rowP.kept_from hF28) (h.blk.from_ hF28) (by decide));refine ae (ar rfl) (ae (ak bW rfl) (bH (v:=.slice _ _ _) iK rfl rfl rfl (hb28) (by show 0<2;decide) ?_));intro w11 O3 P3;refine ah (ab (aa (mvp rfl (ae (ar rfl) (ae (ak dO rfl) (bH (v:=.slice _ _ _) mJ rfl rfl rfl (P3) (by show 1<2;decide) ?_))))));intro w12 O4 P4;refine ah (gk (kh rfl ?_));have hne:L≠[]:=fun e=>by subst e;simp_all
 have hlen:(ps++[Pt.of lo hi s0 L]).length=ps.length+1:=List.length_append;refine nL (ps':=ps++[Pt.of lo hi s0 L]) (L':=[]) h hU hF28 (((Chg.of_grown hg28 (fun k e=>.inr e)).only O3 (.inl rfl)).only O4 (.inl rfl)) (by rw [hlen];exact P4) ?_ (fun k hk=>hL28.elim (fun e=>.inl (e ▸ hk)) (fun e=>.inr (by rw [e] at hk;cases hk;exact Nat.le_refl _))) (.inr ⟨rfl,rfl,rfl⟩) (fun p hp=>?_) ?_ (hG.seal lo hi s0 hne)
 ·rw [hlen,List.flatMap_append];exact cf (cf ho28 O3 (cZ ho28 hb28 (by decide))) O4 (cZ (cf ho28 O3 (cZ ho28 hb28 (by decide))) P3 (by decide))
 ·rcases List.mem_append.1 hp with hp | hp
  ·exact .inl hp
  ·rw [List.mem_singleton.1 hp];exact .inr ⟨rfl,rfl,rfl,hsk2,hlo⟩
 ·refine List.pairwise_append.2 ⟨h.apart,List.pairwise_singleton ..,fun a _ b hb=>?_⟩;rw [List.mem_singleton.1 hb];exact fun p hp q hq=>by cases hq
end Go.Proofs.YtcbakncjacnnjaaGreat
namespace Go.Proofs.YtcbakncjacnnjaaGreat
open Go.Proofs.Tryz (prog)
open Go.RowKit
def Gr (a w:World):Prop:=∃ q os,w=Go.Sort.grow (a.drewN q) os
theorem Gr.rfl_ {a:World}:Gr a a:=⟨0,#[],by rw [Go.Sort.grow_empty];rfl⟩
theorem Gr.d1 {a w:World} (h:Gr a w):Gr a w.drew:=by
 obtain ⟨q,os,rfl⟩:=h;exact ⟨q+1,os,rfl⟩
theorem Gr.next {a w w':World} (h:Gr a w) (k:Gr w w'):Gr a w':=by
 obtain ⟨q,os,rfl⟩:=h;obtain ⟨q2,os2,rfl⟩:=k;refine ⟨q+q2,os++os2,?_⟩;unfold Go.Sort.grow World.drewN;simp [Array.append_assoc,Nat.add_assoc]
theorem Gr.alloc (w:World) (o:Obj):Gr w (w.alloc o):=⟨0,#[o],Go.Sort.alloc_eq_grow w o⟩
theorem Gr.new {a w:World} (h:Gr a w) (o:Obj):Gr a (w.alloc o):=h.next (Gr.alloc w o)
theorem Gr.from_ {a w:World} (h:Gr a w):aj a w:=by
 obtain ⟨q,os,rfl⟩:=h;refine (aj.rfl_.dn q).next ⟨rfl,rfl,rfl,by simp [Go.Sort.grow],fun k hk=>?_⟩;show (_++os)[k]? =_;rw [Array.getElem?_append_left hk]
namespace DG
def kN:List (Nat×(Value→World→Prop))→Prop
 |[]=>True
 |(_,R)::r=>(∀ v w1 w2,Gr w1 w2→R v w1→R v w2)∧kN r
theorem ag (x:Value):∀ v w1 w2,Gr w1 w2→eqp x v w1→eqp x v w2:=fun _ _ _ _ h=>h
theorem dD:∀ {l:List (Nat×(Value→World→Prop))},kN l→∀ t v w1 w2,Gr w1 w2→dX l t v w1→dX l t v w2
 |[],_,_,_,_,_,_,_=>trivial
 |(k,R)::r,⟨h1,h2⟩,t,v,w1,w2,hF,h=>by
  have e:dX ((k,R)::r) t=bif Nat.beq t k then R else dX r t:=rfl
  rw [e] at h ⊢;cases hb:Nat.beq t k with
  |true=>rw [hb] at h;exact h1 _ _ _ hF h
  |false=>rw [hb] at h;exact dD h2 t v w1 w2 hF h
def al (P:Program) (ops:Array Oper) (n:Fr) (L:List (Nat×Value)) (o:Oper) (w:World) (R:Value→World→Prop):Prop:=
 (Region.wanted o (yielded ops (mkT n.n L))=true∧((∃ v w',(execOp (ev n L) o).run P w=.ok (.value v) w'∧Gr w w'∧R v w')∨
  (∃ f l,(execOp (ev n L) o).run P w=.ok (.enter f (List.toArray l)) w∧Rt P f l w fun v w'=>Gr w w'∧R v w')))∨
 (Region.wanted o (yielded ops (mkT n.n L))=false∧R undef w)
section
variable {P:Program} {ops:Array Oper} {n:Fr} {L:List (Nat×Value)} {w w':World} {op:Op} {ty:TypeId} {pos:String} {after:Array Edge} {d:Option Nat} {R:Value→World→Prop}
theorem fG {v:Value} (hr:RO P (ev n L) op w v w') (hF:Gr w w') (hR:R v w'):al P ops n L ⟨d,op,ty,pos,after,none⟩ w R:=
 .inl ⟨rfl,.inl ⟨v,w',hr _ _ _ _ _,hF,hR⟩⟩
theorem ai {v:Value} (hr:RO P (ev n L) op w v w) (hR:R v w):al P ops n L ⟨d,op,ty,pos,after,none⟩ w R:=fG hr Gr.rfl_ hR
theorem er {f:FuncId} {l:List Operand} {ats:Array TypeId} (hf:az P f=true) (hc:Rt P f (l.map (ev n L)) w fun v w'=>Gr w w'∧R v w') :
 al P ops n L ⟨d,.call { callee:=.value (.func f),args:=l.toArray,argTypes:=ats },ty,pos,after,none⟩ w R:=
 .inl ⟨rfl,.inr ⟨f,l.map (ev n L),by rw [jz (fun _=>rfl),f_ hf],hc⟩⟩
end
def sq (P:Program) (ops:Array Oper) (n:Fr) (L:List (Nat×Value)) (w:World) (R:Nat→Value→World→Prop) (pre:List Nat):List Oper→Prop
 |[]=>True
 |o::r=>(∀ w',Gr w w'→gh R w' (nK ops pre o) fun M=>al P ops n (M++L) o w' (R (o.dst.getD 0)))∧sq P ops n L w R pre r
section
variable {P:Program} {ops:Array Oper} {Q:Exit→Act→World→Prop} {rest:List Oper} {n:Fr} {L:List (Nat×Value)} {w:World} {ty:TypeId} {pos:String} {after:Array Edge} {d:Nat} {t:TypeId} {x y:Operand}
theorem cK {v:Value} (hx:ev n L x=v) (k:∀ b w',Gr w w'→b=w.heap.size→Blk w' b t v.cells→St P ops Q rest n ((d,.pointer (some ⟨b,0,none⟩))::L) w') :
 St P ops Q (⟨some d,.box t x,ty,pos,after,none⟩::rest) n L w:=
 ae (xH hx) (k _ _ (Gr.rfl_.new _) rfl (Blk.new w t _))
end
def gC (P:Program) (ops:Array Oper) (n:Fr) (L:List (Nat×Value)) (I2:World→Prop) (R1 R2:Nat→Value→World→Prop) (l0:List Oper) (K:Nat) (mu:Nat):Nat→List Oper→Prop
 |_,[]=>True
 |i,o::r=>(Nat.beq i mu=false→∀ w',I2 w'→gh R2 w' (eu l0 K i o) fun M=>al P ops n (M++L) o w' (R1 (o.dst.getD 0)))∧gC P ops n L I2 R1 R2 l0 K mu (i+1) r
theorem kA {P:Program} {ops:Array Oper} {n:Fr} {L:List (Nat×Value)} {I2:World→Prop} {R1 R2:Nat→Value→World→Prop} {l0:List Oper} {K mu:Nat}:∀ {l:List Oper} {k:Nat},gC P ops n L I2 R1 R2 l0 K mu k l→∀ (i:Nat) (o:Oper),l[i]? =some o→k+i≠mu→
 ∀ w',I2 w'→gh R2 w' (eu l0 K (k+i) o) fun M=>al P ops n (M++L) o w' (R1 (o.dst.getD 0))
 |[],_,_,i,o,h,_=>by simp at h
 |x::r,k,⟨h1,h2⟩,0,o,h,hne=>by
  simp only [List.getElem?_cons_zero,Option.some.injEq] at h;subst h;rw [Nat.add_zero] at hne ⊢;refine h1 ?_;rw [←Bool.not_eq_true];intro hb;exact hne (Nat.eq_of_beq_eq_true hb)
 |x::r,k,⟨h1,h2⟩,i+1,o,h,hne=>by
  have:=kA h2 i o (by simpa using h) (by omega)
  rwa [show k+1+i=k+(i+1) by omega] at this
theorem jJ {P:Program} {ops:Array Oper} {n:Fr} {L:List (Nat×Value)} {I2:World→Prop} {R1 R2:Nat→Value→World→Prop} {l0:List Oper} {K mu:Nat} {l:List Oper} (h:gC P ops n L I2 R1 R2 l0 K mu 0 l) (i:Nat) (o:Oper) (ho:l[i]? =some o) (hne:i≠mu)
 (w':World) (hw:I2 w'):gh R2 w' (eu l0 K i o) fun M=>al P ops n (M++L) o w' (R1 (o.dst.getD 0)):=by
 have:=kA h i o ho (by rw [Nat.zero_add];exact hne) w' hw
 rwa [Nat.zero_add] at this
section late
variable {P:Program} {Q:Exit→Act→World→Prop} {n:Fr} {L:List (Nat×Value)} {w:World} {l:List Oper} {K mu:Nat} {I1 I2:World→Prop} {R1 R:Nat→Value→World→Prop}
theorem kG (hQ:PQ Q) (hc:jL l K=true) (hop:gC P l.toArray n L I2 R1 R l K mu 0 (l.take K)) (h12:∀ t v w,R1 t v w→R t v w) (hmuL:mu<K→cR l K mu=false)
 (hend:∀ w',I2 w'→gh R w' (dW l K) fun M=>St P l.toArray Q (l.drop K) n (M++L) w') (m:Nat) (listed:Array Bool) (L':List (Nat×Value)) (w':World) (hcl:gm l listed) (hcount:listed.toList.count false=m) (hs:listed.size=l.length)
 (htail:∀ j,K≤j→j<l.length→listed.getD j true=false) (hF:I2 w')
 (hfr:∀ t,(∀ i o,i<K→l[i]? =some o→listed.getD i true=true→o.dst≠some t)→aY L' t=aY L t)
 (hR:∀ i o d,i<K→l[i]? =some o→listed.getD i true=true→o.dst=some d→R d (aY L' d) w') (hpre:∀ i,i<K→listed.getD i true=false→cR l K i=true):wpAny P .any l.toArray Q m listed (mkA n L') w':=by
 have hc1:=(Bool.and_eq_true_iff.1 hc).1;have hlate:=(Bool.and_eq_true_iff.1 hc).2;have hKl:K≤l.length:=dT_ (Bool.and_eq_true_iff.1 hc1).1;have hck:=(List.all_eq_true.1 (Bool.and_eq_true_iff.1 hc1).2)
 have hhead:∀ i,i<K→∃ o d,l[i]? =some o∧o.dst=some d∧dq o.op=false∧(∀ j oj,j<K→j≠i→l[j]? =some oj→oj.dst≠some d):=by
  intro i hi;have hil:i<l.length:=by omega
  have hx:=hck i (List.mem_range.2 hil);rw [List.getElem?_eq_getElem hil] at hx;simp only [Bool.and_eq_true] at hx;have h3:=hx.2;rw [if_pos hi] at h3;simp only [Bool.and_eq_true] at h3;obtain ⟨h3a,h3b⟩:=h3;cases hod:(l[i]).dst with
  |none=>rw [hod] at h3a;cases h3a
  |some d=>
   rw [hod] at h3a;simp only [Bool.and_eq_true] at h3a;refine ⟨l[i],d,List.getElem?_eq_getElem hil,hod,by simpa using hx.1.2,fun j oj hj hne hoj e=>?_⟩;have h5:=List.all_eq_true.1 h3a.1 j (List.mem_range.2 hj);rw [hoj] at h5;simp [hne,e] at h5
 have hval:∀ i,i<K→listed.getD i true=false→∃ v,∀ o d,l[i]? =some o→o.dst=some d→Yields P l.toArray o v (mkA n L')∧R d v w':=by
  intro i hi hf;have hil8:=hpre i hi hf;obtain ⟨o,d,ho,hd,hsel,_⟩:=hhead i hi;obtain ⟨hk,hg,hap⟩:=iD hlate hi ho hil8
  have hfact:∀ t∈eu l K i o,R t (aY L' t) w':=by
   intro t ht;obtain ⟨ht2,j,oj,hjK,hj,hdj,hji,_⟩:=gF hc hi ho ht;refine hR j oj t hjK hj ?_ hdj;cases hb:listed.getD j true with
   |true=>rfl
   |false=>
    have h6:=hpre j hjK hb;have h7:=(Oper.apart_spec (hap j oj hj (by omega) (.inl ⟨hjK,h6⟩))).2.2 t hdj;exact absurd (by simpa using ht2) h7
  have hlooks:=pb (L:=L) hc hcl hs ho (by omega) hf hfr;have hok:=eJ (aY L') _ hfact (jJ hop i o (by rw [List.getElem?_take,if_pos hi];exact ho) (by intro e;rw [e,hmuL (by omega)] at hil8;cases hil8) w' hF);obtain ⟨hE,hW⟩:=eN (n:=n) (ops:=l.toArray) (o:=o) hsel hlooks;rw [hd] at hok;simp only [Option.getD_some] at hok
  have hyl:∃ v,Yields P l.toArray o v (mkA n L')∧R d v w':=by
   unfold al at hok;rw [hE,hW] at hok;rcases hok with ⟨hw,⟨v,w'',hr,hF',hRv⟩ | ⟨f,args,hr,hcall⟩⟩ | ⟨hw,hRv⟩
   ·obtain ⟨rfl,hall⟩:=rp hk hr;refine ⟨v,.inl ⟨hw,fun w2=>?_⟩,h12 _ _ _ hRv⟩;rw [bU];exact hall w2
   ·exfalso;obtain ⟨dst,op,ty,pos,after,guard⟩:=o;cases op <;> simp only [pK,Bool.false_eq_true] at hk <;> simp only [execOp,Sem.run_pure,Sem.run_bind,Result.ok.injEq] at hr
    ·cases hr.1
    ·cases hr.1
    ·rename_i x i';cases hx:ev n L' x <;> simp only [hx,Instr.extract] at hr <;> (try (simp at hr;done))
     rename_i vs;cases hv:vs[i']? <;> simp [hv] at hr
   ·exact ⟨undef,.inr ⟨hw,rfl⟩,h12 _ _ _ hRv⟩
  obtain ⟨v,hv1,hv2⟩:=hyl;refine ⟨v,fun o' d' ho' hd'=>?_⟩;rw [ho] at ho';cases ho';rw [hd] at hd';cases hd';exact ⟨hv1,hv2⟩
 obtain ⟨f,hf⟩:∃ f:Nat→Value,∀ i,i<K→listed.getD i true=false→∀ o d,l[i]? =some o→o.dst=some d→Yields P l.toArray o (f i) (mkA n L')∧R d (f i) w':=by
  refine ⟨fun i=>open Classical in if h:∃ v,∀ o d,l[i]? =some o→o.dst=some d→Yields P l.toArray o v (mkA n L')∧R d v w' then h.choose else undef,fun i hi hl=>?_⟩;have h:=hval i hi hl;simp only [dif_pos h];exact h.choose_spec
 have hUm:∀ i,i∈(List.range K).filter (fun i=> !listed.getD i true)↔i<K∧listed.getD i true=false:=fun i=>by
  rw [List.mem_filter,List.mem_range];simp
 obtain ⟨U,hU,hUn⟩:∃ U:List Nat,(∀ i,i∈U↔i<K∧listed.getD i true=false)∧U.Nodup:=⟨_,hUm,List.nodup_range.sublist (List.filter_sublist ..)⟩;have hbind:∀ {i:Nat} {o:Oper},l[i]? =some o→(l[i]?).bind (·.dst)=o.dst:=fun h=>by rw [h];rfl
 have hRall:∀ d∈dW l K,R d (aY ((U.filterMap fun i=>((l[i]?).bind (·.dst)).map fun d=>(d,f i))++L') d) w':=by
  intro d hd;obtain ⟨o,ho,hod⟩:=List.mem_filterMap.1 hd;obtain ⟨i,hi⟩:=List.mem_iff_getElem?.1 ho;rw [List.getElem?_take] at hi;split at hi
  ·rename_i hiK;obtain ⟨o',d',ho',hd',_,hdist⟩:=hhead i hiK;rw [hi] at ho';cases ho';rw [hod] at hd';cases hd'
   have hne:∀ j∈U,j≠i→(l[j]?).bind (·.dst)≠some d:=fun j hj hji=>by
    have hjK:=((hU j).1 hj).1;obtain ⟨oj,dj,hoj,_⟩:=hhead j hjK;rw [hbind hoj];exact hdist j oj hjK hji hoj
   cases hb:listed.getD i true with
   |true=>
    rw [gM U fun j hj=>hne j hj (fun e=>by subst e;have:=((hU j).1 hj).2;rw [hb] at this;cases this)];exact hR i o d hiK hi hb hod
   |false=>
    rw [jh U ((hU i).2 ⟨hiK,hb⟩) ((hbind hi).trans hod) hne];exact (hf i hiK hb o d hi hod).2
  ·cases hi
 have he:=eJ _ (dW l K) hRall (hend w' hF)
 have hL:mkA n ((dW l K).map (fun d=>(d,aY ((U.filterMap fun i=>((l[i]?).bind (·.dst)).map fun d=>(d,f i))++L') d))++L)=eB l f U (mkA n L'):=by
  rw [nR];refine gK fun t _=>?_
  rw [jM];split
  ·rfl
  ·rename_i hne
   have hnd:∀ i,i<K→∀ o,l[i]? =some o→o.dst≠some t:=fun i hi o ho hod=>hne (by
    simp only [List.elem_eq_mem,decide_eq_true_eq];exact List.mem_filterMap.2 ⟨o,List.mem_iff_getElem?.2 ⟨i,by rw [List.getElem?_take,if_pos hi];exact ho⟩,hod⟩)
   rw [gM U fun j hj=>by
    have hjK:=((hU j).1 hj).1;obtain ⟨oj,dj,hoj,_⟩:=hhead j hjK;rw [hbind hoj];exact hnd j hjK oj hoj]
   exact (hfr t fun i o hi ho _ hod=>hnd i hi o ho hod).symm
 replace he:=he.out;rw [hL] at he;refine mX hQ hc m K listed U _ w' hcl hcount hs (Nat.le_refl _) hKl (fun j h1 h2=>by rw [htail j h1 h2];simp [h1]) hUn (fun j hj=>⟨fun h=>(hU j).2 ⟨hj,h⟩,fun h=>((hU j).1 h).2⟩) (fun j hj=>?_) he;obtain ⟨h1,h2⟩:=(hU j).1 hj;obtain ⟨oj,dj,hoj,hdj,_⟩:=hhead j h1;exact ⟨h1,hpre j h1 h2,oj,hoj,(hf j h1 h2 oj dj hoj hdj).1⟩
theorem nW (hQ:PQ Q) (hc:jL l K=true) (hm1:∀ w1 w2,Gr w1 w2→I1 w1→I1 w2) (hm2:∀ w1 w2,Gr w1 w2→I2 w1→I2 w2) (hmono1:∀ t v w1 w2,Gr w1 w2→R1 t v w1→R1 t v w2) (hmono:∀ t v w1 w2,Gr w1 w2→R t v w1→R t v w2)
 (hop:gC P l.toArray n L I2 R1 R l K mu 0 (l.take K)) (h12:∀ t v w,R1 t v w→R t v w) (hmuL:mu<K→cR l K mu=false) (hmu:xj P l.toArray n L I1 I2 R1 R l K mu l[mu]?)
 (hend:∀ w',I2 w'→gh R w' (dW l K) fun M=>St P l.toArray Q (l.drop K) n (M++L) w') :
 ∀ (m:Nat) (listed:Array Bool) (L':List (Nat×Value)) (w':World),gm l listed→listed.toList.count false=m→listed.size=l.length→(∀ j,K≤j→j<l.length→listed.getD j true=false)→I2 w'→(listed.getD mu true=false→I1 w')→
  (∀ t,(∀ i o,i<K→l[i]? =some o→listed.getD i true=true→o.dst≠some t)→aY L' t=aY L t)→
  (∀ i o d,i<K→l[i]? =some o→listed.getD i true=true→o.dst=some d→R d (aY L' d) w')→(listed.getD mu true=false→∀ i o d,i<K→l[i]? =some o→listed.getD i true=true→o.dst=some d→R1 d (aY L' d) w')→wpAny P .any l.toArray Q m listed (mkA n L') w':=by
 have hc1:=(Bool.and_eq_true_iff.1 hc).1;have hlate:=(Bool.and_eq_true_iff.1 hc).2;have hKl:K≤l.length:=dT_ (Bool.and_eq_true_iff.1 hc1).1;have hck:=(List.all_eq_true.1 (Bool.and_eq_true_iff.1 hc1).2);intro m
 induction m with
 |zero=>
  intro listed L' w' hcl hcount hs htail hF hF1 hfr hR hR1
  exact kG hQ hc hop h12 hmuL hend 0 listed L' w' hcl hcount hs htail hF hfr hR (fun i hi h=>by
   have hm:listed[i]'(by omega)∈listed.toList:=by simp
   have hb:listed[i]'(by omega)=false:=by simpa [Array.getD,show i<listed.size by omega] using h
   rw [hb] at hm;exact absurd hcount (Nat.pos_iff_ne_zero.1 (List.count_pos_iff.2 hm)))
 |succ m ih=>
  intro listed L' w' hcl hcount hs htail hF hF1 hfr hR hR1;by_cases hpre:∀ i,i<K→listed.getD i true=false→cR l K i=true
  ·exact kG hQ hc hop h12 hmuL hend (m+1) listed L' w' hcl hcount hs htail hF hfr hR hpre
  ·
   have hn0:∃ i,i<K∧listed.getD i true=false∧cR l K i=false:=by
    refine Classical.byContradiction fun hno=>hpre fun i hi hf=>?_
    cases hb:cR l K i with
    |true=>rfl
    |false=>exact absurd ⟨i,hi,hf,hb⟩ hno
   obtain ⟨n0,hn0⟩:=hn0;obtain ⟨i0,hi0,hmin⟩:=exists_least (p:=fun i=>i<K∧listed.getD i true=false) ⟨n0,hn0.1,hn0.2.1⟩;have hi0l:i0<l.length:=by omega
   have hready:i0∈Region.ready .any l.toArray listed:=by
    refine mem_ready.2 ⟨hi0.2,l[i0],by rw [List.getElem?_toArray,List.getElem?_eq_getElem hi0l],fun e he hb=>?_⟩;have hx:=hck i0 (List.mem_range.2 hi0l);rw [List.getElem?_eq_getElem hi0l] at hx;simp only [Bool.and_eq_true] at hx;have he2:=List.all_eq_true.1 hx.1.1 e (by simpa using he);rw [hb] at he2;simp at he2;rw [←bg (by omega)];cases hb2:listed.getD e.on true with
    |true=>rfl
    |false=>exact absurd (hmin e.on ⟨by omega,hb2⟩) (by omega)
   refine ⟨fun h0=>(by rw [h0] at hready;cases hready),fun i hi=>?_⟩;obtain ⟨h0,o,ho,hall⟩:=mem_ready.1 hi;rw [List.getElem?_toArray] at ho;have hil:i<l.length:=(List.getElem?_eq_some_iff.1 ho).1;have hx:=hck i (List.mem_range.2 hil);rw [ho] at hx;simp only [Bool.and_eq_true] at hx
   have hiK:i<K:=by
    rcases Nat.lt_or_ge i K with h | h
    ·exact h
    ·exfalso;have h5:=eh hcl hall (ki hn0.2.2 ho h);rw [←bg (by omega),hn0.2.1] at h5;cases h5
   have h3:=hx.2;rw [if_pos hiK] at h3;simp only [Bool.and_eq_true] at h3;obtain ⟨h3a,h3b⟩:=h3;cases hod:o.dst with
   |none=>rw [hod] at h3a;cases h3a
   |some d=>
    rw [hod] at h3a;simp only [Bool.and_eq_true] at h3a;have hlooks:=pb (L:=L) hc hcl hs ho hil h0 hfr
    have hfactG:∀ (RR:Nat→Value→World→Prop),(∀ i o d,i<K→l[i]? =some o→listed.getD i true=true→o.dst=some d→RR d (aY L' d) w')→∀ t∈eu l K i o,RR t (aY L' t) w':=by
     intro RR hRR t ht;obtain ⟨_,j,oj,hjK,hj,hd,_,hdep⟩:=gF hc hiK ho ht;have h6:=eh hcl hall hdep;exact hRR j oj t hjK hj (by rw [bg (by omega)];exact h6) hd
    have hsel:dq o.op=false:=by simpa using hx.1.2
    obtain ⟨hE,hW⟩:=eN (n:=n) (ops:=l.toArray) (o:=o) hsel hlooks
    have next:∀ v w'',I2 w''→(i≠mu→listed.getD mu true=false→I1 w'')→R d v w''→(i≠mu→R1 d v w'')→(∀ t u,t≠d→R t u w'→(i=mu→R1 t u w')→R t u w'')→(i≠mu→∀ t u,R1 t u w'→R1 t u w'')→wpAny P .any l.toArray Q m (listed.setIfInBounds i true) ((mkA n L').put (some d) v) w'':=by
     intro v w'' hI2' hI1' hRv hR1v hst hst1;rw [dY]
     have hne:∀ j oj d',j<K→l[j]? =some oj→j≠i→oj.dst=some d'→d'≠d:=by
      intro j oj d' hj hoj hji hd e;have h5:=List.all_eq_true.1 h3a.1 j (List.mem_range.2 hj);rw [hoj] at h5;simp [hji,hd,e] at h5
     refine ih _ _ w'' (jQ hcl ho hall) ?_ (by simpa using hs) (fun j hj1 hj2=>?_) hI2' (fun hml=>?_) (fun t ht=>?_) (fun j oj d' hj hoj hlj hd=>?_) (fun hml j oj d' hj hoj hlj hd=>?_)
     ·have hil':i<listed.size:=by omega
      have hfalse:listed.toList[i]? =some false:=by
       rw [Array.getElem?_toList,Array.getElem?_eq_getElem hil'];simp [Array.getD,hil'] at h0;rw [h0]
      rw [Array.toList_setIfInBounds];have:=ek (l:=listed.toList) (i:=i) hfalse;omega
     ·rw [getD_set_ne true (by omega)];exact htail j hj1 hj2
     ·have him:i≠mu:=fun e=>by subst e;simp [show i<listed.size by omega] at hml
      rw [getD_set_ne true him] at hml;exact hI1' him hml
     ·have htd:t≠d:=fun e=>ht i o hiK ho (by simp [show i<listed.size by omega]) (by rw [hod,e])
      rw [cg,if_neg htd];refine hfr t fun j oj hj hoj hlj=>ht j oj hj hoj ?_
      by_cases e:i=j
      ·subst e;rw [h0] at hlj;cases hlj
      ·rw [getD_set_ne true e];exact hlj
     ·rw [cg];by_cases e:j=i
      ·subst e;rw [ho] at hoj;cases hoj;rw [hod] at hd;cases hd;rw [if_pos rfl];exact hRv
      ·have hdd:=hne j oj d' hj hoj e hd;rw [if_neg hdd];rw [getD_set_ne true (Ne.symm e)] at hlj;refine hst _ _ hdd (hR j oj d' hj hoj hlj hd) (fun e2=>?_);subst e2;exact hR1 h0 j oj d' hj hoj hlj hd
     ·have him:i≠mu:=fun e=>by subst e;simp [show i<listed.size by omega] at hml
      rw [getD_set_ne true him] at hml;rw [cg];by_cases e:j=i
      ·subst e;rw [ho] at hoj;cases hoj;rw [hod] at hd;cases hd;rw [if_pos rfl];exact hR1v him
      ·rw [if_neg (hne j oj d' hj hoj e hd)];rw [getD_set_ne true (Ne.symm e)] at hlj;exact hst1 him _ _ (hR1 hml j oj d' hj hoj hlj hd)
    unfold wpOp;rw [List.getElem?_toArray,ho];show if Region.wanted o (yielded l.toArray (mkT n.n L'))=true then _ else _
    by_cases him:i=mu
    ·subst him;rw [ho] at hmu;have hok:=eJ (aY L') _ (hfactG R1 (hR1 h0)) (hmu w' (hF1 h0));rw [hod] at hok;simp only [Option.getD_some] at hok;unfold mM at hok;rw [hE,hW] at hok;obtain ⟨hw,⟨v,w'',hr,hI,hRv,hst⟩ | ⟨f,args,hr,hcall⟩⟩:=hok
     ·rw [if_pos hw];refine .inl ?_;unfold Oper.wp;rw [bU,hr,Oper.upon_value,hod];exact next v w'' hI (fun h=>absurd rfl h) hRv (fun h=>absurd rfl h) (fun t u ht _ h1=>hst t u ht (h1 rfl)) (fun h=>absurd rfl h)
     ·rw [if_pos hw];refine .inl ?_;unfold Oper.wp;rw [bU,hr,Oper.upon_enter,hod];refine Calls.mono hcall fun e w'' ⟨v,he,hI,hRv,hst⟩=>?_
      subst he;exact next v w'' hI (fun h=>absurd rfl h) hRv (fun h=>absurd rfl h) (fun t u ht _ h1=>hst t u ht (h1 rfl)) (fun h=>absurd rfl h)
    ·have hok:=eJ (aY L') _ (hfactG R hR) (jJ hop i o (by rw [List.getElem?_take,if_pos hiK];exact ho) him w' hF);rw [hod] at hok;simp only [Option.getD_some] at hok;unfold al at hok;rw [hE,hW] at hok
     have next':∀ v w'',Gr w' w''→R1 d v w''→wpAny P .any l.toArray Q m (listed.setIfInBounds i true) ((mkA n L').put (some d) v) w'':=fun v w'' hF' hRv=>
      next v w'' (hm2 _ _ hF' hF) (fun _ h=>hm1 _ _ hF' (hF1 h)) (h12 _ _ _ hRv) (fun _=>hRv) (fun t u _ h _=>hmono _ _ _ _ hF' h) (fun _ t u h=>hmono1 _ _ _ _ hF' h)
     rcases hok with ⟨hw,⟨v,w'',hr,hF',hRv⟩ | ⟨f,args,hr,hcall⟩⟩ | ⟨hw,hRv⟩
     ·rw [if_pos hw];refine .inl ?_;unfold Oper.wp;rw [bU,hr,Oper.upon_value,hod];exact next' v w'' hF' hRv
     ·rw [if_pos hw];refine .inl ?_;unfold Oper.wp;rw [bU,hr,Oper.upon_enter,hod];refine Calls.mono hcall fun e w'' ⟨v,he,hF',hRv⟩=>?_
      subst he;exact next' v w'' hF' hRv
     ·rw [if_neg (by rw [hw];simp),hod];exact next' undef w' Gr.rfl_ hRv
theorem bS {id:Nat} (K:Nat) (RL:List (Nat×(Value→World→Prop))) (hQ:PQ Q) (hm:P.follows .mixedOrders=true) (hc:jL l K=true) (hmono:kN RL)
 (hop:gC P l.toArray n L (Gr w) (dX RL) (dX RL) l K l.length 0 (l.take K)) (hend:∀ w',Gr w w'→gh (dX RL) w' (dW l K) fun M=>St P l.toArray Q (l.drop K) n (M++L) w'):Cd P (.region id l.toArray true) Q n L w:=by
 refine ⟨wp_region_any hm ?_⟩;have hKl:K≤l.length:=dT_ (Bool.and_eq_true_iff.1 (Bool.and_eq_true_iff.1 hc).1).1
 have:=nW (Q:=Q) (mu:=l.length) (I1:=Gr w) (I2:=Gr w) (R1:=dX RL) hQ hc (fun _ _ hF h=>h.next hF) (fun _ _ hF h=>h.next hF) (dD hmono) (dD hmono) hop (fun _ _ _ h=>h) (fun h=>absurd h (by omega)) (by simp [xj]) hend l.length (Array.replicate l.length false) L { w with drawn:=w.drawn+1 } (iX l _) (by simp) (by simp)
  (fun j _ hj=>by simp [Array.getD,hj]) Gr.rfl_.d1 (fun _=>Gr.rfl_.d1) (fun _ _=>rfl) (fun i o d hi _ hl=>by
   have:i<l.length:=by omega
   simp [Array.getD,this] at hl) (fun _ i o d hi _ hl=>by
   have:i<l.length:=by omega
   simp [Array.getD,this] at hl)
 simpa using this
end late
end DG
end Go.Proofs.YtcbakncjacnnjaaGreat
namespace Go.Proofs.YtcbakncjacnnjaaGreat
open Go.Proofs.Tryz (prog)
open Go.RowKit Go.ChangeShapes Go.WideShapes Go.ChangeAt Go.Sort Go.Proofs
section
variable {α:Type} [Inhabited α] {f:α→List Value} {s:Nat}
omit [Inhabited α] in
theorem BC (hf:∀ x,(f x).length=s) (L:List α) (i j:Nat) (hi:i<L.length) (hj:j<s):(L.flatMap f)[i*s+j]? =(f L[i])[j]? :=by
 have hL:L.flatMap f=(L.take i).flatMap f++(f L[i]++(L.drop (i+1)).flatMap f):=by
  have h0:L=L.take i++L[i]::L.drop (i+1):=by rw [←List.drop_eq_getElem_cons hi,List.take_append_drop]
  exact (congrArg (List.flatMap f) h0).trans (by rw [List.flatMap_append,List.flatMap_cons])
 have ht:((L.take i).flatMap f).length=i*s:=by rw [eW hf,List.length_take,Nat.min_eq_left (by omega)]
 rw [hL,List.getElem?_append_right (by omega),ht,Nat.add_sub_cancel_left,List.getElem?_append_left (by rw [hf];exact hj)]
theorem rC (hf:∀ x,(f x).length=s) (hs:0<s) (L:List α):(flatK f s L.toArray).toList=L.flatMap f:=by
 apply List.ext_getElem?;intro t;have hlen:(L.flatMap f).length=L.length*s:=eW hf L;rw [Array.getElem?_toList];by_cases ht:t<L.length*s
 ·have hd:t/s<L.length:=Nat.div_lt_of_lt_mul (by rw [Nat.mul_comm];exact ht);have hm:t%s<s:=Nat.mod_lt _ hs;have e:t=t/s*s+t%s:=by rw [Nat.mul_comm];exact (Nat.div_add_mod t s).symm
  have h1:=get_flatK f s L.toArray t (by simpa using ht);rw [getElem!_pos _ t (by simpa using ht)] at h1;rw [Array.getElem?_eq_getElem (by simpa using ht),h1]
  conv=>rhs;rw [e]
  rw [BC hf L _ _ hd hm];have h2:(L.toArray[t/s]! :α)=L[t/s]:=by rw [getElem!_pos _ _ (by simpa using hd)];simp
  rw [h2,getElem!_pos _ _ (by rw [hf];exact hm),List.getElem?_eq_getElem (by rw [hf];exact hm)]
 ·rw [Array.getElem?_eq_none (by simpa using ht),List.getElem?_eq_none (by omega)]
theorem th (hf:∀ x,(f x).length=s) (hs:0<s) {w:World} {g:Nat} {cur:List Value} {e:TypeId} {ss:List α} (hb:Blk w g e cur.toArray) (ht:cur.take (ss.length*s)=ss.flatMap f):HoldsK f s w g 0 ss.toArray:=by
 unfold HoldsK;intro j hj;have hj':j<ss.length*s:=by simpa using hj
 have hb':w.heap[g]? =some (.cells cur.toArray e (0,0)):=hb;refine ⟨?_,by simp [World.frozen?,hb']⟩;have h1:cur[j]? =(ss.flatMap f)[j]? :=by rw [←ht,List.getElem?_take_of_lt hj']
 rw [←rC hf hs,List.getElem?_eq_getElem (l:=(flatK f s ss.toArray).toList) (by simpa using hj)] at h1;rw [Nat.zero_add,getElem!_pos _ j hj];simp only [World.cell?,hb'];simpa using h1
theorem lH {w:World} {g n:Nat} {os:Array Obj} (d:Array α):w.grownBy (sortWorldK f s w g 0 n d os) (some g):=by
 unfold sortWorldK putRowK;refine ⟨rfl,rfl,rfl,by simp,fun k hk hne=>?_⟩;rw [heap_grow_old _ _ (by simpa using hk)];have:g≠k:=fun e=>hne (by rw [e])
 simp [putRow,mapBlock,Sort.ahead,Array.getElem?_modify,this]
theorem t_ {w:World} {g n:Nat} {os:Array Obj} {cur:Array Value} {e:TypeId} {fr:Nat×Nat} (d:Array α) (hb:w.heap[g]? =some (.cells cur e fr)) :
 (sortWorldK f s w g 0 n d os).heap[g]? =some (.cells (putCells id 0 (flatK f s d) cur) e fr):=by
 have hg:g<w.heap.size:=(Array.getElem?_eq_some_iff.1 hb).1;unfold sortWorldK putRowK;rw [heap_grow_old _ _ (by simpa using hg)];simp [putRow,mapBlock,Sort.ahead,Array.getElem?_modify,hb,onCells]
theorem qD (cur F:Array Value) (h:F.size≤cur.size):(putCells id 0 F cur).toList.take F.size=F.toList:=by
 apply List.ext_getElem?;intro j;by_cases hj:j<F.size
 ·rw [List.getElem?_take_of_lt hj,Array.getElem?_toList];simp [putCells,hj,show j<cur.size by omega]
 ·rw [List.getElem?_take_eq_none (by omega),List.getElem?_eq_none (by simp;omega)]
theorem pI (hf:∀ x,(f x).length=s) (hs:0<s) {w:World} {base g cap n:Nat} {e:TypeId} {os:Array Obj} {cur:List Value} {ts:List α} {m:Nat} (hl:ts.length=m) (hbase:base≤g) (hb:Blk w g e cur.toArray) (h1:m≤cap) (h2:cap≤maxLen) (h3:cur.length=cap*s) :
 (sortWorldK f s w g 0 n ts.toArray os).ownsRow base e s (.slice (some ⟨g,0,none⟩) m cap) m (ts.flatMap f):=by
 subst hl;refine ⟨by rw [eW hf],.inr ⟨g,cap,_,rfl,hbase,t_ _ hb,h1,h2,by simp [putCells,h3],?_⟩⟩;have h4:=Nat.mul_le_mul_right s h1;have:=qD cur.toArray (flatK f s ts.toArray) (by simp;omega);rw [rC hf hs] at this;simpa using this
end
end Go.Proofs.YtcbakncjacnnjaaGreat
namespace Go.Proofs
open Go.Shelf
def Tryz.sortDoc_ren:Go.Shelf.Ren:=⟨fun | 6=>57 | 15=>80 | 14=>91 | 28=>114 | 29=>115 | 20=>122 | 21=>123 | 22=>124 | 23=>125 | 24=>126 | 25=>127 | 26=>128 | 27=>129 | 46=>158 | 47=>150 | 48=>151 | 49=>159 | 50=>160 | 57=>181 | n=>n,fun | 22=>22 | 24=>37 | 25=>92 | 3=>3 | 39=>67 | 0=>0 | 53=>159 | 55=>161 | 4=>4 | 46=>153 | 45=>152 | 50=>70 | 5=>5 | 9=>9 | 66=>187 | 70=>191 | 76=>219 | 77=>214 | n=>n,fun | n=>n⟩
theorem Tryz.sortDoc:Go.Proofs.SlLaysF0.n6 prog Tryz.sortDoc_ren:={
 mixed:=by kernel_rfl
 f6:=⟨Tryz.f57.name,by decide,Tryz.func57.trans (congrArg some (by kernel_rfl))⟩
 f14:=⟨Tryz.f91.name,by decide,Tryz.func91.trans (congrArg some (by kernel_rfl))⟩
 f15:=Tryz.func80.trans (congrArg some (by kernel_rfl))
 f20:=⟨Tryz.f122.name,by decide,Tryz.func122.trans (congrArg some (by kernel_rfl))⟩
 f21:=⟨Tryz.f123.name,by decide,Tryz.func123.trans (congrArg some (by kernel_rfl))⟩
 f22:=⟨Tryz.f124.name,by decide,Tryz.func124.trans (congrArg some (by kernel_rfl))⟩
 f23:=⟨Tryz.f125.name,by decide,Tryz.func125.trans (congrArg some (by kernel_rfl))⟩
 f24:=⟨Tryz.f126.name,by decide,Tryz.func126.trans (congrArg some (by kernel_rfl))⟩
 f25:=⟨Tryz.f127.name,by decide,Tryz.func127.trans (congrArg some (by kernel_rfl))⟩
 f26:=⟨Tryz.f128.name,by decide,Tryz.func128.trans (congrArg some (by kernel_rfl))⟩
 f27:=⟨Tryz.f129.name,by decide,Tryz.func129.trans (congrArg some (by kernel_rfl))⟩
 f28:=Tryz.func114.trans (congrArg some (by kernel_rfl))
 f29:=Tryz.func115.trans (congrArg some (by kernel_rfl))
 f46:=⟨Tryz.f158.name,by decide,Tryz.func158.trans (congrArg some (by kernel_rfl))⟩
 f47:=Tryz.func150.trans (congrArg some (by kernel_rfl))
 f48:=Tryz.func151.trans (congrArg some (by kernel_rfl))
 f49:=⟨Tryz.f159.name,by decide,Tryz.func159.trans (congrArg some (by kernel_rfl))⟩
 f50:=⟨Tryz.f160.name,by decide,Tryz.func160.trans (congrArg some (by kernel_rfl))⟩
 f57:=⟨Tryz.f181.name,by decide,Tryz.func181.trans (congrArg some (by kernel_rfl))⟩
 t0:=Tryz.underlying0
 a0:=Tryz.isAgg0
 z0:=Tryz.sizeOf0
 v0:=Tryz.zeroValue0
 t3:=Tryz.underlying3
 a3:=Tryz.isAgg3
 z3:=Tryz.sizeOf3
 v3:=Tryz.zeroValue3
 t4:=Tryz.underlying4
 a4:=Tryz.isAgg4
 z4:=Tryz.sizeOf4
 v4:=Tryz.zeroValue4
 t5:=Tryz.underlying5
 a5:=Tryz.isAgg5
 z5:=Tryz.sizeOf5
 v5:=Tryz.zeroValue5
 t9:=Tryz.underlying9
 a9:=Tryz.isAgg9
 z9:=Tryz.sizeOf9
 v9:=Tryz.zeroValue9
 t22:=Tryz.underlying22
 a22:=Tryz.isAgg22
 z22:=Tryz.sizeOf22
 v22:=Tryz.zeroValue22
 t25:=Tryz.underlying92
 a25:=Tryz.isAgg92
 z25:=Tryz.sizeOf92
 v25:=Tryz.zeroValue92
 t39:=Tryz.underlying67
 a39:=Tryz.isAgg67
 z39:=Tryz.sizeOf67
 v39:=Tryz.zeroValue67
 t45:=Tryz.underlying152
 a45:=Tryz.isAgg152
 z45:=Tryz.sizeOf152
 v45:=Tryz.zeroValue152
 t46:=Tryz.underlying153
 a46:=Tryz.isAgg153
 z46:=Tryz.sizeOf153
 v46:=Tryz.zeroValue153
 t50:=Tryz.underlying70
 a50:=Tryz.isAgg70
 z50:=Tryz.sizeOf70
 v50:=Tryz.zeroValue70
 t53:=Tryz.underlying159
 a53:=Tryz.isAgg159
 z53:=Tryz.sizeOf159
 v53:=Tryz.zeroValue159
 t55:=Tryz.underlying161
 a55:=Tryz.isAgg161
 z55:=Tryz.sizeOf161
 v55:=Tryz.zeroValue161
 t66:=Tryz.underlying187
 a66:=Tryz.isAgg187
 z66:=Tryz.sizeOf187
 v66:=Tryz.zeroValue187
 t70:=Tryz.underlying191
 a70:=Tryz.isAgg191
 z70:=Tryz.sizeOf191
 v70:=Tryz.zeroValue191
 t76:=Tryz.underlying219
 a76:=Tryz.isAgg219
 z76:=Tryz.sizeOf219
 v76:=Tryz.zeroValue219
 t77:=Tryz.underlying214
 a77:=Tryz.isAgg214
 z77:=Tryz.sizeOf214
 v77:=Tryz.zeroValue214 }
def Tryz.sortHit_ren:Go.Shelf.Ren:=⟨fun | 6=>43 | 15=>80 | 14=>79 | 28=>114 | 29=>115 | 20=>106 | 21=>107 | 22=>108 | 23=>109 | 24=>110 | 25=>111 | 26=>112 | 27=>113 | 46=>149 | 47=>150 | 48=>151 | 49=>152 | 50=>153 | 57=>179 | n=>n,fun | 22=>44 | 24=>57 | 25=>82 | 3=>3 | 39=>67 | 0=>0 | 53=>159 | 55=>161 | 4=>4 | 46=>153 | 45=>152 | 50=>70 | 5=>5 | 9=>9 | 66=>187 | 70=>191 | 76=>219 | 77=>214 | n=>n,fun | n=>n⟩
theorem Tryz.sortHit:Go.Proofs.SlLaysF0.n6 prog Tryz.sortHit_ren:={
 mixed:=by kernel_rfl
 f6:=⟨Tryz.f43.name,by decide,Tryz.func43.trans (congrArg some (by kernel_rfl))⟩
 f14:=⟨Tryz.f79.name,by decide,Tryz.func79.trans (congrArg some (by kernel_rfl))⟩
 f15:=Tryz.func80.trans (congrArg some (by kernel_rfl))
 f20:=⟨Tryz.f106.name,by decide,Tryz.func106.trans (congrArg some (by kernel_rfl))⟩
 f21:=⟨Tryz.f107.name,by decide,Tryz.func107.trans (congrArg some (by kernel_rfl))⟩
 f22:=⟨Tryz.f108.name,by decide,Tryz.func108.trans (congrArg some (by kernel_rfl))⟩
 f23:=⟨Tryz.f109.name,by decide,Tryz.func109.trans (congrArg some (by kernel_rfl))⟩
 f24:=⟨Tryz.f110.name,by decide,Tryz.func110.trans (congrArg some (by kernel_rfl))⟩
 f25:=⟨Tryz.f111.name,by decide,Tryz.func111.trans (congrArg some (by kernel_rfl))⟩
 f26:=⟨Tryz.f112.name,by decide,Tryz.func112.trans (congrArg some (by kernel_rfl))⟩
 f27:=⟨Tryz.f113.name,by decide,Tryz.func113.trans (congrArg some (by kernel_rfl))⟩
 f28:=Tryz.func114.trans (congrArg some (by kernel_rfl))
 f29:=Tryz.func115.trans (congrArg some (by kernel_rfl))
 f46:=⟨Tryz.f149.name,by decide,Tryz.func149.trans (congrArg some (by kernel_rfl))⟩
 f47:=Tryz.func150.trans (congrArg some (by kernel_rfl))
 f48:=Tryz.func151.trans (congrArg some (by kernel_rfl))
 f49:=⟨Tryz.f152.name,by decide,Tryz.func152.trans (congrArg some (by kernel_rfl))⟩
 f50:=⟨Tryz.f153.name,by decide,Tryz.func153.trans (congrArg some (by kernel_rfl))⟩
 f57:=⟨Tryz.f179.name,by decide,Tryz.func179.trans (congrArg some (by kernel_rfl))⟩
 t0:=Tryz.underlying0
 a0:=Tryz.isAgg0
 z0:=Tryz.sizeOf0
 v0:=Tryz.zeroValue0
 t3:=Tryz.underlying3
 a3:=Tryz.isAgg3
 z3:=Tryz.sizeOf3
 v3:=Tryz.zeroValue3
 t4:=Tryz.underlying4
 a4:=Tryz.isAgg4
 z4:=Tryz.sizeOf4
 v4:=Tryz.zeroValue4
 t5:=Tryz.underlying5
 a5:=Tryz.isAgg5
 z5:=Tryz.sizeOf5
 v5:=Tryz.zeroValue5
 t9:=Tryz.underlying9
 a9:=Tryz.isAgg9
 z9:=Tryz.sizeOf9
 v9:=Tryz.zeroValue9
 t22:=Tryz.underlying44
 a22:=Tryz.isAgg44
 z22:=Tryz.sizeOf44
 v22:=Tryz.zeroValue44
 t25:=Tryz.underlying82
 a25:=Tryz.isAgg82
 z25:=Tryz.sizeOf82
 v25:=Tryz.zeroValue82
 t39:=Tryz.underlying67
 a39:=Tryz.isAgg67
 z39:=Tryz.sizeOf67
 v39:=Tryz.zeroValue67
 t45:=Tryz.underlying152
 a45:=Tryz.isAgg152
 z45:=Tryz.sizeOf152
 v45:=Tryz.zeroValue152
 t46:=Tryz.underlying153
 a46:=Tryz.isAgg153
 z46:=Tryz.sizeOf153
 v46:=Tryz.zeroValue153
 t50:=Tryz.underlying70
 a50:=Tryz.isAgg70
 z50:=Tryz.sizeOf70
 v50:=Tryz.zeroValue70
 t53:=Tryz.underlying159
 a53:=Tryz.isAgg159
 z53:=Tryz.sizeOf159
 v53:=Tryz.zeroValue159
 t55:=Tryz.underlying161
 a55:=Tryz.isAgg161
 z55:=Tryz.sizeOf161
 v55:=Tryz.zeroValue161
 t66:=Tryz.underlying187
 a66:=Tryz.isAgg187
 z66:=Tryz.sizeOf187
 v66:=Tryz.zeroValue187
 t70:=Tryz.underlying191
 a70:=Tryz.isAgg191
 z70:=Tryz.sizeOf191
 v70:=Tryz.zeroValue191
 t76:=Tryz.underlying219
 a76:=Tryz.isAgg219
 z76:=Tryz.sizeOf219
 v76:=Tryz.zeroValue219
 t77:=Tryz.underlying214
 a77:=Tryz.isAgg214
 z77:=Tryz.sizeOf214
 v77:=Tryz.zeroValue214 }
end Go.Proofs
namespace Go.Proofs.YtcbakncjacnnjaaGreat
open Go.Proofs.Tryz (prog)
open Go.RowKit
open Go.ChangeShapes Go.WideShapes Go.ChangeAt
theorem mT:cG prog 57 1=some 1:=by kernel_rfl
theorem wY:az prog 47=true:=by kernel_rfl
theorem wZ:az prog 45=true:=by kernel_rfl
theorem qb:az prog 58=true:=by kernel_rfl
theorem qa:az prog 44=true:=by kernel_rfl
def ym (a b:Int):Int:=if a<b then -1 else if b<a then 1 else 0
def uq (x y:Ht):Int:=if iW x.1 y.1≠0 then iW x.1 y.1 else ym x.2 y.2
theorem G5 (a b:Int) (w:World):Rt prog 47 [.int .i64 a,.int .i64 b] w fun v w'=>v=.int .i64 (ym a b)∧w=w':=
 Calls.mono (Tryz.cmp_Compare_int a b w) fun e w' h=>⟨_,h.1,by unfold ym;first | rfl | (unfold Lib.compareInt;rfl),h.2.symm⟩
theorem wL (a b:ByteArray) (w:World):Rt prog 46 [.string a,.string b] w fun v w'=>v=.int .i64 (iW a b)∧w=w':=
 Calls.mono (Tryz.strings_Compare a b w) fun e w' h=>⟨_,h.1,by unfold iW;rw [Lib.toList_data,Lib.toList_data],h.2.symm⟩
theorem Jx (g:Nat) (x y:Int) (w:World) (hk:Blk w g 3 #[.int .i64 x,.int .i64 y]) :
 Rt prog 45 [.slice (some ⟨g,0,none⟩) 2 2] w (fun v w'=>v=.int .i64 (if x≠0 then x else y)∧w=w'):=by
 refine enter (n:=18) Tryz.func45 rfl rfl rfl (af (aa (asi rfl (ah (ab (af (aa (asi rfl (ah (ab (af (af (aa (mvs rfl (ae (aQ bu rfl) (mvi rfl ?_))))))))))))))));refine ah (ab (aw (a_ (G:=Nat) [2,5,9,10,11,12,13,14,15,16] (fun i=>[(8,.int .i64 (i:Nat))]) (fun i w'=>(i≤2∧(0<i→x=0)∧(1<i→y=0))∧w=w') (fun i=>2-i) (0) ⟨rfl,trivial⟩ ?_ ?_)))
 ·exact ⟨⟨Nat.zero_le _,fun h=>absurd h (by omega),fun h=>absurd h (by omega)⟩,rfl⟩
 rintro i ρ1 w1 ⟨⟨hi,hx0,hy0⟩,rfl⟩;refine af (aa (ae (aW rfl rfl) (ah (ab (af (JV rfl (fun Q2=>?_) (fun Q2=>?_)))))))
 ·obtain ⟨u,hu,hx⟩:∃ u:Int,u=(if i=0 then x else y)∧w.cell? ⟨g,0+i,none⟩=some (.int .i64 u):=by
   rcases Nat.eq_zero_or_pos i with e | e
   ·subst e;exact ⟨x,rfl,hk.rd 0 rfl⟩
   ·obtain rfl:i=1:=by omega
    exact ⟨y,rfl,hk.rd 1 rfl⟩
  refine av (ab (af (aw (af (aa (ae (aX bJ rfl rfl (by omega)) (ae (an aU rfl (by exact hx)) ?_)))))));refine asi rfl (ah (ab (af (aa (mvi rfl (mvi rfl (ae (cD rfl rfl) (ah (ab (JR rfl (fun Q3=>?_) (fun Q3=>?_)))))))))))
  ·refine af (aa (mvi rfl (asi rfl (ah (ab (ay (bj (aD (aD (bj (aD (bE (v:=.int _ _) rfl rfl (⟨congrArg (Value.int .i64) ?_,rfl⟩)))))))))))));rcases Nat.eq_zero_or_pos i with e | e
   ·subst e;rw [if_pos rfl] at hu;subst hu;rw [if_pos (by omega)]
   ·obtain rfl:i=1:=by omega
    rw [if_neg (by omega)] at hu;subst hu;rw [if_neg (by have:=hx0 e;omega)]
  refine av (aI (ab (aa (ae (aG (b:=1) rfl rfl (by omega)) (mvi rfl (ah ?_))))));refine aO (i+1) ⟨(by first | rfl | (refine aK ?_;omega)),trivial⟩ (by (iterate 20 refine aB rfl ?_);exact aJ) ⟨?_,?_⟩
  ·refine ⟨⟨by omega,fun _=>?_,fun h=>?_⟩,rfl⟩
   ·rcases Nat.eq_zero_or_pos i with e | e
    ·subst e;omega
    ·exact hx0 e
   ·obtain rfl:i=1:=by omega
    omega
  ·show 2-(i+1)<2-i;omega
 refine bc (aC (aC (aS (ab (af (aa (mvi rfl (asi rfl (ah (ab (ay (bE (v:=.int _ _) rfl rfl ?_))))))))))));obtain rfl:i=2:=by omega
 have h1:=hx0 (by omega);have h2:=hy0 (by omega);subst h1 h2;exact ⟨rfl,rfl⟩
theorem Cq (x y:Ht) (w:World) :
 Rt prog 44 [.agg (hV x).toArray,.agg (hV y).toArray] w (fun v w'=>v=.int .i64 (uq x y)∧Gr w w'):=by
 refine enter (n:=17) Tryz.func44 rfl rfl rfl (af (aa (DG.cK (v:=.agg _) rfl ?_)));intro b2 w1 E2 hb2 hk2;refine DG.cK (v:=.agg _) rfl ?_;intro b3 w2 E3 hb3 hk3;refine asi rfl (ah (ab (af ?_)));apply DG.bS 13 [(5,eqp _),(6,eqp (.string x.1)),(7,eqp _),(8,eqp (.string y.1)),(9,eqp (.int .i64 (iW x.1 y.1))),(10,eqp _),(11,eqp (.int .i64 x.2)),(12,eqp _),(13,eqp (.int .i64 y.2)),(14,eqp (.int .i64 (ym x.2 y.2))),(15,fun v w'=>∃ b,v=.slice (some ⟨b,0,none⟩) 2 2∧Blk w' b 3 #[.int .i64 (iW x.1 y.1),.int .i64 (ym x.2 y.2)]),(16,eqp (.int .i64 (uq x y))),(4,eqp (.int .i64 (uq x y)))] (by repeat first | exact cy | refine cm ?_ | refine bO ?_) (by kernel_rfl) (by kernel_rfl) ⟨DG.ag _,DG.ag _,DG.ag _,DG.ag _,DG.ag _,DG.ag _,DG.ag _,DG.ag _,DG.ag _,DG.ag _,(fun _ _ _ hF ⟨b,h1,h2⟩=>⟨b,h1,h2.from_ (Gr.from_ hF)⟩),DG.ag _,DG.ag _,trivial⟩
 case hop=>
  constructor
  ·rintro-w4 D4;show DG.al ..;exact DG.ai (ak ly rfl) rfl
  constructor
  ·rintro-w5 D5;rintro _ rfl;show DG.al ..;exact DG.ai (an bC rfl (by exact (hk2.from_ (Gr.from_ (E3.next ((Gr.rfl_.next D5))))).rd 0 rfl)) rfl
  constructor
  ·rintro-w6 D6;show DG.al ..;exact DG.ai (ak ly rfl) rfl
  constructor
  ·rintro-w7 D7;rintro _ rfl;show DG.al ..;exact DG.ai (an bC rfl (by exact (hk3.from_ (Gr.from_ ((Gr.rfl_.next D7)))).rd 0 rfl)) rfl
  constructor
  ·rintro-w8 D8;rintro v8_6 rfl v8_8 rfl;show DG.al ..;refine DG.er ik ((wL x.1 y.1 _).mono ?_);rintro _ _ ⟨rfl,rfl⟩;exact ⟨Gr.rfl_,rfl⟩
  constructor
  ·rintro-w9 D9;show DG.al ..;exact DG.ai (ak mT rfl) rfl
  constructor
  ·rintro-w10 D10;rintro _ rfl;show DG.al ..;exact DG.ai (an aU rfl (by exact (hk2.from_ (Gr.from_ (E3.next ((Gr.rfl_.next D10))))).rd 1 rfl)) rfl
  constructor
  ·rintro-w11 D11;show DG.al ..;exact DG.ai (ak mT rfl) rfl
  constructor
  ·rintro-w12 D12;rintro _ rfl;show DG.al ..;exact DG.ai (an aU rfl (by exact (hk3.from_ (Gr.from_ ((Gr.rfl_.next D12)))).rd 1 rfl)) rfl
  constructor
  ·rintro-w13 D13;rintro v13_11 rfl v13_13 rfl;show DG.al ..;refine DG.er wY ((G5 x.2 y.2 _).mono ?_);rintro _ _ ⟨rfl,rfl⟩;exact ⟨Gr.rfl_,rfl⟩
  constructor
  ·rintro-w14 D14;rintro v14_9 rfl v14_14 rfl;show DG.al ..;exact DG.fG (qT (l:=[(0,.tmp 9),(1,.tmp 14)]) (cells:=#[.int .i64 (iW x.1 y.1),.int .i64 (ym x.2 y.2)]) (m:=2) cF (by decide) (by decide) (by kernel_rfl)) (Gr.new Gr.rfl_ _) ⟨_,rfl,Blk.new _ _ _⟩
  constructor
  ·rintro-w15 D15;rintro v15_15 ⟨b15,rfl,hk15⟩;show DG.al ..;refine DG.er wZ ((Jx b15 _ _ _ hk15).mono ?_);rintro _ _ ⟨rfl,rfl⟩;exact ⟨Gr.rfl_,rfl⟩
  constructor
  ·rintro-w16 D16;rintro v16_16 rfl;show DG.al ..;exact DG.ai (bY (v:=.int _ _) rfl) rfl
  exact trivial
 case hend=>
  intro w17 D17;rintro _ rfl v6 rfl _ rfl v8 rfl v9 rfl _ rfl v11 rfl _ rfl v13 rfl v14 rfl v15 ⟨b15,rfl,hk15⟩ v16 rfl v4 rfl;show St ..;refine ah (ab (ay (bE (v:=.int _ _) rfl rfl (⟨rfl,(((Gr.rfl_.next E2).next E3).next D17)⟩))))
theorem Ei (x y:Dc) (w:World) :
 Rt prog 58 [.agg (dV x).toArray,.agg (dV y).toArray] w (fun v w'=>v=.int .i64 (iW x.1 y.1)∧Gr w w'):=by
 refine enter (n:=10) Tryz.func58 rfl rfl rfl (af (aa (DG.cK (v:=.agg _) rfl ?_)));intro b2 w1 E2 hb2 hk2;refine DG.cK (v:=.agg _) rfl ?_;intro b3 w2 E3 hb3 hk3;refine asi rfl (ah (ab (af (aa (ae (ak bq rfl) (ae (an bC rfl (by exact (hk2.from_ (Gr.from_ (E3.next (Gr.rfl_)))).rd 0 rfl)) ?_))))));refine ae (ak bq rfl) (ae (an bC rfl (by exact (hk3.from_ (Gr.from_ (Gr.rfl_))).rd 0 rfl)) ?_);refine aF ik (wL x.1 y.1 _) ?_;rintro v9 w3 ⟨rfl,rfl⟩;refine asi rfl (ah (ab (ay (bE (v:=.int _ _) rfl rfl (⟨rfl,((Gr.rfl_.next E2).next E3)⟩)))))
theorem Gv:Go.Sort.SWO (Go.Proofs.ltOf fun x y:Dc=>iW x.1 y.1):=by
 have e:∀ x y:Dc,Go.Proofs.ltOf (fun x y:Dc=>iW x.1 y.1) x y=true↔ltD x y:=fun x y=>by unfold Go.Proofs.ltOf;rw [decide_eq_true_iff];exact ka
 have e2:∀ x y:Dc,Go.Proofs.ltOf (fun x y:Dc=>iW x.1 y.1) x y=false↔¬ ltD x y:=fun x y=>by rw [←e,Bool.not_eq_true]
 exact ⟨fun x=>(e2 x x).2 (g_.irr x),fun x y z h k=>(e x z).2 (dQ ((e x y).1 h) ((e y z).1 k)),fun x y z h k=>(e2 x z).2 fun q=>g_.tr ((e2 y z).1 k) ((e2 x y).1 h) q⟩
theorem z8 {x y:Ht}:uq x y<0↔hLt x y:=by
 unfold uq hLt ym;by_cases h:iW x.1 y.1=0
 ·have e:=iO.1 h;rw [if_neg (fun k=>k h)];constructor
  ·intro h2;exact .inr ⟨e,by split at h2 <;> first | assumption | (split at h2 <;> omega)⟩
  ·rintro (h2 | ⟨_,h2⟩)
   ·rw [e] at h2;exact absurd h2 (fC _)
   ·rw [if_pos h2];omega
 ·rw [if_pos h,ka];exact ⟨.inl,fun h2=>h2.elim id fun h3=>absurd (iO.2 h3.1) h⟩
theorem Gw:Go.Sort.SWO (Go.Proofs.ltOf uq):=by
 have e:∀ x y:Ht,Go.Proofs.ltOf uq x y=true↔hLt x y:=fun x y=>by unfold Go.Proofs.ltOf;rw [decide_eq_true_iff];exact z8
 have e2:∀ x y:Ht,Go.Proofs.ltOf uq x y=false↔¬ hLt x y:=fun x y=>by rw [←e,Bool.not_eq_true]
 exact ⟨fun x=>(e2 x x).2 (nh x),fun x y z h k=>(e x z).2 (pk ((e x y).1 h) ((e y z).1 k)),fun x y z h k=>(e2 x z).2 fun q=>by
  rcases zO x y with a | a | a
  ·exact (e2 x y).1 h a
  ·subst a;exact (e2 x z).1 k q
  ·exact (e2 y z).1 k (pk a q)⟩
instance:Inhabited Dc:=⟨(⟨#[]⟩,⟨#[]⟩)⟩
theorem AF (base:Nat) (A:Option Addr) (c n:Nat) (xs:List Dc) (w:World) (ho:w.ownsRow base 37 2 (.slice A n c) n (xs.flatMap dV)) (hl:n≤100000000) :
 Rt prog 57 [.slice A n c,.func (.func 58) #[] #[]] w fun _ w'=>(∃ ys:List Dc,ys.Perm xs∧(ys.Pairwise fun a b=>¬ ltD b a)∧w'.ownsRow base 37 2 (.slice A n c) n (ys.flatMap dV))∧w.grownBy w' (A.map (·.block)):=by
 have hxl:xs.length=n:=fF bz ho;rcases Nat.eq_zero_or_pos n with h0 | h0
 ·subst h0;obtain rfl:=List.eq_nil_of_length_eq_zero hxl;exact Calls.mono (AnyF.slices_SortFunc_none Tryz.sortDoc A c _ w) fun e w' h=>⟨_,h.1,by rw [h.2];exact ⟨⟨[],.refl _,List.Pairwise.nil,ho⟩,World.grownBy.refl _ _⟩⟩
 ·obtain ⟨g,cur,rfl,hg,hbk,hnc,hcm,hcl,hct⟩:=fa ho h0;subst hxl;have hk:=AnyQ.slices_SortFunc Tryz.sortDoc 2 (fun w=>kJ bK) (fun w=>dG bh) dV bz jk (fun x y:Dc=>iW x.1 y.1) Gv 58 #[] g 0 c xs.toArray w (fun args w=>f_ qb args) (fun m os dk _ x y=>?_) (th bz (by decide) hbk hct) hbk.lt (by simp;omega)
  ·refine Calls.mono hk fun e w' ⟨he,d',n2,os,hp,hs,hw⟩=>⟨_,he,?_,?_⟩
   ·obtain ⟨ts⟩:=d';have hlen:ts.length=xs.length:=by simpa using hp.1
    refine ⟨ts,?_,?_,?_⟩
    ·have:=hp.2.2;simpa [hlen,Array.extract_eq_self_of_le] using this
    ·rw [List.pairwise_iff_getElem];intro i j hi hj hij;have h9:=hs i j (Nat.zero_le _) hij (by simpa [hlen] using hj);rw [getElem!_pos _ _ (by simpa using hj),getElem!_pos _ _ (by simpa using hi)] at h9;unfold Go.Proofs.ltOf at h9;rw [decide_eq_false_iff_not,ka] at h9
     first | exact h9 | simpa using h9 | simpa [ltD] using h9
    ·rw [hw];exact pI bz (by decide) hlen hg hbk hnc hcm hcl
   ·rw [hw];exact lH _
  ·refine Calls.mono (Ei x y _) fun e w' ⟨v,he,hv,hG⟩=>?_
   subst hv;exact ⟨he,hG⟩
instance:Inhabited Ht:=⟨(⟨#[]⟩,0)⟩
theorem AE (base:Nat) (A:Option Addr) (c n:Nat) (xs:List Ht) (w:World) (ho:w.ownsRow base 57 2 (.slice A n c) n (xs.flatMap hV)) (hl:n≤100000000) :
 Rt prog 43 [.slice A n c,.func (.func 44) #[] #[]] w fun _ w'=>(∃ ys:List Ht,ys.Perm xs∧(ys.Pairwise fun a b=>¬ hLt b a)∧w'.ownsRow base 57 2 (.slice A n c) n (ys.flatMap hV))∧w.grownBy w' (A.map (·.block)):=by
 have hxl:xs.length=n:=fF eV ho;rcases Nat.eq_zero_or_pos n with h0 | h0
 ·subst h0;obtain rfl:=List.eq_nil_of_length_eq_zero hxl;exact Calls.mono (AnyF.slices_SortFunc_none Tryz.sortHit A c _ w) fun e w' h=>⟨_,h.1,by rw [h.2];exact ⟨⟨[],.refl _,List.Pairwise.nil,ho⟩,World.grownBy.refl _ _⟩⟩
 ·obtain ⟨g,cur,rfl,hg,hbk,hnc,hcm,hcl,hct⟩:=fa ho h0;subst hxl;have hk:=AnyQ.slices_SortFunc Tryz.sortHit 2 (fun w=>kJ gR) (fun w=>dG fu) hV eV GP (uq) Gw 44 #[] g 0 c xs.toArray w (fun args w=>f_ qa args) (fun m os dk _ x y=>?_) (th eV (by decide) hbk hct) hbk.lt (by simp;omega)
  ·refine Calls.mono hk fun e w' ⟨he,d',n2,os,hp,hs,hw⟩=>⟨_,he,?_,?_⟩
   ·obtain ⟨ts⟩:=d';have hlen:ts.length=xs.length:=by simpa using hp.1
    refine ⟨ts,?_,?_,?_⟩
    ·have:=hp.2.2;simpa [hlen,Array.extract_eq_self_of_le] using this
    ·rw [List.pairwise_iff_getElem];intro i j hi hj hij;have h9:=hs i j (Nat.zero_le _) hij (by simpa [hlen] using hj);rw [getElem!_pos _ _ (by simpa using hj),getElem!_pos _ _ (by simpa using hi)] at h9;unfold Go.Proofs.ltOf at h9;rw [decide_eq_false_iff_not,z8] at h9
     first | exact h9 | simpa using h9 | simpa [ltD] using h9
    ·rw [hw];exact pI eV (by decide) hlen hg hbk hnc hcm hcl
   ·rw [hw];exact lH _
  ·refine Calls.mono (Cq x y _) fun e w' ⟨v,he,hv,hG⟩=>?_
   subst hv;exact ⟨he,hG⟩
end Go.Proofs.YtcbakncjacnnjaaGreat
namespace Go.Proofs.YtcbakncjacnnjaaGreat
open Go.Proofs.Tryz (prog)
open Go.RowKit
open Go.ChangeShapes Go.WideShapes Go.ChangeAt
open Go.Proofs.YtcbakncjacnnjaaGreat.SA
theorem xa:prog.underlying 9=some .string:=by kernel_rfl
theorem lz:az prog 39=true:=by kernel_rfl
theorem yW:az prog 57=true:=by kernel_rfl
theorem yV:az prog 78=true:=by kernel_rfl
theorem se:∀ (a0:ByteArray) (a1:Int),prog.built 57 [(0,.string a0),(1,.int .i64 a1)]=some #[.string a0,.int .i64 a1]:=by intros;kernel_rfl
theorem AJ {ys:List Dc} (hs:ys.Pairwise fun a b=>¬ ltD b a) (hd:Dif ys):SD ys:=(hs.and hd).imp fun {a b} h=>by
 rcases kT a.1 b.1 with e | e | e
 ·exact e
 ·exact absurd e h.2
 ·exact absurd e h.1
theorem wA {ps:List Pt} {L D ys:List Dc} (hG:ShG ps L D) (hp:ys.Perm (iY ps L)) (hs:ys.Pairwise fun a b=>¬ ltD b a):ys=D:=
 SD.uniq (AJ hs (hG.dif.perm hp.symm)) hG.sd (hp.trans hG.perm.symm)
noncomputable def pf (ps:List Pt) (L:List Dc) (i:Nat):List Dc:=L++(ps.take i).flatMap Pt.live
theorem zx (ps:List Pt) (L:List Dc):pf ps L 0=L:=List.append_nil L
theorem If (ps:List Pt) (L:List Dc):pf ps L ps.length=iY ps L:=by unfold pf iY;rw [List.take_length]
theorem zy {ps:List Pt} {L:List Dc} {i:Nat} (h:i<ps.length):pf ps L (i+1)=pf ps L i++ps[i].live:=by
 unfold pf;rw [List.take_succ_eq_append_getElem h,List.flatMap_append,List.append_assoc,List.flatMap_cons,List.flatMap_nil,List.append_nil]
theorem Gb {ps:List Pt} {L:List Dc} {i:Nat} (_:i≤ps.length):∃ r,iY ps L=pf ps L i++r:=by
 refine ⟨(ps.drop i).flatMap Pt.live,?_⟩;unfold pf iY;rw [List.append_assoc,←List.flatMap_append,List.take_append_drop]
theorem Hm {ps:List Pt} {L D:List Dc} (hG:ShG ps L D) {i:Nat} (h:i≤ps.length):(pf ps L i).length≤64∧dsz (pf ps L i)≤16384:=by
 obtain ⟨r,e⟩:=Gb (L:=L) h;have h1:=hG.perm;rw [e] at h1;have h2:=rD hG.fit h1.symm;have h3:=h2.1;have h4:=h2.2.2;rw [List.length_append] at h3;rw [n5] at h4;omega
theorem F4 {t q:ByteArray} {k:Nat}:(txt q).isPrefixOf ((txt t).drop k)=q.toList.isPrefixOf (t.toList.drop k):=by
 rw [←G2,Bool.eq_iff_iff,beq_iff_eq,nP,lQ,rG,Nat.add_sub_cancel_left]
theorem pd {t q:List Nat} {a:Nat}:∀ d,(∀ j,a≤j→j<a+d→q.isPrefixOf (t.drop j)=false)→k9 t q (a+d)=k9 t q a
 |0,_=>rfl
 |d+1,h=>by
  rw [←Nat.add_assoc,zH (h (a+d) (by omega) (by omega)),pd d fun j h1 h2=>h j h1 (by omega)]
theorem DP {t q:ByteArray} {a:Nat} (ha:a≤t.size) (hq:q.size≠0):(Lib.index (t.extract a t.size).data.toList q.data.toList=-1∧ks (txt t) (txt q)=k9 (txt t) (txt q) a)∨∃ k:Nat,Lib.index (t.extract a t.size).data.toList q.data.toList=(k:Int)∧a+k+q.size≤t.size∧k9 (txt t) (txt q) (a+k+1)=k9 (txt t) (txt q) a++[a+k]:=by
 have h0:txt q≠[]:=fun e=>hq (by rw [←eo,e];rfl)
 have hl:(t.extract a t.size).data.toList=t.toList.drop a:=by
  rw [←Lib.toList_data,rG,List.take_of_length_le (by rw [List.length_drop,lQ];omega)]
 have hat:∀ j,Lib.occAt (t.toList.drop a) q.toList j=(txt q).isPrefixOf ((txt t).drop (a+j)):=fun j=>by
  rw [F4];unfold Lib.occAt;rw [List.drop_drop]
 rw [hl,←Lib.toList_data q];have hlen:(t.toList.drop a).length=t.size-a:=by rw [List.length_drop,lQ]
 rcases Lib.index_spec (t.toList.drop a) q.toList with ⟨h1,h2⟩ | ⟨k,h1,h2,h3,h4⟩
 ·refine .inl ⟨h1,?_⟩;rw [JH (k:=t.size+1) h0 (by rw [eo,eo];omega) (by rw [eo];exact Nat.le_refl _)]
  have:=pd (t:=txt t) (q:=txt q) (a:=a) (t.size+1-a) fun j j1 j2=>by
   have:=h2 (j-a) (by omega);rw [hat,show a+(j-a)=j by omega] at this;exact this
  rwa [show a+(t.size+1-a)=t.size+1 by omega] at this
 ·rw [hat] at h3;have h5:=(List.isPrefixOf_iff_prefix.1 h3).length_le;rw [List.length_drop,eo,eo] at h5;refine .inr ⟨k,h1,by omega,?_⟩
  rw [DE h3,pd k fun j j1 j2=>by
   have:=h4 (j-a) (by omega);rw [hat,show a+(j-a)=j by omega] at this;exact this]
theorem AK (s sub:ByteArray) (m:Int) (w:World) (hs:s.size<4294967281) (hm:w.cell? ⟨0,0,none⟩=some (.int .i64 m)):Rt prog 78 [.string s,.string sub] w fun v w'=>v=.int .i64 (Lib.index s.data.toList sub.data.toList)∧w=w':=
 Calls.mono (Tryz.strings_Index s sub m w hs hm) fun _ _ h=>⟨_,h.1,rfl,h.2.symm⟩
theorem xE (t q:ByteArray) (a:Nat) (m:Int) (w:World) (ha:a≤t.size) (hq:q.size≠0) (ht:t.size≤1000000) (hm:w.cell? ⟨0,0,none⟩=some (.int .i64 m)):Rt prog 78 [.string (t.extract a t.size),.string q] w fun v w'=>((v=.int .i64 (-1)∧ks (txt t) (txt q)=k9 (txt t) (txt q) a)∨∃ k:Nat,v=.int .i64 (k:Nat)∧a+k+q.size≤t.size∧k9 (txt t) (txt q) (a+k+1)=k9 (txt t) (txt q) a++[a+k])∧w=w':=
 (AK _ q m w (by rw [ByteArray.size_extract];omega) hm).mono fun v w' h=>by
  obtain ⟨rfl,rfl⟩:=h;refine ⟨?_,rfl⟩;rcases DP ha hq with ⟨h1,h2⟩ | ⟨k,h1,h2,h3⟩
  ·exact .inl ⟨by rw [h1],h2⟩
  ·exact .inr ⟨k,by rw [h1],h2,h3⟩
def hTo (d:Dc) (q:ByteArray) (a:Nat):List Ht:=(k9 (txt d.2) (txt q) a).map fun k=>(d.1,((k:Nat):Int))
theorem AI (U:Nat→Prop) (s:Nat) (D:List Dc) (w:World) (hs:eZ w U s D) :
 Rt prog 28 [.pointer (some ⟨s,0,none⟩)] w (fun v w'=>(∃ A' c',v=.slice A' D.length c'∧w'.ownsRow w.heap.size 37 2 (.slice A' D.length c') D.length (D.flatMap dV))∧aj w w'):=by
 have hs0:=hs;obtain ⟨ps,L,Ap,cp,Al,cl,hG,h,hU⟩:=hs;have hll:=hG.loose;have hpl:=hG.parts;refine enter (n:=31) Tryz.func28 rfl rfl rfl (af (aa (ass rfl (ah (ab (af (aa (mvp rfl (ae (ar rfl) (ae (ak dO rfl) (ae (an cQ rfl (by exact (h.blk.from_ aj.rfl_).rd 1 rfl)) ?_)))))))))));refine aF mi (ur Al cl L.length L _ ((dg.own bz (by decide) h.rowL).2.from_ aj.rfl_) rfl (q_ h.rowL) (by omega)) ?_;rintro v9 w1 ⟨⟨A9,c9,rfl,ho9⟩,E9⟩;refine ass rfl (ah (ab (af (af (aa (mvp rfl (ae (ar rfl) (ae (ak bW rfl) (ae (an dH rfl (by exact (h.blk.from_ (aj.rfl_.next E9)).rd 0 rfl)) ?_)))))))));refine ae (aQ cU rfl) (mvi rfl (ah (ab (aw (a_ (G:=Nat×Option Addr×Nat) [4,16,17,18,19,20,21,22,23,24,25,26,27] (fun (i,A3,c3)=>[(3,.slice A3 (pf ps L i).length c3),(15,.int .i64 (i:Nat))]) (fun (i,A3,c3) w'=>i≤ps.length∧w'.ownsRow w.heap.size 37 2 (.slice A3 (pf ps L i).length c3) (pf ps L i).length ((pf ps L i).flatMap dV)∧aj w w') (fun (i,_,_)=>ps.length-i) ((0,A9,c9)) ⟨(by rw [zx];rfl),rfl,trivial⟩ ?_ ?_)))))
 ·exact ⟨Nat.zero_le _,by rw [zx];exact ho9,(aj.rfl_.next E9)⟩
 rintro ⟨i,A3,c3⟩ ρ2 w2 ⟨hi,ho3,hB⟩;obtain ⟨hpl3,hpz3⟩:=Hm hG hi;refine af (aa (ae (aW rfl rfl) (ah (ab (af (JV rfl (fun Q3=>?_) (fun Q3=>?_)))))))
 ·have hil:i<ps.length:=by omega
  obtain ⟨g,rfl⟩:=dm h.rowP (by omega);have hpf:(pf ps L (i+1)).length=(pf ps L i).length+ps[i].live.length:=by rw [zy hil,List.length_append]
  obtain ⟨hpl4,_⟩:=Hm hG (show i+1≤ps.length by omega);refine av (ab (af (aw (af (aa (mvi rfl (asi rfl (ah (ab (aa (mvs rfl (mvp rfl (ae (ar rfl) (ae (ak bW rfl) (ae (an dH rfl (by exact (h.blk.from_ hB).rd 0 rfl)) ?_)))))))))))))));refine mvi rfl (ae (aM cq rfl rfl (by omega)) (aF lz (qq g (0+i*2) ps[i] _ ((qZ h.rowP (fun p hp=>h.ptIn hG hp) hil).from_ hB)) ?_));rintro v25 w4 ⟨⟨A25,c25,rfl,ho25⟩,E25⟩;refine dB fv rfl (by decide) rfl (A:=A3) (xs:=List.flatMap dV (pf ps L i)) (news:=List.flatMap dV ps[i].live) (ho3.kept_from (aj.rfl_.next E25)) ((hB.next E25).size) rfl (eW bz _) (fun h=>((dg.own bz (by decide) ho25).2).flat bz h) (fun e=>by subst e;exact jI ho25) (rM _) (by omega) (by omega) ?_;intro A26 c26 w5 ho26 hg26;have HF26:=((hB.next E25)).grew hg26 (fun k hk=>(cd (ho3.kept_from (aj.rfl_.next E25)) k hk).1);refine ass rfl (ah (aI (ab (aa (ae (aG (b:=1) rfl rfl (by omega)) (mvi rfl (ah ?_)))))));refine aO ((i+1,A26,c26)) ⟨(by rw [hpf];rfl),rfl,trivial⟩ (by (iterate 30 refine aB rfl ?_);exact aJ) ⟨?_,?_⟩
  ·exact ⟨by omega,by rw [hpf,zy hil,List.flatMap_append];exact ho26,HF26⟩
  ·show ps.length-(i+1)<ps.length-i;omega
 refine bc (aC (aC (aS (ab (af (aa (mvs rfl (aF yW (AF _ A3 c3 (pf ps L i).length (pf ps L i) _ ho3 (by omega)) ?_))))))));rintro v29 w6 ⟨⟨ys,hyp,hys,hoy⟩,hg29⟩;refine ah (ab (af (aa (mvs rfl (ass rfl (ah (ab (ay (bE (v:=.slice _ _ _) rfl rfl ?_)))))))));obtain rfl:i=ps.length:=by omega
 rw [If] at hyp hoy ⊢;obtain rfl:=wA hG hyp hys;rw [←hyp.length_eq] at hoy ⊢;exact ⟨⟨A3,c3,rfl,hoy⟩,((hB).grew hg29 (fun k hk=>(cd ho3 k hk).1))⟩
theorem Fw (d:Dc) (q:ByteArray) (m:Int) (w:World) (hm:w.cell? ⟨0,0,none⟩=some (.int .i64 m)) (hd:d.2.size≤2048) (hq:q.size≠0) :
 Rt prog 42 [.agg (dV d).toArray,.string q] w (fun v w'=>(∃ A' c',v=.slice A' (hOf d q).length c'∧w'.ownsRow w.heap.size 57 2 (.slice A' (hOf d q).length c') (hOf d q).length ((hOf d q).flatMap hV))∧aj w w'):=by
 refine enter (n:=29) Tryz.func42 rfl rfl rfl (af (aa (cK (v:=.agg _) rfl ?_)));intro b2 w1 E2 hb2 hk2;refine ass rfl (ah (ab (af (aa (ass rfl (ah (ab (af (aa (asi rfl (ah (ab (aw (a_ (G:=Nat×Option Addr×Nat) [4,7,8,9,10,11,12,13,14,15,16,17,18,19,20,21,22,23,24,25,26,27,28] (fun (a,A5,c5)=>[(5,.slice A5 (hTo d q a).length c5),(6,.int .i64 (a:Nat))]) (fun (a,A5,c5) w'=>a≤d.2.size∧w'.ownsRow w.heap.size 57 2 (.slice A5 (hTo d q a).length c5) (hTo d q a).length ((hTo d q a).flatMap hV)∧Blk w' b2 37 (dV d).toArray∧aj w w') (fun (a,_,_)=>d.2.size-a) ((0,none,0)) ⟨rfl,rfl,trivial⟩ ?_ ?_))))))))))))))
 ·exact ⟨Nat.zero_le _,World.ownsRow_nil _ _ _ _,hk2.from_ aj.rfl_,(aj.rfl_.next E2)⟩
 rintro ⟨a,A5,c5⟩ ρ2 w2 ⟨ha,ho5,hP,hB⟩;refine af (aw (af (aa (ae (ak df rfl) (ae (an bC rfl (by exact (hP.from_ aj.rfl_).rd 1 rfl)) ?_)))));refine mvi rfl (ae (FM (l:=a) (h:=d.2.size) xa rfl (.inr ⟨_,_,_,rfl,rfl,rfl⟩) (.inl ⟨rfl,rfl⟩) (by omega) (by omega)) (mvg rfl (aF yV (xE d.2 q a m _ ha hq (by omega) (bx hB hm)) ?_)));rintro v15 w3 ⟨hix,rfl⟩;rcases hix with ⟨rfl,hks⟩ | ⟨k,rfl,hak,hks⟩
 ·refine asi rfl (ah (ab (af (af (aa (mvi rfl (ae (aW rfl rfl) (ah (ab (JV rfl (fun Q4=>?_) (fun Q4=>?_)))))))))));rotate_left
  ·exfalso;omega
  refine af (aa (mvs rfl (ass rfl (ah (ab (ay (aD (bj (aD (aD (bj (bE (v:=.slice _ _ _) rfl rfl ?_))))))))))));have e:hOf d q=hTo d q a:=by unfold hOf hTo;rw [hks]
  rw [e];exact ⟨⟨A5,c5,rfl,ho5⟩,hB⟩
 have hht:hTo d q (a+k+1)=hTo d q a++[(d.1,((a+k:Nat):Int))]:=by unfold hTo;rw [hks,List.map_append];rfl
 have hhl:(hTo d q (a+k+1)).length=(hTo d q a).length+1:=by rw [hht,List.length_append];rfl
 refine asi rfl (ah (ab (af (af (aa (mvi rfl (ae (aW rfl rfl) (ah (ab (JV rfl (fun Q7=>?_) (fun Q7=>?_)))))))))))
 ·exfalso;omega
 refine av (ab (af (aa (mvi rfl (mvi rfl (ae (aG rfl rfl (by omega)) (asi rfl (ah (ab (aa (mvs rfl (ae (ak bq rfl) (ae (an bC rfl (by exact (hP.from_ aj.rfl_).rd 0 rfl)) ?_)))))))))))));refine mvi rfl (ae (cM (l:=[(0,.tmp 24),(1,.tmp 25)]) (se _ _)) (gV eY rfl rfl rfl ?_));intro b27 w8 E27 hb27 hk27;have hM28:=(aj.rfl_.next E27);have hP2:=hP.from_ hM28;have hkl:=zI (t:=txt d.2) (q:=txt q) (k:=a);have hkl2:(hTo d q a).length≤a:=by unfold hTo;rw [List.length_map];exact hkl
 refine dB eY rfl (by decide) rfl (A:=A5) (xs:=(hTo d q a).flatMap hV) (news:=hV (d.1,((a+k:Nat):Int))) (ho5.kept_from (aj.rfl_.next E27)) ((hB.next E27).size) rfl rfl (fun _=>⟨b27,0,rfl,hk27.whole⟩) (fun h=>by cases h) (by simp [hV,Value.oneCell']) (by omega) (by omega) ?_;intro A28 c28 w9 ho28 hg28;have HF28:=((hB.next E27)).grew hg28 (fun k hk=>(cd (ho5.kept_from (aj.rfl_.next E27)) k hk).1);refine ass rfl (ah (aI (ab (aa (mvi rfl (ae (aG (b:=1) rfl rfl (by omega)) (asi rfl (ah ?_))))))));refine aO ((a+k+1,A28,c28)) ⟨(by rw [hhl];rfl),rfl,trivial⟩ (by (iterate 49 refine aB rfl ?_);exact aJ) ⟨?_,?_⟩
 ·exact ⟨by omega,by rw [hhl,hht,List.flatMap_append];exact ho28,hP2.grown hg28 (cZ (ho5.kept_from hM28) hP2 (by decide)),HF28⟩
 ·show d.2.size-(a+k+1)<d.2.size-a;omega
theorem B1:dK prog 64=some 1:=by kernel_rfl
theorem B2:az prog 70=true:=by kernel_rfl
noncomputable def lg (D:List Dc) (d:Dc):Int:=if ¬ (1≤d.1.size∧d.1.size≤64) then 1 else if 2048<d.2.size then 2 else if @decide (∃ e∈D,e.1=d.1) (Classical.propDecidable _)=true then 4 else if 64≤D.length∨16384<dsz D+d.2.size then 6 else 0
noncomputable def yw (D:List Dc) (d:Dc):List Dc:=if lg D d=0 then GJ D d else D
theorem ER {D:List Dc} {d:Dc} (h:¬ (1≤d.1.size∧d.1.size≤64)):lg D d=1:=by unfold lg;rw [if_pos h]
theorem EP {D:List Dc} {d:Dc} (h:1≤d.1.size∧d.1.size≤64) (h2:2048<d.2.size):lg D d=2:=by unfold lg;rw [if_neg (fun k=>k h),if_pos h2]
theorem uD {D:List Dc} {d:Dc} (h:1≤d.1.size∧d.1.size≤64) (h2:¬ 2048<d.2.size) (h3:∃ e∈D,e.1=d.1):lg D d=4:=by unfold lg;rw [if_neg (fun k=>k h),if_neg h2,if_pos (@decide_eq_true _ (Classical.propDecidable _) h3)]
theorem uC {D:List Dc} {d:Dc} (h:1≤d.1.size∧d.1.size≤64) (h2:¬ 2048<d.2.size) (h3:¬ ∃ e∈D,e.1=d.1) (h4:64≤D.length∨16384<dsz D+d.2.size):lg D d=6:=by unfold lg;rw [if_neg (fun k=>k h),if_neg h2,if_neg (fun k=>h3 (@dT_ _ (Classical.propDecidable _) k)),if_pos h4]
theorem yv {D:List Dc} {d:Dc} (h:1≤d.1.size∧d.1.size≤64) (h2:¬ 2048<d.2.size) (h3:¬ ∃ e∈D,e.1=d.1) (h4:¬ (64≤D.length∨16384<dsz D+d.2.size)):lg D d=0:=by unfold lg;rw [if_neg (fun k=>k h),if_neg h2,if_neg (fun k=>h3 (@dT_ _ (Classical.propDecidable _) k)),if_neg h4]
theorem mI {D:List Dc} {d:Dc} (h:lg D d≠0):yw D d=D:=by unfold yw;rw [if_neg h]
theorem uE {D:List Dc} {d:Dc} (h:lg D d=0):yw D d=GJ D d:=by unfold yw;rw [if_pos h]
noncomputable def wH (D:List Dc) (id:ByteArray):Int:=if ¬ (1≤id.size∧id.size≤64) then 1 else if @decide (∃ e∈D,e.1=id) (Classical.propDecidable _)=true then 0 else 3
theorem IW {D:List Dc} {id:ByteArray} (h:¬ (1≤id.size∧id.size≤64)):wH D id=1:=by unfold wH;rw [if_pos h]
theorem ug {D:List Dc} {id:ByteArray} (h:1≤id.size∧id.size≤64) (h3:∃ e∈D,e.1=id):wH D id=0:=by unfold wH;rw [if_neg (fun k=>k h),if_pos (@decide_eq_true _ (Classical.propDecidable _) h3)]
theorem IV {D:List Dc} {id:ByteArray} (h:1≤id.size∧id.size≤64) (h3:¬ ∃ e∈D,e.1=id):wH D id=3:=by unfold wH;rw [if_neg (fun k=>k h),if_neg (fun k=>h3 (@dT_ _ (Classical.propDecidable _) k))]
theorem ShG.named {ps:List Pt} {L D:List Dc} (h:ShG ps L D) {id:ByteArray}:(∃ e∈D,e.1=id)↔(∃ e∈L,e.1=id)∨∃ p∈ps,x6 p id:=by
 constructor
 ·rintro ⟨e,he,rfl⟩;rcases h.mem.1 he with he | ⟨p,hp,he⟩
  ·exact .inl ⟨e,he,rfl⟩
  ·exact .inr ⟨p,hp,e,he,rfl⟩
 ·rintro (⟨e,he,rfl⟩ | ⟨p,hp,e,he,rfl⟩)
  ·exact ⟨e,h.mem.2 (.inl he),rfl⟩
  ·exact ⟨e,h.mem.2 (.inr ⟨p,hp,he⟩),rfl⟩
theorem rF {L:List Dc} (hs:SD L) {id:ByteArray} {i:Nat} {fd:Bool} (h1:∀ x,x<i→sLt (L.getD x dd).1 id) (h2:∀ x,i≤x→x<L.length→¬ sLt (L.getD x dd).1 id) (h3:fd=true↔i<L.length∧(L.getD i dd).1=id):fd=true↔∃ e∈L,e.1=id:=by
 rw [h3];constructor
 ·rintro ⟨hi,e⟩;exact ⟨L.getD i dd,by rw [bZ hi];exact List.getElem_mem hi,e⟩
 ·rintro ⟨e,he,rfl⟩;obtain ⟨j,hj,rfl⟩:=List.getElem_of_mem he;have hj2:(L.getD j dd).1=L[j].1:=by rw [bZ hj]
  rcases Nat.lt_trichotomy j i with a | a | a
  ·have:=h1 j a;rw [hj2] at this;exact absurd this (fC _)
  ·subst a;exact ⟨hj,hj2⟩
  ·have h4:=jZ.cmp hs a hj;rw [hj2] at h4;exact absurd h4 (h2 i (Nat.le_refl _) (by omega))
theorem Ej {D:List Dc} {id:ByteArray} (h:¬ ∃ e∈D,e.1=id):fz D id=D:=j_ fun d hd e=>h ⟨d,hd,e⟩
theorem G1 {D:List Dc} (ho:jZ D) {id:ByteArray} (h:¬ (1≤id.size∧id.size≤64)):fz D id=D:=j_ fun _ hd e=>h (e ▸ xP ho hd)
theorem DO {L:List Dc} {k:Nat} (d:Dc):(L.flatMap dV).take (k*2)++dV d++(L.flatMap dV).drop (k*2)=(L.take k++d::L.drop k).flatMap dV:=by
 rw [gP bz,iG bz,List.flatMap_append,List.flatMap_cons,List.append_assoc]
theorem qt {α:Type} {L:List α} {k:Nat} (d:α):(L.take k++d::L.drop k).length=L.length+1:=by rw [n4.length_eq,List.length_append,List.length_singleton]
theorem Em {L:List Dc} {k:Nat}:(L.flatMap dV).take (k*2)++(L.flatMap dV).drop ((k+1)*2)=(L.take k++L.drop (k+1)).flatMap dV:=by
 rw [gP bz,iG bz,List.flatMap_append]
theorem qw {α:Type} {L:List α} {k:Nat} (h:k<L.length):(L.take k++L.drop (k+1)).length=L.length-(k+1-k):=by
 rw [List.length_append,List.length_take,List.length_drop];omega
theorem tm {L:List Pt} {k:Nat}:(L.flatMap ptV).take (k*2)++(L.flatMap ptV).drop ((k+1)*2)=(L.take k++L.drop (k+1)).flatMap ptV:=by
 rw [gP j7,iG j7,List.flatMap_append]
theorem tp {ps:List Pt} (k:Nat) (h:ps.Pairwise fun a b=>eP a.A b.A):(ps.take k++ps.drop (k+1)).Pairwise fun a b=>eP a.A b.A:=by
 have hx:ps.take k++ps.drop (k+1)=ps.take k++(ps.drop k).drop 1:=by rw [List.drop_drop]
 rw [hx];exact List.Pairwise.sublist (List.Sublist.append (List.Sublist.refl _) (List.drop_sublist ..)) (by rw [List.take_append_drop];exact h)
theorem DU {ps:List Pt} {i:Nat} (hi:i<ps.length) {A:Option Addr} {c:Nat} {k:Nat} {id:ByteArray}:(ps.flatMap ptV).set (i*2+1) (.slice A (ps[i].gone.length+1) c)=(ps.set i { ps[i] with A:=A,c:=c,gone:=ps[i].gone.take k++id::ps[i].gone.drop k }).flatMap ptV:=
 CA j7 ps i 1 hi (by decide) _ _ (by unfold ptV;rw [←qt (L:=ps[i].gone) (k:=k) id];rfl)
theorem AU (ps:List Pt) (L D:List Dc) (s g cp:Nat) (Al:Option Addr) (cl:Nat) (w:World) (h:ShH w ps L s (some ⟨g,0,none⟩) cp Al cl) (hG:ShG ps L D) (i:Nat) (hi:i<ps.length) (id:ByteArray) (hid:id ∉ ps[i].gone) :
 Rt prog 38 [.pointer (some ⟨g,0+i*2,none⟩),.string id] w (fun _ w'=>∃ (k:Nat) (A':Option Addr) (c':Nat),SO (ps[i].gone.take k++id::ps[i].gone.drop k)∧ShH w' (ps.set i { ps[i] with A:=A',c:=c',gone:=ps[i].gone.take k++id::ps[i].gone.drop k }) L s (some ⟨g,0,none⟩) cp Al cl∧Chg (fun q=>(some (⟨g,0,none⟩:Addr)).map (·.block)=some q∨ps[i].A.map (·.block)=some q) w w'∧∀ q,A'.map (·.block)=some q→ps[i].A.map (·.block)=some q∨w.heap.size≤q):=by
 have hP:=qZ h.rowP (fun p hp=>h.ptIn hG hp) hi;have hgo:=h.gone _ (List.getElem_mem hi);have hlen:=hP.len;refine enter (n:=26) Tryz.func38 rfl rfl rfl (af (aa (mvp rfl (ae (ar rfl) (ae (ak jo rfl) (ae (an nw rfl (by exact bx aj.rfl_ hP.sl)) ?_))))));refine mvg rfl (aF r9 (zf ps[i].A ps[i].c ps[i].gone.length ps[i].gone _ (hP.row.from_ aj.rfl_) rfl hP.len id hP.so) ?_);rintro v12 w1 ⟨⟨k,fd,rfl,hk,h1,h2,h3⟩,E12⟩;refine mvt rfl (ae (ax rfl rfl) (ae (ax rfl rfl) (asi rfl (asb rfl (ah (ab (aa (mvp rfl (mvp rfl (ae (ar rfl) ?_))))))))));refine ae (ak jo rfl) (ae (an nw rfl (by exact bx (aj.rfl_.next E12) hP.sl)) ?_);refine mvi rfl (mvg rfl (fy (v:=.string _) pw rfl rfl rfl ?_));intro b22 w2 E22 hb22 hk22;have hs22:w.heap.size≤b22:=by rw [hb22];exact (aj.rfl_.next E12).size
 have hF23:=((aj.rfl_.next E12).next E22);have hs23:=hF23.size;refine aF B2 (xY 0 ps[i].A ps[i].c ps[i].gone.length k 1 b22 0 1 (ps[i].gone.map Value.string) [.string id] _ _ _ (hgo.kept_from ((aj.rfl_.next E12).next E22)) (Nat.zero_le _) hk (by decide) rfl hk22.whole hk22 (fun q hq=>by have:=(cd hgo q hq).2;omega) (by simp [Value.oneCell']) (by simp [Value.oneCell']) (by omega)) ?_;rintro v23 w3 ⟨⟨A23,c23,rfl,ho23,hL23⟩,hg23⟩;have hPw:=kz (h.rowP.kept_from hF23) hg23 (ft (hgo.kept_from hF23) (h.rowP.kept_from hF23) (by decide));have hdis:=ft ho23 hPw (by decide);refine ae (ar rfl) (ae (ak jo rfl) ?_);refine xA (o:=i*2+1) B1 (by show Value.pointer (some ⟨g,0+i*2+1,none⟩)=_;rw [Nat.zero_add]) rfl rfl hPw (by omega) ?_;intro w4 O1 P1;refine ah (gk (kh rfl ?_));have hil:(ps[i].gone.take k++id::ps[i].gone.drop k).length=ps[i].gone.length+1:=qt id;have hC:Chg (fun q=>(some (⟨g,0,none⟩:Addr)).map (·.block)=some q∨ps[i].A.map (·.block)=some q) _ _:=((Chg.of_grown hg23 (fun q e=>.inr e)).only O1 (.inl rfl));refine ⟨k,A23,c23,hP.so.ins h1 h2 hid,(h.from_ hF23).setGone hi (c:=c23) hC (fun q hq=>hq) ?_ ?_ hL23,hF23.toChg.next hC,fun q hq=>(hL23 q hq).imp (fun e=>e) fun e=>Nat.le_trans hs23 e⟩
 ·rw [←DU hi];exact P1
 ·have ho9:=cf ho23 O1 (fun q hq e=>hdis q hq g rfl e);rw [hil];have e9:(ps[i].gone.take k++id::ps[i].gone.drop k).map Value.string=(ps[i].gone.map Value.string).take (k*1)++[.string id]++(ps[i].gone.map Value.string).drop (k*1):=by simp [List.map_take,List.map_drop]
  rw [e9];exact ho9
theorem F1 {w:World} {base m c g:Nat} {ps:List Pt} (h:w.ownsRow base 66 2 (.slice (some ⟨g,0,none⟩) m c) m (ps.flatMap ptV)) {i:Nat} (hi:i<ps.length) (hP:PtIn w ps[i]):ml w g (0+i*2) ps[i]:=by
 obtain ⟨hl,hr⟩:=dg.own j7 (by decide) h;obtain ⟨b,o,e,hc⟩:=hr (by omega);cases e;have h1:=hc i hi;exact ⟨hP,h1 0 _ rfl,h1 1 _ rfl⟩
def ti (p:Pt) (A:Option Addr) (c k:Nat) (id:ByteArray):Pt:={ p with A:=A,c:=c,gone:=p.gone.take k++id::p.gone.drop k }
theorem x9 (p:Pt) (A:Option Addr) (c k:Nat) (id:ByteArray):(ti p A c k id).live=fz p.live id:=Dv
theorem Fu {U:Nat→Prop} {w W w':World} {ps:List Pt} {L:List Dc} {s cp cl g:Nat} {Al:Option Addr} {j:Nat} (hj:j<ps.length) {A:Option Addr} {c k:Nat} {id:ByteArray} (hU:∀ k,pA s (some ⟨g,0,none⟩) Al ps k→U k) (hF:aj w W)
 (hH:ShH w' (ps.set j (ti ps[j] A c k id)) L s (some ⟨g,0,none⟩) cp Al cl) (hC:Chg (fun q=>(some (⟨g,0,none⟩:Addr)).map (·.block)=some q∨ps[j].A.map (·.block)=some q) W w') (hA:∀ q,A.map (·.block)=some q→ps[j].A.map (·.block)=some q∨W.heap.size≤q) :
 (∀ q,pA s (some ⟨g,0,none⟩) Al (ps.set j (ti ps[j] A c k id)) q→Nx U w w' q)∧Chg U w w':=by
 have hs:=hF.size;have hmj:=List.getElem_mem hj
 have hp:∀ p∈ps.set j (ti ps[j] A c k id),∃ q∈ps,(∀ k,p.A.map (·.block)=some k→q.A.map (·.block)=some k∨w.heap.size≤k)∧p.lo=q.lo∧p.hi=q.hi:=by
  intro p hp;obtain ⟨i,hi,rfl⟩:=List.getElem_of_mem hp;rw [List.length_set] at hi;rw [List.getElem_set];by_cases e:j=i
  ·rw [if_pos e];exact ⟨ps[j],hmj,fun q hq=>(hA q hq).imp (fun e=>e) fun e=>Nat.le_trans hs e,rfl,rfl⟩
  ·rw [if_neg e];exact ⟨ps[i],List.getElem_mem hi,fun q hq=>.inl hq,rfl,rfl⟩
 have hq:∀ q,((some (⟨g,0,none⟩:Addr)).map (·.block)=some q∨ps[j].A.map (·.block)=some q)→U q:=by
  rintro q (e | e)
  ·exact hU q (.inl (.inr (.inl e)))
  ·exact hU q (.inl (.inr (.inr (.inr ⟨_,hmj,e⟩))))
 exact ⟨fun q hk=>uc (w:=w) hH hU (fun k hk=>.inl hk) (fun k hk=>.inl hk) (fun p h=>.inl (hp p h)) q hk,hF.toChg.next (hC.wide fun q h=>.inl (hq q h))⟩
theorem zm {α:Type} {ps:List α} {j:Nat} (p:α):(ps.set j p).take j++(ps.set j p).drop (j+1)=ps.take j++ps.drop (j+1):=by
 rw [List.take_set,List.set_eq_of_length_le (by rw [List.length_take];omega),List.drop_set_of_lt (by omega)]
theorem zZ {α:Type} {ps:List α} {j:Nat} {p:α} (h:p∈ps.take j++ps.drop (j+1)):p∈ps:=by
 rcases List.mem_append.1 h with h | h
 ·exact List.mem_of_mem_take h
 ·exact List.mem_of_mem_drop h
theorem sj:az prog 34=true:=by kernel_rfl
theorem si:az prog 35=true:=by kernel_rfl
theorem yZ:az prog 36=true:=by kernel_rfl
theorem sh:az prog 37=true:=by kernel_rfl
theorem yY:az prog 38=true:=by kernel_rfl
theorem yX:az prog 40=true:=by kernel_rfl
theorem BI (U:Nat→Prop) (s:Nat) (D:List Dc) (w:World) (hs:eZ w U s D) (id:ByteArray) (hd:id.size≤140737488351232) :
 Rt prog 19 [.pointer (some ⟨s,0,none⟩),.string id] w (fun v w'=>v=.int .i64 (wH D id)∧eZ w' (Nx U w w') s (fz D id)∧Chg U w w'):=by
 have hs0:=hs;obtain ⟨ps,L,Ap,cp,Al,cl,hG,h,hU⟩:=hs;have hll:=hG.loose;have hpl:=hG.parts;refine enter (n:=62) Tryz.func19 rfl rfl rfl (af (aa (asi rfl (ah (ab (af (af (aa (mvg rfl (aF sj (qB id _ hd) ?_))))))))));rintro v9 w1 ⟨rfl,E9⟩;refine ae (eQ rfl) (ah (ab (au rfl (fun Q2=>?_) (fun Q2=>?_))))
 ·with_reducible (replace Q2:=fm Q2;replace Q2:=dF_ Q2)
  have hid:¬ (1≤id.size∧id.size≤64):=by simpa using Q2
  refine af (aa (asi rfl (ah (ab (ay (aD (bE (v:=.int _ _) rfl rfl ?_)))))));rw [IW hid,G1 hG.ord hid];exact ⟨rfl,hs0.same (aj.rfl_.next E9)⟩
 with_reducible (replace Q2:=fo Q2;replace Q2:=dT_ Q2)
 have hid:1≤id.size∧id.size≤64:=by simpa using Q2
 refine av (ab (af (af (aa (mvp rfl (mvg rfl (aF si (zR ps L D s Ap cp Al cl _ (h.from_ (aj.rfl_.next E9)) hG id) ?_)))))));rintro v14 w3 ⟨⟨i,fd,rfl,hi1,hi2,hi3,hi4⟩,E14⟩;have hfl:=rF hG.sdL hi2 hi3 hi4;refine mvt rfl (ae (ax rfl rfl) (ae (ax rfl rfl) (asi rfl (asb rfl (ah (ab (af (aa (mvb rfl (ah (ab (au rfl (fun Q4=>?_) (fun Q4=>?_)))))))))))))
 ·obtain ⟨hil,hie⟩:=hi4.1 Q4;rw [bZ hil] at hie;refine af (aa (mvp rfl (mvp rfl (ae (ar rfl) (ae (ak dO rfl) (ae (an cQ rfl (by exact (h.blk.from_ ((aj.rfl_.next E9).next E14)).rd 1 rfl)) ?_))))));refine mvi rfl (mvi rfl (ae (aG (b:=1) rfl rfl (by omega)) ?_));have hF26:=((aj.rfl_.next E9).next E14);refine aF yZ (yi 0 Al cl L.length i (i+1) (L.flatMap dV) _ (h.rowL.kept_from ((aj.rfl_.next E9).next E14)) (by omega) hil (rM _) (by omega)) ?_;rintro v26 w5 ⟨⟨A26,c26,rfl,ho26,hA26⟩,hg26⟩;have hb26:=(h.blk.from_ hF26).grown hg26 (cZ (h.rowL.kept_from hF26) (h.blk.from_ hF26) (by decide));refine ae (ar rfl) (ae (ak dO rfl) (bH (v:=.slice _ _ _) mJ rfl rfl rfl (hb26) (by show 1<2;decide) ?_));intro w6 O5 P5;refine ah (ab (af (aa (asi rfl (ah (ab (ay (aD (bE (v:=.int _ _) rfl rfl ?_)))))))));subst hie;rw [ug hid (hG.named.2 (.inl ⟨_,List.getElem_mem hil,rfl⟩))];exact ⟨rfl,vA (L':=L.take i++L.drop (i+1)) h hU hF26 ((Chg.of_grown hg26 (fun k e=>.inr e)).only O5 (.inl rfl)) (by rw [qw hil];exact P5) (by rw [qw hil,←Em];exact cf ho26 O5 (cZ ho26 hb26 (by decide))) (fun k hk=>.inl (hA26 k hk)) (hG.cut hil)⟩
 have hfd:¬ fd=true:=by first | exact Q4 | (rw [Q4];decide)
 refine av (ab (af (aa (mvp rfl (mvg rfl (aF sh (ta ps L D s Ap cp Al cl _ (h.from_ ((aj.rfl_.next E9).next E14)) hG id) ?_))))));rintro v31 w7 ⟨hp31,E31⟩;rcases hp31 with ⟨j,rfl,hj,hj2⟩ | ⟨rfl,hno⟩
 ·obtain ⟨d,hdm,rfl⟩:=hj2;obtain ⟨g,rfl⟩:=dm h.rowP (by omega);have hgn:d.1 ∉ ps[j].gone:=(nf.1 hdm).2;have hgl:=(hG.part _ (List.getElem_mem hj)).2.1;have hdl:=(h.seg _ (List.getElem_mem hj)).at.docs.2.1;refine asi rfl (ah (ab (af (af (aa (mvi rfl (ae (aW rfl rfl) (ah (ab (JV rfl (fun Q8=>?_) (fun Q8=>?_)))))))))))
  ·exfalso;omega
  refine av (ab (af (aa (mvp rfl (ae (ar rfl) (ae (ak bW rfl) (ae (an dH rfl (by exact (h.blk.from_ (((aj.rfl_.next E9).next E14).next E31)).rd 0 rfl)) ?_)))))));refine mvi rfl (ae (aM cq rfl rfl (by omega)) (mvg rfl ?_));have hF41:=(((aj.rfl_.next E9).next E14).next E31);refine aF yY (AU ps L D s g cp Al cl _ (h.from_ (((aj.rfl_.next E9).next E14).next E31)) hG j hj d.1 hgn) ?_;rintro v41 w9 ⟨k,A41,c41,hso,hH0,hC1,hA41⟩;obtain ⟨ps1,hps1⟩:∃ q,q=ps.set j (ti ps[j] A41 c41 k d.1):=⟨_,rfl⟩;have hH1:ShH w9 ps1 L s (some ⟨g,0,none⟩) cp Al cl:=by rw [hps1];exact hH0
  have hl1:ps1.length=ps.length:=by rw [hps1,List.length_set]
  have hj1:ps1[j]=ti ps[j] A41 c41 k d.1:=by subst hps1;exact List.getElem_set_self ..
  have hm1:=List.getElem_mem (l:=ps1) (n:=j) (by omega);have hgl1:ps1[j].gone.length=ps[j].gone.length+1:=by rw [hj1];exact qt _
  have hPI:PtIn w9 ps1[j]:=⟨qR (hH1.gone _ hm1),by omega,by rw [hj1];exact hso,hH1.seg _ hm1⟩;have hlv:ps1[j].live=fz ps[j].live d.1:=by rw [hj1];exact x9 ..
  obtain ⟨hU1,hCw⟩:=Fu hj hU hF41 hH0 hC1 hA41;rw [←hps1] at hU1;refine ah (ab (af (af (aa (mvp rfl (ae (ar rfl) (ae (ak bW rfl) (ae (an dH rfl (by exact (hH1.blk.from_ (aj.rfl_ (a:=w9))).rd 0 rfl)) ?_))))))));refine mvi rfl (ae (aM cq rfl rfl (by omega)) (aF lz (qq g (0+j*2) ps1[j] _ ((F1 hH1.rowP (by omega) hPI).from_ (aj.rfl_ (a:=w9)))) ?_));rintro v48 w10 ⟨⟨A48,c48,rfl,ho48⟩,E48⟩;refine ae (aQ bG rfl) (ae (cx rfl rfl) (ah (ab (JV rfl (fun Q11=>?_) (fun Q11=>?_)))))
  ·refine aa (mvp rfl (mvp rfl (ae (ar rfl) (ae (ak bW rfl) (ae (an dH rfl (by exact (hH1.blk.from_ ((aj.rfl_ (a:=w9)).next E48)).rd 0 rfl)) ?_)))));refine mvi rfl (mvi rfl (ae (aG (b:=1) rfl rfl (by omega)) ?_));have hF59:=((aj.rfl_ (a:=w9)).next E48);refine aF yX (yh 0 (some ⟨g,0,none⟩) cp ps1.length j (j+1) (ps1.flatMap ptV) _ (hH1.rowP.kept_from ((aj.rfl_ (a:=w9)).next E48)) (by omega) (by omega) (tL _) (by omega)) ?_;rintro v59 w12 ⟨⟨A59,c59,rfl,ho59,hA59⟩,hg59⟩;have hb59:=(hH1.blk.from_ hF59).grown hg59 (cZ (hH1.rowP.kept_from hF59) (hH1.blk.from_ hF59) (by decide));refine ae (ar rfl) (ae (ak bW rfl) (bH (v:=.slice _ _ _) iK rfl rfl rfl (hb59) (by show 0<2;decide) ?_));intro w13 O12 P12;refine ah (ab (af (aa (asi rfl (ah (ab (ay (bE (v:=.int _ _) rfl rfl ?_))))))));have hnm:∃ e∈D,e.1=d.1:=hG.named.2 (.inr ⟨_,List.getElem_mem hj,d,hdm,rfl⟩);rw [ug hid hnm];refine ⟨rfl,?_⟩;have hsd:SD ps[j].ds:=CB (h.seg _ (List.getElem_mem hj)).at.docs.1
   first
    |(have hne:fz ps[j].live d.1=[]:=by rw [←hlv];exact List.eq_nil_of_length_eq_zero (by omega)
      have hcl:(ps1.take j++ps1.drop (j+1)).length=ps1.length-(j+1-j):=qw (by omega);obtain ⟨q1,q2⟩:=nL (ps':=ps1.take j++ps1.drop (j+1)) (L':=L) hH1 hU1 hF59 ((Chg.of_grown hg59 (fun k e=>.inr e)).only O12 (.inl rfl)) (by rw [hcl];exact P12) (by rw [hcl,←tm];exact cf ho59 O12 (cZ ho59 hb59 (by decide))) (fun k hk=>.inl (hA59 k hk)) (.inl ⟨rfl,rfl,rfl⟩) (fun p hp=>.inl (zZ hp)) (tp j hH1.apart) (by rw [hps1,zm];exact hG.drop hj hdm hne);exact eZ.then hCw q1 q2)
    |(have hne:fz ps[j].live d.1≠[]:=fun e=>by rw [←hlv] at e;have:=congrArg List.length e;simp only [List.length_nil] at this;omega
      exact ⟨⟨ps1,L,some ⟨g,0,none⟩,cp,Al,cl,by rw [hps1];exact hG.gone hj hdm hso hsd hne,hH1.from_ (aj.rfl_ (a:=w13)),fun k hk=>(hU1 k hk).imp (fun e=>e) fun e=>⟨e.1,Nat.lt_of_lt_of_le e.2 ((aj.rfl_ (a:=w13))).size⟩⟩,hCw.next ((aj.rfl_ (a:=w13))).toChg⟩)
  refine av (ab (af (aa (asi rfl (ah (ab (ay (bE (v:=.int _ _) rfl rfl ?_))))))));have hnm:∃ e∈D,e.1=d.1:=hG.named.2 (.inr ⟨_,List.getElem_mem hj,d,hdm,rfl⟩);rw [ug hid hnm];refine ⟨rfl,?_⟩;have hsd:SD ps[j].ds:=CB (h.seg _ (List.getElem_mem hj)).at.docs.1
  first
   |(have hne:fz ps[j].live d.1=[]:=by rw [←hlv];exact List.eq_nil_of_length_eq_zero (by omega)
     have hcl:(ps1.take j++ps1.drop (j+1)).length=ps1.length-(j+1-j):=qw (by omega);obtain ⟨q1,q2⟩:=nL (ps':=ps1.take j++ps1.drop (j+1)) (L':=L) hH1 hU1 hF59 ((Chg.of_grown hg59 (fun k e=>.inr e)).only O12 (.inl rfl)) (by rw [hcl];exact P12) (by rw [hcl,←tm];exact cf ho59 O12 (cZ ho59 hb59 (by decide))) (fun k hk=>.inl (hA59 k hk)) (.inl ⟨rfl,rfl,rfl⟩) (fun p hp=>.inl (zZ hp)) (tp j hH1.apart) (by rw [hps1,zm];exact hG.drop hj hdm hne);exact eZ.then hCw q1 q2)
   |(have hne:fz ps[j].live d.1≠[]:=fun e=>by rw [←hlv] at e;have:=congrArg List.length e;simp only [List.length_nil] at this;omega
     exact ⟨⟨ps1,L,some ⟨g,0,none⟩,cp,Al,cl,by rw [hps1];exact hG.gone hj hdm hso hsd hne,hH1.from_ ((aj.rfl_ (a:=w9)).next E48),fun k hk=>(hU1 k hk).imp (fun e=>e) fun e=>⟨e.1,Nat.lt_of_lt_of_le e.2 (((aj.rfl_ (a:=w9)).next E48)).size⟩⟩,hCw.next (((aj.rfl_ (a:=w9)).next E48)).toChg⟩)
 refine asi rfl (ah (ab (af (af (aa (mvi rfl (ae (aW rfl rfl) (ah (ab (JV rfl (fun Q14=>?_) (fun Q14=>?_)))))))))));rotate_left
 ·exfalso;omega
 refine af (aa (asi rfl (ah (ab (ay (aD (bE (v:=.int _ _) rfl rfl ?_)))))));have hn:¬ ∃ e∈D,e.1=id:=fun he=>(hG.named.1 he).elim (fun q=>hfd (hfl.2 q)) (fun ⟨p,hp,q⟩=>hno p hp q)
 rw [IV hid hn,Ej hn];exact ⟨rfl,hs0.same (((aj.rfl_.next E9).next E14).next E31)⟩
theorem xc:az prog 55=true:=by kernel_rfl
theorem y0:az prog 28=true:=by kernel_rfl
theorem nA:az prog 51=true:=by kernel_rfl
theorem EN (U:Nat→Prop) (s:Nat) (D:List Dc) (w:World) (hs:eZ w U s D) (d:Dc) (hd1:d.1.size≤140737488351232) (hd2:d.2.size≤140737488351232) :
 Rt prog 27 [.pointer (some ⟨s,0,none⟩),.agg (dV d).toArray] w (fun v w'=>v=.int .i64 (lg D d)∧eZ w' (Nx U w w') s (yw D d)∧Chg U w w'):=by
 have hs0:=hs;obtain ⟨ps,L,Ap,cp,Al,cl,hG,h,hU⟩:=hs;have hll:=hG.loose;have hpl:=hG.parts;have hf1:=hG.fit.1;have hf3:=hG.fit.2.2;refine enter (n:=56) Tryz.func27 rfl rfl rfl (af (aa (cK (v:=.agg _) rfl ?_)));intro b3 w1 E3 hb3 hk3;refine asi rfl (ah (ab (af (af (aa (ae (ak bq rfl) (ae (an bC rfl (by exact (hk3.from_ aj.rfl_).rd 0 rfl)) ?_)))))));refine aF sj (qB d.1 _ hd1) ?_;rintro v10 w2 ⟨rfl,E10⟩;refine ae (eQ rfl) (ah (ab (au rfl (fun Q3=>?_) (fun Q3=>?_))))
 ·with_reducible (replace Q3:=fm Q3;replace Q3:=dF_ Q3)
  have hid:¬ (1≤d.1.size∧d.1.size≤64):=by simpa using Q3
  refine af (aa (asi rfl (ah (ab (ay (aD (bE (v:=.int _ _) rfl rfl ?_)))))));rw [mI (by rw [ER hid];decide),ER hid];exact ⟨rfl,hs0.same ((aj.rfl_.next E3).next E10)⟩
 with_reducible (replace Q3:=fo Q3;replace Q3:=dT_ Q3)
 have hid:1≤d.1.size∧d.1.size≤64:=by simpa using Q3
 refine av (ab (af (af (aa (ae (ak df rfl) (ae (an bC rfl (by exact (hk3.from_ (aj.rfl_.next E10)).rd 1 rfl)) ?_))))));refine ae (dR (by kernel_rfl) rfl) (ae (cL rfl rfl) (ah (ab (JV rfl (fun Q4=>?_) (fun Q4=>?_)))))
 ·refine af (aa (asi rfl (ah (ab (ay (aD (bE (v:=.int _ _) rfl rfl ?_)))))));rw [mI (by rw [EP hid (by omega)];decide),EP hid (by omega)];exact ⟨rfl,hs0.same ((aj.rfl_.next E3).next E10)⟩
 refine av (ab (af (aa (mvp rfl (ae (ak bq rfl) (ae (an bC rfl (by exact (hk3.from_ (aj.rfl_.next E10)).rd 0 rfl)) ?_))))));refine aF si (zR ps L D s Ap cp Al cl _ (h.from_ ((aj.rfl_.next E3).next E10)) hG d.1) ?_;rintro v20 w5 ⟨⟨i,fd,rfl,hi1,hi2,hi3,hi4⟩,E20⟩;have hfl:=rF hG.sdL hi2 hi3 hi4;refine mvt rfl (ae (ax rfl rfl) (ae (ax rfl rfl) (asi rfl (asb rfl (ah (ab (af (af (aa (mvb rfl (mvb rfl (bR (t:=24) rfl (fun Q6=>?_) (fun Q6=>?_)))))))))))))
 ·refine aL rfl rfl (aL rfl rfl (aL rfl rfl (aL rfl rfl (aL rfl rfl (ae (bB (v:=.bool _) rfl rfl) (ah (ab (cW rfl (af (aa ?_))))))))));refine asi rfl (ah (ab (ay (aD (bE (v:=.int _ _) rfl rfl ?_)))));have he:∃ e∈D,e.1=d.1:=hG.named.2 (by first | exact .inl (hfl.1 (by assumption)) | exact .inr ⟨_,List.getElem_mem hj,hj2⟩);rw [mI (by rw [uD hid (by omega) he];decide),uD hid (by omega) he];exact ⟨rfl,hs0.same (((aj.rfl_.next E3).next E10).next E20)⟩
 refine ao rfl (mvp rfl (ao rfl (ae (ak bq rfl) (ao rfl (ae (an bC rfl (by exact (hk3.from_ ((aj.rfl_.next E10).next E20)).rd 0 rfl)) ?_)))));refine ao rfl (aF sh (ta ps L D s Ap cp Al cl _ (h.from_ (((aj.rfl_.next E3).next E10).next E20)) hG d.1) ?_);rintro v28 w7 ⟨hp28,E28⟩;rcases hp28 with ⟨j,rfl,hj,hj2⟩ | ⟨rfl,hno⟩
 ·refine ao rfl (ae (eA rfl rfl) (ae (bk (v:=.bool _) rfl rfl) (ah (ab (JV rfl (fun Q8=>?_) (fun Q8=>?_))))));rotate_left
  ·exfalso;omega
  refine af (aa (asi rfl (ah (ab (ay (aD (bE (v:=.int _ _) rfl rfl ?_)))))));have he:∃ e∈D,e.1=d.1:=hG.named.2 (by first | exact .inl (hfl.1 (by assumption)) | exact .inr ⟨_,List.getElem_mem hj,hj2⟩);rw [mI (by rw [uD hid (by omega) he];decide),uD hid (by omega) he];exact ⟨rfl,hs0.same ((((aj.rfl_.next E3).next E10).next E20).next E28)⟩
 refine ao rfl (ae (eA rfl rfl) (ae (bk (v:=.bool _) rfl rfl) (ah (ab (JV rfl (fun Q65=>?_) (fun Q65=>?_))))))
 ·exfalso;omega
 refine av (ab (af (aa (mvp rfl (aF y0 (AI U s D _ (hs0.from_ ((((aj.rfl_.next E3).next E10).next E20).next E28))) ?_)))));rintro v32 w66 ⟨⟨A32,c32,rfl,ho32⟩,E32⟩;have hM8:=((((aj.rfl_.next E10).next E20).next E28).next E32);refine ass rfl (ah (ab (af (af ?_))));have hsp:64≤D.length∨(D.length<64∧16384<dsz D+d.2.size)∨(D.length<64∧dsz D+d.2.size≤16384):=by omega
 rcases hsp with hc1 | ⟨hc1,hc2⟩ | ⟨hc1,hc2⟩
 ·apply bS 12 [(33,eqp _),(34,eqp _),(35,eqp _),(36,eqp _),(37,eqp _),(38,eqp _),(39,eqp _),(40,eqp _),(41,eqp _),(42,eqp _),(43,eqp _),(44,eqp _)] (by repeat first | exact cy | refine cm ?_ | refine bO ?_) (by kernel_rfl) (by kernel_rfl) ⟨ag _,ag _,ag _,ag _,ag _,ag _,ag _,ag _,ag _,ag _,ag _,ag _,trivial⟩
  case hop=>
   constructor
   ·rintro-w68 D68;exact ai (aq (v:=.slice _ _ _) rfl) rfl
   constructor
   ·rintro-w69 D69;rintro _ rfl;exact ai (aQ bG rfl) rfl
   constructor
   ·rintro-w70 D70;rintro _ rfl;exact ai (jE (eA rfl rfl) (decide_eq_true (by omega))) rfl
   constructor
   ·rintro-w71 D71;rintro _ rfl;exact ai (aq (v:=.bool _) rfl) rfl
   constructor
   ·rintro-w72 D72;rintro _ rfl;exact bI rfl rfl rfl
   constructor
   ·rintro-w73 D73;rintro _ rfl _ rfl;exact bI rfl rfl rfl
   constructor
   ·rintro-w74 D74;rintro _ rfl;exact bI rfl rfl rfl
   constructor
   ·rintro-w75 D75;rintro _ rfl _ rfl;exact bI rfl rfl rfl
   constructor
   ·rintro-w76 D76;rintro _ rfl _ rfl;exact bI rfl rfl rfl
   constructor
   ·rintro-w77 D77;rintro _ rfl _ rfl _ rfl;exact bI rfl rfl rfl
   constructor
   ·rintro-w78 D78;rintro _ rfl _ rfl;exact bI rfl rfl rfl
   constructor
   ·rintro-w79 D79;rintro _ rfl _ rfl;exact ai (bB (v:=.bool _) rfl rfl) rfl
   exact trivial
  case hend=>
   intro w80 D80;rintro _ rfl _ rfl _ rfl _ rfl _ rfl _ rfl _ rfl _ rfl _ rfl _ rfl _ rfl _ rfl;show St ..;have hF11:=((((((aj.rfl_.next E3).next E10).next E20).next E28).next E32).next D80);have hM11:=(((((aj.rfl_.next E10).next E20).next E28).next E32).next D80);have hB11:=h.blk.from_ hF11;have hfd:¬ fd=true:=by first | assumption | (rw [‹fd=false›];decide)
   have hn:¬ ∃ e∈D,e.1=d.1:=fun he=>(hG.named.1 he).elim (fun q=>hfd (hfl.2 q)) (fun ⟨p,hp,q⟩=>hno p hp q)
   refine ah (ab (cW rfl (af (aa (asi rfl (ah (ab (ay (aD (bE (v:=.int _ _) rfl rfl ?_))))))))));rw [mI (by rw [uC hid (by omega) hn (by omega)];decide),uC hid (by omega) hn (by omega)];exact ⟨rfl,hs0.same ((((((aj.rfl_.next E3).next E10).next E20).next E28).next E32).next D80)⟩
 ·apply bS 12 [(33,eqp _),(34,eqp _),(35,eqp _),(36,eqp _),(37,eqp _),(38,eqp (.int .i64 ((dsz D:Nat):Int))),(39,eqp _),(40,eqp (.string d.2)),(41,eqp _),(42,eqp _),(43,eqp _),(44,eqp _)] (by repeat first | exact cy | refine cm ?_ | refine bO ?_) (by kernel_rfl) (by kernel_rfl) ⟨ag _,ag _,ag _,ag _,ag _,ag _,ag _,ag _,ag _,ag _,ag _,ag _,trivial⟩
  case hop=>
   constructor
   ·rintro-w82 D82;exact ai (aq (v:=.slice _ _ _) rfl) rfl
   constructor
   ·rintro-w83 D83;rintro _ rfl;exact ai (aQ bG rfl) rfl
   constructor
   ·rintro-w84 D84;rintro _ rfl;exact ai (dS (eA rfl rfl) (decide_eq_false (by omega))) rfl
   constructor
   ·rintro-w85 D85;rintro _ rfl;exact ai (aq (v:=.bool _) rfl) rfl
   constructor
   ·rintro-w86 D86;rintro _ rfl;exact aP rfl (aq (v:=.slice _ _ _) rfl) rfl
   constructor
   ·rintro-w87 D87;rintro _ rfl _ rfl;refine rf rfl nA ((kP A32 c32 D.length D _ ((dg.own bz (by decide) ho32).2.from_ D87) rfl (by omega) (by omega)).mono ?_);rintro _ w2 ⟨rfl,hE⟩;exact ⟨hE,rfl⟩
   constructor
   ·rintro-w88 D88;rintro _ rfl;exact aP rfl (ak df rfl) rfl
   constructor
   ·rintro-w89 D89;rintro _ rfl _ rfl;exact aP rfl (an (v:=.string d.2) bC rfl ((hk3.from_ (hM8.next D89)).rd 1 rfl)) rfl
   constructor
   ·rintro-w90 D90;rintro _ rfl v90_40 rfl;exact aP rfl (dR (by kernel_rfl) rfl) rfl
   constructor
   ·rintro-w91 D91;rintro _ rfl v91_38 rfl _ rfl;exact aP rfl (fE rfl rfl (by omega)) rfl
   constructor
   ·rintro-w92 D92;rintro _ rfl _ rfl;exact aP rfl (jE (cL rfl rfl) (decide_eq_true (by omega))) rfl
   constructor
   ·rintro-w93 D93;rintro _ rfl _ rfl;exact ai (bk (v:=.bool _) rfl rfl) rfl
   exact trivial
  case hend=>
   intro w94 D94;rintro _ rfl _ rfl _ rfl _ rfl _ rfl v38 rfl _ rfl v40 rfl _ rfl _ rfl _ rfl _ rfl;show St ..;have hF11:=((((((aj.rfl_.next E3).next E10).next E20).next E28).next E32).next D94);have hM11:=(((((aj.rfl_.next E10).next E20).next E28).next E32).next D94);have hB11:=h.blk.from_ hF11;have hfd:¬ fd=true:=by first | assumption | (rw [‹fd=false›];decide)
   have hn:¬ ∃ e∈D,e.1=d.1:=fun he=>(hG.named.1 he).elim (fun q=>hfd (hfl.2 q)) (fun ⟨p,hp,q⟩=>hno p hp q)
   refine ah (ab (cW rfl (af (aa (asi rfl (ah (ab (ay (aD (bE (v:=.int _ _) rfl rfl ?_))))))))));rw [mI (by rw [uC hid (by omega) hn (by omega)];decide),uC hid (by omega) hn (by omega)];exact ⟨rfl,hs0.same ((((((aj.rfl_.next E3).next E10).next E20).next E28).next E32).next D94)⟩
 apply bS 12 [(33,eqp _),(34,eqp _),(35,eqp _),(36,eqp _),(37,eqp _),(38,eqp (.int .i64 ((dsz D:Nat):Int))),(39,eqp _),(40,eqp (.string d.2)),(41,eqp _),(42,eqp _),(43,eqp _),(44,eqp _)] (by repeat first | exact cy | refine cm ?_ | refine bO ?_) (by kernel_rfl) (by kernel_rfl) ⟨ag _,ag _,ag _,ag _,ag _,ag _,ag _,ag _,ag _,ag _,ag _,ag _,trivial⟩
 case hop=>
  constructor
  ·rintro-w96 D96;exact ai (aq (v:=.slice _ _ _) rfl) rfl
  constructor
  ·rintro-w97 D97;rintro _ rfl;exact ai (aQ bG rfl) rfl
  constructor
  ·rintro-w98 D98;rintro _ rfl;exact ai (dS (eA rfl rfl) (decide_eq_false (by omega))) rfl
  constructor
  ·rintro-w99 D99;rintro _ rfl;exact ai (aq (v:=.bool _) rfl) rfl
  constructor
  ·rintro-w100 D100;rintro _ rfl;exact aP rfl (aq (v:=.slice _ _ _) rfl) rfl
  constructor
  ·rintro-w101 D101;rintro _ rfl _ rfl;refine rf rfl nA ((kP A32 c32 D.length D _ ((dg.own bz (by decide) ho32).2.from_ D101) rfl (by omega) (by omega)).mono ?_);rintro _ w2 ⟨rfl,hE⟩;exact ⟨hE,rfl⟩
  constructor
  ·rintro-w102 D102;rintro _ rfl;exact aP rfl (ak df rfl) rfl
  constructor
  ·rintro-w103 D103;rintro _ rfl _ rfl;exact aP rfl (an (v:=.string d.2) bC rfl ((hk3.from_ (hM8.next D103)).rd 1 rfl)) rfl
  constructor
  ·rintro-w104 D104;rintro _ rfl v104_40 rfl;exact aP rfl (dR (by kernel_rfl) rfl) rfl
  constructor
  ·rintro-w105 D105;rintro _ rfl v105_38 rfl _ rfl;exact aP rfl (fE rfl rfl (by omega)) rfl
  constructor
  ·rintro-w106 D106;rintro _ rfl _ rfl;exact aP rfl (dS (cL rfl rfl) (decide_eq_false (by omega))) rfl
  constructor
  ·rintro-w107 D107;rintro _ rfl _ rfl;exact ai (bk (v:=.bool _) rfl rfl) rfl
  exact trivial
 case hend=>
  intro w108 D108;rintro _ rfl _ rfl _ rfl _ rfl _ rfl v38 rfl _ rfl v40 rfl _ rfl _ rfl _ rfl _ rfl;show St ..;have hF11:=((((((aj.rfl_.next E3).next E10).next E20).next E28).next E32).next D108);have hM11:=(((((aj.rfl_.next E10).next E20).next E28).next E32).next D108);have hB11:=h.blk.from_ hF11;have hfd:¬ fd=true:=by first | assumption | (rw [‹fd=false›];decide)
  have hn:¬ ∃ e∈D,e.1=d.1:=fun he=>(hG.named.1 he).elim (fun q=>hfd (hfl.2 q)) (fun ⟨p,hp,q⟩=>hno p hp q)
  refine ah (ab (de rfl (av (ab (af ?_)))));apply uu 9 8 [52] [(45,eqp _),(46,eqp _),(47,eqp _),(48,eqp _),(49,eqp (.slice Al L.length cl)),(50,eqp _),(51,eqp (.agg (dV d).toArray)),(52,fun v w'=>∃ q,v=.slice (some ⟨q,0,none⟩) 1 1∧Blk w' q 37 (dV d).toArray∧(w108).heap.size≤q),(53,fun v w'=>∃ A2 c2,v=.slice A2 (L.length+1) c2∧w'.ownsRow 0 37 2 (.slice A2 (L.length+1) c2) (L.length+1) ((L.take i++d::L.drop i).flatMap dV)∧∀ q,A2.map (·.block)=some q→Al.map (·.block)=some q∨(w108).heap.size≤q)] (fun w'=>aj w108 w') (fun w'=>Chg (fun k=>k=s∨Al.map (·.block)=some k) w108 w'∧Blk w' s 63 #[.slice Ap ps.length cp,.slice Al L.length cl]) (by repeat first | exact cy | refine cm ?_ | refine bO ?_) (by kernel_rfl) (by kernel_rfl) (by kernel_rfl) ⟨ag _,ag _,ag _,ag _,ag _,ag _,ag _,(fun _ _ _ hF ⟨q,h1,h2,h3⟩=>⟨q,h1,h2.from_ hF,h3⟩),(fun _ _ _ hF ⟨A2,c2,h1,h2,h3⟩=>⟨A2,c2,h1,h2.kept_from hF,h3⟩),trivial⟩ (aj.rfl_.d1) (⟨aj.rfl_.d1.toChg,hB11.from_ aj.rfl_.d1⟩) (fun _ _ hF h=>h.next hF) (fun _ _ hF h=>⟨h.1.next hF.toChg,h.2.from_ hF⟩)
  case hop=>
   constructor
   ·rintro-w110 ⟨hC110,hb110⟩;exact ai (aq (v:=.pointer _) rfl) rfl
   constructor
   ·rintro-w111 ⟨hC111,hb111⟩;exact ai (aq (v:=.pointer _) rfl) rfl
   constructor
   ·rintro-w112 ⟨hC112,hb112⟩;rintro _ rfl;exact ai (ar rfl) rfl
   constructor
   ·rintro-w113 D113;rintro _ rfl;exact ai (ak dO rfl) rfl
   constructor
   ·rintro-w114 D114;rintro _ rfl;exact ai (an cQ rfl ((hB11.from_ D114).rd 1 rfl)) rfl
   constructor
   ·rintro-w115 D115;exact ai (aq (v:=.int _ _) rfl) rfl
   constructor
   ·rintro-w116 D116;exact ai (bn (cs:=dV d) bK bh rfl ((hk3.from_ (hM11.next D116)).whole)) rfl
   constructor
   ·rintro-w117 D117;rintro v117_51 rfl;exact fG (CW fv rfl rfl rfl) (aj.rfl_.new _) ⟨_,rfl,Blk.new _ _ _,D117.size⟩
   constructor
   ·intro h;cases h
   exact trivial
  case hmu=>
   rintro w119 D119;rintro v119_49 rfl _ rfl v119_52 ⟨q119,rfl,hq119,hqs119⟩;show mM ..;refine Gq xc (xZ 0 Al cl L.length i 1 q119 0 1 (L.flatMap dV) (dV d) _ _ _ (h.rowL.kept_from (hF11.next D119)) (Nat.zero_le _) hi1 (by decide) rfl hq119.whole hq119 (fun k hk e=>by have:=(cd (h.rowL.kept_from hF11) k hk).2;omega) (rM _) (by simp [dV,Value.oneCell']) (by omega)) ?_;rintro v w3 ⟨⟨A2,c2,rfl,ho3,hA3⟩,hg3⟩;rw [DO] at ho3;have hs9:=D119.size;refine ⟨⟨D119.toChg.next (Chg.of_grown hg3 (fun k e=>.inr e)),(hB11.from_ D119).grown hg3 (cZ (h.rowL.kept_from (hF11.next D119)) (hB11.from_ D119) (by decide))⟩,⟨A2,c2,rfl,ho3,fun q hq=>(hA3 q hq).imp (fun e=>e) fun e=>Nat.le_trans hs9 e⟩,fun t u ht h=>iT (by repeat first | exact trivial | refine ⟨.inl rfl,?_⟩ | refine ⟨.inr (fun _ h=>h),?_⟩) t u ht h⟩
  case hend=>
   rintro w120 ⟨hC120,hb120⟩;rintro _ rfl _ rfl _ rfl _ rfl v49 rfl _ rfl v51 rfl v52 _ v53 ⟨A53,c53,rfl,ho53,hA53⟩;show St ..;have hC11:=hC120;have hbb:=hb120;refine ae (ar rfl) (ae (ak dO rfl) (bH (v:=.slice _ _ _) mJ rfl rfl rfl (hbb) (by show 1<2;decide) ?_));intro w121 O11 P11;refine ah (ab (af (aa (asi rfl (ah (ab (ay (bE (v:=.int _ _) rfl rfl ?_))))))));have he:lg D d=0:=yv hid (by omega) hn (by omega);have hlen:(L.take i++d::L.drop i).length=L.length+1:=qt d;rw [he,uE he];refine ⟨rfl,vA (L':=L.take i++d::L.drop i) h hU hF11 (hC11.only O11 (.inl rfl)) (by rw [hlen];exact P11) (by rw [hlen];exact cf ho53 O11 (cZ ho53 hbb (by decide))) hA53 (hG.add hi1 hi2 (fun hlt=>⟨hi3 i (Nat.le_refl _) hlt,fun e=>hfd (hi4.2 ⟨hlt,e⟩)⟩) (fun e he q=>hn ⟨e,he,q⟩) hid (by omega) (by omega) (by omega))⟩
theorem BD (A B:Option Addr) (ca cb n m:Nat) (a b:List Ht) (w:World) (ha:dg 2 hV w A a) (hb:dg 2 hV w B b) (hn:n=a.length) (hm:m=b.length) (hl:n≤100000000) :
 Rt prog 22 [.slice A n ca,.slice B m cb] w (fun v w'=>v=.bool (decide (a=b))∧aj w w'):=by
 refine enter (n:=26) Tryz.func22 rfl rfl rfl (af (aa (asb rfl (ah (ab (af (af (aa (mvs rfl (ae (aQ fw rfl) (mvs rfl (ae (aQ fw rfl) (ae (cD rfl rfl) ?_)))))))))))));refine ah (ab (JR rfl (fun Q1=>?_) (fun Q1=>?_)))
 ·refine af (aa (asb rfl (ah (ab (ay (aD (bE (v:=.bool _) rfl rfl ?_)))))));exact ⟨by rw [decide_eq_false];rintro rfl;omega,aj.rfl_⟩
 refine av (ab (af (af (aa (asi rfl (ah (ab (aw (a_ (G:=Nat) [4,11,12,13,14,15,16,17,18,19,20,21,22,23,24,25] (fun k=>[(5,.int .i64 (k:Nat))]) (fun k w'=>k≤n∧a.take k=b.take k∧aj w w') (fun k=>n-k) (0) ⟨rfl,trivial⟩ ?_ ?_)))))))))
 ·exact ⟨Nat.zero_le _,rfl,aj.rfl_⟩
 rintro k ρ2 w2 ⟨hk,ht,hB⟩;refine af (af (aa (mvi rfl (mvs rfl (ae (aQ fw rfl) (ae (aW rfl rfl) (ah (ab (JV rfl (fun Q3=>?_) (fun Q3=>?_))))))))))
 ·obtain ⟨ba,oa,rfl,hca⟩:=ha (by omega);obtain ⟨bb,ob,rfl,hcb⟩:=hb (by omega);refine av (ab (af (aw (af ?_))));apply bS 9 [(17,eqp _),(18,eqp _),(19,eqp _),(20,eqp (.agg (hV a[k]).toArray)),(21,eqp _),(22,eqp _),(23,eqp _),(24,eqp (.agg (hV b[k]).toArray)),(25,eqp _)] (by repeat first | exact cy | refine cm ?_ | refine bO ?_) (by kernel_rfl) (by kernel_rfl) ⟨ag _,ag _,ag _,ag _,ag _,ag _,ag _,ag _,ag _,trivial⟩
  case hop=>
   constructor
   ·rintro-w5 D5;exact ai (aq (v:=.slice _ _ _) rfl) rfl
   constructor
   ·rintro-w6 D6;exact ai (aq (v:=.int _ _) rfl) rfl
   constructor
   ·rintro-w7 D7;rintro _ rfl _ rfl;exact ai (aM fT rfl rfl (by omega)) rfl
   constructor
   ·rintro-w8 D8;rintro _ rfl;exact ai (bn (cs:=hV a[k]) gR fu rfl (du (hB.next D8) (hca k (by omega)))) rfl
   constructor
   ·rintro-w9 D9;exact ai (aq (v:=.slice _ _ _) rfl) rfl
   constructor
   ·rintro-w10 D10;exact ai (aq (v:=.int _ _) rfl) rfl
   constructor
   ·rintro-w11 D11;rintro _ rfl _ rfl;exact ai (aM fT rfl rfl (by omega)) rfl
   constructor
   ·rintro-w12 D12;rintro _ rfl;exact ai (bn (cs:=hV b[k]) gR fu rfl (du (hB.next D12) (hcb k (by omega)))) rfl
   constructor
   ·rintro-w13 D13;rintro v13_20 rfl v13_24 rfl;exact ai (vH rfl rfl) rfl
   exact trivial
  case hend=>
   intro w14 D14;rintro _ rfl _ rfl _ rfl v20 rfl _ rfl _ rfl _ rfl v24 rfl _ rfl;show St ..;refine ah (ab (au rfl (fun Q15=>?_) (fun Q15=>?_)))
   ·with_reducible (replace Q15:=fm Q15;replace Q15:=dF_ Q15)
    have hne:¬ a[k]=b[k]:=by simpa using Q15
    refine af (aa (asb rfl (ah (ab (ay (bj (aD (aD (bj (aD (bE (v:=.bool _) rfl rfl ?_)))))))))));exact ⟨by rw [decide_eq_false];rintro rfl;exact hne rfl,(hB.next D14)⟩
   with_reducible (replace Q15:=fo Q15;replace Q15:=dT_ Q15)
   have heq:a[k]=b[k]:=by simpa using Q15
   refine av (aI (ab (aa (mvi rfl (ae (aG (b:=1) rfl rfl (by omega)) (asi rfl (ah ?_)))))));refine aO (k+1) ⟨(by first | rfl | (refine aK ?_;omega)),trivial⟩ (by (iterate 33 refine aB rfl ?_);exact aJ) ⟨?_,?_⟩
   ·exact ⟨by omega,y_ (by omega) (by omega) ht heq,(hB.next D14)⟩
   ·show n-(k+1)<n-k;omega
 refine bc (aC (aC (aS (ab (af (aa (asb rfl (ah (ab (ay (bE (v:=.bool _) rfl rfl (⟨by rw [decide_eq_true (HA (by omega) (by omega) ht)],hB⟩))))))))))))
theorem vy {s:ByteArray}:(s.toList==(⟨#[]⟩:ByteArray).toList)=true↔s.size=0:=fB.trans ⟨s5,qO⟩
def j6 (p:ByteArray) (limit:Int):Int:=if p.size=0 then 5 else if 4096<p.size∨limit<1∨1000<limit then 2 else 0
theorem yU:az prog 41=true:=by kernel_rfl
theorem yT:az prog 42=true:=by kernel_rfl
theorem yS:az prog 43=true:=by kernel_rfl
theorem yR:az prog 48=true:=by kernel_rfl
def sH (D:List Dc) (q:ByteArray) (lim:Int):List Ht:=if j6 q lim=0 then (eg D q).take lim.toNat else []
def sN (D:List Dc) (q:ByteArray) (lim:Int):Nat:=if j6 q lim=0 then (eg D q).length else 0
theorem EK {q:ByteArray} {lim:Int} (h:j6 q lim=0):nd q=0∧q.size≠0∧1≤lim∧lim≤1000:=by
 unfold j6 at h;split at h
 ·cases h
 ·split at h
  ·cases h
  ·unfold nd;rw [if_neg (by assumption),if_neg (by omega)];exact ⟨rfl,by assumption,by omega,by omega⟩
theorem DQ (q:ByteArray) {a b:List Dc} (h:a.Perm b) (hf:kq b):(eg a q).length≤16448:=by
 have h1:=tZ (p:=q) a;have h2:=rK h;have h3:=h.length_eq;have h4:=hf.1;have h5:=hf.2.2;omega
noncomputable def hpf (ps:List Pt) (q:ByteArray) (i:Nat):List Ht:=eg ((ps.take i).flatMap Pt.live) q
theorem wj {ps:List Pt} {q:ByteArray} {i:Nat} (h:i<ps.length):hpf ps q (i+1)=hpf ps q i++eg ps[i].live q:=by
 unfold hpf;rw [List.take_succ_eq_append_getElem h,List.flatMap_append,kK,List.flatMap_cons,List.flatMap_nil,List.append_nil]
noncomputable def hlf (ps:List Pt) (L:List Dc) (q:ByteArray) (j:Nat):List Ht:=hpf ps q ps.length++eg (L.take j) q
theorem wm {ps:List Pt} {L:List Dc} {q:ByteArray} {j:Nat} (h:j<L.length):hlf ps L q (j+1)=hlf ps L q j++hOf L[j] q:=by
 unfold hlf;rw [List.take_succ_eq_append_getElem h,kK,List.append_assoc];show _++(_++(hOf L[j] q++[]))=_;rw [List.append_nil]
theorem ry (ps:List Pt) (L:List Dc) (q:ByteArray):hlf ps L q 0=hpf ps q ps.length:=List.append_nil _
theorem zM {ps:List Pt} {L D:List Dc} (hG:ShG ps L D) (q:ByteArray):(hlf ps L q L.length).Perm (eg D q):=by
 have h1:=Bw hG.perm q;unfold hlf hpf;rw [List.take_length,List.take_length];refine List.Perm.trans ?_ h1.symm;unfold iY;rw [kK];exact List.perm_append_comm
theorem x0 {ps:List Pt} {L D:List Dc} (hG:ShG ps L D) (q:ByteArray) {j:Nat} (_:j≤L.length):(hlf ps L q j).length≤16448:=by
 have h1:=(zM hG q).length_eq;have h2:=DQ q (.refl D) hG.fit
 have e:hlf ps L q L.length=hlf ps L q j++eg (L.drop j) q:=by
  unfold hlf;rw [List.append_assoc,←kK,List.take_append_drop,List.take_length]
 rw [e,List.length_append] at h1;omega
theorem ID {ps:List Pt} {L D:List Dc} (hG:ShG ps L D) (q:ByteArray) {i:Nat} (_:i≤ps.length):(hpf ps q i).length≤16448:=by
 have h1:=x0 hG q (Nat.zero_le L.length);rw [ry] at h1
 have e:hpf ps q ps.length=hpf ps q i++eg ((ps.drop i).flatMap Pt.live) q:=by
  unfold hpf;rw [←kK,←List.flatMap_append,List.take_append_drop,List.take_length]
 rw [e,List.length_append] at h1;omega
theorem lR (U:Nat→Prop) (s:Nat) (D:List Dc) (w:World) (hs:eZ w U s D) (q:ByteArray) (lim:Int) (m:Int) (hm:w.cell? ⟨0,0,none⟩=some (.int .i64 m)) (hqs:q.size≤140737488351232) :
 Rt prog 20 [.pointer (some ⟨s,0,none⟩),.string q,.int .i64 lim] w (fun v w'=>(∃ A' c',v=.tuple #[.slice A' (sH D q lim).length c',.int .i64 (sN D q lim:Nat),.int .i64 (j6 q lim)]∧w'.ownsRow w.heap.size 57 2 (.slice A' (sH D q lim).length c') (sH D q lim).length ((sH D q lim).flatMap hV))∧aj w w'):=by
 have hs0:=hs;obtain ⟨ps,L,Ap,cp,Al,cl,hG,h,hU⟩:=hs;have hll:=hG.loose;have hpl:=hG.parts;refine enter (n:=80) Tryz.func20 rfl rfl rfl (af (aa (ass rfl (asi rfl (asi rfl (ah (ab (af (af (aa (mvg rfl (ae (qm rfl rfl) (ah (ab ?_))))))))))))));refine JU rfl (fun Q1=>?_) (fun Q1=>?_)
 ·have hp0:q.size=0:=vy.1 (by simpa using Q1);refine af (aa (ass rfl (asi rfl (asi rfl (ah (ab (ay (aD (sI (v:=.slice _ _ _) (v':=.int _ _) (v'':=.int _ _) rfl rfl rfl rfl ?_)))))))));have hak:j6 q lim=5:=by unfold j6;rw [if_pos hp0]
  have e1:sH D q lim=[]:=by unfold sH;rw [if_neg (by omega)]
  have e2:sN D q lim=0:=by unfold sN;rw [if_neg (by omega)]
  rw [e1,e2,hak];exact ⟨⟨none,0,rfl,World.ownsRow_nil _ _ _ _⟩,aj.rfl_⟩
 have hp0:q.size≠0:=fun h9=>by have:=vy.2 h9;simp_all
 refine av (ab (af (af (aa (mvg rfl (ae (dR (by kernel_rfl) rfl) (ae (cL rfl rfl) (mvb rfl (Jk (t:=20) rfl (fun Q2=>?_) (fun Q2=>?_))))))))))
 ·refine aL rfl rfl (aL rfl rfl (ae (bB (v:=.bool _) rfl rfl) (mvb rfl (aL rfl rfl (aL rfl rfl (ae (bB (v:=.bool _) rfl rfl) (ah (ab (cW rfl ?_)))))))));refine af (aa (ass rfl (asi rfl (asi rfl (ah (ab (ay (aD (sI (v:=.slice _ _ _) (v':=.int _ _) (v'':=.int _ _) rfl rfl rfl rfl ?_)))))))));have hak:j6 q lim=2:=by unfold j6;rw [if_neg hp0,if_pos (by omega)]
  have e1:sH D q lim=[]:=by unfold sH;rw [if_neg (by omega)]
  have e2:sN D q lim=0:=by unfold sN;rw [if_neg (by omega)]
  rw [e1,e2,hak];exact ⟨⟨none,0,rfl,World.ownsRow_nil _ _ _ _⟩,aj.rfl_⟩
 refine ao rfl (mvi rfl (ao rfl (ae (aW rfl rfl) (ae (bk (v:=.bool _) rfl rfl) (mvb rfl (Jk (t:=24) rfl (fun Q3=>?_) (fun Q3=>?_)))))))
 ·refine aL rfl rfl (aL rfl rfl (ae (bB (v:=.bool _) rfl rfl) (ah (ab (cW rfl (af (aa (ass rfl (asi rfl (asi rfl ?_))))))))));refine ah (ab (ay (aD (sI (v:=.slice _ _ _) (v':=.int _ _) (v'':=.int _ _) rfl rfl rfl rfl ?_))));have hak:j6 q lim=2:=by unfold j6;rw [if_neg hp0,if_pos (by omega)]
  have e1:sH D q lim=[]:=by unfold sH;rw [if_neg (by omega)]
  have e2:sN D q lim=0:=by unfold sN;rw [if_neg (by omega)]
  rw [e1,e2,hak];exact ⟨⟨none,0,rfl,World.ownsRow_nil _ _ _ _⟩,aj.rfl_⟩
 refine ao rfl (mvi rfl (ao rfl (ae (cL rfl rfl) (ae (bk (v:=.bool _) rfl rfl) (ah (ab (JV rfl (fun Q4=>?_) (fun Q4=>?_))))))))
 ·refine af (aa (ass rfl (asi rfl (asi rfl (ah (ab (ay (aD (sI (v:=.slice _ _ _) (v':=.int _ _) (v'':=.int _ _) rfl rfl rfl rfl ?_)))))))));have hak:j6 q lim=2:=by unfold j6;rw [if_neg hp0,if_pos (by omega)]
  have e1:sH D q lim=[]:=by unfold sH;rw [if_neg (by omega)]
  have e2:sN D q lim=0:=by unfold sN;rw [if_neg (by omega)]
  rw [e1,e2,hak];exact ⟨⟨none,0,rfl,World.ownsRow_nil _ _ _ _⟩,aj.rfl_⟩
 have hak:j6 q lim=0:=by unfold j6;rw [if_neg hp0,if_neg (by omega)]
 obtain ⟨hpe,_,hl1,hl2⟩:=EK hak;obtain ⟨l,rfl⟩:∃ l:Nat,lim=(l:Int):=⟨lim.toNat,by omega⟩;have hsH:sH D q l=(eg D q).take l:=by unfold sH;rw [if_pos hak,Int.toNat_natCast]
 have hsN:sN D q l=(eg D q).length:=by unfold sN;rw [if_pos hak]
 refine av (ab (af (aa (ass rfl (ah (ab (af (af (aa (mvp rfl (ae (ar rfl) (ae (ak bW rfl) (ae (an dH rfl (by exact (h.blk.from_ aj.rfl_).rd 0 rfl)) ?_)))))))))))));refine ae (aQ cU rfl) (mvi rfl (ah (ab (aw (a_ (G:=Nat×Option Addr×Nat) [6,7,8,10,11,12,34,35,36,37,38,39,40,41,42,43,44,45,46,47,48,49,50,51,52,53] (fun (i,A9,c9)=>[(9,.slice A9 (hpf ps q i).length c9),(33,.int .i64 (i:Nat))]) (fun (i,A9,c9) w'=>i≤ps.length∧w'.ownsRow w.heap.size 57 2 (.slice A9 (hpf ps q i).length c9) (hpf ps q i).length ((hpf ps q i).flatMap hV)∧aj w w') (fun (i,_,_)=>ps.length-i) ((0,none,0)) ⟨rfl,rfl,trivial⟩ ?_ ?_)))))
 ·exact ⟨Nat.zero_le _,World.ownsRow_nil _ _ _ _,aj.rfl_⟩
 rintro ⟨i,A9,c9⟩ ρ5 w5 ⟨hi,ho9,hB⟩;refine af (aa (ae (aW rfl rfl) (ah (ab (af (JV rfl (fun Q6=>?_) (fun Q6=>?_)))))))
 ·have hil:i<ps.length:=by omega
  obtain ⟨g,rfl⟩:=dm h.rowP (by omega);have hpf1:(hpf ps q (i+1)).length=(hpf ps q i).length+(eg ps[i].live q).length:=by rw [wj hil,List.length_append]
  have hpl4:=ID hG q (show i+1≤ps.length by omega);refine av (ab (af (aw (af (aa (mvi rfl (asi rfl (ah (ab (af (aa (mvp rfl (ae (ar rfl) (ae (ak bW rfl) (ae (an dH rfl (by exact (h.blk.from_ hB).rd 0 rfl)) ?_)))))))))))))));refine mvi rfl (ae (aM cq rfl rfl (by omega)) (mvg rfl (aF yU (GK g (0+i*2) ps[i] _ ((qZ h.rowP (fun p hp=>h.ptIn hG hp) hil).from_ hB) q hqs hpe) ?_)));rintro v44 w7 ⟨⟨A44,c44,rfl,ho44⟩,E44⟩;refine mvt rfl (ae (ax rfl rfl) (ae (ax rfl rfl) (ass rfl (asi rfl (ah (ab (af (af (aa (mvi rfl (ae (dS (cD rfl rfl) (bne_self_eq_false _)) (ah (ab ?_)))))))))))));refine de rfl (av (ab (aa (mvs rfl (mvs rfl (dB eY rfl (by decide) rfl (A:=A9) (xs:=List.flatMap hV (hpf ps q i)) (news:=List.flatMap hV (eg ps[i].live q)) (ho9.kept_from (aj.rfl_.next E44)) ((hB.next E44).size) rfl (eW eV _) (fun h=>((dg.own eV (by decide) ho44).2).flat eV h) (fun e=>by subst e;exact jI ho44) (x7 _) (by omega) (by omega) ?_))))));intro A52 c52 w8 ho52 hg52;have HF52:=((hB.next E44)).grew hg52 (fun k hk=>(cd (ho9.kept_from (aj.rfl_.next E44)) k hk).1);refine ass rfl (ah (aI (ab (aa (ae (aG (b:=1) rfl rfl (by omega)) (mvi rfl (ah ?_)))))));refine aO ((i+1,A52,c52)) ⟨(by rw [hpf1];rfl),rfl,trivial⟩ (by (iterate 52 refine aB rfl ?_);exact aJ) ⟨?_,?_⟩
  ·exact ⟨by omega,by rw [hpf1,wj hil,List.flatMap_append];exact ho52,HF52⟩
  ·show ps.length-(i+1)<ps.length-i;omega
 obtain rfl:i=ps.length:=by omega
 refine bc (aC (aC (aS (ab (af (af (aa (mvp rfl (ae (ar rfl) (ae (ak dO rfl) (ae (an cQ rfl (by exact (h.blk.from_ hB).rd 1 rfl)) ?_)))))))))));refine ae (aQ bG rfl) (mvi rfl (ah (ab (aw (a_ (G:=Nat×Option Addr×Nat) [14,60,61,62,63,64,65,66,67,68] (fun (j,A9,c9)=>[(9,.slice A9 (hlf ps L q j).length c9),(59,.int .i64 (j:Nat))]) (fun (j,A9,c9) w'=>j≤L.length∧w'.ownsRow w.heap.size 57 2 (.slice A9 (hlf ps L q j).length c9) (hlf ps L q j).length ((hlf ps L q j).flatMap hV)∧aj w w') (fun (j,_,_)=>L.length-j) ((0,A9,c9)) ⟨(by rw [ry];rfl),rfl,trivial⟩ ?_ ?_)))))
 ·exact ⟨Nat.zero_le _,by rw [ry];exact ho9,hB⟩
 rintro ⟨j,A9,c9⟩ ρ9 w9 ⟨hj,ho9,hB⟩;refine af (aa (ae (aW rfl rfl) (ah (ab (af (JV rfl (fun Q10=>?_) (fun Q10=>?_)))))))
 ·have hjl:j<L.length:=by omega
  obtain ⟨bL,oL,rfl,hcL⟩:=(dg.own bz (by decide) h.rowL).2 (by omega);have hce:=hcL j hjl;have hlf1:(hlf ps L q (j+1)).length=(hlf ps L q j).length+(hOf L[j] q).length:=by rw [wm hjl,List.length_append]
  have hpl5:=x0 hG q (show j+1≤L.length by omega);have hdj:=hG.looseFit.2.1 _ (List.getElem_mem hjl);refine av (ab (af (aw (af (aa (ae (aM aT rfl rfl (by omega)) (ae (bn (cs:=[_,_]) bK bh rfl (by exact du hB hce)) ?_)))))));refine dI jB ?_;intro b14 w11 E14 hb14 hk14;have hg14:w.heap.size≤b14:=by rw [hb14];exact (hB).size
  refine fR (vs:=[_,_]) bh rfl rfl (by simp [Value.oneCell']) (hk14) rfl ?_;intro w12 O16 P16;replace ho9:=cf (ho9.kept_from E14) O16 (fun q hq=>by have:=(cd ho9 q hq).2;omega);refine ah (ab (aa (mvs rfl (ae (bn (cs:=[_,_]) bK bh rfl (by exact (P16.from_ aj.rfl_).whole)) ?_))));refine mvg rfl (aF yT (Fw L[j] q m _ (bx ((hB.next E14).only O16 (hg14)) hm) hdj hp0) ?_);rintro v66 w13 ⟨⟨A66,c66,rfl,ho66⟩,E66⟩;refine dB eY rfl (by decide) rfl (A:=A9) (xs:=List.flatMap hV (hlf ps L q j)) (news:=List.flatMap hV (hOf L[j] q)) (ho9.kept_from (aj.rfl_.next E66)) ((((hB.next E14).only O16 (hg14)).next E66).size) rfl (eW eV _) (fun h=>((dg.own eV (by decide) ho66).2).flat eV h) (fun e=>by subst e;exact jI ho66) (x7 _) (by omega) (by omega) ?_;intro A67 c67 w14 ho67 hg67;have HF67:=((((hB.next E14).only O16 (hg14)).next E66)).grew hg67 (fun k hk=>(cd (ho9.kept_from (aj.rfl_.next E66)) k hk).1);refine ass rfl (ah (aI (ab (aa (ae (aG (b:=1) rfl rfl (by omega)) (mvi rfl (ah ?_)))))));refine aO ((j+1,A67,c67)) ⟨(by rw [hlf1];rfl),rfl,trivial⟩ (by (iterate 24 refine aB rfl ?_);exact aJ) ⟨?_,?_⟩
  ·exact ⟨by omega,by rw [hlf1,wm hjl,List.flatMap_append];exact ho67,HF67⟩
  ·show L.length-(j+1)<L.length-j;omega
 obtain rfl:j=L.length:=by omega
 have hpl6:=x0 hG q (Nat.le_refl L.length);refine bc (aC (aC (aS (ab (af (aa (mvs rfl (aF yS (AE _ A9 c9 (hlf ps L q L.length).length (hlf ps L q L.length) _ ho9 (by omega)) ?_))))))));rintro v70 w15 ⟨⟨ys,hyp,hys,hoy⟩,hg70⟩;obtain rfl:=Bv hG.sd (zM hG q) hyp hys;have hyl:=hyp.length_eq;refine ah (ab (af (aa (mvs rfl (mvi rfl (mvs rfl (ae (aQ fw rfl) (ae (eR (v':=.int .i64 ((min l (hlf ps L q L.length).length:Nat):Int)) (Ib rfl rfl) (aK (by omega))) (ae (eR (v':=.slice A9 (min l (hlf ps L q L.length).length) c9) (bm (l:=0) (h:=min l (hlf ps L q L.length).length) fT rfl (.inl ⟨rfl,rfl⟩) (.inr ⟨_,_,_,rfl,rfl,rfl⟩) (by omega) (by have:=nU hoy;omega)) (by rw [di,Nat.sub_zero,Nat.sub_zero])) ?_)))))))));have hz77:=(((hB).grew hg70 (fun k hk=>(cd ho9 k hk).1))).size;refine aF yR (dr A9 c9 (min l (hlf ps L q L.length).length) (((eg D q).take l).flatMap hV) _ (by rw [eW eV,List.length_take,hyl]) (fun h0=>((dg.own eV (by decide) hoy).2.take l).flat eV (by rw [List.length_take,hyl];exact h0)) (fun e=>by subst e;have e1:=oY hoy;have e2:=jI hoy;omega) (x7 _) (by omega)) ?_;rintro v77 w16 ⟨⟨A77,c77,rfl,ho77⟩,E77⟩;refine mvs rfl (ae (aQ fw rfl) (ass rfl (asi rfl (asi rfl (ah (ab (ay (sI (v:=.slice _ _ _) (v':=.int _ _) (v'':=.int _ _) rfl rfl rfl rfl ?_))))))));have hlen:((eg D q).take l).length=min l (hlf ps L q L.length).length:=by rw [List.length_take,hyl]
 rw [hsH,hsN,hak,hlen,hyl];exact ⟨⟨A77,c77,rfl,gx ho77 hz77⟩,(((hB).grew hg70 (fun k hk=>(cd ho9 k hk).1)).next E77)⟩
structure KJ (w:World) (A B C:Option Addr) (ca:Nat) (ds:List Dc) (ps ns:List ByteArray):Prop where
 row:dg 2 dV w A ds
 sm:∀ d∈ds,Small d.1∧Small d.2
 len:ds.length*32≤140737488351232
 nil:A=none→ca=0
 rowP:bA Value.string w B ps
 smP:∀ s∈ps,Small s
 lenP:ps.length*16≤140737488351232
 rowN:bA Value.string w C ns
 smN:∀ s∈ns,Small s
 lenN:ns.length*16≤140737488351232
theorem GL:kR [(⟨#[97]⟩,⟨#[120,120]⟩)] ⟨#[120]⟩=[(⟨#[97]⟩,0),(⟨#[97]⟩,1)]:=by
 have e2:txt ⟨#[120,120]⟩=[121,121]:=by unfold txt;rw [Lib.toList_data];rfl
 have e3:txt ⟨#[120]⟩=[121]:=by unfold txt;rw [Lib.toList_data];rfl
 have e4:nd ⟨#[120]⟩=0:=by decide
 have e5:ks [121,121] [121]=[0,1]:=by decide
 unfold kR;rw [e4,if_pos rfl];unfold eg eg;rw [e2,e3,e5];rfl
open Classical in
noncomputable def fI (ds:List Dc) (q:ByteArray):Int:=if h:∃ i,i<ds.length∧(ds.getD i dd).1=q∧∀ k,k<i→(ds.getD k dd).1≠q then ((Classical.choose h:Nat):Int) else -1
end Go.Proofs.YtcbakncjacnnjaaGreat
namespace Go.Proofs.YtcbakncjacnnjaaGreat
open Go.Proofs.Tryz (prog)
open Go.RowKit
open Go.ChangeShapes Go.WideShapes Go.ChangeAt
open Go.Proofs.YtcbakncjacnnjaaGreat.SA
structure KD (w:World) (U:Nat→Prop) (A:Option Addr) (c:Nat) (ds:List Dc):Prop where
 row:dg 2 dV w A ds
 cap:ds.length≤c
 nil:A=none→c=0
 off:0<ds.length→∀ q,A.map (·.block)=some q→¬ U q
theorem iS (e:Int) (w:World) :
 Rt prog 15 [.int .i64 e] w (fun v w'=>v=.int .i64 e∧w=w'):=by
 refine enter (n:=4) Tryz.func15 rfl rfl rfl (af (aa (asi rfl (ah (ab (af (aa (mvi rfl (asi rfl (ah (ab (ay (bE (v:=.int _ _) rfl rfl (⟨rfl,rfl⟩))))))))))))))
end Go.Proofs.YtcbakncjacnnjaaGreat
namespace Go.Proofs.YtcbakncjacnnjaaGreat
open Go.Proofs.Tryz (prog)
open Go.RowKit
open Go.ChangeShapes Go.WideShapes Go.ChangeAt
section
variable {cur xs vs zs:List Value} {i n c:Nat}
theorem vW {cs vs:List Value} {o:Nat} (h:o≤cs.length):(dp cs o vs).take (o+vs.length)=cs.take o++vs:=by
 unfold dp;rw [List.take_append_of_le_length (by rw [List.length_append,List.length_take];omega),List.take_of_length_le (by rw [List.length_append,List.length_take];omega)]
theorem A0 {cs vs:List Value} {o k:Nat} (h:o+vs.length≤k) (hl:o≤cs.length):(dp cs o vs).drop k=cs.drop k:=by
 unfold dp;rw [List.drop_append,List.drop_eq_nil_of_le (by rw [List.length_append,List.length_take];omega),List.nil_append,List.length_append,List.length_take,Nat.min_eq_left hl,List.drop_drop]
 congr 1
 omega
theorem zt (hct:cur.take (n*2)=xs) (hcl:cur.length=c*2) (hnc:n≤c) (hi:i+4≤n) (hv:vs.length=2):(dp cur (i*2) vs).take ((i+1)*2)=xs.take (i*2)++vs:=by
 have e:(i+1)*2=i*2+vs.length:=by omega
 rw [e,vW (by omega),←hct,List.take_take,Nat.min_eq_left (by omega)]
theorem FR (hct:cur.take (n*2)=xs) (hcl:cur.length=c*2) (hnc:n≤c) (hi:i+4≤n) (hv:vs.length=2):(dp cur (i*2) vs).take (n*2)=dp xs (i*2) vs:=by
 rw [o3 _ _ _ _ (by omega) (by omega),hct]
theorem FT (hct:cur.take (n*2)=xs) (hcl:cur.length=c*2) (hnc:n≤c) (hi:i+4≤n) (hv:vs.length=2):(dp (dp (dp cur (i*2) vs) ((i+1)*2) (xs.drop ((i+4)*2))) ((i+1+(n-(i+4)))*2) zs).take ((i+1+(n-(i+4)))*2)=xs.take (i*2)++vs++xs.drop ((i+4)*2):=by
 have hxl:xs.length=n*2:=by rw [←hct,List.length_take];omega
 have h1:(dp cur (i*2) vs).length=cur.length:=br _ _ _ (by omega);have hd:(xs.drop ((i+4)*2)).length=(n-(i+4))*2:=by rw [List.length_drop];omega
 have h2:(dp (dp cur (i*2) vs) ((i+1)*2) (xs.drop ((i+4)*2))).length=cur.length:=by rw [br _ _ _ (by omega),h1]
 rw [gZ _ _ _ _ (Nat.le_refl _) (by omega)];have e:(i+1+(n-(i+4)))*2=(i+1)*2+(xs.drop ((i+4)*2)).length:=by omega
 rw [e,vW (by omega),zt hct hcl hnc hi hv]
end
theorem Gp {P:Program} {ops:Array Oper} {n:Fr} {L:List (Nat×Value)} {w:World} {ty:TypeId} {pos:String} {after:Array Edge} {dst:Option Nat} {post:Value→World→Prop} {d s:Operand} {dT sT e size g o m c j c2:Nat} {A A2:Option Addr} {u:TypeId} {cur news:List Value} (ht:cN P dT=some (e,size)) (hd:ev n L d=.slice A m c) (hs:ev n L s=.slice A2 j c2) (hn:news.length=min j m*size)
 (hA:0<news.length→A=some ⟨g,o,none⟩) (hsrc:0<news.length→∃ b o,A2=some ⟨b,o,none⟩∧w.rangeAt b o news) (hb:Blk w g u cur.toArray) (hfit:o+news.length≤cur.length) (h1:∀ v∈news,v.oneCell'=true)
 (k:∀ w',cH g w w'→Blk w' g u (dp cur o news).toArray→post (.int .i64 (min j m:Nat)) w'):mM P ops n L ⟨dst,.call { callee:=.builtin .copy,args:=#[d,s],argTypes:=#[dT,sT] },ty,pos,after,none⟩ w post:=
 let ⟨w',hR,hO,hB⟩:=qV (sT:=sT) ht hd hs hn hA hsrc hb hfit h1
 Hp hR (k w' hO hB)
theorem pF (base:Nat) (A:Option Addr) (c n i b vc:Nat) (xs vs:List Value) (tv:TypeId) (csv:Array Value) (w:World) (ho:w.ownsRow base 66 2 (.slice A n c) n xs) (hi:i+4≤n) (hvl:vs.length=2) (hvr:w.rangeAt b 0 vs) (_:Blk w b tv csv) (hne:∀ k,A.map (·.block)=some k→k≠b) (h1:∀ u∈xs,u.oneCell'=true) (h1v:∀ u∈vs,u.oneCell'=true) (hl:n≤100000000) :
 Rt prog 54 [.slice A n c,.int .i64 (i:Nat),.int .i64 ((i+4:Nat):Int),.slice (some ⟨b,0,none⟩) 1 vc] w (fun v w'=>(∃ A' c',v=.slice A' (n-3) c'∧w'.ownsRow base 66 2 (.slice A' (n-3) c') (n-3) (xs.take (i*2)++vs++xs.drop ((i+4)*2))∧∀ q,A'.map (·.block)=some q→A.map (·.block)=some q)∧w.grownBy w' (A.map (·.block))):=by
 obtain ⟨g,cur,rfl,hg,hbk,hnc,hcm,hcl,hct⟩:=fa ho (by omega);have hxl:xs.length=n*2:=ho.1;have hgb:g≠b:=hne g rfl;have hdl:(xs.drop ((i+4)*2)).length=(n-(i+4))*2:=by rw [List.length_drop,hxl];omega
 have hbz:w.grownBy w (some g):=World.grownBy.refl _ _;refine enter (n:=224) Tryz.func54 rfl rfl rfl (af (aa (ass rfl (ah (ab (af (aa (mvs rfl (mvi rfl (mvi rfl (ae (bm (l:=i) (h:=i+4) cq rfl (.inr ⟨_,_,_,rfl,rfl,rfl⟩) (.inr ⟨_,_,_,rfl,rfl,rfl⟩) (by omega) (by omega)) (ah (ab (af (af (aa ?_))))))))))))))));refine mvi rfl (mvi rfl (ae (dS (cx rfl rfl) (by rw [beq_eq_false_iff_ne];omega)) ?_));refine ah (ab (de rfl (av (ab (af (af (aa (mvi rfl (mvs rfl (ae (aQ cU rfl) (ae (cx rfl rfl) (ah (ab (JV rfl (fun Q1=>?_) (fun Q1=>?_)))))))))))))))
 ·refine af (aa (mvs rfl (mvi rfl (ae (eR (v':=.slice (some ⟨g,0,none⟩) i c) (bm (l:=0) (h:=i) cq rfl (.inl ⟨rfl,rfl⟩) (.inr ⟨_,_,_,rfl,rfl,rfl⟩) (by omega) (by omega)) (by rw [di,Nat.sub_zero,Nat.sub_zero])) ?_))));refine mvs rfl (m_ (news:=vs) (cur:=cur) cq rfl rfl (by rw [hvl]) (fun h=>⟨b,0,rfl,hvr⟩) hbk h1v (by omega) (by omega) ?_);intro w2 O34 P34;refine ass rfl (ah (ab (af (af (aa (mvs rfl (ae (aQ cU rfl) (mvs rfl (ae (aQ cU rfl) (ae (jE (aW rfl rfl) (decide_eq_true (by omega))) (ah (ab (cW rfl ?_)))))))))))));refine aa (mvs rfl (mvs rfl (ae (aQ cU rfl) (ae (bm (l:=(i+1)) (h:=n) cq rfl (.inr ⟨_,_,_,rfl,rfl,rfl⟩) (.inl ⟨rfl,rfl⟩) (by omega) (by omega)) ?_))));refine jx (g:=g) (o:=(i+1)*2) eX rfl rfl (fun h=>by rw [bT (by omega),Nat.zero_add]) P34 (by rw [br _ _ _ (by omega),hcl];omega) (by decide) ?_;intro w3 zs O7 hzl P7;refine ah (ab (af (aa (mvs rfl (ass rfl (ah (ab (ay (aD (bE (v:=.slice _ _ _) rfl rfl ?_))))))))));obtain rfl:n=i+4:=by omega
  have e3:i+4-3=i+1:=by omega
  rw [e3];refine ⟨⟨_,_,rfl,gv hg P7 (by omega) hcm (by rw [br _ _ _ (by rw [hzl,br _ _ _ (by omega),hcl];omega),br _ _ _ (by omega),hcl]) ?_,fun q hq=>hq⟩,aN hbz (aN O34.grown O7.grown)⟩;rw [gZ _ _ _ _ (Nat.le_refl _) (by rw [br _ _ _ (by omega)];omega),zt hct hcl hnc hi hvl,List.drop_of_length_le (by omega),List.append_nil]
 refine av (ab (af ?_));apply bS 13 [(45,eqp _),(46,eqp _),(47,eqp _),(48,eqp _),(49,eqp _),(50,eqp _),(51,eqp _),(52,eqp _),(53,eqp _),(54,eqp _),(55,eqp _),(56,eqp _),(10,eqp _)] (by repeat first | exact cy | refine cm ?_ | refine bO ?_) (by kernel_rfl) (by kernel_rfl) ⟨ag _,ag _,ag _,ag _,ag _,ag _,ag _,ag _,ag _,ag _,ag _,ag _,ag _,trivial⟩
 case hop=>
  constructor
  ·rintro-w5 D5;exact ai (aq (v:=.slice _ _ _) rfl) rfl
  constructor
  ·rintro-w6 D6;exact ai (aq (v:=.int _ _) rfl) rfl
  constructor
  ·rintro-w7 D7;rintro _ rfl _ rfl;exact ai (eR (v':=.slice (some ⟨g,0,none⟩) i c) (bm (l:=0) (h:=i) cq rfl (.inl ⟨rfl,rfl⟩) (.inr ⟨_,_,_,rfl,rfl,rfl⟩) (by omega) (by omega)) (by rw [di,Nat.sub_zero,Nat.sub_zero])) rfl
  constructor
  ·rintro-w8 D8;rintro _ rfl;exact ai (aQ cU rfl) rfl
  constructor
  ·rintro-w9 D9;exact ai (aq (v:=.slice _ _ _) rfl) rfl
  constructor
  ·rintro-w10 D10;rintro _ rfl;exact ai (aQ cU rfl) rfl
  constructor
  ·rintro-w11 D11;rintro _ rfl _ rfl;exact ai (aG rfl rfl (by omega)) rfl
  constructor
  ·rintro-w12 D12;exact ai (aq (v:=.slice _ _ _) rfl) rfl
  constructor
  ·rintro-w13 D13;exact ai (aq (v:=.int _ _) rfl) rfl
  constructor
  ·rintro-w14 D14;rintro _ rfl _ rfl;exact ai (bm (l:=(i+4)) (h:=n) cq rfl (.inr ⟨_,_,_,rfl,rfl,rfl⟩) (.inl ⟨rfl,rfl⟩) (by omega) (by omega)) rfl
  constructor
  ·rintro-w15 D15;rintro _ rfl;exact ai (aQ cU rfl) rfl
  constructor
  ·rintro-w16 D16;rintro _ rfl _ rfl;exact ai (aG rfl rfl (by omega)) rfl
  constructor
  ·rintro-w17 D17;rintro _ rfl;exact ai (bY (v:=.int _ _) rfl) rfl
  exact trivial
 case hend=>
  intro w18 D18;rintro _ rfl _ rfl _ rfl _ rfl _ rfl _ rfl _ rfl _ rfl _ rfl _ rfl _ rfl _ rfl _ rfl;show St ..;replace hbz:=aN hbz (aj.grown D18 _);replace hbk:=hbk.from_ D18;replace hvr:=du D18 hvr;refine ah (ab (af (af (aa (mvi rfl (mvs rfl (ae (qX cU rfl) (ae (dS (cL rfl rfl) (decide_eq_false (by omega))) (ah (ab (de rfl (av (ab (af (aa (mvs rfl ?_))))))))))))))));refine mvi rfl (ae (eR (v':=.slice (some ⟨g,0,none⟩) (i+1+(n-(i+4))) c) (bm (l:=0) (h:=(i+1+(n-(i+4)))) cq rfl (.inl ⟨rfl,rfl⟩) (.inr ⟨_,_,_,rfl,rfl,rfl⟩) (by omega) (by omega)) (by rw [di,Nat.sub_zero,Nat.sub_zero])) ?_);refine ass rfl (ah (ab (af (af (aa (mvi rfl (mvs rfl (ae (aQ cU rfl) (ae (aG rfl rfl (by omega)) (mvi rfl (ae (jE (qU rfl rfl) (decide_eq_true (by omega))) (ah (ab ?_)))))))))))));refine cW rfl (af (aa (mvs rfl (mvi rfl (ae (bm (l:=i) (h:=(i+1+(n-(i+4)))) cq rfl (.inr ⟨_,_,_,rfl,rfl,rfl⟩) (.inl ⟨rfl,rfl⟩) (by omega) (by omega)) (mvs rfl (gX (news:=vs) (g:=g) (o:=i*2) cq rfl rfl (by rw [hvl,show min 1 ((i+1+(n-(i+4)))-i)=1 by omega]) (fun h=>by rw [bT (by omega),Nat.zero_add]) (fun h=>⟨b,0,rfl,hvr⟩) hbk (by omega) h1v ?_)))))));intro w19 O97 P97;replace hbz:=aN hbz (cH.grown O97);refine ah (ab (af ?_));apply EB 10 9 [] [(98,eqp _),(99,eqp _),(100,eqp _),(101,eqp _),(102,eqp _),(103,eqp _),(104,eqp _),(105,eqp _),(106,eqp _),(107,fun _ w'=>Blk w' g 66 (dp (dp cur (i*2) vs) ((i+1)*2) (xs.drop ((i+4)*2))).toArray)] (fun w'=>aj w19 w') (fun w'=>World.grownBy w w' (some g)) (by repeat first | exact cy | refine cm ?_ | refine bO ?_) (by kernel_rfl) (by kernel_rfl) (by kernel_rfl) ⟨ag _,ag _,ag _,ag _,ag _,ag _,ag _,ag _,ag _,(fun _ _ _ hF h=>h.from_ hF),trivial⟩ (aj.rfl_.d1) (aN hbz ((aj.rfl_.d1 (a:=w19)).grown _)) (fun _ _ hF h=>h.next hF) (fun _ _ hF h=>aN h (hF.grown _))
  case hop=>
   constructor
   ·rintro-w21 hZ21;exact ai (aq (v:=.slice _ _ _) rfl) rfl
   constructor
   ·rintro-w22 hZ22;exact ai (aq (v:=.int _ _) rfl) rfl
   constructor
   ·rintro-w23 hZ23;exact ai (aq (v:=.slice _ _ _) rfl) rfl
   constructor
   ·rintro-w24 hZ24;rintro _ rfl;exact ai (aQ cU rfl) rfl
   constructor
   ·rintro-w25 hZ25;rintro _ rfl _ rfl;exact ai (aG rfl rfl (by omega)) rfl
   constructor
   ·rintro-w26 hZ26;rintro _ rfl _ rfl;exact ai (bm (l:=(i+1)) (h:=(i+1+(n-(i+4)))) cq rfl (.inr ⟨_,_,_,rfl,rfl,rfl⟩) (.inl ⟨rfl,rfl⟩) (by omega) (by omega)) rfl
   constructor
   ·rintro-w27 hZ27;exact ai (aq (v:=.slice _ _ _) rfl) rfl
   constructor
   ·rintro-w28 hZ28;exact ai (aq (v:=.int _ _) rfl) rfl
   constructor
   ·rintro-w29 hZ29;rintro _ rfl _ rfl;exact ai (bm (l:=(i+4)) (h:=n) cq rfl (.inr ⟨_,_,_,rfl,rfl,rfl⟩) (.inl ⟨rfl,rfl⟩) (by omega) (by omega)) rfl
   constructor
   ·intro h;cases h
   exact trivial
  case hmu=>
   rintro w31 D31;rintro _ rfl _ rfl;show mM ..;refine Gp (news:=xs.drop ((i+4)*2)) (g:=g) (o:=(i+1)*2) cq rfl rfl (by rw [hdl,show min (n-(i+4)) ((i+1+(n-(i+4)))-(i+1))=n-(i+4) by omega]) (fun h=>by rw [bT (by omega),Nat.zero_add]) (fun h=>⟨g,(i+4)*2,by rw [bT (by omega),Nat.zero_add],(A0 (o:=i*2) (vs:=vs) (by omega) (by omega):(dp xs (i*2) vs).drop ((i+4)*2)=_) ▸ jD (P97.from_ D31) (FR hct hcl hnc hi hvl)⟩) (P97.from_ D31) (by rw [hdl,br _ _ _ (by omega),hcl];omega) (fun v hv=>h1 v (List.mem_of_mem_drop hv)) ?_;intro w3 O3 P3;exact ⟨aN (aN hbz (D31.grown _)) O3.grown,P3,fun t u ht h=>iT (by repeat first | exact trivial | refine ⟨.inl rfl,?_⟩ | refine ⟨.inr (fun _ h=>h),?_⟩) t u ht h⟩
  case hend=>
   rintro w32 hZ32;rintro _ rfl _ rfl _ rfl _ rfl _ rfl _ rfl _ rfl _ rfl _ rfl v107 P107;show St ..;replace hbz:=hZ32;refine ah (ab (af (aa (mvs rfl (mvi rfl (ae (bm (l:=(i+1+(n-(i+4)))) (h:=n) cq rfl (.inr ⟨_,_,_,rfl,rfl,rfl⟩) (.inl ⟨rfl,rfl⟩) (by omega) (by omega)) ?_))))));refine jx (g:=g) (o:=(i+1+(n-(i+4)))*2) eX rfl rfl (fun h=>by rw [bT (by omega),Nat.zero_add]) P107 (by rw [br _ _ _ (by rw [hdl,br _ _ _ (by omega),hcl];omega),br _ _ _ (by omega),hcl];omega) (by decide) ?_;intro w33 zs O19 hzl P19;refine ah (ab (af (aa (mvs rfl (ass rfl (ah (ab (ay (aD (bE (v:=.slice _ _ _) rfl rfl ?_))))))))));have e3:n-3=(i+1+(n-(i+4))):=by omega
   rw [e3];exact ⟨⟨_,_,rfl,gv hg P19 (by omega) hcm (by rw [br _ _ _ (by rw [hzl,br _ _ _ (by rw [hdl,br _ _ _ (by omega),hcl];omega),br _ _ _ (by omega),hcl];omega),br _ _ _ (by rw [hdl,br _ _ _ (by omega),hcl];omega),br _ _ _ (by omega),hcl]) (FT hct hcl hnc hi hvl),fun q hq=>hq⟩,aN hbz O19.grown⟩
end Go.Proofs.YtcbakncjacnnjaaGreat
