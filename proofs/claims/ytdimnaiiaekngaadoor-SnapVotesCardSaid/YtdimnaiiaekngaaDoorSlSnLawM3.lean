/- texts that the claim stands on. -/
import Derived.Test.YtdimnaiiaekngaaDoorSlSnLawM2
import Derived.Laws.BitsAllLaws
set_option maxRecDepth 100000
set_option maxHeartbeats 4000000
namespace Go.Proofs.YtdimnaiiaekngaaDoor
open Go.Proofs.Tryd (prog)
open Go.RowKit
open Go.ChangeShapes Go.WideShapes Go.ChangeAt
theorem gJ:fj prog 79=some true:=by kernel_rfl
theorem gI:cr prog 79=some 2:=by kernel_rfl
theorem kF:∀ (a0:ByteArray) (a1:Option Addr) (a2 a3:Nat) (a4:Option Addr) (a5 a6:Nat),prog.built 81 [(0,.string a0),(1,.agg #[.slice a1 a2 a3,.slice a4 a5 a6])]=some #[.string a0,.slice a1 a2 a3,.slice a4 a5 a6]:=by intros;kernel_rfl
theorem k8:aI prog 34=true:=by kernel_rfl
def dN (D:List Fe) (fu:Nat) (off:Bool) (a b:ByteArray):Int:=opE D (okN a&&okN b) fu off a
def dQ (D:List Fe) (fu:Nat) (off:Bool) (a b:ByteArray):List Fe:=if dN D fu off a b=0 then (if a=b then D else eX (eY (eY D a) b) (b,dI D a,nC D a)) else D
theorem rH {w:World} {g i:Nat} {f:Fl} (h:w.rangeAt g (0+i*3) (flV f)):w.rangeAt g (i*3+1) [.slice f.vA f.vs.length f.vc,.slice f.dA f.ds.length f.dc]:=fun j v hj=>by
 have:=h (j+1) v hj;rw [Nat.zero_add] at this;rw [show i*3+1+j=i*3+(j+1) by omega];exact this
theorem jE {P:Program} {ρ:Operand→Value} {w:World} {t:TypeId} {x:Operand} {e by_:Nat} {z v z0 z1 z2 u0 u1 u2:Value} (hq:dO P t=some (e,3,by_,z)) (hz:z.cells=#[z0,z1,z2]) (hx:ρ x=v) (hv:v.cells=#[u0,u1,u2]):RO P ρ (.buildSlice t 1 #[(0,x)]) w (.slice (some ⟨w.heap.size,0,none⟩) 1 1) (w.alloc (.cells #[u0,u1,u2] e)):=by
 refine nn (l:=[(0,x)]) (cells:=#[u0,u1,u2]) hq rfl rfl ?_
 have e1:(Array.range (1*3)).map (z.cells[·%z.cells.size]!)=#[z0,z1,z2]:=by
  rw [hz,show Array.range (1*3)=#[0,1,2] from rfl];simp
 rw [e1];simp [Instr.fill,hx,hv]
section
variable {w w':World} {d:Nat} {fs:List Fl} {Ap Ap':Option Addr} {cp cp':Nat} {ca:Int} {fu:Nat} {off:Bool}
theorem DkH.ins (h:DkH w d fs Ap cp ca fu off) {i:Nat} {f':Fl} (c:Chg (fun k=>k=d∨Ap.map (·.block)=some k) w w') (hb:Blk w' d 72 #[.slice Ap' (fs.length+1) cp',.int .i64 ca,.int .i64 (fu:Nat),.bool off]) (hi:i≤fs.length)
 (hr:w'.ownsRow 0 81 3 (.slice Ap' (fs.length+1) cp') (fs.length+1) ((fs.take i++f'::fs.drop i).flatMap flV)) (hf:ew w' f') (hs:∀ g∈fs,Sep g f'):DkH w' d (fs.take i++f'::fs.drop i) Ap' cp' ca fu off:=by
 refine ⟨by rw [rF hi];exact hb,by rw [rF hi];exact hr,fun g hg=>?_,?_⟩
 ·rcases List.mem_append.1 hg with hg | hg
  ·have hm:=List.mem_of_mem_take hg;exact (h.ok g hm).chg c fun k hk e=>e.elim (h.bd hm hk) (h.bp hm hk)
  ·rcases List.mem_cons.1 hg with rfl | hg
   ·exact hf
   ·have hm:=List.mem_of_mem_drop hg;exact (h.ok g hm).chg c fun k hk e=>e.elim (h.bd hm hk) (h.bp hm hk)
 ·have h0:(fs.take i++fs.drop i).Pairwise Sep:=by rw [List.take_append_drop];exact h.ap
  rw [List.pairwise_append] at h0 ⊢;refine ⟨h0.1,List.pairwise_cons.2 ⟨fun g hg=>(hs g (List.mem_of_mem_drop hg)).symm,h0.2.1⟩,fun a ha b hb=>?_⟩;rcases List.mem_cons.1 hb with rfl | hb
  ·exact hs a (List.mem_of_mem_take ha)
  ·exact h0.2.2 a ha b hb
theorem DOk.ren {D:List Fe} (h:DOk D) {a b:ByteArray} (hh:eR D a=true) (_:a≠b):DOk (eX (eY (eY D a) b) (b,dI D a,nC D a)):=by
 obtain ⟨e0,he0,hk0⟩:=fx.1 hh;have hlt:(eY D a).length<D.length:=List.length_filter_lt_length_iff_exists.2 ⟨e0,he0,by simpa using hk0⟩;have hl2:(eY (eY D a) b).length≤(eY D a).length:=List.length_filter_le _ _;obtain ⟨i,hi,hx⟩:=List.getElem_of_mem he0;have hgv:=gE h.1 hi (hx ▸ hk0);have hgs:=oo h.1 hi (hx ▸ hk0);have hz:=h.2.2 _ (List.getElem_mem hi);refine ⟨((h.1.del a).del b).ins (fun e he=>(ir.1 he).2) _ _,by rw [mz];have:=h.2.1;omega,fun e he=>?_⟩;rcases my.1 he with rfl | he
 ·rw [hgv,hgs];exact hz
 ·exact h.2.2 e (ir.1 (ir.1 he).1).1
end
theorem oQ (U:Nat→Prop) (d:Nat) (D:List Fe) (fu:Nat) (off:Bool) (w:World) (hd:cR w U d D fu off) (nm:ByteArray) (hn:nm.size≤140737488351232) (n2:ByteArray) (hn2:n2.size≤140737488351232) :
 Rt prog 53 [.pointer (some ⟨d,0,none⟩),.string nm,.string n2] w (fun v w'=>v=.int .i64 (dN D fu off nm n2)∧cR w' (Nx U w w') d (dQ D fu off nm n2) (fuB (okN nm&&okN n2) fu) (gV (okN nm&&okN n2) fu off)∧Chg U w w'):=by
 have hd0:=hd;obtain ⟨fs,Ap,cp,ca,h,hD,hok,hfu0,hU⟩:=hd;subst hD;obtain ⟨hs,hl,hz⟩:=hok;rw [aK] at hl;refine enter (n:=57) Tryd.func53 rfl rfl rfl (ag (ab (asi rfl (ah (ae (ag (ab (mvp rfl (mvg rfl (mvg rfl (qT [.tmp 14,.tmp 15] [.string _,.string _] cB rfl rfl rfl rfl (by simp [Value.cells]) ?_)))))))))));intro b16 w1 E16 hb16 hk16;have hF11:ai w _:=(ai.rfl_.next E16);have hbd:b16≠d:=by have:=h.blk.lt;omega
 refine av kp (p2 (h.from_ (ai.rfl_.next E16)) hs hl hfu0 hn hn2 hk16 hbd) ?_;rintro v17 w2 ⟨hop,⟨ca2,h2⟩,hC11⟩;have hT:=(hF11.toChg (U:=U)).next (hC11.wide fun k hk=>.inl (by rw [hk];exact hU d (.inl rfl)));rcases hop with ⟨hz0,rfl⟩ | ⟨hz0,i,fd,hf,⟨hfd,rfl⟩ | ⟨hfd,g,rfl,rfl⟩⟩
 ·refine mvt rfl (aa (ax rfl rfl) (aa (ax rfl rfl) (asp rfl (asi rfl (ah (ae (ag (ag (ab (mvi rfl (aa (cc rfl rfl) (mvb rfl ?_))))))))))));refine sK (t:=22) rfl (fun Q3=>?_) (fun Q3=>?_);rotate_left
  ·exfalso;omega
  refine aq rfl rfl (aq rfl rfl (aq rfl rfl (aa (aG (v:=.bool _) rfl rfl) (ah (ae (bR rfl (ag (ab (mvi rfl (asi rfl ?_))))))))));refine ah (ae (aw (aD (bb (v:=.int _ _) rfl rfl ?_))))
  first
   |(have e1:dN (aN fs) fu off nm n2=bE (okN nm&&okN n2) fu off:=by unfold dN opE;rw [if_pos hz0]
     rw [e1];refine ⟨rfl,?_,hT.next (ai.rfl_).toChg⟩;rw [show dQ (aN fs) fu off nm n2=aN fs by unfold dQ;rw [e1,if_neg hz0]];exact cW hU (h2.from_ ai.rfl_) ⟨hs,by rw [aK];exact hl,hz⟩ (cA hfu0 _) fun k hk=>.inl hk)
   |(have e1:dN (aN fs) fu off nm n2=3:=by unfold dN opE;rw [if_neg (by omega),hf.has hs,hfd];rfl
     rw [e1];refine ⟨rfl,?_,hT.next (ai.rfl_).toChg⟩;rw [show dQ (aN fs) fu off nm n2=aN fs by unfold dQ;rw [e1,if_neg (by decide)]];exact cW hU (h2.from_ ai.rfl_) ⟨hs,by rw [aK];exact hl,hz⟩ (cA hfu0 _) fun k hk=>.inl hk)
   |(have e1:dN (aN fs) fu off nm n2=0:=by unfold dN opE;rw [if_neg (by omega),hf.has hs,hfd];rfl
     have e2:nm=n2:=by first | assumption | (apply eB;assumption) | (apply eB;simp_all)
     rw [e1];refine ⟨rfl,?_,hT.next (ai.rfl_).toChg⟩;rw [show dQ (aN fs) fu off nm n2=aN fs by unfold dQ;rw [e1,if_pos rfl,if_pos e2]];exact cW hU (h2.from_ ai.rfl_) ⟨hs,by rw [aK];exact hl,hz⟩ (cA hfu0 _) fun k hk=>.inl hk)
 ·refine mvt rfl (aa (ax rfl rfl) (aa (ax rfl rfl) (asp rfl (asi rfl (ah (ae (ag (ag (ab (mvi rfl (aa (cc rfl rfl) (mvb rfl ?_))))))))))));refine sK (t:=22) rfl (fun Q23=>?_) (fun Q23=>?_);rotate_left
  ·exfalso;omega
  refine aq rfl rfl (aq rfl rfl (aq rfl rfl (aa (aG (v:=.bool _) rfl rfl) (ah (ae (bR rfl (ag (ab (mvi rfl (asi rfl ?_))))))))));refine ah (ae (aw (aD (bb (v:=.int _ _) rfl rfl ?_))))
  first
   |(have e1:dN (aN fs) fu off nm n2=bE (okN nm&&okN n2) fu off:=by unfold dN opE;rw [if_pos hz0]
     rw [e1];refine ⟨rfl,?_,hT.next (ai.rfl_).toChg⟩;rw [show dQ (aN fs) fu off nm n2=aN fs by unfold dQ;rw [e1,if_neg hz0]];exact cW hU (h2.from_ ai.rfl_) ⟨hs,by rw [aK];exact hl,hz⟩ (cA hfu0 _) fun k hk=>.inl hk)
   |(have e1:dN (aN fs) fu off nm n2=3:=by unfold dN opE;rw [if_neg (by omega),hf.has hs,hfd];rfl
     rw [e1];refine ⟨rfl,?_,hT.next (ai.rfl_).toChg⟩;rw [show dQ (aN fs) fu off nm n2=aN fs by unfold dQ;rw [e1,if_neg (by decide)]];exact cW hU (h2.from_ ai.rfl_) ⟨hs,by rw [aK];exact hl,hz⟩ (cA hfu0 _) fun k hk=>.inl hk)
   |(have e1:dN (aN fs) fu off nm n2=0:=by unfold dN opE;rw [if_neg (by omega),hf.has hs,hfd];rfl
     have e2:nm=n2:=by first | assumption | (apply eB;assumption) | (apply eB;simp_all)
     rw [e1];refine ⟨rfl,?_,hT.next (ai.rfl_).toChg⟩;rw [show dQ (aN fs) fu off nm n2=aN fs by unfold dQ;rw [e1,if_pos rfl,if_pos e2]];exact cW hU (h2.from_ ai.rfl_) ⟨hs,by rw [aK];exact hl,hz⟩ (cA hfu0 _) fun k hk=>.inl hk)
 obtain ⟨hi,hi2⟩:=hf.2.1 hfd;have hia:i<(aN fs).length:=by rw [aK];exact hi
 have hk1:(aN fs)[i].1=nm:=by rw [a_];exact hi2
 have hzi:=hz _ (List.getElem_mem hia);rw [a_] at hzi;have hz1:fs[i].vs.length≤1048576:=hzi.1;have hz2:fs[i].ds.length≤1048576:=hzi.2;have hgv:dI (aN fs) nm=fs[i].vs:=by rw [gE hs hia hk1,a_];rfl
 obtain ⟨bp,op,e9,hcd⟩:=(iX h2.row).2 (by omega);cases e9;have hce:=hcd i hi;have hfi:=h2.ok _ (List.getElem_mem hi);have hgs:nC (aN fs) nm=fs[i].ds:=by rw [oo hs hia hk1,a_];rfl
 refine mvt rfl (aa (ax rfl rfl) (aa (ax rfl rfl) (asp rfl (asi rfl (ah (ae (ag (ag (ab (mvi rfl (aa (cc rfl rfl) (mvb rfl ?_))))))))))));refine sK (t:=22) rfl (fun Q43=>?_) (fun Q43=>?_)
 ·exfalso;omega
 refine ak rfl (mvg rfl (ak rfl (mvg rfl (ak rfl (aa (gD rfl rfl) (aa (aF (v:=.bool _) rfl rfl) (ah (ae (tb rfl (fun Q44=>?_) (fun Q44=>?_))))))))))
 ·refine ag (ab (mvi rfl (asi rfl (ah (ae (aw (aD (bb (v:=.int _ _) rfl rfl ?_))))))))
  first
   |(have e1:dN (aN fs) fu off nm n2=bE (okN nm&&okN n2) fu off:=by unfold dN opE;rw [if_pos hz0]
     rw [e1];refine ⟨rfl,?_,hT.next (ai.rfl_).toChg⟩;rw [show dQ (aN fs) fu off nm n2=aN fs by unfold dQ;rw [e1,if_neg hz0]];exact cW hU (h2.from_ ai.rfl_) ⟨hs,by rw [aK];exact hl,hz⟩ (cA hfu0 _) fun k hk=>.inl hk)
   |(have e1:dN (aN fs) fu off nm n2=3:=by unfold dN opE;rw [if_neg (by omega),hf.has hs,hfd];rfl
     rw [e1];refine ⟨rfl,?_,hT.next (ai.rfl_).toChg⟩;rw [show dQ (aN fs) fu off nm n2=aN fs by unfold dQ;rw [e1,if_neg (by decide)]];exact cW hU (h2.from_ ai.rfl_) ⟨hs,by rw [aK];exact hl,hz⟩ (cA hfu0 _) fun k hk=>.inl hk)
   |(have e1:dN (aN fs) fu off nm n2=0:=by unfold dN opE;rw [if_neg (by omega),hf.has hs,hfd];rfl
     have e2:nm=n2:=by first | assumption | (apply eB;assumption) | (apply eB;simp_all)
     rw [e1];refine ⟨rfl,?_,hT.next (ai.rfl_).toChg⟩;rw [show dQ (aN fs) fu off nm n2=aN fs by unfold dQ;rw [e1,if_pos rfl,if_pos e2]];exact cW hU (h2.from_ ai.rfl_) ⟨hs,by rw [aK];exact hl,hz⟩ (cA hfu0 _) fun k hk=>.inl hk)
 have hne:nm≠n2:=by first | assumption | (intro h9;subst h9;simp_all)
 refine aC (ae (ag (ab (mvg rfl (mvp rfl (aa (az rfl) (aa (af bS rfl) (aa (aQ (cs:=[_,_]) gJ gI rfl (by exact ep ai.rfl_ (rH hce))) ?_))))))));refine aa (bW (l:=[(0,.tmp 28),(1,.tmp 32)]) (kF _ _ _ _ _ _ _)) (cM g_ ?_);intro b9 w45 E9 hb9 hk9;have hz9:=((ai.rfl_ (a:=w2))).size;refine bh (vs:=[_,_,_]) dD rfl rfl (by simp [Value.oneCell']) (hk9) rfl ?_;intro w46 O4 P4;refine ah (ae (ag (ab (mvp rfl (mvg rfl ?_)))));have hF36:ai _ w46:=(((ai.rfl_ (a:=w2)).next E9).only O4 ((by rw [hb9];exact Nat.le_refl _)));have h36:=h2.from_ hF36;refine av k8 (bZ d fs _ cp ca2 _ _ _ h36 hs hl (cA hfu0 _) nm) ?_;rintro v36 w47 ⟨rfl,fs2,Ap2,cp2,h3,hab2,hC36,hsub2,hA2⟩;have hT2:=(hT.next hF36.toChg).next (hC36.wide fun k hk=>.inl (hU k (hk.elim .inl fun e=>.inr (.inl e))));have P5:=P4.chg hC36 (fun hk=>hk.elim (fun e=>by have:=h2.blk.lt;omega) (fun e=>by have:=(er h2.row b9 e).2;omega));have hs2:KS (aN fs2):=by rw [hab2];exact hs.del nm
 have hl2:fs2.length≤16:=by rw [←aK,hab2];exact Nat.le_trans (List.length_filter_le _ _) (by rw [aK];exact hl)
 have hfi5:=(hfi.from_ hF36).chg hC36 (fun k hk e=>e.elim (h2.bd (List.getElem_mem hi) hk) (h2.bp (List.getElem_mem hi) hk));refine ah (ae (ag (ab (mvp rfl (mvg rfl ?_)))));have hF39:ai _ w47:=ai.rfl_;have h39:=h3.from_ hF39;refine av k8 (bZ d fs2 Ap2 cp2 ca2 _ _ _ h39 hs2 hl2 (cA hfu0 _) n2) ?_;rintro v39 w48 ⟨rfl,fs4,Ap4,cp4,h4,hab4,hC39,hsub4,hA4⟩;have hT3:=(hT2.next hF39.toChg).next (hC39.wide fun k hk=>.inl (hU k (hk.elim .inl fun e=>.inr (.inl (hA2 k e)))));have P6:=(P5.from_ hF39).chg hC39 (fun hk=>hk.elim (fun e=>by have:=h2.blk.lt;omega) (fun e=>by have:=(er h2.row b9 (hA2 _ e)).2;omega));have hs4:KS (aN fs4):=by rw [hab4];exact hs2.del n2
 have hl4:fs4.length≤16:=by rw [←aK,hab4];exact Nat.le_trans (List.length_filter_le _ _) (by rw [aK];exact hl2)
 have hfi6:=(hfi5.from_ hF39).chg hC39 (fun k hk e=>e.elim (h2.bd (List.getElem_mem hi) hk) (fun e=>h2.bp (List.getElem_mem hi) hk (hA2 k e)));refine ah (ae (ag (ab (mvp rfl (mvg rfl (av eV (il d fs4 Ap4 cp4 ca2 _ _ _ (h4.from_ ai.rfl_) hs4 hl4 (cA hfu0 _) n2) ?_))))));rintro v43 w49 ⟨⟨i4,fd4,rfl,hf4⟩,E43⟩;have h8:=h4.from_ (ai.rfl_.next E43);have hP8:=P6.from_ (ai.rfl_.next E43);have hB8:=h8.blk;have hR8:=h8.row;have hT8:=hT3.next ((ai.rfl_.next E43)).toChg;have hi4:i4≤fs4.length:=by have:=hf4.1.le;rwa [aK] at this
 obtain ⟨f2,hf2⟩:∃ f2:Fl,f2={ fs[i] with nm:=n2 }:=⟨_,rfl⟩;have hfi8:ew w49 f2:=by rw [hf2];exact ⟨(hfi6.from_ (ai.rfl_.next E43)).v,(hfi6.from_ (ai.rfl_.next E43)).d,(hfi6.from_ (ai.rfl_.next E43)).vt,(hfi6.from_ (ai.rfl_.next E43)).dt,(hfi6.from_ (ai.rfl_.next E43)).o,(hfi6.from_ (ai.rfl_.next E43)).n⟩
 have hbd8:∀ k,f2.B k→k≠d:=by rw [hf2];exact fun k hk=>h2.bd (List.getElem_mem hi) hk
 have hbp8:∀ k,f2.B k→Ap4.map (·.block)≠some k:=by rw [hf2];exact fun k hk e=>h2.bp (List.getElem_mem hi) hk (hA2 k (hA4 k e))
 have hsep8:∀ g∈fs4,Sep g f2:=fun g hg=>by
  have hm:=hsub2 g (hsub4 g hg)
  have hnm:g.nm≠nm:=fun e=>by
   have h9:g.abs∈eY (aN fs) nm:=by rw [←hab2];exact List.mem_map_of_mem (hsub4 g hg)
   exact (ir.1 h9).2 e
  obtain ⟨j,hj,rfl⟩:=List.getElem_of_mem hm;have hji:j≠i:=fun e=>by subst e;exact hnm hi2
  have hs9:Sep fs[j] fs[i]:=by
   rcases Nat.lt_or_gt_of_ne hji with e | e
   ·exact List.pairwise_iff_getElem.1 h2.ap j i hj hi e
   ·exact (List.pairwise_iff_getElem.1 h2.ap i j hi hj e).symm
  rw [hf2];exact ⟨hs9.1,hs9.2⟩
 refine mvt rfl (aa (ax rfl rfl) (aa (ax rfl rfl) (asi rfl (asb rfl (ah (ae (ag ?_)))))));apply nF 9 8 [53] [(46,eqp _),(47,eqp _),(48,eqp _),(49,eqp _),(50,eqp (.slice Ap4 fs4.length cp4)),(51,eqp _),(52,eqp (.agg (flV f2).toArray)),(53,fun v w'=>∃ q,v=.slice (some ⟨q,0,none⟩) 1 1∧Blk w' q 81 (flV f2).toArray∧(w49).heap.size≤q),(54,fun v w'=>∃ A5 c5,v=.slice A5 (fs4.length+1) c5∧w'.ownsRow 0 81 3 (.slice A5 (fs4.length+1) c5) (fs4.length+1) ((fs4.take i4++f2::fs4.drop i4).flatMap flV)∧∀ q,A5.map (·.block)=some q→Ap4.map (·.block)=some q∨(w49).heap.size≤q)] (fun w'=>ai w49 w') (fun w'=>Chg (fun k=>k=d∨Ap4.map (·.block)=some k) w49 w'∧Blk w' d 72 #[.slice Ap4 fs4.length cp4,.int .i64 ca2,.int .i64 (fuB (okN nm&&okN n2) fu:Nat),.bool (gV (okN nm&&okN n2) fu off)]) (by repeat first | exact cV | refine cU ?_ | refine cx ?_) (by kernel_rfl) (by kernel_rfl) (by kernel_rfl) ⟨aj _,aj _,aj _,aj _,aj _,aj _,aj _,(fun _ _ _ hF ⟨q,h1,h2,h3⟩=>⟨q,h1,h2.from_ hF,h3⟩),(fun _ _ _ hF ⟨A2,c2,h1,h2,h3⟩=>⟨A2,c2,h1,h2.kept_from hF,h3⟩),trivial⟩ (ai.rfl_.d1) (⟨ai.rfl_.d1.toChg,hB8.from_ ai.rfl_.d1⟩) (fun _ _ hF h=>h.next hF) (fun _ _ hF h=>⟨h.1.next hF.toChg,h.2.from_ hF⟩)
 case hop=>
  constructor
  ·rintro-w51 ⟨hC51,hb51⟩;exact an (aB (v:=.pointer _) rfl) rfl
  constructor
  ·rintro-w52 ⟨hC52,hb52⟩;exact an (aB (v:=.pointer _) rfl) rfl
  constructor
  ·rintro-w53 ⟨hC53,hb53⟩;rintro _ rfl;exact an (az rfl) rfl
  constructor
  ·rintro-w54 D54;rintro _ rfl;exact an (af bc rfl) rfl
  constructor
  ·rintro-w55 D55;rintro _ rfl;exact an (ao cj rfl ((hB8.from_ D55).rd 0 rfl)) rfl
  constructor
  ·rintro-w56 D56;exact an (aB (v:=.int _ _) rfl) rfl
  constructor
  ·rintro-w57 D57;exact an (aQ (cs:=flV f2) fC dD rfl (by rw [hf2];exact (hP8.from_ D57).whole)) rfl
  constructor
  ·rintro-w58 D58;rintro v58_52 rfl;exact fh (jE cY rfl rfl rfl) (ai.rfl_.new _) ⟨_,rfl,Blk.new _ _ _,D58.size⟩
  constructor
  ·intro h;cases h
  exact trivial
 case hmu=>
  rintro w60 D60;rintro v60_50 rfl _ rfl v60_53 ⟨q60,rfl,hq60,hqs60⟩;show lS ..;refine ru lj (jT 0 Ap4 cp4 fs4.length i4 1 q60 0 1 (fs4.flatMap flV) (flV f2) _ _ _ ((hR8.kept_from D60)) (Nat.zero_le _) hi4 (by decide) rfl hq60.whole hq60 (fun k hk e=>by have:=(er hR8 k hk).2;omega) (lJ _) (gb _) (by omega)) ?_;rintro v w3 ⟨⟨A2,c2,rfl,ho3,hA3⟩,hg3⟩;rw [r5] at ho3;have hs9:=D60.size;refine ⟨⟨D60.toChg.next (Chg.of_grown hg3 (fun k e=>.inr e)),(hB8.from_ D60).grown hg3 (cF (hR8.kept_from D60) (hB8.from_ D60) (by decide))⟩,⟨A2,c2,rfl,ho3,fun q hq=>(hA3 q hq).imp (fun e=>e) fun e=>Nat.le_trans hs9 e⟩,fun t u ht h=>ig (by repeat first | exact trivial | refine ⟨.inl rfl,?_⟩ | refine ⟨.inr (fun _ h=>h),?_⟩) t u ht h⟩
 case hend=>
  rintro w61 ⟨hC61,hb61⟩;rintro _ rfl _ rfl _ rfl _ rfl v50 rfl _ rfl v52 rfl v53 _ v54 ⟨A54,c54,rfl,ho54,hA54⟩;show St ..;have hC8:=hC61;have hbb:=hb61;refine aa (az rfl) (aa (af bc rfl) (fg (v:=.slice _ _ _) eU rfl rfl rfl (hbb) (by show 0<4;decide) ?_));intro w62 O8 P8;refine ah (ae (ag (ab (asi rfl (ah (ae (aw (bb (v:=.int _ _) rfl rfl ?_))))))));have e1:dN (aN fs) fu off nm n2=0:=by unfold dN opE;rw [if_neg (by omega),hf.has hs,hfd];rfl
  have hC9:Chg (fun k=>k=d∨Ap4.map (·.block)=some k) _ w62:=hC8.next (O8.toChg (.inl rfl));have hr:=fv ho54 O8 (cF ho54 hbb (by decide));have hfo:ew w62 f2:=hfi8.chg hC9 fun k hk e=>e.elim (fun e=>hbd8 k hk e) (fun e=>hbp8 k hk e)
  have hk:=h8.ins hC9 P8 hi4 hr hfo hsep8
  have hab:aN (fs4.take i4++f2::fs4.drop i4)=eX (eY (eY (aN fs) nm) n2) (n2,dI (aN fs) nm,nC (aN fs) nm):=by
   rw [mO,←hab2,←hab4,hgv,hgs,hf4.1.ins,hf2];rfl
  rw [e1];have hT9:=hT8.next (hC9.wide fun k hk=>.inl (hk.elim (fun e=>hU k (.inl e)) fun e=>hU k (.inr (.inl (hA2 k (hA4 k e))))));refine ⟨rfl,?_,hT9⟩;rw [show dQ (aN fs) fu off nm n2=aN (fs4.take i4++f2::fs4.drop i4) by unfold dQ;rw [e1,if_pos rfl,if_neg hne,hab]];refine cW hU hk (by rw [hab];exact DOk.ren ⟨hs,by rw [aK];exact hl,hz⟩ (by rw [hf.has hs,hfd]) hne) (cA hfu0 _) fun k hk=>?_
  rcases hk with e | e | ⟨f3,h3,e⟩
  ·exact .inl (.inl e)
  ·exact (hA54 k e).imp (fun e=>.inr (.inl (hA2 k (hA4 k e)))) fun e=>Nat.le_trans hT8.size e
  ·rcases List.mem_append.1 h3 with h9 | h9
   ·exact .inl (.inr (.inr ⟨f3,hsub2 _ (hsub4 _ (List.mem_of_mem_take h9)),e⟩))
   ·rcases List.mem_cons.1 h9 with rfl | h9
    ·rw [hf2] at e;exact .inl (.inr (.inr ⟨fs[i],List.getElem_mem hi,e⟩))
    ·exact .inl (.inr (.inr ⟨f3,hsub2 _ (hsub4 _ (List.mem_of_mem_drop h9)),e⟩))
end Go.Proofs.YtdimnaiiaekngaaDoor
namespace Go.Proofs.YtdimnaiiaekngaaDoor
open Go.Proofs.Tryd (prog)
open Go.RowKit
open Go.ChangeShapes Go.WideShapes Go.ChangeAt
theorem lf:(cH prog 66).isSome=true:=by kernel_rfl
theorem nS:prog.built 72 []=some #[.slice none 0 0,.int .i64 0,.int .i64 0,.bool false]:=by kernel_rfl
theorem iR:cH prog 66=some (75,2):=by kernel_rfl
theorem ph:fj prog 75=some true:=by kernel_rfl
theorem ld:cr prog 75=some 2:=by kernel_rfl
theorem pg:iT prog 75=some (.agg #[.string ⟨#[]⟩,.slice none 0 0]):=by kernel_rfl
theorem cf:bQ prog 75 0=some 0:=by kernel_rfl
theorem dF:bQ prog 75 1=some 1:=by kernel_rfl
theorem gR:∀ (a0:Option Addr) (a1 a2:Nat) (a3:Option Addr) (a4 a5:Nat),prog.built 79 [(0,.slice a0 a1 a2),(1,.slice a3 a4 a5)]=some #[.slice a0 a1 a2,.slice a3 a4 a5]:=by intros;kernel_rfl
section
variable {ops:Array Oper} {n:Fr} {L:List (Nat×Value)} {dst:Option Nat} {ty:TypeId} {pos:String} {after:Array Edge}
theorem og {P:Program} {s x:Operand} {t:TypeId} {w:World} {post:Value→World→Prop} {base:Nat} {A A2:Option Addr} {m j cap c2 e size by_:Nat} {z:Value} {xs news:List Value} (hq:dO P t=some (e,size,by_,z)) (hzs:z.cells.size=size) (hs0:0<size)
 (hs:ev n L s=.slice A m cap) (hown:w.ownsRow base e size (.slice A m cap) m xs) (hB:base≤w.heap.size)
 (hx:ev n L x=.slice A2 j c2) (hl:news.length=j*size) (hsrc:∃ b o,A2=some ⟨b,o,none⟩∧w.rangeAt b o news) (h1:∀ u∈news,u.oneCell'=true) (h63:m+j≤9223372036854775807) (hby:(m+j)*by_≤140737488355328)
 (k:∀ A' cap' w',w'.ownsRow base e size (.slice A' (m+j) cap') (m+j) (xs++news)→w.grownBy w' (A.map (·.block))→(A'.map (·.block)=A.map (·.block)∨A'.map (·.block)=some w.heap.size)→post (.slice A' (m+j) cap') w') :
 lS P ops n L ⟨dst,.call { callee:=.builtin .append,args:=#[s,x],argTypes:=#[t,t] },ty,pos,after,none⟩ w post:=by
 obtain ⟨A',cap',w',hr,ho,hg,hl⟩:=jI (P:=P) (ρ:=ev n L) hq hzs hs0 hs hown hB hx hl hsrc h1 h63 hby;exact sZ hr (k A' cap' w' ho hg hl)
end
structure Af where
 nm:ByteArray
 A:Option Addr
 c:Nat
 bs:List Nat
def afV (f:Af):List Value:=[.string f.nm,.slice f.A f.bs.length f.c]
theorem rR (f:Af):(afV f).length=2:=rfl
theorem j3 (f:Af):∀ u∈afV f,u.oneCell'=true:=by simp [afV,Value.oneCell']
def afE (f:Af):Fe:=(f.nm,f.bs,f.bs)
def tj (w:World) (f:Af):Prop:=RB w f.A f.c f.bs∧f.nm.size≤140737488351232∧f.bs.length≤140737488355328
def okJ (fs:List Af) (j:Nat):Prop:=∀ h:j<fs.length,okN fs[j].nm=true∧fs[j].bs.length≤1048576∧(0<j→sLt (fs[j-1]'(by omega)).nm fs[j].nm)
def sw (fs:List Af):Prop:=fs.length≤16∧∀ j,okJ fs j
theorem sx {fs:List Af} (h:∀ j,okJ fs j):KS (fs.map afE):=by
 unfold KS;rw [List.pairwise_map,List.pairwise_iff_getElem];intro i j hi hj hij
 induction j with
 |zero=>omega
 |succ j ih=>
  have h1:=(h (j+1) hj).2.2 (Nat.zero_lt_succ _);rcases Nat.eq_or_lt_of_le (Nat.le_of_lt_succ hij) with e | e
  ·subst e;exact h1
  ·exact gA (ih (by omega) e) h1
theorem sv {a b:ByteArray} (h:¬ sLt a b):(!(Op.bytesLess a.toList b.toList))=true:=by
 rcases hb:Op.bytesLess a.toList b.toList with _ | _
 ·rfl
 ·exact absurd ((nZ _ _).1 hb) h
theorem qJ {a b:ByteArray} (h:sLt a b):(!(Op.bytesLess a.toList b.toList))=false:=by rw [(nZ _ _).2 h];rfl
theorem p6 (A:Option Addr) (c n:Nat) (fs:List Af) (w:World) (hr:fU 2 afV w A fs) (hn:n=fs.length) (hall:∀ f∈fs,tj w f) :
 Rt prog 17 [.slice A n c] w (fun v w'=>((¬ sw fs∧v=.tuple #[.pointer none,.int .i64 1])∨(sw fs∧∃ d,v=.tuple #[.pointer (some ⟨d,0,none⟩),.int .i64 0]∧cR w' (fun k=>w.heap.size≤k) d (fs.map afE) 0 false))∧ai w w'):=by
 subst hn;refine enter (n:=66) Tryd.func17 rfl rfl rfl (ag (ab (asp rfl (asi rfl (ah (ae (ag (ag (ab (mvs rfl (aa (bC lf rfl) (aa (cm rfl rfl) (ah (ae ?_))))))))))))));refine tc rfl (fun Q1=>?_) (fun Q1=>?_)
 ·refine ag (ab (asp rfl (asi rfl (ah (ae (aw (aD (eW (v:=.pointer _) (v':=.int _ _) rfl rfl rfl ?_))))))));exact ⟨.inl ⟨fun h=>by have:=h.1;omega,rfl⟩,ai.rfl_⟩
 refine aC (ae (ag (ab (aa (bW (l:=[]) (nS)) (de (v:=.agg _) rfl ?_)))));intro b12 w2 E12 hb12 hk12;have hg12:w.heap.size≤b12:=by rw [hb12];exact (ai.rfl_).size
 refine asp rfl (ah (ae (ag (ag (ab (mvs rfl (aa (bC lf rfl) (mvi rfl (ah (ae (bu (dJ (G:=Nat×List Fl×Option Addr×Nat) [2,3,5,6,7,16,17,18,19,20,21,22,23,24,25,26,27,28,29,30,31,32,33,34,35,36,37,38,39,40,41,42,43,44,45,46,47,48,49,50,51,52,53,54,55,56,57,58,59,60,61,62,63,64] (fun (i,_)=>[(15,.int .i64 (i:Nat))]) (fun (i,gs,Ap,cp) w'=>i≤fs.length∧gs.length=i∧(∀ j,j<i→okJ fs j)∧aN gs=(fs.take i).map afE∧DkH w' b12 gs Ap cp 0 0 false∧(∀ k,iC b12 Ap gs k→w.heap.size≤k)∧ai w w') (fun (i,_)=>fs.length-i) ((0,[],none,0)) ⟨rfl,trivial⟩ ?_ ?_))))))))))))
 ·exact ⟨Nat.zero_le _,rfl,fun j h=>absurd h (Nat.not_lt_zero _),rfl,⟨hk12,World.ownsRow_nil _ _ _ _,fun f hf=>(by cases hf),List.Pairwise.nil⟩,fun k hk=>(by rcases hk with e | e | ⟨f,hf,_⟩;omega;cases e;cases hf),(ai.rfl_.next E12)⟩
 rintro ⟨i,gs,Ap,cp⟩ ρ3 w3 ⟨hi,hgl,hoj,hga,hD,hft,hB⟩;refine ag (ab (aa (cv rfl rfl) (ah (ae (ag (tc rfl (fun Q4=>?_) (fun Q4=>?_)))))))
 ·have hil:i<fs.length:=by omega
  obtain ⟨bd,od,rfl,hcd⟩:=hr (by omega);have hce:=hcd i hil;have hn16:fs.length≤16:=by omega
  refine aC (ae (ag (bu (ag (ab (mvi rfl (aa (aV iR rfl rfl (by omega)) (aa (aQ (cs:=[_,_]) ph ld rfl (by exact ep hB hce)) ?_))))))));refine cM pg ?_;intro b6 w5 E6 hb6 hk6;have hg6:w.heap.size≤b6:=by rw [hb6];exact (hB).size
  refine asi rfl (bh (vs:=[_,_]) ld rfl rfl (by simp [Value.oneCell']) (hk6) rfl ?_);intro w6 O6 P6;have F6:ai _ w6:=E6.only O6 (by rw [hb6];exact Nat.le_refl _);have h6:=hD.from_ F6;have hz6:=F6.size;obtain ⟨z6,hz6e⟩:∃ z6,z6=(w6).heap.size:=⟨_,rfl⟩;refine ah (ae (ag (ag ?_)))
  have hsp:okN fs[i].nm=false∨(okN fs[i].nm=true∧1048576<fs[i].bs.length)∨(okN fs[i].nm=true∧fs[i].bs.length≤1048576∧i=0)∨(okN fs[i].nm=true∧fs[i].bs.length≤1048576∧0<i∧¬ sLt fs[i-1].nm fs[i].nm)∨(okN fs[i].nm=true∧fs[i].bs.length≤1048576∧0<i∧sLt fs[i-1].nm fs[i].nm):=by
   rcases hb:okN fs[i].nm with _ | _
   ·exact .inl rfl
   ·by_cases h1:1048576<fs[i].bs.length
    ·exact .inr (.inl ⟨rfl,h1⟩)
    ·by_cases h2:i=0
     ·exact .inr (.inr (.inl ⟨rfl,by omega,h2⟩))
     ·by_cases h3:sLt fs[i-1].nm fs[i].nm
      ·exact .inr (.inr (.inr (.inr ⟨rfl,by omega,by omega,h3⟩)))
      ·exact .inr (.inr (.inr (.inl ⟨rfl,by omega,by omega,h3⟩)))
  rcases hsp with hokn | ⟨hokn,hlen⟩ | ⟨hokn,hlen,hi0⟩ | ⟨hokn,hlen,hi0,hns⟩ | ⟨hokn,hlen,hi0,hsl⟩
  ·have hbad:¬ okJ fs i:=fun h=>by have:=(h hil).1;rw [hokn] at this;cases this
   apply cE 26 [(20,eqp _),(21,eqp (.string fs[i].nm)),(22,fun v w'=>∃ q,v=.slice (some ⟨q,0,none⟩) 1 1∧Blk w' q 9 #[.string fs[i].nm]),(23,eqp _),(24,eqp _),(25,eqp _),(26,eqp _),(27,eqp _),(28,eqp _),(29,eqp _),(30,eqp _),(31,eqp _),(32,eqp _),(33,eqp _),(34,eqp _),(35,eqp _),(36,eqp _),(37,eqp _),(38,eqp _),(39,eqp _),(40,eqp _),(41,eqp _),(42,eqp _),(43,eqp _),(44,eqp _),(45,eqp _)] (by repeat first | exact cV | refine cU ?_ | refine cx ?_) (by kernel_rfl) (by kernel_rfl) ⟨aj _,aj _,(fun _ _ _ hF ⟨q,h1,h2⟩=>⟨q,h1,h2.from_ hF⟩),aj _,aj _,aj _,aj _,aj _,aj _,aj _,aj _,aj _,aj _,aj _,aj _,aj _,aj _,aj _,aj _,aj _,aj _,aj _,aj _,aj _,aj _,aj _,trivial⟩
   case hop=>
    constructor
    ·rintro-w8 D8;exact an (af cf rfl) rfl
    constructor
    ·rintro-w9 D9;rintro _ rfl;exact an (ao a7 rfl (by exact (P6.from_ (ai.rfl_.next D9)).rd 0 rfl)) rfl
    constructor
    ·rintro-w10 D10;rintro v10_21 rfl;exact fh (h_ (v:=.string fs[i].nm) cB rfl rfl rfl) (ai.rfl_.new _) ⟨_,rfl,Blk.new _ _ _⟩
    constructor
    ·rintro-w11 D11;rintro v11_22 ⟨q22,rfl,hq22⟩;refine dZ dW ((eK (some ⟨q22,0,none⟩) 1 1 [fs[i].nm] _ (iY hq22) rfl (by omega) (fun s hs=>by rw [List.mem_singleton.1 hs];exact (hall _ (List.getElem_mem hil)).2.1)).mono ?_);rintro v _ ⟨rfl,E11'⟩;exact ⟨E11',rfl⟩
    constructor
    ·rintro-w12 D12;rintro _ rfl;exact an (dB (bl rfl) (by simp [hokn])) rfl
    constructor
    ·rintro-w13 D13;rintro _ rfl;exact an (aB (v:=.bool _) rfl) rfl
    constructor
    ·rintro-w14 D14;rintro _ rfl;exact cI rfl rfl rfl
    constructor
    ·rintro-w15 D15;rintro _ rfl _ rfl;exact cI rfl rfl rfl
    constructor
    ·rintro-w16 D16;rintro _ rfl _ rfl;exact cI rfl rfl rfl
    constructor
    ·rintro-w17 D17;rintro _ rfl _ rfl;exact cI rfl rfl rfl
    constructor
    ·rintro-w18 D18;rintro _ rfl _ rfl;exact an (aG (v:=.bool _) rfl rfl) rfl
    constructor
    ·rintro-w19 D19;rintro _ rfl;exact an (aB (v:=.bool _) rfl) rfl
    constructor
    ·rintro-w20 D20;rintro _ rfl;exact cI rfl rfl rfl
    constructor
    ·rintro-w21 D21;rintro _ rfl _ rfl;exact cI rfl rfl rfl
    constructor
    ·rintro-w22 D22;rintro _ rfl _ rfl;exact cI rfl rfl rfl
    constructor
    ·rintro-w23 D23;rintro _ rfl;exact cC rfl rfl
    constructor
    ·rintro-w24 D24;rintro _ rfl;exact cC rfl rfl
    constructor
    ·rintro-w25 D25;rintro _ rfl _ rfl;exact cC rfl rfl
    constructor
    ·rintro-w26 D26;rintro _ rfl _ rfl _ rfl;exact cC rfl rfl
    constructor
    ·rintro-w27 D27;rintro _ rfl _ rfl;exact cC rfl rfl
    constructor
    ·rintro-w28 D28;rintro _ rfl _ rfl;exact cC rfl rfl
    constructor
    ·rintro-w29 D29;rintro _ rfl;exact cC rfl rfl
    constructor
    ·rintro-w30 D30;rintro _ rfl _ rfl;exact cC rfl rfl
    constructor
    ·rintro-w31 D31;rintro _ rfl _ rfl _ rfl;exact cC rfl rfl
    constructor
    ·rintro-w32 D32;rintro _ rfl _ rfl _ rfl;exact cI rfl rfl rfl
    constructor
    ·rintro-w33 D33;rintro _ rfl _ rfl;exact an (aG (v:=.bool _) rfl rfl) rfl
    exact trivial
   case hend=>
    intro w34 D34;rintro _ rfl v21 rfl v22 ⟨q22,rfl,hq22⟩ _ rfl _ rfl _ rfl _ rfl _ rfl _ rfl _ rfl _ rfl _ rfl _ rfl _ rfl _ rfl _ rfl _ rfl _ rfl _ rfl _ rfl _ rfl _ rfl _ rfl _ rfl _ rfl _ rfl;show St ..;refine ah (ae (bR rfl (ag (ab (asp rfl (asi rfl (ah (ae (aw (aD (aX (aD (aD (aX (aD (eW (v:=.pointer _) (v':=.int _ _) rfl rfl rfl (⟨.inl ⟨fun h=>hbad (h.2 i),rfl⟩,(((hB.next E6).only O6 (hg6)).next D34)⟩)))))))))))))))))
  ·have hbad:¬ okJ fs i:=fun h=>by have:=(h hil).2.1;omega
   apply cE 26 [(20,eqp _),(21,eqp (.string fs[i].nm)),(22,fun v w'=>∃ q,v=.slice (some ⟨q,0,none⟩) 1 1∧Blk w' q 9 #[.string fs[i].nm]),(23,eqp _),(24,eqp _),(25,eqp _),(26,eqp _),(27,eqp (.slice fs[i].A fs[i].bs.length fs[i].c)),(28,eqp _),(29,eqp _),(30,eqp _),(31,eqp _),(32,eqp _),(33,eqp _),(34,eqp _),(35,eqp _),(36,eqp _),(37,eqp _),(38,eqp _),(39,eqp _),(40,eqp _),(41,eqp _),(42,eqp _),(43,eqp _),(44,eqp _),(45,eqp _)] (by repeat first | exact cV | refine cU ?_ | refine cx ?_) (by kernel_rfl) (by kernel_rfl) ⟨aj _,aj _,(fun _ _ _ hF ⟨q,h1,h2⟩=>⟨q,h1,h2.from_ hF⟩),aj _,aj _,aj _,aj _,aj _,aj _,aj _,aj _,aj _,aj _,aj _,aj _,aj _,aj _,aj _,aj _,aj _,aj _,aj _,aj _,aj _,aj _,aj _,trivial⟩
   case hop=>
    constructor
    ·rintro-w36 D36;exact an (af cf rfl) rfl
    constructor
    ·rintro-w37 D37;rintro _ rfl;exact an (ao a7 rfl (by exact (P6.from_ (ai.rfl_.next D37)).rd 0 rfl)) rfl
    constructor
    ·rintro-w38 D38;rintro v38_21 rfl;exact fh (h_ (v:=.string fs[i].nm) cB rfl rfl rfl) (ai.rfl_.new _) ⟨_,rfl,Blk.new _ _ _⟩
    constructor
    ·rintro-w39 D39;rintro v39_22 ⟨q22,rfl,hq22⟩;refine dZ dW ((eK (some ⟨q22,0,none⟩) 1 1 [fs[i].nm] _ (iY hq22) rfl (by omega) (fun s hs=>by rw [List.mem_singleton.1 hs];exact (hall _ (List.getElem_mem hil)).2.1)).mono ?_);rintro v _ ⟨rfl,E39'⟩;exact ⟨E39',rfl⟩
    constructor
    ·rintro-w40 D40;rintro _ rfl;exact an (bx (bl rfl) (by simp [hokn])) rfl
    constructor
    ·rintro-w41 D41;rintro _ rfl;exact an (aB (v:=.bool _) rfl) rfl
    constructor
    ·rintro-w42 D42;rintro _ rfl;exact aP rfl (af dF rfl) rfl
    constructor
    ·rintro-w43 D43;rintro _ rfl _ rfl;exact aP rfl (ao (v:=.slice fs[i].A fs[i].bs.length fs[i].c) bg rfl ((P6.from_ (ai.rfl_.next D43)).rd 1 rfl)) rfl
    constructor
    ·rintro-w44 D44;rintro _ rfl v44_27 rfl;exact aP rfl (bC cq rfl) rfl
    constructor
    ·rintro-w45 D45;rintro _ rfl _ rfl;exact aP rfl (dB (cm rfl rfl) (decide_eq_true (by omega))) rfl
    constructor
    ·rintro-w46 D46;rintro _ rfl _ rfl;exact an (aF (v:=.bool _) rfl rfl) rfl
    constructor
    ·rintro-w47 D47;rintro _ rfl;exact an (aB (v:=.bool _) rfl) rfl
    constructor
    ·rintro-w48 D48;rintro _ rfl;exact cI rfl rfl rfl
    constructor
    ·rintro-w49 D49;rintro _ rfl _ rfl;exact cI rfl rfl rfl
    constructor
    ·rintro-w50 D50;rintro _ rfl _ rfl;exact cI rfl rfl rfl
    constructor
    ·rintro-w51 D51;rintro _ rfl;exact cC rfl rfl
    constructor
    ·rintro-w52 D52;rintro _ rfl;exact cC rfl rfl
    constructor
    ·rintro-w53 D53;rintro _ rfl _ rfl;exact cC rfl rfl
    constructor
    ·rintro-w54 D54;rintro _ rfl _ rfl _ rfl;exact cC rfl rfl
    constructor
    ·rintro-w55 D55;rintro _ rfl _ rfl;exact cC rfl rfl
    constructor
    ·rintro-w56 D56;rintro _ rfl _ rfl;exact cC rfl rfl
    constructor
    ·rintro-w57 D57;rintro _ rfl;exact cC rfl rfl
    constructor
    ·rintro-w58 D58;rintro _ rfl _ rfl;exact cC rfl rfl
    constructor
    ·rintro-w59 D59;rintro _ rfl _ rfl _ rfl;exact cC rfl rfl
    constructor
    ·rintro-w60 D60;rintro _ rfl _ rfl _ rfl;exact cI rfl rfl rfl
    constructor
    ·rintro-w61 D61;rintro _ rfl _ rfl;exact an (aG (v:=.bool _) rfl rfl) rfl
    exact trivial
   case hend=>
    intro w62 D62;rintro _ rfl v21 rfl v22 ⟨q22,rfl,hq22⟩ _ rfl _ rfl _ rfl _ rfl v27 rfl _ rfl _ rfl _ rfl _ rfl _ rfl _ rfl _ rfl _ rfl _ rfl _ rfl _ rfl _ rfl _ rfl _ rfl _ rfl _ rfl _ rfl _ rfl;show St ..;refine ah (ae (bR rfl (ag (ab (asp rfl (asi rfl (ah (ae (aw (aD (aX (aD (aD (aX (aD (eW (v:=.pointer _) (v':=.int _ _) rfl rfl rfl (⟨.inl ⟨fun h=>hbad (h.2 i),rfl⟩,(((hB.next E6).only O6 (hg6)).next D62)⟩)))))))))))))))))
  ·have hord:0<i→sLt (fs[i-1]'(by omega)).nm fs[i].nm:=fun h=>by omega
   apply cE 26 [(20,eqp _),(21,eqp (.string fs[i].nm)),(22,fun v w'=>∃ q,v=.slice (some ⟨q,0,none⟩) 1 1∧Blk w' q 9 #[.string fs[i].nm]),(23,eqp _),(24,eqp _),(25,eqp _),(26,eqp _),(27,eqp (.slice fs[i].A fs[i].bs.length fs[i].c)),(28,eqp _),(29,eqp _),(30,eqp _),(31,eqp _),(32,eqp _),(33,eqp _),(34,eqp _),(35,eqp _),(36,eqp _),(37,eqp _),(38,eqp _),(39,eqp _),(40,eqp _),(41,eqp _),(42,eqp _),(43,eqp _),(44,eqp _),(45,eqp _)] (by repeat first | exact cV | refine cU ?_ | refine cx ?_) (by kernel_rfl) (by kernel_rfl) ⟨aj _,aj _,(fun _ _ _ hF ⟨q,h1,h2⟩=>⟨q,h1,h2.from_ hF⟩),aj _,aj _,aj _,aj _,aj _,aj _,aj _,aj _,aj _,aj _,aj _,aj _,aj _,aj _,aj _,aj _,aj _,aj _,aj _,aj _,aj _,aj _,aj _,trivial⟩
   case hop=>
    constructor
    ·rintro-w64 D64;exact an (af cf rfl) rfl
    constructor
    ·rintro-w65 D65;rintro _ rfl;exact an (ao a7 rfl (by exact (P6.from_ (ai.rfl_.next D65)).rd 0 rfl)) rfl
    constructor
    ·rintro-w66 D66;rintro v66_21 rfl;exact fh (h_ (v:=.string fs[i].nm) cB rfl rfl rfl) (ai.rfl_.new _) ⟨_,rfl,Blk.new _ _ _⟩
    constructor
    ·rintro-w67 D67;rintro v67_22 ⟨q22,rfl,hq22⟩;refine dZ dW ((eK (some ⟨q22,0,none⟩) 1 1 [fs[i].nm] _ (iY hq22) rfl (by omega) (fun s hs=>by rw [List.mem_singleton.1 hs];exact (hall _ (List.getElem_mem hil)).2.1)).mono ?_);rintro v _ ⟨rfl,E67'⟩;exact ⟨E67',rfl⟩
    constructor
    ·rintro-w68 D68;rintro _ rfl;exact an (bx (bl rfl) (by simp [hokn])) rfl
    constructor
    ·rintro-w69 D69;rintro _ rfl;exact an (aB (v:=.bool _) rfl) rfl
    constructor
    ·rintro-w70 D70;rintro _ rfl;exact aP rfl (af dF rfl) rfl
    constructor
    ·rintro-w71 D71;rintro _ rfl _ rfl;exact aP rfl (ao (v:=.slice fs[i].A fs[i].bs.length fs[i].c) bg rfl ((P6.from_ (ai.rfl_.next D71)).rd 1 rfl)) rfl
    constructor
    ·rintro-w72 D72;rintro _ rfl v72_27 rfl;exact aP rfl (bC cq rfl) rfl
    constructor
    ·rintro-w73 D73;rintro _ rfl _ rfl;exact aP rfl (bx (cm rfl rfl) (decide_eq_false (by omega))) rfl
    constructor
    ·rintro-w74 D74;rintro _ rfl _ rfl;exact an (aF (v:=.bool _) rfl rfl) rfl
    constructor
    ·rintro-w75 D75;rintro _ rfl;exact an (aB (v:=.bool _) rfl) rfl
    constructor
    ·rintro-w76 D76;rintro _ rfl;exact aP rfl (aB (v:=.int _ _) rfl) rfl
    constructor
    ·rintro-w77 D77;rintro _ rfl _ rfl;exact aP rfl (bx (cm rfl rfl) (decide_eq_false (by omega))) rfl
    constructor
    ·rintro-w78 D78;rintro _ rfl _ rfl;exact aP rfl (aB (v:=.bool _) rfl) rfl
    constructor
    ·rintro-w79 D79;rintro _ rfl;exact cI rfl rfl rfl
    constructor
    ·rintro-w80 D80;rintro _ rfl;exact cI rfl rfl rfl
    constructor
    ·rintro-w81 D81;rintro _ rfl _ rfl;exact cI rfl rfl rfl
    constructor
    ·rintro-w82 D82;rintro _ rfl _ rfl _ rfl;exact cI rfl rfl rfl
    constructor
    ·rintro-w83 D83;rintro _ rfl _ rfl;exact cI rfl rfl rfl
    constructor
    ·rintro-w84 D84;rintro _ rfl _ rfl;exact cI rfl rfl rfl
    constructor
    ·rintro-w85 D85;rintro _ rfl;exact cI rfl rfl rfl
    constructor
    ·rintro-w86 D86;rintro _ rfl _ rfl;exact cI rfl rfl rfl
    constructor
    ·rintro-w87 D87;rintro _ rfl _ rfl _ rfl;exact cI rfl rfl rfl
    constructor
    ·rintro-w88 D88;rintro _ rfl _ rfl _ rfl;exact aP rfl (aF (v:=.bool _) rfl rfl) rfl
    constructor
    ·rintro-w89 D89;rintro _ rfl _ rfl;exact an (aF (v:=.bool _) rfl rfl) rfl
    exact trivial
   case hend=>
    intro w90 D90;rintro _ rfl v21 rfl v22 ⟨q22,rfl,hq22⟩ _ rfl _ rfl _ rfl _ rfl v27 rfl _ rfl _ rfl _ rfl _ rfl _ rfl _ rfl _ rfl _ rfl _ rfl _ rfl _ rfl _ rfl _ rfl _ rfl _ rfl _ rfl _ rfl _ rfl;show St ..;refine ah (ae (aY rfl (aC (ae (ag (ab (aa (af dF rfl) (aa (ao bg rfl (by exact (P6.from_ (ai.rfl_.next D90)).rd 1 rfl)) ?_))))))));have hM48:ai _ w90:=(ai.rfl_.next D90);refine av dX (bo fs[i].A fs[i].c fs[i].bs.length fs[i].bs _ ((hall _ (List.getElem_mem hil)).1.from_ (((hB.next E6).only O6 (hg6)).next D90)) rfl (by omega)) ?_;rintro v48 w91 ⟨⟨A48,c48,rfl,ho48⟩,E48⟩;have h10:=h6.from_ (((ai.rfl_.next D90).next E48));have hB10:ai w w91:=((((hB.next E6).only O6 (hg6)).next D90).next E48);have P10a:=P6.from_ (((ai.rfl_.next D90).next E48));obtain ⟨f2,hf2⟩:∃ f2:Fl,f2=⟨fs[i].nm,A48,c48,A48,c48,fs[i].bs,fs[i].bs,true⟩:=⟨_,rfl⟩;have hz10:=(((((hB.next E6).only O6 (hg6)).next D90).next E48)).size;have hB48:∀ k,f2.B k→z6≤k:=by rw [hf2,hz6e];exact fun k hk=>hk.elim (fun e=>Nat.le_trans hM48.size (er ho48 k e).1) fun e=>Nat.le_trans hM48.size (er ho48 k e).1
    have hf10:ew w91 f2:=by rw [hf2];exact ⟨(RB.own ho48 (hall _ (List.getElem_mem hil)).1.bt).2,(RB.own ho48 (hall _ (List.getElem_mem hil)).1.bt).2,TyB.own ho48,TyB.own ho48,fun _=>⟨fG ho48 (Nat.zero_le _),.inr ⟨rfl,[],(List.append_nil _).symm⟩⟩,fun h=>by cases h⟩
    refine ass rfl (ah (ae ?_));apply nF 13 12 [60] [(49,eqp _),(50,eqp _),(51,eqp _),(52,eqp _),(53,eqp (.slice Ap gs.length cp)),(54,eqp _),(55,eqp (.string fs[i].nm)),(56,eqp _),(57,eqp _),(58,eqp _),(59,eqp (.agg (flV f2).toArray)),(60,fun v w'=>∃ q,v=.slice (some ⟨q,0,none⟩) 1 1∧Blk w' q 81 (flV f2).toArray),(61,fun v w'=>∃ A5 c5,v=.slice A5 (gs.length+1) c5∧w'.ownsRow 0 81 3 (.slice A5 (gs.length+1) c5) (gs.length+1) ((gs++[f2]).flatMap flV)∧∀ q,A5.map (·.block)=some q→Ap.map (·.block)=some q∨(w91).heap.size≤q)] (fun w'=>ai w91 w') (fun w'=>Chg (fun k=>Ap.map (·.block)=some k) w91 w'∧Blk w' b12 72 #[.slice Ap gs.length cp,.int .i64 0,.int .i64 ((0:Nat):Int),.bool false]∧Blk w' b6 75 (afV fs[i]).toArray∧ai w w') (by repeat first | exact cV | refine cU ?_ | refine cx ?_) (by kernel_rfl) (by kernel_rfl) (by kernel_rfl) ⟨aj _,aj _,aj _,aj _,aj _,aj _,aj _,aj _,aj _,aj _,aj _,(fun _ _ _ hF ⟨q,h1,h2⟩=>⟨q,h1,h2.from_ hF⟩),(fun _ _ _ hF ⟨A2,c2,h1,h2,h3⟩=>⟨A2,c2,h1,h2.kept_from hF,h3⟩),trivial⟩ (ai.rfl_.d1) (⟨ai.rfl_.d1.toChg,h10.blk.from_ ai.rfl_.d1,P10a.from_ ai.rfl_.d1,(((((hB.next E6).only O6 (hg6)).next D90).next E48)).d1⟩) (fun _ _ hF h=>h.next hF) (fun _ _ hF h=>⟨h.1.next hF.toChg,h.2.1.from_ hF,h.2.2.1.from_ hF,h.2.2.2.next hF⟩)
    case hop=>
     constructor
     ·rintro-w93 ⟨hC93,hb93,hp93,hw93⟩;exact an (aB (v:=.pointer _) rfl) rfl
     constructor
     ·rintro-w94 ⟨hC94,hb94,hp94,hw94⟩;exact an (aB (v:=.pointer _) rfl) rfl
     constructor
     ·rintro-w95 ⟨hC95,hb95,hp95,hw95⟩;rintro _ rfl;exact an (az rfl) rfl
     constructor
     ·rintro-w96 D96;rintro _ rfl;exact an (af bc rfl) rfl
     constructor
     ·rintro-w97 D97;rintro _ rfl;exact an (ao cj rfl ((h10.blk.from_ D97).rd 0 rfl)) rfl
     constructor
     ·rintro-w98 ⟨hC98,hb98,hp98,hw98⟩;exact an (af cf rfl) rfl
     constructor
     ·rintro-w99 ⟨hC99,hb99,hp99,hw99⟩;rintro _ rfl;exact an (ao (v:=.string fs[i].nm) a7 rfl (hp99.rd 0 rfl)) rfl
     constructor
     ·rintro-w100 ⟨hC100,hb100,hp100,hw100⟩;exact an (aB (v:=.slice _ _ _) rfl) rfl
     constructor
     ·rintro-w101 ⟨hC101,hb101,hp101,hw101⟩;exact an (aB (v:=.slice _ _ _) rfl) rfl
     constructor
     ·rintro-w102 ⟨hC102,hb102,hp102,hw102⟩;rintro _ rfl _ rfl;exact an (bW (l:=[(0,.tmp 56),(1,.tmp 57)]) (gR _ _ _ _ _ _)) rfl
     constructor
     ·rintro-w103 D103;rintro v103_55 rfl _ rfl;exact an (cw (v':=.agg (flV f2).toArray) (bW (by kernel_rfl)) (by first | (rw [hf2];done) | (rw [hf2];rfl))) rfl
     constructor
     ·rintro-w104 D104;rintro v104_59 rfl;exact fh (jE cY rfl rfl rfl) (ai.rfl_.new _) ⟨_,rfl,Blk.new _ _ _⟩
     constructor
     ·intro h;cases h
     exact trivial
    case hmu=>
     rintro w106 D106;rintro v106_53 rfl v106_60 ⟨q106,rfl,hq106⟩;show lS ..;have hs9:=D106.size;refine og (base:=0) (news:=flV f2) cY rfl (by decide) rfl (h10.row.kept_from D106) (Nat.zero_le _) rfl rfl ⟨q106,0,rfl,hq106.whole⟩ (gb f2) (by omega) (by omega) ?_;intro A5 c5 w3 ho3 hg3 hL3;refine ⟨⟨D106.toChg.next (Chg.of_grown hg3 (fun k e=>e)),(h10.blk.from_ D106).grown hg3 (cF (h10.row.kept_from D106) (h10.blk.from_ D106) (by decide)),(P10a.from_ D106).grown hg3 (cF (h10.row.kept_from D106) (P10a.from_ D106) (by decide)),(hB10.next D106).grew hg3 (fun k hk=>hft k (.inr (.inl hk)))⟩,⟨A5,c5,rfl,by rw [List.flatMap_append];simpa using ho3,fun q hq=>hL3.elim (fun e=>.inl (e ▸ hq)) fun e=>.inr (by rw [e] at hq;cases hq;exact hs9)⟩,fun t u ht h=>ig (by repeat first | exact trivial | refine ⟨.inl rfl,?_⟩ | refine ⟨.inr (fun _ h=>h),?_⟩) t u ht h⟩
    case hend=>
     rintro w107 ⟨hC107,hb107,hp107,hw107⟩;rintro _ rfl _ rfl _ rfl _ rfl v53 rfl _ rfl v55 rfl _ rfl _ rfl _ rfl v59 rfl v60 _ v61 ⟨A61,c61,rfl,ho61,hA61⟩;show St ..;have hC10:=hC107;have hbb:=hb107;refine aa (az rfl) (aa (af bc rfl) (fg (v:=.slice _ _ _) eU rfl rfl rfl (hbb) (by show 0<4;decide) ?_));intro w108 O10 P10;refine ah (bA (ae (ab (aa (ib rfl rfl (by omega)) (mvi rfl (ah ?_))))));refine cd ((i+1,gs++[f2],A61,c61)) ⟨(by first | rfl | (refine bP ?_;omega)),trivial⟩ (by (iterate 108 refine bm rfl ?_);exact bO) ⟨?_,?_⟩
     ·have hr:=fv ho61 O10 (cF ho61 hbb (by decide));have hC9:Chg (fun k=>k=b12∨Ap.map (·.block)=some k) _ w108:=(hC10.wide fun k hk=>.inl (.inr hk)).next (O10.toChg (.inl rfl))
      have hfo:ew w108 f2:=(hf10.from_ ai.rfl_).chg hC9 fun k hk e=>by
       have h7:=hB48 k hk;rcases e with e | e
       ·have:=h10.blk.lt;have:=h6.blk.lt;omega
       ·have:=(er h6.row k e).2;omega
      have hk:=h10.ins (i:=gs.length) hC9 P10 (Nat.le_refl _) (by rw [List.take_length,List.drop_length];exact hr) hfo (fun g hg=>⟨fun ho k hk hb=>by have:=hB48 k hb;have:=(h6.ok g hg).lt (k:=k) (.inl hk);omega,fun ho k hk hb=>by have:=hB48 k (.inl hk);have:=(h6.ok g hg).lt hb;omega⟩);rw [List.take_length,List.drop_length] at hk
      exact ⟨by omega,by rw [List.length_append,hgl];rfl,fun j hj=>by
       rcases Nat.eq_or_lt_of_le (Nat.le_of_lt_succ hj) with e | e
       ·subst e;exact fun _=>⟨hokn,hlen,hord⟩
       ·exact hoj j e,by unfold aN at hga ⊢;rw [List.map_append,hga,List.take_succ_eq_append_getElem hil,List.map_append,hf2];rfl,hk,fun k hk=>by
       rcases hk with e | e | ⟨f3,h3,e⟩
       ·exact hft k (.inl e)
       ·rcases hA61 k e with e | e
        ·exact hft k (.inr (.inl e))
        ·exact Nat.le_trans hz10 e
       ·rcases List.mem_append.1 h3 with h3 | h3
        ·exact hft k (.inr (.inr ⟨f3,h3,e⟩))
        ·rw [List.mem_singleton.1 h3] at e;have:=hB48 k e;omega,(hw107.only O10 ((hft _ (.inl rfl))))⟩
     ·show fs.length-(i+1)<fs.length-i;omega
  ·have hbad:¬ okJ fs i:=fun h=>hns ((h hil).2.2 (by omega))
   apply cE 26 [(20,eqp _),(21,eqp (.string fs[i].nm)),(22,fun v w'=>∃ q,v=.slice (some ⟨q,0,none⟩) 1 1∧Blk w' q 9 #[.string fs[i].nm]),(23,eqp _),(24,eqp _),(25,eqp _),(26,eqp _),(27,eqp (.slice fs[i].A fs[i].bs.length fs[i].c)),(28,eqp _),(29,eqp _),(30,eqp _),(31,eqp _),(32,eqp _),(33,eqp _),(34,eqp _),(35,eqp _),(36,eqp _),(37,eqp _),(38,eqp _),(39,eqp _),(40,eqp (.string fs[i-1].nm)),(41,eqp _),(42,eqp (.string fs[i].nm)),(43,eqp _),(44,eqp _),(45,eqp _)] (by repeat first | exact cV | refine cU ?_ | refine cx ?_) (by kernel_rfl) (by kernel_rfl) ⟨aj _,aj _,(fun _ _ _ hF ⟨q,h1,h2⟩=>⟨q,h1,h2.from_ hF⟩),aj _,aj _,aj _,aj _,aj _,aj _,aj _,aj _,aj _,aj _,aj _,aj _,aj _,aj _,aj _,aj _,aj _,aj _,aj _,aj _,aj _,aj _,aj _,trivial⟩
   case hop=>
    constructor
    ·rintro-w110 D110;exact an (af cf rfl) rfl
    constructor
    ·rintro-w111 D111;rintro _ rfl;exact an (ao a7 rfl (by exact (P6.from_ (ai.rfl_.next D111)).rd 0 rfl)) rfl
    constructor
    ·rintro-w112 D112;rintro v112_21 rfl;exact fh (h_ (v:=.string fs[i].nm) cB rfl rfl rfl) (ai.rfl_.new _) ⟨_,rfl,Blk.new _ _ _⟩
    constructor
    ·rintro-w113 D113;rintro v113_22 ⟨q22,rfl,hq22⟩;refine dZ dW ((eK (some ⟨q22,0,none⟩) 1 1 [fs[i].nm] _ (iY hq22) rfl (by omega) (fun s hs=>by rw [List.mem_singleton.1 hs];exact (hall _ (List.getElem_mem hil)).2.1)).mono ?_);rintro v _ ⟨rfl,E113'⟩;exact ⟨E113',rfl⟩
    constructor
    ·rintro-w114 D114;rintro _ rfl;exact an (bx (bl rfl) (by simp [hokn])) rfl
    constructor
    ·rintro-w115 D115;rintro _ rfl;exact an (aB (v:=.bool _) rfl) rfl
    constructor
    ·rintro-w116 D116;rintro _ rfl;exact aP rfl (af dF rfl) rfl
    constructor
    ·rintro-w117 D117;rintro _ rfl _ rfl;exact aP rfl (ao (v:=.slice fs[i].A fs[i].bs.length fs[i].c) bg rfl ((P6.from_ (ai.rfl_.next D117)).rd 1 rfl)) rfl
    constructor
    ·rintro-w118 D118;rintro _ rfl v118_27 rfl;exact aP rfl (bC cq rfl) rfl
    constructor
    ·rintro-w119 D119;rintro _ rfl _ rfl;exact aP rfl (bx (cm rfl rfl) (decide_eq_false (by omega))) rfl
    constructor
    ·rintro-w120 D120;rintro _ rfl _ rfl;exact an (aF (v:=.bool _) rfl rfl) rfl
    constructor
    ·rintro-w121 D121;rintro _ rfl;exact an (aB (v:=.bool _) rfl) rfl
    constructor
    ·rintro-w122 D122;rintro _ rfl;exact aP rfl (aB (v:=.int _ _) rfl) rfl
    constructor
    ·rintro-w123 D123;rintro _ rfl _ rfl;exact aP rfl (dB (cm rfl rfl) (decide_eq_true (by omega))) rfl
    constructor
    ·rintro-w124 D124;rintro _ rfl _ rfl;exact aP rfl (aB (v:=.bool _) rfl) rfl
    constructor
    ·rintro-w125 D125;rintro _ rfl;exact aP rfl (aB (v:=.slice _ _ _) rfl) rfl
    constructor
    ·rintro-w126 D126;rintro _ rfl;exact aP rfl (aB (v:=.int _ _) rfl) rfl
    constructor
    ·rintro-w127 D127;rintro _ rfl _ rfl;exact aP rfl (hZ (b:=1) rfl rfl (by omega)) rfl
    constructor
    ·rintro-w128 D128;rintro _ rfl _ rfl _ rfl;exact aP rfl (aV iR rfl rfl (by omega)) rfl
    constructor
    ·rintro-w129 D129;rintro _ rfl _ rfl;exact aP rfl (af cf rfl) rfl
    constructor
    ·rintro-w130 D130;rintro _ rfl _ rfl;exact aP rfl (ao (v:=.string fs[i-1].nm) a7 rfl (by have h9:=eA (((hB.next E6).only O6 (hg6)).next D130) ((hcd (i-1) (by omega)) 0 _ rfl);simpa using h9)) rfl
    constructor
    ·rintro-w131 D131;rintro _ rfl;exact aP rfl (af cf rfl) rfl
    constructor
    ·rintro-w132 D132;rintro _ rfl _ rfl;exact aP rfl (ao (v:=.string fs[i].nm) a7 rfl ((P6.from_ (ai.rfl_.next D132)).rd 0 rfl)) rfl
    constructor
    ·rintro-w133 D133;rintro _ rfl v133_40 rfl v133_42 rfl;exact aP rfl (dB (n5 rfl rfl) (sv hns)) rfl
    constructor
    ·rintro-w134 D134;rintro _ rfl _ rfl _ rfl;exact aP rfl (aG (v:=.bool _) rfl rfl) rfl
    constructor
    ·rintro-w135 D135;rintro _ rfl _ rfl;exact an (aF (v:=.bool _) rfl rfl) rfl
    exact trivial
   case hend=>
    intro w136 D136;rintro _ rfl v21 rfl v22 ⟨q22,rfl,hq22⟩ _ rfl _ rfl _ rfl _ rfl v27 rfl _ rfl _ rfl _ rfl _ rfl _ rfl _ rfl _ rfl _ rfl _ rfl _ rfl _ rfl _ rfl v40 rfl _ rfl v42 rfl _ rfl _ rfl _ rfl;show St ..;refine ah (ae (bR rfl (ag (ab (asp rfl (asi rfl (ah (ae (aw (aD (aX (aD (aD (aX (aD (eW (v:=.pointer _) (v':=.int _ _) rfl rfl rfl (⟨.inl ⟨fun h=>hbad (h.2 i),rfl⟩,(((hB.next E6).only O6 (hg6)).next D136)⟩)))))))))))))))))
  have hord:0<i→sLt (fs[i-1]'(by omega)).nm fs[i].nm:=fun _=>hsl
  apply cE 26 [(20,eqp _),(21,eqp (.string fs[i].nm)),(22,fun v w'=>∃ q,v=.slice (some ⟨q,0,none⟩) 1 1∧Blk w' q 9 #[.string fs[i].nm]),(23,eqp _),(24,eqp _),(25,eqp _),(26,eqp _),(27,eqp (.slice fs[i].A fs[i].bs.length fs[i].c)),(28,eqp _),(29,eqp _),(30,eqp _),(31,eqp _),(32,eqp _),(33,eqp _),(34,eqp _),(35,eqp _),(36,eqp _),(37,eqp _),(38,eqp _),(39,eqp _),(40,eqp (.string fs[i-1].nm)),(41,eqp _),(42,eqp (.string fs[i].nm)),(43,eqp _),(44,eqp _),(45,eqp _)] (by repeat first | exact cV | refine cU ?_ | refine cx ?_) (by kernel_rfl) (by kernel_rfl) ⟨aj _,aj _,(fun _ _ _ hF ⟨q,h1,h2⟩=>⟨q,h1,h2.from_ hF⟩),aj _,aj _,aj _,aj _,aj _,aj _,aj _,aj _,aj _,aj _,aj _,aj _,aj _,aj _,aj _,aj _,aj _,aj _,aj _,aj _,aj _,aj _,aj _,trivial⟩
  case hop=>
   constructor
   ·rintro-w138 D138;exact an (af cf rfl) rfl
   constructor
   ·rintro-w139 D139;rintro _ rfl;exact an (ao a7 rfl (by exact (P6.from_ (ai.rfl_.next D139)).rd 0 rfl)) rfl
   constructor
   ·rintro-w140 D140;rintro v140_21 rfl;exact fh (h_ (v:=.string fs[i].nm) cB rfl rfl rfl) (ai.rfl_.new _) ⟨_,rfl,Blk.new _ _ _⟩
   constructor
   ·rintro-w141 D141;rintro v141_22 ⟨q22,rfl,hq22⟩;refine dZ dW ((eK (some ⟨q22,0,none⟩) 1 1 [fs[i].nm] _ (iY hq22) rfl (by omega) (fun s hs=>by rw [List.mem_singleton.1 hs];exact (hall _ (List.getElem_mem hil)).2.1)).mono ?_);rintro v _ ⟨rfl,E141'⟩;exact ⟨E141',rfl⟩
   constructor
   ·rintro-w142 D142;rintro _ rfl;exact an (bx (bl rfl) (by simp [hokn])) rfl
   constructor
   ·rintro-w143 D143;rintro _ rfl;exact an (aB (v:=.bool _) rfl) rfl
   constructor
   ·rintro-w144 D144;rintro _ rfl;exact aP rfl (af dF rfl) rfl
   constructor
   ·rintro-w145 D145;rintro _ rfl _ rfl;exact aP rfl (ao (v:=.slice fs[i].A fs[i].bs.length fs[i].c) bg rfl ((P6.from_ (ai.rfl_.next D145)).rd 1 rfl)) rfl
   constructor
   ·rintro-w146 D146;rintro _ rfl v146_27 rfl;exact aP rfl (bC cq rfl) rfl
   constructor
   ·rintro-w147 D147;rintro _ rfl _ rfl;exact aP rfl (bx (cm rfl rfl) (decide_eq_false (by omega))) rfl
   constructor
   ·rintro-w148 D148;rintro _ rfl _ rfl;exact an (aF (v:=.bool _) rfl rfl) rfl
   constructor
   ·rintro-w149 D149;rintro _ rfl;exact an (aB (v:=.bool _) rfl) rfl
   constructor
   ·rintro-w150 D150;rintro _ rfl;exact aP rfl (aB (v:=.int _ _) rfl) rfl
   constructor
   ·rintro-w151 D151;rintro _ rfl _ rfl;exact aP rfl (dB (cm rfl rfl) (decide_eq_true (by omega))) rfl
   constructor
   ·rintro-w152 D152;rintro _ rfl _ rfl;exact aP rfl (aB (v:=.bool _) rfl) rfl
   constructor
   ·rintro-w153 D153;rintro _ rfl;exact aP rfl (aB (v:=.slice _ _ _) rfl) rfl
   constructor
   ·rintro-w154 D154;rintro _ rfl;exact aP rfl (aB (v:=.int _ _) rfl) rfl
   constructor
   ·rintro-w155 D155;rintro _ rfl _ rfl;exact aP rfl (hZ (b:=1) rfl rfl (by omega)) rfl
   constructor
   ·rintro-w156 D156;rintro _ rfl _ rfl _ rfl;exact aP rfl (aV iR rfl rfl (by omega)) rfl
   constructor
   ·rintro-w157 D157;rintro _ rfl _ rfl;exact aP rfl (af cf rfl) rfl
   constructor
   ·rintro-w158 D158;rintro _ rfl _ rfl;exact aP rfl (ao (v:=.string fs[i-1].nm) a7 rfl (by have h9:=eA (((hB.next E6).only O6 (hg6)).next D158) ((hcd (i-1) (by omega)) 0 _ rfl);simpa using h9)) rfl
   constructor
   ·rintro-w159 D159;rintro _ rfl;exact aP rfl (af cf rfl) rfl
   constructor
   ·rintro-w160 D160;rintro _ rfl _ rfl;exact aP rfl (ao (v:=.string fs[i].nm) a7 rfl ((P6.from_ (ai.rfl_.next D160)).rd 0 rfl)) rfl
   constructor
   ·rintro-w161 D161;rintro _ rfl v161_40 rfl v161_42 rfl;exact aP rfl (bx (n5 rfl rfl) (qJ hsl)) rfl
   constructor
   ·rintro-w162 D162;rintro _ rfl _ rfl _ rfl;exact aP rfl (aG (v:=.bool _) rfl rfl) rfl
   constructor
   ·rintro-w163 D163;rintro _ rfl _ rfl;exact an (aF (v:=.bool _) rfl rfl) rfl
   exact trivial
  case hend=>
   intro w164 D164;rintro _ rfl v21 rfl v22 ⟨q22,rfl,hq22⟩ _ rfl _ rfl _ rfl _ rfl v27 rfl _ rfl _ rfl _ rfl _ rfl _ rfl _ rfl _ rfl _ rfl _ rfl _ rfl _ rfl _ rfl v40 rfl _ rfl v42 rfl _ rfl _ rfl _ rfl;show St ..;refine ah (ae (aY rfl (aC (ae (ag (ab (aa (af dF rfl) (aa (ao bg rfl (by exact (P6.from_ (ai.rfl_.next D164)).rd 1 rfl)) ?_))))))));have hM48:ai _ w164:=(ai.rfl_.next D164);refine av dX (bo fs[i].A fs[i].c fs[i].bs.length fs[i].bs _ ((hall _ (List.getElem_mem hil)).1.from_ (((hB.next E6).only O6 (hg6)).next D164)) rfl (by omega)) ?_;rintro v48 w165 ⟨⟨A48,c48,rfl,ho48⟩,E48⟩;have h10:=h6.from_ (((ai.rfl_.next D164).next E48));have hB10:ai w w165:=((((hB.next E6).only O6 (hg6)).next D164).next E48);have P10a:=P6.from_ (((ai.rfl_.next D164).next E48));obtain ⟨f2,hf2⟩:∃ f2:Fl,f2=⟨fs[i].nm,A48,c48,A48,c48,fs[i].bs,fs[i].bs,true⟩:=⟨_,rfl⟩;have hz10:=(((((hB.next E6).only O6 (hg6)).next D164).next E48)).size;have hB48:∀ k,f2.B k→z6≤k:=by rw [hf2,hz6e];exact fun k hk=>hk.elim (fun e=>Nat.le_trans hM48.size (er ho48 k e).1) fun e=>Nat.le_trans hM48.size (er ho48 k e).1
   have hf10:ew w165 f2:=by rw [hf2];exact ⟨(RB.own ho48 (hall _ (List.getElem_mem hil)).1.bt).2,(RB.own ho48 (hall _ (List.getElem_mem hil)).1.bt).2,TyB.own ho48,TyB.own ho48,fun _=>⟨fG ho48 (Nat.zero_le _),.inr ⟨rfl,[],(List.append_nil _).symm⟩⟩,fun h=>by cases h⟩
   refine ass rfl (ah (ae ?_));apply nF 13 12 [60] [(49,eqp _),(50,eqp _),(51,eqp _),(52,eqp _),(53,eqp (.slice Ap gs.length cp)),(54,eqp _),(55,eqp (.string fs[i].nm)),(56,eqp _),(57,eqp _),(58,eqp _),(59,eqp (.agg (flV f2).toArray)),(60,fun v w'=>∃ q,v=.slice (some ⟨q,0,none⟩) 1 1∧Blk w' q 81 (flV f2).toArray),(61,fun v w'=>∃ A5 c5,v=.slice A5 (gs.length+1) c5∧w'.ownsRow 0 81 3 (.slice A5 (gs.length+1) c5) (gs.length+1) ((gs++[f2]).flatMap flV)∧∀ q,A5.map (·.block)=some q→Ap.map (·.block)=some q∨(w165).heap.size≤q)] (fun w'=>ai w165 w') (fun w'=>Chg (fun k=>Ap.map (·.block)=some k) w165 w'∧Blk w' b12 72 #[.slice Ap gs.length cp,.int .i64 0,.int .i64 ((0:Nat):Int),.bool false]∧Blk w' b6 75 (afV fs[i]).toArray∧ai w w') (by repeat first | exact cV | refine cU ?_ | refine cx ?_) (by kernel_rfl) (by kernel_rfl) (by kernel_rfl) ⟨aj _,aj _,aj _,aj _,aj _,aj _,aj _,aj _,aj _,aj _,aj _,(fun _ _ _ hF ⟨q,h1,h2⟩=>⟨q,h1,h2.from_ hF⟩),(fun _ _ _ hF ⟨A2,c2,h1,h2,h3⟩=>⟨A2,c2,h1,h2.kept_from hF,h3⟩),trivial⟩ (ai.rfl_.d1) (⟨ai.rfl_.d1.toChg,h10.blk.from_ ai.rfl_.d1,P10a.from_ ai.rfl_.d1,(((((hB.next E6).only O6 (hg6)).next D164).next E48)).d1⟩) (fun _ _ hF h=>h.next hF) (fun _ _ hF h=>⟨h.1.next hF.toChg,h.2.1.from_ hF,h.2.2.1.from_ hF,h.2.2.2.next hF⟩)
   case hop=>
    constructor
    ·rintro-w167 ⟨hC167,hb167,hp167,hw167⟩;exact an (aB (v:=.pointer _) rfl) rfl
    constructor
    ·rintro-w168 ⟨hC168,hb168,hp168,hw168⟩;exact an (aB (v:=.pointer _) rfl) rfl
    constructor
    ·rintro-w169 ⟨hC169,hb169,hp169,hw169⟩;rintro _ rfl;exact an (az rfl) rfl
    constructor
    ·rintro-w170 D170;rintro _ rfl;exact an (af bc rfl) rfl
    constructor
    ·rintro-w171 D171;rintro _ rfl;exact an (ao cj rfl ((h10.blk.from_ D171).rd 0 rfl)) rfl
    constructor
    ·rintro-w172 ⟨hC172,hb172,hp172,hw172⟩;exact an (af cf rfl) rfl
    constructor
    ·rintro-w173 ⟨hC173,hb173,hp173,hw173⟩;rintro _ rfl;exact an (ao (v:=.string fs[i].nm) a7 rfl (hp173.rd 0 rfl)) rfl
    constructor
    ·rintro-w174 ⟨hC174,hb174,hp174,hw174⟩;exact an (aB (v:=.slice _ _ _) rfl) rfl
    constructor
    ·rintro-w175 ⟨hC175,hb175,hp175,hw175⟩;exact an (aB (v:=.slice _ _ _) rfl) rfl
    constructor
    ·rintro-w176 ⟨hC176,hb176,hp176,hw176⟩;rintro _ rfl _ rfl;exact an (bW (l:=[(0,.tmp 56),(1,.tmp 57)]) (gR _ _ _ _ _ _)) rfl
    constructor
    ·rintro-w177 D177;rintro v177_55 rfl _ rfl;exact an (cw (v':=.agg (flV f2).toArray) (bW (by kernel_rfl)) (by first | (rw [hf2];done) | (rw [hf2];rfl))) rfl
    constructor
    ·rintro-w178 D178;rintro v178_59 rfl;exact fh (jE cY rfl rfl rfl) (ai.rfl_.new _) ⟨_,rfl,Blk.new _ _ _⟩
    constructor
    ·intro h;cases h
    exact trivial
   case hmu=>
    rintro w180 D180;rintro v180_53 rfl v180_60 ⟨q180,rfl,hq180⟩;show lS ..;have hs9:=D180.size;refine og (base:=0) (news:=flV f2) cY rfl (by decide) rfl (h10.row.kept_from D180) (Nat.zero_le _) rfl rfl ⟨q180,0,rfl,hq180.whole⟩ (gb f2) (by omega) (by omega) ?_;intro A5 c5 w3 ho3 hg3 hL3;refine ⟨⟨D180.toChg.next (Chg.of_grown hg3 (fun k e=>e)),(h10.blk.from_ D180).grown hg3 (cF (h10.row.kept_from D180) (h10.blk.from_ D180) (by decide)),(P10a.from_ D180).grown hg3 (cF (h10.row.kept_from D180) (P10a.from_ D180) (by decide)),(hB10.next D180).grew hg3 (fun k hk=>hft k (.inr (.inl hk)))⟩,⟨A5,c5,rfl,by rw [List.flatMap_append];simpa using ho3,fun q hq=>hL3.elim (fun e=>.inl (e ▸ hq)) fun e=>.inr (by rw [e] at hq;cases hq;exact hs9)⟩,fun t u ht h=>ig (by repeat first | exact trivial | refine ⟨.inl rfl,?_⟩ | refine ⟨.inr (fun _ h=>h),?_⟩) t u ht h⟩
   case hend=>
    rintro w181 ⟨hC181,hb181,hp181,hw181⟩;rintro _ rfl _ rfl _ rfl _ rfl v53 rfl _ rfl v55 rfl _ rfl _ rfl _ rfl v59 rfl v60 _ v61 ⟨A61,c61,rfl,ho61,hA61⟩;show St ..;have hC10:=hC181;have hbb:=hb181;refine aa (az rfl) (aa (af bc rfl) (fg (v:=.slice _ _ _) eU rfl rfl rfl (hbb) (by show 0<4;decide) ?_));intro w182 O10 P10;refine ah (bA (ae (ab (aa (ib rfl rfl (by omega)) (mvi rfl (ah ?_))))));refine cd ((i+1,gs++[f2],A61,c61)) ⟨(by first | rfl | (refine bP ?_;omega)),trivial⟩ (by (iterate 108 refine bm rfl ?_);exact bO) ⟨?_,?_⟩
    ·have hr:=fv ho61 O10 (cF ho61 hbb (by decide));have hC9:Chg (fun k=>k=b12∨Ap.map (·.block)=some k) _ w182:=(hC10.wide fun k hk=>.inl (.inr hk)).next (O10.toChg (.inl rfl))
     have hfo:ew w182 f2:=(hf10.from_ ai.rfl_).chg hC9 fun k hk e=>by
      have h7:=hB48 k hk;rcases e with e | e
      ·have:=h10.blk.lt;have:=h6.blk.lt;omega
      ·have:=(er h6.row k e).2;omega
     have hk:=h10.ins (i:=gs.length) hC9 P10 (Nat.le_refl _) (by rw [List.take_length,List.drop_length];exact hr) hfo (fun g hg=>⟨fun ho k hk hb=>by have:=hB48 k hb;have:=(h6.ok g hg).lt (k:=k) (.inl hk);omega,fun ho k hk hb=>by have:=hB48 k (.inl hk);have:=(h6.ok g hg).lt hb;omega⟩);rw [List.take_length,List.drop_length] at hk
     exact ⟨by omega,by rw [List.length_append,hgl];rfl,fun j hj=>by
      rcases Nat.eq_or_lt_of_le (Nat.le_of_lt_succ hj) with e | e
      ·subst e;exact fun _=>⟨hokn,hlen,hord⟩
      ·exact hoj j e,by unfold aN at hga ⊢;rw [List.map_append,hga,List.take_succ_eq_append_getElem hil,List.map_append,hf2];rfl,hk,fun k hk=>by
      rcases hk with e | e | ⟨f3,h3,e⟩
      ·exact hft k (.inl e)
      ·rcases hA61 k e with e | e
       ·exact hft k (.inr (.inl e))
       ·exact Nat.le_trans hz10 e
      ·rcases List.mem_append.1 h3 with h3 | h3
       ·exact hft k (.inr (.inr ⟨f3,h3,e⟩))
       ·rw [List.mem_singleton.1 h3] at e;have:=hB48 k e;omega,(hw181.only O10 ((hft _ (.inl rfl))))⟩
    ·show fs.length-(i+1)<fs.length-i;omega
 refine dd (bB (bB (cG (ae (ag (ab (mvp rfl (asp rfl (asi rfl (ah (ae (aw (eW (v:=.pointer _) (v':=.int _ _) rfl rfl rfl ?_)))))))))))));obtain rfl:i=fs.length:=by omega
 rw [List.take_length] at hga;have hall2:∀ j,okJ fs j:=fun j h=>hoj j h h
 have hks:=sx hall2
 refine ⟨.inr ⟨⟨by omega,hall2⟩,b12,rfl,⟨gs,Ap,cp,0,hD.from_ ai.rfl_,hga,⟨hks,by rw [List.length_map];omega,fun e he=>by
  obtain ⟨f,hf,rfl⟩:=List.mem_map.1 he;obtain ⟨j,hj,rfl⟩:=List.getElem_of_mem hf;exact ⟨(hall2 j hj).2.1,(hall2 j hj).2.1⟩⟩,by omega,hft⟩⟩,hB⟩
end Go.Proofs.YtdimnaiiaekngaaDoor
namespace Go.Proofs.YtdimnaiiaekngaaDoor
open Go.Proofs.Tryd (prog)
open Go.RowKit
open Go.ChangeShapes Go.WideShapes Go.ChangeAt
theorem bF:cH prog 73=some (5,1):=by kernel_rfl
theorem je:mm prog 73=some (5,1,(.int .u8 0)):=by kernel_rfl
theorem jf:aI prog 49=true:=by kernel_rfl
theorem mX:aI prog 50=true:=by kernel_rfl
theorem l7 {P:Program} {w:World} {t:TypeId} {x:Operand} {ρ:Operand→Value} {e sz h m c:Nat} {A:Option Addr} {y:Operand} {k:IntKind} (ht:cH P t=some (e,sz)) (hx:ρ x=.slice A m c) (hy:ρ y=.int k (h:Nat)) (hh:h≤c) :
 RO P ρ (.slice t x none (some y) none) w (.slice A h c) w:=by
 have:=bj (P:=P) (ρ:=ρ) (w:=w) (l:=0) (h:=h) ht (lo:=none) (hi:=some y) hx (.inl ⟨rfl,rfl⟩) (.inr ⟨y,k,_,rfl,hy,rfl⟩) (Nat.zero_le _) hh
 rwa [dC,Nat.sub_zero,Nat.sub_zero] at this
theorem RB.tk {w:World} {A:Option Addr} {c:Nat} {l:List Nat} (h:RB w A c l) (k:Nat) (h0:0<(aT (l.take k)).length):∃ b o,A=some ⟨b,o,none⟩∧w.rangeAt b o (aT (l.take k)):=
 (RB.pre (l:=l.take k) (r:=l.drop k) (by rwa [List.take_append_drop])).at_ (by rwa [aH] at h0)
def iW (vs ds:List Nat) (n:Nat):List Nat:=vs.take n++(ds.take vs.length++List.replicate (vs.length-ds.length) 0).drop n
theorem gz (vs ds:List Nat) (n:Nat):(iW vs ds n).length=vs.length:=by simp [iW];omega
theorem oG (vs ds:List Nat) (n:Nat):cn (cn (List.replicate vs.length (.int .u8 0)) 0 (aT (ds.take vs.length))) 0 (aT (vs.take (min n vs.length)))=aT (iW vs ds n):=by
 have h1:cn (List.replicate vs.length (.int .u8 0)) 0 (aT (ds.take vs.length))=aT (ds.take vs.length++List.replicate (vs.length-ds.length) 0):=by
  unfold cn aT;rw [List.take_zero,List.nil_append,List.map_append,List.map_replicate,List.drop_replicate]
  congr 2
  simp;omega
 rw [h1];unfold cn iW;rw [List.take_zero,List.nil_append,Nat.zero_add,aH,List.length_take,cJ];rcases Nat.le_total n vs.length with h | h
 ·rw [Nat.min_eq_left h,Nat.min_eq_left h];simp [aT]
 ·rw [Nat.min_eq_right h,Nat.min_self,List.take_of_length_le (Nat.le_refl _),List.take_of_length_le h,List.drop_of_length_le (by simp [aT];omega),List.drop_of_length_le (by simp;omega),List.append_nil,List.append_nil]
theorem py {vs ds:List Nat} {n:Nat} (hv:∀ b∈vs,b<256) (hd:∀ b∈ds,b<256):∀ b∈iW vs ds n,b<256:=fun b hb=>by
 rcases List.mem_append.1 hb with h | h
 ·exact hv b (List.mem_of_mem_take h)
 ·rcases List.mem_append.1 (List.mem_of_mem_drop h) with h | h
  ·exact hd b (List.mem_of_mem_take h)
  ·have:=List.eq_of_mem_replicate h;omega
def du (vs ds:List Nat) (pick:Int):List Nat:=
 if pick%3=0 then ds else if pick%3=1 then vs else iW vs ds (((pick/3)%(((max vs.length ds.length+31)/32+1:Nat):Int)).toNat*32)
theorem kX {vs ds:List Nat} {p:Int} (hv:∀ b∈vs,b<256) (hd:∀ b∈ds,b<256):∀ b∈du vs ds p,b<256:=by
 unfold du;split
 ·exact hd
 ·split
  ·exact hv
  ·exact py hv hd
theorem jY {vs ds:List Nat} {p:Int}:(du vs ds p).length≤max vs.length ds.length:=by
 unfold du;split
 ·exact Nat.le_max_right _ _
 ·split
  ·exact Nat.le_max_left _ _
  ·rw [gz];exact Nat.le_max_left _ _
theorem qL (VA DA:Option Addr) (vc dc:Nat) (vs ds:List Nat) (n:Nat) (w:World) (hv:RB w VA vc vs) (hd:RB w DA dc ds) (hvl:vs.length≤2000000) (_:ds.length≤2000000) (_:n≤1000000000) :
 Rt prog 50 [.agg #[.slice VA vs.length vc,.slice DA ds.length dc],.int .i64 (n:Nat)] w (fun v w'=>(∃ A' c',v=.slice A' vs.length c'∧w'.ownsRow w.heap.size 5 1 (.slice A' vs.length c') vs.length (aT (iW vs ds n)))∧ai w w'):=by
 refine enter (n:=25) Tryd.func50 rfl rfl rfl (ag (ab (de (v:=.agg _) rfl ?_)));intro b2 w1 E2 hb2 hk2;refine ass rfl (ah (ae (ag (ab (aa (af bT rfl) (aa (ao bg rfl (by exact (hk2.from_ ai.rfl_).rd 0 rfl)) ?_))))));refine aa (bC cq rfl) ?_;have hB9:ai w w1:=(ai.rfl_.next E2);have hM9:=hk2.from_ (ai.rfl_);refine qS je rfl rfl rfl (by omega) (by omega) ?_;intro b9 w2 E9 hb9 hk9;have hn9:b2≠b9:=by have:=hM9.lt;omega
 refine ass rfl (ah (ae (ag (ab (mvs rfl (aa (af dM rfl) (aa (ao bg rfl (by exact (hk2.from_ (ai.rfl_.next E9)).rd 1 rfl)) ?_)))))));have hB13:ai w w2:=((ai.rfl_.next E2).next E9);refine fq (news:=aT (ds.take vs.length)) (g:=b9) (o:=0) (cur:=List.replicate vs.length (.int .u8 0)) bF rfl rfl (by rw [aH,List.length_take,Nat.mul_one,Nat.min_comm]) (fun _=>rfl) (fun h=>(hd.from_ hB13).tk _ h) (hk9.from_ (ai.rfl_)) (by rw [aH,List.length_take,List.length_replicate];omega) (eS _) ?_;intro w3 O13 P13;have hP2:=(hk2.from_ (ai.rfl_.next E9)).only O13 hn9;refine ah (ae (ag (ab (mvs rfl (aa (af bT rfl) (aa (ao bg rfl (by exact (hP2.from_ ai.rfl_).rd 0 rfl)) ?_))))));refine mvi rfl (aa (af bT rfl) (aa (ao bg rfl (by exact (hP2.from_ ai.rfl_).rd 0 rfl)) ?_));refine aa (bC cq rfl) (aa (sj rfl rfl) (fX (t:=21) (v:=.int _ _) (v':=.int .i64 ((min n vs.length:Nat):Int)) rfl (by congr 1;omega) ?_));refine aa (l7 bF rfl rfl (by have:=hv.le;omega)) ?_;have hB23:ai w w3:=(hB13.only O13 (by rw [hb9];exact hB9.size));refine fq (news:=aT (vs.take (min n vs.length))) (g:=b9) (o:=0) bF rfl rfl (by rw [aH,List.length_take];omega) (fun _=>rfl) (fun h=>(hv.from_ hB23).tk _ h) P13 (by rw [bX _ _ _ (by rw [aH,List.length_take,List.length_replicate];omega),aH,List.length_take,List.length_replicate];omega) (eS _) ?_;intro w4 O23 P23;refine ah (ae (ag (ab (mvs rfl (ass rfl (ah (ae (aw (bb (v:=.slice _ _ _) rfl rfl ?_)))))))));rw [oG] at P23;exact ⟨⟨some ⟨b9,0,none⟩,vs.length,rfl,jN (by rw [hb9];exact hB9.size) P23 (Nat.le_refl _) (by unfold maxLen;omega) (by rw [aH,gz,Nat.mul_one]) (List.take_of_length_le (by rw [aH,gz,Nat.mul_one];exact Nat.le_refl _))⟩,(hB23.only O23 (by rw [hb9];exact hB9.size))⟩
theorem kW (VA DA:Option Addr) (vc dc:Nat) (vs ds:List Nat) (pick:Int) (w:World) (hv:RB w VA vc vs) (hd:RB w DA dc ds) (hvl:vs.length≤2000000) (hdl:ds.length≤2000000) (hp:-9223372036854775808≤pick∧pick≤9223372036854775807) :
 Rt prog 39 [.agg #[.slice VA vs.length vc,.slice DA ds.length dc],.int .i64 pick] w (fun v w'=>(∃ A' c' n,v=.slice A' n c'∧n=(du vs ds pick).length∧w'.ownsRow w.heap.size 5 1 (.slice A' n c') n (aT (du vs ds pick)))∧ai w w'):=by
 refine enter (n:=49) Tryd.func39 rfl rfl rfl (ag (ab (de (v:=.agg _) rfl ?_)));intro b2 w1 E2 hb2 hk2;refine ass rfl (ah (ae (ag (ab (mvi rfl (av jf (kU pick 3 _ (by decide) (by decide) hp) ?_))))));rintro v13 w2 ⟨rfl,E13⟩;refine mvt rfl (aa (ax rfl rfl) (aa (ax rfl rfl) (asi rfl (asi rfl (ah (ae (ag (ag (ab (mvi rfl (ah (ae (bu (ag (ab (aa (br rfl rfl) ?_))))))))))))))));refine asb rfl (ah (ae (tc rfl (fun Q3=>?_) (fun Q3=>?_))))
 ·refine ag (ab (aa (af dM rfl) (aa (ao bg rfl (by exact (hk2.from_ (ai.rfl_.next E13)).rd 1 rfl)) ?_)));have hB21:ai w w2:=((ai.rfl_.next E2).next E13);refine av dX (bo DA dc ds.length ds _ (hd.from_ ((ai.rfl_.next E2).next E13)) rfl (by omega)) ?_;rintro v21 w4 ⟨⟨A21,c21,rfl,ho21⟩,E21⟩;refine ass rfl (ah (ae (aw (aX (aD (bb (v:=.slice _ _ _) rfl rfl ?_))))));have e1:du vs ds pick=ds:=by unfold du;rw [if_pos (by omega)]
  rw [e1];exact ⟨⟨A21,c21,_,rfl,rfl,fG ho21 hB21.size⟩,(((ai.rfl_.next E2).next E13).next E21)⟩
 refine ag (ab (aa (br rfl rfl) (asb rfl (ah (ae (tc rfl (fun Q5=>?_) (fun Q5=>?_)))))))
 ·refine ag (ab (aa (af bT rfl) (aa (ao bg rfl (by exact (hk2.from_ (ai.rfl_.next E13)).rd 0 rfl)) ?_)));have hB26:ai w w2:=((ai.rfl_.next E2).next E13);refine av dX (bo VA vc vs.length vs _ (hv.from_ ((ai.rfl_.next E2).next E13)) rfl (by omega)) ?_;rintro v26 w6 ⟨⟨A26,c26,rfl,ho26⟩,E26⟩;refine ass rfl (ah (ae (aw (aX (aD (bb (v:=.slice _ _ _) rfl rfl ?_))))));have e1:du vs ds pick=vs:=by unfold du;rw [if_neg (by omega),if_pos (by omega)]
  rw [e1];exact ⟨⟨A26,c26,_,rfl,rfl,fG ho26 hB26.size⟩,(((ai.rfl_.next E2).next E13).next E26)⟩
 refine aC (bA (ae (ag (ab (aa (af bT rfl) (aa (ao bg rfl (by exact (hk2.from_ (ai.rfl_.next E13)).rd 0 rfl)) ?_))))));refine aa (bC cq rfl) (aa (af dM rfl) (aa (ao bg rfl (by exact (hk2.from_ (ai.rfl_.next E13)).rd 1 rfl)) ?_));refine aa (bC cq rfl) (aa (sk rfl rfl) (fX (t:=33) (v:=.int _ _) (v':=.int .i64 ((max vs.length ds.length:Nat):Int)) rfl (by congr 1;omega) ?_));refine asi rfl (ah (ae (ag (ab (mvi rfl (aa (bz (b:=32) rfl rfl (by omega)) (aa (hZ (b:=1) rfl rfl (by omega)) (aa (rf (b:=32) rfl rfl (by omega)) (asi rfl (ah (ae (ag (ab (mvi rfl ?_))))))))))))));refine mvi rfl (aa (bz (b:=1) rfl rfl (by omega)) (av jf (kU (pick/3) _ _ (by omega) (by omega) (by omega)) ?_));rintro v42 w7 ⟨rfl,E42⟩;have hz1:=Int.emod_nonneg (pick/3) (show (((max vs.length ds.length+31)/32+1:Nat):Int)≠0 by omega);have hz2:=Int.emod_lt_of_pos (pick/3) (show (0:Int)<(((max vs.length ds.length+31)/32+1:Nat):Int) by omega);obtain ⟨q,hq,hq2⟩:∃ q:Nat,(pick/3)%(((max vs.length ds.length+31)/32+1:Nat):Int)=(q:Int)∧q≤(max vs.length ds.length+31)/32:=⟨((pick/3)%(((max vs.length ds.length+31)/32+1:Nat):Int)).toNat,by omega,by omega⟩;rw [show max vs.length ds.length+32-1=max vs.length ds.length+31 by omega,hq];refine mvt rfl (aa (ax rfl rfl) (aa (ax rfl rfl) (asi rfl (asi rfl (ah (ae (ag (ab (aa (aQ (cs:=[_,_]) gJ gI rfl (by exact (hk2.from_ ((ai.rfl_.next E13).next E42)).whole)) ?_)))))))));refine mvi rfl (aa (lA (b:=32) rfl rfl (by omega)) ?_);have hB48:ai w w7:=(((ai.rfl_.next E2).next E13).next E42);refine av mX (qL VA DA vc dc vs ds (q*32) _ (hv.from_ (((ai.rfl_.next E2).next E13).next E42)) (hd.from_ (((ai.rfl_.next E2).next E13).next E42)) hvl hdl (by omega)) ?_;rintro v48 w8 ⟨⟨A48,c48,rfl,ho48⟩,E48⟩;refine ass rfl (ah (ae (aw (bb (v:=.slice _ _ _) rfl rfl ?_))));have e1:du vs ds pick=iW vs ds (q*32):=by unfold du;rw [if_neg (by omega),if_neg (by omega),hq];rfl
 rw [e1];exact ⟨⟨A48,c48,_,rfl,(gz _ _ _).symm,fG ho48 hB48.size⟩,((((ai.rfl_.next E2).next E13).next E42).next E48)⟩
theorem dr:dO prog 66=some (75,2,40,(.agg #[.string ⟨#[]⟩,.slice none 0 0])):=by kernel_rfl
theorem iB:cH prog 23=some (3,1):=by kernel_rfl
theorem lT:aI prog 38=true:=by kernel_rfl
theorem eI:(cH prog 23).isSome=true:=by kernel_rfl
theorem iA:aI prog 39=true:=by kernel_rfl
def afB (f:Af):ByteArray×List Nat:=(f.nm,f.bs)
def cO:List Fe→List Int→List (ByteArray×List Nat)
 |[],_=>[]
 |e::D,ps=>if e.2.1=e.2.2 then (e.1,e.2.1)::cO D ps else (e.1,du e.2.1 e.2.2 (ps.headD 0))::cO D ps.tail
def fE (w:World) (N:Nat) (f:Af):Prop:=w.ownsRow N 5 1 (.slice f.A f.bs.length f.c) f.bs.length (aT f.bs)∧(∀ b∈f.bs,b<256)∧f.nm.size≤140737488351232∧f.bs.length≤1048576
theorem fE.from_ {w w':World} {N:Nat} {f:Af} (h:fE w N f) (hF:ai w w'):fE w' N f:=⟨h.1.kept_from hF,h.2⟩
theorem fE.aside {w w':World} {N e s n c:Nat} {A:Option Addr} {xs:List Value} {f:Af} (h:fE w N f) (ho:w.ownsRow N e s (.slice A n c) n xs) (hne:5≠e) (hg:w.grownBy w' (A.map (·.block))):fE w' N f:=⟨oT h.1 hg (oU ho h.1 hne.symm),h.2⟩
theorem fE.ok {w:World} {N:Nat} {f:Af} (h:fE w N f):tj w f:=⟨(RB.own h.1 h.2.1).2,h.2.2.1,by have:=h.2.2.2;omega⟩
theorem qw {D:List Fe} {i:Nat} (hi:i<D.length) {ps:List Int} (h:D[i].2.1=D[i].2.2):cO (D.drop i) ps=(D[i].1,D[i].2.1)::cO (D.drop (i+1)) ps:=by
 rw [List.drop_eq_getElem_cons hi];rw [cO,if_pos h]
theorem mF {D:List Fe} {i:Nat} (hi:i<D.length) {ps:List Int} (h:¬ D[i].2.1=D[i].2.2):cO (D.drop i) ps=(D[i].1,du D[i].2.1 D[i].2.2 (ps.headD 0))::cO (D.drop (i+1)) ps.tail:=by
 rw [List.drop_eq_getElem_cons hi];rw [cO,if_neg h]
theorem ox {w:World} {g t:Nat} {a b c:Value} (h:Blk w g t #[a,b,c]):w.rangeAt g (0+1) [b,c]:=fun j v hv=>by
 match j,hv with
 |0,hv=>exact h.whole 1 v hv
 |1,hv=>exact h.whole 2 v hv
 |j+2,hv=>simp at hv
theorem rD {w:World} {b o c:Nat} {a:Int} {l:List Int} (h:dx iV w (some ⟨b,o,none⟩) (a::l)) (hc:(a::l).length≤c):dx iV w (dH (some ⟨b,o,none⟩) c 1 1) l:=fun h0=>by
 obtain ⟨b2,o2,e,hh⟩:=h (by simp);cases e;refine ⟨b,o+1,?_,fun i hi=>?_⟩
 ·unfold dH;rw [if_neg (by simp at hc;omega)];rfl
 ·have:=hh (i+1) (by simpa using hi);rw [show o+1+i=o+(i+1) by omega];simpa using this
theorem qv (U:Nat→Prop) (d:Nat) (D:List Fe) (fu:Nat) (off:Bool) (w:World) (hd:cR w U d D fu off) (PA:Option Addr) (pc pn:Nat) (ps:List Int) (hr:dx iV w PA ps) (hpn:pn=ps.length) (hpc:ps.length≤pc) (hpc9:pc≤9223372036854775807) (hpb:∀ q∈ps,-9223372036854775808≤q∧q≤9223372036854775807) (hnms:∀ e∈D,e.1.size≤140737488351232) :
 Rt prog 28 [.pointer (some ⟨d,0,none⟩),.slice PA pn pc] w (fun v w'=>(∃ A' c' n,∃ gs:List Af,v=.slice A' n c'∧n=gs.length∧gs.map afB=cO D ps∧w'.ownsRow w.heap.size 75 2 (.slice A' n c') n (gs.flatMap afV)∧∀ g∈gs,fE w' w.heap.size g)∧ai w w'):=by
 subst hpn;have hd0:=hd;obtain ⟨fs,Ap,cp,ca,h,hD,hok,hfu0,hU⟩:=hd;subst hD;obtain ⟨hs,hl,hz⟩:=hok;rw [aK] at hl;refine enter (n:=52) Tryd.func28 rfl rfl rfl (ag (ab (ass rfl (ah (ae (ag (ab (ass rfl (ah (ae (ag (ag (ab (mvp rfl (aa (az rfl) (aa (af bc rfl) ?_))))))))))))))));refine aa (ao cj rfl (by exact (h.blk.from_ ai.rfl_).rd 0 rfl)) ?_;refine aa (bC c_ rfl) (mvi rfl (ah (ae (bu (dJ (G:=Nat×List Af×Option Addr×Nat×Option Addr×List Int×Nat) [7,8,9,16,17,18,19,20,21,22,23,24,25,26,27,28,29,30,31,32,33,34,35,36,37,38,39,40,41,42,43,44,45,46,47,48,49,50] (fun (i,_,A5,c5,Q,qs,qc)=>[(1,.slice Q qs.length qc),(5,.slice A5 i c5),(15,.int .i64 (i:Nat))]) (fun (i,gs,A5,c5,Q,qs,qc) w'=>i≤fs.length∧gs.length=i∧cO (aN fs) ps=gs.map afB++cO ((aN fs).drop i) qs∧dx iV w Q qs∧qs.length≤qc∧qc≤9223372036854775807∧(∀ q∈qs,-9223372036854775808≤q∧q≤9223372036854775807)∧w'.ownsRow w.heap.size 75 2 (.slice A5 i c5) i (gs.flatMap afV)∧(∀ g∈gs,fE w' w.heap.size g)∧ai w w') (fun (i,_)=>fs.length-i) ((0,[],none,0,PA,ps,pc)) ⟨rfl,rfl,rfl,trivial⟩ ?_ ?_)))))
 ·exact ⟨Nat.zero_le _,rfl,rfl,hr,hpc,hpc9,hpb,World.ownsRow_nil _ _ _ _,fun g hg=>(by cases hg),ai.rfl_⟩
 rintro ⟨i,gs,A5,c5,Q,qs,qc⟩ ρ1 w1 ⟨hi,hgl,hcl,hrq,hqc,hqc9,hqb,ho,hgs,hB⟩;refine ag (ab (aa (cv rfl rfl) (ah (ae (ag (tc rfl (fun Q2=>?_) (fun Q2=>?_)))))))
 ·have hil:i<fs.length:=by omega
  have hila:i<(aN fs).length:=by rw [aK];exact hil
  obtain ⟨bp,op,rfl,hcd⟩:=(iX h.row).2 (by omega);have hce:=hcd i hil;have hfi:=h.ok _ (List.getElem_mem hil);have hzi:=hz _ (List.getElem_mem hila);rw [a_] at hzi;have hz1:fs[i].vs.length≤1048576:=hzi.1;have hz2:fs[i].ds.length≤1048576:=hzi.2;have hnm:fs[i].nm.size≤140737488351232:=by have:=hnms _ (List.getElem_mem hila);rwa [a_] at this
  refine aC (ae (ag (bu (ag (ab (aa (aV aZ rfl rfl (by omega)) (aa (aQ (cs:=[_,_,_]) fC dD rfl (by exact ep hB hce)) ?_)))))));refine cM g_ ?_;intro b7 w3 E7 hb7 hk7;have hg7:w.heap.size≤b7:=by rw [hb7];exact (hB).size
  refine bh (vs:=[_,_,_]) dD rfl rfl (by simp [Value.oneCell']) (hk7) rfl ?_;intro w4 O4 P4;have hF7:ai _ w4:=E7.only O4 (by rw [hb7];exact Nat.le_refl _);replace ho:=ho.kept_from hF7;replace hgs:=fun g hg=>(hgs g hg).from_ hF7
  refine ah (ae (ag (ab (aa (af bS rfl) (aa (af bT rfl) (aa (ao bg rfl (by exact (P4.from_ ai.rfl_).rd 1 rfl)) ?_))))));replace ho:=ho.kept_from (ai.rfl_);replace hgs:=fun g hg=>(hgs g hg).from_ (ai.rfl_)
  replace P4:=P4.from_ (ai.rfl_);have hz22:=(((hB.next E7).only O4 (hg7))).size;refine av dX (bo fs[i].vA fs[i].vc fs[i].vs.length fs[i].vs _ (hfi.v.from_ ((hB.next E7).only O4 (hg7))) rfl (by omega)) ?_;rintro v22 w5 ⟨⟨A22,c22,rfl,ho22⟩,E22⟩;replace ho:=ho.kept_from E22;replace hgs:=fun g hg=>(hgs g hg).from_ E22
  replace P4:=P4.from_ E22;have hodx:fE w5 w.heap.size ⟨fs[i].nm,A22,c22,fs[i].vs⟩:=⟨fG ho22 hz22,hfi.v.bt,hnm,hz1⟩;refine ass rfl (ah (ae (ag (ag (ab (aa (af bS rfl) (aa (af bT rfl) (aa (ao bg rfl (by exact (P4.from_ ai.rfl_).rd 1 rfl)) ?_))))))));refine aa (af bS rfl) (aa (af dM rfl) (aa (ao bg rfl (by exact (P4.from_ ai.rfl_).rd 2 rfl)) ?_));refine av lT (o5 fs[i].vA fs[i].dA fs[i].vc fs[i].dc _ _ fs[i].vs fs[i].ds _ (hfi.v.from_ (((hB.next E7).only O4 (hg7)).next E22)) (hfi.d.from_ (((hB.next E7).only O4 (hg7)).next E22)) rfl rfl) ?_;rintro v29 w6 ⟨rfl,rfl⟩;refine aa (bl rfl) (ah (ae (aJ rfl (fun Q7=>?_) (fun Q7=>?_))))
  ·with_reducible (replace Q7:=ef Q7;replace Q7:=dF_ Q7)
   have hne:¬ fs[i].vs=fs[i].ds:=by simpa using Q7
   refine ag (ab (asi rfl (ah (ae (ag (ag (ab (mvs rfl (aa (bC eI rfl) (aa (cm rfl rfl) (ah (ae (tc rfl (fun Q8=>?_) (fun Q8=>?_))))))))))))))
   ·obtain ⟨pk,qn,rfl⟩:∃ a b,qs=a::b:=by cases qs with | nil=>(simp at Q8) | cons a b=>exact ⟨a,b,rfl⟩
    obtain ⟨bq,oq,rfl,hcq⟩:=hrq (by simp);have hq0:=hqb pk (List.mem_cons_self ..);obtain ⟨Qn,hQn⟩:∃ x,x=dH (some ⟨bq,oq,none⟩) qc 1 1:=⟨_,rfl⟩;obtain ⟨qm,hqm⟩:∃ x,x=qc-1:=⟨_,rfl⟩;have hrn:=rD hrq hqc;rw [←hQn] at hrn;have hnc:qn.length≤qm:=by rw [hqm];simp at hqc;omega
    have hnc9:qm≤9223372036854775807:=by omega
    have hnb:∀ q∈qn,-9223372036854775808≤q∧q≤9223372036854775807:=fun q hq=>hqb q (List.mem_cons_of_mem _ hq)
    have hpk:=hq0;obtain ⟨bsC,hbsC⟩:∃ l,l=du fs[i].vs fs[i].ds pk:=⟨_,rfl⟩;have hcr0:cO ((aN fs).drop i) (pk::qn)=(fs[i].nm,bsC)::cO ((aN fs).drop (i+1)) qn:=by rw [mF hila (by rw [a_];exact hne),a_,hbsC];rfl
    apply cE 7 [(34,eqp _),(35,eqp _),(36,eqp (.int .i64 pk)),(37,eqp _),(38,eqp (.slice Qn qn.length qm)),(9,eqp _),(1,eqp _)] (by repeat first | exact cV | refine cU ?_ | refine cx ?_) (by kernel_rfl) (by kernel_rfl) ⟨aj _,aj _,aj _,aj _,aj _,aj _,aj _,trivial⟩
    case hop=>
     constructor
     ·rintro-w10 D10;exact an (aB (v:=.slice _ _ _) rfl) rfl
     constructor
     ·rintro-w11 D11;rintro _ rfl;exact an (ia iB rfl rfl (by omega)) rfl
     constructor
     ·rintro-w12 D12;rintro _ rfl;exact an (ao (v:=.int .i64 pk) aL rfl (eA ((((hB.next E7).only O4 (hg7)).next E22).next D12) (by have h9:=hcq 0 (by simp);exact h9))) rfl
     constructor
     ·rintro-w13 D13;exact an (aB (v:=.slice _ _ _) rfl) rfl
     constructor
     ·rintro-w14 D14;rintro _ rfl;exact an (cw (v':=.slice Qn qn.length qm) (bj (l:=1) (h:=(pk::qn).length) iB rfl (.inr ⟨_,_,_,rfl,rfl,rfl⟩) (.inl ⟨rfl,rfl⟩) (by simp) hqc) (by rw [hQn,hqm];rfl)) rfl
     constructor
     ·rintro-w15 D15;rintro v15_36 rfl;exact an (bI (v:=.int _ _) rfl) rfl
     constructor
     ·rintro-w16 D16;rintro v16_38 rfl;exact an (bI (v:=.slice _ _ _) rfl) rfl
     exact trivial
    case hend=>
     intro w17 D17;rintro _ rfl _ rfl v36 rfl _ rfl v38 rfl _ rfl _ rfl;show St ..;refine ah (ae (ab (aa (af bS rfl) (aa (aQ (cs:=[_,_]) gJ gI rfl (by exact ox (P4.from_ (ai.rfl_.next D17)))) ?_))));refine mvi rfl ?_;replace ho:=ho.kept_from ((ai.rfl_.next D17));replace hgs:=fun g hg=>(hgs g hg).from_ ((ai.rfl_.next D17))
     replace P4:=P4.from_ ((ai.rfl_.next D17));have hz42:=(((((hB.next E7).only O4 (hg7)).next E22).next D17)).size;refine av iA (kW fs[i].vA fs[i].dA fs[i].vc fs[i].dc fs[i].vs fs[i].ds _ _ (hfi.v.from_ ((((hB.next E7).only O4 (hg7)).next E22).next D17)) (hfi.d.from_ ((((hB.next E7).only O4 (hg7)).next E22).next D17)) (by omega) (by omega) hpk) ?_;rintro v42 w18 ⟨⟨A42,c42,n42,rfl,hn42,ho42⟩,E42⟩;replace ho:=ho.kept_from E42;replace hgs:=fun g hg=>(hgs g hg).from_ E42
     replace P4:=P4.from_ E42;rw [←hbsC] at hn42 ho42;subst hn42;obtain ⟨g2,hg2⟩:∃ g2:Af,g2=⟨fs[i].nm,A42,c42,bsC⟩:=⟨_,rfl⟩;have hod:fE w18 w.heap.size g2:=by rw [hg2];exact ⟨fG ho42 hz42,by show ∀ b∈bsC,b<256;rw [hbsC];exact kX hfi.v.bt hfi.d.bt,hnm,by show bsC.length≤1048576;rw [hbsC];exact Nat.le_trans jY (Nat.max_le.2 ⟨hz1,hz2⟩)⟩
     have hcr:=hcr0;rw [show (fs[i].nm,bsC)=afB g2 by rw [hg2] <;> rfl] at hcr;refine ass rfl (ah (ae (ab (mvs rfl (aa (af el rfl) (aa (ao a7 rfl (by exact (P4.from_ ai.rfl_).rd 0 rfl)) ?_))))));refine mvs rfl ?_;refine aa (cw (v':=.agg (afV g2).toArray) (bW (by kernel_rfl)) (by rw [hg2] <;> rfl)) ?_;have hM48:ai _ w18:=ai.rfl_;refine jA dr rfl rfl rfl ?_;intro b48 w19 E48 hb48 hk48;have hM49:ai _ w19:=(ai.rfl_.next E48);have ho49p:=ho.kept_from hM49;replace hgs:=fun g hg=>(hgs g hg).from_ hM49
     replace hod:=hod.from_ hM49;refine ft (a0:=w) (news:=afV g2) dr rfl (by decide) rfl ho49p ((((((hB.next E7).only O4 (hg7)).next E22).next D17).next E42).next E48) rfl rfl (fun _=>⟨b48,0,rfl,hk48.whole⟩) (fun h=>by cases h) (j3 g2) (by omega) (by omega) ?_;intro A49 c49 w20 ho49 B49 hg49;refine ass rfl (ah (bA (ae (ab (aa (bz (b:=1) rfl rfl (by omega)) (mvi rfl (ah ?_)))))));refine cd ((i+1,gs++[g2],A49,c49,Qn,qn,qm)) ⟨(by first | rfl | (rw [hqn] <;> rfl)),rfl,(by first | rfl | (refine bP ?_;omega)),trivial⟩ (by (iterate 84 refine bm rfl ?_);exact bO) ⟨?_,?_⟩
     ·refine ⟨by omega,by rw [List.length_append,hgl];rfl,?_,hrn,hnc,hnc9,hnb,by rw [List.flatMap_append];simpa using ho49,fun g hg=>?_,B49⟩
      ·(rw [hcl,hcr,List.map_append,List.append_assoc];try rfl)
      ·rcases List.mem_append.1 hg with hg | hg
       ·exact (hgs g hg).aside ho49p (by decide) hg49
       ·rw [List.mem_singleton.1 hg];exact hod.aside ho49p (by decide) hg49
     ·show fs.length-(i+1)<fs.length-i;omega
   obtain rfl:qs=[]:=by cases qs with | nil=>rfl | cons a b=>(simp at Q8 <;> omega)
   have hpk:(-9223372036854775808:Int)≤0∧(0:Int)≤9223372036854775807:=by decide
   obtain ⟨bsC,hbsC⟩:∃ l,l=du fs[i].vs fs[i].ds 0:=⟨_,rfl⟩;obtain ⟨qn,hqn⟩:∃ x:List Int,x=[]:=⟨_,rfl⟩;obtain ⟨Qn,rfl⟩:∃ x,x=Q:=⟨_,rfl⟩;obtain ⟨qm,rfl⟩:∃ x,x=qc:=⟨_,rfl⟩;have hrn:=hrq;rw [←hqn] at hrn;have hnc:qn.length≤qm:=by rw [hqn];exact hqc
   have hnc9:=hqc9;have hnb:∀ q∈qn,-9223372036854775808≤q∧q≤9223372036854775807:=by rw [hqn];exact hqb
   have hcr0:cO ((aN fs).drop i) []=(fs[i].nm,bsC)::cO ((aN fs).drop (i+1)) qn:=by rw [mF hila (by rw [a_];exact hne),a_,hqn,hbsC];rfl
   refine aC (ae (ab (aa (af bS rfl) (aa (aQ (cs:=[_,_]) gJ gI rfl (by exact ox (P4.from_ ai.rfl_))) ?_))));refine mvi rfl ?_;replace ho:=ho.kept_from (ai.rfl_);replace hgs:=fun g hg=>(hgs g hg).from_ (ai.rfl_)
   replace P4:=P4.from_ (ai.rfl_);have hz42:=((((hB.next E7).only O4 (hg7)).next E22)).size;refine av iA (kW fs[i].vA fs[i].dA fs[i].vc fs[i].dc fs[i].vs fs[i].ds _ _ (hfi.v.from_ (((hB.next E7).only O4 (hg7)).next E22)) (hfi.d.from_ (((hB.next E7).only O4 (hg7)).next E22)) (by omega) (by omega) hpk) ?_;rintro v42 w21 ⟨⟨A42,c42,n42,rfl,hn42,ho42⟩,E42⟩;replace ho:=ho.kept_from E42;replace hgs:=fun g hg=>(hgs g hg).from_ E42
   replace P4:=P4.from_ E42;rw [←hbsC] at hn42 ho42;subst hn42;obtain ⟨g2,hg2⟩:∃ g2:Af,g2=⟨fs[i].nm,A42,c42,bsC⟩:=⟨_,rfl⟩;have hod:fE w21 w.heap.size g2:=by rw [hg2];exact ⟨fG ho42 hz42,by show ∀ b∈bsC,b<256;rw [hbsC];exact kX hfi.v.bt hfi.d.bt,hnm,by show bsC.length≤1048576;rw [hbsC];exact Nat.le_trans jY (Nat.max_le.2 ⟨hz1,hz2⟩)⟩
   have hcr:=hcr0;rw [show (fs[i].nm,bsC)=afB g2 by rw [hg2] <;> rfl] at hcr;refine ass rfl (ah (ae (ab (mvs rfl (aa (af el rfl) (aa (ao a7 rfl (by exact (P4.from_ ai.rfl_).rd 0 rfl)) ?_))))));refine mvs rfl ?_;refine aa (cw (v':=.agg (afV g2).toArray) (bW (by kernel_rfl)) (by rw [hg2] <;> rfl)) ?_;have hM48:ai _ w21:=ai.rfl_;refine jA dr rfl rfl rfl ?_;intro b48 w22 E48 hb48 hk48;have hM49:ai _ w22:=(ai.rfl_.next E48);have ho49p:=ho.kept_from hM49;replace hgs:=fun g hg=>(hgs g hg).from_ hM49
   replace hod:=hod.from_ hM49;refine ft (a0:=w) (news:=afV g2) dr rfl (by decide) rfl ho49p (((((hB.next E7).only O4 (hg7)).next E22).next E42).next E48) rfl rfl (fun _=>⟨b48,0,rfl,hk48.whole⟩) (fun h=>by cases h) (j3 g2) (by omega) (by omega) ?_;intro A49 c49 w23 ho49 B49 hg49;refine ass rfl (ah (bA (ae (ab (aa (bz (b:=1) rfl rfl (by omega)) (mvi rfl (ah ?_)))))));refine cd ((i+1,gs++[g2],A49,c49,Qn,qn,qm)) ⟨(by first | rfl | (rw [hqn] <;> rfl)),rfl,(by first | rfl | (refine bP ?_;omega)),trivial⟩ (by (iterate 77 refine bm rfl ?_);exact bO) ⟨?_,?_⟩
   ·refine ⟨by omega,by rw [List.length_append,hgl];rfl,?_,hrn,hnc,hnc9,hnb,by rw [List.flatMap_append];simpa using ho49,fun g hg=>?_,B49⟩
    ·(rw [hcl,hcr,List.map_append,List.append_assoc];try rfl)
    ·rcases List.mem_append.1 hg with hg | hg
     ·exact (hgs g hg).aside ho49p (by decide) hg49
     ·rw [List.mem_singleton.1 hg];exact hod.aside ho49p (by decide) hg49
   ·show fs.length-(i+1)<fs.length-i;omega
  with_reducible (replace Q7:=eh Q7;replace Q7:=dT_ Q7)
  have heq:fs[i].vs=fs[i].ds:=by simpa using Q7
  obtain ⟨Qn,rfl⟩:∃ x,x=Q:=⟨_,rfl⟩;obtain ⟨qn,rfl⟩:∃ x,x=qs:=⟨_,rfl⟩;obtain ⟨qm,rfl⟩:∃ x,x=qc:=⟨_,rfl⟩;have hrn:=hrq;have hnc:=hqc;have hnc9:=hqc9;have hnb:=hqb;obtain ⟨g2,hg2⟩:∃ g2:Af,g2=⟨fs[i].nm,A22,c22,fs[i].vs⟩:=⟨_,rfl⟩;have hod:=hodx;rw [←hg2] at hod;have hcr:cO ((aN fs).drop i) qn=afB g2::cO ((aN fs).drop (i+1)) qn:=by rw [qw hila (by rw [a_];exact heq),a_,hg2];rfl
  refine aC (ae (ab (mvs rfl (aa (af el rfl) (aa (ao a7 rfl (by exact (P4.from_ ai.rfl_).rd 0 rfl)) ?_)))));refine mvs rfl ?_;refine aa (cw (v':=.agg (afV g2).toArray) (bW (by kernel_rfl)) (by rw [hg2] <;> rfl)) ?_;have hM48:ai _ w5:=ai.rfl_;refine jA dr rfl rfl rfl ?_;intro b48 w24 E48 hb48 hk48;have hM49:ai _ w24:=(ai.rfl_.next E48);have ho49p:=ho.kept_from hM49;replace hgs:=fun g hg=>(hgs g hg).from_ hM49
  replace hod:=hod.from_ hM49;refine ft (a0:=w) (news:=afV g2) dr rfl (by decide) rfl ho49p ((((hB.next E7).only O4 (hg7)).next E22).next E48) rfl rfl (fun _=>⟨b48,0,rfl,hk48.whole⟩) (fun h=>by cases h) (j3 g2) (by omega) (by omega) ?_;intro A49 c49 w25 ho49 B49 hg49;refine ass rfl (ah (bA (ae (ab (aa (bz (b:=1) rfl rfl (by omega)) (mvi rfl (ah ?_)))))));refine cd ((i+1,gs++[g2],A49,c49,Qn,qn,qm)) ⟨(by first | rfl | (rw [hqn] <;> rfl)),rfl,(by first | rfl | (refine bP ?_;omega)),trivial⟩ (by (iterate 68 refine bm rfl ?_);exact bO) ⟨?_,?_⟩
  ·refine ⟨by omega,by rw [List.length_append,hgl];rfl,?_,hrn,hnc,hnc9,hnb,by rw [List.flatMap_append];simpa using ho49,fun g hg=>?_,B49⟩
   ·(rw [hcl,hcr,List.map_append,List.append_assoc];try rfl)
   ·rcases List.mem_append.1 hg with hg | hg
    ·exact (hgs g hg).aside ho49p (by decide) hg49
    ·rw [List.mem_singleton.1 hg];exact hod.aside ho49p (by decide) hg49
  ·show fs.length-(i+1)<fs.length-i;omega
 refine dd (bB (bB (cG (ae (ag (ab (mvs rfl (ass rfl (ah (ae (aw (bb (v:=.slice _ _ _) rfl rfl ?_))))))))))));obtain rfl:i=fs.length:=by omega
 rw [List.drop_of_length_le (by rw [aK];exact Nat.le_refl _)] at hcl;exact ⟨⟨A5,c5,_,gs,rfl,hgl.symm,by rw [hcl,cO,List.append_nil],ho,hgs⟩,hB⟩
end Go.Proofs.YtdimnaiiaekngaaDoor
namespace Go.Proofs.YtdimnaiiaekngaaDoor.CM
abbrev W32:=BitVec 32
def s8:List W32→Nat→W32→W32
 |[],_,_=>0#32
 |c::r,i,x=>(if x.getLsbD i then c else 0#32) ^^^ s8 r (i+1) x
structure Add (f:W32→W32):Prop where
 zero:f 0#32=0#32
 add:∀ a b,f (a ^^^ b)=f a ^^^ f b
def te:List W32:=(List.range' 0 32).map fun k=>1#32 <<< k
def rZ (r:W32×W32) (l:List (W32×W32)) (i:Nat):List (W32×W32):=l.map fun p=>if p.1.getLsbD i then (p.1 ^^^ r.1,p.2 ^^^ r.2) else p
def r7:Nat→Nat→List (W32×W32)→List (W32×W32)→List (W32×W32)
 |0,_,done,_=>done
 |n+1,i,done,todo=>
  match todo.find? (fun p=>p.1.getLsbD i) with
  |none=>done
  |some r=>r7 n (i+1) (rZ r done i++[r]) (rZ r (todo.filter fun p=>p.1 != r.1) i)
def rC (f:W32→W32):List W32:=(r7 32 0 [] (te.map fun e=>(f e,e))).map (·.2)
def tm:List W32:=[0,498536548,997073096,651767980,1994146192,1802195444,1303535960,1342533948,3988292384,4027552580,3604390888,3412177804,2607071920,2262029012,2685067896,3183342108]
def tab (i:Nat):W32:=tm.getD i 0
def jU (c:W32):W32:=(c >>> 4) ^^^ tab (c &&& 15#32).toNat
def td (c:W32):W32:=if c &&& 1#32=1#32 then (c >>> 1) ^^^ 3988292384#32 else c >>> 1
theorem ts (a:W32):(a &&& 15#32).toNat<16:=by
 rw [BitVec.toNat_and];exact Nat.lt_of_le_of_lt Nat.and_le_right (by decide)
def lY (c:W32):W32:=jU (jU c)
def tG:W32→W32:=s8 (rC lY) 0
def reg:W32→List Nat→W32
 |c,[]=>c
 |c,b::r=>reg (lY (c ^^^ BitVec.ofNat 32 b)) r
theorem n9:∀ (l m:List Nat) (c:W32),reg c (l++m)=reg (reg c l) m
 |[],_,_=>rfl
 |x::r,m,c=>by simp only [List.cons_append,reg];exact n9 r m _
end Go.Proofs.YtdimnaiiaekngaaDoor.CM
namespace Go.Proofs.YtdimnaiiaekngaaDoor
open Go.Proofs.Tryd (prog)
open Go.RowKit CM
theorem gy (x:BitVec 32):BitVec.ofInt 32 (x.toNat:Int)=x:=by
 rw [BitVec.ofInt_natCast];apply BitVec.eq_of_toNat_eq;rw [BitVec.toNat_ofNat];exact Nat.mod_eq_of_lt x.isLt
theorem jv (x:BitVec 32):IntKind.u32.wrap (x.toNat:Int)=(x.toNat:Int):=by
 have h:=x.isLt;rw [IntKind.wrap_u32'];omega
theorem pw (x y:BitVec 32):bits BinOp.xor IntKind.u32 (x.toNat:Int) (y.toNat:Int)=((x ^^^ y).toNat:Int):=by
 show IntKind.u32.wrap ((BitVec.ofInt 32 (x.toNat:Int) ^^^ BitVec.ofInt 32 (y.toNat:Int)).toNat:Int)=_;rw [gy,gy,jv]
theorem tg (x y:BitVec 32):bits BinOp.and IntKind.u32 (x.toNat:Int) (y.toNat:Int)=((x &&& y).toNat:Int):=by
 show IntKind.u32.wrap ((BitVec.ofInt 32 (x.toNat:Int) &&& BitVec.ofInt 32 (y.toNat:Int)).toNat:Int)=_;rw [gy,gy,jv]
theorem th (x:BitVec 32):bits BinOp.and IntKind.u32 (x.toNat:Int) 15=((x &&& 15#32).toNat:Int):=tg x 15#32
theorem tq (x:BitVec 32):(x.toNat:Int)/16=((x >>> 4).toNat:Int):=by
 rw [BitVec.toNat_ushiftRight,Nat.shiftRight_eq_div_pow];omega
def cQ (w:World):Prop:=∀ i,i<16→w.cell? ⟨1,i,none⟩=some (.int .u32 ((tab i).toNat:Int))
theorem cQ.from_ {w w':World} (h:cQ w) (hw:ai w w'):cQ w':=fun i hi=>(hw.cells _ _ (by
 rcases Nat.lt_or_ge 1 w.heap.size with hlt | hge
 ·exact hlt
 ·have:=h 0 (by omega);unfold World.cell? at this;rw [Array.getElem?_eq_none hge] at this;cases this)).trans (h i hi)
theorem mB (c:BitVec 32) (w:World) (hT:cQ w) :
 Calls prog 63 #[.int .u32 (c.toNat:Int)] w fun e w'=>e=.returned (.int .u32 ((jU c).toNat:Int))∧w=w':=by
 have h15:=ts c;have hT1:=hT _ h15;have e1:=th c;have e2:=tq c;have e3:=pw (c >>> 4) (tab (c &&& 15#32).toNat);rw [←e2] at e3;have hh:jU c=(c >>> 4) ^^^ tab (c &&& 15#32).toNat:=rfl;rw [←hh] at e3;clear hh hT e2
 generalize (jU c).toNat=r at*
 generalize (tab (c &&& 15#32).toNat).toNat=t at*
 generalize (c &&& 15#32).toNat=m at*
 generalize c.toNat=x at*
 have i1:(0:Int)≤(m:Int):=by omega
 have i2:(m:Int)<16:=by omega
 go_enter Tryd.func63,Tryd.ntmps63
 go_wp2
 go_ret
 exact ⟨n8 e3,rfl⟩
theorem pz (g:Nat) (c:BitVec 32) (b:Nat) (w:World) (hb:b<256) (hT:cQ w) (hg:w.cell? ⟨g,0,none⟩=some (.int .u32 (c.toNat:Int))) (hf:w.frozen? ⟨g,0,none⟩=false) :
 Calls prog 59 #[.pointer (some ⟨g,0,none⟩),.int .u8 (b:Int)] w fun e w'=>e=.returned (.tuple #[])∧w'=w.setCell ⟨g,0,none⟩ (.int .u32 ((lY (c ^^^ BitVec.ofNat 32 b)).toNat:Int)):=by
 have e1:=pw c (BitVec.ofNat 32 b);have hbn:((BitVec.ofNat 32 b).toNat:Int)=(b:Int):=by rw [BitVec.toNat_ofNat,Nat.mod_eq_of_lt (by omega)]
 rw [hbn] at e1;have c1:=mB (c ^^^ BitVec.ofNat 32 b) w hT;have c2:=mB (jU (c ^^^ BitVec.ofNat 32 b)) w hT;have hs:lY (c ^^^ BitVec.ofNat 32 b)=jU (jU (c ^^^ BitVec.ofNat 32 b)):=rfl;rw [hs];clear hbn hs hT
 generalize (jU (jU (c ^^^ BitVec.ofNat 32 b))).toNat=r at*
 generalize (jU (c ^^^ BitVec.ofNat 32 b)).toNat=q at*
 generalize (c ^^^ BitVec.ofNat 32 b).toNat=p at*
 generalize c.toNat=x at*
 have C1:=Lib.hid c1;have C2:=Lib.hid c2;clear c1 c2
 go_enter Tryd.func59,Tryd.ntmps59
 go_wp2_with (first
  |(go_at_call 63;(with_reducible refine C1.out.mono ?_);rintro e w1 ⟨rfl,rfl⟩)
  |(go_at_call 63;(with_reducible refine C2.out.mono ?_);rintro e w1 ⟨rfl,rfl⟩))
 go_end0
 exact ⟨rfl,rfl⟩
def CM.Bytes (l:List Nat):Prop:=∀ b∈l,b<256
def qO (s:BitVec 32) (l:List Nat):BitVec 32 := ~~~(reg (~~~s) l)
theorem r1 (x:BitVec 32):bits BinOp.xor IntKind.u32 IntKind.u32.max (x.toNat:Int)=((~~~x).toNat:Int):=by
 have h:=pw (BitVec.allOnes 32) x;have e:((BitVec.allOnes 32).toNat:Int)=IntKind.u32.max:=by decide+kernel
 rw [e,BitVec.allOnes_xor] at h;exact h
def qH (w:World) (ns:BitVec 32) (l:List Nat) (i:Value) (wr:World):Prop:=
 ∃ j:Nat,j≤l.length∧i=.int .i64 j∧ai w wr∧wr.cell? ⟨w.heap.size,0,none⟩=some (.int .u32 ((reg ns (l.take j)).toNat:Int))∧wr.frozen? ⟨w.heap.size,0,none⟩=false
theorem pB {w wr:World} {ns:BitVec 32} {l:List Nat} {j:Nat} (hlt:j<l.length) (hw:ai w wr) {u:Value} (hc:wr.cell? ⟨w.heap.size,0,none⟩=some u) (hf:wr.frozen? ⟨w.heap.size,0,none⟩=false) :
 qH w ns l (.int .i64 ((j:Int)+1)) (wr.setCell ⟨w.heap.size,0,none⟩ (.int .u32 ((reg ns (l.take (j+1))).toNat:Int))):=
 ⟨j+1,by omega,by go_num,hw.set_ (Nat.le_refl _) _,World.cell?_setCell_same wr _ _ hc,by rw [World.frozen?_setCell];exact hf⟩
theorem qN (s:BitVec 32) (v:Value) (l:List Nat) (w:World) (hr:Row w v (aT l)) (hl:CM.Bytes l) (hlen:l.length≤140737488351232) (hT:cQ w) :
 Calls prog 48 #[.int .u32 (s.toNat:Int),v] w fun e w'=>e=.returned (.int .u32 ((qO s l).toNat:Int))∧ai w w':=by
 obtain ⟨A,cap,rfl,hrow⟩:=l6 hr;have hn:=r1 s;have HT:=Lib.hid (fun w' (h:ai w w')=>hT.from_ h);have hres:qO s l = ~~~(reg (~~~s) l):=rfl;rw [hres];clear hres
 generalize ~~~s=ns at*
 have hfin:=r1 (reg ns l)
 generalize ~~~(reg ns l)=out at*
 have HF:=Lib.hid hfin;clear hT hr hfin
 go_enter Tryd.func48,Tryd.ntmps48
 go_wp2
 go_loopw [13] (qH w ns l) (fun i _=>l.length-(intOf i).toNat)
 case atStart=>
  exact ⟨0,by omega,rfl,ai.rfl_.new _,(Blk.new w _ _).cell 0,World.frozen?_alloc_new _ _ _ _⟩
 case round=>
  obtain ⟨j,hj,rfl,hw,hc,hf⟩:=hrel;by_cases hlt:j<l.length
  ·obtain ⟨b,o,rfl,hb,hcell⟩:=hrow (by omega);have d1:=(hw.cells b (o+j) hb).trans (hcell j hlt);have i1:(0:Int)≤(j:Int):=by omega
   have i2:(j:Int)<(l.length:Int):=by omega
   have hx:l[j]<256:=hl _ (List.getElem_mem hlt)
   have hsn:reg ns (l.take (j+1))=lY (reg ns (l.take j) ^^^ BitVec.ofNat 32 l[j]):=by
    rw [List.take_succ_eq_append_getElem hlt,n9];rfl
   have ct:=pz w.heap.size (reg ns (l.take j)) l[j] wr hx (HT.out wr hw) hc hf;rw [←hsn] at ct;have CT:=Lib.hid ct;clear ct hsn hcell hrow hl hn
   generalize l[j]=x at*
   go_wp2_with (go_at_call 59;(with_reducible refine CT.out.mono ?_);rintro e w1 ⟨rfl,rfl⟩)
   go_roundw
   case rel=>exact pB hlt hw hc hf
   case measure=>simp [intOf];omega
  ·obtain hjl:j=l.length:=by omega
   rw [hjl,List.take_length] at hc;clear hj hjl
   generalize (reg ns l).toNat=r at*
   go_wp2
   go_ret
   exact ⟨n8 HF.out,hw⟩
def b8 (c:BitVec 32):Nat→BitVec 32
 |0=>c
 |k+1=>td (b8 c k)
def tz (w:World) (ns:BitVec 32) (l:List Nat) (c i:Value) (wr:World):Prop:=
 ∃ j:Nat,j≤l.length∧i=.int .i64 j∧ai w wr∧c=.int .u32 ((reg ns (l.take j)).toNat:Int)
def tl (w:World) (c0:BitVec 32) (c k:Value) (wr:World):Prop:=
 ∃ q:Nat,q≤8∧k=.int .i64 q∧ai w wr∧c=.int .u32 ((b8 c0 q).toNat:Int)
end Go.Proofs.YtdimnaiiaekngaaDoor
namespace Go.Proofs.YtdimnaiiaekngaaDoor
open Go.Proofs.Tryd (prog)
open Go.RowKit
open Go.ChangeShapes Go.WideShapes Go.ChangeAt
def leB:Nat→Nat→List Nat
 |0,_=>[]
 |k+1,n=>n%256::leB k (n/256)
def leN:List Nat→Nat
 |[]=>0
 |b::l=>b+256*leN l
theorem cD:∀ (k n:Nat),(leB k n).length=k
 |0,_=>rfl
 |k+1,n=>by rw [leB,List.length_cons,cD k]
theorem lG:∀ (k n:Nat),∀ b∈leB k n,b<256
 |0,_,b,h=>by cases h
 |k+1,n,b,h=>by
  rcases List.mem_cons.1 h with rfl | h
  ·exact Nat.mod_lt _ (by decide)
  ·exact lG k _ b h
theorem lF:∀ (k n:Nat),n<256 ^ k→leN (leB k n)=n
 |0,n,h=>by
  have:n=0:=by simpa using h
  rw [this];rfl
 |k+1,n,h=>by
  rw [leB,leN,lF k (n/256) (by rw [Nat.pow_succ] at h;exact Nat.div_lt_of_lt_mul (by omega))];omega
theorem mo:∀ (k n:Nat),leB (k+1) n=leB k n++[n/256 ^ k%256]
 |0,n=>by simp [leB]
 |k+1,n=>by
  rw [leB,mo k (n/256),leB,Nat.div_div_eq_div_mul,Nat.pow_succ',List.cons_append]
theorem oh:∀ (l:List Nat) (x:Nat),leN (l++[x])=leN l+x*256 ^ l.length
 |[],x=>by simp [leN]
 |b::l,x=>by
  have e:256*(x*256 ^ l.length)=x*256 ^ (l.length+1):=by rw [Nat.pow_succ,Nat.mul_left_comm,Nat.mul_comm 256]
  rw [List.cons_append,leN,oh l x,leN,List.length_cons,←e];omega
theorem nA:∀ (l:List Nat),(∀ b∈l,b<256)→leN l<256 ^ l.length
 |[],_=>by decide
 |b::l,h=>by
  have h1:=h b (List.mem_cons_self ..);have h2:=nA l fun x hx=>h x (List.mem_cons_of_mem _ hx)
  rw [leN,List.length_cons,Nat.pow_succ];omega
theorem qf:∀ (l m:List Nat),leN l≤leN (l++m)
 |[],m=>Nat.zero_le _
 |b::l,m=>by
  have:=qf l m;rw [List.cons_append,leN,leN];omega
theorem ss (i:Nat):256 ^ i=2 ^ (8*i):=by rw [show (256:Nat)=2 ^ 8 from rfl,←Nat.pow_mul]
theorem sY {a x i:Nat} (h:a<256 ^ i):a ||| (x*2 ^ (8*i))=a+x*256 ^ i:=by
 rw [ss] at h ⊢;rw [Nat.or_comm,Nat.mul_comm,←Nat.two_pow_add_eq_or_of_lt h];omega
section
variable {P:Program} {ρ:Operand→Value} {w:World} {t yt:TypeId} {x y:Operand}
theorem su {a b:Nat} (ha:a<2 ^ 63) (hb:b<2 ^ 63):Go.bits .or .i64 (a:Int) (b:Int)=((a ||| b:Nat):Int):=by
 have e1:(BitVec.ofInt 64 (a:Int)).toNat=a:=by rw [BitVec.ofInt_natCast,BitVec.toNat_ofNat];exact Nat.mod_eq_of_lt (by omega)
 have e2:(BitVec.ofInt 64 (b:Int)).toNat=b:=by rw [BitVec.ofInt_natCast,BitVec.toNat_ofNat];exact Nat.mod_eq_of_lt (by omega)
 show IntKind.i64.wrap ((BitVec.ofInt 64 (a:Int) ||| BitVec.ofInt 64 (b:Int)).toNat:Int)=_;have h:a ||| b<2 ^ 63:=Nat.or_lt_two_pow ha hb
 rw [BitVec.toNat_or,e1,e2,IntKind.wrap_i64];generalize a ||| b=c at*;omega
theorem sh {a b:Nat} (hx:ρ x=.int .i64 (a:Nat)) (hy:ρ y=.int .i64 (b:Nat)) (h:a<2 ^ 63∧b<2 ^ 63):RO P ρ (.binOp .or t x y yt) w (.int .i64 ((a ||| b:Nat):Int)) w:=by
 have:=sW (P:=P) (ρ:=ρ) (w:=w) (t:=t) (yt:=yt) hx hy;rwa [su h.1 h.2] at this
theorem re {a b:Nat} (hx:ρ x=.int .i64 (a:Nat)) (hy:ρ y=.int .i64 (b:Nat)) (h:b≤63∧a*2 ^ b<2 ^ 63):RO P ρ (.binOp .shl t x y yt) w (.int .i64 ((a*2 ^ b:Nat):Int)) w:=by
 have:=sg (P:=P) (ρ:=ρ) (w:=w) (t:=t) (yt:=yt) hx hy (by omega);have e:min ((b:Nat):Int).toNat IntKind.i64.bits=b:=by rw [Int.toNat_natCast];show min b 64=b;omega
 rw [e,show ((a:Int)*2 ^ b)=((a*2 ^ b:Nat):Int) by rw [Int.natCast_mul,Int.natCast_pow];rfl,IntKind.wrap_i64] at this;have h2:=h.2
 generalize a*2 ^ b=c at*
 rw [show ((c:Int)+9223372036854775808)%18446744073709551616-9223372036854775808=(c:Int) by omega] at this;exact this
end
theorem qR {P:Program} {ops:Array Oper} {Q:Exit→Act→World→Prop} {rest:List Oper} {n:Fr} {L:List (Nat×Value)} {w:World} {t ty:TypeId} {pos:String} {after:Array Edge} {x y:Operand} {g i b:Nat} {u:TypeId} {l:List Nat} (ht:cr P t=some 1) (hx:ev n L x=.pointer (some ⟨g,i,none⟩)) (hy:ev n L y=.int .u8 (b:Nat)) (hb:Blk w g u (aT l).toArray) (hi:i<l.length)
 (k:∀ w',b_ g w w'→Blk w' g u (aT (l.set i b)).toArray→St P ops Q rest n L w'):St P ops Q (⟨none,.store t x y,ty,pos,after,none⟩::rest) n L w:=by
 refine fg ht hx hy rfl hb (by simpa [aT] using hi) fun w' O B=>k w' O ?_
 have e:((aT l).toArray.setIfInBounds i (.int .u8 (b:Nat)))=(aT (l.set i b)).toArray:=by
  apply Array.ext';simp [aT,List.map_set]
 first
  |(rw [e] at B;exact B)
  |(rw [←e];exact B)
theorem q0 {p m r:List Nat} {x:Nat} (y:Nat):(p++m++x::r).set (p.length+m.length) y=p++(m++[y])++r:=by
 rw [←List.length_append,List.set_append_right _ _ (Nat.le_refl _),Nat.sub_self,List.set_cons_zero];simp
theorem pF {P:Program} {ops:Array Oper} {Q:Exit→Act→World→Prop} {rest:List Oper} {n:Fr} {L:List (Nat×Value)} {w:World} {t ty:TypeId} {pos:String} {after:Array Edge} {x y:Operand} {d e by_ m c:Nat} {z:Value} {kl kc:IntKind} (ht:mm P t=some (e,by_,z)) (hz:z.cells=#[z]) (hx:ev n L x=.int kl (m:Nat)) (hy:ev n L y=.int kc (c:Nat)) (hmc:m≤c) (hm:c≤9223372036854775807) (hb:by_*c≤281474976710656)
 (k:∀ g w',ai w w'→g=w.heap.size→Blk w' g e (List.replicate c z).toArray→St P ops Q rest n ((d,.slice (some ⟨g,0,none⟩) m c)::L) w'):St P ops Q (⟨some d,.makeSlice t x y,ty,pos,after,none⟩::rest) n L w:=by
 unfold mm at ht;split at ht
 ·rename_i e' hu;cases hi:P.info? e' with
  |none=>simp [hi] at ht
  |some i=>
   rw [hi] at ht;simp only [Option.bind_some] at ht;split at ht
   ·rename_i hs;cases hzz:i.zero with
    |none=>simp [hzz] at ht
    |some z'=>
     simp only [hzz,Option.map_some,Option.some.injEq,Prod.mk.injEq] at ht;obtain ⟨rfl,rfl,rfl⟩:=ht
     have hr:=run_make (P:=P) w t e' i z' hu hi hzz kl kc (m:Int) (c:Int) (by omega) (by omega) (by
      have:((i.bytes*c:Nat):Int)≤281474976710656:=by omega
      rwa [Int.natCast_mul] at this) (by omega)
     have hcells:madeCells z'.cells ((c:Int).toNat*i.size)=(List.replicate c z').toArray:=by
      rw [hs,Int.toNat_natCast,Nat.mul_one,hz];apply Array.ext_getElem?;intro j;simp only [madeCells,Array.getElem?_map];by_cases hj:j<c
      ·simp [hj,Nat.mod_one]
      ·simp [hj]
     rw [hcells,Int.toNat_natCast] at hr;refine aa (v:=.slice (some ⟨w.heap.size,0,none⟩) m c) (w':=w.alloc (.cells (List.replicate c z').toArray e')) (fun _ _ _ _ _=>?_) (k _ _ (ai.rfl_.new _) rfl (Blk.new w e' _));simp [execOp,hx,hy,hr]
   ·cases ht
 ·cases ht
theorem l_ {P:Program} {ρ:Operand→Value} {w:World} {s x:Operand} {t tx e g m cap:Nat} {str:ByteArray} {cur:List Value} (ht:cH P t=some (e,1)) (htx:P.underlying tx=some .string) (hs:ρ s=.slice (some ⟨g,0,none⟩) m cap) (hx:ρ x=.string str) (hb:Blk w g e cur.toArray) (hroom:m+str.size≤cap) (hfit:m+str.size≤cur.length) :
 ∃ w',RO P ρ (.call { callee:=.builtin .append,args:=#[s,x],argTypes:=#[t,tx] }) w (.slice (some ⟨g,0,none⟩) (m+str.size) cap) w'∧b_ g w w'∧Blk w' g e (cn cur m (aT (dG str))).toArray:=by
 obtain ⟨hu,hsz⟩:=eF ht;obtain ⟨i,hi,hs2⟩:=pA hsz;have hbc:byteCells str=aT (dG str):=by unfold byteCells aT dG;rw [List.map_map];rfl
 have hS:Src P i.size tx (.string str) str.size (byteCells str) w:=by rw [hs2];exact Src.ofString w htx str
 have hl:(byteCells str).length=str.size:=by rw [hbc,aH,cS]
 have hth:=hb.there (m*i.size) (byteCells str).length (by rw [hs2,hl];simpa using hfit);have hrun:=fun ty=>run_append_room_src (P:=P) w t tx ty e i hu hi g 0 m cap (.string str) str.size (byteCells str) hS hroom (fun j hj=>by rw [Nat.zero_add];exact (hth j hj).1) (fun j hj=>by rw [Nat.zero_add];exact (hth j hj).2)
 refine ⟨w.setCells g (0+m*i.size) (byteCells str),fun dst ty pos after gg=>?_,b_.sets _ _ _,?_⟩
 ·unfold execOp;simp only [resolve,invoke,builtin,Sem.run_bind,Sem.run_pure,Result.andThen_ok,List.map_toArray,List.map_cons,List.map_nil,hs,hx,hrun]
 ·rw [←hbc,hs2,Nat.mul_one,Nat.zero_add];exact hb.sets _ _ (by rw [hl];exact hfit)
theorem l3 {P:Program} {ops:Array Oper} {Q:Exit→Act→World→Prop} {rest:List Oper} {n:Fr} {L:List (Nat×Value)} {w:World} {t tx ty:TypeId} {pos:String} {after:Array Edge} {s x:Operand} {d e g m cap:Nat} {str:ByteArray} {cur:List Value} (ht:cH P t=some (e,1)) (htx:P.underlying tx=some .string) (hs:ev n L s=.slice (some ⟨g,0,none⟩) m cap) (hx:ev n L x=.string str) (hb:Blk w g e cur.toArray) (hroom:m+str.size≤cap) (hfit:m+str.size≤cur.length)
 (k:∀ w',b_ g w w'→Blk w' g e (cn cur m (aT (dG str))).toArray→St P ops Q rest n ((d,.slice (some ⟨g,0,none⟩) (m+str.size) cap)::L) w') :
 St P ops Q (⟨some d,.call { callee:=.builtin .append,args:=#[s,x],argTypes:=#[t,tx] },ty,pos,after,none⟩::rest) n L w:=
 let ⟨w',hr,ho,hb'⟩:=l_ ht htx hs hx hb hroom hfit
 aa hr (k w' ho hb')
def fi (a b:Nat) (t:ByteArray):List Nat:=leB 8 a++leB 8 b++dG t
def iM (l:List Nat):Nat:=(qO 0#32 l).toNat
def fT (a b:Nat) (t:ByteArray):List Nat:=leB 4 (iM (fi a b t))++fi a b t
theorem ov (l:List Nat):iM l<256 ^ 4:=(qO 0#32 l).isLt
theorem gf (a b:Nat) (t:ByteArray):(fi a b t).length=16+t.size:=by unfold fi;rw [List.length_append,List.length_append,cD,cD,cS]
theorem im (a b:Nat) (t:ByteArray):(fT a b t).length=20+t.size:=by unfold fT;rw [List.length_append,cD,gf];omega
theorem lL (a b:Nat) (t:ByteArray):∀ x∈fi a b t,x<256:=fun x h=>by
 unfold fi at h;rcases List.mem_append.1 h with h | h
 ·rcases List.mem_append.1 h with h | h
  ·exact lG _ _ x h
  ·exact lG _ _ x h
 ·exact qP t x h
theorem ou (a b:Nat) (t:ByteArray):∀ x∈fT a b t,x<256:=fun x h=>(List.mem_append.1 h).elim (lG _ _ x) (lL a b t x)
def bz0 (k:Nat):List Nat:=List.replicate (20+k) 0
def bz1 (k a:Nat):List Nat:=(bz0 k).take 4++leB 8 a++(bz0 k).drop 12
def bz2 (k a b:Nat):List Nat:=(bz1 k a).take 12++leB 8 b++(bz1 k a).drop 20
def bz3 (a b:Nat) (t:ByteArray):List Nat:=(bz2 t.size a b).take 20++dG t
theorem oA (k:Nat):(bz0 k).length=20+k:=List.length_replicate
theorem oz (k a:Nat):(bz1 k a).length=20+k:=by unfold bz1;rw [List.length_append,List.length_append,cD,List.length_take,List.length_drop,oA];omega
theorem lQ (k a b:Nat):(bz2 k a b).length=20+k:=by unfold bz2;rw [List.length_append,List.length_append,cD,List.length_take,List.length_drop,oz];omega
theorem rN (a b:Nat) (t:ByteArray):(bz3 a b t).length=20+t.size:=by unfold bz3;rw [List.length_append,List.length_take,lQ,cS];omega
theorem sH (k a:Nat):bz1 k a=[0,0,0,0]++leB 8 a++List.replicate (8+k) 0:=by
 unfold bz1 bz0;rw [List.take_replicate,List.drop_replicate,show min 4 (20+k)=4 by omega,show 20+k-12=8+k by omega];rfl
theorem sG (k a b:Nat):bz2 k a b=[0,0,0,0]++leB 8 a++leB 8 b++List.replicate k 0:=by
 unfold bz2;have h12:([0,0,0,0]++leB 8 a).length=12:=by rw [List.length_append,cD];rfl
 rw [sH,List.take_left' h12,show (20:Nat)=12+8 from rfl,←List.drop_drop,List.drop_left' h12,List.drop_replicate,show 8+k-8=k by omega]
theorem qC (a b:Nat) (t:ByteArray):bz3 a b t=[0,0,0,0]++fi a b t:=by
 unfold bz3 fi;have h20:([0,0,0,0]++leB 8 a++leB 8 b).length=20:=by rw [List.length_append,List.length_append,cD,cD];rfl
 rw [sG,List.take_left' h20];simp only [List.append_assoc]
theorem sF (a b:Nat) (t:ByteArray):(bz3 a b t).take 0++leB 4 (iM (fi a b t))++(bz3 a b t).drop (0+4)=fT a b t:=by
 rw [qC];rfl
theorem qB (a b:Nat) (t:ByteArray):cn (aT (bz2 t.size a b)) 20 (aT (dG t))=aT (bz3 a b t):=by
 unfold cn bz3;rw [cJ,aH,cS,List.drop_of_length_le (by rw [aH,lQ];exact Nat.le_refl _),List.append_nil];unfold aT;rw [List.map_take]
theorem pP {w:World} {g c o n:Nat} {p r:List Nat} (h:Blk w g 5 (aT (p++r)).toArray) (ho:p.length=o) (hn:n=r.length):Row w (.slice (some ⟨g,o,none⟩) n c) (aT r):=by
 subst ho hn;refine ⟨_,c,by rw [aH],fun _=>⟨g,p.length,rfl,h.lt,fun i u hu=>?_⟩⟩;refine h.rd (p.length+i) ?_;rw [List.getElem?_toArray,cJ,List.getElem?_append_right (by rw [aH];omega),aH,Nat.add_sub_cancel_left];exact hu
theorem RB.tail {w:World} {A:Option Addr} {c:Nat} {p r:List Nat} (h:RB w A c (p++r)):RB w (dH A c p.length 1) (c-p.length) r:=by
 have hl:=h.le;rw [List.length_append] at hl;refine ⟨by omega,by have:=h.mx;omega,fun h0=>?_,fun b hb=>h.bt b (List.mem_append_right _ hb)⟩;obtain ⟨b,o,rfl,hr⟩:=h.at_ (by rw [List.length_append];omega);refine ⟨b,o+p.length*1,bN (by omega),fun j v hj=>?_⟩;have:=hr (p.length+j) v (by rw [cJ,List.getElem?_append_right (by rw [aH];omega),aH,Nat.add_sub_cancel_left];exact hj);rw [Nat.mul_one,Nat.add_assoc];exact this
theorem RB.rowR {w:World} {A:Option Addr} {c n:Nat} {l:List Nat} (h:RB w A c l) (hn:n=l.length):Row w (.slice A n c) (aT l):=by
 subst hn;refine ⟨A,c,by rw [aH],fun h0=>?_⟩;obtain ⟨b,o,rfl,hr⟩:=h.at_ (by rwa [aH] at h0);exact ⟨b,o,rfl,World.block_lt_of_cell? _ _ (hr 0 _ (List.getElem?_eq_getElem h0)),fun i u hu=>hr i u hu⟩
theorem rX {A:Option Addr} {c n:Nat} {l:List Nat} {w:World} (hr:Row w (.slice A n c) (aT l)) (hl:∀ b∈l,b<256) (hlen:l.length≤140737488351232) (hT:cQ w):Rt prog 48 [.int .u32 0,.slice A n c] w fun v w'=>v=.int .u32 ((iM l:Nat):Int)∧ai w w':=
 Calls.mono (qN 0#32 _ l w hr hl hlen hT) fun _ _ ⟨he,hF⟩=>⟨_,he,rfl,hF⟩
end Go.Proofs.YtdimnaiiaekngaaDoor
namespace Go.Proofs.YtdimnaiiaekngaaDoor
open Go.Proofs.Tryd (prog)
open Go.RowKit
open Go.ChangeShapes Go.WideShapes Go.ChangeAt
theorem o9:cr prog 5=some 1:=by kernel_rfl
theorem pb:prog.underlying 5=some (.int .u8):=by kernel_rfl
theorem pd:fj prog 5=some false:=by kernel_rfl
theorem o_:(prog.underlying 5).isSome=true:=by kernel_rfl
theorem fF (g o k c n:Nat) (l:List Nat) (w:World) (hb:Blk w g 5 (aT l).toArray) (hok:o+k≤l.length) (hk:k≤8) (_:n<9223372036854775808) :
 Rt prog 54 [.slice (some ⟨g,o,none⟩) k c,.int .i64 (n:Nat)] w (fun v w'=>v=.tuple #[]∧Blk w' g 5 (aT (l.take o++leB k n++l.drop (o+k))).toArray∧b_ g w w'):=by
 refine enter (n:=19) Tryd.func54 rfl rfl rfl (ag (ab (mvs rfl (aa (bC cq rfl) (mvi rfl (ah (ae (bu (dJ (G:=Nat) [4,8,9,10,11,12,13,14,15,16,17,18] (fun i=>[(7,.int .i64 (i:Nat))]) (fun i w'=>i≤k∧Blk w' g 5 (aT (l.take o++leB i n++l.drop (o+i))).toArray∧b_ g w w') (fun i=>k-i) (0) ⟨rfl,trivial⟩ ?_ ?_)))))))))
 ·exact ⟨Nat.zero_le _,by rw [leB,List.append_nil,Nat.add_zero,List.take_append_drop];exact hb,b_.rfl_⟩
 rintro i ρ1 w1 ⟨hi,hbi,hO⟩;refine ag (ab (aa (cv rfl rfl) (ah (ae (ag (tc rfl (fun Q2=>?_) (fun Q2=>?_)))))))
 ·obtain ⟨x0,hdr⟩:∃ x,l.drop (o+i)=x::l.drop (o+i+1):=⟨l[o+i],List.drop_eq_getElem_cons (by omega)⟩;refine aC (ae (ag (bu (ag (ab (mvi rfl (asi rfl (ah (ae (ab (mvs rfl (mvi rfl (mvi rfl (mvi rfl (aa (lA (a:=8) rfl rfl (by omega)) ?_)))))))))))))));refine aa (n3 rfl rfl (by show 8*i≤64;omega)) ?_;refine aa (pV iz pb rfl) (aa (dv bF rfl rfl (by omega)) (qR (b:=n/256 ^ i%256) o9 rfl (by rw [ss];rfl) hbi (by rw [List.length_append,List.length_append,List.length_take,List.length_drop,cD];omega) ?_));intro w3 O3 P3;refine ah (bA (ae (ab (aa (bz (b:=1) rfl rfl (by omega)) (mvi rfl (ah ?_))))));refine cd (i+1) ⟨(by first | rfl | (refine bP ?_;omega)),trivial⟩ (by (iterate 26 refine bm rfl ?_);exact bO) ⟨?_,?_⟩
  ·refine ⟨by omega,?_,hO.trans O3⟩;rw [mo];have e1:o+i=(l.take o).length+(leB i n).length:=by rw [List.length_take,cD];omega
   have h1:=q0 (p:=l.take o) (m:=leB i n) (x:=x0) (r:=l.drop (o+i+1)) (n/256 ^ i%256);rw [←e1] at h1;rw [hdr,h1] at P3;rw [show o+(i+1)=o+i+1 by omega];exact P3
  ·show k-(i+1)<k-i;omega
 refine dd (bB (bB (cG (lK (sq rfl ?_)))));obtain rfl:i=k:=by omega
 exact ⟨rfl,hbi,hO⟩
theorem oX (A:Option Addr) (c k:Nat) (l:List Nat) (w:World) (hr:RB w A c l) (hk:k=l.length) (hk8:l.length≤7∨leN l<9223372036854775808∧l.length≤8) :
 Rt prog 47 [.slice A k c] w (fun v w'=>v=.int .i64 (leN l:Nat)∧w=w'):=by
 subst hk
 have hlt:leN l<9223372036854775808:=by
  rcases hk8 with h | h
  ·have h1:=nA l hr.bt;have h2:256 ^ l.length≤256 ^ 7:=Nat.pow_le_pow_right (by decide) h;have h3:(256:Nat) ^ 7=72057594037927936:=by decide
   omega
  ·exact h.1
 refine enter (n:=22) Tryd.func47 rfl rfl rfl (ag (ab (asi rfl (ah (ae (ag (ab (asi rfl (ah (ae (ag (ag (ab (mvs rfl (aa (bC cq rfl) (mvi rfl ?_))))))))))))))));refine ah (ae (bu (dJ (G:=Nat) [4,5,9,10,11,12,13,14,15,16,17,18,19,20] (fun i=>[(3,.int .i64 (leN (l.take i):Nat)),(8,.int .i64 (i:Nat))]) (fun i w'=>i≤l.length∧w=w') (fun i=>l.length-i) (0) ⟨rfl,rfl,trivial⟩ ?_ ?_)))
 ·exact ⟨Nat.zero_le _,rfl⟩
 rintro i ρ1 w1 ⟨hi,rfl⟩;refine ag (ab (aa (cv rfl rfl) (ah (ae (ag (tc rfl (fun Q2=>?_) (fun Q2=>?_)))))))
 ·have hil:i<l.length:=by omega
  obtain ⟨ba,oa,rfl,hca⟩:=hr.at_ (by omega);have hx9:=hca i (.int .u8 ((l[i]:Nat):Int)) (by unfold aT;rw [List.getElem?_map,List.getElem?_eq_getElem hil];rfl);have hxb:=hr.bt _ (List.getElem_mem hil);have hts:leN (l.take (i+1))=leN (l.take i)+l[i]*256 ^ i:=by rw [List.take_succ_eq_append_getElem hil,oh,List.length_take,Nat.min_eq_left (by omega)]
  have hle:leN (l.take (i+1))≤leN l:=by have:=qf (l.take (i+1)) (l.drop (i+1));rwa [List.take_append_drop] at this
  have hlo:leN (l.take i)<256 ^ i:=by have:=nA (l.take i) (fun b hb=>hr.bt b (List.mem_of_mem_take hb));rwa [List.length_take,Nat.min_eq_left (by omega)] at this
  have hp:=ss i;have hs19:leN (l.take (i+1))=leN (l.take i) ||| (l[i]*2 ^ (8*i)):=by rw [sY hlo,hts]
  have hsm:l[i]*2 ^ (8*i)<2 ^ 63:=by rw [←hp];omega
  refine aC (ae (ag (bu (ag (ab (mvi rfl (aa (dv bF rfl rfl (by omega)) (aa (ao pd rfl (by exact hx9)) ?_))))))));refine asi rfl (asi rfl (ah (ae (ab (mvi rfl (mvi rfl (aa (fY o_ gx rfl (by omega)) (mvi rfl (aa (lA (a:=8) rfl rfl (by omega)) (aa (re rfl rfl ⟨by omega,hsm⟩) ?_))))))))));refine aa (sh rfl rfl ⟨by show leN (l.take i)<9223372036854775808;omega,hsm⟩) ?_;refine asi rfl (ah (bA (ae (ab (aa (bz (b:=1) rfl rfl (by omega)) (mvi rfl (ah ?_)))))));refine cd (i+1) ⟨(by rw [hs19];rfl),(by first | rfl | (refine bP ?_;omega)),trivial⟩ (by (iterate 32 refine bm rfl ?_);exact bO) ⟨?_,?_⟩
  ·exact ⟨by omega,rfl⟩
  ·show l.length-(i+1)<l.length-i;omega
 refine dd (bB (bB (cG (ae (ag (ab (mvi rfl (asi rfl (ah (ae (aw (bb (v:=.int _ _) rfl rfl ?_))))))))))));obtain rfl:i=l.length:=by omega
 rw [List.take_length];exact ⟨rfl,rfl⟩
theorem dL:bQ prog 55 0=some 0:=by kernel_rfl
theorem gY:aI prog 37=true:=by kernel_rfl
theorem dq:bQ prog 55 1=some 1:=by kernel_rfl
theorem dK:bQ prog 55 2=some 2:=by kernel_rfl
def inT (n:Int):Bool:=decide (0≤n)&&decide (n<1099511627776)
def bK (a b:Int) (t:ByteArray):Bool:=inT a&&(decide (0≤b)&&(decide (b≤7)&&(t.toList==(⟨#[]⟩:ByteArray).toList)))
def cg (a b:Int) (t:ByteArray):Bool:=inT a&&(inT b&&decide ((t.size:Int)≤524288))
def ntV (a b:Int) (t:ByteArray):List Value:=[.int .i64 a,.int .i64 b,.string t]
theorem lI {n:Int}:inT n=true↔0≤n∧n<1099511627776:=by unfold inT;simp
theorem iK (n:Int) (w:World) :
 Rt prog 37 [.int .i64 n] w (fun v w'=>v=.bool (inT n)∧w=w'):=by
 refine enter (n:=9) Tryd.func37 rfl rfl rfl (ag (ab (asb rfl (ah (ae (ag (ab (mvi rfl (aa (gT rfl rfl) (mvb rfl (sO (t:=5) rfl (fun Q1=>?_) (fun Q1=>?_))))))))))))
 ·refine ak rfl (mvi rfl (ak rfl (aa (cv rfl rfl) (aa (aG (v:=.bool _) rfl rfl) (asb rfl (ah (ae (aw (bb (v:=.bool _) rfl rfl ?_)))))))));exact ⟨congrArg Value.bool (by unfold inT;first | (simp_all;done) | (rw [Bool.eq_iff_iff];simp_all;omega) | (rw [Bool.eq_iff_iff];simp_all;done)),rfl⟩
 refine aq rfl rfl (aq rfl rfl (aa (aF (v:=.bool _) rfl rfl) (asb rfl (ah (ae (aw (bb (v:=.bool _) rfl rfl ?_)))))));exact ⟨congrArg Value.bool (by unfold inT;first | (simp_all;done) | (rw [Bool.eq_iff_iff];simp_all;omega) | (rw [Bool.eq_iff_iff];simp_all;done)),rfl⟩
theorem fH (n:Int) (w:World) :
 Rt prog 27 [.int .i64 n] w (fun v w'=>v=.bool (inT n)∧w=w'):=by
 refine enter (n:=9) Tryd.func27 rfl rfl rfl (ag (ab (asb rfl (ah (ae (ag (ab (mvi rfl (aa (gT rfl rfl) (mvb rfl (sO (t:=5) rfl (fun Q1=>?_) (fun Q1=>?_))))))))))))
 ·refine ak rfl (mvi rfl (ak rfl (aa (cv rfl rfl) (aa (aG (v:=.bool _) rfl rfl) (asb rfl (ah (ae (aw (bb (v:=.bool _) rfl rfl ?_)))))))));exact ⟨congrArg Value.bool (by unfold inT;first | (simp_all;done) | (rw [Bool.eq_iff_iff];simp_all;omega) | (rw [Bool.eq_iff_iff];simp_all;done)),rfl⟩
 refine aq rfl rfl (aq rfl rfl (aa (aF (v:=.bool _) rfl rfl) (asb rfl (ah (ae (aw (bb (v:=.bool _) rfl rfl ?_)))))));exact ⟨congrArg Value.bool (by unfold inT;first | (simp_all;done) | (rw [Bool.eq_iff_iff];simp_all;omega) | (rw [Bool.eq_iff_iff];simp_all;done)),rfl⟩
theorem bn (a b:Int) (t:ByteArray) (w:World) :
 Rt prog 23 [.agg (ntV a b t).toArray] w (fun v w'=>v=.bool (bK a b t)∧ai w w'):=by
 refine enter (n:=21) Tryd.func23 rfl rfl rfl (ag (ab (de (v:=.agg _) rfl ?_)));intro b1 w1 E1 hb1 hk1;refine asb rfl (ah (ae (ag (ab (aa (af dL rfl) (aa (ao aL rfl (by exact hk1.rd 0 rfl)) ?_))))));refine av gY (iK a _) ?_;rintro v5 w2 ⟨rfl,rfl⟩;refine mvb rfl (aS (t:=6) rfl (fun Q3=>?_) (fun Q3=>?_))
 ·(try with_reducible first | (replace Q3 := dT_ Q3; trace "@MK N bn:g6+ 1.1") | (replace Q3 := dF_ Q3; trace "@MK N bn:g6+ 1.2") | (replace Q3 := ef Q3; trace "@MK N bn:g6+ 1.3") | (replace Q3 := eh Q3; trace "@MK N bn:g6+ 1.4"))
  (try with_reducible first | (replace Q3 := dT_ Q3; trace "@MK N bn:g6+ 2.1") | (replace Q3 := dF_ Q3; trace "@MK N bn:g6+ 2.2") | (replace Q3 := fz Q3; trace "@MK N bn:g6+ 2.3") | (replace Q3 := fA Q3; trace "@MK N bn:g6+ 2.4") | (replace Q3 := gi Q3; trace "@MK N bn:g6+ 2.5") | (replace Q3 := gj Q3; trace "@MK N bn:g6+ 2.6"))
  refine ak rfl (aa (af dq rfl) (ak rfl (aa (ao aL rfl (by exact hk1.rd 1 rfl)) ?_)));refine ak rfl (aa (gT rfl rfl) (aa (aG (v:=.bool _) rfl rfl) (mvb rfl (sO (t:=11) rfl (fun Q4=>?_) (fun Q4=>?_)))))
  ·refine ak rfl (aa (af dq rfl) (ak rfl (aa (ao aL rfl (by exact hk1.rd 1 rfl)) ?_)));refine ak rfl (aa (jF rfl rfl) (aa (aG (v:=.bool _) rfl rfl) (mvb rfl (sO (t:=16) rfl (fun Q5=>?_) (fun Q5=>?_)))))
   ·refine ak rfl (aa (af dK rfl) (ak rfl (aa (ao a7 rfl (by exact hk1.rd 2 rfl)) ?_)));refine ak rfl (aa (gD rfl rfl) (aa (aG (v:=.bool _) rfl rfl) (asb rfl (ah (ae (aw (bb (v:=.bool _) rfl rfl ?_)))))));exact ⟨congrArg Value.bool (by unfold bK;first | (simp_all;done) | (rw [Bool.eq_iff_iff];simp_all;omega) | (rw [Bool.eq_iff_iff];simp_all;done)),(ai.rfl_.next E1)⟩
   refine aq rfl rfl (aq rfl rfl (aq rfl rfl (aa (aF (v:=.bool _) rfl rfl) (asb rfl (ah (ae (aw (bb (v:=.bool _) rfl rfl ?_))))))));exact ⟨congrArg Value.bool (by unfold bK;first | (simp_all;done) | (rw [Bool.eq_iff_iff];simp_all;omega) | (rw [Bool.eq_iff_iff];simp_all;done)),(ai.rfl_.next E1)⟩
  refine aq rfl rfl (aq rfl rfl (aq rfl rfl (aa (aF (v:=.bool _) rfl rfl) (mvb rfl (aq rfl rfl (aq rfl rfl (aq rfl rfl (aa (aF (v:=.bool _) rfl rfl) ?_))))))));refine asb rfl (ah (ae (aw (bb (v:=.bool _) rfl rfl ?_))));exact ⟨congrArg Value.bool (by unfold bK;first | (simp_all;done) | (rw [Bool.eq_iff_iff];simp_all;omega) | (rw [Bool.eq_iff_iff];simp_all;done)),(ai.rfl_.next E1)⟩
 (try with_reducible first | (replace Q3 := dT_ Q3; trace "@MK N bn:g6- 1.1") | (replace Q3 := dF_ Q3; trace "@MK N bn:g6- 1.2") | (replace Q3 := ef Q3; trace "@MK N bn:g6- 1.3") | (replace Q3 := eh Q3; trace "@MK N bn:g6- 1.4"))
 (try with_reducible first | (replace Q3 := dT_ Q3; trace "@MK N bn:g6- 2.1") | (replace Q3 := dF_ Q3; trace "@MK N bn:g6- 2.2") | (replace Q3 := fz Q3; trace "@MK N bn:g6- 2.3") | (replace Q3 := fA Q3; trace "@MK N bn:g6- 2.4") | (replace Q3 := gi Q3; trace "@MK N bn:g6- 2.5") | (replace Q3 := gj Q3; trace "@MK N bn:g6- 2.6"))
 refine aq rfl rfl (aq rfl rfl (aq rfl rfl (aa (aF (v:=.bool _) rfl rfl) (mvb rfl (aq rfl rfl (aq rfl rfl (aq rfl rfl (aa (aF (v:=.bool _) rfl rfl) ?_))))))));refine mvb rfl (aq rfl rfl (aq rfl rfl (aq rfl rfl (aa (aF (v:=.bool _) rfl rfl) (asb rfl (ah (ae (aw (bb (v:=.bool _) rfl rfl ?_)))))))));exact ⟨congrArg Value.bool (by unfold bK;first | (simp_all;done) | (rw [Bool.eq_iff_iff];simp_all;omega) | (rw [Bool.eq_iff_iff];simp_all;done)),(ai.rfl_.next E1)⟩
theorem aA (a b:Int) (t:ByteArray) (w:World) (_:t.size≤140737488351232) :
 Rt prog 24 [.agg (ntV a b t).toArray] w (fun v w'=>v=.bool (cg a b t)∧ai w w'):=by
 refine enter (n:=17) Tryd.func24 rfl rfl rfl (ag (ab (de (v:=.agg _) rfl ?_)));intro b1 w1 E1 hb1 hk1;refine asb rfl (ah (ae (ag (ab (aa (af dL rfl) (aa (ao aL rfl (by exact hk1.rd 0 rfl)) ?_))))));refine av gY (iK a _) ?_;rintro v5 w2 ⟨rfl,rfl⟩;refine mvb rfl (aS (t:=6) rfl (fun Q3=>?_) (fun Q3=>?_))
 ·(try with_reducible first | (replace Q3 := dT_ Q3; trace "@MK N aA:g6+ 1.1") | (replace Q3 := dF_ Q3; trace "@MK N aA:g6+ 1.2") | (replace Q3 := ef Q3; trace "@MK N aA:g6+ 1.3") | (replace Q3 := eh Q3; trace "@MK N aA:g6+ 1.4"))
  (try with_reducible first | (replace Q3 := dT_ Q3; trace "@MK N aA:g6+ 2.1") | (replace Q3 := dF_ Q3; trace "@MK N aA:g6+ 2.2") | (replace Q3 := fz Q3; trace "@MK N aA:g6+ 2.3") | (replace Q3 := fA Q3; trace "@MK N aA:g6+ 2.4") | (replace Q3 := gi Q3; trace "@MK N aA:g6+ 2.5") | (replace Q3 := gj Q3; trace "@MK N aA:g6+ 2.6"))
  refine ak rfl (aa (af dq rfl) (ak rfl (aa (ao aL rfl (by exact hk1.rd 1 rfl)) ?_)));refine ak rfl (av gY (iK b _) ?_);rintro v9 w4 ⟨rfl,rfl⟩;refine aa (aG (v:=.bool _) rfl rfl) (mvb rfl (aS (t:=11) rfl (fun Q5=>?_) (fun Q5=>?_)))
  ·(try with_reducible first | (replace Q5 := dT_ Q5; trace "@MK N aA:g6+.g11+ 1.1") | (replace Q5 := dF_ Q5; trace "@MK N aA:g6+.g11+ 1.2") | (replace Q5 := ef Q5; trace "@MK N aA:g6+.g11+ 1.3") | (replace Q5 := eh Q5; trace "@MK N aA:g6+.g11+ 1.4"))
   (try with_reducible first | (replace Q5 := dT_ Q5; trace "@MK N aA:g6+.g11+ 2.1") | (replace Q5 := dF_ Q5; trace "@MK N aA:g6+.g11+ 2.2") | (replace Q5 := fz Q5; trace "@MK N aA:g6+.g11+ 2.3") | (replace Q5 := fA Q5; trace "@MK N aA:g6+.g11+ 2.4") | (replace Q5 := gi Q5; trace "@MK N aA:g6+.g11+ 2.5") | (replace Q5 := gj Q5; trace "@MK N aA:g6+.g11+ 2.6"))
   refine ak rfl (aa (af dK rfl) (ak rfl (aa (ao a7 rfl (by exact hk1.rd 2 rfl)) ?_)));refine ak rfl (aa (gC (by kernel_rfl) rfl) (ak rfl (aa (jF rfl rfl) (aa (aG (v:=.bool _) rfl rfl) (asb rfl (ah (ae (aw (bb (v:=.bool _) rfl rfl ?_)))))))));exact ⟨congrArg Value.bool (by unfold cg;first | (simp_all;done) | (rw [Bool.eq_iff_iff];simp_all;omega) | (rw [Bool.eq_iff_iff];simp_all;done)),(ai.rfl_.next E1)⟩
  (try with_reducible first | (replace Q5 := dT_ Q5; trace "@MK N aA:g6+.g11- 1.1") | (replace Q5 := dF_ Q5; trace "@MK N aA:g6+.g11- 1.2") | (replace Q5 := ef Q5; trace "@MK N aA:g6+.g11- 1.3") | (replace Q5 := eh Q5; trace "@MK N aA:g6+.g11- 1.4"))
  (try with_reducible first | (replace Q5 := dT_ Q5; trace "@MK N aA:g6+.g11- 2.1") | (replace Q5 := dF_ Q5; trace "@MK N aA:g6+.g11- 2.2") | (replace Q5 := fz Q5; trace "@MK N aA:g6+.g11- 2.3") | (replace Q5 := fA Q5; trace "@MK N aA:g6+.g11- 2.4") | (replace Q5 := gi Q5; trace "@MK N aA:g6+.g11- 2.5") | (replace Q5 := gj Q5; trace "@MK N aA:g6+.g11- 2.6"))
  refine aq rfl rfl (aq rfl rfl (aq rfl rfl (aq rfl rfl (aa (aF (v:=.bool _) rfl rfl) (asb rfl (ah (ae (aw (bb (v:=.bool _) rfl rfl ?_)))))))));exact ⟨congrArg Value.bool (by unfold cg;first | (simp_all;done) | (rw [Bool.eq_iff_iff];simp_all;omega) | (rw [Bool.eq_iff_iff];simp_all;done)),(ai.rfl_.next E1)⟩
 (try with_reducible first | (replace Q3 := dT_ Q3; trace "@MK N aA:g6- 1.1") | (replace Q3 := dF_ Q3; trace "@MK N aA:g6- 1.2") | (replace Q3 := ef Q3; trace "@MK N aA:g6- 1.3") | (replace Q3 := eh Q3; trace "@MK N aA:g6- 1.4"))
 (try with_reducible first | (replace Q3 := dT_ Q3; trace "@MK N aA:g6- 2.1") | (replace Q3 := dF_ Q3; trace "@MK N aA:g6- 2.2") | (replace Q3 := fz Q3; trace "@MK N aA:g6- 2.3") | (replace Q3 := fA Q3; trace "@MK N aA:g6- 2.4") | (replace Q3 := gi Q3; trace "@MK N aA:g6- 2.5") | (replace Q3 := gj Q3; trace "@MK N aA:g6- 2.6"))
 refine aq rfl rfl (aq rfl rfl (aq rfl rfl (aa (aF (v:=.bool _) rfl rfl) (mvb rfl (aq rfl rfl (aq rfl rfl (aq rfl rfl (aq rfl rfl ?_))))))));refine aa (aF (v:=.bool _) rfl rfl) (asb rfl (ah (ae (aw (bb (v:=.bool _) rfl rfl ?_)))));exact ⟨congrArg Value.bool (by unfold cg;first | (simp_all;done) | (rw [Bool.eq_iff_iff];simp_all;omega) | (rw [Bool.eq_iff_iff];simp_all;done)),(ai.rfl_.next E1)⟩
theorem gu:aI prog 54=true:=by kernel_rfl
theorem nQ:prog.underlying 9=some .string:=by kernel_rfl
theorem ja:aI prog 48=true:=by kernel_rfl
theorem ix:(prog.underlying 101).isSome=true:=by kernel_rfl
theorem oH (s:ByteArray):lW (dG s)=s:=by
 unfold lW dG;rw [List.map_map,show (UInt8.ofNat ∘ fun x:UInt8=>x.toNat)=id from funext fun x=>UInt8.ofNat_toNat,List.map_id]
theorem rb {P:Program} {n:Fr} {L:List (Nat×Value)} {w:World} {t:TypeId} {x y:Operand} {g:Nat} {u:TypeId} {cs:Array Value} {vs:List Value} (ht:cr P t=some vs.length) (hx:ev n L x=.pointer (some ⟨g,0,none⟩)) (hy:ev n L y=.agg vs.toArray) (h1:∀ v∈vs,v.oneCell'=true) (hb:Blk w g u cs) (hi:vs.length=cs.size) :
 ∃ w',RS P (ev n L) (.store t x y) w w'∧b_ g w w'∧Blk w' g u vs.toArray:=by
 have hb':Blk w g u cs.toList.toArray:=by simpa using hb
 refine ⟨_,kL ht hx hy h1 (hb'.there 0 vs.length (by simp;omega)),b_.sets vs 0 w,?_⟩;have:=Blk.sets vs 0 hb' (by simp;omega)
 rwa [mf cs.toList vs (by simp;omega)] at this
theorem RB.tailN {w:World} {A:Option Addr} {c k:Nat} {p r:List Nat} (h:RB w A c (p++r)) (hk:p.length=k):RB w (dH A c k 1) (c-k) r:=by subst hk;exact h.tail
theorem lD (A:Option Addr) (c m k n:Nat) (w:World) (hr:RB w A c (leB k n)) (hm:m=k) (hk:k≤8) (hn:n<9223372036854775808) (hp:n<256 ^ k):Rt prog 47 [.slice A m c] w fun v w'=>v=.int .i64 (n:Nat)∧w=w':=by
 have h:=oX A c m (leB k n) w hr (by rw [cD];exact hm) (.inr ⟨by rw [lF k n hp];exact hn,by rw [cD];exact hk⟩)
 rwa [lF k n hp] at h
theorem p8 {n:Nat} (h:n<9223372036854775808):n<256 ^ 8:=by
 have h8:(256:Nat) ^ 8=18446744073709551616:=by decide
 omega
theorem ow (l:List Nat):iM l<9223372036854775808:=by
 have h8:(256:Nat) ^ 4=4294967296:=by decide
 have:=ov l;omega
theorem qD (a b:Nat) (t:ByteArray) (w:World) (ha:a<9223372036854775808) (hb:b<9223372036854775808) (ht:t.size≤1000000) (hT:cQ w) :
 Rt prog 41 [.agg (ntV (a:Nat) (b:Nat) t).toArray] w (fun v w'=>(∃ g,v=.slice (some ⟨g,0,none⟩) (20+t.size) (20+t.size)∧w.heap.size≤g∧Blk w' g 5 (aT (fT a b t)).toArray)∧ai w w'):=by
 refine enter (n:=31) Tryd.func41 rfl rfl rfl (ag (ab (de (v:=.agg _) rfl ?_)));intro b1 w1 E1 hb1 hk1;refine ass rfl (ah (ae (ag (ab (aa (af dK rfl) (aa (ao a7 rfl (by exact hk1.rd 2 rfl)) ?_))))));refine aa (gC (by kernel_rfl) rfl) (aa (bz (a:=20) rfl rfl (by omega)) (pF (m:=20) (c:=20+t.size) je rfl rfl rfl (by omega) (by omega) (by omega) ?_));intro b8 w2 E8 hb8 hk8x
 have hk8:Blk w2 b8 5 (aT (bz0 t.size)).toArray:=by
  have e:(aT (bz0 t.size)).toArray=(List.replicate (20+t.size) (Value.int .u8 0)).toArray:=by unfold aT bz0;rw [List.map_replicate];rfl
  rw [e];exact hk8x
 have hg8:w.heap.size≤b8:=by rw [hb8];exact ((ai.rfl_.next E1)).size
 have hb1n:b1≠b8:=by have:=hk1.lt;omega
 replace hk1:=hk1.from_ E8;refine ass rfl (ah (ae (ag ?_)));apply fL [(0,9,fun _ v _=>v=_),(1,10,fun _ v _=>v=_),(2,11,fun _ v _=>v=_),(3,12,fun _ v _=>v=_),(4,13,fun _ v _=>v=_)] [4] (fun S w'=>(S 4=false→ai w2 w')∧(S 4=true→Blk w' b8 5 (aT (bz1 t.size a)).toArray∧Blk w' b1 55 (ntV (a:Nat) (b:Nat) t).toArray∧ai w w')) (by kernel_rfl) (by kernel_rfl) rfl rfl ⟨fun _ _ _ _ _ _ _ h=>h,fun _ _ _ _ _ _ _ h=>h,fun _ _ _ _ _ _ _ h=>h,fun _ _ _ _ _ _ _ h=>h,fun _ _ _ _ _ _ _ h=>h,trivial⟩ (fun S i w1 w2 hq hF h=>⟨fun h0=>(h.1 (jB h0)).next hF,fun h1=>(fun h=>⟨h.1.from_ hF,h.2.1.from_ hF,h.2.2.next hF⟩) (h.2 (ky (show 4≠i by rintro rfl;exact absurd hq (by decide)) h1))⟩) ⟨fun _=>ai.rfl_.d1,fun h=>by cases h⟩
 case hstep=>
  constructor
  ·rintro S L' w3 hU hmo hme hI hM hC hS ⟨-⟩;have hS0:S 4=false:=(ay hC (j:=4) rfl (by kernel_rfl) (ay hC (j:=1) rfl (by kernel_rfl) hS));have hM3:=hM.1 hS0;have e3:=hI.1 3 (eO rfl);exact aO [(3,_)] hU hmo hme hI hM (.head _) rfl rfl (by kernel_rfl) ⟨e3,trivial⟩ (aB (v:=.slice _ _ _) rfl) ai.rfl_ (rfl)
  constructor
  ·rintro S L' w4 hU hmo hme hI hM hC hS ⟨d0,-⟩;have hS0:S 4=false:=(ay hC (j:=4) rfl (by kernel_rfl) hS);have hM4:=hM.1 hS0;obtain ⟨v4_9,e9,h9⟩:=hI.get (i:=0) (.head _) d0;obtain rfl:=h9;exact aO [(9,_)] hU hmo hme hI hM (.tail _ (.head _)) rfl rfl (by kernel_rfl) ⟨e9,trivial⟩ (cw (v':=.slice (some ⟨b8,4,none⟩) (8) ((20+t.size)-4)) (bj (l:=4) (h:=12) bF rfl (.inr ⟨_,_,_,rfl,rfl,rfl⟩) (.inr ⟨_,_,_,rfl,rfl,rfl⟩) (by omega) (by omega)) (by first | (rw [bN (by omega)];done) | (rw [bN (by omega)];rfl))) ai.rfl_ (rfl)
  constructor
  ·rintro S L' w5 hU hmo hme hI hM hC hS ⟨-⟩;have hS0:S 4=false:=(ay hC (j:=4) rfl (by kernel_rfl) (ay hC (j:=3) rfl (by kernel_rfl) hS));have hM5:=hM.1 hS0;have e1:=hI.1 1 (eO rfl);exact aO [(1,_)] hU hmo hme hI hM (.tail _ (.tail _ (.head _))) rfl rfl (by kernel_rfl) ⟨e1,trivial⟩ (af dL rfl) ai.rfl_ (rfl)
  constructor
  ·rintro S L' w6 hU hmo hme hI hM hC hS ⟨d2,-⟩;have hS0:S 4=false:=(ay hC (j:=4) rfl (by kernel_rfl) hS);have hM6:=hM.1 hS0;obtain ⟨v6_11,e11,h11⟩:=hI.get (i:=2) (.tail _ (.tail _ (.head _))) d2;obtain rfl:=h11;exact aO [(11,_)] hU hmo hme hI hM (.tail _ (.tail _ (.tail _ (.head _)))) rfl rfl (by kernel_rfl) ⟨e11,trivial⟩ (ao aL rfl (by exact (hk1.from_ (ai.rfl_.next hM6)).rd 0 rfl)) ai.rfl_ (rfl)
  constructor
  ·rintro S L' w7 hU hmo hme hI hM hC hS ⟨d1,d3,-⟩;have hS0:S 4=false:=hS;have hM7:=hM.1 hS0;obtain ⟨v7_10,e10,h10⟩:=hI.get (i:=1) (.tail _ (.head _)) d1;obtain rfl:=h10;obtain ⟨v7_12,e12,h12⟩:=hI.get (i:=3) (.tail _ (.tail _ (.tail _ (.head _)))) d3;obtain rfl:=h12;refine eM (al:=[.tmp 10,.tmp 12]) [(10,_),(12,_)] hU hI (.tail _ (.tail _ (.tail _ (.tail _ (.head _))))) (by kernel_rfl) ⟨e10,e12,trivial⟩ gu ((fF b8 4 8 _ a _ _ (hk8.from_ hM7) (by rw [oA];omega) (by decide) ha).mono ?_);rintro v w2 ⟨rfl,hb9,hO9⟩;exact ⟨⟨fun h0=>(by rw [kz] at h0;cases h0),fun _=>⟨hb9,(hk1.from_ hM7).only hO9 hb1n,((((ai.rfl_.next E1).next E8).next hM7)).only hO9 hg8⟩⟩,rfl,⟨fun _ _ _ h=>h,fun _ _ _ h=>h,fun _ _ _ h=>h,fun _ _ _ h=>h,fun _ _ _ h=>h,trivial⟩⟩
  exact trivial
 case hend=>
  intro w8 hM;obtain ⟨hz1,hk1,hF4⟩:=hM.2 rfl;rintro v8_9 rfl v8_10 rfl v8_11 rfl v8_12 rfl v8_13 rfl;refine eT (ae (ag ?_));apply fL [(0,14,fun _ v _=>v=_),(1,15,fun _ v _=>v=_),(2,16,fun _ v _=>v=_),(3,17,fun _ v _=>v=_),(4,18,fun _ v _=>v=_)] [4] (fun S w'=>(S 4=false→ai w8 w')∧(S 4=true→Blk w' b8 5 (aT (bz2 t.size a b)).toArray∧Blk w' b1 55 (ntV (a:Nat) (b:Nat) t).toArray∧ai w w')) (by kernel_rfl) (by kernel_rfl) rfl rfl ⟨fun _ _ _ _ _ _ _ h=>h,fun _ _ _ _ _ _ _ h=>h,fun _ _ _ _ _ _ _ h=>h,fun _ _ _ _ _ _ _ h=>h,fun _ _ _ _ _ _ _ h=>h,trivial⟩ (fun S i w1 w2 hq hF h=>⟨fun h0=>(h.1 (jB h0)).next hF,fun h1=>(fun h=>⟨h.1.from_ hF,h.2.1.from_ hF,h.2.2.next hF⟩) (h.2 (ky (show 4≠i by rintro rfl;exact absurd hq (by decide)) h1))⟩) ⟨fun _=>ai.rfl_.d1,fun h=>by cases h⟩
  case hstep=>
   constructor
   ·rintro S L' w9 hU hmo hme hI hM hC hS ⟨-⟩;have hS0:S 4=false:=(ay hC (j:=4) rfl (by kernel_rfl) (ay hC (j:=1) rfl (by kernel_rfl) hS));have hM9:=hM.1 hS0;have e3:=hI.1 3 (eO rfl);exact aO [(3,_)] hU hmo hme hI hM (.head _) rfl rfl (by kernel_rfl) ⟨e3,trivial⟩ (aB (v:=.slice _ _ _) rfl) ai.rfl_ (rfl)
   constructor
   ·rintro S L' w10 hU hmo hme hI hM hC hS ⟨d0,-⟩;have hS0:S 4=false:=(ay hC (j:=4) rfl (by kernel_rfl) hS);have hM10:=hM.1 hS0;obtain ⟨v10_14,e14,h14⟩:=hI.get (i:=0) (.head _) d0;obtain rfl:=h14;exact aO [(14,_)] hU hmo hme hI hM (.tail _ (.head _)) rfl rfl (by kernel_rfl) ⟨e14,trivial⟩ (cw (v':=.slice (some ⟨b8,12,none⟩) (8) ((20+t.size)-12)) (bj (l:=12) (h:=20) bF rfl (.inr ⟨_,_,_,rfl,rfl,rfl⟩) (.inr ⟨_,_,_,rfl,rfl,rfl⟩) (by omega) (by omega)) (by first | (rw [bN (by omega)];done) | (rw [bN (by omega)];rfl))) ai.rfl_ (rfl)
   constructor
   ·rintro S L' w11 hU hmo hme hI hM hC hS ⟨-⟩;have hS0:S 4=false:=(ay hC (j:=4) rfl (by kernel_rfl) (ay hC (j:=3) rfl (by kernel_rfl) hS));have hM11:=hM.1 hS0;have e1:=hI.1 1 (eO rfl);exact aO [(1,_)] hU hmo hme hI hM (.tail _ (.tail _ (.head _))) rfl rfl (by kernel_rfl) ⟨e1,trivial⟩ (af dq rfl) ai.rfl_ (rfl)
   constructor
   ·rintro S L' w12 hU hmo hme hI hM hC hS ⟨d2,-⟩;have hS0:S 4=false:=(ay hC (j:=4) rfl (by kernel_rfl) hS);have hM12:=hM.1 hS0;obtain ⟨v12_16,e16,h16⟩:=hI.get (i:=2) (.tail _ (.tail _ (.head _))) d2;obtain rfl:=h16;exact aO [(16,_)] hU hmo hme hI hM (.tail _ (.tail _ (.tail _ (.head _)))) rfl rfl (by kernel_rfl) ⟨e16,trivial⟩ (ao aL rfl (by exact (hk1.from_ (ai.rfl_.next hM12)).rd 1 rfl)) ai.rfl_ (rfl)
   constructor
   ·rintro S L' w13 hU hmo hme hI hM hC hS ⟨d1,d3,-⟩;have hS0:S 4=false:=hS;have hM13:=hM.1 hS0;obtain ⟨v13_15,e15,h15⟩:=hI.get (i:=1) (.tail _ (.head _)) d1;obtain rfl:=h15;obtain ⟨v13_17,e17,h17⟩:=hI.get (i:=3) (.tail _ (.tail _ (.tail _ (.head _)))) d3;obtain rfl:=h17;refine eM (al:=[.tmp 15,.tmp 17]) [(15,_),(17,_)] hU hI (.tail _ (.tail _ (.tail _ (.tail _ (.head _))))) (by kernel_rfl) ⟨e15,e17,trivial⟩ gu ((fF b8 12 8 _ b _ _ (hz1.from_ hM13) (by rw [oz];omega) (by decide) hb).mono ?_);rintro v w2 ⟨rfl,hb9,hO9⟩;exact ⟨⟨fun h0=>(by rw [kz] at h0;cases h0),fun _=>⟨hb9,(hk1.from_ hM13).only hO9 hb1n,((hF4.next hM13)).only hO9 hg8⟩⟩,rfl,⟨fun _ _ _ h=>h,fun _ _ _ h=>h,fun _ _ _ h=>h,fun _ _ _ h=>h,fun _ _ _ h=>h,trivial⟩⟩
   exact trivial
  case hend=>
   intro w14 hM;obtain ⟨hz2,hk1,hF4⟩:=hM.2 rfl;rintro v14_14 rfl v14_15 rfl v14_16 rfl v14_17 rfl v14_18 rfl;refine eT (ae (ag (ab (mvs rfl (aa (af dK rfl) (aa (ao a7 rfl (by exact (hk1.from_ ai.rfl_).rd 2 rfl)) ?_))))));refine l3 (cur:=aT (bz2 t.size a b)) bF nQ rfl rfl hz2 (Nat.le_refl _) (by rw [aH,lQ];exact Nat.le_refl _) ?_;intro w15 O22 P22;rw [qB] at P22;have hF22:=(hF4.next (ai.rfl_)).only O22 hg8;replace hk1:=(hk1.from_ (ai.rfl_)).only O22 hb1n;refine ass rfl (ah (ae (ag ?_)));apply fL [(0,23,fun _ v _=>v=_),(1,24,fun _ v _=>v=_),(2,25,fun _ v _=>v=_),(3,26,fun _ v _=>v=_),(4,27,fun _ v _=>v=_),(5,28,fun _ v _=>v=_),(6,29,fun _ v _=>v=_)] [6] (fun S w'=>(S 6=false→ai w15 w')∧(S 6=true→Blk w' b8 5 (aT (fT a b t)).toArray∧Blk w' b1 55 (ntV (a:Nat) (b:Nat) t).toArray∧ai w w')) (by kernel_rfl) (by kernel_rfl) rfl rfl ⟨fun _ _ _ _ _ _ _ h=>h,fun _ _ _ _ _ _ _ h=>h,fun _ _ _ _ _ _ _ h=>h,fun _ _ _ _ _ _ _ h=>h,fun _ _ _ _ _ _ _ h=>h,fun _ _ _ _ _ _ _ h=>h,fun _ _ _ _ _ _ _ h=>h,trivial⟩ (fun S i w1 w2 hq hF h=>⟨fun h0=>(h.1 (jB h0)).next hF,fun h1=>(fun h=>⟨h.1.from_ hF,h.2.1.from_ hF,h.2.2.next hF⟩) (h.2 (ky (show 6≠i by rintro rfl;exact absurd hq (by decide)) h1))⟩) ⟨fun _=>ai.rfl_.d1,fun h=>by cases h⟩
   case hstep=>
    constructor
    ·rintro S L' w16 hU hmo hme hI hM hC hS ⟨-⟩;have hS0:S 6=false:=(ay hC (j:=6) rfl (by kernel_rfl) (ay hC (j:=1) rfl (by kernel_rfl) hS));have hM16:=hM.1 hS0;have e3:=hI.1 3 (eO rfl);exact aO [(3,_)] hU hmo hme hI hM (.head _) rfl rfl (by kernel_rfl) ⟨e3,trivial⟩ (aB (v:=.slice _ _ _) rfl) ai.rfl_ (rfl)
    constructor
    ·rintro S L' w17 hU hmo hme hI hM hC hS ⟨d0,-⟩;have hS0:S 6=false:=(ay hC (j:=6) rfl (by kernel_rfl) hS);have hM17:=hM.1 hS0;obtain ⟨v17_23,e23,h23⟩:=hI.get (i:=0) (.head _) d0;obtain rfl:=h23;exact aO [(23,_)] hU hmo hme hI hM (.tail _ (.head _)) rfl rfl (by kernel_rfl) ⟨e23,trivial⟩ (cw (v':=.slice (some ⟨b8,0,none⟩) (4) ((20+t.size)-0)) (bj (l:=0) (h:=4) bF rfl (.inl ⟨rfl,rfl⟩) (.inr ⟨_,_,_,rfl,rfl,rfl⟩) (by omega) (by omega)) (by first | (rw [dC];done) | (rw [dC];rfl))) ai.rfl_ (rfl)
    constructor
    ·rintro S L' w18 hU hmo hme hI hM hC hS ⟨-⟩;have hS0:S 6=false:=(ay hC (j:=6) rfl (by kernel_rfl) (ay hC (j:=5) rfl (by kernel_rfl) (ay hC (j:=4) rfl (by kernel_rfl) (ay hC (j:=3) rfl (by kernel_rfl) hS))));have hM18:=hM.1 hS0;have e3:=hI.1 3 (eO rfl);exact aO [(3,_)] hU hmo hme hI hM (.tail _ (.tail _ (.head _))) rfl rfl (by kernel_rfl) ⟨e3,trivial⟩ (aB (v:=.slice _ _ _) rfl) ai.rfl_ (rfl)
    constructor
    ·rintro S L' w19 hU hmo hme hI hM hC hS ⟨d2,-⟩;have hS0:S 6=false:=(ay hC (j:=6) rfl (by kernel_rfl) (ay hC (j:=5) rfl (by kernel_rfl) (ay hC (j:=4) rfl (by kernel_rfl) hS)));have hM19:=hM.1 hS0;obtain ⟨v19_25,e25,h25⟩:=hI.get (i:=2) (.tail _ (.tail _ (.head _))) d2;obtain rfl:=h25;exact aO [(25,_)] hU hmo hme hI hM (.tail _ (.tail _ (.tail _ (.head _)))) rfl rfl (by kernel_rfl) ⟨e25,trivial⟩ (cw (v':=.slice (some ⟨b8,4,none⟩) ((20+t.size)-4) ((20+t.size)-4)) (bj (l:=4) (h:=(20+t.size)) bF rfl (.inr ⟨_,_,_,rfl,rfl,rfl⟩) (.inl ⟨rfl,rfl⟩) (by omega) (by omega)) (by first | (rw [bN (by omega)];done) | (rw [bN (by omega)];rfl))) ai.rfl_ (rfl)
    constructor
    ·rintro S L' w20 hU hmo hme hI hM hC hS ⟨d3,-⟩;have hS0:S 6=false:=(ay hC (j:=6) rfl (by kernel_rfl) hS);have hM20:=hM.1 hS0;obtain ⟨v20_26,e26,h26⟩:=hI.get (i:=3) (.tail _ (.tail _ (.tail _ (.head _)))) d3;obtain rfl:=h26;refine eL (al:=[.const (.int .u32 0),.tmp 26]) [(26,_)] hU hmo hme hI hM (.tail _ (.tail _ (.tail _ (.tail _ (.head _))))) rfl (by kernel_rfl) ⟨e26,trivial⟩ ja ((rX (c:=20+t.size-4) (pP (p:=[0,0,0,0]) (r:=fi a b t) (by rw [←qC];exact P22.from_ (ai.rfl_.next hM20)) rfl (by rw [gf];omega)) (lL a b t) (by rw [gf];omega) (hT.from_ (hF22.next hM20))).mono ?_);rintro v w2 ⟨rfl,E20'⟩;exact ⟨E20',rfl⟩
    constructor
    ·rintro S L' w21 hU hmo hme hI hM hC hS ⟨d4,-⟩;have hS0:S 6=false:=(ay hC (j:=6) rfl (by kernel_rfl) hS);have hM21:=hM.1 hS0;obtain ⟨v21_27,e27,h27⟩:=hI.get (i:=4) (.tail _ (.tail _ (.tail _ (.tail _ (.head _))))) d4;obtain rfl:=h27;exact aO [(27,_)] hU hmo hme hI hM (.tail _ (.tail _ (.tail _ (.tail _ (.tail _ (.head _)))))) rfl rfl (by kernel_rfl) ⟨e27,trivial⟩ (fY ix gx rfl (by have h:=ow (fi a b t);omega)) ai.rfl_ (rfl)
    constructor
    ·rintro S L' w22 hU hmo hme hI hM hC hS ⟨d1,d5,d4,-⟩;have hS0:S 6=false:=hS;have hM22:=hM.1 hS0;obtain ⟨v22_24,e24,h24⟩:=hI.get (i:=1) (.tail _ (.head _)) d1;obtain rfl:=h24;obtain ⟨v22_28,e28,h28⟩:=hI.get (i:=5) (.tail _ (.tail _ (.tail _ (.tail _ (.tail _ (.head _)))))) d5;obtain rfl:=h28;refine eM (al:=[.tmp 24,.tmp 28]) [(24,_),(28,_)] hU hI (.tail _ (.tail _ (.tail _ (.tail _ (.tail _ (.tail _ (.head _))))))) (by kernel_rfl) ⟨e24,e28,trivial⟩ gu ((fF b8 0 4 _ (iM (fi a b t)) _ _ (P22.from_ hM22) (by rw [rN];omega) (by decide) (ow _)).mono ?_);rintro v w2 ⟨rfl,hb9,hO9⟩;rw [sF] at hb9;exact ⟨⟨fun h0=>(by rw [kz] at h0;cases h0),fun _=>⟨hb9,(hk1.from_ hM22).only hO9 hb1n,((hF22.next hM22)).only hO9 hg8⟩⟩,rfl,⟨fun _ _ _ h=>h,fun _ _ _ h=>h,fun _ _ _ h=>h,fun _ _ _ h=>h,fun _ _ _ h=>h,fun _ _ _ h=>h,fun _ _ _ h=>h,trivial⟩⟩
    exact trivial
   case hend=>
    intro w23 hM;obtain ⟨hz4,hk1,hF6⟩:=hM.2 rfl;rintro v23_23 rfl v23_24 rfl v23_25 rfl v23_26 rfl v23_27 rfl v23_28 rfl v23_29 rfl;refine eT (ae (ag (ab (mvs rfl (ass rfl (ah (ae (aw (bb (v:=.slice _ _ _) rfl rfl (⟨⟨b8,rfl,hg8,hz4.from_ ai.rfl_⟩,hF6⟩))))))))))
theorem aU:cr prog 55=some 3:=by kernel_rfl
theorem dh:iT prog 55=some (.agg #[.int .i64 0,.int .i64 0,.string ⟨#[]⟩]):=by kernel_rfl
theorem gn:aI prog 47=true:=by kernel_rfl
theorem iw:∀ (a0:Int) (a1:Int) (a2:ByteArray),prog.built 55 [(0,.int .i64 a0),(1,.int .i64 a1),(2,.string a2)]=some #[.int .i64 a0,.int .i64 a1,.string a2]:=by intros;kernel_rfl
theorem bD:fj prog 55=some true:=by kernel_rfl
theorem p0 (A:Option Addr) (c n a b:Nat) (t:ByteArray) (w:World) (hr:RB w A c (fT a b t)) (hn:n=(fT a b t).length) (ha:a<9223372036854775808) (hb:b<9223372036854775808) (ht:t.size≤1000000) (hT:cQ w) :
 Rt prog 36 [.slice A n c] w (fun v w'=>v=.agg (ntV (a:Nat) (b:Nat) t).toArray∧ai w w'):=by
 have hr0:RB w A c (leB 4 (iM (fi a b t))++fi a b t):=hr;have hnl:n=20+t.size:=by rw [hn,im]
 have hle:n≤c:=by rw [hn];exact hr.le
 have hr1:RB w A c (leB 4 (iM (fi a b t))++(leB 8 a++(leB 8 b++dG t))):=by rw [←List.append_assoc (leB 8 a)];exact hr0
 have hr2:RB w A c ((leB 4 (iM (fi a b t))++leB 8 a)++(leB 8 b++dG t)):=by rw [List.append_assoc];exact hr1
 have hr3:RB w A c ((leB 4 (iM (fi a b t))++leB 8 a++leB 8 b)++dG t):=by rw [List.append_assoc];exact hr2
 have h12:(leB 4 (iM (fi a b t))++leB 8 a).length=12:=by rw [List.length_append,cD,cD]
 have h20:(leB 4 (iM (fi a b t))++leB 8 a++leB 8 b).length=20:=by rw [List.length_append,h12,cD]
 refine enter (n:=27) Tryd.func36 rfl rfl rfl (ag (ab (cM dh ?_)));intro b2 w1 E2 hb2 hk2;have hg2:w.heap.size≤b2:=by rw [hb2];exact (ai.rfl_).size
 refine ah (ae (ag (ag ?_)))
 skip
 apply gh 13 [(3,eqp _),(4,eqp _),(5,eqp _),(6,eqp _),(7,eqp _),(8,eqp _),(9,eqp _),(10,eqp _),(11,eqp _),(12,eqp _),(13,eqp _),(14,eqp _),(15,eqp _)] (by kernel_rfl) (by kernel_rfl) ⟨aj _,aj _,aj _,aj _,aj _,aj _,aj _,aj _,aj _,aj _,aj _,aj _,aj _,trivial⟩
 case hop=>
  constructor
  ·intro w3 D3;exact an (aB (v:=.slice _ _ _) rfl) rfl
  constructor
  ·intro w4 D4;rintro _ rfl;exact an (bC cq rfl) rfl
  constructor
  ·intro w5 D5;rintro _ rfl;exact an (bx (cv rfl rfl) (decide_eq_false (by omega))) rfl
  constructor
  ·intro w6 D6;rintro _ rfl;exact an (aB (v:=.bool _) rfl) rfl
  constructor
  ·intro w7 D7;rintro _ rfl;exact aP rfl (aB (v:=.slice _ _ _) rfl) rfl
  constructor
  ·intro w8 D8;rintro _ rfl _ rfl;exact aP rfl (l7 (h:=4) bF rfl rfl (by omega)) rfl
  constructor
  ·intro w9 D9;rintro _ rfl _ rfl;refine mi rfl gn ((lD A c 4 4 (iM (fi a b t)) _ (hr1.from_ ((ai.rfl_.next E2).next D9)).pre rfl (by decide) (ow _) (ov _)).mono ?_);rintro v _ ⟨rfl,rfl⟩;exact ⟨ai.rfl_,rfl⟩
  constructor
  ·intro w10 D10;rintro _ rfl;exact aP rfl (aB (v:=.slice _ _ _) rfl) rfl
  constructor
  ·intro w11 D11;rintro _ rfl _ rfl;exact aP rfl (bj (l:=4) (h:=n) bF rfl (.inr ⟨_,_,_,rfl,rfl,rfl⟩) (.inl ⟨rfl,rfl⟩) (by omega) (by omega)) rfl
  constructor
  ·intro w12 D12;rintro _ rfl _ rfl;refine mi rfl ja ((rX (((hr0.from_ ((ai.rfl_.next E2).next D12)).tailN (cD 4 _)).rowR (by rw [gf];omega)) (lL a b t) (by rw [gf];omega) (hT.from_ ((ai.rfl_.next E2).next D12))).mono ?_);rintro v _ ⟨rfl,E12'⟩;exact ⟨E12',rfl⟩
  constructor
  ·intro w13 D13;rintro _ rfl _ rfl;exact aP rfl (fY ix gx rfl (by have h:=ow (fi a b t);omega)) rfl
  constructor
  ·intro w14 D14;rintro _ rfl _ rfl _ rfl;exact aP rfl (bx (cc rfl rfl) (bne_self_eq_false _)) rfl
  constructor
  ·intro w15 D15;rintro _ rfl _ rfl;exact an (aF (v:=.bool _) rfl rfl) rfl
  exact trivial
 case hend=>
  intro w16 D16;rintro _ rfl _ rfl _ rfl _ rfl _ rfl _ rfl _ rfl _ rfl _ rfl _ rfl _ rfl _ rfl _ rfl;show St ..;refine ah (ae (aY rfl (aC (ae (ag ?_)))));apply fL [(0,17,fun _ v _=>v=_),(1,18,fun _ v _=>v=_),(2,19,fun _ v _=>v=_),(3,20,fun _ v _=>v=_),(4,21,fun _ v _=>v=_),(5,22,fun _ v _=>v=_),(6,23,fun _ v _=>v=_),(7,24,fun _ v _=>v=_),(8,25,fun _ v _=>v=_),(9,26,fun _ v _=>v=_)] [10] (fun S w'=>(S 10=false→ai w16 w')∧(S 10=true→Blk w' b2 55 (ntV (a:Nat) (b:Nat) t).toArray∧ai w w')) (by kernel_rfl) (by kernel_rfl) rfl rfl ⟨fun _ _ _ _ _ _ _ h=>h,fun _ _ _ _ _ _ _ h=>h,fun _ _ _ _ _ _ _ h=>h,fun _ _ _ _ _ _ _ h=>h,fun _ _ _ _ _ _ _ h=>h,fun _ _ _ _ _ _ _ h=>h,fun _ _ _ _ _ _ _ h=>h,fun _ _ _ _ _ _ _ h=>h,fun _ _ _ _ _ _ _ h=>h,fun _ _ _ _ _ _ _ h=>h,trivial⟩ (fun S i w1 w2 hq hF h=>⟨fun h0=>(h.1 (jB h0)).next hF,fun h1=>(fun h=>⟨h.1.from_ hF,h.2.next hF⟩) (h.2 (ky (show 10≠i by rintro rfl;exact absurd hq (by decide)) h1))⟩) ⟨fun _=>ai.rfl_.d1,fun h=>by cases h⟩
  case hstep=>
   constructor
   ·rintro S L' w17 hU hmo hme hI hM hC hS ⟨-⟩;have hS0:S 10=false:=(ay hC (j:=10) rfl (by kernel_rfl) hS);have hM17:=hM.1 hS0;have e0:=hI.1 0 (eO rfl);exact aO [(0,_)] hU hmo hme hI hM (.head _) rfl rfl (by kernel_rfl) ⟨e0,trivial⟩ (aB (v:=.slice _ _ _) rfl) ai.rfl_ (rfl)
   constructor
   ·rintro S L' w18 hU hmo hme hI hM hC hS ⟨d0,-⟩;have hS0:S 10=false:=(ay hC (j:=10) rfl (by kernel_rfl) hS);have hM18:=hM.1 hS0;obtain ⟨v18_17,e17,h17⟩:=hI.get (i:=0) (.head _) d0;obtain rfl:=h17;exact aO [(17,_)] hU hmo hme hI hM (.tail _ (.head _)) rfl rfl (by kernel_rfl) ⟨e17,trivial⟩ (bj (l:=4) (h:=12) bF rfl (.inr ⟨_,_,_,rfl,rfl,rfl⟩) (.inr ⟨_,_,_,rfl,rfl,rfl⟩) (by omega) (by omega)) ai.rfl_ (rfl)
   constructor
   ·rintro S L' w19 hU hmo hme hI hM hC hS ⟨d1,-⟩;have hS0:S 10=false:=(ay hC (j:=10) rfl (by kernel_rfl) hS);have hM19:=hM.1 hS0;obtain ⟨v19_18,e18,h18⟩:=hI.get (i:=1) (.tail _ (.head _)) d1;obtain rfl:=h18;refine eL (al:=[.tmp 18]) [(18,_)] hU hmo hme hI hM (.tail _ (.tail _ (.head _))) rfl (by kernel_rfl) ⟨e18,trivial⟩ gn ((lD _ _ _ 8 a _ ((hr1.from_ (((ai.rfl_.next E2).next D16).next hM19)).tailN (cD 4 _)).pre rfl (by decide) ha (p8 ha)).mono ?_);rintro v w2 ⟨rfl,rfl⟩;exact ⟨ai.rfl_,rfl⟩
   constructor
   ·rintro S L' w20 hU hmo hme hI hM hC hS ⟨-⟩;have hS0:S 10=false:=(ay hC (j:=10) rfl (by kernel_rfl) hS);have hM20:=hM.1 hS0;have e0:=hI.1 0 (eO rfl);exact aO [(0,_)] hU hmo hme hI hM (.tail _ (.tail _ (.tail _ (.head _)))) rfl rfl (by kernel_rfl) ⟨e0,trivial⟩ (aB (v:=.slice _ _ _) rfl) ai.rfl_ (rfl)
   constructor
   ·rintro S L' w21 hU hmo hme hI hM hC hS ⟨d3,-⟩;have hS0:S 10=false:=(ay hC (j:=10) rfl (by kernel_rfl) hS);have hM21:=hM.1 hS0;obtain ⟨v21_20,e20,h20⟩:=hI.get (i:=3) (.tail _ (.tail _ (.tail _ (.head _)))) d3;obtain rfl:=h20;exact aO [(20,_)] hU hmo hme hI hM (.tail _ (.tail _ (.tail _ (.tail _ (.head _))))) rfl rfl (by kernel_rfl) ⟨e20,trivial⟩ (bj (l:=12) (h:=20) bF rfl (.inr ⟨_,_,_,rfl,rfl,rfl⟩) (.inr ⟨_,_,_,rfl,rfl,rfl⟩) (by omega) (by omega)) ai.rfl_ (rfl)
   constructor
   ·rintro S L' w22 hU hmo hme hI hM hC hS ⟨d4,d2,-⟩;have hS0:S 10=false:=(ay hC (j:=10) rfl (by kernel_rfl) hS);have hM22:=hM.1 hS0;obtain ⟨v22_21,e21,h21⟩:=hI.get (i:=4) (.tail _ (.tail _ (.tail _ (.tail _ (.head _))))) d4;obtain rfl:=h21;refine eL (al:=[.tmp 21]) [(21,_)] hU hmo hme hI hM (.tail _ (.tail _ (.tail _ (.tail _ (.tail _ (.head _)))))) rfl (by kernel_rfl) ⟨e21,trivial⟩ gn ((lD _ _ _ 8 b _ ((hr2.from_ (((ai.rfl_.next E2).next D16).next hM22)).tailN h12).pre rfl (by decide) hb (p8 hb)).mono ?_);rintro v w2 ⟨rfl,rfl⟩;exact ⟨ai.rfl_,rfl⟩
   constructor
   ·rintro S L' w23 hU hmo hme hI hM hC hS ⟨-⟩;have hS0:S 10=false:=(ay hC (j:=10) rfl (by kernel_rfl) hS);have hM23:=hM.1 hS0;have e0:=hI.1 0 (eO rfl);exact aO [(0,_)] hU hmo hme hI hM (.tail _ (.tail _ (.tail _ (.tail _ (.tail _ (.tail _ (.head _))))))) rfl rfl (by kernel_rfl) ⟨e0,trivial⟩ (aB (v:=.slice _ _ _) rfl) ai.rfl_ (rfl)
   constructor
   ·rintro S L' w24 hU hmo hme hI hM hC hS ⟨d6,-⟩;have hS0:S 10=false:=(ay hC (j:=10) rfl (by kernel_rfl) hS);have hM24:=hM.1 hS0;obtain ⟨v24_23,e23,h23⟩:=hI.get (i:=6) (.tail _ (.tail _ (.tail _ (.tail _ (.tail _ (.tail _ (.head _))))))) d6;obtain rfl:=h23;exact aO [(23,_)] hU hmo hme hI hM (.tail _ (.tail _ (.tail _ (.tail _ (.tail _ (.tail _ (.tail _ (.head _)))))))) rfl rfl (by kernel_rfl) ⟨e23,trivial⟩ (bj (l:=20) (h:=n) bF rfl (.inr ⟨_,_,_,rfl,rfl,rfl⟩) (.inl ⟨rfl,rfl⟩) (by omega) (by omega)) ai.rfl_ (rfl)
   constructor
   ·rintro S L' w25 hU hmo hme hI hM hC hS ⟨d7,-⟩;have hS0:S 10=false:=(ay hC (j:=10) rfl (by kernel_rfl) hS);have hM25:=hM.1 hS0;obtain ⟨v25_24,e24,h24⟩:=hI.get (i:=7) (.tail _ (.tail _ (.tail _ (.tail _ (.tail _ (.tail _ (.tail _ (.head _)))))))) d7;obtain rfl:=h24;exact aO [(24,_)] hU hmo hme hI hM (.tail _ (.tail _ (.tail _ (.tail _ (.tail _ (.tail _ (.tail _ (.tail _ (.head _))))))))) rfl rfl (by kernel_rfl) ⟨e24,trivial⟩ (cw (v':=.string t) (lx (hr3.from_ (((ai.rfl_.next E2).next D16).next hM25) |>.tailN h20) (by rw [cS];omega) rfl) (by rw [oH])) ai.rfl_ (rfl)
   constructor
   ·rintro S L' w26 hU hmo hme hI hM hC hS ⟨d2,d5,d8,-⟩;have hS0:S 10=false:=(ay hC (j:=10) rfl (by kernel_rfl) hS);have hM26:=hM.1 hS0;obtain ⟨v26_19,e19,h19⟩:=hI.get (i:=2) (.tail _ (.tail _ (.head _))) d2;obtain rfl:=h19;obtain ⟨v26_22,e22,h22⟩:=hI.get (i:=5) (.tail _ (.tail _ (.tail _ (.tail _ (.tail _ (.head _)))))) d5;obtain rfl:=h22;obtain ⟨v26_25,e25,h25⟩:=hI.get (i:=8) (.tail _ (.tail _ (.tail _ (.tail _ (.tail _ (.tail _ (.tail _ (.tail _ (.head _))))))))) d8;obtain rfl:=h25;exact aO [(19,_),(22,_),(25,_)] hU hmo hme hI hM (.tail _ (.tail _ (.tail _ (.tail _ (.tail _ (.tail _ (.tail _ (.tail _ (.tail _ (.head _)))))))))) rfl rfl (by kernel_rfl) ⟨e19,e22,e25,trivial⟩ (bW (l:=[(0,.tmp 19),(1,.tmp 22),(2,.tmp 25)]) (iw _ _ _)) ai.rfl_ (rfl)
   constructor
   ·rintro S L' w27 hU hmo hme hI hM hC hS ⟨d9,d5,d0,d1,d2,d3,d4,d5,d6,d7,d8,d9,-⟩;have hS0:S 10=false:=hS;have hM27:=hM.1 hS0;have e2:=hI.1 2 (eO rfl);obtain ⟨v27_26,e26,h26⟩:=hI.get (i:=9) (.tail _ (.tail _ (.tail _ (.tail _ (.tail _ (.tail _ (.tail _ (.tail _ (.tail _ (.head _)))))))))) d9;obtain rfl:=h26;obtain ⟨w2,hR,hO,hb2⟩:=rb (n:=27) (L:=[(2,_),(26,_)]) (x:=.tmp 2) (y:=.tmp 26) (vs:=ntV (a:Nat) (b:Nat) t) aU rfl rfl (by simp [ntV,Value.oneCell']) (hk2.from_ ((ai.rfl_.next D16).next hM27)) rfl;exact lX [(2,_),(26,_)] hI (s5 rfl) rfl (by kernel_rfl) ⟨e2,e26,trivial⟩ hR ⟨fun h0=>(by rw [kz] at h0;cases h0),fun _=>⟨hb2,((((ai.rfl_.next E2).next D16).next hM27)).only hO hg2⟩⟩ ⟨fun _ _ _ h=>h,fun _ _ _ h=>h,fun _ _ _ h=>h,fun _ _ _ h=>h,fun _ _ _ h=>h,fun _ _ _ h=>h,fun _ _ _ h=>h,fun _ _ _ h=>h,fun _ _ _ h=>h,fun _ _ _ h=>h,trivial⟩
   exact trivial
  case hend=>
   intro w28 hM;obtain ⟨hk2,hF3⟩:=hM.2 rfl;rintro v28_17 rfl v28_18 rfl v28_19 rfl v28_20 rfl v28_21 rfl v28_22 rfl v28_23 rfl v28_24 rfl v28_25 rfl v28_26 rfl;refine eT (ae (aw (sX rfl (bw (cs:=[_,_,_]) bD aU rfl (by exact hk2.whole)) ?_)));exact ⟨rfl,hF3⟩
abbrev ey:ByteArray:=⟨#[115,110,97,112,45,118,111,116,101]⟩
abbrev ez:ByteArray:=⟨#[115,110,97,112,45,100,97,116,97]⟩
abbrev dw:ByteArray:=⟨#[115,110,97,112,45,110,101,119]⟩
theorem rm:okN ey=true:=by decide
theorem rn:okN ez=true:=by decide
theorem p4:okN dw=true:=by decide
theorem pH {ok:Bool}:fuB ok 0=0:=by cases ok <;> rfl
theorem pG {ok:Bool}:gV ok 0 false=false:=by cases ok <;> rfl
def oD (nm:ByteArray):Option (List Nat)→List Fe
 |none=>[]
 |some x=>[(nm,x,x)]
def SDk (v d:Option (List Nat)):List Fe:=oD ez d++oD ey v
def SDn (v d:Option (List Nat)) (x y:List Nat):List Fe:=oD ez d++(dw,x,y)::oD ey v
theorem tl_ {l:Array UInt8}:(⟨l⟩:ByteArray).toList=l.toList:=Lib.toList_data _
theorem lH {x e:Fe} {D:List Fe} (h:decide (x.1.toList<e.1.toList)=true):eX (x::D) e=x::eX D e:=by unfold eX;rw [List.takeWhile_cons,List.dropWhile_cons,h];rfl
theorem iJ {x e:Fe} {D:List Fe} (h:decide (x.1.toList<e.1.toList)=false):eX (x::D) e=e::x::D:=by unfold eX;rw [List.takeWhile_cons,List.dropWhile_cons,h];rfl
theorem r3:decide (ez.toList<dw.toList)=true:=by rw [tl_,tl_];decide
theorem r2:decide (ey.toList<dw.toList)=false:=by rw [tl_,tl_];decide
theorem s3:decide (ez.toList<ey.toList)=true:=by rw [tl_,tl_];decide
theorem s0:decide (ey.toList<ez.toList)=false:=by rw [tl_,tl_];decide
theorem pL {v d:Option (List Nat)}:(SDk v d).length≤2:=by cases v <;> cases d <;> simp [SDk,oD]
theorem q4 {v d:Option (List Nat)}:eR (SDk v d) dw=false:=by cases v <;> cases d <;> rfl
theorem nY {v d:Option (List Nat)}:dI (SDk v d) dw=[]:=by cases v <;> cases d <;> rfl
theorem q3 {v d:Option (List Nat)}:eR (SDk v d) ey=v.isSome:=by cases v <;> cases d <;> rfl
theorem q5 {v d:Option (List Nat)}:eR (SDk v d) ez=d.isSome:=by cases v <;> cases d <;> rfl
theorem q6 {v d:Option (List Nat)}:dI (SDk v d) ey=v.getD []:=by cases v <;> cases d <;> rfl
theorem q7 {v d:Option (List Nat)}:dI (SDk v d) ez=d.getD []:=by cases v <;> cases d <;> rfl
theorem pN {v d:Option (List Nat)} {n:Nat} (h:n≤1048576):ji (SDk v d) 0 false dw n=0:=by
 unfold ji;rw [p4,if_neg (by decide),nY,if_neg (by show ¬ 1048576<n+0;omega),if_neg (fun h=>by have:=h.2;have:=@pL v d;omega)]
theorem sd {v d:Option (List Nat)} {x y:List Nat}:eX (SDk v d) (dw,x,y)=SDn v d x y:=by
 cases v with
 |none=>cases d with
  |none=>rfl
  |some a=>exact lH r3
 |some b=>cases d with
  |none=>exact iJ r2
  |some a=>exact (lH r3).trans (congrArg _ (iJ r2))
theorem qY {v d:Option (List Nat)} {x y z:List Nat}:oS (SDn v d x y) dw z=SDn v d z y:=by cases v <;> cases d <;> rfl
theorem qZ {v d:Option (List Nat)} {x y z:List Nat}:pZ (SDn v d x y) dw z=SDn v d x z:=by cases v <;> cases d <;> rfl
theorem lv {v d:Option (List Nat)} {x y:List Nat}:dI (SDn v d x y) dw=x:=by cases v <;> cases d <;> rfl
theorem nX {v d:Option (List Nat)} {x y:List Nat}:nC (SDn v d x y) dw=y:=by cases v <;> cases d <;> rfl
theorem sc {v d:Option (List Nat)} {x y:List Nat}:eR (SDn v d x y) dw=true:=by cases v <;> cases d <;> rfl
theorem q_ {v d:Option (List Nat)} {bs:List Nat} (h:bs.length≤1048576):j0 (SDk v d) 0 false dw bs=SDn v d bs []:=by
 unfold j0;rw [if_pos (pN h),q4,if_neg (by decide),sd,nY,qY];rfl
theorem lu {v d:Option (List Nat)} {x y:List Nat} {ok:Bool} (h:ok=true):opE (SDn v d x y) ok 0 false dw=0:=by
 unfold opE;rw [h,if_neg (by decide),sc,if_pos rfl]
theorem qV {v d:Option (List Nat)} {x y:List Nat}:fp (SDn v d x y) 0 false dw=SDn v d x x:=by
 unfold fp;rw [if_pos (lu p4),lv,qZ]
theorem pI {v d:Option (List Nat)} {x y:List Nat}:eY (SDn v d x y) dw=SDk v d:=by cases v <;> cases d <;> rfl
theorem q8 {v d:Option (List Nat)}:eY (SDk v d) ey=SDk none d:=by cases v <;> cases d <;> rfl
theorem q9 {v d:Option (List Nat)}:eY (SDk v d) ez=SDk v none:=by cases v <;> cases d <;> rfl
theorem q1 {d:Option (List Nat)} {x:List Nat}:eX (SDk none d) (ey,x,x)=SDk (some x) d:=by
 cases d with
 |none=>rfl
 |some a=>exact lH s3
theorem q2 {v:Option (List Nat)} {x:List Nat}:eX (SDk v none) (ez,x,x)=SDk v (some x):=by
 cases v with
 |none=>rfl
 |some a=>exact iJ s0
theorem qW {v d:Option (List Nat)} {x:List Nat}:dN (SDn v d x x) 0 false dw ey=0∧dQ (SDn v d x x) 0 false dw ey=SDk (some x) d:=by
 have h:dN (SDn v d x x) 0 false dw ey=0:=lu (by rw [p4,rm];rfl);refine ⟨h,?_⟩;unfold dQ;rw [if_pos h,if_neg (by decide),pI,q8,lv,nX,q1]
theorem qX {v d:Option (List Nat)} {x:List Nat}:dN (SDn v d x x) 0 false dw ez=0∧dQ (SDn v d x x) 0 false dw ez=SDk v (some x):=by
 have h:dN (SDn v d x x) 0 false dw ez=0:=lu (by rw [p4,rn];rfl);refine ⟨h,?_⟩;unfold dQ;rw [if_pos h,if_neg (by decide),pI,q9,lv,nX,q2]
theorem pM {v d:Option (List Nat)} {ps:List Int}:cO (SDk v d) ps=(SDk v d).map fun e=>(e.1,e.2.1):=by
 cases v <;> cases d <;> simp [SDk,oD,cO]
structure Kt where
 a:Int
 b:Int
 i:Int
 o:Int
 t:ByteArray
def stV (d:Nat) (k:Kt):List Value:=[.pointer (some ⟨d,0,none⟩),.int .i64 k.a,.int .i64 k.b,.string ⟨#[]⟩,.int .i64 k.i,.int .i64 k.o,.string k.t,.bool true]
def rU (k:Kt):Prop:=bK k.a k.b ⟨#[]⟩=true∧cg k.i k.o k.t=true
def sE (a b:Int) (t:ByteArray):List Nat:=fT a.toNat b.toNat t
def rS (k:Kt) (v d:Option (List Nat)):Prop:=((v=none∧k.a=0∧k.b=0)∨v=some (sE k.a k.b ⟨#[]⟩))∧((d=none∧k.i=0∧k.o=0∧k.t=⟨#[]⟩)∨d=some (sE k.i k.o k.t))
section
variable {U:Nat→Prop} {w w1 w2 w3:World} {k:Nat}
theorem oe (h:Nx U w1 w2 k) (hz:w.heap.size≤w1.heap.size):Nx U w w2 k:=h.imp id fun h=>⟨Nat.le_trans hz h.1,h.2⟩
theorem r0 (h:Nx (Nx U w w1) w2 w3 k) (hz:w1.heap.size≤w2.heap.size) (h0:w.heap.size≤w1.heap.size) (h3:w2.heap.size≤w3.heap.size):Nx U w w3 k:=by
 rcases h with (h | h) | h
 ·exact .inl h
 ·exact .inr ⟨h.1,by omega⟩
 ·exact .inr ⟨by omega,h.2⟩
theorem p5 (h:Chg U w w1) (hF:ai w1 w2) (k:Chg (Nx U w w1) w2 w3):Chg U w w3:=(h.next hF.toChg).trans k fun _ hi=>hi.imp id And.left
end
structure bJ (w:World) (U:Nat→Prop) (s d:Nat) (k:Kt):Prop where
 blk:Blk w s 57 (stV d k).toArray
 ns:¬ U s
 ex:∃ v dt,rS k v dt∧cR w U d (SDk v dt) 0 false
 lt:∀ x,U x→x<w.heap.size
 ok:rU k
theorem bJ.from_ {w w':World} {U:Nat→Prop} {s d:Nat} {k:Kt} (h:bJ w U s d k) (hF:ai w w'):bJ w' U s d k:=⟨h.blk.from_ hF,h.ns,(let ⟨v,dt,r,x⟩:=h.ex;⟨v,dt,r,x.from_ hF⟩),fun x hx=>Nat.lt_of_lt_of_le (h.lt x hx) hF.size,h.ok⟩
theorem RB.blkC {w:World} {q c:Nat} {l:List Nat} (h:Blk w q 5 (aT l).toArray) (hc:l.length=c) (hl:c≤9223372036854775807) (hb:∀ b∈l,b<256):RB w (some ⟨q,0,none⟩) c l:=⟨by omega,hl,fun _=>⟨q,0,rfl,h.whole⟩,hb⟩
end Go.Proofs.YtdimnaiiaekngaaDoor
namespace Go.Proofs.YtdimnaiiaekngaaDoor
open Go.Proofs.Tryd (prog)
open Go.RowKit
open Go.ChangeShapes Go.WideShapes Go.ChangeAt
theorem fk:bQ prog 57 0=some 0:=by kernel_rfl
theorem gk:fj prog 27=some false:=by kernel_rfl
theorem mR:aI prog 51=true:=by kernel_rfl
theorem mQ:aI prog 52=true:=by kernel_rfl
theorem mP:aI prog 53=true:=by kernel_rfl
theorem gP:bQ prog 57 3=some 7:=by kernel_rfl
theorem mS:aI prog 41=true:=by kernel_rfl
theorem mT:aI prog 40=true:=by kernel_rfl
theorem px (s d:Nat) (k:Kt) (U:Nat→Prop) (w:World) (hs:Blk w s 57 (stV d k).toArray) (hsU:¬ U s) (v dt:Option (List Nat)) (hd:cR w U d (SDk v dt) 0 false) (nm:ByteArray) (A:Option Addr) (c n:Nat) (bs:List Nat) (v2 d2:Option (List Nat)) (hb:RB w A c bs) (hn:n=bs.length) (hl:bs.length≤1048576) (hU2:0<bs.length→∀ q,A.map (·.block)=some q→¬ U q) (hnm:nm.size≤140737488351232) (hre:dN (SDn v dt bs bs) 0 false dw nm=0∧dQ (SDn v dt bs bs) 0 false dw nm=SDk v2 d2) :
 Rt prog 40 [.pointer (some ⟨s,0,none⟩),.string nm,.slice A n c] w (fun v w'=>v=.int .i64 0∧Blk w' s 57 (stV d k).toArray∧cR w' (Nx U w w') d (SDk v2 d2) 0 false∧Chg U w w'):=by
 have hsl:=hs.lt;refine enter (n:=32) Tryd.func40 rfl rfl rfl (ag (ab (asi rfl (ah (ae (ag (ag (ab (mvp rfl (aa (az rfl) (aa (af fk rfl) (aa (ao gk rfl (by exact (hs.from_ ai.rfl_).rd 0 rfl)) ?_))))))))))));refine mvs rfl (av mR (o7 U d _ _ _ _ (hd.from_ ai.rfl_) dw (by decide) A c n bs (hb.from_ ai.rfl_) hn (by omega) hU2) ?_);rintro v14 w1 ⟨rfl,hd14,hC14⟩;rw [pN hl];rw [q_ hl,pH,pG] at hd14;have hc14:Chg U w w1:=(ai.toChg (U:=U) (ai.rfl_)).next hC14;have hz14:w.heap.size≤(w1).heap.size:=hc14.size;replace hs:=(hs.from_ (ai.rfl_)).chg hC14 hsU;have hdk:=hd14.wide (V:=Nx U w w1) fun k hk _=>oe hk ((ai.rfl_).size)
 have hsN:¬ Nx U w w1 s:=fun h=>h.elim hsU fun h=>by have:=hsl;omega
 refine asi rfl (ah (ae (ag (ab (mvi rfl (aa (bx (cc rfl rfl) rfl) (ah (ae (aY rfl (aC (ae (ag (ag (ab (mvp rfl (aa (az rfl) ?_))))))))))))))));refine aa (af fk rfl) (aa (ao gk rfl (by exact (hs.from_ ai.rfl_).rd 0 rfl)) ?_);refine av mQ (qM _ d _ _ _ _ (hdk.from_ ai.rfl_) dw (by decide)) ?_;rintro v22 w2 ⟨rfl,hd22,hC22⟩;rw [lu p4];rw [qV,pH,pG] at hd22;have hc22:Chg U w w2:=p5 hc14 (ai.rfl_) hC22;replace hs:=(hs.from_ (ai.rfl_)).chg hC22 hsN;replace hdk:=hd22.wide (V:=Nx U w w2) fun k hk _=>r0 hk ((ai.rfl_).size) hz14 hC22.size
 replace hsN:¬ Nx U w w2 s:=fun h=>h.elim hsU fun h=>by have:=hsl;omega
 have hz22:w.heap.size≤(w2).heap.size:=hc22.size;refine asi rfl (ah (ae (ag (ab (mvi rfl (aa (bx (cc rfl rfl) rfl) (ah (ae (aY rfl (aC (ae (ag (ab (mvp rfl (aa (az rfl) ?_)))))))))))))));refine aa (af fk rfl) (aa (ao gk rfl (by exact (hs.from_ ai.rfl_).rd 0 rfl)) ?_);refine mvg rfl (av mP (oQ _ d _ _ _ _ (hdk.from_ ai.rfl_) dw (by decide) nm hnm) ?_);rintro v31 w3 ⟨rfl,hd31,hC31⟩;rw [hre.1];rw [hre.2,pH,pG] at hd31;have hc31:Chg U w w3:=p5 hc22 (ai.rfl_) hC31;replace hs:=(hs.from_ (ai.rfl_)).chg hC31 hsN;replace hdk:=hd31.wide (V:=Nx U w w3) fun k hk _=>r0 hk ((ai.rfl_).size) hz22 hC31.size
 replace hsN:¬ Nx U w w3 s:=fun h=>h.elim hsU fun h=>by have:=hsl;omega
 have hz31:w.heap.size≤(w3).heap.size:=hc31.size;refine asi rfl (ah (ae (aw (bb (v:=.int _ _) rfl rfl (⟨rfl,hs,hdk,hc31⟩)))))
theorem jK (s d:Nat) (k:Kt) (U:Nat→Prop) (w:World) (hs:Blk w s 57 (stV d k).toArray) (_:¬ U s) (nm:ByteArray) (a b:Int) (t:ByteArray) (off:Nat) :
 Rt prog 29 [.pointer (some ⟨s,0,none⟩),.string nm,.agg (ntV a b t).toArray,.bool false,.pointer (some ⟨s,off,none⟩)] w (fun v w'=>v=.int .i64 1∧ai w w'):=by
 refine enter (n:=33) Tryd.func29 rfl rfl rfl (ag (ab (de (v:=.agg _) rfl ?_)));intro b7 w1 E7 hb7 hk7;refine asi rfl (ah (ae (ag (ag (ab (mvp rfl (aa (az rfl) (aa (af gP rfl) (aa (ao fD rfl (by exact (hs.from_ (ai.rfl_.next E7)).rd 7 rfl)) ?_)))))))));refine aa (bx (bl rfl) rfl) (ah (ae (aY rfl (aC (ae (ag (ag (ab (mvb rfl (aa (dB (bl rfl) rfl) (ah (ae (bR rfl (ag (ab ?_)))))))))))))));refine asi rfl (ah (ae (aw (aD (bb (v:=.int _ _) rfl rfl (⟨rfl,(ai.rfl_.next E7)⟩))))))
theorem jJ (s d:Nat) (k:Kt) (U:Nat→Prop) (w:World) (hs:Blk w s 57 (stV d k).toArray) (hsU:¬ U s) (v dt:Option (List Nat)) (hd:cR w U d (SDk v dt) 0 false) (hU9:∀ x,U x→x<w.heap.size) (nm:ByteArray) (a b:Nat) (t:ByteArray) (off:Nat) (v2 d2:Option (List Nat)) (ha:a<9223372036854775808) (hb:b<9223372036854775808) (ht:t.size≤1000000) (hT:cQ w) (hoff:off+3≤8) (hnm:nm.size≤140737488351232) (hre:dN (SDn v dt (fT a b t) (fT a b t)) 0 false dw nm=0∧dQ (SDn v dt (fT a b t) (fT a b t)) 0 false dw nm=SDk v2 d2) :
 Rt prog 29 [.pointer (some ⟨s,0,none⟩),.string nm,.agg (ntV (a:Nat) (b:Nat) t).toArray,.bool true,.pointer (some ⟨s,off,none⟩)] w (fun v w'=>v=.int .i64 0∧Blk w' s 57 (cn (stV d k) off (ntV (a:Nat) (b:Nat) t)).toArray∧cR w' (Nx U w w') d (SDk v2 d2) 0 false∧Chg (fun x=>U x∨x=s) w w'):=by
 have hsl:=hs.lt;refine enter (n:=33) Tryd.func29 rfl rfl rfl (ag (ab (de (v:=.agg _) rfl ?_)));intro b7 w1 E7 hb7 hk7;refine asi rfl (ah (ae (ag (ag (ab (mvp rfl (aa (az rfl) (aa (af gP rfl) (aa (ao fD rfl (by exact (hs.from_ (ai.rfl_.next E7)).rd 7 rfl)) ?_)))))))));refine aa (bx (bl rfl) rfl) (ah (ae (aY rfl (aC (ae (ag (ag (ab (mvb rfl (aa (bx (bl rfl) rfl) (ah (ae (aY rfl (aC (ae (ag (ag (ab ?_))))))))))))))))));refine mvp rfl (mvg rfl (aa (aQ (cs:=[_,_,_]) bD aU rfl (by exact (hk7.from_ ai.rfl_).whole)) ?_));have hz22:=((ai.rfl_.next E7)).size;have hM7:ai _ w1:=ai.rfl_;have hk7b:=hk7.from_ hM7;have hb7U:¬ U b7:=fun h=>by have:=hU9 _ h;have:=hb7;omega
 refine av mS (qD a b t _ ha hb ht (hT.from_ (ai.rfl_.next E7))) ?_;rintro v22 w2 ⟨⟨g,rfl,hg22,hk22⟩,E22⟩;replace hk7b:=hk7b.from_ E22;have hB23:ai w w2:=((ai.rfl_.next E7).next E22);have hz23:=hB23.size;have hsN0:∀ w3,¬ Nx U w2 w3 s:=fun _ h=>h.elim hsU fun h=>by have:=hsl;omega
 refine av mT (px s d k U _ (hs.from_ ((ai.rfl_.next E7).next E22)) hsU v dt (hd.from_ ((ai.rfl_.next E7).next E22)) nm _ _ _ (fT a b t) v2 d2 (RB.blkC hk22 (im a b t) (by omega) (ou a b t)) (im a b t).symm (by rw [im];omega) (fun _ q hq h=>by have h1:=hU9 q h;have h2:g=q:=Option.some.inj hq;have h3:=hz22;omega) hnm hre) ?_;rintro v23 w3 ⟨rfl,hs2,hd23,hC23⟩;have hc23:Chg U w w3:=(ai.toChg (U:=U) hB23).next hC23;have hk7:=hk7b.chg hC23 hb7U;have hsN:=hsN0 w3;refine asi rfl (ah (ae (ag (ab (mvi rfl (aa (bx (cc rfl rfl) rfl) (ah (ae (aY rfl (aC (ae (ag (ab (mvp rfl (aa (aQ (cs:=[_,_,_]) bD aU rfl (by exact (hk7.from_ ai.rfl_).whole)) ?_)))))))))))))));refine aa (az rfl) (jo (vs:=ntV (a:Nat) (b:Nat) t) (i:=off) aU rfl rfl (by simp [ntV,Value.oneCell']) hs2 (by show off+3≤8;exact hoff) ?_);intro w4 O9 P9;have hdk:=(hd23.chg (O9.toChg (U:=fun x=>x=s) rfl) (fun x hx e=>by rw [show x=s from e] at hx;exact hsN hx)).wide (V:=Nx U w w4) fun x hx _=>hx.imp id fun h=>⟨by have:=hz23;omega,by rw [O9.size];exact h.2⟩
 have hcc:Chg (fun x=>U x∨x=s) w w4:=(hc23.wide fun x hx=>.inl (.inl hx)).next (O9.toChg (.inr rfl));refine ah (ae (ag (ab (asi rfl (ah (ae (aw (bb (v:=.int _ _) rfl rfl (⟨rfl,P9,hdk,hcc⟩)))))))))
theorem fc:aI prog 29=true:=by kernel_rfl
theorem fS:∀ (a0:Int) (a1:Int),prog.built 55 [(0,.int .i64 a0),(1,.int .i64 a1)]=some #[.int .i64 a0,.int .i64 a1,.string ⟨#[]⟩]:=by intros;kernel_rfl
theorem gm:aI prog 23=true:=by kernel_rfl
theorem c8:bQ prog 57 1=some 1:=by kernel_rfl
theorem fe:∀ (a0:Int) (a1:Int) (a2:ByteArray),prog.built 55 [(0,.int .i64 a0),(1,.int .i64 a1),(2,.string a2)]=some #[.int .i64 a0,.int .i64 a1,.string a2]:=by intros;kernel_rfl
theorem gl:aI prog 24=true:=by kernel_rfl
theorem cK:bQ prog 57 2=some 4:=by kernel_rfl
theorem bJ.nx {w w':World} {U:Nat→Prop} {s d:Nat} {k:Kt} (h:bJ w U s d k) (hF:ai w w'):bJ w' (Nx U w w') s d k:=by
 obtain ⟨v,dt,r,x⟩:=h.ex;exact ⟨h.blk.from_ hF,fun e=>e.elim h.ns fun e=>by have:=h.blk.lt;omega,⟨v,dt,r,(x.from_ hF).wide fun k hk _=>.inl hk⟩,fun x hx=>hx.elim (fun hx=>Nat.lt_of_lt_of_le (h.lt x hx) hF.size) And.right,h.ok⟩
theorem mr (a b:Int) (t:ByteArray) (w:World) (h:bK a b t=true):Rt prog 23 [.agg (ntV a b t).toArray] w fun v w'=>v=.bool true∧ai w w':=by
 have:=bn a b t w
 rwa [h] at this
theorem qh (a b:Int) (t:ByteArray) (w:World) (h:bK a b t=false):Rt prog 23 [.agg (ntV a b t).toArray] w fun v w'=>v=.bool false∧ai w w':=by
 have:=bn a b t w
 rwa [h] at this
theorem mv (a b:Int) (t:ByteArray) (w:World) (hs:t.size≤140737488351232) (h:cg a b t=true):Rt prog 24 [.agg (ntV a b t).toArray] w fun v w'=>v=.bool true∧ai w w':=by
 have:=aA a b t w hs
 rwa [h] at this
theorem qi (a b:Int) (t:ByteArray) (w:World) (hs:t.size≤140737488351232) (h:cg a b t=false):Rt prog 24 [.agg (ntV a b t).toArray] w fun v w'=>v=.bool false∧ai w w':=by
 have:=aA a b t w hs
 rwa [h] at this
theorem ln {a b:Int} {t:ByteArray} (h:bK a b t=true):(0≤a∧a<1099511627776)∧0≤b∧b≤7:=by
 unfold bK at h;simp only [Bool.and_eq_true,decide_eq_true_eq] at h;exact ⟨lI.1 h.1,h.2.1,h.2.2.1⟩
theorem lr {a b:Int} {t:ByteArray} (h:cg a b t=true):(0≤a∧a<1099511627776)∧(0≤b∧b<1099511627776)∧t.size≤524288:=by
 unfold cg at h;simp only [Bool.and_eq_true,decide_eq_true_eq] at h;exact ⟨lI.1 h.1,lI.1 h.2.1,by omega⟩
theorem sa {w:World} {s d:Nat} {k:Kt} (h:Blk w s 57 (stV d k).toArray):w.rangeAt s (0+1) (ntV k.a k.b ⟨#[]⟩):=h.range 1 _ (fun j v hj=>by
 match j,hj with
 |0,hj=>exact hj
 |1,hj=>exact hj
 |2,hj=>exact hj
 |j+3,hj=>simp [ntV] at hj)
theorem sb {w:World} {s d:Nat} {k:Kt} (h:Blk w s 57 (stV d k).toArray):w.rangeAt s (0+4) (ntV k.i k.o k.t):=h.range 4 _ (fun j v hj=>by
 match j,hj with
 |0,hj=>exact hj
 |1,hj=>exact hj
 |2,hj=>exact hj
 |j+3,hj=>simp [ntV] at hj)
theorem ng (s d:Nat) (k:Kt) (U:Nat→Prop) (w:World) (h:bJ w U s d k) (a b:Int) (hv:bK a b ⟨#[]⟩=false) :
 Rt prog 15 [.pointer (some ⟨s,0,none⟩),.int .i64 a,.int .i64 b] w (fun v w'=>v=.int .i64 1∧ai w w'):=by
 refine enter (n:=19) Tryd.func15 rfl rfl rfl (ag (ab (asi rfl (ah (ae (ag (ab (mvi rfl (mvi rfl (aa (bW (l:=[(0,.tmp 8),(1,.tmp 9)]) (fS _ _)) (cM dh ?_)))))))))));intro b7 w1 E7 hb7 hk7;have hl7:=hk7.lt;have hg7:w.heap.size≤b7:=by rw [hb7];exact (ai.rfl_).size
 refine bh (vs:=[_,_,_]) aU rfl rfl (by simp [Value.oneCell']) (hk7) rfl ?_;intro w2 O1 P1;refine ah (ae (ag ?_));apply gh 9 [(11,eqp _),(12,eqp _),(13,eqp _),(14,eqp _),(15,eqp _),(16,eqp _),(17,eqp _),(18,eqp _),(6,eqp _)] (by kernel_rfl) (by kernel_rfl) ⟨aj _,aj _,aj _,aj _,aj _,aj _,aj _,aj _,aj _,trivial⟩
 case hop=>
  constructor
  ·intro w4 D4;exact an (aB (v:=.pointer _) rfl) rfl
  constructor
  ·intro w5 D5;exact an (aQ (cs:=[_,_,_]) bD aU rfl (by exact (P1.from_ (ai.rfl_.next D5)).whole)) rfl
  constructor
  ·intro w6 D6;exact an (aQ (cs:=[_,_,_]) bD aU rfl (by exact (P1.from_ (ai.rfl_.next D6)).whole)) rfl
  constructor
  ·intro w7 D7;rintro _ rfl;refine dZ gm ((qh a b ⟨#[]⟩ _ hv).mono ?_);rintro v _ ⟨rfl,E7'⟩;exact ⟨E7',rfl⟩
  constructor
  ·intro w8 D8;exact an (aB (v:=.pointer _) rfl) rfl
  constructor
  ·intro w9 D9;rintro _ rfl;exact an (az rfl) rfl
  constructor
  ·intro w10 D10;rintro _ rfl;exact an (af c8 rfl) rfl
  constructor
  ·intro w11 D11;rintro _ rfl _ rfl _ rfl _ rfl;refine dZ fc ((jK s d k U _ (h.blk.from_ (((ai.rfl_.next E7).only O1 (hg7)).next D11)) h.ns _ _ _ _ _).mono ?_);rintro v _ ⟨rfl,E11'⟩;exact ⟨E11',rfl⟩
  constructor
  ·intro w12 D12;rintro _ rfl;exact an (bI (v:=.int _ _) rfl) rfl
  exact trivial
 case hend=>
  intro w13 D13;rintro _ rfl _ rfl _ rfl _ rfl _ rfl _ rfl _ rfl _ rfl _ rfl;show St ..;refine ah (ae (aw (bb (v:=.int _ _) rfl rfl (⟨rfl,(((ai.rfl_.next E7).only O1 (hg7)).next D13)⟩))))
theorem nf (s d:Nat) (k:Kt) (U:Nat→Prop) (w:World) (h:bJ w U s d k) (a b:Nat) (hv:bK (a:Nat) (b:Nat) ⟨#[]⟩=true) (hT:cQ w) :
 Rt prog 15 [.pointer (some ⟨s,0,none⟩),.int .i64 (a:Nat),.int .i64 (b:Nat)] w (fun v w'=>v=.int .i64 0∧bJ w' (Nx U w w') s d { k with a:=(a:Nat),b:=(b:Nat) }∧Chg (fun x=>U x∨x=s) w w'):=by
 obtain ⟨v,dt,hr,hd⟩:=h.ex;have hsl:=h.blk.lt;have hvn:=ln hv;refine enter (n:=19) Tryd.func15 rfl rfl rfl (ag (ab (asi rfl (ah (ae (ag (ab (mvi rfl (mvi rfl (aa (bW (l:=[(0,.tmp 8),(1,.tmp 9)]) (fS _ _)) (cM dh ?_)))))))))));intro b7 w1 E7 hb7 hk7;have hl7:=hk7.lt;have hg7:w.heap.size≤b7:=by rw [hb7];exact (ai.rfl_).size
 refine bh (vs:=[_,_,_]) aU rfl rfl (by simp [Value.oneCell']) (hk7) rfl ?_;intro w2 O1 P1;refine ah (ae (ag ?_));apply fL [(0,11,fun _ v _=>v=_),(1,12,fun _ v _=>v=_),(2,13,fun _ v _=>v=_),(3,14,fun _ v _=>v=_),(4,15,fun _ v _=>v=_),(5,16,fun _ v _=>v=_),(6,17,fun _ v _=>v=_),(7,18,fun _ v _=>v=_),(8,6,fun _ v _=>v=_)] [7] (fun S w'=>(S 7=false→ai w2 w')∧(S 7=true→Blk w' s 57 (cn (stV d k) (0+1) (ntV (a:Nat) (b:Nat) ⟨#[]⟩)).toArray∧cR w' (Nx U w w') d (SDk (some (fT a b ⟨#[]⟩)) dt) 0 false∧Chg (fun x=>U x∨x=s) w w')) (by kernel_rfl) (by kernel_rfl) rfl rfl ⟨fun _ _ _ _ _ _ _ h=>h,fun _ _ _ _ _ _ _ h=>h,fun _ _ _ _ _ _ _ h=>h,fun _ _ _ _ _ _ _ h=>h,fun _ _ _ _ _ _ _ h=>h,fun _ _ _ _ _ _ _ h=>h,fun _ _ _ _ _ _ _ h=>h,fun _ _ _ _ _ _ _ h=>h,fun _ _ _ _ _ _ _ h=>h,trivial⟩ (fun S i w1 w2 hq hF h=>⟨fun h0=>(h.1 (jB h0)).next hF,fun h1=>(fun h=>⟨h.1.from_ hF,(h.2.1.from_ hF).wide (fun x hx _=>hx.imp id fun h=>⟨h.1,Nat.lt_of_lt_of_le h.2 hF.size⟩),h.2.2.next hF.toChg⟩) (h.2 (ky (show 7≠i by rintro rfl;exact absurd hq (by decide)) h1))⟩) ⟨fun _=>ai.rfl_.d1,fun h=>by cases h⟩
 case hstep=>
  constructor
  ·rintro S L' w3 hU hmo hme hI hM hC hS ⟨-⟩;have hS0:S 7=false:=(ay hC (j:=7) rfl (by kernel_rfl) hS);have hM3:=hM.1 hS0;have e0:=hI.1 0 (eO rfl);exact aO [(0,_)] hU hmo hme hI hM (.head _) rfl rfl (by kernel_rfl) ⟨e0,trivial⟩ (aB (v:=.pointer _) rfl) ai.rfl_ (rfl)
  constructor
  ·rintro S L' w4 hU hmo hme hI hM hC hS ⟨-⟩;have hS0:S 7=false:=(ay hC (j:=7) rfl (by kernel_rfl) hS);have hM4:=hM.1 hS0;have e7:=hI.1 7 (eO rfl);exact aO [(7,_)] hU hmo hme hI hM (.tail _ (.head _)) rfl rfl (by kernel_rfl) ⟨e7,trivial⟩ (aQ (cs:=[_,_,_]) bD aU rfl (by exact (P1.from_ (ai.rfl_.next hM4)).whole)) ai.rfl_ (rfl)
  constructor
  ·rintro S L' w5 hU hmo hme hI hM hC hS ⟨-⟩;have hS0:S 7=false:=(ay hC (j:=7) rfl (by kernel_rfl) (ay hC (j:=3) rfl (by kernel_rfl) hS));have hM5:=hM.1 hS0;have e7:=hI.1 7 (eO rfl);exact aO [(7,_)] hU hmo hme hI hM (.tail _ (.tail _ (.head _))) rfl rfl (by kernel_rfl) ⟨e7,trivial⟩ (aQ (cs:=[_,_,_]) bD aU rfl (by exact (P1.from_ (ai.rfl_.next hM5)).whole)) ai.rfl_ (rfl)
  constructor
  ·rintro S L' w6 hU hmo hme hI hM hC hS ⟨d2,-⟩;have hS0:S 7=false:=(ay hC (j:=7) rfl (by kernel_rfl) hS);have hM6:=hM.1 hS0;obtain ⟨v6_13,e13,h13⟩:=hI.get (i:=2) (.tail _ (.tail _ (.head _))) d2;obtain rfl:=h13;refine eL (al:=[.tmp 13]) [(13,_)] hU hmo hme hI hM (.tail _ (.tail _ (.tail _ (.head _)))) rfl (by kernel_rfl) ⟨e13,trivial⟩ gm ((mr (a:Nat) (b:Nat) ⟨#[]⟩ _ hv).mono ?_);rintro v w2 ⟨rfl,E6'⟩;exact ⟨E6',rfl⟩
  constructor
  ·rintro S L' w7 hU hmo hme hI hM hC hS ⟨-⟩;have hS0:S 7=false:=(ay hC (j:=7) rfl (by kernel_rfl) (ay hC (j:=6) rfl (by kernel_rfl) (ay hC (j:=5) rfl (by kernel_rfl) hS)));have hM7:=hM.1 hS0;have e0:=hI.1 0 (eO rfl);exact aO [(0,_)] hU hmo hme hI hM (.tail _ (.tail _ (.tail _ (.tail _ (.head _))))) rfl rfl (by kernel_rfl) ⟨e0,trivial⟩ (aB (v:=.pointer _) rfl) ai.rfl_ (rfl)
  constructor
  ·rintro S L' w8 hU hmo hme hI hM hC hS ⟨d4,-⟩;have hS0:S 7=false:=(ay hC (j:=7) rfl (by kernel_rfl) (ay hC (j:=6) rfl (by kernel_rfl) hS));have hM8:=hM.1 hS0;obtain ⟨v8_15,e15,h15⟩:=hI.get (i:=4) (.tail _ (.tail _ (.tail _ (.tail _ (.head _))))) d4;obtain rfl:=h15;exact aO [(15,_)] hU hmo hme hI hM (.tail _ (.tail _ (.tail _ (.tail _ (.tail _ (.head _)))))) rfl rfl (by kernel_rfl) ⟨e15,trivial⟩ (az rfl) ai.rfl_ (rfl)
  constructor
  ·rintro S L' w9 hU hmo hme hI hM hC hS ⟨d5,-⟩;have hS0:S 7=false:=(ay hC (j:=7) rfl (by kernel_rfl) hS);have hM9:=hM.1 hS0;obtain ⟨v9_16,e16,h16⟩:=hI.get (i:=5) (.tail _ (.tail _ (.tail _ (.tail _ (.tail _ (.head _)))))) d5;obtain rfl:=h16;exact aO [(16,_)] hU hmo hme hI hM (.tail _ (.tail _ (.tail _ (.tail _ (.tail _ (.tail _ (.head _))))))) rfl rfl (by kernel_rfl) ⟨e16,trivial⟩ (af c8 rfl) ai.rfl_ (rfl)
  constructor
  ·rintro S L' w10 hU hmo hme hI hM hC hS ⟨d0,d1,d3,d6,d3,-⟩;have hS0:S 7=false:=hS;have hM10:=hM.1 hS0;obtain ⟨v10_11,e11,h11⟩:=hI.get (i:=0) (.head _) d0;obtain rfl:=h11;obtain ⟨v10_12,e12,h12⟩:=hI.get (i:=1) (.tail _ (.head _)) d1;obtain rfl:=h12;obtain ⟨v10_14,e14,h14⟩:=hI.get (i:=3) (.tail _ (.tail _ (.tail _ (.head _)))) d3;obtain rfl:=h14;obtain ⟨v10_17,e17,h17⟩:=hI.get (i:=6) (.tail _ (.tail _ (.tail _ (.tail _ (.tail _ (.tail _ (.head _))))))) d6;obtain rfl:=h17;refine eM (al:=[.tmp 11,.const (.string ey),.tmp 12,.tmp 14,.tmp 17]) [(11,_),(12,_),(14,_),(17,_)] hU hI (.tail _ (.tail _ (.tail _ (.tail _ (.tail _ (.tail _ (.tail _ (.head _)))))))) (by kernel_rfl) ⟨e11,e12,e14,e17,trivial⟩ fc ((jJ s d k U _ (h.blk.from_ (((ai.rfl_.next E7).only O1 (hg7)).next hM10)) h.ns v dt (hd.from_ (((ai.rfl_.next E7).only O1 (hg7)).next hM10)) (fun x hx=>Nat.lt_of_lt_of_le (h.lt x hx) ((((ai.rfl_.next E7).only O1 (hg7)).next hM10)).size) ey a b ⟨#[]⟩ (0+1) _ _ (by omega) (by omega) (by decide) (hT.from_ (((ai.rfl_.next E7).only O1 (hg7)).next hM10)) (by decide) (by decide) qW).mono ?_);rintro v9 w2 ⟨rfl,hb2,hd2,hC2⟩;exact ⟨⟨fun h0=>(by rw [kz] at h0;cases h0),fun _=>⟨hb2,hd2.wide fun x hx _=>oe hx ((((ai.rfl_.next E7).only O1 (hg7)).next hM10)).size,(ai.toChg (U:=fun x=>U x∨x=s) (((ai.rfl_.next E7).only O1 (hg7)).next hM10)).next hC2⟩⟩,rfl,⟨fun _ _ _ h=>h,fun _ _ _ h=>h,fun _ _ _ h=>h,fun _ _ _ h=>h,fun _ _ _ h=>h,fun _ _ _ h=>h,fun _ _ _ h=>h,fun _ _ _ h=>h,fun _ _ _ h=>h,trivial⟩⟩
  constructor
  ·rintro S L' w11 hU hmo hme hI hM hC hS ⟨d7,d7,d0,d1,d2,d3,d4,d5,d6,d7,-⟩;obtain ⟨v11_18,e18,h18⟩:=hI.get (i:=7) (.tail _ (.tail _ (.tail _ (.tail _ (.tail _ (.tail _ (.tail _ (.head _)))))))) d7;obtain rfl:=h18;exact aO [(18,_)] hU hmo hme hI hM (.tail _ (.tail _ (.tail _ (.tail _ (.tail _ (.tail _ (.tail _ (.tail _ (.head _))))))))) rfl rfl (by kernel_rfl) ⟨e18,trivial⟩ (bI (v:=.int _ _) rfl) ai.rfl_ (rfl)
  exact trivial
 case hend=>
  intro w12 hM;obtain ⟨hs9,hd9,hc9⟩:=hM.2 rfl;rintro v12_11 rfl v12_12 rfl v12_13 rfl v12_14 rfl v12_15 rfl v12_16 rfl v12_17 rfl v12_18 rfl v12_6 rfl;refine eT (ae (aw (bb (v:=.int _ _) rfl rfl (⟨rfl,⟨hs9.from_ ai.rfl_,fun e=>e.elim h.ns fun e=>by omega,⟨_,_,⟨.inr rfl,hr.2⟩,(hd9.from_ ai.rfl_)⟩,fun x hx=>hx.elim (fun hx=>Nat.lt_of_lt_of_le (h.lt x hx) hc9.size) And.right,⟨hv,h.ok.2⟩⟩,hc9⟩))))
theorem ni (s d:Nat) (k:Kt) (U:Nat→Prop) (w:World) (h:bJ w U s d k) (a b:Int) (t:ByteArray) (hts:t.size≤140737488351232) (hv:cg a b t=false) :
 Rt prog 16 [.pointer (some ⟨s,0,none⟩),.int .i64 a,.int .i64 b,.string t] w (fun v w'=>v=.int .i64 1∧ai w w'):=by
 refine enter (n:=22) Tryd.func16 rfl rfl rfl (ag (ab (asi rfl (ah (ae (ag (ab (mvi rfl (mvi rfl (mvg rfl (aa (bW (l:=[(0,.tmp 10),(1,.tmp 11),(2,.tmp 12)]) (fe _ _ _)) (cM dh ?_))))))))))));intro b9 w1 E9 hb9 hk9;have hl9:=hk9.lt;have hg9:w.heap.size≤b9:=by rw [hb9];exact (ai.rfl_).size
 refine bh (vs:=[_,_,_]) aU rfl rfl (by simp [Value.oneCell']) (hk9) rfl ?_;intro w2 O1 P1;refine ah (ae (ag ?_));apply gh 9 [(14,eqp _),(15,eqp _),(16,eqp _),(17,eqp _),(18,eqp _),(19,eqp _),(20,eqp _),(21,eqp _),(8,eqp _)] (by kernel_rfl) (by kernel_rfl) ⟨aj _,aj _,aj _,aj _,aj _,aj _,aj _,aj _,aj _,trivial⟩
 case hop=>
  constructor
  ·intro w4 D4;exact an (aB (v:=.pointer _) rfl) rfl
  constructor
  ·intro w5 D5;exact an (aQ (cs:=[_,_,_]) bD aU rfl (by exact (P1.from_ (ai.rfl_.next D5)).whole)) rfl
  constructor
  ·intro w6 D6;exact an (aQ (cs:=[_,_,_]) bD aU rfl (by exact (P1.from_ (ai.rfl_.next D6)).whole)) rfl
  constructor
  ·intro w7 D7;rintro _ rfl;refine dZ gl ((qi a b t _ (by omega) hv).mono ?_);rintro v _ ⟨rfl,E7'⟩;exact ⟨E7',rfl⟩
  constructor
  ·intro w8 D8;exact an (aB (v:=.pointer _) rfl) rfl
  constructor
  ·intro w9 D9;rintro _ rfl;exact an (az rfl) rfl
  constructor
  ·intro w10 D10;rintro _ rfl;exact an (af cK rfl) rfl
  constructor
  ·intro w11 D11;rintro _ rfl _ rfl _ rfl _ rfl;refine dZ fc ((jK s d k U _ (h.blk.from_ (((ai.rfl_.next E9).only O1 (hg9)).next D11)) h.ns _ _ _ _ _).mono ?_);rintro v _ ⟨rfl,E11'⟩;exact ⟨E11',rfl⟩
  constructor
  ·intro w12 D12;rintro _ rfl;exact an (bI (v:=.int _ _) rfl) rfl
  exact trivial
 case hend=>
  intro w13 D13;rintro _ rfl _ rfl _ rfl _ rfl _ rfl _ rfl _ rfl _ rfl _ rfl;show St ..;refine ah (ae (aw (bb (v:=.int _ _) rfl rfl (⟨rfl,(((ai.rfl_.next E9).only O1 (hg9)).next D13)⟩))))
theorem nh (s d:Nat) (k:Kt) (U:Nat→Prop) (w:World) (h:bJ w U s d k) (a b:Nat) (t:ByteArray) (hv:cg (a:Nat) (b:Nat) t=true) (hT:cQ w) :
 Rt prog 16 [.pointer (some ⟨s,0,none⟩),.int .i64 (a:Nat),.int .i64 (b:Nat),.string t] w (fun v w'=>v=.int .i64 0∧bJ w' (Nx U w w') s d { k with i:=(a:Nat),o:=(b:Nat),t:=t }∧Chg (fun x=>U x∨x=s) w w'):=by
 obtain ⟨v,dt,hr,hd⟩:=h.ex;have hsl:=h.blk.lt;have hvn:=lr hv;refine enter (n:=22) Tryd.func16 rfl rfl rfl (ag (ab (asi rfl (ah (ae (ag (ab (mvi rfl (mvi rfl (mvg rfl (aa (bW (l:=[(0,.tmp 10),(1,.tmp 11),(2,.tmp 12)]) (fe _ _ _)) (cM dh ?_))))))))))));intro b9 w1 E9 hb9 hk9;have hl9:=hk9.lt;have hg9:w.heap.size≤b9:=by rw [hb9];exact (ai.rfl_).size
 refine bh (vs:=[_,_,_]) aU rfl rfl (by simp [Value.oneCell']) (hk9) rfl ?_;intro w2 O1 P1;refine ah (ae (ag ?_));apply fL [(0,14,fun _ v _=>v=_),(1,15,fun _ v _=>v=_),(2,16,fun _ v _=>v=_),(3,17,fun _ v _=>v=_),(4,18,fun _ v _=>v=_),(5,19,fun _ v _=>v=_),(6,20,fun _ v _=>v=_),(7,21,fun _ v _=>v=_),(8,8,fun _ v _=>v=_)] [7] (fun S w'=>(S 7=false→ai w2 w')∧(S 7=true→Blk w' s 57 (cn (stV d k) (0+4) (ntV (a:Nat) (b:Nat) t)).toArray∧cR w' (Nx U w w') d (SDk v (some (fT a b t))) 0 false∧Chg (fun x=>U x∨x=s) w w')) (by kernel_rfl) (by kernel_rfl) rfl rfl ⟨fun _ _ _ _ _ _ _ h=>h,fun _ _ _ _ _ _ _ h=>h,fun _ _ _ _ _ _ _ h=>h,fun _ _ _ _ _ _ _ h=>h,fun _ _ _ _ _ _ _ h=>h,fun _ _ _ _ _ _ _ h=>h,fun _ _ _ _ _ _ _ h=>h,fun _ _ _ _ _ _ _ h=>h,fun _ _ _ _ _ _ _ h=>h,trivial⟩ (fun S i w1 w2 hq hF h=>⟨fun h0=>(h.1 (jB h0)).next hF,fun h1=>(fun h=>⟨h.1.from_ hF,(h.2.1.from_ hF).wide (fun x hx _=>hx.imp id fun h=>⟨h.1,Nat.lt_of_lt_of_le h.2 hF.size⟩),h.2.2.next hF.toChg⟩) (h.2 (ky (show 7≠i by rintro rfl;exact absurd hq (by decide)) h1))⟩) ⟨fun _=>ai.rfl_.d1,fun h=>by cases h⟩
 case hstep=>
  constructor
  ·rintro S L' w3 hU hmo hme hI hM hC hS ⟨-⟩;have hS0:S 7=false:=(ay hC (j:=7) rfl (by kernel_rfl) hS);have hM3:=hM.1 hS0;have e0:=hI.1 0 (eO rfl);exact aO [(0,_)] hU hmo hme hI hM (.head _) rfl rfl (by kernel_rfl) ⟨e0,trivial⟩ (aB (v:=.pointer _) rfl) ai.rfl_ (rfl)
  constructor
  ·rintro S L' w4 hU hmo hme hI hM hC hS ⟨-⟩;have hS0:S 7=false:=(ay hC (j:=7) rfl (by kernel_rfl) hS);have hM4:=hM.1 hS0;have e9:=hI.1 9 (eO rfl);exact aO [(9,_)] hU hmo hme hI hM (.tail _ (.head _)) rfl rfl (by kernel_rfl) ⟨e9,trivial⟩ (aQ (cs:=[_,_,_]) bD aU rfl (by exact (P1.from_ (ai.rfl_.next hM4)).whole)) ai.rfl_ (rfl)
  constructor
  ·rintro S L' w5 hU hmo hme hI hM hC hS ⟨-⟩;have hS0:S 7=false:=(ay hC (j:=7) rfl (by kernel_rfl) (ay hC (j:=3) rfl (by kernel_rfl) hS));have hM5:=hM.1 hS0;have e9:=hI.1 9 (eO rfl);exact aO [(9,_)] hU hmo hme hI hM (.tail _ (.tail _ (.head _))) rfl rfl (by kernel_rfl) ⟨e9,trivial⟩ (aQ (cs:=[_,_,_]) bD aU rfl (by exact (P1.from_ (ai.rfl_.next hM5)).whole)) ai.rfl_ (rfl)
  constructor
  ·rintro S L' w6 hU hmo hme hI hM hC hS ⟨d2,-⟩;have hS0:S 7=false:=(ay hC (j:=7) rfl (by kernel_rfl) hS);have hM6:=hM.1 hS0;obtain ⟨v6_16,e16,h16⟩:=hI.get (i:=2) (.tail _ (.tail _ (.head _))) d2;obtain rfl:=h16;refine eL (al:=[.tmp 16]) [(16,_)] hU hmo hme hI hM (.tail _ (.tail _ (.tail _ (.head _)))) rfl (by kernel_rfl) ⟨e16,trivial⟩ gl ((mv (a:Nat) (b:Nat) t _ (by omega) hv).mono ?_);rintro v w2 ⟨rfl,E6'⟩;exact ⟨E6',rfl⟩
  constructor
  ·rintro S L' w7 hU hmo hme hI hM hC hS ⟨-⟩;have hS0:S 7=false:=(ay hC (j:=7) rfl (by kernel_rfl) (ay hC (j:=6) rfl (by kernel_rfl) (ay hC (j:=5) rfl (by kernel_rfl) hS)));have hM7:=hM.1 hS0;have e0:=hI.1 0 (eO rfl);exact aO [(0,_)] hU hmo hme hI hM (.tail _ (.tail _ (.tail _ (.tail _ (.head _))))) rfl rfl (by kernel_rfl) ⟨e0,trivial⟩ (aB (v:=.pointer _) rfl) ai.rfl_ (rfl)
  constructor
  ·rintro S L' w8 hU hmo hme hI hM hC hS ⟨d4,-⟩;have hS0:S 7=false:=(ay hC (j:=7) rfl (by kernel_rfl) (ay hC (j:=6) rfl (by kernel_rfl) hS));have hM8:=hM.1 hS0;obtain ⟨v8_18,e18,h18⟩:=hI.get (i:=4) (.tail _ (.tail _ (.tail _ (.tail _ (.head _))))) d4;obtain rfl:=h18;exact aO [(18,_)] hU hmo hme hI hM (.tail _ (.tail _ (.tail _ (.tail _ (.tail _ (.head _)))))) rfl rfl (by kernel_rfl) ⟨e18,trivial⟩ (az rfl) ai.rfl_ (rfl)
  constructor
  ·rintro S L' w9 hU hmo hme hI hM hC hS ⟨d5,-⟩;have hS0:S 7=false:=(ay hC (j:=7) rfl (by kernel_rfl) hS);have hM9:=hM.1 hS0;obtain ⟨v9_19,e19,h19⟩:=hI.get (i:=5) (.tail _ (.tail _ (.tail _ (.tail _ (.tail _ (.head _)))))) d5;obtain rfl:=h19;exact aO [(19,_)] hU hmo hme hI hM (.tail _ (.tail _ (.tail _ (.tail _ (.tail _ (.tail _ (.head _))))))) rfl rfl (by kernel_rfl) ⟨e19,trivial⟩ (af cK rfl) ai.rfl_ (rfl)
  constructor
  ·rintro S L' w10 hU hmo hme hI hM hC hS ⟨d0,d1,d3,d6,d3,-⟩;have hS0:S 7=false:=hS;have hM10:=hM.1 hS0;obtain ⟨v10_14,e14,h14⟩:=hI.get (i:=0) (.head _) d0;obtain rfl:=h14;obtain ⟨v10_15,e15,h15⟩:=hI.get (i:=1) (.tail _ (.head _)) d1;obtain rfl:=h15;obtain ⟨v10_17,e17,h17⟩:=hI.get (i:=3) (.tail _ (.tail _ (.tail _ (.head _)))) d3;obtain rfl:=h17;obtain ⟨v10_20,e20,h20⟩:=hI.get (i:=6) (.tail _ (.tail _ (.tail _ (.tail _ (.tail _ (.tail _ (.head _))))))) d6;obtain rfl:=h20;refine eM (al:=[.tmp 14,.const (.string ez),.tmp 15,.tmp 17,.tmp 20]) [(14,_),(15,_),(17,_),(20,_)] hU hI (.tail _ (.tail _ (.tail _ (.tail _ (.tail _ (.tail _ (.tail _ (.head _)))))))) (by kernel_rfl) ⟨e14,e15,e17,e20,trivial⟩ fc ((jJ s d k U _ (h.blk.from_ (((ai.rfl_.next E9).only O1 (hg9)).next hM10)) h.ns v dt (hd.from_ (((ai.rfl_.next E9).only O1 (hg9)).next hM10)) (fun x hx=>Nat.lt_of_lt_of_le (h.lt x hx) ((((ai.rfl_.next E9).only O1 (hg9)).next hM10)).size) ez a b t (0+4) _ _ (by omega) (by omega) (by omega) (hT.from_ (((ai.rfl_.next E9).only O1 (hg9)).next hM10)) (by decide) (by decide) qX).mono ?_);rintro v9 w2 ⟨rfl,hb2,hd2,hC2⟩;exact ⟨⟨fun h0=>(by rw [kz] at h0;cases h0),fun _=>⟨hb2,hd2.wide fun x hx _=>oe hx ((((ai.rfl_.next E9).only O1 (hg9)).next hM10)).size,(ai.toChg (U:=fun x=>U x∨x=s) (((ai.rfl_.next E9).only O1 (hg9)).next hM10)).next hC2⟩⟩,rfl,⟨fun _ _ _ h=>h,fun _ _ _ h=>h,fun _ _ _ h=>h,fun _ _ _ h=>h,fun _ _ _ h=>h,fun _ _ _ h=>h,fun _ _ _ h=>h,fun _ _ _ h=>h,fun _ _ _ h=>h,trivial⟩⟩
  constructor
  ·rintro S L' w11 hU hmo hme hI hM hC hS ⟨d7,d7,d0,d1,d2,d3,d4,d5,d6,d7,-⟩;obtain ⟨v11_21,e21,h21⟩:=hI.get (i:=7) (.tail _ (.tail _ (.tail _ (.tail _ (.tail _ (.tail _ (.tail _ (.head _)))))))) d7;obtain rfl:=h21;exact aO [(21,_)] hU hmo hme hI hM (.tail _ (.tail _ (.tail _ (.tail _ (.tail _ (.tail _ (.tail _ (.tail _ (.head _))))))))) rfl rfl (by kernel_rfl) ⟨e21,trivial⟩ (bI (v:=.int _ _) rfl) ai.rfl_ (rfl)
  exact trivial
 case hend=>
  intro w12 hM;obtain ⟨hs9,hd9,hc9⟩:=hM.2 rfl;rintro v12_14 rfl v12_15 rfl v12_16 rfl v12_17 rfl v12_18 rfl v12_19 rfl v12_20 rfl v12_21 rfl v12_8 rfl;refine eT (ae (aw (bb (v:=.int _ _) rfl rfl (⟨rfl,⟨hs9.from_ ai.rfl_,fun e=>e.elim h.ns fun e=>by omega,⟨_,_,⟨hr.1,.inr rfl⟩,(hd9.from_ ai.rfl_)⟩,fun x hx=>hx.elim (fun hx=>Nat.lt_of_lt_of_le (h.lt x hx) hc9.size) And.right,⟨h.ok.1,hv⟩⟩,hc9⟩))))
theorem eN (s d:Nat) (k:Kt) (U:Nat→Prop) (w:World) (h:bJ w U s d k) (a b:Int) (hT:cQ w):Rt prog 15 [.pointer (some ⟨s,0,none⟩),.int .i64 a,.int .i64 b] w fun v w'=>v=.int .i64 (if bK a b ⟨#[]⟩ then 0 else 1)∧bJ w' (Nx U w w') s d (if bK a b ⟨#[]⟩ then { k with a:=a,b:=b } else k)∧Chg (fun x=>U x∨x=s) w w':=by
 cases hv:bK a b ⟨#[]⟩ with
 |false=>exact (ng s d k U w h a b hv).mono fun v w' ⟨e,hF⟩=>⟨e,h.nx hF,hF.toChg⟩
 |true=>
  have hn:=ln hv;obtain ⟨x,rfl⟩:=Int.eq_ofNat_of_zero_le hn.1.1;obtain ⟨y,rfl⟩:=Int.eq_ofNat_of_zero_le hn.2.1;exact nf s d k U w h x y hv hT
theorem gS (s d:Nat) (k:Kt) (U:Nat→Prop) (w:World) (h:bJ w U s d k) (a b:Int) (t:ByteArray) (hts:t.size≤140737488351232) (hT:cQ w):Rt prog 16 [.pointer (some ⟨s,0,none⟩),.int .i64 a,.int .i64 b,.string t] w fun v w'=>v=.int .i64 (if cg a b t then 0 else 1)∧bJ w' (Nx U w w') s d (if cg a b t then { k with i:=a,o:=b,t:=t } else k)∧Chg (fun x=>U x∨x=s) w w':=by
 cases hv:cg a b t with
 |false=>exact (ni s d k U w h a b t hts hv).mono fun v w' ⟨e,hF⟩=>⟨e,h.nx hF,hF.toChg⟩
 |true=>
  have hn:=lr hv;obtain ⟨x,rfl⟩:=Int.eq_ofNat_of_zero_le hn.1.1;obtain ⟨y,rfl⟩:=Int.eq_ofNat_of_zero_le hn.2.1.1;exact nh s d k U w h x y t hv hT
theorem nU (s d:Nat) (k:Kt) (U:Nat→Prop) (w:World) (h:bJ w U s d k) :
 Rt prog 25 [.pointer (some ⟨s,0,none⟩)] w (fun v w'=>v=.tuple #[.int .i64 k.a,.int .i64 k.b]∧ai w w'):=by
 refine enter (n:=14) Tryd.func25 rfl rfl rfl (ag (ab (asi rfl (asi rfl (ah (ae (ag ?_)))))));apply gh 12 [(4,eqp _),(5,eqp _),(6,eqp _),(7,eqp _),(8,eqp _),(9,eqp _),(10,eqp _),(11,eqp _),(12,eqp _),(13,eqp _),(2,eqp _),(3,eqp _)] (by kernel_rfl) (by kernel_rfl) ⟨aj _,aj _,aj _,aj _,aj _,aj _,aj _,aj _,aj _,aj _,aj _,aj _,trivial⟩
 case hop=>
  constructor
  ·intro w2 D2;exact an (aB (v:=.pointer _) rfl) rfl
  constructor
  ·intro w3 D3;rintro _ rfl;exact an (az rfl) rfl
  constructor
  ·intro w4 D4;rintro _ rfl;exact an (af c8 rfl) rfl
  constructor
  ·intro w5 D5;rintro _ rfl;exact an (af dL rfl) rfl
  constructor
  ·intro w6 D6;rintro _ rfl;exact an (ao aL rfl (by exact (h.blk.from_ (ai.rfl_.next D6)).rd 1 rfl)) rfl
  constructor
  ·intro w7 D7;exact an (aB (v:=.pointer _) rfl) rfl
  constructor
  ·intro w8 D8;rintro _ rfl;exact an (az rfl) rfl
  constructor
  ·intro w9 D9;rintro _ rfl;exact an (af c8 rfl) rfl
  constructor
  ·intro w10 D10;rintro _ rfl;exact an (af dq rfl) rfl
  constructor
  ·intro w11 D11;rintro _ rfl;exact an (ao aL rfl (by exact (h.blk.from_ (ai.rfl_.next D11)).rd 2 rfl)) rfl
  constructor
  ·intro w12 D12;rintro _ rfl;exact an (bI (v:=.int _ _) rfl) rfl
  constructor
  ·intro w13 D13;rintro _ rfl;exact an (bI (v:=.int _ _) rfl) rfl
  exact trivial
 case hend=>
  intro w14 D14;rintro _ rfl _ rfl _ rfl _ rfl _ rfl _ rfl _ rfl _ rfl _ rfl _ rfl _ rfl _ rfl;show St ..;refine ah (ae (aw (eW (v:=.int _ _) (v':=.int _ _) rfl rfl rfl (⟨rfl,(ai.rfl_.next D14)⟩))))
theorem l4 (s d:Nat) (k:Kt) (U:Nat→Prop) (w:World) (h:bJ w U s d k) :
 Rt prog 26 [.pointer (some ⟨s,0,none⟩)] w (fun v w'=>v=.tuple #[.int .i64 k.i,.int .i64 k.o,.string k.t]∧ai w w'):=by
 refine enter (n:=20) Tryd.func26 rfl rfl rfl (ag (ab (asi rfl (asi rfl (asg rfl (ah (ae (ag ?_))))))));apply gh 18 [(5,eqp _),(6,eqp _),(7,eqp _),(8,eqp _),(9,eqp _),(10,eqp _),(11,eqp _),(12,eqp _),(13,eqp _),(14,eqp _),(15,eqp _),(16,eqp _),(17,eqp _),(18,eqp _),(19,eqp _),(2,eqp _),(3,eqp _),(4,eqp _)] (by kernel_rfl) (by kernel_rfl) ⟨aj _,aj _,aj _,aj _,aj _,aj _,aj _,aj _,aj _,aj _,aj _,aj _,aj _,aj _,aj _,aj _,aj _,aj _,trivial⟩
 case hop=>
  constructor
  ·intro w2 D2;exact an (aB (v:=.pointer _) rfl) rfl
  constructor
  ·intro w3 D3;rintro _ rfl;exact an (az rfl) rfl
  constructor
  ·intro w4 D4;rintro _ rfl;exact an (af cK rfl) rfl
  constructor
  ·intro w5 D5;rintro _ rfl;exact an (af dL rfl) rfl
  constructor
  ·intro w6 D6;rintro _ rfl;exact an (ao aL rfl (by exact (h.blk.from_ (ai.rfl_.next D6)).rd 4 rfl)) rfl
  constructor
  ·intro w7 D7;exact an (aB (v:=.pointer _) rfl) rfl
  constructor
  ·intro w8 D8;rintro _ rfl;exact an (az rfl) rfl
  constructor
  ·intro w9 D9;rintro _ rfl;exact an (af cK rfl) rfl
  constructor
  ·intro w10 D10;rintro _ rfl;exact an (af dq rfl) rfl
  constructor
  ·intro w11 D11;rintro _ rfl;exact an (ao aL rfl (by exact (h.blk.from_ (ai.rfl_.next D11)).rd 5 rfl)) rfl
  constructor
  ·intro w12 D12;exact an (aB (v:=.pointer _) rfl) rfl
  constructor
  ·intro w13 D13;rintro _ rfl;exact an (az rfl) rfl
  constructor
  ·intro w14 D14;rintro _ rfl;exact an (af cK rfl) rfl
  constructor
  ·intro w15 D15;rintro _ rfl;exact an (af dK rfl) rfl
  constructor
  ·intro w16 D16;rintro _ rfl;exact an (ao a7 rfl (by exact (h.blk.from_ (ai.rfl_.next D16)).rd 6 rfl)) rfl
  constructor
  ·intro w17 D17;rintro _ rfl;exact an (bI (v:=.int _ _) rfl) rfl
  constructor
  ·intro w18 D18;rintro _ rfl;exact an (bI (v:=.int _ _) rfl) rfl
  constructor
  ·intro w19 D19;rintro _ rfl;exact an (bI (v:=.string _) rfl) rfl
  exact trivial
 case hend=>
  intro w20 D20;rintro _ rfl _ rfl _ rfl _ rfl _ rfl _ rfl _ rfl _ rfl _ rfl _ rfl _ rfl _ rfl _ rfl _ rfl _ rfl _ rfl _ rfl _ rfl;show St ..;refine ah (ae (aw (tr (v:=.int _ _) (v':=.int _ _) (v'':=.string _) rfl rfl rfl rfl (⟨rfl,(ai.rfl_.next D20)⟩))))
theorem nJ:aI prog 32=true:=by kernel_rfl
theorem j7:aI prog 35=true:=by kernel_rfl
theorem mU:prog.built 55 []=some #[.int .i64 0,.int .i64 0,.string ⟨#[]⟩]:=by kernel_rfl
theorem nI:aI prog 36=true:=by kernel_rfl
theorem nL:aI prog 19=true:=by kernel_rfl
theorem nK:aI prog 20=true:=by kernel_rfl
theorem fB:∀ (a0:Option Addr),prog.built 57 [(0,.pointer a0),(3,.bool true)]=some #[.pointer a0,.int .i64 0,.int .i64 0,.string ⟨#[]⟩,.int .i64 0,.int .i64 0,.string ⟨#[]⟩,.bool true]:=by intros;kernel_rfl
theorem j8:aI prog 22=true:=by kernel_rfl
theorem rA {s t:ByteArray}:s.toList=t.toList↔s=t:=⟨fun h=>by
 rw [Lib.toList_data,Lib.toList_data] at h;exact ByteArray.ext (Array.ext' h),fun h=>by rw [h]⟩
theorem qk (A:Option Addr) (c n:Nat) (L:List ByteArray) (v:ByteArray) (w:World) (hr:dx Value.string w A L) (hn:n=L.length) (hl:n≤1000000) (hno:∀ s∈L,s≠v) :
 Rt prog 32 [.slice A n c,.string v] w (fun r w'=>r=.int .i64 (-1)∧w=w'):=by
 subst hn;refine enter (n:=19) Tryd.func32 rfl rfl rfl (ag (ab (asi rfl (ah (ae (ag (ag (ab (mvs rfl (aa (bC lh rfl) (mvi rfl (ah (ae (bu (dJ (G:=Nat) [4,5,9,10,11,12,13,14,15,16,17,18] (fun i=>[(8,.int .i64 (i:Nat))]) (fun i w'=>i≤L.length∧w=w') (fun i=>L.length-i) (0) ⟨rfl,trivial⟩ ?_ ?_)))))))))))))))
 ·exact ⟨Nat.zero_le _,rfl⟩
 rintro i ρ1 w1 ⟨hi,rfl⟩;refine ag (ab (aa (cv rfl rfl) (ah (ae (ag (tc rfl (fun Q2=>?_) (fun Q2=>?_)))))))
 ·have hil:i<L.length:=by omega
  obtain ⟨ba,oa,rfl,hca⟩:=hr (by omega);have hne:=hno _ (List.getElem_mem hil);refine aC (ae (ag (bu (ag (ab (mvi rfl (asi rfl (ah (ae (ag (ab (mvg rfl (mvs rfl (mvi rfl (aa (dv iS rfl rfl (by omega)) (aa (ao a7 rfl (by exact hca i hil)) ?_))))))))))))))));refine aa (bx (gD rfl rfl) (by rw [beq_eq_false_iff_ne];exact fun e=>hne (rA.1 e).symm)) ?_;refine ah (ae (aY rfl (aC (bA (ae (ab (aa (bz (b:=1) rfl rfl (by omega)) (mvi rfl (ah ?_)))))))));refine cd (i+1) ⟨(by first | rfl | (refine bP ?_;omega)),trivial⟩ (by (iterate 24 refine bm rfl ?_);exact bO) ⟨?_,?_⟩
  ·exact ⟨by omega,rfl⟩
  ·show L.length-(i+1)<L.length-i;omega
 refine dd (bB (bB (cG (ae (ag (ab (asi rfl (ah (ae (aw (bb (v:=.int _ _) rfl rfl (⟨rfl,rfl⟩))))))))))))
theorem mH (A:Option Addr) (c n:Nat) (L:List ByteArray) (v:ByteArray) (w:World) (hr:dx Value.string w A L) (hn:n=L.length) (hl:n≤1000000) (hno:∀ s∈L,s≠v) :
 Rt prog 20 [.slice A n c,.string v] w (fun r w'=>r=.bool false∧w=w'):=by
 refine enter (n:=9) Tryd.func20 rfl rfl rfl (ag (ab (asb rfl (ah (ae (ag (ab (mvs rfl (mvg rfl (av nJ (qk A c n L v _ hr hn hl hno) ?_))))))))));rintro v7 w1 ⟨rfl,rfl⟩;refine aa (bx (gT rfl rfl) rfl) (asb rfl (ah (ae (aw (bb (v:=.bool _) rfl rfl (⟨rfl,rfl⟩))))))
theorem pX (U:Nat→Prop) (d:Nat) (D:List Fe) (w:World) (hd:cR w U d D 0 false) (nm:ByteArray) (hnm:nm.size≤140737488351232) (hok:okN nm=true) (hh:eR D nm=false) :
 Rt prog 22 [.pointer (some ⟨d,0,none⟩),.string nm] w (fun v w'=>v=.tuple #[.agg (ntV 0 0 ⟨#[]⟩).toArray,.int .i64 0]∧ai w w'):=by
 refine enter (n:=23) Tryd.func22 rfl rfl rfl (ag (ab (cM dh ?_)));intro b4 w1 E4 hb4 hk4;have hl4:=hk4.lt;have hg4:w.heap.size≤b4:=by rw [hb4];exact (ai.rfl_).size
 refine asi rfl (ah (ae (ag (ab (mvp rfl (mvg rfl (av j7 (n_ _ d _ _ _ _ (hd.from_ (ai.rfl_.next E4)) nm hnm) ?_)))))));rintro v11 w2 ⟨⟨A11,c11,rfl,ho11⟩,E11⟩;rw [show fb D false nm=3 by unfold fb;rw [hok,hh];rfl];replace hk4:=hk4.from_ E11;refine mvt rfl (aa (ax rfl rfl) (aa (ax rfl rfl) (ass rfl (asi rfl (ah (ae (ag (ag (ab (mvi rfl (aa (dB (br rfl rfl) rfl) (ah (ae ?_)))))))))))));refine bR rfl (ag (ab (aa (bW (l:=[]) (mU)) (bh (vs:=[_,_,_]) aU rfl rfl (by simp [Value.oneCell']) (hk4) rfl ?_))));intro w3 O3 P3;refine asi rfl (ah (ae (aw (aD (dg rfl (bw (cs:=[_,_,_]) bD aU rfl (by exact P3.whole)) (cu (v:=.int _ _) rfl) ?_)))));exact ⟨rfl,(((ai.rfl_.next E4).next E11).only O3 (hg4))⟩
theorem oR (U:Nat→Prop) (d:Nat) (D:List Fe) (w:World) (hd:cR w U d D 0 false) (nm:ByteArray) (hnm:nm.size≤140737488351232) (hok:okN nm=true) (hh:eR D nm=true) (a b:Nat) (t:ByteArray) (ha:a<9223372036854775808) (hb:b<9223372036854775808) (ht:t.size≤1000000) (hT:cQ w) (hg:dI D nm=fT a b t) :
 Rt prog 22 [.pointer (some ⟨d,0,none⟩),.string nm] w (fun v w'=>v=.tuple #[.agg (ntV (a:Nat) (b:Nat) t).toArray,.int .i64 0]∧ai w w'):=by
 have hre:fb D false nm=0:=by unfold fb;rw [hok,hh];rfl
 have hrv:fa D false nm=fT a b t:=by unfold fa;rw [hre,if_pos rfl,hg]
 refine enter (n:=23) Tryd.func22 rfl rfl rfl (ag (ab (cM dh ?_)));intro b4 w1 E4 hb4 hk4;have hl4:=hk4.lt;have hg4:w.heap.size≤b4:=by rw [hb4];exact (ai.rfl_).size
 refine asi rfl (ah (ae (ag (ab (mvp rfl (mvg rfl (av j7 (n_ _ d _ _ _ _ (hd.from_ (ai.rfl_.next E4)) nm hnm) ?_)))))));rintro v11 w2 ⟨⟨A11,c11,rfl,ho11⟩,E11⟩;rw [hrv] at ho11 ⊢;rw [hre];replace hk4:=hk4.from_ E11;have hM11:=ai.rfl_ (a:=w2);refine mvt rfl (aa (ax rfl rfl) (aa (ax rfl rfl) (ass rfl (asi rfl (ah (ae (ag (ag (ab (mvi rfl (aa (bx (br rfl rfl) rfl) (ah (ae ?_)))))))))))));refine aY rfl (aC (ae (ag (ag (ab (mvi rfl (aa (bx (cc rfl rfl) rfl) (ah (ae (aY rfl (aC (ae (ag (ab (mvs rfl (av nI (p0 A11 c11 _ a b t _ (RB.own ho11 (ou a b t)).2 rfl ha hb ht (hT.from_ ((ai.rfl_.next E4).next E11))) ?_))))))))))))))));rintro v22 w3 ⟨rfl,E22⟩;replace hk4:=hk4.from_ E22;refine bh (vs:=[_,_,_]) aU rfl rfl (by simp [Value.oneCell']) (hk4) rfl ?_;intro w4 O6 P6;refine asi rfl (ah (ae (aw (dg rfl (bw (cs:=[_,_,_]) bD aU rfl (by exact P6.whole)) (cu (v:=.int _ _) rfl) ?_))));exact ⟨rfl,((((ai.rfl_.next E4).next E11).next E22).only O6 (hg4))⟩
theorem mb (U:Nat→Prop) (d:Nat) (D:List Fe) (w:World) (hd:cR w U d D 0 false) (nm:ByteArray) (hnm:nm.size≤140737488351232) (hok:okN nm=true) (a b:Int) (t:ByteArray) (ha:0≤a∧a<9223372036854775808) (hb:0≤b∧b<9223372036854775808) (ht:t.size≤1000000) (hT:cQ w) (hx:(eR D nm=false∧a=0∧b=0∧t=⟨#[]⟩)∨(eR D nm=true∧dI D nm=sE a b t)) :
 Rt prog 22 [.pointer (some ⟨d,0,none⟩),.string nm] w fun v w'=>v=.tuple #[.agg (ntV a b t).toArray,.int .i64 0]∧ai w w':=by
 rcases hx with ⟨h1,rfl,rfl,rfl⟩ | ⟨h1,h2⟩
 ·exact pX U d D w hd nm hnm hok h1
 ·obtain ⟨x,rfl⟩:=Int.eq_ofNat_of_zero_le ha.1;obtain ⟨y,rfl⟩:=Int.eq_ofNat_of_zero_le hb.1;exact oR U d D w hd nm hnm hok h1 x y t (by omega) (by omega) ht hT h2
theorem kP {w:World} {base n c:Nat} {A:Option Addr} {D:List Fe} (h:w.ownsRow base 9 1 (.slice A n c) n (D.map fun e=>Value.string e.1)):n=(D.map (·.1)).length∧dx Value.string w A (D.map (·.1)):=by
 have:(D.map fun e=>Value.string e.1)=(D.map (·.1)).map Value.string:=by rw [List.map_map];rfl
 rw [this] at h;exact dx.own h
theorem pK {v d:Option (List Nat)}:∀ s∈(SDk v d).map (·.1),s≠dw:=by
 intro s hs;cases v <;> cases d <;> simp [SDk,oD] at hs
 ·rw [hs];decide
 ·rw [hs];decide
 ·rcases hs with rfl | rfl <;> decide
theorem fZ (d:Nat) (k:Kt) (U:Nat→Prop) (v dt:Option (List Nat)) (w:World) (hd:cR w U d (SDk v dt) 0 false) (hr:rS k v dt) (hk:rU k) (hU9:∀ x,U x→x<w.heap.size) (hT:cQ w) :
 Rt prog 7 [.pointer (some ⟨d,0,none⟩)] w (fun r w'=>(∃ s,r=.tuple #[.pointer (some ⟨s,0,none⟩),.int .i64 0]∧w.heap.size≤s∧bJ w' U s d k)∧ai w w'):=by
 have hn1:=ln hk.1;have hn2:=lr hk.2;refine enter (n:=71) Tryd.func7 rfl rfl rfl (ag (ab (asp rfl (asi rfl (ah (ae (ag (ag (ab (mvp rfl (aa (bx (cN (by kernel_rfl) rfl rfl) rfl) (ah (ae (aY rfl ?_))))))))))))));refine aC (ae (ag (ab (mvp rfl (av nL (rz _ d _ _ _ _ (hd.from_ ai.rfl_)) ?_)))));rintro v12 w1 ⟨⟨A12,c12,n12,rfl,hn12,ho12⟩,E12⟩;refine mvt rfl (aa (ax rfl rfl) (aa (ax rfl rfl) (ass rfl (asi rfl (ah (ae (ag (ag (ab (mvi rfl (aa (bx (cc rfl rfl) rfl) (ah (ae ?_)))))))))))));refine aY rfl (aC (ae (ag (ag (ab (mvs rfl ?_))))));refine av nK (mH A12 c12 n12 _ dw _ ((kP (D:=SDk v dt) ho12).2.from_ ai.rfl_) (kP (D:=SDk v dt) ho12).1 (by rw [hn12];have:=@pL v dt;show (SDk v dt).length≤_;omega) pK) ?_;rintro v19 w2 ⟨rfl,rfl⟩;refine ah (ae (aY rfl (aC (ae (ag (ab (mvp rfl (aa (bW (l:=[(0,.tmp 25),(3,.const (.bool true))]) (fB _)) (de (v:=.agg _) rfl ?_)))))))));intro b27 w3 E27 hb27 hk27;have hl27:=hk27.lt;have hg27:w.heap.size≤b27:=by rw [hb27];exact ((ai.rfl_.next E12)).size
 have hb27U:¬ U b27:=fun h=>by have:=hU9 _ h;omega
 refine asp rfl (ah (ae (ag (ag (ab (mvp rfl (mvp rfl (av j8 (mb U d _ _ (hd.from_ ((ai.rfl_.next E12).next E27)) ey (by decide) rm k.a k.b ⟨#[]⟩ (by omega) (by omega) (by decide) (hT.from_ ((ai.rfl_.next E12).next E27)) (by rw [q3,q6];rcases hr.1 with ⟨rfl,h1,h2⟩ | rfl;exact .inl ⟨rfl,h1,h2,rfl⟩;exact .inr ⟨rfl,rfl⟩)) ?_))))))));rintro v31 w4 ⟨rfl,E31⟩;replace hk27:=hk27.from_ E31;refine mvt rfl (aa (ax rfl rfl) (aa (ax rfl rfl) (aa (az rfl) (aa (af c8 rfl) (jo (vs:=ntV k.a k.b ⟨#[]⟩) (i:=0+1) (cs:=[(.pointer (some ⟨d,0,none⟩)),.int .i64 0,.int .i64 0,.string ⟨#[]⟩,.int .i64 0,.int .i64 0,.string ⟨#[]⟩,.bool true]) aU rfl rfl (by simp [ntV,Value.oneCell']) hk27 (by show 0+1+3≤8;decide) ?_)))));intro w5 O11 P11;have P11b:Blk w5 b27 57 [(.pointer (some ⟨d,0,none⟩)),.int .i64 k.a,.int .i64 k.b,.string ⟨#[]⟩,.int .i64 0,.int .i64 0,.string ⟨#[]⟩,.bool true].toArray:=P11;have hF11:=((((ai.rfl_.next E12).next E27).next E31)).only O11 hg27;refine asi rfl (ah (ae (ag (ab (mvi rfl (aa (bx (cc rfl rfl) rfl) (ah (ae (aY rfl (aC (ae (ag (ag (ab (mvp rfl (mvp rfl ?_))))))))))))))));refine av j8 (mb U d _ _ (hd.from_ hF11) ez (by decide) rn k.i k.o k.t (by omega) (by omega) (by omega) (hT.from_ hF11) (by rw [q5,q7];rcases hr.2 with ⟨rfl,h1,h2,h3⟩ | rfl;exact .inl ⟨rfl,h1,h2,h3⟩;exact .inr ⟨rfl,rfl⟩)) ?_;rintro v42 w6 ⟨rfl,E42⟩;have P11c:=P11b.from_ ((ai.rfl_.next E42));refine mvt rfl (aa (ax rfl rfl) (aa (ax rfl rfl) (aa (az rfl) (aa (af cK rfl) (jo (vs:=ntV k.i k.o k.t) (i:=0+4) (cs:=[(.pointer (some ⟨d,0,none⟩)),.int .i64 k.a,.int .i64 k.b,.string ⟨#[]⟩,.int .i64 0,.int .i64 0,.string ⟨#[]⟩,.bool true]) aU rfl rfl (by simp [ntV,Value.oneCell']) P11c (by show 0+4+3≤8;decide) ?_)))));intro w7 O14 P14;have hsb:Blk w7 b27 57 (stV d k).toArray:=P14;have hF14:=((hF11.next E42)).only O14 hg27;refine asi rfl (ah (ae (ag (ab (mvi rfl (aa (bx (cc rfl rfl) rfl) (ah (ae (aY rfl (aC (ae (ag (ag (ab (mvp rfl (aa (az rfl) ?_))))))))))))))));refine aa (af c8 rfl) (aa (aQ (cs:=[_,_,_]) bD aU rfl (by exact sa (hsb.from_ ai.rfl_))) ?_);refine av gm (mr k.a k.b ⟨#[]⟩ _ hk.1) ?_;rintro v54 w8 ⟨rfl,E54⟩;refine aa (bx (bl rfl) rfl) (ah (ae (aY rfl (aC (ae (ag (ag (ab (mvp rfl (aa (az rfl) (aa (af cK rfl) (aa (aQ (cs:=[_,_,_]) bD aU rfl (by exact sb (hsb.from_ (ai.rfl_.next E54)))) ?_))))))))))));refine av gl (mv k.i k.o k.t _ (by omega) hk.2) ?_;rintro v64 w9 ⟨rfl,E64⟩;refine aa (bx (bl rfl) rfl) (ah (ae (aY rfl (aC (ae (ag (ab (mvp rfl (asp rfl (asi rfl (ah (ae (aw (eW (v:=.pointer _) (v':=.int _ _) rfl rfl rfl ?_))))))))))))));exact ⟨⟨b27,rfl,hg27,⟨hsb.from_ ((ai.rfl_.next E54).next E64),hb27U,⟨v,dt,hr,hd.from_ ((hF14.next E54).next E64)⟩,fun x hx=>Nat.lt_of_lt_of_le (hU9 x hx) (((hF14.next E54).next E64)).size,hk⟩⟩,((hF14.next E54).next E64)⟩
theorem mh (w:World) :
 Rt prog 7 [.pointer none] w (fun v w'=>v=.tuple #[.pointer none,.int .i64 1]∧w=w'):=by
 refine enter (n:=71) Tryd.func7 rfl rfl rfl (ag (ab (asp rfl (asi rfl (ah (ae (ag (ag (ab (mvp rfl (aa (dB (cN (by kernel_rfl) rfl rfl) rfl) (ah (ae (bR rfl ?_))))))))))))));refine ag (ab (asp rfl (asi rfl (ah (ae (aw (aD (eW (v:=.pointer _) (v':=.int _ _) rfl rfl rfl (⟨rfl,rfl⟩)))))))))
end Go.Proofs.YtdimnaiiaekngaaDoor
