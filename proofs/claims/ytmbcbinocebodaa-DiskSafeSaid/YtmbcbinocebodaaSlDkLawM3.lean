/- texts that the claim stands on. -/
import Derived.Test.YtmbcbinocebodaaSlDkLawM2

set_option maxRecDepth 100000
set_option maxHeartbeats 4000000
namespace Go.Proofs.Ytmbcbinocebodaa
open Go.Proofs.Try (prog)
open Go.RowKit
open Go.ChangeShapes Go.WideShapes Go.ChangeAt
theorem k9:∀ (a0:ByteArray),prog.built 63 [(0,.string a0)]=some #[.string a0,.slice none 0 0,.slice none 0 0]:=by intros;kernel_rfl
theorem j9:aK prog 30=true:=by kernel_rfl
def qx (w:World) (f f2:Fl) (bs:List Nat):Prop:=f2.nm=f.nm∧f2.vs=f.vs++bs∧f2.ds=f.ds∧f2.dA=f.dA∧f2.dc=f.dc∧(∀ k,f2.B k→f.B k∨w.heap.size≤k)∧(f2.own=true→∀ k,f2.vA.map (·.block)=some k→(f.own=true∧f.vA.map (·.block)=some k)∨w.heap.size≤k)
def kt (w w':World) (g cp i:Nat) (fs:List Fl) (f:Fl) (bs:List Nat):Prop:=∃ f2:Fl,qx w f f2 bs∧Chg (fun k=>(some (⟨g,0,none⟩:Addr)).map (·.block)=some k∨(f.own=true∧f.vA.map (·.block)=some k)) w w'∧w'.ownsRow 0 63 3 (.slice (some ⟨g,0,none⟩) fs.length cp) fs.length ((fs.flatMap flV).set (i*3+1) (.slice f2.vA f2.vs.length f2.vc))∧dX w' f2
theorem kt.from_ {w w1 w2:World} {g cp i:Nat} {fs:List Fl} {f:Fl} {bs:List Nat} (h:kt w w1 g cp i fs f bs) (hF:ak w1 w2):kt w w2 g cp i fs f bs:=by
 obtain ⟨f2,h1,h2,h3,h4⟩:=h;exact ⟨f2,h1,h2.next hF.toChg,h3.kept_from hF,h4.from_ hF⟩
def Fn (nm:ByteArray):Fl:=⟨nm,none,0,none,0,[],[],true⟩
theorem RB.chg0 {V:Nat→Prop} {w w':World} {A:Option Addr} {c:Nat} {l:List Nat} (h:RB w A c l) (hc:Chg V w w') (hV:0<l.length→∀ q,A.map (·.block)=some q→¬ V q):RB w' A c l:=
 ⟨h.le,h.mx,fun h0=>(h.chg hc (hV h0)).at_ h0,h.bt⟩
def fP (D:List Fe) (fu:Nat) (off:Bool) (nm:ByteArray) (n:Nat):Int:=if bE (okN nm) fu off≠0 then bE (okN nm) fu off else if 1048576<n+(dD D nm).length then 2 else if gf D nm=false∧D.length=16 then 6 else 0
def eC (D:List Fe) (fu:Nat) (off:Bool) (nm:ByteArray) (bs:List Nat):List Fe:=if fP D fu off nm bs.length=0 then putV (if gf D nm then D else gu D (nm,[],[])) nm (dD D nm++bs) else D
theorem oQ {fs:List Fl} (h:fs.Pairwise Sep) (i:Nat) (nm:ByteArray):(fs.take i++Fn nm::fs.drop i).Pairwise Sep:=by
 have hs:∀ g:Fl,Sep g (Fn nm):=fun g=>⟨fun _ k _ hb=>(by rcases hb with e | e <;> cases e),fun _ k hk=>(by cases hk)⟩
 have h0:(fs.take i++fs.drop i).Pairwise Sep:=by rw [List.take_append_drop];exact h
 rw [List.pairwise_append] at h0 ⊢;refine ⟨h0.1,List.pairwise_cons.2 ⟨fun g _=>(hs g).symm,h0.2.1⟩,fun a ha b hb=>?_⟩;rcases List.mem_cons.1 hb with rfl | hb
 ·exact hs a
 ·exact h0.2.2 a ha b hb
theorem pT {fs:List Fl} {i:Nat} (hi:i≤fs.length) (x:Fl):∃ h:i<(fs.take i++x::fs.drop i).length,(fs.take i++x::fs.drop i)[i]=x:=by
 have hl:(fs.take i).length=i:=by rw [List.length_take];omega
 have h:i<(fs.take i++x::fs.drop i).length:=by rw [List.length_append,List.length_cons,hl];omega
 refine ⟨h,?_⟩;rw [List.getElem_append_right (by omega)];simp only [hl,Nat.sub_self,List.getElem_cons_zero]
theorem DOk.ins {D:List Fe} (h:DOk D) {id:ByteArray} (hn:gf D id=false) (hl:D.length≠16):DOk (gu D (id,[],[])):=by
 refine ⟨h.1.ins (fun e he h9=>by have:=ew.2 ⟨e,he,h9⟩;rw [hn] at this;cases this) [] [],by rw [kK];have:=h.2.1;omega,fun e he=>?_⟩;rcases gR.1 he with rfl | he
 ·exact ⟨Nat.zero_le _,Nat.zero_le _⟩
 ·exact h.2.2 e he
theorem dE (U:Nat→Prop) (d:Nat) (D:List Fe) (fu:Nat) (off:Bool) (w:World) (hd:cQ w U d D fu off) (nm:ByteArray) (hn:nm.size≤140737488351232) (A2:Option Addr) (c2 m:Nat) (bs:List Nat) (hb:RB w A2 c2 bs) (hm:m=bs.length) (hbl:bs.length≤140737488355328) (hU2:0<bs.length→∀ q,A2.map (·.block)=some q→¬ U q) :
 Rt prog 10 [.pointer (some ⟨d,0,none⟩),.string nm,.slice A2 m c2] w (fun v w'=>v=.int .i64 (fP D fu off nm bs.length)∧cQ w' (Nx U w w') d (eC D fu off nm bs) (fuB (okN nm) fu) (eJ (okN nm) fu off)∧Chg U w w'):=by
 subst hm;have hd0:=hd;obtain ⟨fs,Ap,cp,ca,h,hD,hok,hfu0,hU⟩:=hd;subst hD;obtain ⟨hs,hl,hz⟩:=hok;rw [av] at hl;refine enter (n:=80) Try.func10 rfl rfl rfl (ag (ab (asi rfl (ah (ae (ag (ag (ab (mvp rfl (mvg rfl (e_ (v:=.string _) bO rfl rfl rfl ?_)))))))))));intro b13 w1 E13 hb13 hk13;have hF11:ak w _:=(ak.rfl_.next E13);refine ao jw (mP (h.from_ (ak.rfl_.next E13)) hs hl hfu0 hn hk13) ?_;rintro v14 w2 ⟨rfl,⟨ca2,h2⟩,hC11⟩;have hT:=(hF11.toChg (U:=U)).next (hC11.wide fun k hk=>.inl (by rw [hk];exact hU d (.inl rfl)));have hb2:=(hb.from_ hF11).chg0 hC11 (fun h0 q hq e=>hU2 h0 q hq (hU q (by rw [e];exact .inl rfl)));refine asi rfl (ah (ae (ag (ab (mvi rfl (aa (bc rfl rfl) (ah (ae (qp rfl (fun Q3=>?_) (fun Q3=>?_))))))))))
 ·refine ag (ab (mvi rfl (asi rfl (ah (ae (aA (aF (bm (v:=.int _ _) rfl rfl ?_))))))));have e1:fP (aw fs) fu off nm bs.length=bE (okN nm) fu off:=by unfold fP;rw [if_pos (by assumption)]
  rw [e1];refine ⟨rfl,?_,hT.next (ak.rfl_).toChg⟩;rw [show eC (aw fs) fu off nm bs=aw fs by unfold eC;rw [e1,if_neg (by first | decide | assumption)]];exact bA hU (h2.from_ ak.rfl_) ⟨hs,by rw [av];exact hl,hz⟩ (bu hfu0 _) fun k hk=>.inl hk
 refine aD (ae (ag (ab (mvp rfl (mvg rfl (ao eF (gT d fs Ap cp ca2 _ _ _ (h2.from_ ak.rfl_) hs hl (bu hfu0 _) nm) ?_))))));rintro v21 w4 ⟨⟨i,fd,rfl,hf⟩,E21⟩;refine mvt rfl (aa (aq rfl rfl) (aa (aq rfl rfl) (asi rfl (asb rfl (ah (ae (ag (ab (mvs rfl (aa (aQ bo rfl) (asi rfl ?_)))))))))));refine ah (ae (ki (G:=Unit) [26,27,28,29,30,31,32,33,34,35,36,37,38] (fun _=>[(10,.int .i64 ((bs.length+(dD (aw fs) nm).length:Nat):Int))]) (fun _ w'=>w4=w') ?_ ?_))
 ·refine ag (ab (mvb rfl (ah (ae (ay rfl (fun Q5=>?_) (fun Q5=>?_))))))
  ·have hfd:fd=true:=by first | assumption | simp_all
   obtain ⟨hi,hi2⟩:=hf.2.1 hfd;have hia:i<(aw fs).length:=by rw [av];exact hi
   have hk1:(aw fs)[i].1=nm:=by rw [aS];exact hi2
   have hzi:=hz _ (List.getElem_mem hia);rw [aS] at hzi;have hz1:fs[i].vs.length≤1048576:=hzi.1;have hgv:dD (aw fs) nm=fs[i].vs:=by rw [ef hs hia hk1,aS];rfl
   obtain ⟨g,rfl⟩:=ib h2.row (by omega);obtain ⟨bp,op,e9,hcd⟩:=(gj h2.row).2 (by omega);cases e9;have hce:=hcd i hi;refine ab (mvi rfl (mvp rfl (aa (aB rfl) (aa (aj a_ rfl) (aa (ar bW rfl (by exact (h2.blk.from_ (ak.rfl_.next E21)).rd 0 rfl)) ?_)))));refine mvi rfl (aa (aL aT rfl rfl (by omega)) (aa (aj bj rfl) (aa (aj bl rfl) ?_)));refine aa (ar aJ rfl (by have h9:=hce 1 _ rfl;simpa [Nat.add_assoc] using cS (ak.rfl_.next E21) h9)) ?_;refine aa (aQ bo rfl) (aa (br rfl rfl (by omega)) (asi rfl (ah ?_)));refine bn (()) ⟨(by rw [hgv];rfl),trivial⟩ (by (iterate 14 refine aP rfl ?_);exact aX) ?_;rfl
  have hfd:fd=false:=by first | assumption | simp_all
  have hno:gf (aw fs) nm=false:=by rw [hf.has hs,hfd]
  have hno2:∀ e∈aw fs,e.1≠nm:=fun e he h9=>by have:=ew.2 ⟨e,he,h9⟩;rw [hno] at this;cases this
  have hgv:dD (aw fs) nm=[]:=l9 hno2;have hile:i≤fs.length:=by have:=hf.1.le;rwa [av] at this
  refine aD ?_;refine bn (()) ⟨(by rw [hgv];rfl),trivial⟩ (by (iterate 1 refine aP rfl ?_);exact aX) ?_;rfl
 rintro _ ρ6 w6 rfl;refine ag (ag (ab (mvi rfl (aa (bZ rfl rfl) (ah (ae (qu rfl (fun Q7=>?_) (fun Q7=>?_))))))))
 ·refine ag (ab (asi rfl (ah (ae (aA (aF (bm (v:=.int _ _) rfl rfl ?_)))))));have e1:fP (aw fs) fu off nm bs.length=2:=by unfold fP;rw [if_neg (by omega),if_pos (by omega)]
  rw [e1];refine ⟨rfl,?_,hT.next ((ak.rfl_.next E21)).toChg⟩;rw [show eC (aw fs) fu off nm bs=aw fs by unfold eC;rw [e1,if_neg (by first | decide | assumption)]];exact bA hU (h2.from_ (ak.rfl_.next E21)) ⟨hs,by rw [av];exact hl,hz⟩ (bu hfu0 _) fun k hk=>.inl hk
 refine aD (ae (ki (G:=List Fl×Option Addr×Nat) [6,41,42,43,44,45,46,47,48,49,50,51,52,53,54,55,56,57,58,59,60] (fun _=>[]) (fun (fs3,Ap3,cp3) w'=>DkH w' d fs3 Ap3 cp3 ca2 (fuB (okN nm) fu) (eJ (okN nm) fu off)∧aw fs3=(if gf (aw fs) nm then aw fs else gu (aw fs) (nm,[],[]))∧DOk (aw fs3)∧(∃ hi3:i<fs3.length,fs3[i].nm=nm∧fs3[i].vs=dD (aw fs) nm)∧(∀ k,hH d Ap3 fs3 k→hH d Ap fs k∨w.heap.size≤k)∧(gf (aw fs) nm=false→(aw fs).length≠16)∧RB w' A2 c2 bs∧Chg U w w') ?_ ?_))
 ·refine ag (ab (mvb rfl (aa (bJ rfl) (ah (ae (qq rfl (fun Q8=>?_) (fun Q8=>?_)))))))
  ·have hfd:fd=false:=by first | assumption | simp_all
   have hno:gf (aw fs) nm=false:=by rw [hf.has hs,hfd]
   have hno2:∀ e∈aw fs,e.1≠nm:=fun e he h9=>by have:=ew.2 ⟨e,he,h9⟩;rw [hno] at this;cases this
   have hgv:dD (aw fs) nm=[]:=l9 hno2;have hile:i≤fs.length:=by have:=hf.1.le;rwa [av] at this
   refine ag (ag (ab (mvp rfl (aa (aB rfl) (aa (aj a_ rfl) (aa (ar bW rfl (by exact (h2.blk.from_ (ak.rfl_.next E21)).rd 0 rfl)) ?_))))));refine aa (aQ cI rfl) (aa (bf rfl rfl) (ah (ae (qu rfl (fun Q9=>?_) (fun Q9=>?_)))))
   ·refine ag (ab (asi rfl (ah (ae (aA (aF (aF (bm (v:=.int _ _) rfl rfl ?_))))))));have e1:fP (aw fs) fu off nm bs.length=6:=by unfold fP;rw [if_neg (by omega),if_neg (by omega),if_pos ⟨hno,by rw [av];omega⟩]
    rw [e1];refine ⟨rfl,?_,hT.next ((ak.rfl_.next E21)).toChg⟩;rw [show eC (aw fs) fu off nm bs=aw fs by unfold eC;rw [e1,if_neg (by first | decide | assumption)]];exact bA hU (h2.from_ (ak.rfl_.next E21)) ⟨hs,by rw [av];exact hl,hz⟩ (bu hfu0 _) fun k hk=>.inl hk
   refine aD (ae (ab (mvp rfl (mvp rfl (aa (aB rfl) (aa (aj a_ rfl) (aa (ar bW rfl (by exact (h2.blk.from_ (ak.rfl_.next E21)).rd 0 rfl)) ?_)))))));refine mvi rfl (mvg rfl (aa (cx (l:=[(0,.tmp 55)]) (k9 _)) ?_));have hF58b:ak _ w4:=(ak.rfl_.next E21);refine iU (l:=[(0,.tmp 56)]) (cells:=#[.string nm,.slice none 0 0,.slice none 0 0]) cG rfl rfl (by kernel_rfl) ?_;intro b57 w10 E57 hb57 hk57;have hF58:ak _ w10:=((ak.rfl_.next E21).next E57);refine ao j9 (jo 0 Ap cp fs.length i 1 b57 0 1 (fs.flatMap flV) (flV (Fn nm)) _ _ _ (h2.row.kept_from hF58) (Nat.zero_le _) hile (by decide) rfl hk57.whole hk57 (fun k hk e=>by have:=(c_ (h2.row.kept_from hF58b) k hk).2;omega) (kd _) (fL _) (by omega)) ?_;rintro v58 w11 ⟨⟨A58,c58,rfl,ho58,hA58⟩,hg58⟩;have hb58:=(h2.blk.from_ hF58).grown hg58 (ch (h2.row.kept_from hF58) (h2.blk.from_ hF58) (by decide));rw [pw] at ho58;refine aa (aB rfl) (aa (aj a_ rfl) (dy (v:=.slice _ _ _) eD rfl rfl rfl (hb58) (by show 0<4;decide) ?_));intro w12 O13 P13;refine ah ?_;refine bn ((fs.take i++Fn nm::fs.drop i,A58,c58)) trivial (by (iterate 20 refine aP rfl ?_);exact aX) ?_;obtain ⟨hi9,hx9⟩:=pT hile (Fn nm);have hC9:Chg (fun k=>k=d∨Ap.map (·.block)=some k) _ w12:=(hF58.toChg.next (Chg.of_grown hg58 fun k e=>.inr e)).next (O13.toChg (.inl rfl));have hr:=dz ho58 O13 (ch ho58 hb58 (by decide));rw [←oR hile (Fn nm)] at hr
   have hk:=h2.setR (ca':=ca2) (fu':=fuB (okN nm) fu) (off':=eJ (okN nm) fu off) hC9 (by rw [oR hile];exact P13) hr (fun f hf9=>by
    rcases List.mem_append.1 hf9 with h9 | h9
    ·exact .inl (List.mem_of_mem_take h9)
    ·rcases List.mem_cons.1 h9 with rfl | h9
     ·exact .inr (.inr ⟨rfl,rfl,rfl,rfl,rfl,rfl,rfl⟩)
     ·exact .inl (List.mem_of_mem_drop h9)) (oQ h2.ap i nm)
   have hab:aw (fs.take i++Fn nm::fs.drop i)=gu (aw fs) (nm,[],[]):=by rw [kZ,hf.1.ins];rfl
   have hne16:(aw fs).length≠16:=by rw [av];omega
   refine ⟨hk,by rw [hab,hno];rfl,by rw [hab];exact DOk.ins ⟨hs,by rw [av];exact hl,hz⟩ hno hne16,⟨hi9,by rw [hx9];rfl,by rw [hx9,hgv];rfl⟩,fun k hk=>?_,fun _=>hne16,?_,hT.next (hC9.wide fun k hk=>.inl (hU k (hk.elim .inl fun e=>.inr (.inl e))))⟩
   ·rcases hk with e | e | ⟨f3,h3,e⟩
    ·exact .inl (.inl e)
    ·exact (hA58 k e).imp (fun e=>.inr (.inl e)) fun e=>Nat.le_trans (Nat.le_trans hT.size hF58.size) e
    ·rcases List.mem_append.1 h3 with h9 | h9
     ·exact .inl (.inr (.inr ⟨f3,List.mem_of_mem_take h9,e⟩))
     ·rcases List.mem_cons.1 h9 with rfl | h9
      ·rcases e with e | e <;> cases e
      ·exact .inl (.inr (.inr ⟨f3,List.mem_of_mem_drop h9,e⟩))
   ·exact hb2.chg0 hC9 fun h0 q hq e=>hU2 h0 q hq (hU q (e.elim .inl fun e=>.inr (.inl e)))
  have hfd:fd=true:=by first | assumption | simp_all
  obtain ⟨hi,hi2⟩:=hf.2.1 hfd;have hia:i<(aw fs).length:=by rw [av];exact hi
  have hk1:(aw fs)[i].1=nm:=by rw [aS];exact hi2
  have hzi:=hz _ (List.getElem_mem hia);rw [aS] at hzi;have hz1:fs[i].vs.length≤1048576:=hzi.1;have hgv:dD (aw fs) nm=fs[i].vs:=by rw [ef hs hia hk1,aS];rfl
  refine aD ?_;refine bn ((fs,Ap,cp)) trivial (by (iterate 2 refine aP rfl ?_);exact aX) ?_;exact ⟨h2.from_ (ak.rfl_.next E21),by rw [hf.has hs,hfd];rfl,⟨hs,by rw [av];exact hl,hz⟩,⟨hi,hi2,hgv.symm⟩,fun k hk=>.inl hk,fun h9=>(by rw [hf.has hs,hfd] at h9;cases h9),hb2.from_ (ak.rfl_.next E21),hT.next ((ak.rfl_.next E21)).toChg⟩
 rintro ⟨fs3,Ap3,cp3⟩ ρ13 w13 ⟨h3,hab3,hok3,⟨hi3,hn3,hv3⟩,hft3,hcap3,hb3,hT3⟩;obtain ⟨g,rfl⟩:=ib h3.row (by omega);obtain ⟨bp3,op3,e93,hcd3⟩:=(gj h3.row).2 (by omega);cases e93;have hce3:=hcd3 i hi3;have hfi3:=h3.ok _ (List.getElem_mem hi3);have hg3:=(c_ h3.row g rfl).2;have hia3:i<(aw fs3).length:=by rw [av];exact hi3
 have hk13:(aw fs3)[i].1=nm:=by rw [aS];exact hn3
 have hl3:fs3.length≤16:=by rw [←av];exact hok3.2.1
 refine ag ?_;apply iN [(0,61,fun _ v _=>v=_),(1,62,fun _ v _=>v=_),(2,63,fun _ v _=>v=_),(3,64,fun _ v _=>v=_),(4,65,fun _ v _=>v=_),(5,66,fun _ v _=>v=_),(6,67,fun _ v _=>v=_),(7,68,fun _ v _=>v=_),(8,69,fun _ v _=>v=_),(9,70,fun _ v _=>v=_),(10,71,fun _ v _=>v=_),(11,72,fun _ v _=>v=_),(12,73,fun _ v _=>v=_),(13,74,fun _ v _=>v=_),(14,75,fun _ v _=>v=_),(15,76,fun S v w'=>∃ f2:Fl,v=.slice f2.vA f2.vs.length f2.vc∧qx w13 fs3[i] f2 bs∧(S 19=false→dX w' f2)),(16,77,fun _ v _=>v=_),(17,78,fun _ v _=>v=_),(18,79,fun _ v _=>v=_)] [15,19] (fun S w'=>w13.heap.size≤w'.heap.size∧(S 15=false→ak w13 w')∧(S 19=false→Chg (fun k=>fs3[i].own=true∧fs3[i].vA.map (·.block)=some k) w13 w')∧(S 19=true→kt w13 w' g cp3 i fs3 fs3[i] bs)) (by kernel_rfl) (by kernel_rfl) rfl rfl ⟨fun _ _ _ _ _ _ _ h=>h,fun _ _ _ _ _ _ _ h=>h,fun _ _ _ _ _ _ _ h=>h,fun _ _ _ _ _ _ _ h=>h,fun _ _ _ _ _ _ _ h=>h,fun _ _ _ _ _ _ _ h=>h,fun _ _ _ _ _ _ _ h=>h,fun _ _ _ _ _ _ _ h=>h,fun _ _ _ _ _ _ _ h=>h,fun _ _ _ _ _ _ _ h=>h,fun _ _ _ _ _ _ _ h=>h,fun _ _ _ _ _ _ _ h=>h,fun _ _ _ _ _ _ _ h=>h,fun _ _ _ _ _ _ _ h=>h,fun _ _ _ _ _ _ _ h=>h,fun S i v w1 w2 hq hF ⟨f2,h1,h2,h3⟩=>⟨f2,h1,h2,fun h0=>(h3 (iX h0)).from_ hF⟩,fun _ _ _ _ _ _ _ h=>h,fun _ _ _ _ _ _ _ h=>h,fun _ _ _ _ _ _ _ h=>h,trivial⟩ (fun S i w1 w2 hq hF h=>⟨Nat.le_trans h.1 hF.size,fun h0=>(h.2.1 (iX h0)).next hF,fun h0=>(h.2.2.1 (iX h0)).next hF.toChg,fun h1=>(h.2.2.2 (ou (show 19≠i by rintro rfl;exact absurd hq (by decide)) h1)).from_ hF⟩) (⟨Nat.le_refl _,fun _=>ak.rfl_.d1,fun _=>ak.rfl_.d1.toChg,fun h1=>by cases h1⟩)
 case hstep=>
  constructor
  ·rintro S L' w14 hU hmo hme hI hM hC hS ⟨-⟩;have hM':=hM;obtain ⟨hz14,hA14,hB14,hD14⟩:=hM';have e0:=hI.1 0 (gM rfl);exact aV [(0,_)] hU hmo hme hI hM (.head _) rfl rfl (by kernel_rfl) ⟨e0,trivial⟩ (ax (v:=.pointer _) rfl) ak.rfl_ rfl
  constructor
  ·rintro S L' w15 hU hmo hme hI hM hC hS ⟨d0,-⟩;have hM':=hM;obtain ⟨hz15,hA15,hB15,hD15⟩:=hM';obtain ⟨v15_61,e61,h61⟩:=hI.get (i:=0) (.head _) d0;obtain rfl:=h61;exact aV [(61,_)] hU hmo hme hI hM (.tail _ (.head _)) rfl rfl (by kernel_rfl) ⟨e61,trivial⟩ (aB rfl) ak.rfl_ rfl
  constructor
  ·rintro S L' w16 hU hmo hme hI hM hC hS ⟨d1,-⟩;have hM':=hM;obtain ⟨hz16,hA16,hB16,hD16⟩:=hM';obtain ⟨v16_62,e62,h62⟩:=hI.get (i:=1) (.tail _ (.head _)) d1;obtain rfl:=h62;exact aV [(62,_)] hU hmo hme hI hM (.tail _ (.tail _ (.head _))) rfl rfl (by kernel_rfl) ⟨e62,trivial⟩ (aj a_ rfl) ak.rfl_ rfl
  constructor
  ·rintro S L' w17 hU hmo hme hI hM hC hS ⟨d2,-⟩;have hM':=hM;obtain ⟨hz17,hA17,hB17,hD17⟩:=hM';obtain ⟨v17_63,e63,h63⟩:=hI.get (i:=2) (.tail _ (.tail _ (.head _))) d2;obtain rfl:=h63;exact aV [(63,_)] hU hmo hme hI hM (.tail _ (.tail _ (.tail _ (.head _)))) rfl rfl (by kernel_rfl) ⟨e63,trivial⟩ (ar bW rfl ((h3.blk.chg (hB17 (fk hC (j:=19) rfl (by kernel_rfl) hS)) (fun e=>h3.bd (List.getElem_mem hi3) (.inl e.2) rfl)).rd 0 rfl)) (ak.rfl_) (rfl)
  constructor
  ·rintro S L' w18 hU hmo hme hI hM hC hS ⟨-⟩;have hM':=hM;obtain ⟨hz18,hA18,hB18,hD18⟩:=hM';have e8:=hI.1 8 (gM rfl);exact aV [(8,_)] hU hmo hme hI hM (.tail _ (.tail _ (.tail _ (.tail _ (.head _))))) rfl rfl (by kernel_rfl) ⟨e8,trivial⟩ (ax (v:=.int _ _) rfl) ak.rfl_ rfl
  constructor
  ·rintro S L' w19 hU hmo hme hI hM hC hS ⟨-⟩;have hM':=hM;obtain ⟨hz19,hA19,hB19,hD19⟩:=hM';have e0:=hI.1 0 (gM rfl);exact aV [(0,_)] hU hmo hme hI hM (.tail _ (.tail _ (.tail _ (.tail _ (.tail _ (.head _)))))) rfl rfl (by kernel_rfl) ⟨e0,trivial⟩ (ax (v:=.pointer _) rfl) ak.rfl_ rfl
  constructor
  ·rintro S L' w20 hU hmo hme hI hM hC hS ⟨d5,-⟩;have hM':=hM;obtain ⟨hz20,hA20,hB20,hD20⟩:=hM';obtain ⟨v20_66,e66,h66⟩:=hI.get (i:=5) (.tail _ (.tail _ (.tail _ (.tail _ (.tail _ (.head _)))))) d5;obtain rfl:=h66;exact aV [(66,_)] hU hmo hme hI hM (.tail _ (.tail _ (.tail _ (.tail _ (.tail _ (.tail _ (.head _))))))) rfl rfl (by kernel_rfl) ⟨e66,trivial⟩ (aB rfl) ak.rfl_ rfl
  constructor
  ·rintro S L' w21 hU hmo hme hI hM hC hS ⟨d6,-⟩;have hM':=hM;obtain ⟨hz21,hA21,hB21,hD21⟩:=hM';obtain ⟨v21_67,e67,h67⟩:=hI.get (i:=6) (.tail _ (.tail _ (.tail _ (.tail _ (.tail _ (.tail _ (.head _))))))) d6;obtain rfl:=h67;exact aV [(67,_)] hU hmo hme hI hM (.tail _ (.tail _ (.tail _ (.tail _ (.tail _ (.tail _ (.tail _ (.head _)))))))) rfl rfl (by kernel_rfl) ⟨e67,trivial⟩ (aj a_ rfl) ak.rfl_ rfl
  constructor
  ·rintro S L' w22 hU hmo hme hI hM hC hS ⟨d7,-⟩;have hM':=hM;obtain ⟨hz22,hA22,hB22,hD22⟩:=hM';obtain ⟨v22_68,e68,h68⟩:=hI.get (i:=7) (.tail _ (.tail _ (.tail _ (.tail _ (.tail _ (.tail _ (.tail _ (.head _)))))))) d7;obtain rfl:=h68;exact aV [(68,_)] hU hmo hme hI hM (.tail _ (.tail _ (.tail _ (.tail _ (.tail _ (.tail _ (.tail _ (.tail _ (.head _))))))))) rfl rfl (by kernel_rfl) ⟨e68,trivial⟩ (ar bW rfl ((h3.blk.chg (hB22 (fk hC (j:=19) rfl (by kernel_rfl) hS)) (fun e=>h3.bd (List.getElem_mem hi3) (.inl e.2) rfl)).rd 0 rfl)) (ak.rfl_) (rfl)
  constructor
  ·rintro S L' w23 hU hmo hme hI hM hC hS ⟨-⟩;have hM':=hM;obtain ⟨hz23,hA23,hB23,hD23⟩:=hM';have e8:=hI.1 8 (gM rfl);exact aV [(8,_)] hU hmo hme hI hM (.tail _ (.tail _ (.tail _ (.tail _ (.tail _ (.tail _ (.tail _ (.tail _ (.tail _ (.head _)))))))))) rfl rfl (by kernel_rfl) ⟨e8,trivial⟩ (ax (v:=.int _ _) rfl) ak.rfl_ rfl
  constructor
  ·rintro S L' w24 hU hmo hme hI hM hC hS ⟨d8,d9,-⟩;have hM':=hM;obtain ⟨hz24,hA24,hB24,hD24⟩:=hM';obtain ⟨v24_69,e69,h69⟩:=hI.get (i:=8) (.tail _ (.tail _ (.tail _ (.tail _ (.tail _ (.tail _ (.tail _ (.tail _ (.head _))))))))) d8;obtain rfl:=h69;obtain ⟨v24_70,e70,h70⟩:=hI.get (i:=9) (.tail _ (.tail _ (.tail _ (.tail _ (.tail _ (.tail _ (.tail _ (.tail _ (.tail _ (.head _)))))))))) d9;obtain rfl:=h70;exact aV [(69,_),(70,_)] hU hmo hme hI hM (.tail _ (.tail _ (.tail _ (.tail _ (.tail _ (.tail _ (.tail _ (.tail _ (.tail _ (.tail _ (.head _))))))))))) rfl rfl (by kernel_rfl) ⟨e69,e70,trivial⟩ (aL aT rfl rfl (by omega)) ak.rfl_ rfl
  constructor
  ·rintro S L' w25 hU hmo hme hI hM hC hS ⟨d10,-⟩;have hM':=hM;obtain ⟨hz25,hA25,hB25,hD25⟩:=hM';obtain ⟨v25_71,e71,h71⟩:=hI.get (i:=10) (.tail _ (.tail _ (.tail _ (.tail _ (.tail _ (.tail _ (.tail _ (.tail _ (.tail _ (.tail _ (.head _))))))))))) d10;obtain rfl:=h71;exact aV [(71,_)] hU hmo hme hI hM (.tail _ (.tail _ (.tail _ (.tail _ (.tail _ (.tail _ (.tail _ (.tail _ (.tail _ (.tail _ (.tail _ (.head _)))))))))))) rfl rfl (by kernel_rfl) ⟨e71,trivial⟩ (aj bj rfl) ak.rfl_ rfl
  constructor
  ·rintro S L' w26 hU hmo hme hI hM hC hS ⟨d11,-⟩;have hM':=hM;obtain ⟨hz26,hA26,hB26,hD26⟩:=hM';obtain ⟨v26_72,e72,h72⟩:=hI.get (i:=11) (.tail _ (.tail _ (.tail _ (.tail _ (.tail _ (.tail _ (.tail _ (.tail _ (.tail _ (.tail _ (.tail _ (.head _)))))))))))) d11;obtain rfl:=h72;exact aV [(72,_)] hU hmo hme hI hM (.tail _ (.tail _ (.tail _ (.tail _ (.tail _ (.tail _ (.tail _ (.tail _ (.tail _ (.tail _ (.tail _ (.tail _ (.head _))))))))))))) rfl rfl (by kernel_rfl) ⟨e72,trivial⟩ (aj bl rfl) ak.rfl_ rfl
  constructor
  ·rintro S L' w27 hU hmo hme hI hM hC hS ⟨d12,-⟩;have hM':=hM;obtain ⟨hz27,hA27,hB27,hD27⟩:=hM';obtain ⟨v27_73,e73,h73⟩:=hI.get (i:=12) (.tail _ (.tail _ (.tail _ (.tail _ (.tail _ (.tail _ (.tail _ (.tail _ (.tail _ (.tail _ (.tail _ (.tail _ (.head _))))))))))))) d12;obtain rfl:=h73;exact aV [(73,_)] hU hmo hme hI hM (.tail _ (.tail _ (.tail _ (.tail _ (.tail _ (.tail _ (.tail _ (.tail _ (.tail _ (.tail _ (.tail _ (.tail _ (.tail _ (.head _)))))))))))))) rfl rfl (by kernel_rfl) ⟨e73,trivial⟩ (ar (v:=.slice fs3[i].vA fs3[i].vs.length fs3[i].vc) aJ rfl (by have h9:=cS (hA27 (fk hC (j:=15) rfl (by kernel_rfl) hS)) (hce3 1 _ rfl);simpa [Nat.add_assoc] using h9)) (ak.rfl_) (rfl)
  constructor
  ·rintro S L' w28 hU hmo hme hI hM hC hS ⟨-⟩;have hM':=hM;obtain ⟨hz28,hA28,hB28,hD28⟩:=hM';have e2:=hI.1 2 (gM rfl);exact aV [(2,_)] hU hmo hme hI hM (.tail _ (.tail _ (.tail _ (.tail _ (.tail _ (.tail _ (.tail _ (.tail _ (.tail _ (.tail _ (.tail _ (.tail _ (.tail _ (.tail _ (.head _))))))))))))))) rfl rfl (by kernel_rfl) ⟨e2,trivial⟩ (ax (v:=.slice _ _ _) rfl) ak.rfl_ rfl
  constructor
  ·rintro S L' w29 hU hmo hme hI hM hC hS ⟨d13,d14,-⟩;have hM':=hM;obtain ⟨hz29,hA29,hB29,hD29⟩:=hM';obtain ⟨v29_74,e74,h74⟩:=hI.get (i:=13) (.tail _ (.tail _ (.tail _ (.tail _ (.tail _ (.tail _ (.tail _ (.tail _ (.tail _ (.tail _ (.tail _ (.tail _ (.tail _ (.head _)))))))))))))) d13;obtain rfl:=h74;obtain ⟨v29_75,e75,h75⟩:=hI.get (i:=14) (.tail _ (.tail _ (.tail _ (.tail _ (.tail _ (.tail _ (.tail _ (.tail _ (.tail _ (.tail _ (.tail _ (.tail _ (.tail _ (.tail _ (.head _))))))))))))))) d14;obtain rfl:=h75;have hF9:=hA29 hS;have hs9:=hF9.size;obtain ⟨f2,w2,hR,h1,h2,h3,h4,h5,h6,h7,h8,h9⟩:=mR (ρ:=ev 80 [(74,_),(75,_)]) (s:=.tmp 74) (x:=.tmp 75) (f:=fs3[i]) (A2:=A2) (c2:=c2) (bs:=bs) (hfi3.from_ hF9) rfl rfl (hb3.from_ hF9) (by rw [hv3];omega);exact na [(74,_),(75,_)] hU hI (.tail _ (.tail _ (.tail _ (.tail _ (.tail _ (.tail _ (.tail _ (.tail _ (.tail _ (.tail _ (.tail _ (.tail _ (.tail _ (.tail _ (.tail _ (.head _)))))))))))))))) rfl (by kernel_rfl) ⟨e74,e75,trivial⟩ hR ⟨Nat.le_trans hz29 h6.size,fun h0=>(by rw [hZ] at h0;cases h0),fun _=>hF9.toChg.next h6,fun h0=>(by rw [nc (by decide),fk hC (j:=19) rfl (by kernel_rfl) hS] at h0;cases h0)⟩ ⟨f2,rfl,⟨h1,h2,h3,h4,h5,fun k hk=>(h8 k hk).imp (fun e=>e) fun e=>Nat.le_trans hs9 e,fun ho k hk=>(h9 ho k hk).imp (fun e=>e) fun e=>Nat.le_trans hs9 e⟩,fun _=>h7⟩ ⟨fun _ _ _ h=>h,fun _ _ _ h=>h,fun _ _ _ h=>h,fun _ _ _ h=>h,fun _ _ _ h=>h,fun _ _ _ h=>h,fun _ _ _ h=>h,fun _ _ _ h=>h,fun _ _ _ h=>h,fun _ _ _ h=>h,fun _ _ _ h=>h,fun _ _ _ h=>h,fun _ _ _ h=>h,fun _ _ _ h=>h,fun _ _ _ h=>h,(fun h=>by cases h),fun _ _ _ h=>h,fun _ _ _ h=>h,fun _ _ _ h=>h,trivial⟩
  constructor
  ·rintro S L' w30 hU hmo hme hI hM hC hS ⟨d3,d4,d0,d1,d2,d3,d4,d5,d6,d7,d8,d9,d10,d11,d12,d13,d14,d15,-⟩;have hM':=hM;obtain ⟨hz30,hA30,hB30,hD30⟩:=hM';obtain ⟨v30_64,e64,h64⟩:=hI.get (i:=3) (.tail _ (.tail _ (.tail _ (.head _)))) d3;obtain rfl:=h64;obtain ⟨v30_65,e65,h65⟩:=hI.get (i:=4) (.tail _ (.tail _ (.tail _ (.tail _ (.head _))))) d4;obtain rfl:=h65;exact aV [(64,_),(65,_)] hU hmo hme hI hM (.tail _ (.tail _ (.tail _ (.tail _ (.tail _ (.tail _ (.tail _ (.tail _ (.tail _ (.tail _ (.tail _ (.tail _ (.tail _ (.tail _ (.tail _ (.tail _ (.head _))))))))))))))))) rfl rfl (by kernel_rfl) ⟨e64,e65,trivial⟩ (aL aT rfl rfl (by omega)) ak.rfl_ rfl
  constructor
  ·rintro S L' w31 hU hmo hme hI hM hC hS ⟨d16,d0,d1,d2,d3,d4,d5,d6,d7,d8,d9,d10,d11,d12,d13,d14,d15,-⟩;have hM':=hM;obtain ⟨hz31,hA31,hB31,hD31⟩:=hM';obtain ⟨v31_77,e77,h77⟩:=hI.get (i:=16) (.tail _ (.tail _ (.tail _ (.tail _ (.tail _ (.tail _ (.tail _ (.tail _ (.tail _ (.tail _ (.tail _ (.tail _ (.tail _ (.tail _ (.tail _ (.tail _ (.head _))))))))))))))))) d16;obtain rfl:=h77;exact aV [(77,_)] hU hmo hme hI hM (.tail _ (.tail _ (.tail _ (.tail _ (.tail _ (.tail _ (.tail _ (.tail _ (.tail _ (.tail _ (.tail _ (.tail _ (.tail _ (.tail _ (.tail _ (.tail _ (.tail _ (.head _)))))))))))))))))) rfl rfl (by kernel_rfl) ⟨e77,trivial⟩ (aj bj rfl) ak.rfl_ rfl
  constructor
  ·rintro S L' w32 hU hmo hme hI hM hC hS ⟨d17,d0,d1,d2,d3,d4,d5,d6,d7,d8,d9,d10,d11,d12,d13,d14,d15,-⟩;have hM':=hM;obtain ⟨hz32,hA32,hB32,hD32⟩:=hM';obtain ⟨v32_78,e78,h78⟩:=hI.get (i:=17) (.tail _ (.tail _ (.tail _ (.tail _ (.tail _ (.tail _ (.tail _ (.tail _ (.tail _ (.tail _ (.tail _ (.tail _ (.tail _ (.tail _ (.tail _ (.tail _ (.tail _ (.head _)))))))))))))))))) d17;obtain rfl:=h78;exact aV [(78,_)] hU hmo hme hI hM (.tail _ (.tail _ (.tail _ (.tail _ (.tail _ (.tail _ (.tail _ (.tail _ (.tail _ (.tail _ (.tail _ (.tail _ (.tail _ (.tail _ (.tail _ (.tail _ (.tail _ (.tail _ (.head _))))))))))))))))))) rfl rfl (by kernel_rfl) ⟨e78,trivial⟩ (aj bl rfl) ak.rfl_ rfl
  constructor
  ·rintro S L' w33 hU hmo hme hI hM hC hS ⟨d18,d15,d15,d0,d1,d2,d3,d4,d5,d6,d7,d8,d9,d10,d11,d12,d13,d14,d15,-⟩;have hM':=hM;obtain ⟨hz33,hA33,hB33,hD33⟩:=hM';obtain ⟨v33_76,e76,h76⟩:=hI.get (i:=15) (.tail _ (.tail _ (.tail _ (.tail _ (.tail _ (.tail _ (.tail _ (.tail _ (.tail _ (.tail _ (.tail _ (.tail _ (.tail _ (.tail _ (.tail _ (.head _)))))))))))))))) d15;obtain ⟨f2,rfl,hq2,hq3⟩:=h76;obtain ⟨v33_79,e79,h79⟩:=hI.get (i:=18) (.tail _ (.tail _ (.tail _ (.tail _ (.tail _ (.tail _ (.tail _ (.tail _ (.tail _ (.tail _ (.tail _ (.tail _ (.tail _ (.tail _ (.tail _ (.tail _ (.tail _ (.tail _ (.head _))))))))))))))))))) d18;obtain rfl:=h79;have hCh:=hB33 hS;have s15:S 15=true:=d15;have hrow:=gL h3.row hCh (fun q hq e=>h3.bp (List.getElem_mem hi3) (.inl e.2) hq);have hco:=hrow.cellAt (i*3+1) (by omega);have hlF:=gS dO fs3;rw [List.getElem?_eq_getElem (by omega)] at hco;have hO:=cg.setCell w33 g (i*3+1) (.slice f2.vA f2.vs.length f2.vc);have hg9:g<w33.heap.size:=Nat.lt_of_lt_of_le hg3 hz33
   have hfo:dX _ f2:=(hq3 hS).chg (hO.toChg (U:=fun k=>k=g) rfl) fun q hq e=>by
    rcases hq2.2.2.2.2.2.1 q hq with e2 | e2
    ·exact h3.bp (List.getElem_mem hi3) e2 (by rw [e];rfl)
    ·omega
   exact m_ [(76,_),(79,_)] hI (qI rfl) rfl (by kernel_rfl) ⟨e76,e79,trivial⟩ (iZ (v:=.slice f2.vA f2.vs.length f2.vc) fp (by show Value.pointer (some ⟨g,0+i*3+1+0,none⟩)=Value.pointer (some ⟨g,i*3+1,none⟩);rw [Nat.zero_add]) rfl rfl hco (hrow.frozenAt _)) ⟨Nat.le_trans hz33 (Nat.le_of_eq hO.size.symm),fun h0=>(by rw [nc (by decide),s15] at h0;cases h0),fun h0=>(by rw [hZ] at h0;cases h0),fun _=>⟨f2,hq2,(hCh.wide fun k hk=>.inl (.inr hk)).next (hO.toChg (.inl rfl)),(hrow.stored _ _).1,hfo⟩⟩ ⟨fun _ _ _ h=>h,fun _ _ _ h=>h,fun _ _ _ h=>h,fun _ _ _ h=>h,fun _ _ _ h=>h,fun _ _ _ h=>h,fun _ _ _ h=>h,fun _ _ _ h=>h,fun _ _ _ h=>h,fun _ _ _ h=>h,fun _ _ _ h=>h,fun _ _ _ h=>h,fun _ _ _ h=>h,fun _ _ _ h=>h,fun _ _ _ h=>h,fun _ _ _ ⟨f3,h1,h2,h3⟩=>⟨f3,h1,h2,fun h0=>(by rw [hZ] at h0;cases h0)⟩,fun _ _ _ h=>h,fun _ _ _ h=>h,fun _ _ _ h=>h,trivial⟩
  exact trivial
 case hend=>
  intro w34 hM;obtain ⟨hz34,hA34,hB34,hD34⟩:=hM;rintro v34_61 rfl v34_62 rfl v34_63 rfl v34_64 rfl v34_65 rfl v34_66 rfl v34_67 rfl v34_68 rfl v34_69 rfl v34_70 rfl v34_71 rfl v34_72 rfl v34_73 rfl v34_74 rfl v34_75 rfl v34_76 ⟨f2,rfl,hq2,hq3⟩ v34_77 rfl v34_78 rfl v34_79 rfl;refine gV ?_;obtain ⟨f3,⟨hq1,hq2v,hq3d,hq4,hq5,hq7,hq8⟩,hCC,hP,hfo⟩:=hD34 rfl;refine ae (ag (ab (asi rfl (ah (ae (aA (bm (v:=.int _ _) rfl rfl ?_)))))));rw [iW dO fs3 i 1 hi3 (by decide) f3 (.slice f3.vA f3.vs.length f3.vc) (by unfold flV;rw [hq1,hq3d,hq4,hq5];rfl)] at hP;have hk:=(h3.put hi3 (f':=f3) hCC hP hfo hq7 hq8).from_ ak.rfl_;have hCC:=hCC.next (ak.rfl_).toChg;have hs3:=hok3.1;have hz3:=hok3.2.2 _ (List.getElem_mem hia3);rw [aS] at hz3
  have hD:aw (fs3.set i f3)=putV (aw fs3) nm (dD (aw fs) nm++bs):=by
   rw [fQ,l4 hs3 hia3 hk13,aS];unfold Fl.abs;rw [hq1,hq2v,hq3d,hn3,hv3]
  have e1:fP (aw fs) fu off nm bs.length=0:=by
   unfold fP;rw [if_neg (by omega),if_neg (by omega),if_neg (fun h9=>hcap3 h9.1 h9.2)]
  rw [e1];have hvl:f3.vs.length≤1048576:=by rw [hq2v,hv3,List.length_append];omega
  have hT4:Chg U w w34:=hT3.trans hCC fun k hk=>by
   rcases hk with e | e
   ·exact (hft3 k (.inr (.inl e))).imp (hU k) fun e=>e
   ·exact (hft3 k (.inr (.inr ⟨_,List.getElem_mem hi3,.inl e.2⟩))).imp (hU k) fun e=>e
  refine ⟨rfl,?_,hT4⟩;rw [show eC (aw fs) fu off nm bs=aw (fs3.set i f3) by unfold eC;rw [e1,if_pos rfl,hD,hab3]];refine bA hU hk (DOk.set hok3 hs3 hi3 f3 hq1 hvl (by rw [hq3d];exact hz3.2)) (bu hfu0 _) fun k hk=>?_
  have hsz:=hT3.size;rcases hk with e | e | ⟨f3,h4,e⟩
  ·exact hft3 k (.inl e)
  ·exact hft3 k (.inr (.inl e))
  ·rcases List.mem_or_eq_of_mem_set h4 with h4 | h4
   ·exact hft3 k (.inr (.inr ⟨f3,h4,e⟩))
   ·rw [h4] at e;rcases hq7 k e with e2 | e2
    ·exact hft3 k (.inr (.inr ⟨_,List.getElem_mem hi3,e2⟩))
    ·exact .inr (Nat.le_trans hsz e2)
theorem gb:fm prog 61=some true:=by kernel_rfl
theorem ga:cL prog 61=some 2:=by kernel_rfl
theorem jI:∀ (a0:ByteArray) (a1:Option Addr) (a2 a3:Nat) (a4:Option Addr) (a5 a6:Nat),prog.built 63 [(0,.string a0),(1,.agg #[.slice a1 a2 a3,.slice a4 a5 a6])]=some #[.string a0,.slice a1 a2 a3,.slice a4 a5 a6]:=by intros;kernel_rfl
def dp (D:List Fe) (fu:Nat) (off:Bool) (a b:ByteArray):Int:=opE D (okN a&&okN b) fu off a
def c6 (D:List Fe) (fu:Nat) (off:Bool) (a b:ByteArray):List Fe:=if dp D fu off a b=0 then (if a=b then D else gu (eV (eV D a) b) (b,dD D a,mK D a)) else D
theorem oT {w:World} {g i:Nat} {f:Fl} (h:w.rangeAt g (0+i*3) (flV f)):w.rangeAt g (i*3+1) [.slice f.vA f.vs.length f.vc,.slice f.dA f.ds.length f.dc]:=fun j v hj=>by
 have:=h (j+1) v hj;rw [Nat.zero_add] at this;rw [show i*3+1+j=i*3+(j+1) by omega];exact this
theorem ja {P:Program} {ρ:Operand→Value} {w:World} {t:TypeId} {x:Operand} {e by_:Nat} {z v z0 z1 z2 u0 u1 u2:Value} (hq:dq P t=some (e,3,by_,z)) (hz:z.cells=#[z0,z1,z2]) (hx:ρ x=v) (hv:v.cells=#[u0,u1,u2]):RO P ρ (.buildSlice t 1 #[(0,x)]) w (.slice (some ⟨w.heap.size,0,none⟩) 1 1) (w.alloc (.cells #[u0,u1,u2] e)):=by
 refine ll (l:=[(0,x)]) (cells:=#[u0,u1,u2]) hq rfl rfl ?_
 have e1:(Array.range (1*3)).map (z.cells[·%z.cells.size]!)=#[z0,z1,z2]:=by
  rw [hz,show Array.range (1*3)=#[0,1,2] from rfl];simp
 rw [e1];simp [Instr.fill,hx,hv]
section
variable {w w':World} {d:Nat} {fs:List Fl} {Ap Ap':Option Addr} {cp cp':Nat} {ca:Int} {fu:Nat} {off:Bool}
theorem DkH.ins (h:DkH w d fs Ap cp ca fu off) {i:Nat} {f':Fl} (c:Chg (fun k=>k=d∨Ap.map (·.block)=some k) w w') (hb:Blk w' d 58 #[.slice Ap' (fs.length+1) cp',.int .i64 ca,.int .i64 (fu:Nat),.bool off]) (hi:i≤fs.length)
 (hr:w'.ownsRow 0 63 3 (.slice Ap' (fs.length+1) cp') (fs.length+1) ((fs.take i++f'::fs.drop i).flatMap flV)) (hf:dX w' f') (hs:∀ g∈fs,Sep g f'):DkH w' d (fs.take i++f'::fs.drop i) Ap' cp' ca fu off:=by
 refine ⟨by rw [oR hi];exact hb,by rw [oR hi];exact hr,fun g hg=>?_,?_⟩
 ·rcases List.mem_append.1 hg with hg | hg
  ·have hm:=List.mem_of_mem_take hg;exact (h.ok g hm).chg c fun k hk e=>e.elim (h.bd hm hk) (h.bp hm hk)
  ·rcases List.mem_cons.1 hg with rfl | hg
   ·exact hf
   ·have hm:=List.mem_of_mem_drop hg;exact (h.ok g hm).chg c fun k hk e=>e.elim (h.bd hm hk) (h.bp hm hk)
 ·have h0:(fs.take i++fs.drop i).Pairwise Sep:=by rw [List.take_append_drop];exact h.ap
  rw [List.pairwise_append] at h0 ⊢;refine ⟨h0.1,List.pairwise_cons.2 ⟨fun g hg=>(hs g (List.mem_of_mem_drop hg)).symm,h0.2.1⟩,fun a ha b hb=>?_⟩;rcases List.mem_cons.1 hb with rfl | hb
  ·exact hs a (List.mem_of_mem_take ha)
  ·exact h0.2.2 a ha b hb
theorem DOk.ren {D:List Fe} (h:DOk D) {a b:ByteArray} (hh:gf D a=true) (_:a≠b):DOk (gu (eV (eV D a) b) (b,dD D a,mK D a)):=by
 obtain ⟨e0,he0,hk0⟩:=ew.1 hh;have hlt:(eV D a).length<D.length:=List.length_filter_lt_length_iff_exists.2 ⟨e0,he0,by simpa using hk0⟩;have hl2:(eV (eV D a) b).length≤(eV D a).length:=List.length_filter_le _ _;obtain ⟨i,hi,hx⟩:=List.getElem_of_mem he0;have hgv:=ef h.1 hi (hx ▸ hk0);have hgs:=l_ h.1 hi (hx ▸ hk0);have hz:=h.2.2 _ (List.getElem_mem hi);refine ⟨((h.1.del a).del b).ins (fun e he=>(ey.1 he).2) _ _,by rw [kK];have:=h.2.1;omega,fun e he=>?_⟩;rcases gR.1 he with rfl | he
 ·rw [hgv,hgs];exact hz
 ·exact h.2.2 e (ey.1 (ey.1 he).1).1
end
theorem ek (U:Nat→Prop) (d:Nat) (D:List Fe) (fu:Nat) (off:Bool) (w:World) (hd:cQ w U d D fu off) (nm:ByteArray) (hn:nm.size≤140737488351232) (n2:ByteArray) (hn2:n2.size≤140737488351232) :
 Rt prog 14 [.pointer (some ⟨d,0,none⟩),.string nm,.string n2] w (fun v w'=>v=.int .i64 (dp D fu off nm n2)∧cQ w' (Nx U w w') d (c6 D fu off nm n2) (fuB (okN nm&&okN n2) fu) (eJ (okN nm&&okN n2) fu off)∧Chg U w w'):=by
 have hd0:=hd;obtain ⟨fs,Ap,cp,ca,h,hD,hok,hfu0,hU⟩:=hd;subst hD;obtain ⟨hs,hl,hz⟩:=hok;rw [av] at hl;refine enter (n:=57) Try.func14 rfl rfl rfl (ag (ab (asi rfl (ah (ae (ag (ab (mvp rfl (mvg rfl (mvg rfl (gG [.tmp 14,.tmp 15] [.string _,.string _] bO rfl rfl rfl rfl (by simp [Value.cells]) ?_)))))))))));intro b16 w1 E16 hb16 hk16;have hF11:ak w _:=(ak.rfl_.next E16);have hbd:b16≠d:=by have:=h.blk.lt;omega
 refine ao fq (nx (h.from_ (ak.rfl_.next E16)) hs hl hfu0 hn hn2 hk16 hbd) ?_;rintro v17 w2 ⟨hop,⟨ca2,h2⟩,hC11⟩;have hT:=(hF11.toChg (U:=U)).next (hC11.wide fun k hk=>.inl (by rw [hk];exact hU d (.inl rfl)));rcases hop with ⟨hz0,rfl⟩ | ⟨hz0,i,fd,hf,⟨hfd,rfl⟩ | ⟨hfd,g,rfl,rfl⟩⟩
 ·refine mvt rfl (aa (aq rfl rfl) (aa (aq rfl rfl) (asp rfl (asi rfl (ah (ae (ag (ag (ab (mvi rfl (aa (bc rfl rfl) (mvb rfl ?_))))))))))));refine p0 (t:=22) rfl (fun Q3=>?_) (fun Q3=>?_);rotate_left
  ·exfalso;omega
  refine aC rfl rfl (aC rfl rfl (aC rfl rfl (aa (aE (v:=.bool _) rfl rfl) (ah (ae (du rfl (ag (ab (mvi rfl (asi rfl ?_))))))))));refine ah (ae (aA (aF (bm (v:=.int _ _) rfl rfl ?_))))
  first
   |(have e1:dp (aw fs) fu off nm n2=bE (okN nm&&okN n2) fu off:=by unfold dp opE;rw [if_pos hz0]
     rw [e1];refine ⟨rfl,?_,hT.next (ak.rfl_).toChg⟩;rw [show c6 (aw fs) fu off nm n2=aw fs by unfold c6;rw [e1,if_neg hz0]];exact bA hU (h2.from_ ak.rfl_) ⟨hs,by rw [av];exact hl,hz⟩ (bu hfu0 _) fun k hk=>.inl hk)
   |(have e1:dp (aw fs) fu off nm n2=3:=by unfold dp opE;rw [if_neg (by omega),hf.has hs,hfd];rfl
     rw [e1];refine ⟨rfl,?_,hT.next (ak.rfl_).toChg⟩;rw [show c6 (aw fs) fu off nm n2=aw fs by unfold c6;rw [e1,if_neg (by decide)]];exact bA hU (h2.from_ ak.rfl_) ⟨hs,by rw [av];exact hl,hz⟩ (bu hfu0 _) fun k hk=>.inl hk)
   |(have e1:dp (aw fs) fu off nm n2=0:=by unfold dp opE;rw [if_neg (by omega),hf.has hs,hfd];rfl
     have e2:nm=n2:=by first | assumption | (apply dM;assumption) | (apply dM;simp_all)
     rw [e1];refine ⟨rfl,?_,hT.next (ak.rfl_).toChg⟩;rw [show c6 (aw fs) fu off nm n2=aw fs by unfold c6;rw [e1,if_pos rfl,if_pos e2]];exact bA hU (h2.from_ ak.rfl_) ⟨hs,by rw [av];exact hl,hz⟩ (bu hfu0 _) fun k hk=>.inl hk)
 ·refine mvt rfl (aa (aq rfl rfl) (aa (aq rfl rfl) (asp rfl (asi rfl (ah (ae (ag (ag (ab (mvi rfl (aa (bc rfl rfl) (mvb rfl ?_))))))))))));refine p0 (t:=22) rfl (fun Q23=>?_) (fun Q23=>?_);rotate_left
  ·exfalso;omega
  refine aC rfl rfl (aC rfl rfl (aC rfl rfl (aa (aE (v:=.bool _) rfl rfl) (ah (ae (du rfl (ag (ab (mvi rfl (asi rfl ?_))))))))));refine ah (ae (aA (aF (bm (v:=.int _ _) rfl rfl ?_))))
  first
   |(have e1:dp (aw fs) fu off nm n2=bE (okN nm&&okN n2) fu off:=by unfold dp opE;rw [if_pos hz0]
     rw [e1];refine ⟨rfl,?_,hT.next (ak.rfl_).toChg⟩;rw [show c6 (aw fs) fu off nm n2=aw fs by unfold c6;rw [e1,if_neg hz0]];exact bA hU (h2.from_ ak.rfl_) ⟨hs,by rw [av];exact hl,hz⟩ (bu hfu0 _) fun k hk=>.inl hk)
   |(have e1:dp (aw fs) fu off nm n2=3:=by unfold dp opE;rw [if_neg (by omega),hf.has hs,hfd];rfl
     rw [e1];refine ⟨rfl,?_,hT.next (ak.rfl_).toChg⟩;rw [show c6 (aw fs) fu off nm n2=aw fs by unfold c6;rw [e1,if_neg (by decide)]];exact bA hU (h2.from_ ak.rfl_) ⟨hs,by rw [av];exact hl,hz⟩ (bu hfu0 _) fun k hk=>.inl hk)
   |(have e1:dp (aw fs) fu off nm n2=0:=by unfold dp opE;rw [if_neg (by omega),hf.has hs,hfd];rfl
     have e2:nm=n2:=by first | assumption | (apply dM;assumption) | (apply dM;simp_all)
     rw [e1];refine ⟨rfl,?_,hT.next (ak.rfl_).toChg⟩;rw [show c6 (aw fs) fu off nm n2=aw fs by unfold c6;rw [e1,if_pos rfl,if_pos e2]];exact bA hU (h2.from_ ak.rfl_) ⟨hs,by rw [av];exact hl,hz⟩ (bu hfu0 _) fun k hk=>.inl hk)
 obtain ⟨hi,hi2⟩:=hf.2.1 hfd;have hia:i<(aw fs).length:=by rw [av];exact hi
 have hk1:(aw fs)[i].1=nm:=by rw [aS];exact hi2
 have hzi:=hz _ (List.getElem_mem hia);rw [aS] at hzi;have hz1:fs[i].vs.length≤1048576:=hzi.1;have hz2:fs[i].ds.length≤1048576:=hzi.2;have hgv:dD (aw fs) nm=fs[i].vs:=by rw [ef hs hia hk1,aS];rfl
 obtain ⟨bp,op,e9,hcd⟩:=(gj h2.row).2 (by omega);cases e9;have hce:=hcd i hi;have hfi:=h2.ok _ (List.getElem_mem hi);have hgs:mK (aw fs) nm=fs[i].ds:=by rw [l_ hs hia hk1,aS];rfl
 refine mvt rfl (aa (aq rfl rfl) (aa (aq rfl rfl) (asp rfl (asi rfl (ah (ae (ag (ag (ab (mvi rfl (aa (bc rfl rfl) (mvb rfl ?_))))))))))));refine p0 (t:=22) rfl (fun Q43=>?_) (fun Q43=>?_)
 ·exfalso;omega
 refine af rfl (mvg rfl (af rfl (mvg rfl (af rfl (aa (fW rfl rfl) (aa (az (v:=.bool _) rfl rfl) (ah (ae (qt rfl (fun Q44=>?_) (fun Q44=>?_))))))))))
 ·refine ag (ab (mvi rfl (asi rfl (ah (ae (aA (aF (bm (v:=.int _ _) rfl rfl ?_))))))))
  first
   |(have e1:dp (aw fs) fu off nm n2=bE (okN nm&&okN n2) fu off:=by unfold dp opE;rw [if_pos hz0]
     rw [e1];refine ⟨rfl,?_,hT.next (ak.rfl_).toChg⟩;rw [show c6 (aw fs) fu off nm n2=aw fs by unfold c6;rw [e1,if_neg hz0]];exact bA hU (h2.from_ ak.rfl_) ⟨hs,by rw [av];exact hl,hz⟩ (bu hfu0 _) fun k hk=>.inl hk)
   |(have e1:dp (aw fs) fu off nm n2=3:=by unfold dp opE;rw [if_neg (by omega),hf.has hs,hfd];rfl
     rw [e1];refine ⟨rfl,?_,hT.next (ak.rfl_).toChg⟩;rw [show c6 (aw fs) fu off nm n2=aw fs by unfold c6;rw [e1,if_neg (by decide)]];exact bA hU (h2.from_ ak.rfl_) ⟨hs,by rw [av];exact hl,hz⟩ (bu hfu0 _) fun k hk=>.inl hk)
   |(have e1:dp (aw fs) fu off nm n2=0:=by unfold dp opE;rw [if_neg (by omega),hf.has hs,hfd];rfl
     have e2:nm=n2:=by first | assumption | (apply dM;assumption) | (apply dM;simp_all)
     rw [e1];refine ⟨rfl,?_,hT.next (ak.rfl_).toChg⟩;rw [show c6 (aw fs) fu off nm n2=aw fs by unfold c6;rw [e1,if_pos rfl,if_pos e2]];exact bA hU (h2.from_ ak.rfl_) ⟨hs,by rw [av];exact hl,hz⟩ (bu hfu0 _) fun k hk=>.inl hk)
 have hne:nm≠n2:=by first | assumption | (intro h9;subst h9;simp_all)
 refine aD (ae (ag (ab (mvg rfl (mvp rfl (aa (aB rfl) (aa (aj bj rfl) (aa (bD (cs:=[_,_]) gb ga rfl (by exact c8 ak.rfl_ (oT hce))) ?_))))))));refine aa (cx (l:=[(0,.tmp 28),(1,.tmp 32)]) (jI _ _ _ _ _ _ _)) (dS gz ?_);intro b9 w45 E9 hb9 hk9;have hz9:=((ak.rfl_ (a:=w2))).size;refine eM (vs:=[_,_,_]) dd rfl rfl (by simp [Value.oneCell']) (hk9) rfl ?_;intro w46 O4 P4;refine ah (ae (ag (ab (mvp rfl (mvg rfl ?_)))));have hF36:ak _ w46:=(((ak.rfl_ (a:=w2)).next E9).only O4 ((by rw [hb9];exact Nat.le_refl _)));have h36:=h2.from_ hF36;refine ao gD (bH d fs _ cp ca2 _ _ _ h36 hs hl (bu hfu0 _) nm) ?_;rintro v36 w47 ⟨rfl,fs2,Ap2,cp2,h3,hab2,hC36,hsub2,hA2⟩;have hT2:=(hT.next hF36.toChg).next (hC36.wide fun k hk=>.inl (hU k (hk.elim .inl fun e=>.inr (.inl e))));have P5:=P4.chg hC36 (fun hk=>hk.elim (fun e=>by have:=h2.blk.lt;omega) (fun e=>by have:=(c_ h2.row b9 e).2;omega));have hs2:KS (aw fs2):=by rw [hab2];exact hs.del nm
 have hl2:fs2.length≤16:=by rw [←av,hab2];exact Nat.le_trans (List.length_filter_le _ _) (by rw [av];exact hl)
 have hfi5:=(hfi.from_ hF36).chg hC36 (fun k hk e=>e.elim (h2.bd (List.getElem_mem hi) hk) (h2.bp (List.getElem_mem hi) hk));refine ah (ae (ag (ab (mvp rfl (mvg rfl ?_)))));have hF39:ak _ w47:=ak.rfl_;have h39:=h3.from_ hF39;refine ao gD (bH d fs2 Ap2 cp2 ca2 _ _ _ h39 hs2 hl2 (bu hfu0 _) n2) ?_;rintro v39 w48 ⟨rfl,fs4,Ap4,cp4,h4,hab4,hC39,hsub4,hA4⟩;have hT3:=(hT2.next hF39.toChg).next (hC39.wide fun k hk=>.inl (hU k (hk.elim .inl fun e=>.inr (.inl (hA2 k e)))));have P6:=(P5.from_ hF39).chg hC39 (fun hk=>hk.elim (fun e=>by have:=h2.blk.lt;omega) (fun e=>by have:=(c_ h2.row b9 (hA2 _ e)).2;omega));have hs4:KS (aw fs4):=by rw [hab4];exact hs2.del n2
 have hl4:fs4.length≤16:=by rw [←av,hab4];exact Nat.le_trans (List.length_filter_le _ _) (by rw [av];exact hl2)
 have hfi6:=(hfi5.from_ hF39).chg hC39 (fun k hk e=>e.elim (h2.bd (List.getElem_mem hi) hk) (fun e=>h2.bp (List.getElem_mem hi) hk (hA2 k e)));refine ah (ae (ag (ab (mvp rfl (mvg rfl (ao eF (gT d fs4 Ap4 cp4 ca2 _ _ _ (h4.from_ ak.rfl_) hs4 hl4 (bu hfu0 _) n2) ?_))))));rintro v43 w49 ⟨⟨i4,fd4,rfl,hf4⟩,E43⟩;have h8:=h4.from_ (ak.rfl_.next E43);have hP8:=P6.from_ (ak.rfl_.next E43);have hB8:=h8.blk;have hR8:=h8.row;have hT8:=hT3.next ((ak.rfl_.next E43)).toChg;have hi4:i4≤fs4.length:=by have:=hf4.1.le;rwa [av] at this
 obtain ⟨f2,hf2⟩:∃ f2:Fl,f2={ fs[i] with nm:=n2 }:=⟨_,rfl⟩;have hfi8:dX w49 f2:=by rw [hf2];exact ⟨(hfi6.from_ (ak.rfl_.next E43)).v,(hfi6.from_ (ak.rfl_.next E43)).d,(hfi6.from_ (ak.rfl_.next E43)).vt,(hfi6.from_ (ak.rfl_.next E43)).dt,(hfi6.from_ (ak.rfl_.next E43)).o,(hfi6.from_ (ak.rfl_.next E43)).n⟩
 have hbd8:∀ k,f2.B k→k≠d:=by rw [hf2];exact fun k hk=>h2.bd (List.getElem_mem hi) hk
 have hbp8:∀ k,f2.B k→Ap4.map (·.block)≠some k:=by rw [hf2];exact fun k hk e=>h2.bp (List.getElem_mem hi) hk (hA2 k (hA4 k e))
 have hsep8:∀ g∈fs4,Sep g f2:=fun g hg=>by
  have hm:=hsub2 g (hsub4 g hg)
  have hnm:g.nm≠nm:=fun e=>by
   have h9:g.abs∈eV (aw fs) nm:=by rw [←hab2];exact List.mem_map_of_mem (hsub4 g hg)
   exact (ey.1 h9).2 e
  obtain ⟨j,hj,rfl⟩:=List.getElem_of_mem hm;have hji:j≠i:=fun e=>by subst e;exact hnm hi2
  have hs9:Sep fs[j] fs[i]:=by
   rcases Nat.lt_or_gt_of_ne hji with e | e
   ·exact List.pairwise_iff_getElem.1 h2.ap j i hj hi e
   ·exact (List.pairwise_iff_getElem.1 h2.ap i j hi hj e).symm
  rw [hf2];exact ⟨hs9.1,hs9.2⟩
 refine mvt rfl (aa (aq rfl rfl) (aa (aq rfl rfl) (asi rfl (asb rfl (ah (ae (ag ?_)))))));apply lM 9 8 [53] [(46,eqp _),(47,eqp _),(48,eqp _),(49,eqp _),(50,eqp (.slice Ap4 fs4.length cp4)),(51,eqp _),(52,eqp (.agg (flV f2).toArray)),(53,fun v w'=>∃ q,v=.slice (some ⟨q,0,none⟩) 1 1∧Blk w' q 63 (flV f2).toArray∧(w49).heap.size≤q),(54,fun v w'=>∃ A5 c5,v=.slice A5 (fs4.length+1) c5∧w'.ownsRow 0 63 3 (.slice A5 (fs4.length+1) c5) (fs4.length+1) ((fs4.take i4++f2::fs4.drop i4).flatMap flV)∧∀ q,A5.map (·.block)=some q→Ap4.map (·.block)=some q∨(w49).heap.size≤q)] (fun w'=>ak w49 w') (fun w'=>Chg (fun k=>k=d∨Ap4.map (·.block)=some k) w49 w'∧Blk w' d 58 #[.slice Ap4 fs4.length cp4,.int .i64 ca2,.int .i64 (fuB (okN nm&&okN n2) fu:Nat),.bool (eJ (okN nm&&okN n2) fu off)]) (by repeat first | exact cv | refine cu ?_ | refine bX ?_) (by kernel_rfl) (by kernel_rfl) (by kernel_rfl) ⟨ai _,ai _,ai _,ai _,ai _,ai _,ai _,(fun _ _ _ hF ⟨q,h1,h2,h3⟩=>⟨q,h1,h2.from_ hF,h3⟩),(fun _ _ _ hF ⟨A2,c2,h1,h2,h3⟩=>⟨A2,c2,h1,h2.kept_from hF,h3⟩),trivial⟩ (ak.rfl_.d1) (⟨ak.rfl_.d1.toChg,hB8.from_ ak.rfl_.d1⟩) (fun _ _ hF h=>h.next hF) (fun _ _ hF h=>⟨h.1.next hF.toChg,h.2.from_ hF⟩)
 case hop=>
  constructor
  ·rintro-w51 ⟨hC51,hb51⟩;exact an (ax (v:=.pointer _) rfl) rfl
  constructor
  ·rintro-w52 ⟨hC52,hb52⟩;exact an (ax (v:=.pointer _) rfl) rfl
  constructor
  ·rintro-w53 ⟨hC53,hb53⟩;rintro _ rfl;exact an (aB rfl) rfl
  constructor
  ·rintro-w54 D54;rintro _ rfl;exact an (aj a_ rfl) rfl
  constructor
  ·rintro-w55 D55;rintro _ rfl;exact an (ar bW rfl ((hB8.from_ D55).rd 0 rfl)) rfl
  constructor
  ·rintro-w56 D56;exact an (ax (v:=.int _ _) rfl) rfl
  constructor
  ·rintro-w57 D57;exact an (bD (cs:=flV f2) eW dd rfl (by rw [hf2];exact (hP8.from_ D57).whole)) rfl
  constructor
  ·rintro-w58 D58;rintro v58_52 rfl;exact fe (ja cG rfl rfl rfl) (ak.rfl_.new _) ⟨_,rfl,Blk.new _ _ _,D58.size⟩
  constructor
  ·intro h;cases h
  exact trivial
 case hmu=>
  rintro w60 D60;rintro v60_50 rfl _ rfl v60_53 ⟨q60,rfl,hq60,hqs60⟩;show kk ..;refine oK j9 (jo 0 Ap4 cp4 fs4.length i4 1 q60 0 1 (fs4.flatMap flV) (flV f2) _ _ _ ((hR8.kept_from D60)) (Nat.zero_le _) hi4 (by decide) rfl hq60.whole hq60 (fun k hk e=>by have:=(c_ hR8 k hk).2;omega) (kd _) (fL _) (by omega)) ?_;rintro v w3 ⟨⟨A2,c2,rfl,ho3,hA3⟩,hg3⟩;rw [pw] at ho3;have hs9:=D60.size;refine ⟨⟨D60.toChg.next (Chg.of_grown hg3 (fun k e=>.inr e)),(hB8.from_ D60).grown hg3 (ch (hR8.kept_from D60) (hB8.from_ D60) (by decide))⟩,⟨A2,c2,rfl,ho3,fun q hq=>(hA3 q hq).imp (fun e=>e) fun e=>Nat.le_trans hs9 e⟩,fun t u ht h=>gN (by repeat first | exact trivial | refine ⟨.inl rfl,?_⟩ | refine ⟨.inr (fun _ h=>h),?_⟩) t u ht h⟩
 case hend=>
  rintro w61 ⟨hC61,hb61⟩;rintro _ rfl _ rfl _ rfl _ rfl v50 rfl _ rfl v52 rfl v53 _ v54 ⟨A54,c54,rfl,ho54,hA54⟩;show St ..;have hC8:=hC61;have hbb:=hb61;refine aa (aB rfl) (aa (aj a_ rfl) (dy (v:=.slice _ _ _) eD rfl rfl rfl (hbb) (by show 0<4;decide) ?_));intro w62 O8 P8;refine ah (ae (ag (ab (asi rfl (ah (ae (aA (bm (v:=.int _ _) rfl rfl ?_))))))));have e1:dp (aw fs) fu off nm n2=0:=by unfold dp opE;rw [if_neg (by omega),hf.has hs,hfd];rfl
  have hC9:Chg (fun k=>k=d∨Ap4.map (·.block)=some k) _ w62:=hC8.next (O8.toChg (.inl rfl));have hr:=dz ho54 O8 (ch ho54 hbb (by decide));have hfo:dX w62 f2:=hfi8.chg hC9 fun k hk e=>e.elim (fun e=>hbd8 k hk e) (fun e=>hbp8 k hk e)
  have hk:=h8.ins hC9 P8 hi4 hr hfo hsep8
  have hab:aw (fs4.take i4++f2::fs4.drop i4)=gu (eV (eV (aw fs) nm) n2) (n2,dD (aw fs) nm,mK (aw fs) nm):=by
   rw [kZ,←hab2,←hab4,hgv,hgs,hf4.1.ins,hf2];rfl
  rw [e1];have hT9:=hT8.next (hC9.wide fun k hk=>.inl (hk.elim (fun e=>hU k (.inl e)) fun e=>hU k (.inr (.inl (hA2 k (hA4 k e))))));refine ⟨rfl,?_,hT9⟩;rw [show c6 (aw fs) fu off nm n2=aw (fs4.take i4++f2::fs4.drop i4) by unfold c6;rw [e1,if_pos rfl,if_neg hne,hab]];refine bA hU hk (by rw [hab];exact DOk.ren ⟨hs,by rw [av];exact hl,hz⟩ (by rw [hf.has hs,hfd]) hne) (bu hfu0 _) fun k hk=>?_
  rcases hk with e | e | ⟨f3,h3,e⟩
  ·exact .inl (.inl e)
  ·exact (hA54 k e).imp (fun e=>.inr (.inl (hA2 k (hA4 k e)))) fun e=>Nat.le_trans hT8.size e
  ·rcases List.mem_append.1 h3 with h9 | h9
   ·exact .inl (.inr (.inr ⟨f3,hsub2 _ (hsub4 _ (List.mem_of_mem_take h9)),e⟩))
   ·rcases List.mem_cons.1 h9 with rfl | h9
    ·rw [hf2] at e;exact .inl (.inr (.inr ⟨fs[i],List.getElem_mem hi,e⟩))
    ·exact .inl (.inr (.inr ⟨f3,hsub2 _ (hsub4 _ (List.mem_of_mem_drop h9)),e⟩))
end Go.Proofs.Ytmbcbinocebodaa
namespace Go.Proofs.Ytmbcbinocebodaa
open Go.Proofs.Try (prog)
open Go.RowKit
open Go.ChangeShapes Go.WideShapes Go.ChangeAt
theorem bP:(cr prog 22).isSome=true:=by kernel_rfl
theorem lP:prog.built 58 []=some #[.slice none 0 0,.int .i64 0,.int .i64 0,.bool false]:=by kernel_rfl
theorem dI:cr prog 22=some (53,2):=by kernel_rfl
theorem dH:fm prog 53=some true:=by kernel_rfl
theorem cJ:cL prog 53=some 2:=by kernel_rfl
theorem iq:iO prog 53=some (.agg #[.string ⟨#[]⟩,.slice none 0 0]):=by kernel_rfl
theorem bB:cA prog 53 0=some 0:=by kernel_rfl
theorem bT:cA prog 53 1=some 1:=by kernel_rfl
theorem gn:∀ (a0:Option Addr) (a1 a2:Nat) (a3:Option Addr) (a4 a5:Nat),prog.built 61 [(0,.slice a0 a1 a2),(1,.slice a3 a4 a5)]=some #[.slice a0 a1 a2,.slice a3 a4 a5]:=by intros;kernel_rfl
section
variable {ops:Array Oper} {n:Fr} {L:List (Nat×Value)} {dst:Option Nat} {ty:TypeId} {pos:String} {after:Array Edge}
theorem l8 {P:Program} {s x:Operand} {t:TypeId} {w:World} {post:Value→World→Prop} {base:Nat} {A A2:Option Addr} {m j cap c2 e size by_:Nat} {z:Value} {xs news:List Value} (hq:dq P t=some (e,size,by_,z)) (hzs:z.cells.size=size) (hs0:0<size)
 (hs:ev n L s=.slice A m cap) (hown:w.ownsRow base e size (.slice A m cap) m xs) (hB:base≤w.heap.size)
 (hx:ev n L x=.slice A2 j c2) (hl:news.length=j*size) (hsrc:∃ b o,A2=some ⟨b,o,none⟩∧w.rangeAt b o news) (h1:∀ u∈news,u.oneCell'=true) (h63:m+j≤9223372036854775807) (hby:(m+j)*by_≤140737488355328)
 (k:∀ A' cap' w',w'.ownsRow base e size (.slice A' (m+j) cap') (m+j) (xs++news)→w.grownBy w' (A.map (·.block))→(A'.map (·.block)=A.map (·.block)∨A'.map (·.block)=some w.heap.size)→post (.slice A' (m+j) cap') w') :
 kk P ops n L ⟨dst,.call { callee:=.builtin .append,args:=#[s,x],argTypes:=#[t,t] },ty,pos,after,none⟩ w post:=by
 obtain ⟨A',cap',w',hr,ho,hg,hl⟩:=jc (P:=P) (ρ:=ev n L) hq hzs hs0 hs hown hB hx hl hsrc h1 h63 hby;exact qg hr (k A' cap' w' ho hg hl)
end
structure Af where
 nm:ByteArray
 A:Option Addr
 c:Nat
 bs:List Nat
def afV (f:Af):List Value:=[.string f.nm,.slice f.A f.bs.length f.c]
theorem fo (f:Af):(afV f).length=2:=rfl
theorem gW (f:Af):∀ u∈afV f,u.oneCell'=true:=by simp [afV,Value.oneCell']
def afE (f:Af):Fe:=(f.nm,f.bs,f.bs)
def jJ (w:World) (f:Af):Prop:=RB w f.A f.c f.bs∧f.nm.size≤140737488351232∧f.bs.length≤140737488355328
def okJ (fs:List Af) (j:Nat):Prop:=∀ h:j<fs.length,okN fs[j].nm=true∧fs[j].bs.length≤1048576∧(0<j→sLt (fs[j-1]'(by omega)).nm fs[j].nm)
def nG (fs:List Af):Prop:=fs.length≤16∧∀ j,okJ fs j
theorem nK {fs:List Af} (h:∀ j,okJ fs j):KS (fs.map afE):=by
 unfold KS;rw [List.pairwise_map,List.pairwise_iff_getElem];intro i j hi hj hij
 induction j with
 |zero=>omega
 |succ j ih=>
  have h1:=(h (j+1) hj).2.2 (Nat.zero_lt_succ _);rcases Nat.eq_or_lt_of_le (Nat.le_of_lt_succ hij) with e | e
  ·subst e;exact h1
  ·exact fU (ih (by omega) e) h1
theorem pP {a b:ByteArray} (h:¬ sLt a b):(!(Op.bytesLess a.toList b.toList))=true:=by
 rcases hb:Op.bytesLess a.toList b.toList with _ | _
 ·rfl
 ·exact absurd ((lX _ _).1 hb) h
theorem oc {a b:ByteArray} (h:sLt a b):(!(Op.bytesLess a.toList b.toList))=false:=by rw [(lX _ _).2 h];rfl
theorem jk (A:Option Addr) (c n:Nat) (fs:List Af) (w:World) (hr:da 2 afV w A fs) (hn:n=fs.length) (hall:∀ f∈fs,jJ w f) :
 Rt prog 8 [.slice A n c] w (fun v w'=>((¬ nG fs∧v=.tuple #[.pointer none,.int .i64 1])∨(nG fs∧∃ d,v=.tuple #[.pointer (some ⟨d,0,none⟩),.int .i64 0]∧cQ w' (fun k=>w.heap.size≤k) d (fs.map afE) 0 false))∧ak w w'):=by
 subst hn;refine enter (n:=66) Try.func8 rfl rfl rfl (ag (ab (asp rfl (asi rfl (ah (ae (ag (ag (ab (mvs rfl (aa (aQ bP rfl) (aa (bZ rfl rfl) (ah (ae ?_))))))))))))));refine qu rfl (fun Q1=>?_) (fun Q1=>?_)
 ·refine ag (ab (asp rfl (asi rfl (ah (ae (aA (aF (fa (v:=.pointer _) (v':=.int _ _) rfl rfl rfl ?_))))))));exact ⟨.inl ⟨fun h=>by have:=h.1;omega,rfl⟩,ak.rfl_⟩
 refine aD (ae (ag (ab (aa (cx (l:=[]) (lP)) (eP (v:=.agg _) rfl ?_)))));intro b12 w2 E12 hb12 hk12;have hg12:w.heap.size≤b12:=by rw [hb12];exact (ak.rfl_).size
 refine asp rfl (ah (ae (ag (ag (ab (mvs rfl (aa (aQ bP rfl) (mvi rfl (ah (ae (a7 (cO (G:=Nat×List Fl×Option Addr×Nat) [2,3,5,6,7,16,17,18,19,20,21,22,23,24,25,26,27,28,29,30,31,32,33,34,35,36,37,38,39,40,41,42,43,44,45,46,47,48,49,50,51,52,53,54,55,56,57,58,59,60,61,62,63,64] (fun (i,_)=>[(15,.int .i64 (i:Nat))]) (fun (i,gs,Ap,cp) w'=>i≤fs.length∧gs.length=i∧(∀ j,j<i→okJ fs j)∧aw gs=(fs.take i).map afE∧DkH w' b12 gs Ap cp 0 0 false∧(∀ k,hH b12 Ap gs k→w.heap.size≤k)∧ak w w') (fun (i,_)=>fs.length-i) ((0,[],none,0)) ⟨rfl,trivial⟩ ?_ ?_))))))))))))
 ·exact ⟨Nat.zero_le _,rfl,fun j h=>absurd h (Nat.not_lt_zero _),rfl,⟨hk12,World.ownsRow_nil _ _ _ _,fun f hf=>(by cases hf),List.Pairwise.nil⟩,fun k hk=>(by rcases hk with e | e | ⟨f,hf,_⟩;omega;cases e;cases hf),(ak.rfl_.next E12)⟩
 rintro ⟨i,gs,Ap,cp⟩ ρ3 w3 ⟨hi,hgl,hoj,hga,hD,hft,hB⟩;refine ag (ab (aa (bY rfl rfl) (ah (ae (ag (qu rfl (fun Q4=>?_) (fun Q4=>?_)))))))
 ·have hil:i<fs.length:=by omega
  obtain ⟨bd,od,rfl,hcd⟩:=hr (by omega);have hce:=hcd i hil;have hn16:fs.length≤16:=by omega
  refine aD (ae (ag (a7 (ag (ab (mvi rfl (aa (aL dI rfl rfl (by omega)) (aa (bD (cs:=[_,_]) dH cJ rfl (by exact c8 hB hce)) ?_))))))));refine dS iq ?_;intro b6 w5 E6 hb6 hk6;have hg6:w.heap.size≤b6:=by rw [hb6];exact (hB).size
  refine asi rfl (eM (vs:=[_,_]) cJ rfl rfl (by simp [Value.oneCell']) (hk6) rfl ?_);intro w6 O6 P6;have F6:ak _ w6:=E6.only O6 (by rw [hb6];exact Nat.le_refl _);have h6:=hD.from_ F6;have hz6:=F6.size;obtain ⟨z6,hz6e⟩:∃ z6,z6=(w6).heap.size:=⟨_,rfl⟩;refine ah (ae (ag (ag ?_)))
  have hsp:okN fs[i].nm=false∨(okN fs[i].nm=true∧1048576<fs[i].bs.length)∨(okN fs[i].nm=true∧fs[i].bs.length≤1048576∧i=0)∨(okN fs[i].nm=true∧fs[i].bs.length≤1048576∧0<i∧¬ sLt fs[i-1].nm fs[i].nm)∨(okN fs[i].nm=true∧fs[i].bs.length≤1048576∧0<i∧sLt fs[i-1].nm fs[i].nm):=by
   rcases hb:okN fs[i].nm with _ | _
   ·exact .inl rfl
   ·by_cases h1:1048576<fs[i].bs.length
    ·exact .inr (.inl ⟨rfl,h1⟩)
    ·by_cases h2:i=0
     ·exact .inr (.inr (.inl ⟨rfl,by omega,h2⟩))
     ·by_cases h3:sLt fs[i-1].nm fs[i].nm
      ·exact .inr (.inr (.inr (.inr ⟨rfl,by omega,by omega,h3⟩)))
      ·exact .inr (.inr (.inr (.inl ⟨rfl,by omega,by omega,h3⟩)))
  rcases hsp with hokn | ⟨hokn,hlen⟩ | ⟨hokn,hlen,hi0⟩ | ⟨hokn,hlen,hi0,hns⟩ | ⟨hokn,hlen,hi0,hsl⟩
  ·have hbad:¬ okJ fs i:=fun h=>by have:=(h hil).1;rw [hokn] at this;cases this
   apply b_ 26 [(20,eqp _),(21,eqp (.string fs[i].nm)),(22,fun v w'=>∃ q,v=.slice (some ⟨q,0,none⟩) 1 1∧Blk w' q 9 #[.string fs[i].nm]),(23,eqp _),(24,eqp _),(25,eqp _),(26,eqp _),(27,eqp _),(28,eqp _),(29,eqp _),(30,eqp _),(31,eqp _),(32,eqp _),(33,eqp _),(34,eqp _),(35,eqp _),(36,eqp _),(37,eqp _),(38,eqp _),(39,eqp _),(40,eqp _),(41,eqp _),(42,eqp _),(43,eqp _),(44,eqp _),(45,eqp _)] (by repeat first | exact cv | refine cu ?_ | refine bX ?_) (by kernel_rfl) (by kernel_rfl) ⟨ai _,ai _,(fun _ _ _ hF ⟨q,h1,h2⟩=>⟨q,h1,h2.from_ hF⟩),ai _,ai _,ai _,ai _,ai _,ai _,ai _,ai _,ai _,ai _,ai _,ai _,ai _,ai _,ai _,ai _,ai _,ai _,ai _,ai _,ai _,ai _,ai _,trivial⟩
   case hop=>
    constructor
    ·rintro-w8 D8;exact an (aj bB rfl) rfl
    constructor
    ·rintro-w9 D9;rintro _ rfl;exact an (ar a8 rfl (by exact (P6.from_ (ak.rfl_.next D9)).rd 0 rfl)) rfl
    constructor
    ·rintro-w10 D10;rintro v10_21 rfl;exact fe (gJ (v:=.string fs[i].nm) bO rfl rfl rfl) (ak.rfl_.new _) ⟨_,rfl,Blk.new _ _ _⟩
    constructor
    ·rintro-w11 D11;rintro v11_22 ⟨q22,rfl,hq22⟩;refine fX dF ((eo (some ⟨q22,0,none⟩) 1 1 [fs[i].nm] _ (ix hq22) rfl (by omega) (fun s hs=>by rw [List.mem_singleton.1 hs];exact (hall _ (List.getElem_mem hil)).2.1)).mono ?_);rintro v _ ⟨rfl,E11'⟩;exact ⟨E11',rfl⟩
    constructor
    ·rintro-w12 D12;rintro _ rfl;exact an (cZ (bJ rfl) (by simp [hokn])) rfl
    constructor
    ·rintro-w13 D13;rintro _ rfl;exact an (ax (v:=.bool _) rfl) rfl
    constructor
    ·rintro-w14 D14;rintro _ rfl;exact cm rfl rfl rfl
    constructor
    ·rintro-w15 D15;rintro _ rfl _ rfl;exact cm rfl rfl rfl
    constructor
    ·rintro-w16 D16;rintro _ rfl _ rfl;exact cm rfl rfl rfl
    constructor
    ·rintro-w17 D17;rintro _ rfl _ rfl;exact cm rfl rfl rfl
    constructor
    ·rintro-w18 D18;rintro _ rfl _ rfl;exact an (aE (v:=.bool _) rfl rfl) rfl
    constructor
    ·rintro-w19 D19;rintro _ rfl;exact an (ax (v:=.bool _) rfl) rfl
    constructor
    ·rintro-w20 D20;rintro _ rfl;exact cm rfl rfl rfl
    constructor
    ·rintro-w21 D21;rintro _ rfl _ rfl;exact cm rfl rfl rfl
    constructor
    ·rintro-w22 D22;rintro _ rfl _ rfl;exact cm rfl rfl rfl
    constructor
    ·rintro-w23 D23;rintro _ rfl;exact cc rfl rfl
    constructor
    ·rintro-w24 D24;rintro _ rfl;exact cc rfl rfl
    constructor
    ·rintro-w25 D25;rintro _ rfl _ rfl;exact cc rfl rfl
    constructor
    ·rintro-w26 D26;rintro _ rfl _ rfl _ rfl;exact cc rfl rfl
    constructor
    ·rintro-w27 D27;rintro _ rfl _ rfl;exact cc rfl rfl
    constructor
    ·rintro-w28 D28;rintro _ rfl _ rfl;exact cc rfl rfl
    constructor
    ·rintro-w29 D29;rintro _ rfl;exact cc rfl rfl
    constructor
    ·rintro-w30 D30;rintro _ rfl _ rfl;exact cc rfl rfl
    constructor
    ·rintro-w31 D31;rintro _ rfl _ rfl _ rfl;exact cc rfl rfl
    constructor
    ·rintro-w32 D32;rintro _ rfl _ rfl _ rfl;exact cm rfl rfl rfl
    constructor
    ·rintro-w33 D33;rintro _ rfl _ rfl;exact an (aE (v:=.bool _) rfl rfl) rfl
    exact trivial
   case hend=>
    intro w34 D34;rintro _ rfl v21 rfl v22 ⟨q22,rfl,hq22⟩ _ rfl _ rfl _ rfl _ rfl _ rfl _ rfl _ rfl _ rfl _ rfl _ rfl _ rfl _ rfl _ rfl _ rfl _ rfl _ rfl _ rfl _ rfl _ rfl _ rfl _ rfl _ rfl _ rfl;show St ..;refine ah (ae (du rfl (ag (ab (asp rfl (asi rfl (ah (ae (aA (aF (bK (aF (aF (bK (aF (fa (v:=.pointer _) (v':=.int _ _) rfl rfl rfl (⟨.inl ⟨fun h=>hbad (h.2 i),rfl⟩,(((hB.next E6).only O6 (hg6)).next D34)⟩)))))))))))))))))
  ·have hbad:¬ okJ fs i:=fun h=>by have:=(h hil).2.1;omega
   apply b_ 26 [(20,eqp _),(21,eqp (.string fs[i].nm)),(22,fun v w'=>∃ q,v=.slice (some ⟨q,0,none⟩) 1 1∧Blk w' q 9 #[.string fs[i].nm]),(23,eqp _),(24,eqp _),(25,eqp _),(26,eqp _),(27,eqp (.slice fs[i].A fs[i].bs.length fs[i].c)),(28,eqp _),(29,eqp _),(30,eqp _),(31,eqp _),(32,eqp _),(33,eqp _),(34,eqp _),(35,eqp _),(36,eqp _),(37,eqp _),(38,eqp _),(39,eqp _),(40,eqp _),(41,eqp _),(42,eqp _),(43,eqp _),(44,eqp _),(45,eqp _)] (by repeat first | exact cv | refine cu ?_ | refine bX ?_) (by kernel_rfl) (by kernel_rfl) ⟨ai _,ai _,(fun _ _ _ hF ⟨q,h1,h2⟩=>⟨q,h1,h2.from_ hF⟩),ai _,ai _,ai _,ai _,ai _,ai _,ai _,ai _,ai _,ai _,ai _,ai _,ai _,ai _,ai _,ai _,ai _,ai _,ai _,ai _,ai _,ai _,ai _,trivial⟩
   case hop=>
    constructor
    ·rintro-w36 D36;exact an (aj bB rfl) rfl
    constructor
    ·rintro-w37 D37;rintro _ rfl;exact an (ar a8 rfl (by exact (P6.from_ (ak.rfl_.next D37)).rd 0 rfl)) rfl
    constructor
    ·rintro-w38 D38;rintro v38_21 rfl;exact fe (gJ (v:=.string fs[i].nm) bO rfl rfl rfl) (ak.rfl_.new _) ⟨_,rfl,Blk.new _ _ _⟩
    constructor
    ·rintro-w39 D39;rintro v39_22 ⟨q22,rfl,hq22⟩;refine fX dF ((eo (some ⟨q22,0,none⟩) 1 1 [fs[i].nm] _ (ix hq22) rfl (by omega) (fun s hs=>by rw [List.mem_singleton.1 hs];exact (hall _ (List.getElem_mem hil)).2.1)).mono ?_);rintro v _ ⟨rfl,E39'⟩;exact ⟨E39',rfl⟩
    constructor
    ·rintro-w40 D40;rintro _ rfl;exact an (bw (bJ rfl) (by simp [hokn])) rfl
    constructor
    ·rintro-w41 D41;rintro _ rfl;exact an (ax (v:=.bool _) rfl) rfl
    constructor
    ·rintro-w42 D42;rintro _ rfl;exact aI rfl (aj bT rfl) rfl
    constructor
    ·rintro-w43 D43;rintro _ rfl _ rfl;exact aI rfl (ar (v:=.slice fs[i].A fs[i].bs.length fs[i].c) aJ rfl ((P6.from_ (ak.rfl_.next D43)).rd 1 rfl)) rfl
    constructor
    ·rintro-w44 D44;rintro _ rfl v44_27 rfl;exact aI rfl (aQ bo rfl) rfl
    constructor
    ·rintro-w45 D45;rintro _ rfl _ rfl;exact aI rfl (cZ (bZ rfl rfl) (decide_eq_true (by omega))) rfl
    constructor
    ·rintro-w46 D46;rintro _ rfl _ rfl;exact an (az (v:=.bool _) rfl rfl) rfl
    constructor
    ·rintro-w47 D47;rintro _ rfl;exact an (ax (v:=.bool _) rfl) rfl
    constructor
    ·rintro-w48 D48;rintro _ rfl;exact cm rfl rfl rfl
    constructor
    ·rintro-w49 D49;rintro _ rfl _ rfl;exact cm rfl rfl rfl
    constructor
    ·rintro-w50 D50;rintro _ rfl _ rfl;exact cm rfl rfl rfl
    constructor
    ·rintro-w51 D51;rintro _ rfl;exact cc rfl rfl
    constructor
    ·rintro-w52 D52;rintro _ rfl;exact cc rfl rfl
    constructor
    ·rintro-w53 D53;rintro _ rfl _ rfl;exact cc rfl rfl
    constructor
    ·rintro-w54 D54;rintro _ rfl _ rfl _ rfl;exact cc rfl rfl
    constructor
    ·rintro-w55 D55;rintro _ rfl _ rfl;exact cc rfl rfl
    constructor
    ·rintro-w56 D56;rintro _ rfl _ rfl;exact cc rfl rfl
    constructor
    ·rintro-w57 D57;rintro _ rfl;exact cc rfl rfl
    constructor
    ·rintro-w58 D58;rintro _ rfl _ rfl;exact cc rfl rfl
    constructor
    ·rintro-w59 D59;rintro _ rfl _ rfl _ rfl;exact cc rfl rfl
    constructor
    ·rintro-w60 D60;rintro _ rfl _ rfl _ rfl;exact cm rfl rfl rfl
    constructor
    ·rintro-w61 D61;rintro _ rfl _ rfl;exact an (aE (v:=.bool _) rfl rfl) rfl
    exact trivial
   case hend=>
    intro w62 D62;rintro _ rfl v21 rfl v22 ⟨q22,rfl,hq22⟩ _ rfl _ rfl _ rfl _ rfl v27 rfl _ rfl _ rfl _ rfl _ rfl _ rfl _ rfl _ rfl _ rfl _ rfl _ rfl _ rfl _ rfl _ rfl _ rfl _ rfl _ rfl _ rfl _ rfl;show St ..;refine ah (ae (du rfl (ag (ab (asp rfl (asi rfl (ah (ae (aA (aF (bK (aF (aF (bK (aF (fa (v:=.pointer _) (v':=.int _ _) rfl rfl rfl (⟨.inl ⟨fun h=>hbad (h.2 i),rfl⟩,(((hB.next E6).only O6 (hg6)).next D62)⟩)))))))))))))))))
  ·have hord:0<i→sLt (fs[i-1]'(by omega)).nm fs[i].nm:=fun h=>by omega
   apply b_ 26 [(20,eqp _),(21,eqp (.string fs[i].nm)),(22,fun v w'=>∃ q,v=.slice (some ⟨q,0,none⟩) 1 1∧Blk w' q 9 #[.string fs[i].nm]),(23,eqp _),(24,eqp _),(25,eqp _),(26,eqp _),(27,eqp (.slice fs[i].A fs[i].bs.length fs[i].c)),(28,eqp _),(29,eqp _),(30,eqp _),(31,eqp _),(32,eqp _),(33,eqp _),(34,eqp _),(35,eqp _),(36,eqp _),(37,eqp _),(38,eqp _),(39,eqp _),(40,eqp _),(41,eqp _),(42,eqp _),(43,eqp _),(44,eqp _),(45,eqp _)] (by repeat first | exact cv | refine cu ?_ | refine bX ?_) (by kernel_rfl) (by kernel_rfl) ⟨ai _,ai _,(fun _ _ _ hF ⟨q,h1,h2⟩=>⟨q,h1,h2.from_ hF⟩),ai _,ai _,ai _,ai _,ai _,ai _,ai _,ai _,ai _,ai _,ai _,ai _,ai _,ai _,ai _,ai _,ai _,ai _,ai _,ai _,ai _,ai _,ai _,trivial⟩
   case hop=>
    constructor
    ·rintro-w64 D64;exact an (aj bB rfl) rfl
    constructor
    ·rintro-w65 D65;rintro _ rfl;exact an (ar a8 rfl (by exact (P6.from_ (ak.rfl_.next D65)).rd 0 rfl)) rfl
    constructor
    ·rintro-w66 D66;rintro v66_21 rfl;exact fe (gJ (v:=.string fs[i].nm) bO rfl rfl rfl) (ak.rfl_.new _) ⟨_,rfl,Blk.new _ _ _⟩
    constructor
    ·rintro-w67 D67;rintro v67_22 ⟨q22,rfl,hq22⟩;refine fX dF ((eo (some ⟨q22,0,none⟩) 1 1 [fs[i].nm] _ (ix hq22) rfl (by omega) (fun s hs=>by rw [List.mem_singleton.1 hs];exact (hall _ (List.getElem_mem hil)).2.1)).mono ?_);rintro v _ ⟨rfl,E67'⟩;exact ⟨E67',rfl⟩
    constructor
    ·rintro-w68 D68;rintro _ rfl;exact an (bw (bJ rfl) (by simp [hokn])) rfl
    constructor
    ·rintro-w69 D69;rintro _ rfl;exact an (ax (v:=.bool _) rfl) rfl
    constructor
    ·rintro-w70 D70;rintro _ rfl;exact aI rfl (aj bT rfl) rfl
    constructor
    ·rintro-w71 D71;rintro _ rfl _ rfl;exact aI rfl (ar (v:=.slice fs[i].A fs[i].bs.length fs[i].c) aJ rfl ((P6.from_ (ak.rfl_.next D71)).rd 1 rfl)) rfl
    constructor
    ·rintro-w72 D72;rintro _ rfl v72_27 rfl;exact aI rfl (aQ bo rfl) rfl
    constructor
    ·rintro-w73 D73;rintro _ rfl _ rfl;exact aI rfl (bw (bZ rfl rfl) (decide_eq_false (by omega))) rfl
    constructor
    ·rintro-w74 D74;rintro _ rfl _ rfl;exact an (az (v:=.bool _) rfl rfl) rfl
    constructor
    ·rintro-w75 D75;rintro _ rfl;exact an (ax (v:=.bool _) rfl) rfl
    constructor
    ·rintro-w76 D76;rintro _ rfl;exact aI rfl (ax (v:=.int _ _) rfl) rfl
    constructor
    ·rintro-w77 D77;rintro _ rfl _ rfl;exact aI rfl (bw (bZ rfl rfl) (decide_eq_false (by omega))) rfl
    constructor
    ·rintro-w78 D78;rintro _ rfl _ rfl;exact aI rfl (ax (v:=.bool _) rfl) rfl
    constructor
    ·rintro-w79 D79;rintro _ rfl;exact cm rfl rfl rfl
    constructor
    ·rintro-w80 D80;rintro _ rfl;exact cm rfl rfl rfl
    constructor
    ·rintro-w81 D81;rintro _ rfl _ rfl;exact cm rfl rfl rfl
    constructor
    ·rintro-w82 D82;rintro _ rfl _ rfl _ rfl;exact cm rfl rfl rfl
    constructor
    ·rintro-w83 D83;rintro _ rfl _ rfl;exact cm rfl rfl rfl
    constructor
    ·rintro-w84 D84;rintro _ rfl _ rfl;exact cm rfl rfl rfl
    constructor
    ·rintro-w85 D85;rintro _ rfl;exact cm rfl rfl rfl
    constructor
    ·rintro-w86 D86;rintro _ rfl _ rfl;exact cm rfl rfl rfl
    constructor
    ·rintro-w87 D87;rintro _ rfl _ rfl _ rfl;exact cm rfl rfl rfl
    constructor
    ·rintro-w88 D88;rintro _ rfl _ rfl _ rfl;exact aI rfl (az (v:=.bool _) rfl rfl) rfl
    constructor
    ·rintro-w89 D89;rintro _ rfl _ rfl;exact an (az (v:=.bool _) rfl rfl) rfl
    exact trivial
   case hend=>
    intro w90 D90;rintro _ rfl v21 rfl v22 ⟨q22,rfl,hq22⟩ _ rfl _ rfl _ rfl _ rfl v27 rfl _ rfl _ rfl _ rfl _ rfl _ rfl _ rfl _ rfl _ rfl _ rfl _ rfl _ rfl _ rfl _ rfl _ rfl _ rfl _ rfl _ rfl _ rfl;show St ..;refine ah (ae (bI rfl (aD (ae (ag (ab (aa (aj bT rfl) (aa (ar aJ rfl (by exact (P6.from_ (ak.rfl_.next D90)).rd 1 rfl)) ?_))))))));have hM48:ak _ w90:=(ak.rfl_.next D90);refine ao dG (bh fs[i].A fs[i].c fs[i].bs.length fs[i].bs _ ((hall _ (List.getElem_mem hil)).1.from_ (((hB.next E6).only O6 (hg6)).next D90)) rfl (by omega)) ?_;rintro v48 w91 ⟨⟨A48,c48,rfl,ho48⟩,E48⟩;have h10:=h6.from_ (((ak.rfl_.next D90).next E48));have hB10:ak w w91:=((((hB.next E6).only O6 (hg6)).next D90).next E48);have P10a:=P6.from_ (((ak.rfl_.next D90).next E48));obtain ⟨f2,hf2⟩:∃ f2:Fl,f2=⟨fs[i].nm,A48,c48,A48,c48,fs[i].bs,fs[i].bs,true⟩:=⟨_,rfl⟩;have hz10:=(((((hB.next E6).only O6 (hg6)).next D90).next E48)).size;have hB48:∀ k,f2.B k→z6≤k:=by rw [hf2,hz6e];exact fun k hk=>hk.elim (fun e=>Nat.le_trans hM48.size (c_ ho48 k e).1) fun e=>Nat.le_trans hM48.size (c_ ho48 k e).1
    have hf10:dX w91 f2:=by rw [hf2];exact ⟨(RB.own ho48 (hall _ (List.getElem_mem hil)).1.bt).2,(RB.own ho48 (hall _ (List.getElem_mem hil)).1.bt).2,TyB.own ho48,TyB.own ho48,fun _=>⟨c9 ho48 (Nat.zero_le _),.inr ⟨rfl,[],(List.append_nil _).symm⟩⟩,fun h=>by cases h⟩
    refine ass rfl (ah (ae ?_));apply lM 13 12 [60] [(49,eqp _),(50,eqp _),(51,eqp _),(52,eqp _),(53,eqp (.slice Ap gs.length cp)),(54,eqp _),(55,eqp (.string fs[i].nm)),(56,eqp _),(57,eqp _),(58,eqp _),(59,eqp (.agg (flV f2).toArray)),(60,fun v w'=>∃ q,v=.slice (some ⟨q,0,none⟩) 1 1∧Blk w' q 63 (flV f2).toArray),(61,fun v w'=>∃ A5 c5,v=.slice A5 (gs.length+1) c5∧w'.ownsRow 0 63 3 (.slice A5 (gs.length+1) c5) (gs.length+1) ((gs++[f2]).flatMap flV)∧∀ q,A5.map (·.block)=some q→Ap.map (·.block)=some q∨(w91).heap.size≤q)] (fun w'=>ak w91 w') (fun w'=>Chg (fun k=>Ap.map (·.block)=some k) w91 w'∧Blk w' b12 58 #[.slice Ap gs.length cp,.int .i64 0,.int .i64 ((0:Nat):Int),.bool false]∧Blk w' b6 53 (afV fs[i]).toArray∧ak w w') (by repeat first | exact cv | refine cu ?_ | refine bX ?_) (by kernel_rfl) (by kernel_rfl) (by kernel_rfl) ⟨ai _,ai _,ai _,ai _,ai _,ai _,ai _,ai _,ai _,ai _,ai _,(fun _ _ _ hF ⟨q,h1,h2⟩=>⟨q,h1,h2.from_ hF⟩),(fun _ _ _ hF ⟨A2,c2,h1,h2,h3⟩=>⟨A2,c2,h1,h2.kept_from hF,h3⟩),trivial⟩ (ak.rfl_.d1) (⟨ak.rfl_.d1.toChg,h10.blk.from_ ak.rfl_.d1,P10a.from_ ak.rfl_.d1,(((((hB.next E6).only O6 (hg6)).next D90).next E48)).d1⟩) (fun _ _ hF h=>h.next hF) (fun _ _ hF h=>⟨h.1.next hF.toChg,h.2.1.from_ hF,h.2.2.1.from_ hF,h.2.2.2.next hF⟩)
    case hop=>
     constructor
     ·rintro-w93 ⟨hC93,hb93,hp93,hw93⟩;exact an (ax (v:=.pointer _) rfl) rfl
     constructor
     ·rintro-w94 ⟨hC94,hb94,hp94,hw94⟩;exact an (ax (v:=.pointer _) rfl) rfl
     constructor
     ·rintro-w95 ⟨hC95,hb95,hp95,hw95⟩;rintro _ rfl;exact an (aB rfl) rfl
     constructor
     ·rintro-w96 D96;rintro _ rfl;exact an (aj a_ rfl) rfl
     constructor
     ·rintro-w97 D97;rintro _ rfl;exact an (ar bW rfl ((h10.blk.from_ D97).rd 0 rfl)) rfl
     constructor
     ·rintro-w98 ⟨hC98,hb98,hp98,hw98⟩;exact an (aj bB rfl) rfl
     constructor
     ·rintro-w99 ⟨hC99,hb99,hp99,hw99⟩;rintro _ rfl;exact an (ar (v:=.string fs[i].nm) a8 rfl (hp99.rd 0 rfl)) rfl
     constructor
     ·rintro-w100 ⟨hC100,hb100,hp100,hw100⟩;exact an (ax (v:=.slice _ _ _) rfl) rfl
     constructor
     ·rintro-w101 ⟨hC101,hb101,hp101,hw101⟩;exact an (ax (v:=.slice _ _ _) rfl) rfl
     constructor
     ·rintro-w102 ⟨hC102,hb102,hp102,hw102⟩;rintro _ rfl _ rfl;exact an (cx (l:=[(0,.tmp 56),(1,.tmp 57)]) (gn _ _ _ _ _ _)) rfl
     constructor
     ·rintro-w103 D103;rintro v103_55 rfl _ rfl;exact an (cC (v':=.agg (flV f2).toArray) (cx (by kernel_rfl)) (by first | (rw [hf2];done) | (rw [hf2];rfl))) rfl
     constructor
     ·rintro-w104 D104;rintro v104_59 rfl;exact fe (ja cG rfl rfl rfl) (ak.rfl_.new _) ⟨_,rfl,Blk.new _ _ _⟩
     constructor
     ·intro h;cases h
     exact trivial
    case hmu=>
     rintro w106 D106;rintro v106_53 rfl v106_60 ⟨q106,rfl,hq106⟩;show kk ..;have hs9:=D106.size;refine l8 (base:=0) (news:=flV f2) cG rfl (by decide) rfl (h10.row.kept_from D106) (Nat.zero_le _) rfl rfl ⟨q106,0,rfl,hq106.whole⟩ (fL f2) (by omega) (by omega) ?_;intro A5 c5 w3 ho3 hg3 hL3;refine ⟨⟨D106.toChg.next (Chg.of_grown hg3 (fun k e=>e)),(h10.blk.from_ D106).grown hg3 (ch (h10.row.kept_from D106) (h10.blk.from_ D106) (by decide)),(P10a.from_ D106).grown hg3 (ch (h10.row.kept_from D106) (P10a.from_ D106) (by decide)),(hB10.next D106).grew hg3 (fun k hk=>hft k (.inr (.inl hk)))⟩,⟨A5,c5,rfl,by rw [List.flatMap_append];simpa using ho3,fun q hq=>hL3.elim (fun e=>.inl (e ▸ hq)) fun e=>.inr (by rw [e] at hq;cases hq;exact hs9)⟩,fun t u ht h=>gN (by repeat first | exact trivial | refine ⟨.inl rfl,?_⟩ | refine ⟨.inr (fun _ h=>h),?_⟩) t u ht h⟩
    case hend=>
     rintro w107 ⟨hC107,hb107,hp107,hw107⟩;rintro _ rfl _ rfl _ rfl _ rfl v53 rfl _ rfl v55 rfl _ rfl _ rfl _ rfl v59 rfl v60 _ v61 ⟨A61,c61,rfl,ho61,hA61⟩;show St ..;have hC10:=hC107;have hbb:=hb107;refine aa (aB rfl) (aa (aj a_ rfl) (dy (v:=.slice _ _ _) eD rfl rfl rfl (hbb) (by show 0<4;decide) ?_));intro w108 O10 P10;refine ah (aN (ae (ab (aa (eS rfl rfl (by omega)) (mvi rfl (ah ?_))))));refine bn ((i+1,gs++[f2],A61,c61)) ⟨(by first | rfl | (refine bS ?_;omega)),trivial⟩ (by (iterate 108 refine aP rfl ?_);exact aX) ⟨?_,?_⟩
     ·have hr:=dz ho61 O10 (ch ho61 hbb (by decide));have hC9:Chg (fun k=>k=b12∨Ap.map (·.block)=some k) _ w108:=(hC10.wide fun k hk=>.inl (.inr hk)).next (O10.toChg (.inl rfl))
      have hfo:dX w108 f2:=(hf10.from_ ak.rfl_).chg hC9 fun k hk e=>by
       have h7:=hB48 k hk;rcases e with e | e
       ·have:=h10.blk.lt;have:=h6.blk.lt;omega
       ·have:=(c_ h6.row k e).2;omega
      have hk:=h10.ins (i:=gs.length) hC9 P10 (Nat.le_refl _) (by rw [List.take_length,List.drop_length];exact hr) hfo (fun g hg=>⟨fun ho k hk hb=>by have:=hB48 k hb;have:=(h6.ok g hg).lt (k:=k) (.inl hk);omega,fun ho k hk hb=>by have:=hB48 k (.inl hk);have:=(h6.ok g hg).lt hb;omega⟩);rw [List.take_length,List.drop_length] at hk
      exact ⟨by omega,by rw [List.length_append,hgl];rfl,fun j hj=>by
       rcases Nat.eq_or_lt_of_le (Nat.le_of_lt_succ hj) with e | e
       ·subst e;exact fun _=>⟨hokn,hlen,hord⟩
       ·exact hoj j e,by unfold aw at hga ⊢;rw [List.map_append,hga,List.take_succ_eq_append_getElem hil,List.map_append,hf2];rfl,hk,fun k hk=>by
       rcases hk with e | e | ⟨f3,h3,e⟩
       ·exact hft k (.inl e)
       ·rcases hA61 k e with e | e
        ·exact hft k (.inr (.inl e))
        ·exact Nat.le_trans hz10 e
       ·rcases List.mem_append.1 h3 with h3 | h3
        ·exact hft k (.inr (.inr ⟨f3,h3,e⟩))
        ·rw [List.mem_singleton.1 h3] at e;have:=hB48 k e;omega,(hw107.only O10 ((hft _ (.inl rfl))))⟩
     ·show fs.length-(i+1)<fs.length-i;omega
  ·have hbad:¬ okJ fs i:=fun h=>hns ((h hil).2.2 (by omega))
   apply b_ 26 [(20,eqp _),(21,eqp (.string fs[i].nm)),(22,fun v w'=>∃ q,v=.slice (some ⟨q,0,none⟩) 1 1∧Blk w' q 9 #[.string fs[i].nm]),(23,eqp _),(24,eqp _),(25,eqp _),(26,eqp _),(27,eqp (.slice fs[i].A fs[i].bs.length fs[i].c)),(28,eqp _),(29,eqp _),(30,eqp _),(31,eqp _),(32,eqp _),(33,eqp _),(34,eqp _),(35,eqp _),(36,eqp _),(37,eqp _),(38,eqp _),(39,eqp _),(40,eqp (.string fs[i-1].nm)),(41,eqp _),(42,eqp (.string fs[i].nm)),(43,eqp _),(44,eqp _),(45,eqp _)] (by repeat first | exact cv | refine cu ?_ | refine bX ?_) (by kernel_rfl) (by kernel_rfl) ⟨ai _,ai _,(fun _ _ _ hF ⟨q,h1,h2⟩=>⟨q,h1,h2.from_ hF⟩),ai _,ai _,ai _,ai _,ai _,ai _,ai _,ai _,ai _,ai _,ai _,ai _,ai _,ai _,ai _,ai _,ai _,ai _,ai _,ai _,ai _,ai _,ai _,trivial⟩
   case hop=>
    constructor
    ·rintro-w110 D110;exact an (aj bB rfl) rfl
    constructor
    ·rintro-w111 D111;rintro _ rfl;exact an (ar a8 rfl (by exact (P6.from_ (ak.rfl_.next D111)).rd 0 rfl)) rfl
    constructor
    ·rintro-w112 D112;rintro v112_21 rfl;exact fe (gJ (v:=.string fs[i].nm) bO rfl rfl rfl) (ak.rfl_.new _) ⟨_,rfl,Blk.new _ _ _⟩
    constructor
    ·rintro-w113 D113;rintro v113_22 ⟨q22,rfl,hq22⟩;refine fX dF ((eo (some ⟨q22,0,none⟩) 1 1 [fs[i].nm] _ (ix hq22) rfl (by omega) (fun s hs=>by rw [List.mem_singleton.1 hs];exact (hall _ (List.getElem_mem hil)).2.1)).mono ?_);rintro v _ ⟨rfl,E113'⟩;exact ⟨E113',rfl⟩
    constructor
    ·rintro-w114 D114;rintro _ rfl;exact an (bw (bJ rfl) (by simp [hokn])) rfl
    constructor
    ·rintro-w115 D115;rintro _ rfl;exact an (ax (v:=.bool _) rfl) rfl
    constructor
    ·rintro-w116 D116;rintro _ rfl;exact aI rfl (aj bT rfl) rfl
    constructor
    ·rintro-w117 D117;rintro _ rfl _ rfl;exact aI rfl (ar (v:=.slice fs[i].A fs[i].bs.length fs[i].c) aJ rfl ((P6.from_ (ak.rfl_.next D117)).rd 1 rfl)) rfl
    constructor
    ·rintro-w118 D118;rintro _ rfl v118_27 rfl;exact aI rfl (aQ bo rfl) rfl
    constructor
    ·rintro-w119 D119;rintro _ rfl _ rfl;exact aI rfl (bw (bZ rfl rfl) (decide_eq_false (by omega))) rfl
    constructor
    ·rintro-w120 D120;rintro _ rfl _ rfl;exact an (az (v:=.bool _) rfl rfl) rfl
    constructor
    ·rintro-w121 D121;rintro _ rfl;exact an (ax (v:=.bool _) rfl) rfl
    constructor
    ·rintro-w122 D122;rintro _ rfl;exact aI rfl (ax (v:=.int _ _) rfl) rfl
    constructor
    ·rintro-w123 D123;rintro _ rfl _ rfl;exact aI rfl (cZ (bZ rfl rfl) (decide_eq_true (by omega))) rfl
    constructor
    ·rintro-w124 D124;rintro _ rfl _ rfl;exact aI rfl (ax (v:=.bool _) rfl) rfl
    constructor
    ·rintro-w125 D125;rintro _ rfl;exact aI rfl (ax (v:=.slice _ _ _) rfl) rfl
    constructor
    ·rintro-w126 D126;rintro _ rfl;exact aI rfl (ax (v:=.int _ _) rfl) rfl
    constructor
    ·rintro-w127 D127;rintro _ rfl _ rfl;exact aI rfl (gI (b:=1) rfl rfl (by omega)) rfl
    constructor
    ·rintro-w128 D128;rintro _ rfl _ rfl _ rfl;exact aI rfl (aL dI rfl rfl (by omega)) rfl
    constructor
    ·rintro-w129 D129;rintro _ rfl _ rfl;exact aI rfl (aj bB rfl) rfl
    constructor
    ·rintro-w130 D130;rintro _ rfl _ rfl;exact aI rfl (ar (v:=.string fs[i-1].nm) a8 rfl (by have h9:=cS (((hB.next E6).only O6 (hg6)).next D130) ((hcd (i-1) (by omega)) 0 _ rfl);simpa using h9)) rfl
    constructor
    ·rintro-w131 D131;rintro _ rfl;exact aI rfl (aj bB rfl) rfl
    constructor
    ·rintro-w132 D132;rintro _ rfl _ rfl;exact aI rfl (ar (v:=.string fs[i].nm) a8 rfl ((P6.from_ (ak.rfl_.next D132)).rd 0 rfl)) rfl
    constructor
    ·rintro-w133 D133;rintro _ rfl v133_40 rfl v133_42 rfl;exact aI rfl (cZ (lZ rfl rfl) (pP hns)) rfl
    constructor
    ·rintro-w134 D134;rintro _ rfl _ rfl _ rfl;exact aI rfl (aE (v:=.bool _) rfl rfl) rfl
    constructor
    ·rintro-w135 D135;rintro _ rfl _ rfl;exact an (az (v:=.bool _) rfl rfl) rfl
    exact trivial
   case hend=>
    intro w136 D136;rintro _ rfl v21 rfl v22 ⟨q22,rfl,hq22⟩ _ rfl _ rfl _ rfl _ rfl v27 rfl _ rfl _ rfl _ rfl _ rfl _ rfl _ rfl _ rfl _ rfl _ rfl _ rfl _ rfl _ rfl v40 rfl _ rfl v42 rfl _ rfl _ rfl _ rfl;show St ..;refine ah (ae (du rfl (ag (ab (asp rfl (asi rfl (ah (ae (aA (aF (bK (aF (aF (bK (aF (fa (v:=.pointer _) (v':=.int _ _) rfl rfl rfl (⟨.inl ⟨fun h=>hbad (h.2 i),rfl⟩,(((hB.next E6).only O6 (hg6)).next D136)⟩)))))))))))))))))
  have hord:0<i→sLt (fs[i-1]'(by omega)).nm fs[i].nm:=fun _=>hsl
  apply b_ 26 [(20,eqp _),(21,eqp (.string fs[i].nm)),(22,fun v w'=>∃ q,v=.slice (some ⟨q,0,none⟩) 1 1∧Blk w' q 9 #[.string fs[i].nm]),(23,eqp _),(24,eqp _),(25,eqp _),(26,eqp _),(27,eqp (.slice fs[i].A fs[i].bs.length fs[i].c)),(28,eqp _),(29,eqp _),(30,eqp _),(31,eqp _),(32,eqp _),(33,eqp _),(34,eqp _),(35,eqp _),(36,eqp _),(37,eqp _),(38,eqp _),(39,eqp _),(40,eqp (.string fs[i-1].nm)),(41,eqp _),(42,eqp (.string fs[i].nm)),(43,eqp _),(44,eqp _),(45,eqp _)] (by repeat first | exact cv | refine cu ?_ | refine bX ?_) (by kernel_rfl) (by kernel_rfl) ⟨ai _,ai _,(fun _ _ _ hF ⟨q,h1,h2⟩=>⟨q,h1,h2.from_ hF⟩),ai _,ai _,ai _,ai _,ai _,ai _,ai _,ai _,ai _,ai _,ai _,ai _,ai _,ai _,ai _,ai _,ai _,ai _,ai _,ai _,ai _,ai _,ai _,trivial⟩
  case hop=>
   constructor
   ·rintro-w138 D138;exact an (aj bB rfl) rfl
   constructor
   ·rintro-w139 D139;rintro _ rfl;exact an (ar a8 rfl (by exact (P6.from_ (ak.rfl_.next D139)).rd 0 rfl)) rfl
   constructor
   ·rintro-w140 D140;rintro v140_21 rfl;exact fe (gJ (v:=.string fs[i].nm) bO rfl rfl rfl) (ak.rfl_.new _) ⟨_,rfl,Blk.new _ _ _⟩
   constructor
   ·rintro-w141 D141;rintro v141_22 ⟨q22,rfl,hq22⟩;refine fX dF ((eo (some ⟨q22,0,none⟩) 1 1 [fs[i].nm] _ (ix hq22) rfl (by omega) (fun s hs=>by rw [List.mem_singleton.1 hs];exact (hall _ (List.getElem_mem hil)).2.1)).mono ?_);rintro v _ ⟨rfl,E141'⟩;exact ⟨E141',rfl⟩
   constructor
   ·rintro-w142 D142;rintro _ rfl;exact an (bw (bJ rfl) (by simp [hokn])) rfl
   constructor
   ·rintro-w143 D143;rintro _ rfl;exact an (ax (v:=.bool _) rfl) rfl
   constructor
   ·rintro-w144 D144;rintro _ rfl;exact aI rfl (aj bT rfl) rfl
   constructor
   ·rintro-w145 D145;rintro _ rfl _ rfl;exact aI rfl (ar (v:=.slice fs[i].A fs[i].bs.length fs[i].c) aJ rfl ((P6.from_ (ak.rfl_.next D145)).rd 1 rfl)) rfl
   constructor
   ·rintro-w146 D146;rintro _ rfl v146_27 rfl;exact aI rfl (aQ bo rfl) rfl
   constructor
   ·rintro-w147 D147;rintro _ rfl _ rfl;exact aI rfl (bw (bZ rfl rfl) (decide_eq_false (by omega))) rfl
   constructor
   ·rintro-w148 D148;rintro _ rfl _ rfl;exact an (az (v:=.bool _) rfl rfl) rfl
   constructor
   ·rintro-w149 D149;rintro _ rfl;exact an (ax (v:=.bool _) rfl) rfl
   constructor
   ·rintro-w150 D150;rintro _ rfl;exact aI rfl (ax (v:=.int _ _) rfl) rfl
   constructor
   ·rintro-w151 D151;rintro _ rfl _ rfl;exact aI rfl (cZ (bZ rfl rfl) (decide_eq_true (by omega))) rfl
   constructor
   ·rintro-w152 D152;rintro _ rfl _ rfl;exact aI rfl (ax (v:=.bool _) rfl) rfl
   constructor
   ·rintro-w153 D153;rintro _ rfl;exact aI rfl (ax (v:=.slice _ _ _) rfl) rfl
   constructor
   ·rintro-w154 D154;rintro _ rfl;exact aI rfl (ax (v:=.int _ _) rfl) rfl
   constructor
   ·rintro-w155 D155;rintro _ rfl _ rfl;exact aI rfl (gI (b:=1) rfl rfl (by omega)) rfl
   constructor
   ·rintro-w156 D156;rintro _ rfl _ rfl _ rfl;exact aI rfl (aL dI rfl rfl (by omega)) rfl
   constructor
   ·rintro-w157 D157;rintro _ rfl _ rfl;exact aI rfl (aj bB rfl) rfl
   constructor
   ·rintro-w158 D158;rintro _ rfl _ rfl;exact aI rfl (ar (v:=.string fs[i-1].nm) a8 rfl (by have h9:=cS (((hB.next E6).only O6 (hg6)).next D158) ((hcd (i-1) (by omega)) 0 _ rfl);simpa using h9)) rfl
   constructor
   ·rintro-w159 D159;rintro _ rfl;exact aI rfl (aj bB rfl) rfl
   constructor
   ·rintro-w160 D160;rintro _ rfl _ rfl;exact aI rfl (ar (v:=.string fs[i].nm) a8 rfl ((P6.from_ (ak.rfl_.next D160)).rd 0 rfl)) rfl
   constructor
   ·rintro-w161 D161;rintro _ rfl v161_40 rfl v161_42 rfl;exact aI rfl (bw (lZ rfl rfl) (oc hsl)) rfl
   constructor
   ·rintro-w162 D162;rintro _ rfl _ rfl _ rfl;exact aI rfl (aE (v:=.bool _) rfl rfl) rfl
   constructor
   ·rintro-w163 D163;rintro _ rfl _ rfl;exact an (az (v:=.bool _) rfl rfl) rfl
   exact trivial
  case hend=>
   intro w164 D164;rintro _ rfl v21 rfl v22 ⟨q22,rfl,hq22⟩ _ rfl _ rfl _ rfl _ rfl v27 rfl _ rfl _ rfl _ rfl _ rfl _ rfl _ rfl _ rfl _ rfl _ rfl _ rfl _ rfl _ rfl v40 rfl _ rfl v42 rfl _ rfl _ rfl _ rfl;show St ..;refine ah (ae (bI rfl (aD (ae (ag (ab (aa (aj bT rfl) (aa (ar aJ rfl (by exact (P6.from_ (ak.rfl_.next D164)).rd 1 rfl)) ?_))))))));have hM48:ak _ w164:=(ak.rfl_.next D164);refine ao dG (bh fs[i].A fs[i].c fs[i].bs.length fs[i].bs _ ((hall _ (List.getElem_mem hil)).1.from_ (((hB.next E6).only O6 (hg6)).next D164)) rfl (by omega)) ?_;rintro v48 w165 ⟨⟨A48,c48,rfl,ho48⟩,E48⟩;have h10:=h6.from_ (((ak.rfl_.next D164).next E48));have hB10:ak w w165:=((((hB.next E6).only O6 (hg6)).next D164).next E48);have P10a:=P6.from_ (((ak.rfl_.next D164).next E48));obtain ⟨f2,hf2⟩:∃ f2:Fl,f2=⟨fs[i].nm,A48,c48,A48,c48,fs[i].bs,fs[i].bs,true⟩:=⟨_,rfl⟩;have hz10:=(((((hB.next E6).only O6 (hg6)).next D164).next E48)).size;have hB48:∀ k,f2.B k→z6≤k:=by rw [hf2,hz6e];exact fun k hk=>hk.elim (fun e=>Nat.le_trans hM48.size (c_ ho48 k e).1) fun e=>Nat.le_trans hM48.size (c_ ho48 k e).1
   have hf10:dX w165 f2:=by rw [hf2];exact ⟨(RB.own ho48 (hall _ (List.getElem_mem hil)).1.bt).2,(RB.own ho48 (hall _ (List.getElem_mem hil)).1.bt).2,TyB.own ho48,TyB.own ho48,fun _=>⟨c9 ho48 (Nat.zero_le _),.inr ⟨rfl,[],(List.append_nil _).symm⟩⟩,fun h=>by cases h⟩
   refine ass rfl (ah (ae ?_));apply lM 13 12 [60] [(49,eqp _),(50,eqp _),(51,eqp _),(52,eqp _),(53,eqp (.slice Ap gs.length cp)),(54,eqp _),(55,eqp (.string fs[i].nm)),(56,eqp _),(57,eqp _),(58,eqp _),(59,eqp (.agg (flV f2).toArray)),(60,fun v w'=>∃ q,v=.slice (some ⟨q,0,none⟩) 1 1∧Blk w' q 63 (flV f2).toArray),(61,fun v w'=>∃ A5 c5,v=.slice A5 (gs.length+1) c5∧w'.ownsRow 0 63 3 (.slice A5 (gs.length+1) c5) (gs.length+1) ((gs++[f2]).flatMap flV)∧∀ q,A5.map (·.block)=some q→Ap.map (·.block)=some q∨(w165).heap.size≤q)] (fun w'=>ak w165 w') (fun w'=>Chg (fun k=>Ap.map (·.block)=some k) w165 w'∧Blk w' b12 58 #[.slice Ap gs.length cp,.int .i64 0,.int .i64 ((0:Nat):Int),.bool false]∧Blk w' b6 53 (afV fs[i]).toArray∧ak w w') (by repeat first | exact cv | refine cu ?_ | refine bX ?_) (by kernel_rfl) (by kernel_rfl) (by kernel_rfl) ⟨ai _,ai _,ai _,ai _,ai _,ai _,ai _,ai _,ai _,ai _,ai _,(fun _ _ _ hF ⟨q,h1,h2⟩=>⟨q,h1,h2.from_ hF⟩),(fun _ _ _ hF ⟨A2,c2,h1,h2,h3⟩=>⟨A2,c2,h1,h2.kept_from hF,h3⟩),trivial⟩ (ak.rfl_.d1) (⟨ak.rfl_.d1.toChg,h10.blk.from_ ak.rfl_.d1,P10a.from_ ak.rfl_.d1,(((((hB.next E6).only O6 (hg6)).next D164).next E48)).d1⟩) (fun _ _ hF h=>h.next hF) (fun _ _ hF h=>⟨h.1.next hF.toChg,h.2.1.from_ hF,h.2.2.1.from_ hF,h.2.2.2.next hF⟩)
   case hop=>
    constructor
    ·rintro-w167 ⟨hC167,hb167,hp167,hw167⟩;exact an (ax (v:=.pointer _) rfl) rfl
    constructor
    ·rintro-w168 ⟨hC168,hb168,hp168,hw168⟩;exact an (ax (v:=.pointer _) rfl) rfl
    constructor
    ·rintro-w169 ⟨hC169,hb169,hp169,hw169⟩;rintro _ rfl;exact an (aB rfl) rfl
    constructor
    ·rintro-w170 D170;rintro _ rfl;exact an (aj a_ rfl) rfl
    constructor
    ·rintro-w171 D171;rintro _ rfl;exact an (ar bW rfl ((h10.blk.from_ D171).rd 0 rfl)) rfl
    constructor
    ·rintro-w172 ⟨hC172,hb172,hp172,hw172⟩;exact an (aj bB rfl) rfl
    constructor
    ·rintro-w173 ⟨hC173,hb173,hp173,hw173⟩;rintro _ rfl;exact an (ar (v:=.string fs[i].nm) a8 rfl (hp173.rd 0 rfl)) rfl
    constructor
    ·rintro-w174 ⟨hC174,hb174,hp174,hw174⟩;exact an (ax (v:=.slice _ _ _) rfl) rfl
    constructor
    ·rintro-w175 ⟨hC175,hb175,hp175,hw175⟩;exact an (ax (v:=.slice _ _ _) rfl) rfl
    constructor
    ·rintro-w176 ⟨hC176,hb176,hp176,hw176⟩;rintro _ rfl _ rfl;exact an (cx (l:=[(0,.tmp 56),(1,.tmp 57)]) (gn _ _ _ _ _ _)) rfl
    constructor
    ·rintro-w177 D177;rintro v177_55 rfl _ rfl;exact an (cC (v':=.agg (flV f2).toArray) (cx (by kernel_rfl)) (by first | (rw [hf2];done) | (rw [hf2];rfl))) rfl
    constructor
    ·rintro-w178 D178;rintro v178_59 rfl;exact fe (ja cG rfl rfl rfl) (ak.rfl_.new _) ⟨_,rfl,Blk.new _ _ _⟩
    constructor
    ·intro h;cases h
    exact trivial
   case hmu=>
    rintro w180 D180;rintro v180_53 rfl v180_60 ⟨q180,rfl,hq180⟩;show kk ..;have hs9:=D180.size;refine l8 (base:=0) (news:=flV f2) cG rfl (by decide) rfl (h10.row.kept_from D180) (Nat.zero_le _) rfl rfl ⟨q180,0,rfl,hq180.whole⟩ (fL f2) (by omega) (by omega) ?_;intro A5 c5 w3 ho3 hg3 hL3;refine ⟨⟨D180.toChg.next (Chg.of_grown hg3 (fun k e=>e)),(h10.blk.from_ D180).grown hg3 (ch (h10.row.kept_from D180) (h10.blk.from_ D180) (by decide)),(P10a.from_ D180).grown hg3 (ch (h10.row.kept_from D180) (P10a.from_ D180) (by decide)),(hB10.next D180).grew hg3 (fun k hk=>hft k (.inr (.inl hk)))⟩,⟨A5,c5,rfl,by rw [List.flatMap_append];simpa using ho3,fun q hq=>hL3.elim (fun e=>.inl (e ▸ hq)) fun e=>.inr (by rw [e] at hq;cases hq;exact hs9)⟩,fun t u ht h=>gN (by repeat first | exact trivial | refine ⟨.inl rfl,?_⟩ | refine ⟨.inr (fun _ h=>h),?_⟩) t u ht h⟩
   case hend=>
    rintro w181 ⟨hC181,hb181,hp181,hw181⟩;rintro _ rfl _ rfl _ rfl _ rfl v53 rfl _ rfl v55 rfl _ rfl _ rfl _ rfl v59 rfl v60 _ v61 ⟨A61,c61,rfl,ho61,hA61⟩;show St ..;have hC10:=hC181;have hbb:=hb181;refine aa (aB rfl) (aa (aj a_ rfl) (dy (v:=.slice _ _ _) eD rfl rfl rfl (hbb) (by show 0<4;decide) ?_));intro w182 O10 P10;refine ah (aN (ae (ab (aa (eS rfl rfl (by omega)) (mvi rfl (ah ?_))))));refine bn ((i+1,gs++[f2],A61,c61)) ⟨(by first | rfl | (refine bS ?_;omega)),trivial⟩ (by (iterate 108 refine aP rfl ?_);exact aX) ⟨?_,?_⟩
    ·have hr:=dz ho61 O10 (ch ho61 hbb (by decide));have hC9:Chg (fun k=>k=b12∨Ap.map (·.block)=some k) _ w182:=(hC10.wide fun k hk=>.inl (.inr hk)).next (O10.toChg (.inl rfl))
     have hfo:dX w182 f2:=(hf10.from_ ak.rfl_).chg hC9 fun k hk e=>by
      have h7:=hB48 k hk;rcases e with e | e
      ·have:=h10.blk.lt;have:=h6.blk.lt;omega
      ·have:=(c_ h6.row k e).2;omega
     have hk:=h10.ins (i:=gs.length) hC9 P10 (Nat.le_refl _) (by rw [List.take_length,List.drop_length];exact hr) hfo (fun g hg=>⟨fun ho k hk hb=>by have:=hB48 k hb;have:=(h6.ok g hg).lt (k:=k) (.inl hk);omega,fun ho k hk hb=>by have:=hB48 k (.inl hk);have:=(h6.ok g hg).lt hb;omega⟩);rw [List.take_length,List.drop_length] at hk
     exact ⟨by omega,by rw [List.length_append,hgl];rfl,fun j hj=>by
      rcases Nat.eq_or_lt_of_le (Nat.le_of_lt_succ hj) with e | e
      ·subst e;exact fun _=>⟨hokn,hlen,hord⟩
      ·exact hoj j e,by unfold aw at hga ⊢;rw [List.map_append,hga,List.take_succ_eq_append_getElem hil,List.map_append,hf2];rfl,hk,fun k hk=>by
      rcases hk with e | e | ⟨f3,h3,e⟩
      ·exact hft k (.inl e)
      ·rcases hA61 k e with e | e
       ·exact hft k (.inr (.inl e))
       ·exact Nat.le_trans hz10 e
      ·rcases List.mem_append.1 h3 with h3 | h3
       ·exact hft k (.inr (.inr ⟨f3,h3,e⟩))
       ·rw [List.mem_singleton.1 h3] at e;have:=hB48 k e;omega,(hw181.only O10 ((hft _ (.inl rfl))))⟩
    ·show fs.length-(i+1)<fs.length-i;omega
 refine bQ (aU (aU (bz (ae (ag (ab (mvp rfl (asp rfl (asi rfl (ah (ae (aA (fa (v:=.pointer _) (v':=.int _ _) rfl rfl rfl ?_)))))))))))));obtain rfl:i=fs.length:=by omega
 rw [List.take_length] at hga;have hall2:∀ j,okJ fs j:=fun j h=>hoj j h h
 have hks:=nK hall2
 refine ⟨.inr ⟨⟨by omega,hall2⟩,b12,rfl,⟨gs,Ap,cp,0,hD.from_ ak.rfl_,hga,⟨hks,by rw [List.length_map];omega,fun e he=>by
  obtain ⟨f,hf,rfl⟩:=List.mem_map.1 he;obtain ⟨j,hj,rfl⟩:=List.getElem_of_mem hf;exact ⟨(hall2 j hj).2.1,(hall2 j hj).2.1⟩⟩,by omega,hft⟩⟩,hB⟩
end Go.Proofs.Ytmbcbinocebodaa
namespace Go.Proofs.Ytmbcbinocebodaa
open Go.Proofs.Try (prog)
open Go.RowKit
open Go.ChangeShapes Go.WideShapes Go.ChangeAt
theorem k7:nH prog 32=some (5,1,(.int .u8 0)):=by kernel_rfl
theorem iE:aK prog 45=true:=by kernel_rfl
theorem k8:aK prog 46=true:=by kernel_rfl
theorem nh {P:Program} {w:World} {t:TypeId} {x:Operand} {ρ:Operand→Value} {e sz h m c:Nat} {A:Option Addr} {y:Operand} {k:IntKind} (ht:cr P t=some (e,sz)) (hx:ρ x=.slice A m c) (hy:ρ y=.int k (h:Nat)) (hh:h≤c) :
 RO P ρ (.slice t x none (some y) none) w (.slice A h c) w:=by
 have:=bN (P:=P) (ρ:=ρ) (w:=w) (l:=0) (h:=h) ht (lo:=none) (hi:=some y) hx (.inl ⟨rfl,rfl⟩) (.inr ⟨y,k,_,rfl,hy,rfl⟩) (Nat.zero_le _) hh
 rwa [dU,Nat.sub_zero,Nat.sub_zero] at this
theorem RB.tk {w:World} {A:Option Addr} {c:Nat} {l:List Nat} (h:RB w A c l) (k:Nat) (h0:0<(aR (l.take k)).length):∃ b o,A=some ⟨b,o,none⟩∧w.rangeAt b o (aR (l.take k)):=
 (RB.pre (l:=l.take k) (r:=l.drop k) (by rwa [List.take_append_drop])).at_ (by rwa [aM] at h0)
def iw (vs ds:List Nat) (n:Nat):List Nat:=vs.take n++(ds.take vs.length++List.replicate (vs.length-ds.length) 0).drop n
theorem fT (vs ds:List Nat) (n:Nat):(iw vs ds n).length=vs.length:=by simp [iw];omega
theorem ml (vs ds:List Nat) (n:Nat):ct (ct (List.replicate vs.length (.int .u8 0)) 0 (aR (ds.take vs.length))) 0 (aR (vs.take (min n vs.length)))=aR (iw vs ds n):=by
 have h1:ct (List.replicate vs.length (.int .u8 0)) 0 (aR (ds.take vs.length))=aR (ds.take vs.length++List.replicate (vs.length-ds.length) 0):=by
  unfold ct aR;rw [List.take_zero,List.nil_append,List.map_append,List.map_replicate,List.drop_replicate]
  congr 2
  simp;omega
 rw [h1];unfold ct iw;rw [List.take_zero,List.nil_append,Nat.zero_add,aM,List.length_take,dP];rcases Nat.le_total n vs.length with h | h
 ·rw [Nat.min_eq_left h,Nat.min_eq_left h];simp [aR]
 ·rw [Nat.min_eq_right h,Nat.min_self,List.take_of_length_le (Nat.le_refl _),List.take_of_length_le h,List.drop_of_length_le (by simp [aR];omega),List.drop_of_length_le (by simp;omega),List.append_nil,List.append_nil]
theorem mY {vs ds:List Nat} {n:Nat} (hv:∀ b∈vs,b<256) (hd:∀ b∈ds,b<256):∀ b∈iw vs ds n,b<256:=fun b hb=>by
 rcases List.mem_append.1 hb with h | h
 ·exact hv b (List.mem_of_mem_take h)
 ·rcases List.mem_append.1 (List.mem_of_mem_drop h) with h | h
  ·exact hd b (List.mem_of_mem_take h)
  ·have:=List.eq_of_mem_replicate h;omega
def cX (vs ds:List Nat) (pick:Int):List Nat:=
 if pick%3=0 then ds else if pick%3=1 then vs else iw vs ds (((pick/3)%(((max vs.length ds.length+31)/32+1:Nat):Int)).toNat*32)
theorem jZ {vs ds:List Nat} {p:Int} (hv:∀ b∈vs,b<256) (hd:∀ b∈ds,b<256):∀ b∈cX vs ds p,b<256:=by
 unfold cX;split
 ·exact hd
 ·split
  ·exact hv
  ·exact mY hv hd
theorem gx {vs ds:List Nat} {p:Int}:(cX vs ds p).length≤max vs.length ds.length:=by
 unfold cX;split
 ·exact Nat.le_max_right _ _
 ·split
  ·exact Nat.le_max_left _ _
  ·rw [fT];exact Nat.le_max_left _ _
theorem og (VA DA:Option Addr) (vc dc:Nat) (vs ds:List Nat) (n:Nat) (w:World) (hv:RB w VA vc vs) (hd:RB w DA dc ds) (hvl:vs.length≤2000000) (_:ds.length≤2000000) (_:n≤1000000000) :
 Rt prog 46 [.agg #[.slice VA vs.length vc,.slice DA ds.length dc],.int .i64 (n:Nat)] w (fun v w'=>(∃ A' c',v=.slice A' vs.length c'∧w'.ownsRow w.heap.size 5 1 (.slice A' vs.length c') vs.length (aR (iw vs ds n)))∧ak w w'):=by
 refine enter (n:=25) Try.func46 rfl rfl rfl (ag (ab (eP (v:=.agg _) rfl ?_)));intro b2 w1 E2 hb2 hk2;refine ass rfl (ah (ae (ag (ab (aa (aj bl rfl) (aa (ar aJ rfl (by exact (hk2.from_ ak.rfl_).rd 0 rfl)) ?_))))));refine aa (aQ bo rfl) ?_;have hB9:ak w w1:=(ak.rfl_.next E2);have hM9:=hk2.from_ (ak.rfl_);refine oo k7 rfl rfl rfl (by omega) (by omega) ?_;intro b9 w2 E9 hb9 hk9;have hn9:b2≠b9:=by have:=hM9.lt;omega
 refine ass rfl (ah (ae (ag (ab (mvs rfl (aa (aj dv rfl) (aa (ar aJ rfl (by exact (hk2.from_ (ak.rfl_.next E9)).rd 1 rfl)) ?_)))))));have hB13:ak w w2:=((ak.rfl_.next E2).next E9);refine eR (news:=aR (ds.take vs.length)) (g:=b9) (o:=0) (cur:=List.replicate vs.length (.int .u8 0)) db rfl rfl (by rw [aM,List.length_take,Nat.mul_one,Nat.min_comm]) (fun _=>rfl) (fun h=>(hd.from_ hB13).tk _ h) (hk9.from_ (ak.rfl_)) (by rw [aM,List.length_take,List.length_replicate];omega) (ez _) ?_;intro w3 O13 P13;have hP2:=(hk2.from_ (ak.rfl_.next E9)).only O13 hn9;refine ah (ae (ag (ab (mvs rfl (aa (aj bl rfl) (aa (ar aJ rfl (by exact (hP2.from_ ak.rfl_).rd 0 rfl)) ?_))))));refine mvi rfl (aa (aj bl rfl) (aa (ar aJ rfl (by exact (hP2.from_ ak.rfl_).rd 0 rfl)) ?_));refine aa (aQ bo rfl) (aa (pF rfl rfl) (eQ (t:=21) (v:=.int _ _) (v':=.int .i64 ((min n vs.length:Nat):Int)) rfl (by congr 1;omega) ?_));refine aa (nh db rfl rfl (by have:=hv.le;omega)) ?_;have hB23:ak w w3:=(hB13.only O13 (by rw [hb9];exact hB9.size));refine eR (news:=aR (vs.take (min n vs.length))) (g:=b9) (o:=0) db rfl rfl (by rw [aM,List.length_take];omega) (fun _=>rfl) (fun h=>(hv.from_ hB23).tk _ h) P13 (by rw [bG _ _ _ (by rw [aM,List.length_take,List.length_replicate];omega),aM,List.length_take,List.length_replicate];omega) (ez _) ?_;intro w4 O23 P23;refine ah (ae (ag (ab (mvs rfl (ass rfl (ah (ae (aA (bm (v:=.slice _ _ _) rfl rfl ?_)))))))));rw [ml] at P23;exact ⟨⟨some ⟨b9,0,none⟩,vs.length,rfl,jf (by rw [hb9];exact hB9.size) P23 (Nat.le_refl _) (by unfold maxLen;omega) (by rw [aM,fT,Nat.mul_one]) (List.take_of_length_le (by rw [aM,fT,Nat.mul_one];exact Nat.le_refl _))⟩,(hB23.only O23 (by rw [hb9];exact hB9.size))⟩
theorem jY (VA DA:Option Addr) (vc dc:Nat) (vs ds:List Nat) (pick:Int) (w:World) (hv:RB w VA vc vs) (hd:RB w DA dc ds) (hvl:vs.length≤2000000) (hdl:ds.length≤2000000) (hp:-9223372036854775808≤pick∧pick≤9223372036854775807) :
 Rt prog 34 [.agg #[.slice VA vs.length vc,.slice DA ds.length dc],.int .i64 pick] w (fun v w'=>(∃ A' c' n,v=.slice A' n c'∧n=(cX vs ds pick).length∧w'.ownsRow w.heap.size 5 1 (.slice A' n c') n (aR (cX vs ds pick)))∧ak w w'):=by
 refine enter (n:=49) Try.func34 rfl rfl rfl (ag (ab (eP (v:=.agg _) rfl ?_)));intro b2 w1 E2 hb2 hk2;refine ass rfl (ah (ae (ag (ab (mvi rfl (ao iE (jX pick 3 _ (by decide) (by decide) hp) ?_))))));rintro v13 w2 ⟨rfl,E13⟩;refine mvt rfl (aa (aq rfl rfl) (aa (aq rfl rfl) (asi rfl (asi rfl (ah (ae (ag (ag (ab (mvi rfl (ah (ae (a7 (ag (ab (aa (bf rfl rfl) ?_))))))))))))))));refine asb rfl (ah (ae (qu rfl (fun Q3=>?_) (fun Q3=>?_))))
 ·refine ag (ab (aa (aj dv rfl) (aa (ar aJ rfl (by exact (hk2.from_ (ak.rfl_.next E13)).rd 1 rfl)) ?_)));have hB21:ak w w2:=((ak.rfl_.next E2).next E13);refine ao dG (bh DA dc ds.length ds _ (hd.from_ ((ak.rfl_.next E2).next E13)) rfl (by omega)) ?_;rintro v21 w4 ⟨⟨A21,c21,rfl,ho21⟩,E21⟩;refine ass rfl (ah (ae (aA (bK (aF (bm (v:=.slice _ _ _) rfl rfl ?_))))));have e1:cX vs ds pick=ds:=by unfold cX;rw [if_pos (by omega)]
  rw [e1];exact ⟨⟨A21,c21,_,rfl,rfl,c9 ho21 hB21.size⟩,(((ak.rfl_.next E2).next E13).next E21)⟩
 refine ag (ab (aa (bf rfl rfl) (asb rfl (ah (ae (qu rfl (fun Q5=>?_) (fun Q5=>?_)))))))
 ·refine ag (ab (aa (aj bl rfl) (aa (ar aJ rfl (by exact (hk2.from_ (ak.rfl_.next E13)).rd 0 rfl)) ?_)));have hB26:ak w w2:=((ak.rfl_.next E2).next E13);refine ao dG (bh VA vc vs.length vs _ (hv.from_ ((ak.rfl_.next E2).next E13)) rfl (by omega)) ?_;rintro v26 w6 ⟨⟨A26,c26,rfl,ho26⟩,E26⟩;refine ass rfl (ah (ae (aA (bK (aF (bm (v:=.slice _ _ _) rfl rfl ?_))))));have e1:cX vs ds pick=vs:=by unfold cX;rw [if_neg (by omega),if_pos (by omega)]
  rw [e1];exact ⟨⟨A26,c26,_,rfl,rfl,c9 ho26 hB26.size⟩,(((ak.rfl_.next E2).next E13).next E26)⟩
 refine aD (aN (ae (ag (ab (aa (aj bl rfl) (aa (ar aJ rfl (by exact (hk2.from_ (ak.rfl_.next E13)).rd 0 rfl)) ?_))))));refine aa (aQ bo rfl) (aa (aj dv rfl) (aa (ar aJ rfl (by exact (hk2.from_ (ak.rfl_.next E13)).rd 1 rfl)) ?_));refine aa (aQ bo rfl) (aa (nq rfl rfl) (eQ (t:=33) (v:=.int _ _) (v':=.int .i64 ((max vs.length ds.length:Nat):Int)) rfl (by congr 1;omega) ?_));refine asi rfl (ah (ae (ag (ab (mvi rfl (aa (br (b:=32) rfl rfl (by omega)) (aa (gI (b:=1) rfl rfl (by omega)) (aa (oz (b:=32) rfl rfl (by omega)) (asi rfl (ah (ae (ag (ab (mvi rfl ?_))))))))))))));refine mvi rfl (aa (br (b:=1) rfl rfl (by omega)) (ao iE (jX (pick/3) _ _ (by omega) (by omega) (by omega)) ?_));rintro v42 w7 ⟨rfl,E42⟩;have hz1:=Int.emod_nonneg (pick/3) (show (((max vs.length ds.length+31)/32+1:Nat):Int)≠0 by omega);have hz2:=Int.emod_lt_of_pos (pick/3) (show (0:Int)<(((max vs.length ds.length+31)/32+1:Nat):Int) by omega);obtain ⟨q,hq,hq2⟩:∃ q:Nat,(pick/3)%(((max vs.length ds.length+31)/32+1:Nat):Int)=(q:Int)∧q≤(max vs.length ds.length+31)/32:=⟨((pick/3)%(((max vs.length ds.length+31)/32+1:Nat):Int)).toNat,by omega,by omega⟩;rw [show max vs.length ds.length+32-1=max vs.length ds.length+31 by omega,hq];refine mvt rfl (aa (aq rfl rfl) (aa (aq rfl rfl) (asi rfl (asi rfl (ah (ae (ag (ab (aa (bD (cs:=[_,_]) gb ga rfl (by exact (hk2.from_ ((ak.rfl_.next E13).next E42)).whole)) ?_)))))))));refine mvi rfl (aa (oA (b:=32) rfl rfl (by omega)) ?_);have hB48:ak w w7:=(((ak.rfl_.next E2).next E13).next E42);refine ao k8 (og VA DA vc dc vs ds (q*32) _ (hv.from_ (((ak.rfl_.next E2).next E13).next E42)) (hd.from_ (((ak.rfl_.next E2).next E13).next E42)) hvl hdl (by omega)) ?_;rintro v48 w8 ⟨⟨A48,c48,rfl,ho48⟩,E48⟩;refine ass rfl (ah (ae (aA (bm (v:=.slice _ _ _) rfl rfl ?_))));have e1:cX vs ds pick=iw vs ds (q*32):=by unfold cX;rw [if_neg (by omega),if_neg (by omega),hq];rfl
 rw [e1];exact ⟨⟨A48,c48,_,rfl,(fT _ _ _).symm,c9 ho48 hB48.size⟩,((((ak.rfl_.next E2).next E13).next E42).next E48)⟩
theorem bR:dq prog 22=some (53,2,40,(.agg #[.string ⟨#[]⟩,.slice none 0 0])):=by kernel_rfl
theorem hG:cr prog 35=some (3,1):=by kernel_rfl
theorem kr:aK prog 33=true:=by kernel_rfl
theorem fz:(cr prog 35).isSome=true:=by kernel_rfl
theorem g_:aK prog 34=true:=by kernel_rfl
def afB (f:Af):ByteArray×List Nat:=(f.nm,f.bs)
def cf:List Fe→List Int→List (ByteArray×List Nat)
 |[],_=>[]
 |e::D,ps=>if e.2.1=e.2.2 then (e.1,e.2.1)::cf D ps else (e.1,cX e.2.1 e.2.2 (ps.headD 0))::cf D ps.tail
def di (w:World) (N:Nat) (f:Af):Prop:=w.ownsRow N 5 1 (.slice f.A f.bs.length f.c) f.bs.length (aR f.bs)∧(∀ b∈f.bs,b<256)∧f.nm.size≤140737488351232∧f.bs.length≤1048576
theorem di.from_ {w w':World} {N:Nat} {f:Af} (h:di w N f) (hF:ak w w'):di w' N f:=⟨h.1.kept_from hF,h.2⟩
theorem di.aside {w w':World} {N e s n c:Nat} {A:Option Addr} {xs:List Value} {f:Af} (h:di w N f) (ho:w.ownsRow N e s (.slice A n c) n xs) (hne:5≠e) (hg:w.grownBy w' (A.map (·.block))):di w' N f:=⟨mB h.1 hg (mC ho h.1 hne.symm),h.2⟩
theorem di.ok {w:World} {N:Nat} {f:Af} (h:di w N f):jJ w f:=⟨(RB.own h.1 h.2.1).2,h.2.2.1,by have:=h.2.2.2;omega⟩
theorem nT {D:List Fe} {i:Nat} (hi:i<D.length) {ps:List Int} (h:D[i].2.1=D[i].2.2):cf (D.drop i) ps=(D[i].1,D[i].2.1)::cf (D.drop (i+1)) ps:=by
 rw [List.drop_eq_getElem_cons hi];rw [cf,if_pos h]
theorem kS {D:List Fe} {i:Nat} (hi:i<D.length) {ps:List Int} (h:¬ D[i].2.1=D[i].2.2):cf (D.drop i) ps=(D[i].1,cX D[i].2.1 D[i].2.2 (ps.headD 0))::cf (D.drop (i+1)) ps.tail:=by
 rw [List.drop_eq_getElem_cons hi];rw [cf,if_neg h]
theorem mb {w:World} {g t:Nat} {a b c:Value} (h:Blk w g t #[a,b,c]):w.rangeAt g (0+1) [b,c]:=fun j v hv=>by
 match j,hv with
 |0,hv=>exact h.whole 1 v hv
 |1,hv=>exact h.whole 2 v hv
 |j+2,hv=>simp at hv
theorem oP {w:World} {b o c:Nat} {a:Int} {l:List Int} (h:cP iV w (some ⟨b,o,none⟩) (a::l)) (hc:(a::l).length≤c):cP iV w (dm (some ⟨b,o,none⟩) c 1 1) l:=fun h0=>by
 obtain ⟨b2,o2,e,hh⟩:=h (by simp);cases e;refine ⟨b,o+1,?_,fun i hi=>?_⟩
 ·unfold dm;rw [if_neg (by simp at hc;omega)];rfl
 ·have:=hh (i+1) (by simpa using hi);rw [show o+1+i=o+(i+1) by omega];simpa using this
theorem fN (U:Nat→Prop) (d:Nat) (D:List Fe) (fu:Nat) (off:Bool) (w:World) (hd:cQ w U d D fu off) (PA:Option Addr) (pc pn:Nat) (ps:List Int) (hr:cP iV w PA ps) (hpn:pn=ps.length) (hpc:ps.length≤pc) (hpc9:pc≤9223372036854775807) (hpb:∀ q∈ps,-9223372036854775808≤q∧q≤9223372036854775807) (hnms:∀ e∈D,e.1.size≤140737488351232) :
 Rt prog 16 [.pointer (some ⟨d,0,none⟩),.slice PA pn pc] w (fun v w'=>(∃ A' c' n,∃ gs:List Af,v=.slice A' n c'∧n=gs.length∧gs.map afB=cf D ps∧w'.ownsRow w.heap.size 53 2 (.slice A' n c') n (gs.flatMap afV)∧∀ g∈gs,di w' w.heap.size g)∧ak w w'):=by
 subst hpn;have hd0:=hd;obtain ⟨fs,Ap,cp,ca,h,hD,hok,hfu0,hU⟩:=hd;subst hD;obtain ⟨hs,hl,hz⟩:=hok;rw [av] at hl;refine enter (n:=52) Try.func16 rfl rfl rfl (ag (ab (ass rfl (ah (ae (ag (ab (ass rfl (ah (ae (ag (ag (ab (mvp rfl (aa (aB rfl) (aa (aj a_ rfl) ?_))))))))))))))));refine aa (ar bW rfl (by exact (h.blk.from_ ak.rfl_).rd 0 rfl)) ?_;refine aa (aQ cI rfl) (mvi rfl (ah (ae (a7 (cO (G:=Nat×List Af×Option Addr×Nat×Option Addr×List Int×Nat) [7,8,9,16,17,18,19,20,21,22,23,24,25,26,27,28,29,30,31,32,33,34,35,36,37,38,39,40,41,42,43,44,45,46,47,48,49,50] (fun (i,_,A5,c5,Q,qs,qc)=>[(1,.slice Q qs.length qc),(5,.slice A5 i c5),(15,.int .i64 (i:Nat))]) (fun (i,gs,A5,c5,Q,qs,qc) w'=>i≤fs.length∧gs.length=i∧cf (aw fs) ps=gs.map afB++cf ((aw fs).drop i) qs∧cP iV w Q qs∧qs.length≤qc∧qc≤9223372036854775807∧(∀ q∈qs,-9223372036854775808≤q∧q≤9223372036854775807)∧w'.ownsRow w.heap.size 53 2 (.slice A5 i c5) i (gs.flatMap afV)∧(∀ g∈gs,di w' w.heap.size g)∧ak w w') (fun (i,_)=>fs.length-i) ((0,[],none,0,PA,ps,pc)) ⟨rfl,rfl,rfl,trivial⟩ ?_ ?_)))))
 ·exact ⟨Nat.zero_le _,rfl,rfl,hr,hpc,hpc9,hpb,World.ownsRow_nil _ _ _ _,fun g hg=>(by cases hg),ak.rfl_⟩
 rintro ⟨i,gs,A5,c5,Q,qs,qc⟩ ρ1 w1 ⟨hi,hgl,hcl,hrq,hqc,hqc9,hqb,ho,hgs,hB⟩;refine ag (ab (aa (bY rfl rfl) (ah (ae (ag (qu rfl (fun Q2=>?_) (fun Q2=>?_)))))))
 ·have hil:i<fs.length:=by omega
  have hila:i<(aw fs).length:=by rw [av];exact hil
  obtain ⟨bp,op,rfl,hcd⟩:=(gj h.row).2 (by omega);have hce:=hcd i hil;have hfi:=h.ok _ (List.getElem_mem hil);have hzi:=hz _ (List.getElem_mem hila);rw [aS] at hzi;have hz1:fs[i].vs.length≤1048576:=hzi.1;have hz2:fs[i].ds.length≤1048576:=hzi.2;have hnm:fs[i].nm.size≤140737488351232:=by have:=hnms _ (List.getElem_mem hila);rwa [aS] at this
  refine aD (ae (ag (a7 (ag (ab (aa (aL aT rfl rfl (by omega)) (aa (bD (cs:=[_,_,_]) eW dd rfl (by exact c8 hB hce)) ?_)))))));refine dS gz ?_;intro b7 w3 E7 hb7 hk7;have hg7:w.heap.size≤b7:=by rw [hb7];exact (hB).size
  refine eM (vs:=[_,_,_]) dd rfl rfl (by simp [Value.oneCell']) (hk7) rfl ?_;intro w4 O4 P4;have hF7:ak _ w4:=E7.only O4 (by rw [hb7];exact Nat.le_refl _);replace ho:=ho.kept_from hF7;replace hgs:=fun g hg=>(hgs g hg).from_ hF7
  refine ah (ae (ag (ab (aa (aj bj rfl) (aa (aj bl rfl) (aa (ar aJ rfl (by exact (P4.from_ ak.rfl_).rd 1 rfl)) ?_))))));replace ho:=ho.kept_from (ak.rfl_);replace hgs:=fun g hg=>(hgs g hg).from_ (ak.rfl_)
  replace P4:=P4.from_ (ak.rfl_);have hz22:=(((hB.next E7).only O4 (hg7))).size;refine ao dG (bh fs[i].vA fs[i].vc fs[i].vs.length fs[i].vs _ (hfi.v.from_ ((hB.next E7).only O4 (hg7))) rfl (by omega)) ?_;rintro v22 w5 ⟨⟨A22,c22,rfl,ho22⟩,E22⟩;replace ho:=ho.kept_from E22;replace hgs:=fun g hg=>(hgs g hg).from_ E22
  replace P4:=P4.from_ E22;have hodx:di w5 w.heap.size ⟨fs[i].nm,A22,c22,fs[i].vs⟩:=⟨c9 ho22 hz22,hfi.v.bt,hnm,hz1⟩;refine ass rfl (ah (ae (ag (ag (ab (aa (aj bj rfl) (aa (aj bl rfl) (aa (ar aJ rfl (by exact (P4.from_ ak.rfl_).rd 1 rfl)) ?_))))))));refine aa (aj bj rfl) (aa (aj dv rfl) (aa (ar aJ rfl (by exact (P4.from_ ak.rfl_).rd 2 rfl)) ?_));refine ao kr (mO fs[i].vA fs[i].dA fs[i].vc fs[i].dc _ _ fs[i].vs fs[i].ds _ (hfi.v.from_ (((hB.next E7).only O4 (hg7)).next E22)) (hfi.d.from_ (((hB.next E7).only O4 (hg7)).next E22)) rfl rfl) ?_;rintro v29 w6 ⟨rfl,rfl⟩;refine aa (bJ rfl) (ah (ae (ay rfl (fun Q7=>?_) (fun Q7=>?_))))
  ·with_reducible (replace Q7:=fB Q7;replace Q7:=dF_ Q7)
   have hne:¬ fs[i].vs=fs[i].ds:=by simpa using Q7
   refine ag (ab (asi rfl (ah (ae (ag (ag (ab (mvs rfl (aa (aQ fz rfl) (aa (bZ rfl rfl) (ah (ae (qu rfl (fun Q8=>?_) (fun Q8=>?_))))))))))))))
   ·obtain ⟨pk,qn,rfl⟩:∃ a b,qs=a::b:=by cases qs with | nil=>(simp at Q8) | cons a b=>exact ⟨a,b,rfl⟩
    obtain ⟨bq,oq,rfl,hcq⟩:=hrq (by simp);have hq0:=hqb pk (List.mem_cons_self ..);obtain ⟨Qn,hQn⟩:∃ x,x=dm (some ⟨bq,oq,none⟩) qc 1 1:=⟨_,rfl⟩;obtain ⟨qm,hqm⟩:∃ x,x=qc-1:=⟨_,rfl⟩;have hrn:=oP hrq hqc;rw [←hQn] at hrn;have hnc:qn.length≤qm:=by rw [hqm];simp at hqc;omega
    have hnc9:qm≤9223372036854775807:=by omega
    have hnb:∀ q∈qn,-9223372036854775808≤q∧q≤9223372036854775807:=fun q hq=>hqb q (List.mem_cons_of_mem _ hq)
    have hpk:=hq0;obtain ⟨bsC,hbsC⟩:∃ l,l=cX fs[i].vs fs[i].ds pk:=⟨_,rfl⟩;have hcr0:cf ((aw fs).drop i) (pk::qn)=(fs[i].nm,bsC)::cf ((aw fs).drop (i+1)) qn:=by rw [kS hila (by rw [aS];exact hne),aS,hbsC];rfl
    apply b_ 7 [(34,eqp _),(35,eqp _),(36,eqp (.int .i64 pk)),(37,eqp _),(38,eqp (.slice Qn qn.length qm)),(9,eqp _),(1,eqp _)] (by repeat first | exact cv | refine cu ?_ | refine bX ?_) (by kernel_rfl) (by kernel_rfl) ⟨ai _,ai _,ai _,ai _,ai _,ai _,ai _,trivial⟩
    case hop=>
     constructor
     ·rintro-w10 D10;exact an (ax (v:=.slice _ _ _) rfl) rfl
     constructor
     ·rintro-w11 D11;rintro _ rfl;exact an (gK hG rfl rfl (by omega)) rfl
     constructor
     ·rintro-w12 D12;rintro _ rfl;exact an (ar (v:=.int .i64 pk) eE rfl (cS ((((hB.next E7).only O4 (hg7)).next E22).next D12) (by have h9:=hcq 0 (by simp);exact h9))) rfl
     constructor
     ·rintro-w13 D13;exact an (ax (v:=.slice _ _ _) rfl) rfl
     constructor
     ·rintro-w14 D14;rintro _ rfl;exact an (cC (v':=.slice Qn qn.length qm) (bN (l:=1) (h:=(pk::qn).length) hG rfl (.inr ⟨_,_,_,rfl,rfl,rfl⟩) (.inl ⟨rfl,rfl⟩) (by simp) hqc) (by rw [hQn,hqm];rfl)) rfl
     constructor
     ·rintro-w15 D15;rintro v15_36 rfl;exact an (cz (v:=.int _ _) rfl) rfl
     constructor
     ·rintro-w16 D16;rintro v16_38 rfl;exact an (cz (v:=.slice _ _ _) rfl) rfl
     exact trivial
    case hend=>
     intro w17 D17;rintro _ rfl _ rfl v36 rfl _ rfl v38 rfl _ rfl _ rfl;show St ..;refine ah (ae (ab (aa (aj bj rfl) (aa (bD (cs:=[_,_]) gb ga rfl (by exact mb (P4.from_ (ak.rfl_.next D17)))) ?_))));refine mvi rfl ?_;replace ho:=ho.kept_from ((ak.rfl_.next D17));replace hgs:=fun g hg=>(hgs g hg).from_ ((ak.rfl_.next D17))
     replace P4:=P4.from_ ((ak.rfl_.next D17));have hz42:=(((((hB.next E7).only O4 (hg7)).next E22).next D17)).size;refine ao g_ (jY fs[i].vA fs[i].dA fs[i].vc fs[i].dc fs[i].vs fs[i].ds _ _ (hfi.v.from_ ((((hB.next E7).only O4 (hg7)).next E22).next D17)) (hfi.d.from_ ((((hB.next E7).only O4 (hg7)).next E22).next D17)) (by omega) (by omega) hpk) ?_;rintro v42 w18 ⟨⟨A42,c42,n42,rfl,hn42,ho42⟩,E42⟩;replace ho:=ho.kept_from E42;replace hgs:=fun g hg=>(hgs g hg).from_ E42
     replace P4:=P4.from_ E42;rw [←hbsC] at hn42 ho42;subst hn42;obtain ⟨g2,hg2⟩:∃ g2:Af,g2=⟨fs[i].nm,A42,c42,bsC⟩:=⟨_,rfl⟩;have hod:di w18 w.heap.size g2:=by rw [hg2];exact ⟨c9 ho42 hz42,by show ∀ b∈bsC,b<256;rw [hbsC];exact jZ hfi.v.bt hfi.d.bt,hnm,by show bsC.length≤1048576;rw [hbsC];exact Nat.le_trans gx (Nat.max_le.2 ⟨hz1,hz2⟩)⟩
     have hcr:=hcr0;rw [show (fs[i].nm,bsC)=afB g2 by rw [hg2] <;> rfl] at hcr;refine ass rfl (ah (ae (ab (mvs rfl (aa (aj dY rfl) (aa (ar a8 rfl (by exact (P4.from_ ak.rfl_).rd 0 rfl)) ?_))))));refine mvs rfl ?_;refine aa (cC (v':=.agg (afV g2).toArray) (cx (by kernel_rfl)) (by rw [hg2] <;> rfl)) ?_;have hM48:ak _ w18:=ak.rfl_;refine fH bR rfl rfl rfl ?_;intro b48 w19 E48 hb48 hk48;have hM49:ak _ w19:=(ak.rfl_.next E48);have ho49p:=ho.kept_from hM49;replace hgs:=fun g hg=>(hgs g hg).from_ hM49
     replace hod:=hod.from_ hM49;refine ei (a0:=w) (news:=afV g2) bR rfl (by decide) rfl ho49p ((((((hB.next E7).only O4 (hg7)).next E22).next D17).next E42).next E48) rfl rfl (fun _=>⟨b48,0,rfl,hk48.whole⟩) (fun h=>by cases h) (gW g2) (by omega) (by omega) ?_;intro A49 c49 w20 ho49 B49 hg49;refine ass rfl (ah (aN (ae (ab (aa (br (b:=1) rfl rfl (by omega)) (mvi rfl (ah ?_)))))));refine bn ((i+1,gs++[g2],A49,c49,Qn,qn,qm)) ⟨(by first | rfl | (rw [hqn] <;> rfl)),rfl,(by first | rfl | (refine bS ?_;omega)),trivial⟩ (by (iterate 84 refine aP rfl ?_);exact aX) ⟨?_,?_⟩
     ·refine ⟨by omega,by rw [List.length_append,hgl];rfl,?_,hrn,hnc,hnc9,hnb,by rw [List.flatMap_append];simpa using ho49,fun g hg=>?_,B49⟩
      ·(rw [hcl,hcr,List.map_append,List.append_assoc];try rfl)
      ·rcases List.mem_append.1 hg with hg | hg
       ·exact (hgs g hg).aside ho49p (by decide) hg49
       ·rw [List.mem_singleton.1 hg];exact hod.aside ho49p (by decide) hg49
     ·show fs.length-(i+1)<fs.length-i;omega
   obtain rfl:qs=[]:=by cases qs with | nil=>rfl | cons a b=>(simp at Q8 <;> omega)
   have hpk:(-9223372036854775808:Int)≤0∧(0:Int)≤9223372036854775807:=by decide
   obtain ⟨bsC,hbsC⟩:∃ l,l=cX fs[i].vs fs[i].ds 0:=⟨_,rfl⟩;obtain ⟨qn,hqn⟩:∃ x:List Int,x=[]:=⟨_,rfl⟩;obtain ⟨Qn,rfl⟩:∃ x,x=Q:=⟨_,rfl⟩;obtain ⟨qm,rfl⟩:∃ x,x=qc:=⟨_,rfl⟩;have hrn:=hrq;rw [←hqn] at hrn;have hnc:qn.length≤qm:=by rw [hqn];exact hqc
   have hnc9:=hqc9;have hnb:∀ q∈qn,-9223372036854775808≤q∧q≤9223372036854775807:=by rw [hqn];exact hqb
   have hcr0:cf ((aw fs).drop i) []=(fs[i].nm,bsC)::cf ((aw fs).drop (i+1)) qn:=by rw [kS hila (by rw [aS];exact hne),aS,hqn,hbsC];rfl
   refine aD (ae (ab (aa (aj bj rfl) (aa (bD (cs:=[_,_]) gb ga rfl (by exact mb (P4.from_ ak.rfl_))) ?_))));refine mvi rfl ?_;replace ho:=ho.kept_from (ak.rfl_);replace hgs:=fun g hg=>(hgs g hg).from_ (ak.rfl_)
   replace P4:=P4.from_ (ak.rfl_);have hz42:=((((hB.next E7).only O4 (hg7)).next E22)).size;refine ao g_ (jY fs[i].vA fs[i].dA fs[i].vc fs[i].dc fs[i].vs fs[i].ds _ _ (hfi.v.from_ (((hB.next E7).only O4 (hg7)).next E22)) (hfi.d.from_ (((hB.next E7).only O4 (hg7)).next E22)) (by omega) (by omega) hpk) ?_;rintro v42 w21 ⟨⟨A42,c42,n42,rfl,hn42,ho42⟩,E42⟩;replace ho:=ho.kept_from E42;replace hgs:=fun g hg=>(hgs g hg).from_ E42
   replace P4:=P4.from_ E42;rw [←hbsC] at hn42 ho42;subst hn42;obtain ⟨g2,hg2⟩:∃ g2:Af,g2=⟨fs[i].nm,A42,c42,bsC⟩:=⟨_,rfl⟩;have hod:di w21 w.heap.size g2:=by rw [hg2];exact ⟨c9 ho42 hz42,by show ∀ b∈bsC,b<256;rw [hbsC];exact jZ hfi.v.bt hfi.d.bt,hnm,by show bsC.length≤1048576;rw [hbsC];exact Nat.le_trans gx (Nat.max_le.2 ⟨hz1,hz2⟩)⟩
   have hcr:=hcr0;rw [show (fs[i].nm,bsC)=afB g2 by rw [hg2] <;> rfl] at hcr;refine ass rfl (ah (ae (ab (mvs rfl (aa (aj dY rfl) (aa (ar a8 rfl (by exact (P4.from_ ak.rfl_).rd 0 rfl)) ?_))))));refine mvs rfl ?_;refine aa (cC (v':=.agg (afV g2).toArray) (cx (by kernel_rfl)) (by rw [hg2] <;> rfl)) ?_;have hM48:ak _ w21:=ak.rfl_;refine fH bR rfl rfl rfl ?_;intro b48 w22 E48 hb48 hk48;have hM49:ak _ w22:=(ak.rfl_.next E48);have ho49p:=ho.kept_from hM49;replace hgs:=fun g hg=>(hgs g hg).from_ hM49
   replace hod:=hod.from_ hM49;refine ei (a0:=w) (news:=afV g2) bR rfl (by decide) rfl ho49p (((((hB.next E7).only O4 (hg7)).next E22).next E42).next E48) rfl rfl (fun _=>⟨b48,0,rfl,hk48.whole⟩) (fun h=>by cases h) (gW g2) (by omega) (by omega) ?_;intro A49 c49 w23 ho49 B49 hg49;refine ass rfl (ah (aN (ae (ab (aa (br (b:=1) rfl rfl (by omega)) (mvi rfl (ah ?_)))))));refine bn ((i+1,gs++[g2],A49,c49,Qn,qn,qm)) ⟨(by first | rfl | (rw [hqn] <;> rfl)),rfl,(by first | rfl | (refine bS ?_;omega)),trivial⟩ (by (iterate 77 refine aP rfl ?_);exact aX) ⟨?_,?_⟩
   ·refine ⟨by omega,by rw [List.length_append,hgl];rfl,?_,hrn,hnc,hnc9,hnb,by rw [List.flatMap_append];simpa using ho49,fun g hg=>?_,B49⟩
    ·(rw [hcl,hcr,List.map_append,List.append_assoc];try rfl)
    ·rcases List.mem_append.1 hg with hg | hg
     ·exact (hgs g hg).aside ho49p (by decide) hg49
     ·rw [List.mem_singleton.1 hg];exact hod.aside ho49p (by decide) hg49
   ·show fs.length-(i+1)<fs.length-i;omega
  with_reducible (replace Q7:=fC Q7;replace Q7:=dT_ Q7)
  have heq:fs[i].vs=fs[i].ds:=by simpa using Q7
  obtain ⟨Qn,rfl⟩:∃ x,x=Q:=⟨_,rfl⟩;obtain ⟨qn,rfl⟩:∃ x,x=qs:=⟨_,rfl⟩;obtain ⟨qm,rfl⟩:∃ x,x=qc:=⟨_,rfl⟩;have hrn:=hrq;have hnc:=hqc;have hnc9:=hqc9;have hnb:=hqb;obtain ⟨g2,hg2⟩:∃ g2:Af,g2=⟨fs[i].nm,A22,c22,fs[i].vs⟩:=⟨_,rfl⟩;have hod:=hodx;rw [←hg2] at hod;have hcr:cf ((aw fs).drop i) qn=afB g2::cf ((aw fs).drop (i+1)) qn:=by rw [nT hila (by rw [aS];exact heq),aS,hg2];rfl
  refine aD (ae (ab (mvs rfl (aa (aj dY rfl) (aa (ar a8 rfl (by exact (P4.from_ ak.rfl_).rd 0 rfl)) ?_)))));refine mvs rfl ?_;refine aa (cC (v':=.agg (afV g2).toArray) (cx (by kernel_rfl)) (by rw [hg2] <;> rfl)) ?_;have hM48:ak _ w5:=ak.rfl_;refine fH bR rfl rfl rfl ?_;intro b48 w24 E48 hb48 hk48;have hM49:ak _ w24:=(ak.rfl_.next E48);have ho49p:=ho.kept_from hM49;replace hgs:=fun g hg=>(hgs g hg).from_ hM49
  replace hod:=hod.from_ hM49;refine ei (a0:=w) (news:=afV g2) bR rfl (by decide) rfl ho49p ((((hB.next E7).only O4 (hg7)).next E22).next E48) rfl rfl (fun _=>⟨b48,0,rfl,hk48.whole⟩) (fun h=>by cases h) (gW g2) (by omega) (by omega) ?_;intro A49 c49 w25 ho49 B49 hg49;refine ass rfl (ah (aN (ae (ab (aa (br (b:=1) rfl rfl (by omega)) (mvi rfl (ah ?_)))))));refine bn ((i+1,gs++[g2],A49,c49,Qn,qn,qm)) ⟨(by first | rfl | (rw [hqn] <;> rfl)),rfl,(by first | rfl | (refine bS ?_;omega)),trivial⟩ (by (iterate 68 refine aP rfl ?_);exact aX) ⟨?_,?_⟩
  ·refine ⟨by omega,by rw [List.length_append,hgl];rfl,?_,hrn,hnc,hnc9,hnb,by rw [List.flatMap_append];simpa using ho49,fun g hg=>?_,B49⟩
   ·(rw [hcl,hcr,List.map_append,List.append_assoc];try rfl)
   ·rcases List.mem_append.1 hg with hg | hg
    ·exact (hgs g hg).aside ho49p (by decide) hg49
    ·rw [List.mem_singleton.1 hg];exact hod.aside ho49p (by decide) hg49
  ·show fs.length-(i+1)<fs.length-i;omega
 refine bQ (aU (aU (bz (ae (ag (ab (mvs rfl (ass rfl (ah (ae (aA (bm (v:=.slice _ _ _) rfl rfl ?_))))))))))));obtain rfl:i=fs.length:=by omega
 rw [List.drop_of_length_le (by rw [av];exact Nat.le_refl _)] at hcl;exact ⟨⟨A5,c5,_,gs,rfl,hgl.symm,by rw [hcl,cf,List.append_nil],ho,hgs⟩,hB⟩
structure Ak where
 d:Int
 A:ByteArray
 B:ByteArray
 n:Int
 X:Option Addr
 xc:Nat
 xs:List Nat
 Y:Option Addr
 yc:Nat
 ys:List Int
def akV (x:Ak):List Value:=[.int .i64 x.d,.string x.A,.string x.B,.int .i64 x.n,.slice x.X x.xs.length x.xc,.slice x.Y x.ys.length x.yc]
structure mW (w:World) (x:Ak):Prop where
 a:x.A.size≤140737488351232
 b:x.B.size≤140737488351232
 n:-9223372036854775808≤x.n∧x.n≤9223372036854775807
 rx:RB w x.X x.xc x.xs
 ry:cP iV w x.Y x.ys
 lx:x.xs.length≤140737488351232
 ly:x.ys.length≤140737488351232
 fy:∀ y∈x.ys,-9223372036854775808≤y∧y≤9223372036854775807
 cy:x.ys.length≤x.yc∧x.yc≤9223372036854775807
theorem mW.from_ {w w':World} {x:Ak} (h:mW w x) (hF:ak w w'):mW w' x:=⟨h.a,h.b,h.n,h.rx.from_ hF,h.ry.from_ hF,h.lx,h.ly,h.fy,h.cy⟩
theorem jJ.from_ {w w':World} {x:Af} (h:jJ w x) (hF:ak w w'):jJ w' x:=⟨h.1.from_ hF,h.2⟩
abbrev kO:Ty:=.pr .str (.pr (.sl (.int .u8)) .unit)
abbrev n7:Ty:=.pr (.int .i64) (.pr .str (.pr .str (.pr (.int .i64) (.pr (.sl (.int .u8)) (.pr (.sl (.int .i64)) .unit)))))
abbrev mq:Ty:=.pr (.sl kO) (.pr (.sl n7) .unit)
theorem iy {α:Type} {n:Nat} {P:Nat→α→Prop} (h:∀ i,i<n→∃ x,P i x):∃ L:List α,L.length=n∧∀ i (hi:i<L.length),P i L[i]:=
 ⟨List.ofFn fun i:Fin n=>Classical.choose (h i i.2),by simp,fun i hi=>by
  rw [List.getElem_ofFn];exact Classical.choose_spec (h i (by simpa using hi))⟩
theorem pz {w:World} {c:Nat→Option Value} {xs:List Int} (h:(Ty.sl (.int .u8)).At w c xs):∃ (A:Option Addr) (cap:Nat) (l:List Nat),c 0=some (.slice A l.length cap)∧RB w A cap l∧l.length≤140737488351232:=by
 obtain ⟨A,cap,l,h0,hr,hb,hl,hc⟩:=mQ h;obtain ⟨A',cap',h0',_,h3,_⟩:=h;rw [h0] at h0';simp only [Option.some.injEq,Value.slice.injEq] at h0';obtain ⟨rfl,_,rfl⟩:=h0';refine ⟨A,cap,l,h0,⟨hc,h3.2.1,fun hp=>?_,hb⟩,hl⟩;obtain ⟨b,o,e,hh⟩:=hr hp;refine ⟨b,o,e,fun j v hv=>?_⟩;unfold aR at hv;rw [List.getElem?_map] at hv;rcases Nat.lt_or_ge j l.length with hj | hj
 ·rw [List.getElem?_eq_getElem hj] at hv;simp only [Option.map_some,Option.some.injEq] at hv;rw [←hv];exact hh j hj
 ·rw [List.getElem?_eq_none hj] at hv;cases hv
theorem nY {w:World} {c:Nat→Option Value} {xs:List Int} (h:(Ty.sl (.int .i64)).At w c xs) :
 ∃ (A:Option Addr) (cap:Nat),c 0=some (.slice A xs.length cap)∧cP iV w A xs∧(∀ x∈xs,-9223372036854775808≤x∧x≤9223372036854775807)∧xs.length*8≤140737488351232∧xs.length≤cap∧cap≤9223372036854775807:=by
 obtain ⟨A,cap,h0,hr,hb,hl,hc⟩:=oY h;obtain ⟨A',cap',h0',_,h3,_⟩:=h;rw [h0] at h0';simp only [Option.some.injEq,Value.slice.injEq] at h0';obtain ⟨rfl,_,rfl⟩:=h0';exact ⟨A,cap,h0,hr,hb,hl,hc,h3.2.1⟩
theorem pJ {w:World} {b a:Nat} {v0 v1:Value} (h0:w.cell? ⟨b,a+0,none⟩=some v0) (h1:w.cell? ⟨b,a+1,none⟩=some v1):w.rangeAt b a [v0,v1]:=fun j v hv=>by
 match j,hv with
 |0,hv=>simp at hv;subst hv;exact h0
 |1,hv=>simp at hv;subst hv;exact h1
 |j+2,hv=>simp at hv
theorem pI {w:World} {b a:Nat} {v0 v1 v2 v3 v4 v5:Value} (h0:w.cell? ⟨b,a+0,none⟩=some v0) (h1:w.cell? ⟨b,a+1,none⟩=some v1) (h2:w.cell? ⟨b,a+2,none⟩=some v2) (h3:w.cell? ⟨b,a+3,none⟩=some v3) (h4:w.cell? ⟨b,a+4,none⟩=some v4) (h5:w.cell? ⟨b,a+5,none⟩=some v5):w.rangeAt b a [v0,v1,v2,v3,v4,v5]:=fun j v hv=>by
 match j,hv with
 |0,hv=>simp at hv;subst hv;exact h0
 |1,hv=>simp at hv;subst hv;exact h1
 |2,hv=>simp at hv;subst hv;exact h2
 |3,hv=>simp at hv;subst hv;exact h3
 |4,hv=>simp at hv;subst hv;exact h4
 |5,hv=>simp at hv;subst hv;exact h5
 |j+6,hv=>simp at hv
theorem nZ {w:World} {c:Nat→Option Value} {xs:List kO.den} (h:(Ty.sl kO).At w c xs):∃ (A:Option Addr) (cap:Nat) (L:List Af),c 0=some (.slice A L.length cap)∧da 2 afV w A L∧(∀ f∈L,jJ w f)∧L.length≤140737488351232:=by
 obtain ⟨A,cap,h0,hb,_,hi⟩:=h;have hb2:xs.length*40≤140737488351232:=hb;rcases Nat.eq_zero_or_pos (List.length xs) with hz | hz
 ·exact ⟨A,cap,[],by rw [h0,hz];rfl,fun h=>absurd h (by simp),fun f hf=>(by cases hf),by simp⟩
 ·obtain ⟨b,o,hA,_,hx⟩:=hi hz
  obtain ⟨L,hL,hP⟩:=iy (α:=Af) (n:=xs.length) (P:=fun i x=>w.rangeAt b (o+i*2) (afV x)∧jJ w x) (fun i hi=>by
   obtain ⟨g0,g1,_⟩:=hx i _ (List.getElem?_eq_getElem hi);obtain ⟨X,xc,l,k0,k1,k2⟩:=pz g1;exact ⟨⟨_,X,xc,l⟩,pJ (a:=o+i*2) g0.1 k0,k1,g0.2,by show l.length≤_;omega⟩)
  refine ⟨A,cap,L,by rw [h0,hL],fun _=>⟨b,o,hA,fun i hi=>(hP i hi).1⟩,fun f hf=>?_,by omega⟩;obtain ⟨i,hi,rfl⟩:=List.getElem_of_mem hf;exact (hP i hi).2
theorem o0 {w:World} {c:Nat→Option Value} {xs:List n7.den} (h:(Ty.sl n7).At w c xs):∃ (A:Option Addr) (cap:Nat) (L:List Ak),c 0=some (.slice A L.length cap)∧da 6 akV w A L∧(∀ x∈L,mW w x)∧L.length≤140737488351232:=by
 obtain ⟨A,cap,h0,hb,_,hi⟩:=h;have hb2:xs.length*96≤140737488351232:=hb;rcases Nat.eq_zero_or_pos (List.length xs) with hz | hz
 ·exact ⟨A,cap,[],by rw [h0,hz];rfl,fun h=>absurd h (by simp),fun f hf=>(by cases hf),by simp⟩
 ·obtain ⟨b,o,hA,_,hx⟩:=hi hz
  obtain ⟨L,hL,hP⟩:=iy (α:=Ak) (n:=xs.length) (P:=fun i x=>w.rangeAt b (o+i*6) (akV x)∧mW w x) (fun i hi=>by
   obtain ⟨g0,g1,g2,g3,g4,g5,_⟩:=hx i _ (List.getElem?_eq_getElem hi);obtain ⟨X,xc,l,k0,k1,k2⟩:=pz g4;obtain ⟨Y,yc,m0,m1,m2,m3,m4⟩:=nY g5;exact ⟨⟨_,_,_,_,X,xc,l,Y,yc,_⟩,pI (a:=o+i*6) g0.1 g1.1 g2.1 g3.1 k0 m0,g1.2,g2.2,mX g3.2,k1,m1,k2,Nat.le_trans (Nat.le_mul_of_pos_right _ (by decide)) m3,m2,m4⟩)
  refine ⟨A,cap,L,by rw [h0,hL],fun _=>⟨b,o,hA,fun i hi=>(hP i hi).1⟩,fun f hf=>?_,by omega⟩;obtain ⟨i,hi,rfl⟩:=List.getElem_of_mem hf;exact (hP i hi).2
structure lS (w:World) (A B:Option Addr) (fs:List Af) (L:List Ak):Prop where
 rowF:da 2 afV w A fs
 okF:∀ f∈fs,jJ w f
 lenF:fs.length≤140737488351232
 rowL:da 6 akV w B L
 okL:∀ x∈L,mW w x
 lenL:L.length≤140737488351232
theorem lS.from_ {w w':World} {A B:Option Addr} {fs:List Af} {L:List Ak} (h:lS w A B fs L) (hF:ak w w'):lS w' A B fs L:=⟨h.rowF.from_ hF,fun f hf=>(h.okF f hf).from_ hF,h.lenF,h.rowL.from_ hF,fun x hx=>(h.okL x hx).from_ hF,h.lenL⟩
theorem kY {w:World} {cs:Array Value} {x:mq.den} (hs:cs.size=2) (h:mq.At w (fun j=>cs[j]?) x) :
 ∃ (A B:Option Addr) (ca cb:Nat) (fs:List Af) (L:List Ak),cs=#[.slice A fs.length ca,.slice B L.length cb]∧lS w A B fs L:=by
 obtain ⟨h1,h2,_⟩:=h;obtain ⟨A,ca,fs,a0,a1,a2,a3⟩:=nZ h1;obtain ⟨B,cb,L,b0,b1,b2,b3⟩:=o0 h2;have e0:cs[0]? =some _:=a0;have e1:cs[1]? =some _:=b0;refine ⟨A,B,ca,cb,fs,L,?_,⟨a1,a2,a3,b1,b2,b3⟩⟩;obtain ⟨l⟩:=cs
 match l,hs with
 |[a,b],_=>
  simp only [List.getElem?_toArray,List.getElem?_cons_zero,List.getElem?_cons_succ,Option.some.injEq] at e0 e1;rw [e0,e1]
theorem gH {ops:Array Oper} {Q:Exit→Act→World→Prop} {rest:List Oper} {n:Fr} {L:List (Nat×Value)} {w:World} {ty:TypeId} {pos:String} {after:Array Edge} {d g m c:Nat} {x:Operand} {l:List Nat} (hd:prog.underlying 32=some (.slice 5)) (he:prog.underlying 5=some (.int .u8)) (hx:ev n L x=.slice (some ⟨g,0,none⟩) m c) (hb:Blk w g 5 (aR l).toArray) (hl:l.length≤9223372036854775807) (hbt:∀ b∈l,b<256)
 (k:∀ w',cg g w w'→RB w' (some ⟨g,0,none⟩) l.length l→St prog ops Q rest n ((d,.slice (some ⟨g,0,none⟩) m c)::L) w'):St prog ops Q (⟨some d,.convert 32 32 x,ty,pos,after,none⟩::rest) n L w:=by
 have hsh:w.shape? g=some (5,(aR l).toArray.size):=by
  unfold World.shape?;rw [show w.heap[g]? =some (.cells (aR l).toArray 5 (0,0)) from hb]
 have hh:∀ j,(w.freeze ⟨g,(aR l).toArray.size,none⟩ 1).heap[j]? =if g=j then some (.cells (aR l).toArray 5 ((aR l).toArray.size,(aR l).toArray.size+1)) else w.heap[j]? :=fun j=>by
  unfold World.freeze;rw [if_neg (by decide)];simp only [Array.getElem?_modify];split
  ·next e=>
   subst e;rw [show w.heap[g]? =some (.cells (aR l).toArray 5 (0,0)) from hb];rfl
  ·rfl
 refine aa (w':=w.freeze ⟨g,(aR l).toArray.size,none⟩ 1) (fun _ _ _ _ _=>?_) (k _ ?_ ⟨Nat.le_refl _,hl,fun _=>⟨g,0,rfl,fun j v hv=>?_⟩,hbt⟩)
 ·have key:(convert 32 32 (.slice (some ⟨g,0,none⟩) m c)).run prog w=.ok (.slice (some ⟨g,0,none⟩) m c) (w.freeze ⟨g,(aR l).toArray.size,none⟩ 1):=by
   simp [convert,run_underlying hd,run_underlying he,markStringish,hsh]
  simp [execOp,hx,key]
 ·exact ⟨by unfold World.freeze;rw [if_neg (by decide)],by unfold World.freeze;rw [if_neg (by decide)],by unfold World.freeze;rw [if_neg (by decide)],by unfold World.freeze;rw [if_neg (by decide)];simp,fun j hj=>by rw [hh,if_neg (fun e=>hj e.symm)]⟩
 ·unfold World.cell?;rw [hh,if_pos rfl];simpa using hv
theorem RB.row {w:World} {A:Option Addr} {c:Nat} {l:List Nat} (h:RB w A c l):cP bV w A l:=fun h0=>by
 obtain ⟨b,o,e,hc⟩:=h.at_ h0;exact ⟨b,o,e,fun i hi=>hc i _ (by unfold aR;rw [List.getElem?_map,List.getElem?_eq_getElem hi];rfl)⟩
theorem aY (e:Int) (w:World) :
 Rt prog 9 [.int .i64 e] w (fun v w'=>v=.int .i64 e∧w=w'):=by
 refine enter (n:=4) Try.func9 rfl rfl rfl (ag (ab (asi rfl (ah (ae (ag (ab (mvi rfl (asi rfl (ah (ae (aA (bm (v:=.int _ _) rfl rfl (⟨rfl,rfl⟩))))))))))))))
theorem cV:fm prog 35=some false:=by kernel_rfl
theorem cK:cA prog 25 0=some 0:=by kernel_rfl
theorem dg:fm prog 22=some false:=by kernel_rfl
theorem bC:cA prog 25 1=some 1:=by kernel_rfl
theorem b8:fm prog 23=some false:=by kernel_rfl
theorem eO:(cr prog 23).isSome=true:=by kernel_rfl
theorem dh:cr prog 23=some (37,6):=by kernel_rfl
theorem cq:cA prog 37 4=some 4:=by kernel_rfl
theorem cn:cA prog 37 5=some 5:=by kernel_rfl
theorem gC:fm prog 5=some false:=by kernel_rfl
theorem fx:prog.underlying 5=some (.int .u8):=by kernel_rfl
theorem dL:aK prog 8=true:=by kernel_rfl
theorem aH:aK prog 9=true:=by kernel_rfl
theorem cU:aK prog 10=true:=by kernel_rfl
theorem cT:aK prog 18=true:=by kernel_rfl
theorem d_:aK prog 20=true:=by kernel_rfl
theorem kL (A B:Option Addr) (ca cb:Nat) (fs:List Af) (L:List Ak) (w:World) (ha:lS w A B fs L) :
 Rt prog 7 [.agg #[.slice A fs.length ca,.slice B L.length cb]] w (fun v w'=>(∃ hv:Bool,v=.bool hv∧(hv=false→fs.length≤40∧(∀ j (h:j<fs.length),fs[j].bs.length≤10000)∧∀ j (h:j<L.length),j<40→L[j].xs.length≤10000∧L[j].ys.length≤10000))∧ak w w'):=by
 have hlF:=ha.lenF;have hlL:=ha.lenL;refine enter (n:=62) Try.func7 rfl rfl rfl (ag (ab (eP (v:=.agg _) rfl ?_)));intro b1 w1 E1 hb1 hk1;refine asb rfl (ah (ae (ag (ab (asi rfl (ah (ae (ag (ag (ab (asi rfl (ah (ae (a7 (cO (G:=Nat×Nat) [6,7,8,9,10,11,12,13,14,15,16,17,18,19,20,21,22,23,24,25] (fun (m,i)=>[(3,.int .i64 (m:Nat)),(4,.int .i64 (i:Nat))]) (fun (m,i) w'=>i≤fs.length∧i≤40∧(∀ j (h:j<fs.length),j<i→fs[j].bs.length≤m)∧m≤i*1000000000000000∧Blk w' b1 25 #[.slice A fs.length ca,.slice B L.length cb]∧ak w w') (fun (_,i)=>fs.length-i) ((0,0)) ⟨rfl,rfl,trivial⟩ ?_ ?_)))))))))))))))
 ·exact ⟨Nat.zero_le _,Nat.zero_le _,fun j _ h=>absurd h (Nat.not_lt_zero _),by omega,hk1.from_ ak.rfl_,(ak.rfl_.next E1)⟩
 rintro ⟨m,i⟩ ρ2 w2 ⟨hi,hi40,hmx,hmb,hP,hB⟩;refine ag (ag (ab (mvi rfl (aa (aj cK rfl) (aa (ar dg rfl (by exact (hP.from_ ak.rfl_).rd 0 rfl)) ?_)))));refine aa (aQ bP rfl) (aa (bY rfl rfl) (mvb rfl (p3 (t:=11) rfl (fun Q3=>?_) (fun Q3=>?_))))
 ·refine af rfl (mvi rfl (af rfl (aa (bY rfl rfl) (aa (aE (v:=.bool _) rfl rfl) (ah (ae (qu rfl (fun Q4=>?_) (fun Q4=>?_))))))))
  ·have hil:i<fs.length:=by omega
   obtain ⟨bF,oF,rfl,hcF⟩:=ha.rowF (by omega);have hce:=hcF i hil;have hbf:=(ha.okF _ (List.getElem_mem hil)).2.2;refine aD (ae (ag (a7 (ab (mvi rfl (aa (aj cK rfl) (aa (ar dg rfl (by exact (hP.from_ ak.rfl_).rd 0 rfl)) ?_)))))));refine mvi rfl (aa (aL dI rfl rfl (by omega)) (aa (aj bT rfl) (aa (ar aJ rfl (by exact cS hB (hce 1 _ rfl))) ?_)));refine aa (aQ bo rfl) (aa (br rfl rfl (by omega)) (asi rfl (ah (aN (ae (ab (mvi rfl (aa (br (b:=1) rfl rfl (by omega)) (asi rfl (ah ?_))))))))));refine bn ((m+fs[i].bs.length,i+1)) ⟨(by first | rfl | (refine bS ?_;omega)),(by first | rfl | (refine bS ?_;omega)),trivial⟩ (by (iterate 45 refine aP rfl ?_);exact aX) ⟨?_,?_⟩
   ·refine ⟨by omega,by omega,fun j h hj=>?_,by omega,hP.from_ ak.rfl_,hB⟩;rcases Nat.eq_or_lt_of_le (Nat.le_of_lt_succ hj) with e | e
    ·subst e;omega
    ·have:=hmx j h e;omega
   ·show fs.length-(i+1)<fs.length-i;omega
  refine bQ (aU (aU (bz (ae (ag (ag (ab (asi rfl (ah (ae (a7 (cO (G:=Nat×Nat) [26,27,28,29,30,31,32,33,34,35,36,37,38,39,40,41,42,43,44,45,46,47,48,49,50,51,52,53] (fun (m,k)=>[(3,.int .i64 (m:Nat)),(5,.int .i64 (k:Nat))]) (fun (m,k) w'=>k≤L.length∧k≤40∧(∀ j (h:j<fs.length),j<40→fs[j].bs.length≤m)∧(∀ j (h:j<L.length),j<k→L[j].xs.length≤m∧L[j].ys.length≤m)∧m≤40000000000000000+k*1000000000000000∧Blk w' b1 25 #[.slice A fs.length ca,.slice B L.length cb]∧ak w w') (fun (_,k)=>L.length-k) ((m,0)) ⟨rfl,rfl,trivial⟩ ?_ ?_))))))))))))
  ·exact ⟨Nat.zero_le _,Nat.zero_le _,fun j h h2=>hmx j h (by omega),fun j _ h=>absurd h (Nat.not_lt_zero _),by omega,hP.from_ ak.rfl_,hB⟩
  rintro ⟨m,k⟩ ρ5 w5 ⟨hk,hk40,hmf,hml,hmb,hP,hB⟩;refine ag (ag (ab (mvi rfl (aa (aj bC rfl) (aa (ar b8 rfl (by exact (hP.from_ ak.rfl_).rd 1 rfl)) ?_)))));refine aa (aQ eO rfl) (aa (bY rfl rfl) (mvb rfl (p3 (t:=31) rfl (fun Q6=>?_) (fun Q6=>?_))))
  ·refine af rfl (mvi rfl (af rfl (aa (bY rfl rfl) (aa (aE (v:=.bool _) rfl rfl) (ah (ae (qu rfl (fun Q7=>?_) (fun Q7=>?_))))))))
   ·have hkl:k<L.length:=by omega
    obtain ⟨bL,oL,rfl,hcL⟩:=ha.rowL (by omega);have hce:=hcL k hkl;have hbx:=(ha.okL _ (List.getElem_mem hkl)).lx;have hby:=(ha.okL _ (List.getElem_mem hkl)).ly;refine aD (ae (ag (a7 ?_)));apply b_ 18 [(37,eqp _),(38,eqp _),(39,eqp _),(40,eqp _),(41,eqp _),(42,eqp _),(43,eqp (.slice L[k].X L[k].xs.length L[k].xc)),(44,eqp _),(45,eqp _),(46,eqp _),(47,eqp _),(48,eqp _),(49,eqp _),(50,eqp _),(51,eqp (.slice L[k].Y L[k].ys.length L[k].yc)),(52,eqp _),(53,eqp _),(3,eqp _)] (by repeat first | exact cv | refine cu ?_ | refine bX ?_) (by kernel_rfl) (by kernel_rfl) ⟨ai _,ai _,ai _,ai _,ai _,ai _,ai _,ai _,ai _,ai _,ai _,ai _,ai _,ai _,ai _,ai _,ai _,ai _,trivial⟩
    case hop=>
     constructor
     ·rintro-w9 D9;exact an (ax (v:=.int _ _) rfl) rfl
     constructor
     ·rintro-w10 D10;exact an (aj bC rfl) rfl
     constructor
     ·rintro-w11 D11;rintro _ rfl;exact an (ar b8 rfl (by exact (hP.from_ (ak.rfl_.next D11)).rd 1 rfl)) rfl
     constructor
     ·rintro-w12 D12;exact an (ax (v:=.int _ _) rfl) rfl
     constructor
     ·rintro-w13 D13;rintro _ rfl _ rfl;exact an (aL dh rfl rfl (by omega)) rfl
     constructor
     ·rintro-w14 D14;rintro _ rfl;exact an (aj cq rfl) rfl
     constructor
     ·rintro-w15 D15;rintro _ rfl;exact an (ar (v:=.slice L[k].X L[k].xs.length L[k].xc) aJ rfl (cS (hB.next D15) (hce 4 _ rfl))) rfl
     constructor
     ·rintro-w16 D16;rintro v16_43 rfl;exact an (aQ bo rfl) rfl
     constructor
     ·rintro-w17 D17;rintro _ rfl _ rfl;exact an (br rfl rfl (by omega)) rfl
     constructor
     ·rintro-w18 D18;exact an (aj bC rfl) rfl
     constructor
     ·rintro-w19 D19;rintro _ rfl;exact an (ar b8 rfl (by exact (hP.from_ (ak.rfl_.next D19)).rd 1 rfl)) rfl
     constructor
     ·rintro-w20 D20;exact an (ax (v:=.int _ _) rfl) rfl
     constructor
     ·rintro-w21 D21;rintro _ rfl _ rfl;exact an (aL dh rfl rfl (by omega)) rfl
     constructor
     ·rintro-w22 D22;rintro _ rfl;exact an (aj cn rfl) rfl
     constructor
     ·rintro-w23 D23;rintro _ rfl;exact an (ar (v:=.slice L[k].Y L[k].ys.length L[k].yc) cV rfl (cS (hB.next D23) (hce 5 _ rfl))) rfl
     constructor
     ·rintro-w24 D24;rintro v24_51 rfl;exact an (aQ fz rfl) rfl
     constructor
     ·rintro-w25 D25;rintro _ rfl _ rfl;exact an (br rfl rfl (by omega)) rfl
     constructor
     ·rintro-w26 D26;rintro _ rfl;exact an (cz (v:=.int _ _) rfl) rfl
     exact trivial
    case hend=>
     intro w27 D27;rintro _ rfl _ rfl _ rfl _ rfl _ rfl _ rfl v43 rfl _ rfl _ rfl _ rfl _ rfl _ rfl _ rfl _ rfl v51 rfl _ rfl _ rfl _ rfl;show St ..;refine ah (aN (ae (ab (mvi rfl (aa (br (b:=1) rfl rfl (by omega)) (asi rfl (ah ?_)))))));refine bn ((m+L[k].xs.length+L[k].ys.length,k+1)) ⟨(by first | rfl | (refine bS ?_;omega)),(by first | rfl | (refine bS ?_;omega)),trivial⟩ (by (iterate 61 refine aP rfl ?_);exact aX) ⟨?_,?_⟩
     ·refine ⟨by omega,by omega,fun j h hj=>by have:=hmf j h hj;omega,fun j h hj=>?_,by omega,hP.from_ (ak.rfl_.next D27),(hB.next D27)⟩;rcases Nat.eq_or_lt_of_le (Nat.le_of_lt_succ hj) with e | e
      ·subst e;omega
      ·have:=hml j h e;omega
     ·show L.length-(k+1)<L.length-k;omega
   refine bQ (aU (aU (bz (ae (ag (ab (mvi rfl (aa (bZ rfl rfl) (mvb rfl (p3 (t:=56) rfl (fun Q28=>?_) (fun Q28=>?_)))))))))))
   ·refine aC rfl rfl (aC rfl rfl (aC rfl rfl (aC rfl rfl (aa (aE (v:=.bool _) rfl rfl) (asb rfl (ah (ae (aA (bm (v:=.bool _) rfl rfl (⟨⟨_,rfl,fun h=>?_⟩,hB⟩))))))))))
    first
     |(cases h;done)
     |(have hq:=dF_ h
       exact ⟨by omega,fun j h=>by have:=hmf j h (by omega);omega,fun j h h40=>by have:=hml j h (by omega);omega⟩)
   refine af rfl (aa (aj cK rfl) (af rfl (aa (ar dg rfl (by exact (hP.from_ ak.rfl_).rd 0 rfl)) ?_)));refine af rfl (aa (aQ bP rfl) (af rfl (aa (bZ rfl rfl) (aa (az (v:=.bool _) rfl rfl) (asb rfl (ah (ae (aA (bm (v:=.bool _) rfl rfl (⟨⟨_,rfl,fun h=>?_⟩,hB⟩))))))))))
   first
    |(cases h;done)
    |(have hq:=dF_ h
      exact ⟨by omega,fun j h=>by have:=hmf j h (by omega);omega,fun j h h40=>by have:=hml j h (by omega);omega⟩)
  refine aC rfl rfl (aC rfl rfl (aa (az (v:=.bool _) rfl rfl) (ah (ae (bI rfl (bQ (aU (aU (bz (ae (ag (ab (mvi rfl (aa (bZ rfl rfl) ?_))))))))))))));refine mvb rfl (p3 (t:=56) rfl (fun Q29=>?_) (fun Q29=>?_))
  ·refine aC rfl rfl (aC rfl rfl (aC rfl rfl (aC rfl rfl (aa (aE (v:=.bool _) rfl rfl) (asb rfl (ah (ae (aA (bm (v:=.bool _) rfl rfl (⟨⟨_,rfl,fun h=>?_⟩,hB⟩))))))))))
   first
    |(cases h;done)
    |(have hq:=dF_ h
      exact ⟨by omega,fun j h=>by have:=hmf j h (by omega);omega,fun j h h40=>by have:=hml j h (by omega);omega⟩)
  refine af rfl (aa (aj cK rfl) (af rfl (aa (ar dg rfl (by exact (hP.from_ ak.rfl_).rd 0 rfl)) ?_)));refine af rfl (aa (aQ bP rfl) (af rfl (aa (bZ rfl rfl) (aa (az (v:=.bool _) rfl rfl) (asb rfl (ah (ae (aA (bm (v:=.bool _) rfl rfl (⟨⟨_,rfl,fun h=>?_⟩,hB⟩))))))))))
  first
   |(cases h;done)
   |(have hq:=dF_ h
     exact ⟨by omega,fun j h=>by have:=hmf j h (by omega);omega,fun j h h40=>by have:=hml j h (by omega);omega⟩)
 refine aC rfl rfl (aC rfl rfl (aa (az (v:=.bool _) rfl rfl) (ah (ae (bI rfl (bQ (aU (aU (bz (ae (ag (ag (ab (asi rfl (ah (ae (a7 ?_)))))))))))))))));refine cO (G:=Nat×Nat) [26,27,28,29,30,31,32,33,34,35,36,37,38,39,40,41,42,43,44,45,46,47,48,49,50,51,52,53] (fun (m,k)=>[(3,.int .i64 (m:Nat)),(5,.int .i64 (k:Nat))]) (fun (m,k) w'=>k≤L.length∧k≤40∧(∀ j (h:j<fs.length),j<40→fs[j].bs.length≤m)∧(∀ j (h:j<L.length),j<k→L[j].xs.length≤m∧L[j].ys.length≤m)∧m≤40000000000000000+k*1000000000000000∧Blk w' b1 25 #[.slice A fs.length ca,.slice B L.length cb]∧ak w w') (fun (_,k)=>L.length-k) ((m,0)) ⟨rfl,rfl,trivial⟩ ?_ ?_
 ·exact ⟨Nat.zero_le _,Nat.zero_le _,fun j h h2=>hmx j h (by omega),fun j _ h=>absurd h (Nat.not_lt_zero _),by omega,hP.from_ ak.rfl_,hB⟩
 rintro ⟨m,k⟩ ρ30 w30 ⟨hk,hk40,hmf,hml,hmb,hP,hB⟩;refine ag (ag (ab (mvi rfl (aa (aj bC rfl) (aa (ar b8 rfl (by exact (hP.from_ ak.rfl_).rd 1 rfl)) ?_)))));refine aa (aQ eO rfl) (aa (bY rfl rfl) (mvb rfl (p3 (t:=31) rfl (fun Q31=>?_) (fun Q31=>?_))))
 ·refine af rfl (mvi rfl (af rfl (aa (bY rfl rfl) (aa (aE (v:=.bool _) rfl rfl) (ah (ae (qu rfl (fun Q32=>?_) (fun Q32=>?_))))))))
  ·have hkl:k<L.length:=by omega
   obtain ⟨bL,oL,rfl,hcL⟩:=ha.rowL (by omega);have hce:=hcL k hkl;have hbx:=(ha.okL _ (List.getElem_mem hkl)).lx;have hby:=(ha.okL _ (List.getElem_mem hkl)).ly;refine aD (ae (ag (a7 ?_)));apply b_ 18 [(37,eqp _),(38,eqp _),(39,eqp _),(40,eqp _),(41,eqp _),(42,eqp _),(43,eqp (.slice L[k].X L[k].xs.length L[k].xc)),(44,eqp _),(45,eqp _),(46,eqp _),(47,eqp _),(48,eqp _),(49,eqp _),(50,eqp _),(51,eqp (.slice L[k].Y L[k].ys.length L[k].yc)),(52,eqp _),(53,eqp _),(3,eqp _)] (by repeat first | exact cv | refine cu ?_ | refine bX ?_) (by kernel_rfl) (by kernel_rfl) ⟨ai _,ai _,ai _,ai _,ai _,ai _,ai _,ai _,ai _,ai _,ai _,ai _,ai _,ai _,ai _,ai _,ai _,ai _,trivial⟩
   case hop=>
    constructor
    ·rintro-w34 D34;exact an (ax (v:=.int _ _) rfl) rfl
    constructor
    ·rintro-w35 D35;exact an (aj bC rfl) rfl
    constructor
    ·rintro-w36 D36;rintro _ rfl;exact an (ar b8 rfl (by exact (hP.from_ (ak.rfl_.next D36)).rd 1 rfl)) rfl
    constructor
    ·rintro-w37 D37;exact an (ax (v:=.int _ _) rfl) rfl
    constructor
    ·rintro-w38 D38;rintro _ rfl _ rfl;exact an (aL dh rfl rfl (by omega)) rfl
    constructor
    ·rintro-w39 D39;rintro _ rfl;exact an (aj cq rfl) rfl
    constructor
    ·rintro-w40 D40;rintro _ rfl;exact an (ar (v:=.slice L[k].X L[k].xs.length L[k].xc) aJ rfl (cS (hB.next D40) (hce 4 _ rfl))) rfl
    constructor
    ·rintro-w41 D41;rintro v41_43 rfl;exact an (aQ bo rfl) rfl
    constructor
    ·rintro-w42 D42;rintro _ rfl _ rfl;exact an (br rfl rfl (by omega)) rfl
    constructor
    ·rintro-w43 D43;exact an (aj bC rfl) rfl
    constructor
    ·rintro-w44 D44;rintro _ rfl;exact an (ar b8 rfl (by exact (hP.from_ (ak.rfl_.next D44)).rd 1 rfl)) rfl
    constructor
    ·rintro-w45 D45;exact an (ax (v:=.int _ _) rfl) rfl
    constructor
    ·rintro-w46 D46;rintro _ rfl _ rfl;exact an (aL dh rfl rfl (by omega)) rfl
    constructor
    ·rintro-w47 D47;rintro _ rfl;exact an (aj cn rfl) rfl
    constructor
    ·rintro-w48 D48;rintro _ rfl;exact an (ar (v:=.slice L[k].Y L[k].ys.length L[k].yc) cV rfl (cS (hB.next D48) (hce 5 _ rfl))) rfl
    constructor
    ·rintro-w49 D49;rintro v49_51 rfl;exact an (aQ fz rfl) rfl
    constructor
    ·rintro-w50 D50;rintro _ rfl _ rfl;exact an (br rfl rfl (by omega)) rfl
    constructor
    ·rintro-w51 D51;rintro _ rfl;exact an (cz (v:=.int _ _) rfl) rfl
    exact trivial
   case hend=>
    intro w52 D52;rintro _ rfl _ rfl _ rfl _ rfl _ rfl _ rfl v43 rfl _ rfl _ rfl _ rfl _ rfl _ rfl _ rfl _ rfl v51 rfl _ rfl _ rfl _ rfl;show St ..;refine ah (aN (ae (ab (mvi rfl (aa (br (b:=1) rfl rfl (by omega)) (asi rfl (ah ?_)))))));refine bn ((m+L[k].xs.length+L[k].ys.length,k+1)) ⟨(by first | rfl | (refine bS ?_;omega)),(by first | rfl | (refine bS ?_;omega)),trivial⟩ (by (iterate 61 refine aP rfl ?_);exact aX) ⟨?_,?_⟩
    ·refine ⟨by omega,by omega,fun j h hj=>by have:=hmf j h hj;omega,fun j h hj=>?_,by omega,hP.from_ (ak.rfl_.next D52),(hB.next D52)⟩;rcases Nat.eq_or_lt_of_le (Nat.le_of_lt_succ hj) with e | e
     ·subst e;omega
     ·have:=hml j h e;omega
    ·show L.length-(k+1)<L.length-k;omega
  refine bQ (aU (aU (bz (ae (ag (ab (mvi rfl (aa (bZ rfl rfl) (mvb rfl (p3 (t:=56) rfl (fun Q53=>?_) (fun Q53=>?_)))))))))))
  ·refine aC rfl rfl (aC rfl rfl (aC rfl rfl (aC rfl rfl (aa (aE (v:=.bool _) rfl rfl) (asb rfl (ah (ae (aA (bm (v:=.bool _) rfl rfl (⟨⟨_,rfl,fun h=>?_⟩,hB⟩))))))))))
   first
    |(cases h;done)
    |(have hq:=dF_ h
      exact ⟨by omega,fun j h=>by have:=hmf j h (by omega);omega,fun j h h40=>by have:=hml j h (by omega);omega⟩)
  refine af rfl (aa (aj cK rfl) (af rfl (aa (ar dg rfl (by exact (hP.from_ ak.rfl_).rd 0 rfl)) ?_)));refine af rfl (aa (aQ bP rfl) (af rfl (aa (bZ rfl rfl) (aa (az (v:=.bool _) rfl rfl) (asb rfl (ah (ae (aA (bm (v:=.bool _) rfl rfl (⟨⟨_,rfl,fun h=>?_⟩,hB⟩))))))))))
  first
   |(cases h;done)
   |(have hq:=dF_ h
     exact ⟨by omega,fun j h=>by have:=hmf j h (by omega);omega,fun j h h40=>by have:=hml j h (by omega);omega⟩)
 refine aC rfl rfl (aC rfl rfl (aa (az (v:=.bool _) rfl rfl) (ah (ae (bI rfl (bQ (aU (aU (bz (ae (ag (ab (mvi rfl (aa (bZ rfl rfl) ?_))))))))))))));refine mvb rfl (p3 (t:=56) rfl (fun Q54=>?_) (fun Q54=>?_))
 ·refine aC rfl rfl (aC rfl rfl (aC rfl rfl (aC rfl rfl (aa (aE (v:=.bool _) rfl rfl) (asb rfl (ah (ae (aA (bm (v:=.bool _) rfl rfl (⟨⟨_,rfl,fun h=>?_⟩,hB⟩))))))))))
  first
   |(cases h;done)
   |(have hq:=dF_ h
     exact ⟨by omega,fun j h=>by have:=hmf j h (by omega);omega,fun j h h40=>by have:=hml j h (by omega);omega⟩)
 refine af rfl (aa (aj cK rfl) (af rfl (aa (ar dg rfl (by exact (hP.from_ ak.rfl_).rd 0 rfl)) ?_)));refine af rfl (aa (aQ bP rfl) (af rfl (aa (bZ rfl rfl) (aa (az (v:=.bool _) rfl rfl) (asb rfl (ah (ae (aA (bm (v:=.bool _) rfl rfl (⟨⟨_,rfl,fun h=>?_⟩,hB⟩))))))))))
 first
  |(cases h;done)
  |(have hq:=dF_ h
    exact ⟨by omega,fun j h=>by have:=hmf j h (by omega);omega,fun j h h40=>by have:=hml j h (by omega);omega⟩)
theorem jW (w:World):Rt prog 8 [.slice none 0 0] w fun v w'=>(∃ d,v=.tuple #[.pointer (some ⟨d,0,none⟩),.int .i64 0]∧cQ w' (fun k=>w.heap.size≤k∧k<w'.heap.size) d [] 0 false)∧ak w w':=
 (jk none 0 0 [] w (fun h=>absurd h (Nat.lt_irrefl _)) rfl (fun f hf=>by cases hf)).mono fun v w' h=>by
  obtain ⟨h,hF⟩:=h;rcases h with ⟨h,_⟩ | ⟨_,d,h,hd⟩
  ·exact absurd ⟨Nat.zero_le _,fun j hj=>absurd hj (Nat.not_lt_zero _)⟩ h
  ·exact ⟨⟨d,h,hd.wide fun k h1 h2=>⟨h1,h2⟩⟩,hF⟩
theorem py {α:Type} {a b:List α} {k:Nat} (hl:a.length=b.length) (hk:¬ k<a.length) (h:a.take k=b.take k):a=b:=by
 rw [List.take_of_length_le (by omega),List.take_of_length_le (by omega)] at h;exact h
theorem lU {α:Type} {a b:List α} {k:Nat} (ha:k<a.length) (hb:k<b.length) (h:a.take k=b.take k) (he:a[k]=b[k]):a.take (k+1)=b.take (k+1):=by
 rw [List.take_succ_eq_append_getElem ha,List.take_succ_eq_append_getElem hb,h,he]
theorem pA:okN ⟨#[97]⟩=true:=by decide
theorem p5:fP [] 0 false ⟨#[97]⟩ [97,98,99].length=0:=by unfold fP bE;rw [pA];rfl
theorem qz:eC [] 0 false ⟨#[97]⟩ [97,98,99]=[(⟨#[97]⟩,[97,98,99],[])]:=by unfold eC;rw [p5];rfl
theorem qy:eJ (okN ⟨#[97]⟩) 0 false=false:=by rw [pA];rfl
theorem o5:dw [(⟨#[97]⟩,[97,98,99],[])] false ⟨#[97]⟩=0:=by unfold dw;rw [pA];rfl
theorem p4:ec [(⟨#[97]⟩,[97,98,99],[])] false ⟨#[97]⟩=[97,98,99]:=by unfold ec;rw [o5];rfl
theorem gv (A B:Option Addr) (ca cb:Nat) (a b:List Nat) (w:World) (ha:cP bV w A a) (hb:cP bV w B b) (hla:a.length*1≤140737488351232) :
 Rt prog 20 [.slice A a.length ca,.slice B b.length cb] w (fun v w'=>v=.bool (decide (a=b))∧ak w w'):=by
 refine enter (n:=26) Try.func20 rfl rfl rfl (ag (ab (asb rfl (ah (ae (ag (ag (ab (mvs rfl (aa (aQ bo rfl) (mvs rfl (aa (aQ bo rfl) (aa (bc rfl rfl) ?_)))))))))))));refine ah (ae (ay rfl (fun Q1=>?_) (fun Q1=>?_)))
 ·replace Q1:=fB Q1;replace Q1:=fE Q1;refine ag (ab (asb rfl (ah (ae (aA (aF (bm (v:=.bool _) rfl rfl ?_)))))));exact ⟨by rw [decide_eq_false];rintro rfl;omega,ak.rfl_⟩
 replace Q1:=fC Q1;replace Q1:=fD Q1;refine aD (ae (ag (ag (ab (asi rfl (ah (ae (a7 (cO (G:=Nat) [4,11,12,13,14,15,16,17,18,19,20,21,22,23,24,25] (fun k=>[(5,.int .i64 (k:Nat))]) (fun k w'=>k≤a.length∧a.take k=b.take k∧ak w w') (fun k=>a.length-k) (0) ⟨rfl,trivial⟩ ?_ ?_)))))))))
 ·exact ⟨Nat.zero_le _,rfl,ak.rfl_⟩
 rintro k ρ2 w2 ⟨hk,ht,hB⟩;refine ag (ag (ab (mvi rfl (mvs rfl (aa (aQ bo rfl) (aa (bY rfl rfl) (ah (ae (qu rfl (fun Q3=>?_) (fun Q3=>?_))))))))))
 ·obtain ⟨ba,oa,rfl,ca⟩:=ha (by omega);obtain ⟨bb,ob,rfl,cb⟩:=hb (by omega);refine aD (ae (ag (a7 (ag ?_))));apply nX 9 [(17,eqp _),(18,eqp _),(19,eqp _),(20,eqp _),(21,eqp _),(22,eqp _),(23,eqp _),(24,eqp _),(25,eqp _)] (by kernel_rfl) (by kernel_rfl) ⟨ai _,ai _,ai _,ai _,ai _,ai _,ai _,ai _,ai _,trivial⟩
  case hop=>
   constructor
   ·intro w5 D5;exact an (ax (v:=.slice _ _ _) rfl) rfl
   constructor
   ·intro w6 D6;exact an (ax (v:=.int _ _) rfl) rfl
   constructor
   ·intro w7 D7;rintro _ rfl _ rfl;exact an (cY db rfl rfl (by omega)) rfl
   constructor
   ·intro w8 D8;rintro _ rfl;exact an (ar gC rfl (by first | (exact cS (hB.next D8) (ca k (by omega))) | (exact cS (hB.next D8) (cb k (by omega))))) rfl
   constructor
   ·intro w9 D9;exact an (ax (v:=.slice _ _ _) rfl) rfl
   constructor
   ·intro w10 D10;exact an (ax (v:=.int _ _) rfl) rfl
   constructor
   ·intro w11 D11;rintro _ rfl _ rfl;exact an (cY db rfl rfl (by omega)) rfl
   constructor
   ·intro w12 D12;rintro _ rfl;exact an (ar gC rfl (by first | (exact cS (hB.next D12) (ca k (by omega))) | (exact cS (hB.next D12) (cb k (by omega))))) rfl
   constructor
   ·intro w13 D13;rintro _ rfl _ rfl;exact an (bc rfl rfl) rfl
   exact trivial
  case hend=>
   intro w14 D14;rintro _ rfl _ rfl _ rfl _ rfl _ rfl _ rfl _ rfl _ rfl _ rfl;show St ..;refine ah (ae (ay rfl (fun Q15=>?_) (fun Q15=>?_)))
   ·replace Q15:=fB Q15;replace Q15:=fE Q15;refine ag (ab (asb rfl (ah (ae (aA (bK (aF (aF (bK (aF (bm (v:=.bool _) rfl rfl ?_)))))))))));exact ⟨by rw [decide_eq_false];rintro rfl;exact absurd rfl (by assumption),(hB.next D14)⟩
   replace Q15:=fC Q15;replace Q15:=fD Q15;refine aD (aN (ae (ab (mvi rfl (aa (eS rfl rfl (by omega)) (asi rfl (ah ?_)))))));refine bn (k+1) ⟨(by first | rfl | (refine bS ?_;omega)),trivial⟩ (by (iterate 33 refine aP rfl ?_);exact aX) ⟨?_,?_⟩
   ·exact ⟨by omega,lU (by omega) (by omega) ht (by omega),(hB.next D14)⟩
   ·omega
 refine bQ (aU (aU (bz (ae (ag (ab (asb rfl (ah (ae (aA (bm (v:=.bool _) rfl rfl (⟨by rw [decide_eq_true (py (by omega) (by omega) ht)],hB⟩))))))))))))
theorem gE (w:World) :
 Rt prog 23 [] w (fun v w'=>v=.bool true∧ak w w'):=by
 refine enter (n:=38) Try.func23 rfl rfl rfl (ag (ab (asb rfl (ah (ae (ag (ab (ao dL (jW _) ?_))))))));rintro v6 w1 ⟨⟨d,rfl,hd6⟩,E6⟩;refine mvt rfl (aa (aq rfl rfl) (aa (aq rfl rfl) (asp rfl (asi rfl (ah (ae (ag (ag (ab (mvi rfl (ao aH (aY _ _) ?_)))))))))));rintro v10 w2 ⟨rfl,rfl⟩;refine aa (bw (bc rfl rfl) (bne_self_eq_false _)) (mvb rfl (af rfl (mvp rfl (af rfl (aa (bw (ej (by kernel_rfl) rfl rfl) rfl) (aa (az (v:=.bool _) rfl rfl) (mvb rfl (af rfl ?_))))))));refine mvp rfl (af rfl ?_);have hB18:ak w w1:=(ak.rfl_.next E6);have hM18:ak _ w1:=(ak.rfl_.next E6);refine gG [.const (.int .u8 97),.const (.int .u8 98),.const (.int .u8 99)] [.int .u8 97,.int .u8 98,.int .u8 99] de rfl rfl rfl rfl (by simp [Value.cells]) ?_;intro b18 w3 E18 hb18 hk18;refine af rfl (gH (l:=[97,98,99]) eX fx rfl hk18 (by decide) (by decide) ?_);intro w4 O19 hr19;have hd19:=(hd6.from_ E18).chg (O19.toChg (U:=fun k=>k=b18) rfl) (fun k h1 h2=>by have h3:k<_:=h1.2;have h4:k=b18:=h2;omega);refine af rfl (ao cU (dE _ d [] 0 false _ hd19 ⟨#[97]⟩ (by decide) (some ⟨b18,0,none⟩) 3 3 [97,98,99] hr19 rfl (by decide) (fun _ q hq h=>by have h3:q<_:=h.2;have h4:b18=q:=Option.some.inj hq;omega)) ?_);rintro v20 w5 ⟨rfl,hd20,hC20⟩;rw [p5];rw [qz,qy] at hd20;refine af rfl (ao aH (aY _ _) ?_);rintro v21 w6 ⟨rfl,rfl⟩;refine af rfl (aa (bw (bc rfl rfl) (bne_self_eq_false _)) (aa (az (v:=.bool _) rfl rfl) (ah (ae (bI rfl (aD (ae (ag (ab (mvp rfl (ao cT (fc _ d _ _ _ _ hd20 ⟨#[97]⟩ (by decide)) ?_)))))))))));rintro v26 w7 ⟨⟨A26,c26,rfl,ho26⟩,E26⟩;rw [p4] at ho26 ⊢;rw [o5];refine mvt rfl (aa (aq rfl rfl) (aa (aq rfl rfl) (ass rfl (asi rfl (ah (ae (ag (ab (mvi rfl (ao aH (aY _ _) ?_))))))))));rintro v30 w8 ⟨rfl,rfl⟩;refine aa (cZ (bf rfl rfl) rfl) (mvb rfl (af rfl (mvs rfl (af rfl ?_))));have hB34:ak w w7:=(((((((ak.rfl_.next E6).next E18)).only O19 (by rw [hb18];exact hB18.size))).chg hC20 (fun k hk=>hk.1)).next E26);have hM34:ak _ w7:=ak.rfl_;refine gG [.const (.int .u8 97),.const (.int .u8 98),.const (.int .u8 99)] [.int .u8 97,.int .u8 98,.int .u8 99] de rfl rfl rfl rfl (by simp [Value.cells]) ?_;intro b34 w9 E34 hb34 hk34;refine af rfl (gH (l:=[97,98,99]) eX fx rfl hk34 (by decide) (by decide) ?_);intro w10 O35 hr35;refine af rfl (ao d_ (gv A26 (some ⟨b34,0,none⟩) c26 3 [97,98,99] [97,98,99] _ ((cP.own ho26).2.from_ (((ak.rfl_.next E34)).only O35 (by rw [hb34];exact hM34.size))) hr35.row (by decide)) ?_);rintro v36 w11 ⟨rfl,E36⟩;refine aa (aE (v:=.bool _) rfl rfl) (asb rfl (ah (ae (aA (bm (v:=.bool _) rfl rfl (⟨rfl,(((((((((((ak.rfl_.next E6).next E18)).only O19 (by rw [hb18];exact hB18.size))).chg hC20 (fun k hk=>hk.1)).next E26).next E34)).only O35 (by rw [hb34];exact hB34.size)).next E36)⟩))))))
theorem n9:aK prog 36=true:=by kernel_rfl
theorem n5 {a b:Af}:afB a=afB b↔a.nm=b.nm∧a.bs=b.bs:=by
 unfold afB;rw [Prod.mk.injEq]
theorem lV {a b:ByteArray}:a.toList=b.toList↔a=b:=⟨dM,fun h=>by rw [h]⟩
theorem mL (a b:Af) (w:World) (ha:RB w a.A a.c a.bs) (hb:RB w b.A b.c b.bs) (hl:a.bs.length≤140737488351232) :
 Rt prog 36 [.agg (afV a).toArray,.agg (afV b).toArray] w (fun v w'=>v=.bool (decide (afB a=afB b))∧ak w w'):=by
 refine enter (n:=17) Try.func36 rfl rfl rfl (ag (ab (eP (v:=.agg _) rfl ?_)));intro b2 w1 E2 hb2 hk2;refine eP (v:=.agg _) rfl ?_;intro b3 w2 E3 hb3 hk3;refine asb rfl (ah (ae (ag (ab (aa (aj bB rfl) (aa (ar a8 rfl (by exact (hk2.from_ (E3.next ak.rfl_)).rd 0 rfl)) ?_))))));refine aa (aj bB rfl) (aa (ar a8 rfl (by exact (hk3.from_ ak.rfl_).rd 0 rfl)) ?_);refine aa (fW rfl rfl) (mvb rfl (p2 (t:=10) rfl (fun Q3=>?_) (fun Q3=>?_)))
 ·refine af rfl (aa (aj bT rfl) (af rfl (aa (ar aJ rfl (by exact (hk2.from_ (E3.next ak.rfl_)).rd 1 rfl)) ?_)));refine af rfl (aa (aj bT rfl) (af rfl (aa (ar aJ rfl (by exact (hk3.from_ ak.rfl_).rd 1 rfl)) ?_)));refine af rfl (ao d_ (gv a.A b.A a.c b.c a.bs b.bs _ (ha.from_ ((ak.rfl_.next E2).next E3)).row (hb.from_ ((ak.rfl_.next E2).next E3)).row (by omega)) ?_);rintro v15 w4 ⟨rfl,E15⟩;refine aa (aE (v:=.bool _) rfl rfl) (asb rfl (ah (ae (aA (bm (v:=.bool _) rfl rfl (⟨congrArg Value.bool ?_,(((ak.rfl_.next E2).next E3).next E15)⟩))))));rw [Bool.eq_iff_iff]
  simp_all [n5,lV]
 refine aC rfl rfl (aC rfl rfl (aC rfl rfl (aC rfl rfl (aC rfl rfl (aa (az (v:=.bool _) rfl rfl) (asb rfl (ah (ae (aA (bm (v:=.bool _) rfl rfl ?_))))))))));refine ⟨congrArg Value.bool ?_,((ak.rfl_.next E2).next E3)⟩;rw [Bool.eq_iff_iff]
 simp_all [n5,lV]
theorem lI (A B:Option Addr) (ca cb:Nat) (fs gs:List Af) (w:World) (ha:da 2 afV w A fs) (hb:da 2 afV w B gs) (hal:∀ f∈fs,jJ w f) (hbl:∀ f∈gs,jJ w f) (hl:fs.length≤140737488351232) (hsm:∀ f∈fs,f.bs.length≤140737488351232) :
 Rt prog 25 [.slice A fs.length ca,.slice B gs.length cb] w (fun v w'=>v=.bool (decide (fs.map afB=gs.map afB))∧ak w w'):=by
 refine enter (n:=27) Try.func25 rfl rfl rfl (ag (ab (asb rfl (ah (ae (ag (ag (ab (mvs rfl (aa (aQ bP rfl) (mvs rfl (aa (aQ bP rfl) (aa (bc rfl rfl) ?_)))))))))))));refine ah (ae (qp rfl (fun Q1=>?_) (fun Q1=>?_)))
 ·refine ag (ab (asb rfl (ah (ae (aA (aF (bm (v:=.bool _) rfl rfl (⟨congrArg Value.bool ?_,ak.rfl_⟩))))))));symm;rw [decide_eq_false_iff_not];intro e;have:=congrArg List.length e;rw [List.length_map,List.length_map] at this;omega
 refine aD (ae (ag (ag (ab (asi rfl (ah (ae (a7 (cO (G:=Nat) [4,11,12,13,14,15,16,17,18,19,20,21,22,23,24,25,26] (fun i=>[(5,.int .i64 (i:Nat))]) (fun i w'=>i≤fs.length∧(fs.map afB).take i=(gs.map afB).take i∧ak w w') (fun i=>fs.length-i) (0) ⟨rfl,trivial⟩ ?_ ?_)))))))))
 ·exact ⟨Nat.zero_le _,rfl,ak.rfl_⟩
 rintro i ρ2 w2 ⟨hi,ht,hB⟩;refine ag (ag (ab (mvi rfl (mvs rfl (aa (aQ bP rfl) (aa (bY rfl rfl) (ah (ae (qu rfl (fun Q3=>?_) (fun Q3=>?_))))))))))
 ·have hia:i<fs.length:=by omega
  have hib:i<gs.length:=by omega
  obtain ⟨ba,oa,rfl,hca⟩:=ha (by omega);obtain ⟨bb,ob,rfl,hcb⟩:=hb (by omega);have hce:=hca i hia;have hcf:=hcb i hib;refine aD (ae (ag (a7 (ag ?_))));apply b_ 10 [(17,eqp _),(18,eqp _),(19,eqp _),(20,eqp (.agg (afV fs[i]).toArray)),(21,eqp _),(22,eqp _),(23,eqp _),(24,eqp (.agg (afV gs[i]).toArray)),(25,eqp _),(26,eqp _)] (by repeat first | exact cv | refine cu ?_ | refine bX ?_) (by kernel_rfl) (by kernel_rfl) ⟨ai _,ai _,ai _,ai _,ai _,ai _,ai _,ai _,ai _,ai _,trivial⟩
  case hop=>
   constructor
   ·rintro-w5 D5;exact an (ax (v:=.slice _ _ _) rfl) rfl
   constructor
   ·rintro-w6 D6;exact an (ax (v:=.int _ _) rfl) rfl
   constructor
   ·rintro-w7 D7;rintro _ rfl _ rfl;exact an (aL dI rfl rfl (by omega)) rfl
   constructor
   ·rintro-w8 D8;rintro _ rfl;exact an (bD (cs:=afV fs[i]) dH cJ rfl (c8 (hB.next D8) hce)) rfl
   constructor
   ·rintro-w9 D9;exact an (ax (v:=.slice _ _ _) rfl) rfl
   constructor
   ·rintro-w10 D10;exact an (ax (v:=.int _ _) rfl) rfl
   constructor
   ·rintro-w11 D11;rintro _ rfl _ rfl;exact an (aL dI rfl rfl (by omega)) rfl
   constructor
   ·rintro-w12 D12;rintro _ rfl;exact an (bD (cs:=afV gs[i]) dH cJ rfl (c8 (hB.next D12) hcf)) rfl
   constructor
   ·rintro-w13 D13;rintro v13_20 rfl v13_24 rfl;refine fX n9 ((mL fs[i] gs[i] _ ((hal _ (List.getElem_mem hia)).1.from_ (hB.next D13)) ((hbl _ (List.getElem_mem hib)).1.from_ (hB.next D13)) (hsm _ (List.getElem_mem hia))).mono ?_);rintro v _ ⟨rfl,E13'⟩;exact ⟨E13',rfl⟩
   constructor
   ·rintro-w14 D14;rintro _ rfl;exact an (bJ rfl) rfl
   exact trivial
  case hend=>
   intro w15 D15;rintro _ rfl _ rfl _ rfl v20 rfl _ rfl _ rfl _ rfl v24 rfl _ rfl _ rfl;show St ..;refine ah (ae (ay rfl (fun Q16=>?_) (fun Q16=>?_)))
   ·with_reducible (replace Q16:=fB Q16;replace Q16:=dF_ Q16)
    refine ag (ab (asb rfl (ah (ae (aA (bK (aF (aF (bK (aF (bm (v:=.bool _) rfl rfl (⟨congrArg Value.bool ?_,(hB.next D15)⟩))))))))))));symm;rw [decide_eq_false_iff_not];intro e;have h9:(fs.map afB)[i]? =(gs.map afB)[i]? :=by rw [e]
    rw [List.getElem?_map,List.getElem?_map,List.getElem?_eq_getElem hia,List.getElem?_eq_getElem hib] at h9
    simp_all
   with_reducible (replace Q16:=fC Q16;replace Q16:=dT_ Q16)
   have heq:afB fs[i]=afB gs[i]:=by simpa using Q16
   refine aD (aN (ae (ab (mvi rfl (aa (br (b:=1) rfl rfl (by omega)) (asi rfl (ah ?_)))))));refine bn (i+1) ⟨(by first | rfl | (refine bS ?_;omega)),trivial⟩ (by (iterate 35 refine aP rfl ?_);exact aX) ⟨?_,?_⟩
   ·exact ⟨by omega,lU (by rw [List.length_map];omega) (by rw [List.length_map];omega) ht (by rw [List.getElem_map,List.getElem_map];simpa using heq),(hB.next D15)⟩
   ·show fs.length-(i+1)<fs.length-i;omega
 refine bQ (aU (aU (bz (ae (ag (ab (asb rfl (ah (ae (aA (bm (v:=.bool _) rfl rfl (⟨congrArg Value.bool ?_,hB⟩))))))))))));symm;rw [decide_eq_true_iff];exact py (k:=i) (by rw [List.length_map,List.length_map];omega) (by rw [List.length_map];omega) ht
theorem jr {U:Nat→Prop} {w w':World} {d fu N:Nat} {D:List Fe} {off:Bool} (_:cQ w' (Nx U w w') d D fu off) (hU:∀ k,U k→N≤k) (hz:N≤w.heap.size):∀ k,Nx U w w' k→N≤k:=fun k hk=>hk.elim (hU k) fun h=>Nat.le_trans hz h.1
theorem dr (A:Option Addr) (c:Nat) (l:List Nat) (w:World) (hr:cP bV w A l) (hl:l.length*1≤140737488351232) :
 Rt prog 21 [.slice A l.length c] w (fun v w'=>∃ A' c',v=.slice A' l.length c'∧w'.ownsRow w.heap.size 5 1 v l.length (l.map bV)∧ak w w'):=by
 refine enter (n:=19) Try.func21 rfl rfl rfl (ag (ab (ass rfl (ah (ae (ag (ab (ass rfl (ah (ae (ag (ag (ab (asi rfl (ah (ae (a7 (cO (G:=Nat×Option Addr×Nat) [5,6,7,8,9,10,11,12,13,14,15,16,17] (fun g=>[(3,.slice g.2.1 g.1 g.2.2),(4,.int .i64 (g.1:Nat))]) (fun g w'=>g.1≤l.length∧w'.ownsRow w.heap.size 5 1 (.slice g.2.1 g.1 g.2.2) g.1 ((l.take g.1).map bV)∧ak w w') (fun g=>l.length-g.1) ((0,none,0)) ⟨rfl,rfl,trivial⟩ ?_ ?_))))))))))))))))))
 ·exact ⟨Nat.zero_le _,World.ownsRow_nil _ _ _ _,ak.rfl_⟩
 rintro ⟨k,A3,c3⟩ ρ1 w1 ⟨hk,ho,hB⟩;simp only at hk ho;refine ag (ag (ab (mvi rfl (mvs rfl (aa (aQ bo rfl) (aa (bY rfl rfl) (ah (ae (qu rfl (fun Q2=>?_) (fun Q2=>?_))))))))))
 ·obtain ⟨ba,oa,rfl,ca⟩:=hr (by omega);refine aD (ae (ag (a7 (ab (mvs rfl (mvs rfl (mvi rfl (aa (cY db rfl rfl (by omega)) (aa (ar gC rfl (by first | (exact cS hB (ca k (by omega))))) ?_)))))))));refine e_ (v:=.int _ _) de rfl rfl rfl ?_;intro b16 w3 E16 hb16 hk16;refine kv (a0:=w) de rfl rfl (ho.kept_from E16) (hB.next E16) rfl hk16 rfl (by omega) (by omega) ?_;intro A17 c17 w4 ho17 B17 hg17;refine ass rfl (ah (aN (ae (ab (mvi rfl (aa (eS rfl rfl (by omega)) (asi rfl (ah ?_))))))));refine bn ((k+1,A17,c17)) ⟨(by first | rfl | (refine bS ?_;omega)),(by first | rfl | (refine bS ?_;omega)),trivial⟩ (by (iterate 30 refine aP rfl ?_);exact aX) ⟨?_,?_⟩
  ·exact ⟨by simp only;omega,by rw [jE bV (by omega)];exact ho17,B17⟩
  ·simp only;omega
 refine bQ (aU (aU (bz (ae (ag (ab (mvs rfl (ass rfl (ah (ae (aA (bm (v:=.slice _ _ _) rfl rfl ?_))))))))))));obtain rfl:k=l.length:=by omega
 exact ⟨A3,c3,rfl,by rwa [List.take_length] at ho,hB⟩
abbrev nA:ByteArray:=⟨#[97]⟩
abbrev nB:ByteArray:=⟨#[98]⟩
abbrev iG:List Nat:=[111,108,100]
theorem jl:okN nA=true:=by decide
theorem gl:okN nB=true:=by decide
theorem p_:sLt nA nB:=by
 unfold sLt;rw [Lib.toList_data,Lib.toList_data];decide
theorem pQ {A B:Option Addr} {ca cb:Nat} {bs:List Nat} (h:bs.length≤10000):nG [⟨nA,A,ca,bs⟩,⟨nB,B,cb,iG⟩]:=⟨by show 2≤16;omega,fun j hj=>by
 match j,hj with
 |0,_=>exact ⟨jl,by show bs.length≤1048576;omega,fun h=>absurd h (Nat.lt_irrefl _)⟩
 |1,_=>exact ⟨gl,by show iG.length≤1048576;decide,fun _=>p_⟩⟩
theorem qf {bs:List Nat}:opE [(nA,bs,bs),(nB,iG,iG)] (okN nA&&okN nB) 0 false nA=0:=by rw [jl,gl];rfl
theorem qC {bs:List Nat}:c6 [(nA,bs,bs),(nB,iG,iG)] 0 false nA nB=[(nB,bs,bs)]:=by
 unfold c6 dp;rw [if_pos qf,if_neg (by decide)];rfl
theorem po {bs:List Nat}:dp [(nB,bs,bs)] 0 false nA nB=3:=by unfold dp;rw [jl,gl];rfl
theorem qe {bs:List Nat}:c6 [(nB,bs,bs)] 0 false nA nB=[(nB,bs,bs)]:=by unfold c6;rw [po,if_neg (by decide)]
theorem pj {bs:List Nat}:dp [(nB,bs,bs)] 0 false nB nB=0:=by unfold dp;rw [gl];rfl
theorem qd {bs:List Nat}:c6 [(nB,bs,bs)] 0 false nB nB=[(nB,bs,bs)]:=by unfold c6;rw [pj,if_pos rfl,if_pos rfl]
theorem ph {bs:List Nat}:opE [(nB,bs,bs)] (okN nA) 0 false nA=3:=by rw [jl];rfl
theorem qb {bs:List Nat}:fb [(nB,bs,bs)] 0 false nA=[(nB,bs,bs)]:=by unfold fb;rw [ph,if_neg (by decide)]
theorem pg {bs:List Nat}:opE [(nB,bs,bs)] (okN nB) 0 false nB=0:=by rw [gl];rfl
theorem qa {bs:List Nat}:fb [(nB,bs,bs)] 0 false nB=[]:=by unfold fb;rw [pg,if_pos rfl];rfl
theorem qB:dw [] false nB=3:=by unfold dw;rw [gl];rfl
theorem qD {bs:List Nat} {ps:List Int}:cf [(nB,bs,bs)] ps=[(nB,bs)]:=by unfold cf;rw [if_pos rfl];rfl
theorem nz:eJ true 0 false=false:=rfl
theorem nC:fuB true 0=0:=rfl
abbrev nmF:ByteArray:=⟨#[102]⟩
abbrev syF:List Nat:=[115,121,110,99,101,100]
structure qM (bs bb:List Nat):Prop where
 len:bb.length=6∨bb.length=6+bs.length
 hd:bb.take 6=syF
 tl:∀ k (h:k<bb.length),6≤k→bb[k]=0∨(∃ h2:k-6<bs.length,bb[k]=bs[k-6])
theorem pO {gs:List Af} {nm:ByteArray} {bb:List Nat} (h:gs.map afB=[(nm,bb)]):∃ g,gs=[g]∧g.nm=nm∧g.bs=bb:=by
 match gs,h with
 |[g],h=>
  simp only [List.map_cons,List.map_nil,List.cons.injEq,and_true] at h;exact ⟨g,rfl,congrArg Prod.fst h,congrArg Prod.snd h⟩
theorem jA:fm prog 25=some true:=by kernel_rfl
theorem jx:cL prog 25=some 2:=by kernel_rfl
theorem j8:aK prog 7=true:=by kernel_rfl
theorem jz:fm prog 37=some true:=by kernel_rfl
theorem ft:cL prog 37=some 6:=by kernel_rfl
theorem jy:iO prog 37=some (.agg #[.int .i64 0,.string ⟨#[]⟩,.string ⟨#[]⟩,.int .i64 0,.slice none 0 0,.slice none 0 0]):=by kernel_rfl
theorem eG:aK prog 21=true:=by kernel_rfl
theorem eZ:∀ (a0:Option Addr) (a1 a2:Nat),prog.built 53 [(0,.string ⟨#[97]⟩),(1,.slice a0 a1 a2)]=some #[.string ⟨#[97]⟩,.slice a0 a1 a2]:=by intros;kernel_rfl
theorem df:∀ (a0:Option Addr) (a1 a2:Nat),prog.built 53 [(0,.string ⟨#[98]⟩),(1,.slice a0 a1 a2)]=some #[.string ⟨#[98]⟩,.slice a0 a1 a2]:=by intros;kernel_rfl
theorem dK:aK prog 14=true:=by kernel_rfl
theorem eH:aK prog 16=true:=by kernel_rfl
theorem lQ:aK prog 25=true:=by kernel_rfl
theorem eI:aK prog 15=true:=by kernel_rfl
theorem dJ:aK prog 19=true:=by kernel_rfl
theorem fv:aK prog 23=true:=by kernel_rfl
theorem mn {P:Program} {ops:Array Oper} {Q:Exit→Act→World→Prop} {rest:List Oper} {n:Fr} {L:List (Nat×Value)} {w:World} {d t e by_:Nat} {x y:Operand} {ty:TypeId} {pos:String} {after:Array Edge} {z v v' z0 z1 u0 u1 u2 u3:Value} (hq:dq P t=some (e,2,by_,z)) (hz:z.cells=#[z0,z1]) (hx:ev n L x=v) (hy:ev n L y=v') (hv:v.cells=#[u0,u1]) (hv':v'.cells=#[u2,u3])
 (k:∀ g w',ak w w'→g=w.heap.size→Blk w' g e #[u0,u1,u2,u3]→St P ops Q rest n ((d,.slice (some ⟨g,0,none⟩) 2 2)::L) w'):St P ops Q (⟨some d,.buildSlice t 2 #[(0,x),(1,y)],ty,pos,after,none⟩::rest) n L w:=by
 refine iU (l:=[(0,x),(1,y)]) (cells:=#[u0,u1,u2,u3]) hq rfl rfl ?_ k
 have e1:(Array.range (2*2)).map (z.cells[·%z.cells.size]!)=#[z0,z1,z0,z1]:=by
  rw [hz,show Array.range (2*2)=#[0,1,2,3] from rfl];simp
 rw [e1];simp [Instr.fill,hx,hy,hv,hv']
theorem ow {w:World} {b:Nat} {x y:Af} (h:Blk w b 53 #[.string x.nm,.slice x.A x.bs.length x.c,.string y.nm,.slice y.A y.bs.length y.c]):da 2 afV w (some ⟨b,0,none⟩) [x,y]:=fun _=>⟨b,0,rfl,fun i hi=>by
 match i,hi with
 |0,_=>exact h.range 0 _ (fun j v hj=>by
   match j,hj with
   |0,hj=>exact hj
   |1,hj=>exact hj
   |j+2,hj=>simp [afV] at hj)
 |1,_=>exact h.range 2 _ (fun j v hj=>by
   match j,hj with
   |0,hj=>exact hj
   |1,hj=>exact hj
   |j+2,hj=>simp [afV] at hj)
 |i+2,hi=>have:i+2<2:=hi;omega⟩
theorem ox {w:World} {b:Nat} {x:Af} (h:Blk w b 53 #[.string x.nm,.slice x.A x.bs.length x.c]):da 2 afV w (some ⟨b,0,none⟩) [x]:=fun _=>⟨b,0,rfl,fun i hi=>by match i,hi with | 0,_=>exact h.whole⟩
theorem mM {b b2:Nat} {A:Option Addr} {c:Nat} {xs:List Nat} (w:World) (hx:RB w A c xs) (ho:RB w (some ⟨b2,0,none⟩) 3 iG) (hl:xs.length≤10000) (hb:Blk w b 53 #[.string nA,.slice A xs.length c,.string nB,.slice (some ⟨b2,0,none⟩) 3 3]):Rt prog 8 [.slice (some ⟨b,0,none⟩) 2 2] w fun v w'=>(∃ d,v=.tuple #[.pointer (some ⟨d,0,none⟩),.int .i64 0]∧cQ w' (fun k=>w.heap.size≤k) d [(nA,xs,xs),(nB,iG,iG)] 0 false)∧ak w w':=
 (jk (some ⟨b,0,none⟩) 2 2 [⟨nA,A,c,xs⟩,⟨nB,some ⟨b2,0,none⟩,3,iG⟩] w (ow hb) rfl (fun f hf=>by
  rcases List.mem_cons.1 hf with rfl | hf
  ·exact ⟨hx,by show nA.size≤_;decide,by show xs.length≤_;omega⟩
  ·rw [List.mem_singleton.1 hf];exact ⟨ho,by show nB.size≤_;decide,by show iG.length≤_;decide⟩)).mono fun v w' h=>by
  obtain ⟨h,hF⟩:=h;rcases h with ⟨h,_⟩ | ⟨_,d,rfl,hd⟩
  ·exact absurd (pQ hl) h
  ·exact ⟨⟨d,rfl,hd⟩,hF⟩
theorem jF (A B:Option Addr) (ca cb:Nat) (fs:List Af) (L:List Ak) (w:World) (ha:lS w A B fs L) :
 Rt prog 6 [.agg #[.slice A fs.length ca,.slice B L.length cb]] w (fun v w'=>v=.bool true∧ak w w'):=by
 have hlF:=ha.lenF;have hlL:=ha.lenL;refine enter (n:=122) Try.func6 rfl rfl rfl (ag (ab (eP (v:=.agg _) rfl ?_)));intro b1 w1 E1 hb1 hk1;refine asb rfl (ah (ae (ag (ag (ab (aa (bD (cs:=[_,_]) jA jx rfl (by exact (hk1.from_ ak.rfl_).whole)) ?_))))));refine ao j8 (kL A B ca cb fs L _ (ha.from_ (ak.rfl_.next E1))) ?_;rintro v13 w2 ⟨⟨hv,rfl,hli⟩,E13⟩;replace hk1:=hk1.from_ E13;refine ah (ae (ay rfl (fun Q3=>?_) (fun Q3=>?_)))
 ·refine ag (ab (asb rfl (ah (ae (aA (aF (bm (v:=.bool _) rfl rfl (⟨rfl,((ak.rfl_.next E1).next E13)⟩))))))))
 refine aD (ae (ag (ag (ab (asi rfl (ah (ae (a7 (cO (G:=Nat) (2::4::5::6::7::8::9::10::11::14::15::16::17::18::19::20::21::22::23::24::25::26::27::28::29::30::31::32::33::34::35::36::37::38::39::40::41::42::43::44::45::46::47::48::49::50::51::52::53::54::55::56::57::58::59::60::61::62::63::64::65::66::67::68::69::70::71::72::73::74::75::76::77::78::79::80::81::82::83::84::85::86::87::88::89::90::91::92::93::94::95::96::97::98::99::100::101::102::103::104::105::106::107::108::109::110::111::112::113::114::115::116::117::118::119::120::[]) (fun i=>[(3,.int .i64 (i:Nat))]) (fun i w'=>i≤L.length∧Blk w' b1 25 #[.slice A fs.length ca,.slice B L.length cb]∧ak w w') (fun i=>L.length-i) (0) ⟨rfl,trivial⟩ ?_ ?_)))))))))
 ·exact ⟨Nat.zero_le _,hk1.from_ ak.rfl_,((ak.rfl_.next E1).next E13)⟩
 rintro i ρ4 w4 ⟨hi,hP,hB⟩;refine ag (ag (ab (mvi rfl (aa (aj bC rfl) (aa (ar b8 rfl (by exact (hP.from_ ak.rfl_).rd 1 rfl)) ?_)))));refine aa (aQ eO rfl) (aa (bY rfl rfl) (mvb rfl (p3 (t:=19) rfl (fun Q5=>?_) (fun Q5=>?_))))
 ·refine af rfl (mvi rfl (af rfl (aa (bY rfl rfl) (aa (aE (v:=.bool _) rfl rfl) (ah (ae (qu rfl (fun Q6=>?_) (fun Q6=>?_))))))))
  ·have hil:i<L.length:=by omega
   obtain ⟨bL,oL,rfl,hcL⟩:=ha.rowL (by omega);have hce:=hcL i hil;have hok:=ha.okL _ (List.getElem_mem hil);have hxl:=(hli (by first | assumption | simp_all)).2.2 i hil (by omega);refine aD (ae (ag (a7 (ag (ab (aa (aj bC rfl) (aa (ar b8 rfl (by exact (hP.from_ ak.rfl_).rd 1 rfl)) ?_)))))));refine mvi rfl (aa (aL dh rfl rfl (by omega)) (aa (bD (cs:=[_,_,_,_,_,_]) jz ft rfl (by exact c8 hB hce)) ?_));refine dS jy ?_;intro b4 w7 E4 hb4 hk4;have hg4:w.heap.size≤b4:=by rw [hb4];exact (hB).size
   refine eM (vs:=[_,_,_,_,_,_]) ft rfl rfl (by simp [Value.oneCell']) (hk4) rfl ?_;intro w8 O6 P6;replace hP:=(hP.from_ E4).only O6 (by have:=hP.lt;omega);refine ah (ae (ag (ab (aa (aj cq rfl) (aa (ar aJ rfl (by exact (P6.from_ ak.rfl_).rd 4 rfl)) ?_)))));refine ao eG (dr L[i].X L[i].xc L[i].xs _ (hok.rx.from_ ((hB.next E4).only O6 (hg4))).row (by omega)) ?_;rintro v33 w9 ⟨A33,c33,rfl,ho33,E33⟩;refine aa (cx (l:=[(0,.const (.string ⟨#[97]⟩)),(1,.tmp 33)]) (eZ _ _ _)) ?_;have hM35:ak _ w9:=(ak.rfl_.next E33);have hB35:ak w w9:=(((hB.next E4).only O6 (hg4)).next E33);refine gG [.const (.int .u8 111),.const (.int .u8 108),.const (.int .u8 100)] [.int .u8 111,.int .u8 108,.int .u8 100] de rfl rfl rfl rfl (by simp [Value.cells]) ?_;intro b35 w10 E35 hb35 hk35;refine gH (l:=iG) eX fx rfl hk35 (by decide) (by decide) ?_;intro w11 O36 hr36;refine aa (cx (l:=[(0,.const (.string ⟨#[98]⟩)),(1,.tmp 36)]) (df _ _ _)) (mn bR rfl rfl rfl rfl rfl ?_);intro b38 w12 E38 hb38 hk38;have hr39:=hr36.from_ E38;have E38x:=(E35.only O36 (by rw [hb35];exact Nat.le_refl _)).next E38;obtain ⟨N,hN⟩:∃ N,N=(w12).heap.size:=⟨_,rfl⟩;have hNw:w.heap.size≤N:=by rw [hN];exact ((((((((hB.next E4).only O6 (hg4)).next E33).next E35)).only O36 (by rw [hb35];exact hB35.size)).next E38)).size
   have hP39:=hP.from_ ((((((ak.rfl_.next E33).next E35)).only O36 (by rw [hb35];exact hM35.size)).next E38));have Q39:=P6.from_ ((((((ak.rfl_.next E33).next E35)).only O36 (by rw [hb35];exact hM35.size)).next E38));have hNb:b1<N:=by rw [hN];exact hP39.lt
   have hNc:b4<N:=by rw [hN];exact Q39.lt
   refine ao dL (mM _ ((RB.own (l:=L[i].xs) ho33 hok.rx.bt).2.from_ E38x) hr39 hxl.1 hk38) ?_;rintro v39 w13 ⟨⟨d,rfl,hd39⟩,E39⟩;rw [←hN] at hd39;have hU39:∀ k,(fun k=>N≤k) k→N≤k:=fun k hk=>hk
   have hz39b:N≤(w13).heap.size:=by rw [hN];exact E39.size
   replace hP:=hP39.from_ E39;replace P6:=Q39.from_ E39;refine mvt rfl (aa (aq rfl rfl) (aa (aq rfl rfl) (asp rfl (asi rfl (ah (ae (ag (ag (ab (mvi rfl (ao aH (aY _ _) ?_)))))))))));rintro v43 w14 ⟨rfl,rfl⟩;refine aa (bw (bc rfl rfl) (bne_self_eq_false _)) (mvb rfl (af rfl (mvp rfl (af rfl (aa (bw (ej (by kernel_rfl) rfl rfl) rfl) (aa (az (v:=.bool _) rfl rfl) (mvb rfl (af rfl ?_))))))));refine mvp rfl (af rfl ?_);have hP51:=hP.from_ (ak.rfl_);have Q51:=P6.from_ (ak.rfl_);have hz51:N≤(w13).heap.size:=Nat.le_trans hz39b (ak.rfl_).size;refine ao dK (ek _ d _ _ _ _ (hd39.from_ ak.rfl_) nA (by decide) nB (by decide)) ?_;rintro v51 w15 ⟨rfl,hd51,hC51⟩;have hU51:=jr hd51 hU39 hz51;replace hP:=hP51.chg hC51 (fun h=>by have h3:=hU39 _ h;omega);replace P6:=Q51.chg hC51 (fun h=>by have h3:=hU39 _ h;omega);rw [show dp _ _ _ _ _=0 from qf];rw [qC,jl,gl,Bool.and_self,nC,nz] at hd51;have hz51b:N≤(w15).heap.size:=Nat.le_trans hz51 hC51.size;refine af rfl (ao aH (aY _ _) ?_);rintro v52 w16 ⟨rfl,rfl⟩;refine af rfl (aa (bw (bc rfl rfl) rfl) (aa (az (v:=.bool _) rfl rfl) (ah (ae (bI rfl (aD (ae (ag (ab (mvp rfl (aa (aj cn rfl) (aa (ar cV rfl (by exact (P6.from_ ak.rfl_).rd 5 rfl)) ?_))))))))))));have hM58:ak _ w15:=ak.rfl_;have hP58:=hP.from_ hM58;have Q58:=P6.from_ hM58;have hd51p:=hd51.from_ hM58;refine ao eH (fN _ d _ _ _ _ (hd51.from_ ak.rfl_) L[i].Y L[i].yc _ L[i].ys (hok.ry.from_ ((((((((((hB.next E4).only O6 (hg4)).next E33).next E35)).only O36 (by rw [hb35];exact hB35.size)).next E38).next E39)).chg hC51 (fun k hk=>Nat.le_trans hNw (hU39 k hk)))) rfl hok.cy.1 hok.cy.2 hok.fy (fun e he=>by first | (cases he;done) | (rw [List.mem_singleton.1 he];show nB.size≤_;decide))) ?_;rintro v58 w17 ⟨⟨A58,c58,n58,gs,rfl,hn58,hgs,ho58,hown⟩,E58⟩;rw [qD] at hgs;obtain ⟨g,rfl,hg1,hg2⟩:=pO hgs;subst hn58;have hd58:=hd51p.from_ E58;have hU58:=hU51;have hz58b:N≤(w17).heap.size:=Nat.le_trans hz51b (Nat.le_trans hM58.size E58.size);replace hP:=hP58.from_ E58;replace P6:=Q58.from_ E58;refine ass rfl (ah (ae (ag (ag (ab (mvs rfl (aa (aj cq rfl) (aa (ar aJ rfl (by exact (P6.from_ ak.rfl_).rd 4 rfl)) ?_))))))));refine aa (cx (l:=[(0,.const (.string ⟨#[98]⟩)),(1,.tmp 61)]) (df _ _ _)) (fH bR rfl rfl rfl ?_);intro b63 w18 E63 hb63 hk63;refine ao lQ (lI A58 (some ⟨b63,0,none⟩) c58 1 [g] [⟨nB,L[i].X,L[i].xc,L[i].xs⟩] _ ((da.own fo (by decide) ho58).2.from_ (ak.rfl_.next E63)) (ox hk63) (fun f hf=>by rw [List.mem_singleton.1 hf];exact (hown g (List.mem_singleton_self _)).ok.from_ (ak.rfl_.next E63)) (fun f hf=>by rw [List.mem_singleton.1 hf];exact ⟨hok.rx.from_ ((((((((((((hB.next E4).only O6 (hg4)).next E33).next E35)).only O36 (by rw [hb35];exact hB35.size)).next E38).next E39)).chg hC51 (fun k hk=>Nat.le_trans hNw (hU39 k hk))).next E58).next E63),by show nB.size≤_;decide,by show L[i].xs.length≤_;omega⟩) (by show 1≤_;omega) (fun f hf=>by rw [List.mem_singleton.1 hf,show g.bs=L[i].xs from hg2];omega)) ?_;rintro v64 w19 ⟨rfl,E64⟩;refine aa (bw (bJ rfl) (by simp [afB,hg1,hg2])) ?_;refine mvb rfl (af rfl (mvp rfl (af rfl ?_)));have hP68:=hP.from_ (((ak.rfl_.next E63).next E64));have Q68:=P6.from_ (((ak.rfl_.next E63).next E64));have hz68:N≤(w19).heap.size:=Nat.le_trans hz58b (((ak.rfl_.next E63).next E64)).size;refine ao dK (ek _ d _ _ _ _ (hd58.from_ ((ak.rfl_.next E63).next E64)) nA (by decide) nB (by decide)) ?_;rintro v68 w20 ⟨rfl,hd68,hC68⟩;have hU68:=jr hd68 hU51 hz68;replace hP:=hP68.chg hC68 (fun h=>by have h3:=hU51 _ h;omega);replace P6:=Q68.chg hC68 (fun h=>by have h3:=hU51 _ h;omega);rw [po];rw [qe,jl,gl,Bool.and_self,nC,nz] at hd68;have hz68b:N≤(w20).heap.size:=Nat.le_trans hz68 hC68.size;refine af rfl (ao aH (aY _ _) ?_);rintro v69 w21 ⟨rfl,rfl⟩;refine af rfl (aa (bw (bc rfl rfl) rfl) (aa (az (v:=.bool _) rfl rfl) (mvb rfl (af rfl (mvp rfl (af rfl ?_))))));have hP74:=hP.from_ (ak.rfl_);have Q74:=P6.from_ (ak.rfl_);have hz74:N≤(w20).heap.size:=Nat.le_trans hz68b (ak.rfl_).size;refine ao dK (ek _ d _ _ _ _ (hd68.from_ ak.rfl_) nB (by decide) nB (by decide)) ?_;rintro v74 w22 ⟨rfl,hd74,hC74⟩;have hU74:=jr hd74 hU68 hz74;replace hP:=hP74.chg hC74 (fun h=>by have h3:=hU68 _ h;omega);replace P6:=Q74.chg hC74 (fun h=>by have h3:=hU68 _ h;omega);rw [pj];rw [qd,gl,Bool.and_self,nC,nz] at hd74;have hz74b:N≤(w22).heap.size:=Nat.le_trans hz74 hC74.size;refine af rfl (ao aH (aY _ _) ?_);rintro v75 w23 ⟨rfl,rfl⟩;refine af rfl (aa (bw (bc rfl rfl) rfl) (aa (az (v:=.bool _) rfl rfl) (mvb rfl (af rfl (mvp rfl (af rfl ?_))))));have hP80:=hP.from_ (ak.rfl_);have Q80:=P6.from_ (ak.rfl_);have hz80:N≤(w22).heap.size:=Nat.le_trans hz74b (ak.rfl_).size;refine ao eI (eT _ d _ _ _ _ (hd74.from_ ak.rfl_) nA (by decide)) ?_;rintro v80 w24 ⟨rfl,hd80,hC80⟩;have hU80:=jr hd80 hU74 hz80;replace hP:=hP80.chg hC80 (fun h=>by have h3:=hU74 _ h;omega);replace P6:=Q80.chg hC80 (fun h=>by have h3:=hU74 _ h;omega);rw [ph];rw [qb,jl,nC,nz] at hd80;have hz80b:N≤(w24).heap.size:=Nat.le_trans hz80 hC80.size;refine af rfl (ao aH (aY _ _) ?_);rintro v81 w25 ⟨rfl,rfl⟩;refine af rfl (aa (bw (bc rfl rfl) rfl) (aa (az (v:=.bool _) rfl rfl) (mvb rfl (af rfl (mvp rfl (af rfl ?_))))));have hP86:=hP.from_ (ak.rfl_);have Q86:=P6.from_ (ak.rfl_);have hz86:N≤(w24).heap.size:=Nat.le_trans hz80b (ak.rfl_).size;refine ao eI (eT _ d _ _ _ _ (hd80.from_ ak.rfl_) nB (by decide)) ?_;rintro v86 w26 ⟨rfl,hd86,hC86⟩;have hU86:=jr hd86 hU80 hz86;replace hP:=hP86.chg hC86 (fun h=>by have h3:=hU80 _ h;omega);replace P6:=Q86.chg hC86 (fun h=>by have h3:=hU80 _ h;omega);rw [pg];rw [qa,gl,nC,nz] at hd86;have hz86b:N≤(w26).heap.size:=Nat.le_trans hz86 hC86.size;refine af rfl (ao aH (aY _ _) ?_);rintro v87 w27 ⟨rfl,rfl⟩;refine af rfl (aa (bw (bc rfl rfl) rfl) (aa (az (v:=.bool _) rfl rfl) (ah (ae (bI rfl (aD (ae (ag (ab (mvp rfl (ao dJ (fY _ d _ _ _ _ (hd86.from_ ak.rfl_)) ?_)))))))))));rintro v92 w28 ⟨⟨A92,c92,n92,rfl,hn92,ho92⟩,E92⟩;obtain rfl:n92=0:=hn92;refine mvt rfl (aa (aq rfl rfl) (aa (aq rfl rfl) (ass rfl (asi rfl (ah (ae (ag (ab (mvp rfl (ao cT (fc _ d _ _ _ _ (hd86.from_ (ak.rfl_.next E92)) nB (by decide)) ?_))))))))));rintro v97 w29 ⟨⟨A97,c97,rfl,ho97⟩,E97⟩;rw [qB];refine mvt rfl (aa (aq rfl rfl) (aa (aq rfl rfl) (ass rfl (asi rfl (ah (ae (ag (ab (mvi rfl (ao aH (aY _ _) ?_))))))))));rintro v101 w30 ⟨rfl,rfl⟩;refine aa (bw (bc rfl rfl) rfl) (mvb rfl (af rfl (mvs rfl (af rfl (aa (aQ eY rfl) (af rfl (aa (bw (bZ rfl rfl) rfl) (aa (az (v:=.bool _) rfl rfl) ?_))))))));refine mvb rfl (af rfl (mvp rfl (af rfl (aa (aj cn rfl) (af rfl (aa (ar cV rfl (by exact (P6.from_ ((ak.rfl_.next E92).next E97)).rd 5 rfl)) ?_))))));refine af rfl (ao eH (fN _ d _ _ _ _ (hd86.from_ ((ak.rfl_.next E92).next E97)) L[i].Y L[i].yc _ L[i].ys (hok.ry.from_ (((((((((((((((((((((((hB.next E4).only O6 (hg4)).next E33).next E35)).only O36 (by rw [hb35];exact hB35.size)).next E38).next E39)).chg hC51 (fun k hk=>Nat.le_trans hNw (hU39 k hk))).next E58).next E63).next E64)).chg hC68 (fun k hk=>Nat.le_trans hNw (hU51 k hk)))).chg hC74 (fun k hk=>Nat.le_trans hNw (hU68 k hk)))).chg hC80 (fun k hk=>Nat.le_trans hNw (hU74 k hk)))).chg hC86 (fun k hk=>Nat.le_trans hNw (hU80 k hk))).next E92).next E97)) rfl hok.cy.1 hok.cy.2 hok.fy (fun e he=>by first | (cases he;done) | (rw [List.mem_singleton.1 he];show nB.size≤_;decide))) ?_);rintro v112 w31 ⟨⟨A112,c112,n112,gs,rfl,hn112,hgs,ho112,hown⟩,E112⟩;obtain rfl:gs=[]:=List.map_eq_nil_iff.1 hgs;subst hn112;refine af rfl (aa (aQ bP rfl) (af rfl (aa (bw (bZ rfl rfl) rfl) (aa (az (v:=.bool _) rfl rfl) (mvb rfl (af rfl (mvi rfl (af rfl ?_))))))));refine ao aH (aY _ _) ?_;rintro v118 w32 ⟨rfl,rfl⟩;refine af rfl (aa (bw (bc rfl rfl) rfl) (aa (az (v:=.bool _) rfl rfl) (ah (ae (bI rfl (aD (aN (ae (ab (mvi rfl (aa (br (b:=1) rfl rfl (by omega)) (asi rfl ?_))))))))))));refine ah ?_;refine bn (i+1) ⟨(by first | rfl | (refine bS ?_;omega)),trivial⟩ (by (iterate 234 refine aP rfl ?_);exact aX) ⟨?_,?_⟩
   ·exact ⟨by omega,hP.from_ (((ak.rfl_.next E92).next E97).next E112),((((((((((((((((((((((((hB.next E4).only O6 (hg4)).next E33).next E35)).only O36 (by rw [hb35];exact hB35.size)).next E38).next E39)).chg hC51 (fun k hk=>Nat.le_trans hNw (hU39 k hk))).next E58).next E63).next E64)).chg hC68 (fun k hk=>Nat.le_trans hNw (hU51 k hk)))).chg hC74 (fun k hk=>Nat.le_trans hNw (hU68 k hk)))).chg hC80 (fun k hk=>Nat.le_trans hNw (hU74 k hk)))).chg hC86 (fun k hk=>Nat.le_trans hNw (hU80 k hk))).next E92).next E97).next E112)⟩
   ·show L.length-(i+1)<L.length-i;omega
  refine bQ (aU (aU (bz (ae (ag (ab (ao fv (gE _) ?_)))))));rintro v121 w33 ⟨rfl,E121⟩;refine asb rfl (ah (ae (aA (bm (v:=.bool _) rfl rfl (⟨rfl,(hB.next E121)⟩)))))
 refine aC rfl rfl (aC rfl rfl (aa (az (v:=.bool _) rfl rfl) (ah (ae (bI rfl (bQ (aU (aU (bz (ae (ag (ab (ao fv (gE _) ?_)))))))))))));rintro v121 w34 ⟨rfl,E121⟩;refine asb rfl (ah (ae (aA (bm (v:=.bool _) rfl rfl (⟨rfl,(hB.next E121)⟩)))))
theorem jG (cs:Array Value) (x:mq.den) (w:World) (hs:cs.size=2) (h:mq.At w (fun j=>cs[j]?) x):Rt prog 6 [.agg cs] w fun v w'=>v=.bool true∧ak w w':=by
 obtain ⟨A,B,ca,cb,fs,L,rfl,ha⟩:=kY hs h;exact jF A B ca cb fs L w ha
theorem ir (os:Os) (started:os.Started) (H:Type) (enc:TypeId×Value→H) :
 ReturnsInHanded {} Try.checked os 6 .any (Rows.diskMovesSpec.pre6 enc prog Try.f6 Rows.diskMovesRow.domain false) (Rows.diskMovesSpec.post enc prog Try.f6 false true false false):=by
 refine returnsInHanded_of_change_sized (C:=Try.checked) Try.own started (by kernel_rfl) Try.func6
  (ChangeSpec.witness6 (enc:=enc) (C:=Try.checked) false ⟨#[],#[.agg #[.slice none 0 0,.slice none 0 0]],[]⟩ 8 (by kernel_rfl) (by kernel_rfl) (by kernel_rfl) (by kernel_rfl)) ?_
 intro W base args ds gs before hval hW _ hsz _;exact kG 6 Try.f6 25 4 Rows.diskMovesSpec Try.params6 (by kernel_rfl) Try.underlying4 rfl (fun _=>rfl) (by kernel_rfl) (dT_ (by kernel_rfl)) (iv (.sl kO) (.pr (.sl n7) .unit) (by kernel_rfl) jG) W base args ds gs before hval hW hsz
theorem DiskMoves_holds:Rows.DiskMovesSaid:=
 OpenClaim.holds_of_wide 6 Try.f6 rfl rfl rfl rfl rfl rfl rfl ⟨rfl,rfl,rfl,rfl,rfl⟩ rfl rfl rfl rfl rfl (by kernel_rfl) Try.func6 (by kernel_rfl)
  (dT_ (by kernel_rfl)) (by unfold Func.isWrapper;first | (rw [if_pos (by decide+kernel)];kernel_rfl) | (rw [if_neg (by decide+kernel)];exact ⟨rfl,rfl⟩))
  (fun os started H enc _=>ir os started H enc)
theorem k5:aK prog 35=true:=by kernel_rfl
theorem mi (i:Int) (n:Nat) (w:World) (hn:0<n∧n≤1000) :
 Rt prog 12 [.int .i64 i,.int .i64 (n:Nat)] w (fun v w'=>(∃ m:Nat,m<n∧v=.int .i64 (m:Nat))∧w=w'):=by
 obtain ⟨a,ha,ha2⟩:∃ a:Nat,IntKind.u64.wrap i=(a:Int)∧a<18446744073709551616:=⟨(IntKind.u64.wrap i).toNat,by rw [IntKind.wrap_u64];omega,by rw [IntKind.wrap_u64];omega⟩;have hm:a%n<n:=Nat.mod_lt _ hn.1;refine enter (n:=11) Try.func12 rfl rfl rfl (ag (ab (asi rfl (ah (ae (ag (ab (mvi rfl (aa (l3 jv im rfl) (eQ (t:=6) (v:=.int _ _) (v':=.int .u64 (a:Nat)) rfl (by rw [ha]) ?_))))))))));refine mvi rfl (aa (jO jv im rfl (by omega)) (aa (ni rfl rfl (by omega)) ?_));refine eQ (t:=9) (v:=.int _ _) (v':=.int .u64 ((a%n:Nat):Int)) rfl (by rw [Int.tmod_eq_emod_of_nonneg (by omega)];rfl) ?_;refine aa (kA j6 k6 rfl (by omega)) (asi rfl (ah (ae (aA (bm (v:=.int _ _) rfl rfl (⟨⟨a%n,hm,rfl⟩,rfl⟩))))))
theorem kT (x:Af) (w:World) (hr:RB w x.A x.c x.bs) (hl:x.bs.length≤140737488351232) :
 Rt prog 35 [.agg (afV x).toArray] w (fun v w'=>(∃ A' c',v=.agg (afV ⟨x.nm,A',c',x.bs⟩).toArray∧w'.ownsRow w.heap.size 5 1 (.slice A' x.bs.length c') x.bs.length (aR x.bs))∧ak w w'):=by
 obtain ⟨nm,XA,xc,bs⟩:=x;simp only at hr hl;refine enter (n:=10) Try.func35 rfl rfl rfl (ag (ab (eP (v:=.agg _) rfl ?_)));intro b1 w1 E1 hb1 hk1;have hl1:=hk1.lt;refine dS iq ?_;intro b2 w2 E2 hb2 hk2;replace hk1:=hk1.from_ E2;have hl2:=hk2.lt;have hg2:w.heap.size≤b2:=by rw [hb2];exact ((ak.rfl_.next E1)).size
 refine ah (ae (ag (ab (aa (bD (cs:=[_,_]) dH cJ rfl (by exact hk1.whole)) ?_))));refine dS iq ?_;intro b3 w3 E3 hb3 hk3;replace hk1:=hk1.from_ E3;replace hk2:=hk2.from_ E3;have hl3:=hk3.lt;have hg3:w.heap.size≤b3:=by rw [hb3];exact (((ak.rfl_.next E1).next E2)).size
 refine eM (vs:=[_,_]) cJ rfl rfl (by simp [Value.oneCell']) (hk3) rfl ?_;intro w4 O1 P1;replace hk1:=hk1.only O1 (by omega);replace hk2:=hk2.only O1 (by omega);refine ah (ae (ag (ab (aa (aj bT rfl) (aa (ar aJ rfl (by exact hk1.rd 1 rfl)) ?_)))));have hB7:ak w w4:=((((ak.rfl_.next E1).next E2).next E3).only O1 (hg3));refine ao eG (dr XA xc bs _ (hr.from_ ((((ak.rfl_.next E1).next E2).next E3).only O1 (hg3))).row (by omega)) ?_;rintro v7 w5 ⟨A7,c7,rfl,ho7,E7⟩;replace P1:=P1.from_ E7;replace hk2:=hk2.from_ E7;replace ho7:=c9 ho7 hB7.size;refine aa (aj bT rfl) (dy (v:=.slice _ _ _) fp rfl rfl rfl (P1) (by show 0+1<2;decide) ?_);intro w6 O2 P2;replace hk2:=hk2.only O2 (by omega);have P2b:Blk w6 b3 53 [.string nm,.slice A7 bs.length c7].toArray:=P2;replace ho7:=dz ho7 O2 (l5 ho7 P1 (by decide));refine ah (ae (ag (ab (aa (bD (cs:=[_,_]) dH cJ rfl (by exact P2b.whole)) ?_))));refine eM (vs:=[_,_]) cJ rfl rfl (by simp [Value.oneCell']) (hk2) rfl ?_;intro w7 O3 P3;replace ho7:=dz ho7 O3 (l5 ho7 hk2 (by decide));refine ah (ae (aA (p8 rfl (nd (cs:=[_,_]) dH cJ rfl (by exact P3.whole)) ?_)));exact ⟨⟨A7,c7,rfl,ho7⟩,(((((((ak.rfl_.next E1).next E2).next E3).only O1 (hg3)).next E7).only O2 (hg3)).only O3 (hg2))⟩
theorem fi (A:Option Addr) (c n:Nat) (L:List Af) (w:World) (hr:da 2 afV w A L) (hn:n=L.length) (hl:L.length≤1000) (hh:∀ f∈L,di w 0 f) :
 Rt prog 17 [.slice A n c] w (fun v w'=>(∃ (K:List Af) (A':Option Addr) (c':Nat),v=.slice A' K.length c'∧K.map afB=L.map afB∧w'.ownsRow w.heap.size 53 2 (.slice A' K.length c') K.length (K.flatMap afV)∧∀ f∈K,di w' w.heap.size f)∧ak w w'):=by
 subst hn;refine enter (n:=20) Try.func17 rfl rfl rfl (ag (ab (ass rfl (ah (ae (ag (ab (ass rfl (ah (ae (ag (ag (ab (asi rfl (ah (ae (a7 (cO (G:=Nat×Option Addr×Nat×List Af) [5,6,7,8,9,10,11,12,13,14,15,16,17,18] (fun (k,A3,c3,K)=>[(3,.slice A3 k c3),(4,.int .i64 (k:Nat))]) (fun (k,A3,c3,K) w'=>k≤L.length∧K.length=k∧K.map afB=(L.map afB).take k∧w'.ownsRow w.heap.size 53 2 (.slice A3 k c3) k (K.flatMap afV)∧(∀ f∈K,di w' w.heap.size f)∧ak w w') (fun (k,_,_,_)=>L.length-k) ((0,none,0,[])) ⟨rfl,rfl,trivial⟩ ?_ ?_))))))))))))))))))
 ·exact ⟨Nat.zero_le _,rfl,rfl,World.ownsRow_nil _ _ _ _,fun f h=>(by cases h),ak.rfl_⟩
 rintro ⟨k,A3,c3,K⟩ ρ1 w1 ⟨hk,hKk,hKm,ho,hcp,hB⟩;refine ag (ag (ab (mvi rfl (mvs rfl (aa (aQ bP rfl) (aa (bY rfl rfl) (ah (ae (qu rfl (fun Q2=>?_) (fun Q2=>?_))))))))))
 ·have hkL:k<L.length:=by omega
  obtain ⟨ba,oa,rfl,hcs⟩:=hr (by omega);have hx:=hh _ (List.getElem_mem hkL);refine aD (ae (ag (a7 (ab (mvs rfl (mvs rfl (mvi rfl (aa (aL dI rfl rfl (by omega)) (aa (bD (cs:=[_,_]) dH cJ rfl (by exact c8 hB (hcs k hkL))) ?_)))))))));have hB16:ak w w1:=hB;refine ao k5 (kT L[k] _ (hx.ok.1.from_ hB) (by have:=hx.2.2.2;omega)) ?_;rintro v16 w3 ⟨⟨A16,c16,rfl,ho16⟩,E16⟩;replace ho16:=c9 ho16 hB16.size;refine fH bR rfl rfl rfl ?_;intro b17 w4 E17 hb17 hk17;refine ei (a0:=w) (news:=afV (⟨L[k].nm,A16,c16,L[k].bs⟩:Af)) bR rfl (by decide) rfl (ho.kept_from (E16.next E17)) ((hB.next E16).next E17) rfl rfl (fun _=>⟨b17,0,rfl,hk17.whole⟩) (fun h=>by cases h) (gW (⟨L[k].nm,A16,c16,L[k].bs⟩:Af)) (by omega) (by omega) ?_;intro A18 c18 w5 ho18 B18 hg18;refine ass rfl (ah (aN (ae (ab (mvi rfl (aa (br (b:=1) rfl rfl (by omega)) (asi rfl (ah ?_))))))));refine bn ((k+1,A18,c18,K++[(⟨L[k].nm,A16,c16,L[k].bs⟩:Af)])) ⟨(by first | rfl | (refine bS ?_;omega)),(by first | rfl | (refine bS ?_;omega)),trivial⟩ (by (iterate 32 refine aP rfl ?_);exact aX) ⟨?_,?_⟩
  ·refine ⟨by omega,by rw [List.length_append,hKk];rfl,?_,by rw [List.flatMap_append];simpa using ho18,fun f hf=>?_,B18⟩
   ·rw [List.map_append,hKm,List.take_succ_eq_append_getElem (by rw [List.length_map];exact hkL),List.getElem_map];rfl
   ·rcases List.mem_append.1 hf with hf | hf
    ·exact ((hcp f hf).from_ (E16.next E17)).aside (ho.kept_from (E16.next E17)) (by decide) hg18
    ·rw [List.mem_singleton.1 hf];have h1:di _ w.heap.size (⟨L[k].nm,A16,c16,L[k].bs⟩:Af):=⟨ho16,hx.2⟩;exact (h1.from_ E17).aside (ho.kept_from (E16.next E17)) (by decide) hg18
  ·show L.length-(k+1)<L.length-k;omega
 refine bQ (aU (aU (bz (ae (ag (ab (mvs rfl (ass rfl (ah (ae (aA (bm (v:=.slice _ _ _) rfl rfl ?_))))))))))));obtain rfl:k=L.length:=by omega
 exact ⟨⟨K,A3,c3,by rw [hKk],by rw [hKm,List.take_of_length_le (by rw [List.length_map];exact Nat.le_refl _)],by rw [hKk];exact ho,hcp⟩,hB⟩
abbrev kN:ByteArray:=⟨#[107,101,112,116]⟩
def bM:List Nat:=[107,101,112,116,32,102,111,114,32,101,118,101,114,44,32,119,104,97,116,101,118,101,114,32,101,108,115,101,32,116,104,101,114,101,32,105,115,44,32,97,110,100,32,109,111,114,101,32,116,104,97,110,32,111,110,101,32,115,101,99,116,111,114,32,108,111,110,103,44,32,97,115,32,105,116,32,119,97,115,32,115,121,110,99,101,100]
def Kp (D:List Fe):Prop:=(kN,bM,bM)∈D∧∀ e∈D,okN e.1=true
theorem kI:okN kN=true:=by decide
theorem qF:okN nA=true:=by decide
theorem Kp.idx {D:List Fe} (h:Kp D):∃ i,∃ hi:i<D.length,D[i]=(kN,bM,bM):=List.getElem_of_mem h.1
theorem Kp.has {D:List Fe} (h:Kp D):gf D kN=true:=ew.2 ⟨_,h.1,rfl⟩
theorem Kp.get {D:List Fe} (h:Kp D) (hs:KS D):dD D kN=bM:=by
 obtain ⟨i,hi,e⟩:=h.idx;rw [ef hs hi (by rw [e]),e]
theorem Kp.map {D:List Fe} (h:Kp D) {g:Fe→Fe} (hn:∀ e,(g e).1=e.1) (hk:g (kN,bM,bM)=(kN,bM,bM)):Kp (D.map g):=
 ⟨List.mem_map.2 ⟨_,h.1,hk⟩,fun e he=>by
  obtain ⟨x,hx,rfl⟩:=List.mem_map.1 he;rw [hn];exact h.2 x hx⟩
theorem Kp.putV {D:List Fe} (h:Kp D) {a:ByteArray} (ha:a≠kN) (vs:List Nat):Kp (putV D a vs):=h.map (fun e=>by split <;> rfl) (by rw [if_neg (fun e=>ha e.symm)])
theorem Kp.putS {D:List Fe} (h:Kp D) {a:ByteArray} (ha:a≠kN) (vs:List Nat):Kp (putS D a vs):=h.map (fun e=>by split <;> rfl) (by rw [if_neg (fun e=>ha e.symm)])
theorem Kp.del {D:List Fe} (h:Kp D) {a:ByteArray} (ha:a≠kN):Kp (eV D a):=⟨ey.2 ⟨h.1,fun e=>ha e.symm⟩,fun e he=>h.2 e (ey.1 he).1⟩
theorem Kp.ins {D:List Fe} (h:Kp D) {a:ByteArray} (ha:okN a=true) (vs ds:List Nat):Kp (gu D (a,vs,ds)):=⟨gR.2 (.inr h.1),fun e he=>by
 rcases gR.1 he with rfl | he
 ·exact ha
 ·exact h.2 e he⟩
theorem me {ok:Bool} {fu:Nat} {off:Bool} (h:bE ok fu off=0):ok=true:=by
 cases ok with
 |true=>rfl
 |false=>unfold bE at h;simp at h
theorem pN {D:List Fe} {ok:Bool} {fu:Nat} {off:Bool} {a:ByteArray} (h:opE D ok fu off a=0):ok=true:=by
 unfold opE at h;split at h
 ·exact me h
 ·rename_i h2;exact me (Decidable.not_not.1 h2)
theorem Kp.sync {D:List Fe} (h:Kp D) {a:ByteArray} (ha:a≠kN):Kp (dR D 0 false a):=by
 unfold dR;split
 ·exact h.putS ha _
 ·exact h
theorem Kp.cut {D:List Fe} (h:Kp D) {a:ByteArray} (ha:a≠kN) (n:Int):Kp (fh D 0 false a n):=by
 unfold fh;split
 ·exact h.putV ha _
 ·exact h
theorem Kp.rem {D:List Fe} (h:Kp D) {a:ByteArray} (ha:a≠kN):Kp (fb D 0 false a):=by
 unfold fb;split
 ·exact h.del ha
 ·exact h
theorem Kp.ren {D:List Fe} (h:Kp D) {a b:ByteArray} (ha:a≠kN) (hb:b≠kN):Kp (c6 D 0 false a b):=by
 unfold c6;split
 ·rename_i h2;split
  ·exact h
  ·have h3:=pN h2;rw [Bool.and_eq_true] at h3;exact ((h.del ha).del hb).ins h3.2 _ _
 ·exact h
theorem Kp.app {D:List Fe} (h:Kp D) {a:ByteArray} (ha:a≠kN) (bs:List Nat):Kp (eC D 0 false a bs):=by
 unfold eC;split
 ·rename_i h2
  have h3:okN a=true:=by
   unfold fP at h2;split at h2
   ·exact me h2
   ·rename_i h4;exact me (Decidable.not_not.1 h4)
  refine Kp.putV ?_ ha _;split
  ·exact h
  ·exact h.ins h3 _ _
 ·exact h
theorem dW {ok:Bool}:fuB ok 0=0:=by cases ok <;> rfl
theorem gQ {ok:Bool}:eJ ok 0 false=false:=by cases ok <;> rfl
theorem gP {ok:Bool}:eJ ok 0 true=true:=by cases ok <;> rfl
theorem nL {n:Int} {ok:Bool}:(if n<0 then 0 else fuB ok 0)=0:=by rw [dW];split <;> rfl
theorem qj {n:Int} {ok:Bool}:(if n<0 then false else eJ ok 0 false)=false:=by rw [gQ];split <;> rfl
structure pZ (D:List Fe) (L:List (ByteArray×List Nat)):Prop where
 nm:L.map (·.1)=D.map (·.1)
 sz:∀ e∈L,e.2.length≤1048576
 kp:(kN,bM,bM)∈D→(kN,bM)∈L
theorem fO:∀ {D:List Fe} {ps:List Int},(∀ e∈D,e.2.1.length≤1048576∧e.2.2.length≤1048576)→pZ D (cf D ps)
 |[],_,_=>⟨rfl,fun e he=>(by cases he),fun h=>(by cases h)⟩
 |e::D,ps,h=>by
  have he:=h e (List.mem_cons_self ..);have ht:∀ x∈D,x.2.1.length≤1048576∧x.2.2.length≤1048576:=fun x hx=>h x (List.mem_cons_of_mem _ hx)
  rw [cf];split
  ·have k:=fO (D:=D) (ps:=ps) ht;refine ⟨by rw [List.map_cons,List.map_cons,k.nm],fun x hx=>?_,fun hm=>?_⟩
   ·rcases List.mem_cons.1 hx with rfl | hx
    ·exact he.1
    ·exact k.sz x hx
   ·rcases List.mem_cons.1 hm with hm | hm
    ·rw [←hm];exact List.mem_cons_self ..
    ·exact List.mem_cons_of_mem _ (k.kp hm)
  ·rename_i hne;have k:=fO (D:=D) (ps:=ps.tail) ht;refine ⟨by rw [List.map_cons,List.map_cons,k.nm],fun x hx=>?_,fun hm=>?_⟩
   ·rcases List.mem_cons.1 hx with rfl | hx
    ·exact Nat.le_trans gx (Nat.max_le.2 he)
    ·exact k.sz x hx
   ·rcases List.mem_cons.1 hm with hm | hm
    ·rw [←hm] at hne;exact absurd rfl hne
    ·exact List.mem_cons_of_mem _ (k.kp hm)
theorem pZ.may {D:List Fe} {L:List (ByteArray×List Nat)} {K:List Af} (h:pZ D L) (hD:DOk D) (hk:Kp D) (hK:K.map afB=L):nG K∧Kp (K.map afE)∧K.length=D.length:=by
 have hn:K.map (·.nm)=D.map (·.1):=by rw [←h.nm,←hK,List.map_map];rfl
 have hl:K.length=D.length:=by have:=congrArg List.length hn;simpa using this
 have hat:∀ j (h1:j<K.length),K[j].nm=(D[j]'(by omega)).1:=fun j h1=>by
  have h2:(K.map (·.nm))[j]? =(D.map (·.1))[j]? :=by rw [hn]
  rw [List.getElem?_map,List.getElem?_map,List.getElem?_eq_getElem h1,List.getElem?_eq_getElem (by omega)] at h2;simpa using h2
 refine ⟨⟨by rw [hl];exact hD.2.1,fun j hj=>⟨?_,?_,fun h0=>?_⟩⟩,⟨?_,fun e he=>?_⟩,hl⟩
 ·rw [hat j hj];exact hk.2 _ (List.getElem_mem _)
 ·exact h.sz (afB K[j]) (by rw [←hK];exact List.mem_map.2 ⟨_,List.getElem_mem _,rfl⟩)
 ·rw [hat j hj,hat (j-1) (by omega)];exact hD.1.cmp (by omega) (by omega)
 ·have h1:=h.kp hk.1;rw [←hK] at h1;obtain ⟨x,hx,e⟩:=List.mem_map.1 h1;refine List.mem_map.2 ⟨x,hx,?_⟩;unfold afB at e;rw [Prod.mk.injEq] at e;unfold afE;rw [e.1,e.2]
 ·obtain ⟨x,hx,rfl⟩:=List.mem_map.1 he;obtain ⟨j,hj,rfl⟩:=List.getElem_of_mem hx;show okN K[j].nm=true;rw [hat j hj];exact hk.2 _ (List.getElem_mem _)
theorem mF {K:List Af} (h:nG K):KS (K.map afE):=nK h.2
section
variable {D:List Fe}
theorem pb {a:ByteArray} {ok:Bool} (h:ok=true):opE D ok 0 true a=7:=by rw [h];rfl
theorem lz:opE D (okN kN) 0 true kN=7:=pb kI
theorem o9:dR D 0 true kN=D:=by unfold dR;rw [lz,if_neg (by decide)]
theorem pM {n:Nat}:fP D 0 true kN n=7:=by unfold fP;rw [kI];rfl
theorem pf {bs:List Nat}:eC D 0 true kN bs=D:=by unfold eC;rw [pM,if_neg (by decide)]
theorem pL:fA D 0 true kN 0=7:=by unfold fA;rw [lz,if_neg (by decide),if_pos (by decide)]
theorem pe:fh D 0 true kN 0=D:=by unfold fh;rw [pL,if_neg (by decide)]
theorem o_:fb D 0 true kN=D:=by unfold fb;rw [lz,if_neg (by decide)]
theorem pK:dp D 0 true kN nA=7:=pb (by rw [kI,qF];rfl)
theorem pd:c6 D 0 true kN nA=D:=by unfold c6;rw [pK,if_neg (by decide)]
theorem p9:dw D true kN=7:=by unfold dw;rw [kI];rfl
theorem oN (h:Kp D):dw D false kN=0:=by unfold dw;rw [kI,h.has];rfl
theorem mI (h:Kp D) (hs:KS D):ec D false kN=bM:=by unfold ec;rw [oN h,if_pos rfl,h.get hs]
end
theorem qk:fP [] 0 false kN bM.length=0:=by unfold fP;rw [kI];rfl
theorem qH:eC [] 0 false kN bM=[(kN,bM,[])]:=by unfold eC;rw [qk];rfl
theorem qi:opE [(kN,bM,[])] (okN kN) 0 false kN=0:=by rw [kI];rfl
theorem qE:dR [(kN,bM,[])] 0 false kN=[(kN,bM,bM)]:=by unfold dR;rw [qi];rfl
theorem qG:Kp [(kN,bM,bM)]:=⟨List.mem_singleton.2 rfl,fun e he=>by rw [List.mem_singleton.1 he];exact kI⟩
theorem cQ.mem {w:World} {U:Nat→Prop} {d fu:Nat} {D:List Fe} {off:Bool} (h:cQ w U d D fu off):U d:=by
 obtain ⟨fs,Ap,cp,ca,h1,h2,h3,h4,h5⟩:=h;exact h5 _ (.inl rfl)
structure c0 (w0 w:World) (N b1 bk d:Nat) (cs:Array Value) (U:Nat→Prop) (D:List Fe) (off:Bool):Prop where
 dk:cQ w U d D 0 off
 u:∀ k,U k→N≤k∧k<w.heap.size
 nk:¬ U bk
 p:Blk w b1 25 cs
 hb:b1<N
 r:RB w (some ⟨bk,0,none⟩) 86 bM
 rk:bk<w.heap.size
 hN:w0.heap.size≤N
 f:ak w0 w
section
variable {w0 w w1 w':World} {N b1 bk d fu:Nat} {off off':Bool} {cs:Array Value} {U:Nat→Prop} {D D':List Fe}
theorem c0.from_ (h:c0 w0 w N b1 bk d cs U D off) (hF:ak w w'):c0 w0 w' N b1 bk d cs U D off:=
 ⟨h.dk.from_ hF,fun k hk=>⟨(h.u k hk).1,Nat.lt_of_lt_of_le (h.u k hk).2 hF.size⟩,h.nk,h.p.from_ hF,h.hb,h.r.from_ hF,Nat.lt_of_lt_of_le h.rk hF.size,h.hN,h.f.next hF⟩
theorem c0.step (h:c0 w0 w N b1 bk d cs U D off) (hF:ak w w1) (hd:cQ w' (Nx U w1 w') d D' fu off') (hC:Chg U w1 w') (hfu:fu=0) (hof:off'=off) :
 c0 w0 w' N b1 bk d cs (fun k=>Nx U w1 w' k∧k<w'.heap.size) D' off:=by
 subst hfu hof;have h1:=h.from_ hF;refine ⟨hd.wide fun k hk hl=>⟨hk,hl⟩,fun k hk=>⟨?_,hk.2⟩,fun e=>?_,h1.p.chg hC fun e=>?_,h.hb,h1.r.chg hC fun q hq=>?_,Nat.lt_of_lt_of_le h1.rk hC.size,h.hN,h1.f.chg hC fun k hk=>?_⟩
 ·rcases hk.1 with e | e
  ·exact (h1.u k e).1
  ·have:=(h1.u d h1.dk.mem).1;have:=(h1.u d h1.dk.mem).2;omega
 ·rcases e.1 with e | e
  ·exact h.nk e
  ·have:=h1.rk;omega
 ·have:=(h1.u _ e).1;have:=h.hb;omega
 ·cases hq;exact h.nk
 ·exact Nat.le_trans h.hN (h1.u k hk).1
theorem c0.dark (h:c0 w0 w N b1 bk d cs U D off) (hF:ak w w1) (hd:cQ w' U d D fu off') (hC:Chg (fun k=>k=d) w1 w') (hfu:fu=0) (hof:off'=true):c0 w0 w' N b1 bk d cs U D true:=by
 subst hfu hof;have h1:=h.from_ hF;have hm:=h1.dk.mem;refine ⟨hd,fun k hk=>⟨(h1.u k hk).1,Nat.lt_of_lt_of_le (h1.u k hk).2 hC.size⟩,h.nk,h1.p.chg hC fun e=>?_,h.hb,h1.r.chg hC fun q hq=>?_,Nat.lt_of_lt_of_le h1.rk hC.size,h.hN,h1.f.chg hC fun k hk=>?_⟩
 ·have:=(h1.u _ hm).1;have:=h.hb;omega
 ·cases hq;exact fun e=>h.nk (by show U bk;rw [show bk=d from e];exact hm)
 ·show w0.heap.size≤k;rw [show k=d from hk];exact Nat.le_trans h.hN (h1.u d hm).1
end
theorem pt {n:Int} {ok:Bool}:(if n<0 then true else eJ ok 0 true)=true:=by rw [gP];split <;> rfl
theorem lB {a:ByteArray} (h:okN a=true):a.size≤140737488351232:=by
 unfold okN at h;simp only [Bool.and_eq_true,decide_eq_true_eq] at h;omega
theorem di.z {w:World} {n:Nat} {f:Af} (h:di w n f):di w 0 f:=⟨c9 h.1 (Nat.zero_le _),h.2⟩
theorem pR:bM.length=86:=by decide
theorem lH {w:World} {A:Option Addr} {c b bs:Nat} (ha:w.ownsRow bs 5 1 (.slice A bM.length c) bM.length (aR bM)) (hr:RB w (some ⟨b,0,none⟩) 86 bM):Rt prog 20 [.slice A bM.length c,.slice (some ⟨b,0,none⟩) 86 86] w fun v w'=>v=.bool true∧ak w w':=by
 have h:=gv A (some ⟨b,0,none⟩) c 86 bM bM w (RB.own ha hr.bt).2.row hr.row (by decide);rw [decide_eq_true (rfl:bM=bM)] at h;rw [pR] at h ⊢;exact h
end Go.Proofs.Ytmbcbinocebodaa
