/- texts that the claim stands on. -/
import Derived.Test.YtaohnmneccbljaaGreatDoorSlWlLawM2
import Derived.Laws.BitsAllLaws
set_option maxRecDepth 100000
set_option maxHeartbeats 4000000
namespace Go.Proofs.YtaohnmneccbljaaGreatDoor
open Go.Proofs.Tryz (prog)
open Go.RowKit
open Go.ChangeShapes Go.WideShapes Go.ChangeAt
theorem bZ:(dq prog 91).isSome=true:=by kernel_rfl
theorem sx:∀ (a0:ByteArray),prog.built 99 [(0,.string a0)]=some #[.string a0,.slice none 0 0,.slice none 0 0]:=by intros;kernel_rfl
theorem pT:aH prog 98=true:=by kernel_rfl
def BU (w:World) (f f2:Fl) (bs:List Nat):Prop:=f2.nm=f.nm∧f2.vs=f.vs++bs∧f2.ds=f.ds∧f2.dA=f.dA∧f2.dc=f.dc∧(∀ k,f2.B k→f.B k∨w.heap.size≤k)∧(f2.own=true→∀ k,f2.vA.map (·.block)=some k→(f.own=true∧f.vA.map (·.block)=some k)∨w.heap.size≤k)
def qR (w w':World) (g cp i:Nat) (fs:List Fl) (f:Fl) (bs:List Nat):Prop:=∃ f2:Fl,BU w f f2 bs∧Chg (fun k=>(some (⟨g,0,none⟩:Addr)).map (·.block)=some k∨(f.own=true∧f.vA.map (·.block)=some k)) w w'∧w'.ownsRow 0 99 3 (.slice (some ⟨g,0,none⟩) fs.length cp) fs.length ((fs.flatMap flV).set (i*3+1) (.slice f2.vA f2.vs.length f2.vc))∧gq w' f2
theorem qR.from_ {w w1 w2:World} {g cp i:Nat} {fs:List Fl} {f:Fl} {bs:List Nat} (h:qR w w1 g cp i fs f bs) (hF:ag w1 w2):qR w w2 g cp i fs f bs:=by
 obtain ⟨f2,h1,h2,h3,h4⟩:=h;exact ⟨f2,h1,h2.next hF.toChg,h3.kept_from hF,h4.from_ hF⟩
def Fn (nm:ByteArray):Fl:=⟨nm,none,0,none,0,[],[],true⟩
theorem RB.chg0 {V:Nat→Prop} {w w':World} {A:Option Addr} {c:Nat} {l:List Nat} (h:RB w A c l) (hc:Chg V w w') (hV:0<l.length→∀ q,A.map (·.block)=some q→¬ V q):RB w' A c l:=
 ⟨h.le,h.mx,fun h0=>(h.chg hc (hV h0)).at_ h0,h.bt⟩
def jl (D:List Fe) (fu:Nat) (off:Bool) (nm:ByteArray) (n:Nat):Int:=if bE (okN nm) fu off≠0 then bE (okN nm) fu off else if 1048576<n+(eB D nm).length then 2 else if gv D nm=false∧D.length=16 then 6 else 0
def kI (D:List Fe) (fu:Nat) (off:Bool) (nm:ByteArray) (bs:List Nat):List Fe:=if jl D fu off nm bs.length=0 then qe (if gv D nm then D else eW D (nm,[],[])) nm (eB D nm++bs) else D
theorem zF {fs:List Fl} (h:fs.Pairwise Sep) (i:Nat) (nm:ByteArray):(fs.take i++Fn nm::fs.drop i).Pairwise Sep:=by
 have hs:∀ g:Fl,Sep g (Fn nm):=fun g=>⟨fun _ k _ hb=>(by rcases hb with e | e <;> cases e),fun _ k hk=>(by cases hk)⟩
 have h0:(fs.take i++fs.drop i).Pairwise Sep:=by rw [List.take_append_drop];exact h
 rw [List.pairwise_append] at h0 ⊢;refine ⟨h0.1,List.pairwise_cons.2 ⟨fun g _=>(hs g).symm,h0.2.1⟩,fun a ha b hb=>?_⟩;rcases List.mem_cons.1 hb with rfl | hb
 ·exact hs a
 ·exact h0.2.2 a ha b hb
theorem Bf {fs:List Fl} {i:Nat} (hi:i≤fs.length) (x:Fl):∃ h:i<(fs.take i++x::fs.drop i).length,(fs.take i++x::fs.drop i)[i]=x:=by
 have hl:(fs.take i).length=i:=by rw [List.length_take];omega
 have h:i<(fs.take i++x::fs.drop i).length:=by rw [List.length_append,List.length_cons,hl];omega
 refine ⟨h,?_⟩;rw [List.getElem_append_right (by omega)];simp only [hl,Nat.sub_self,List.getElem_cons_zero]
theorem DOk.ins {D:List Fe} (h:DOk D) {id:ByteArray} (hn:gv D id=false) (hl:D.length≠16):DOk (eW D (id,[],[])):=by
 refine ⟨h.1.ins (fun e he h9=>by have:=iM.2 ⟨e,he,h9⟩;rw [hn] at this;cases this) [] [],by rw [rL];have:=h.2.1;omega,fun e he=>?_⟩;rcases rJ.1 he with rfl | he
 ·exact ⟨Nat.zero_le _,Nat.zero_le _⟩
 ·exact h.2.2 e he
theorem l_ (U:Nat→Prop) (d:Nat) (D:List Fe) (fu:Nat) (off:Bool) (w:World) (hd:cP w U d D fu off) (nm:ByteArray) (hn:nm.size≤140737488351232) (A2:Option Addr) (c2 m:Nat) (bs:List Nat) (hb:RB w A2 c2 bs) (hm:m=bs.length) (hbl:bs.length≤140737488355328) (hU2:0<bs.length→∀ q,A2.map (·.block)=some q→¬ U q) :
 Rt prog 78 [.pointer (some ⟨d,0,none⟩),.string nm,.slice A2 m c2] w (fun v w'=>v=.int .i64 (jl D fu off nm bs.length)∧cP w' (Nx U w w') d (kI D fu off nm bs) (fuB (okN nm) fu) (kk (okN nm) fu off)∧Chg U w w'):=by
 subst hm;have hd0:=hd;obtain ⟨fs,Ap,cp,ca,h,hD,hok,hfu0,hU⟩:=hd;subst hD;obtain ⟨hs,hl,hz⟩:=hok;rw [aR] at hl;refine enter (n:=80) Tryz.func78 rfl rfl rfl (af (ab (asi rfl (ah (ae (af (af (ab (mvp rfl (mvg rfl (j5 (v:=.string _) de rfl rfl rfl ?_)))))))))));intro b13 w1 E13 hb13 hk13;have hF11:ag w _:=(ag.rfl_.next E13);refine av oO (vW (h.from_ (ag.rfl_.next E13)) hs hl hfu0 hn hk13) ?_;rintro v14 w2 ⟨rfl,⟨ca2,h2⟩,hC11⟩;have hT:=(hF11.toChg (U:=U)).next (hC11.wide fun k hk=>.inl (by rw [hk];exact hU d (.inl rfl)));have hb2:=(hb.from_ hF11).chg0 hC11 (fun h0 q hq e=>hU2 h0 q hq (hU q (by rw [e];exact .inl rfl)));refine asi rfl (ah (ae (af (ab (mvi rfl (aa (cv rfl rfl) (ah (ae (BJ rfl (fun Q3=>?_) (fun Q3=>?_))))))))))
 ·refine af (ab (mvi rfl (asi rfl (ah (ae (aC (aF (bz (v:=.int _ _) rfl rfl ?_))))))));have e1:jl (aS fs) fu off nm bs.length=bE (okN nm) fu off:=by unfold jl;rw [if_pos (by assumption)]
  rw [e1];refine ⟨rfl,?_,hT.next (ag.rfl_).toChg⟩;rw [show kI (aS fs) fu off nm bs=aS fs by unfold kI;rw [e1,if_neg (by first | decide | assumption)]];exact dJ hU (h2.from_ ag.rfl_) ⟨hs,by rw [aR];exact hl,hz⟩ (c_ hfu0 _) fun k hk=>.inl hk
 refine aE (ae (af (ab (mvp rfl (mvg rfl (av h_ (lu d fs Ap cp ca2 _ _ _ (h2.from_ ag.rfl_) hs hl (c_ hfu0 _) nm) ?_))))));rintro v21 w4 ⟨⟨i,fd,rfl,hf⟩,E21⟩;refine mvt rfl (aa (ar rfl rfl) (aa (ar rfl rfl) (asi rfl (asb rfl (ah (ae (af (ab (mvs rfl (aa (bb bZ rfl) (asi rfl ?_)))))))))));refine ah (ae (kH (G:=Unit) [26,27,28,29,30,31,32,33,34,35,36,37,38] (fun _=>[(10,.int .i64 ((bs.length+(eB (aS fs) nm).length:Nat):Int))]) (fun _ w'=>w4=w') ?_ ?_))
 ·refine af (ab (mvb rfl (ah (ae (aM rfl (fun Q5=>?_) (fun Q5=>?_))))))
  ·have hfd:fd=true:=by first | assumption | simp_all
   obtain ⟨hi,hi2⟩:=hf.2.1 hfd;have hia:i<(aS fs).length:=by rw [aR];exact hi
   have hk1:(aS fs)[i].1=nm:=by rw [bP];exact hi2
   have hzi:=hz _ (List.getElem_mem hia);rw [bP] at hzi;have hz1:fs[i].vs.length≤1048576:=hzi.1;have hgv:eB (aS fs) nm=fs[i].vs:=by rw [jf hs hia hk1,bP];rfl
   obtain ⟨g,rfl⟩:=lV h2.row (by omega);obtain ⟨bp,op,e9,hcd⟩:=(kY h2.row).2 (by omega);cases e9;have hce:=hcd i hi;refine ab (mvi rfl (mvp rfl (aa (au rfl) (aa (ai cd rfl) (aa (ao dG rfl (by exact (h2.blk.from_ (ag.rfl_.next E21)).rd 0 rfl)) ?_)))));refine mvi rfl (aa (bf bK rfl rfl (by omega)) (aa (ai cQ rfl) (aa (ai cR rfl) ?_)));refine aa (ao bQ rfl (by have h9:=hce 1 _ rfl;simpa [Nat.add_assoc] using Ct (ag.rfl_.next E21) h9)) ?_;refine aa (bb bZ rfl) (aa (cf rfl rfl (by omega)) (asi rfl (ah ?_)));refine bW (()) ⟨(by rw [hgv];rfl),trivial⟩ (by (iterate 14 refine bg rfl ?_);exact bw) ?_;rfl
  have hfd:fd=false:=by first | assumption | simp_all
  have hno:gv (aS fs) nm=false:=by rw [hf.has hs,hfd]
  have hno2:∀ e∈aS fs,e.1≠nm:=fun e he h9=>by have:=iM.2 ⟨e,he,h9⟩;rw [hno] at this;cases this
  have hgv:eB (aS fs) nm=[]:=uz hno2;have hile:i≤fs.length:=by have:=hf.1.le;rwa [aR] at this
  refine aE ?_;refine bW (()) ⟨(by rw [hgv];rfl),trivial⟩ (by (iterate 1 refine bg rfl ?_);exact bw) ?_;rfl
 rintro _ ρ6 w6 rfl;refine af (af (ab (mvi rfl (aa (cn rfl rfl) (ah (ae (BM rfl (fun Q7=>?_) (fun Q7=>?_))))))))
 ·refine af (ab (asi rfl (ah (ae (aC (aF (bz (v:=.int _ _) rfl rfl ?_)))))));have e1:jl (aS fs) fu off nm bs.length=2:=by unfold jl;rw [if_neg (by omega),if_pos (by omega)]
  rw [e1];refine ⟨rfl,?_,hT.next ((ag.rfl_.next E21)).toChg⟩;rw [show kI (aS fs) fu off nm bs=aS fs by unfold kI;rw [e1,if_neg (by first | decide | assumption)]];exact dJ hU (h2.from_ (ag.rfl_.next E21)) ⟨hs,by rw [aR];exact hl,hz⟩ (c_ hfu0 _) fun k hk=>.inl hk
 refine aE (ae (kH (G:=List Fl×Option Addr×Nat) [6,41,42,43,44,45,46,47,48,49,50,51,52,53,54,55,56,57,58,59,60] (fun _=>[]) (fun (fs3,Ap3,cp3) w'=>DkH w' d fs3 Ap3 cp3 ca2 (fuB (okN nm) fu) (kk (okN nm) fu off)∧aS fs3=(if gv (aS fs) nm then aS fs else eW (aS fs) (nm,[],[]))∧DOk (aS fs3)∧(∃ hi3:i<fs3.length,fs3[i].nm=nm∧fs3[i].vs=eB (aS fs) nm)∧(∀ k,lM d Ap3 fs3 k→lM d Ap fs k∨w.heap.size≤k)∧(gv (aS fs) nm=false→(aS fs).length≠16)∧RB w' A2 c2 bs∧Chg U w w') ?_ ?_))
 ·refine af (ab (mvb rfl (aa (bG rfl) (ah (ae (BK rfl (fun Q8=>?_) (fun Q8=>?_)))))))
  ·have hfd:fd=false:=by first | assumption | simp_all
   have hno:gv (aS fs) nm=false:=by rw [hf.has hs,hfd]
   have hno2:∀ e∈aS fs,e.1≠nm:=fun e he h9=>by have:=iM.2 ⟨e,he,h9⟩;rw [hno] at this;cases this
   have hgv:eB (aS fs) nm=[]:=uz hno2;have hile:i≤fs.length:=by have:=hf.1.le;rwa [aR] at this
   refine af (af (ab (mvp rfl (aa (au rfl) (aa (ai cd rfl) (aa (ao dG rfl (by exact (h2.blk.from_ (ag.rfl_.next E21)).rd 0 rfl)) ?_))))));refine aa (bb eH rfl) (aa (a7 rfl rfl) (ah (ae (BM rfl (fun Q9=>?_) (fun Q9=>?_)))))
   ·refine af (ab (asi rfl (ah (ae (aC (aF (aF (bz (v:=.int _ _) rfl rfl ?_))))))));have e1:jl (aS fs) fu off nm bs.length=6:=by unfold jl;rw [if_neg (by omega),if_neg (by omega),if_pos ⟨hno,by rw [aR];omega⟩]
    rw [e1];refine ⟨rfl,?_,hT.next ((ag.rfl_.next E21)).toChg⟩;rw [show kI (aS fs) fu off nm bs=aS fs by unfold kI;rw [e1,if_neg (by first | decide | assumption)]];exact dJ hU (h2.from_ (ag.rfl_.next E21)) ⟨hs,by rw [aR];exact hl,hz⟩ (c_ hfu0 _) fun k hk=>.inl hk
   refine aE (ae (ab (mvp rfl (mvp rfl (aa (au rfl) (aa (ai cd rfl) (aa (ao dG rfl (by exact (h2.blk.from_ (ag.rfl_.next E21)).rd 0 rfl)) ?_)))))));refine mvi rfl (mvg rfl (aa (bN (l:=[(0,.tmp 55)]) (sx _)) ?_));have hF58b:ag _ w4:=(ag.rfl_.next E21);refine gi (l:=[(0,.tmp 56)]) (cells:=#[.string nm,.slice none 0 0,.slice none 0 0]) eA rfl rfl (by kernel_rfl) ?_;intro b57 w10 E57 hb57 hk57;have hF58:ag _ w10:=((ag.rfl_.next E21).next E57);refine av pT (nV 0 Ap cp fs.length i 1 b57 0 1 (fs.flatMap flV) (flV (Fn nm)) _ _ _ (h2.row.kept_from hF58) (Nat.zero_le _) hile (by decide) rfl hk57.whole hk57 (fun k hk e=>by have:=(gl (h2.row.kept_from hF58b) k hk).2;omega) (qt _) (jL _) (by omega)) ?_;rintro v58 w11 ⟨⟨A58,c58,rfl,ho58,hA58⟩,hg58⟩;have hb58:=(h2.blk.from_ hF58).grown hg58 (dX (h2.row.kept_from hF58) (h2.blk.from_ hF58) (by decide));rw [Ax] at ho58;refine aa (au rfl) (aa (ai cd rfl) (cT (v:=.slice _ _ _) hH rfl rfl rfl (hb58) (by show 0<4;decide) ?_));intro w12 O13 P13;refine ah ?_;refine bW ((fs.take i++Fn nm::fs.drop i,A58,c58)) trivial (by (iterate 20 refine bg rfl ?_);exact bw) ?_;obtain ⟨hi9,hx9⟩:=Bf hile (Fn nm);have hC9:Chg (fun k=>k=d∨Ap.map (·.block)=some k) _ w12:=(hF58.toChg.next (Chg.of_grown hg58 fun k e=>.inr e)).next (O13.toChg (.inl rfl));have hr:=eE ho58 O13 (dX ho58 hb58 (by decide));rw [←zG hile (Fn nm)] at hr
   have hk:=h2.setR (ca':=ca2) (fu':=fuB (okN nm) fu) (off':=kk (okN nm) fu off) hC9 (by rw [zG hile];exact P13) hr (fun f hf9=>by
    rcases List.mem_append.1 hf9 with h9 | h9
    ·exact .inl (List.mem_of_mem_take h9)
    ·rcases List.mem_cons.1 h9 with rfl | h9
     ·exact .inr (.inr ⟨rfl,rfl,rfl,rfl,rfl,rfl,rfl⟩)
     ·exact .inl (List.mem_of_mem_drop h9)) (zF h2.ap i nm)
   have hab:aS (fs.take i++Fn nm::fs.drop i)=eW (aS fs) (nm,[],[]):=by rw [r7,hf.1.ins];rfl
   have hne16:(aS fs).length≠16:=by rw [aR];omega
   refine ⟨hk,by rw [hab,hno];rfl,by rw [hab];exact DOk.ins ⟨hs,by rw [aR];exact hl,hz⟩ hno hne16,⟨hi9,by rw [hx9];rfl,by rw [hx9,hgv];rfl⟩,fun k hk=>?_,fun _=>hne16,?_,hT.next (hC9.wide fun k hk=>.inl (hU k (hk.elim .inl fun e=>.inr (.inl e))))⟩
   ·rcases hk with e | e | ⟨f3,h3,e⟩
    ·exact .inl (.inl e)
    ·exact (hA58 k e).imp (fun e=>.inr (.inl e)) fun e=>Nat.le_trans (Nat.le_trans hT.size hF58.size) e
    ·rcases List.mem_append.1 h3 with h9 | h9
     ·exact .inl (.inr (.inr ⟨f3,List.mem_of_mem_take h9,e⟩))
     ·rcases List.mem_cons.1 h9 with rfl | h9
      ·rcases e with e | e <;> cases e
      ·exact .inl (.inr (.inr ⟨f3,List.mem_of_mem_drop h9,e⟩))
   ·exact hb2.chg0 hC9 fun h0 q hq e=>hU2 h0 q hq (hU q (e.elim .inl fun e=>.inr (.inl e)))
  have hfd:fd=true:=by first | assumption | simp_all
  obtain ⟨hi,hi2⟩:=hf.2.1 hfd;have hia:i<(aS fs).length:=by rw [aR];exact hi
  have hk1:(aS fs)[i].1=nm:=by rw [bP];exact hi2
  have hzi:=hz _ (List.getElem_mem hia);rw [bP] at hzi;have hz1:fs[i].vs.length≤1048576:=hzi.1;have hgv:eB (aS fs) nm=fs[i].vs:=by rw [jf hs hia hk1,bP];rfl
  refine aE ?_;refine bW ((fs,Ap,cp)) trivial (by (iterate 2 refine bg rfl ?_);exact bw) ?_;exact ⟨h2.from_ (ag.rfl_.next E21),by rw [hf.has hs,hfd];rfl,⟨hs,by rw [aR];exact hl,hz⟩,⟨hi,hi2,hgv.symm⟩,fun k hk=>.inl hk,fun h9=>(by rw [hf.has hs,hfd] at h9;cases h9),hb2.from_ (ag.rfl_.next E21),hT.next ((ag.rfl_.next E21)).toChg⟩
 rintro ⟨fs3,Ap3,cp3⟩ ρ13 w13 ⟨h3,hab3,hok3,⟨hi3,hn3,hv3⟩,hft3,hcap3,hb3,hT3⟩;obtain ⟨g,rfl⟩:=lV h3.row (by omega);obtain ⟨bp3,op3,e93,hcd3⟩:=(kY h3.row).2 (by omega);cases e93;have hce3:=hcd3 i hi3;have hfi3:=h3.ok _ (List.getElem_mem hi3);have hg3:=(gl h3.row g rfl).2;have hia3:i<(aS fs3).length:=by rw [aR];exact hi3
 have hk13:(aS fs3)[i].1=nm:=by rw [bP];exact hn3
 have hl3:fs3.length≤16:=by rw [←aR];exact hok3.2.1
 refine af ?_;apply gz [(0,61,fun _ v _=>v=_),(1,62,fun _ v _=>v=_),(2,63,fun _ v _=>v=_),(3,64,fun _ v _=>v=_),(4,65,fun _ v _=>v=_),(5,66,fun _ v _=>v=_),(6,67,fun _ v _=>v=_),(7,68,fun _ v _=>v=_),(8,69,fun _ v _=>v=_),(9,70,fun _ v _=>v=_),(10,71,fun _ v _=>v=_),(11,72,fun _ v _=>v=_),(12,73,fun _ v _=>v=_),(13,74,fun _ v _=>v=_),(14,75,fun _ v _=>v=_),(15,76,fun S v w'=>∃ f2:Fl,v=.slice f2.vA f2.vs.length f2.vc∧BU w13 fs3[i] f2 bs∧(S 19=false→gq w' f2)),(16,77,fun _ v _=>v=_),(17,78,fun _ v _=>v=_),(18,79,fun _ v _=>v=_)] [15,19] (fun S w'=>w13.heap.size≤w'.heap.size∧(S 15=false→ag w13 w')∧(S 19=false→Chg (fun k=>fs3[i].own=true∧fs3[i].vA.map (·.block)=some k) w13 w')∧(S 19=true→qR w13 w' g cp3 i fs3 fs3[i] bs)) (by kernel_rfl) (by kernel_rfl) rfl rfl ⟨fun _ _ _ _ _ _ _ h=>h,fun _ _ _ _ _ _ _ h=>h,fun _ _ _ _ _ _ _ h=>h,fun _ _ _ _ _ _ _ h=>h,fun _ _ _ _ _ _ _ h=>h,fun _ _ _ _ _ _ _ h=>h,fun _ _ _ _ _ _ _ h=>h,fun _ _ _ _ _ _ _ h=>h,fun _ _ _ _ _ _ _ h=>h,fun _ _ _ _ _ _ _ h=>h,fun _ _ _ _ _ _ _ h=>h,fun _ _ _ _ _ _ _ h=>h,fun _ _ _ _ _ _ _ h=>h,fun _ _ _ _ _ _ _ h=>h,fun _ _ _ _ _ _ _ h=>h,fun S i v w1 w2 hq hF ⟨f2,h1,h2,h3⟩=>⟨f2,h1,h2,fun h0=>(h3 (lP h0)).from_ hF⟩,fun _ _ _ _ _ _ _ h=>h,fun _ _ _ _ _ _ _ h=>h,fun _ _ _ _ _ _ _ h=>h,trivial⟩ (fun S i w1 w2 hq hF h=>⟨Nat.le_trans h.1 hF.size,fun h0=>(h.2.1 (lP h0)).next hF,fun h0=>(h.2.2.1 (lP h0)).next hF.toChg,fun h1=>(h.2.2.2 (mP (show 19≠i by rintro rfl;exact absurd hq (by decide)) h1)).from_ hF⟩) (⟨Nat.le_refl _,fun _=>ag.rfl_.d1,fun _=>ag.rfl_.d1.toChg,fun h1=>by cases h1⟩)
 case hstep=>
  constructor
  ·rintro S L' w14 hU hmo hme hI hM hC hS ⟨-⟩;have hM':=hM;obtain ⟨hz14,hA14,hB14,hD14⟩:=hM';have e0:=hI.1 0 (fj rfl);exact aN [(0,_)] hU hmo hme hI hM (.head _) rfl rfl (by kernel_rfl) ⟨e0,trivial⟩ (aB (v:=.pointer _) rfl) ag.rfl_ rfl
  constructor
  ·rintro S L' w15 hU hmo hme hI hM hC hS ⟨d0,-⟩;have hM':=hM;obtain ⟨hz15,hA15,hB15,hD15⟩:=hM';obtain ⟨v15_61,e61,h61⟩:=hI.get (i:=0) (.head _) d0;obtain rfl:=h61;exact aN [(61,_)] hU hmo hme hI hM (.tail _ (.head _)) rfl rfl (by kernel_rfl) ⟨e61,trivial⟩ (au rfl) ag.rfl_ rfl
  constructor
  ·rintro S L' w16 hU hmo hme hI hM hC hS ⟨d1,-⟩;have hM':=hM;obtain ⟨hz16,hA16,hB16,hD16⟩:=hM';obtain ⟨v16_62,e62,h62⟩:=hI.get (i:=1) (.tail _ (.head _)) d1;obtain rfl:=h62;exact aN [(62,_)] hU hmo hme hI hM (.tail _ (.tail _ (.head _))) rfl rfl (by kernel_rfl) ⟨e62,trivial⟩ (ai cd rfl) ag.rfl_ rfl
  constructor
  ·rintro S L' w17 hU hmo hme hI hM hC hS ⟨d2,-⟩;have hM':=hM;obtain ⟨hz17,hA17,hB17,hD17⟩:=hM';obtain ⟨v17_63,e63,h63⟩:=hI.get (i:=2) (.tail _ (.tail _ (.head _))) d2;obtain rfl:=h63;exact aN [(63,_)] hU hmo hme hI hM (.tail _ (.tail _ (.tail _ (.head _)))) rfl rfl (by kernel_rfl) ⟨e63,trivial⟩ (ao dG rfl ((h3.blk.chg (hB17 (ay hC (j:=19) rfl (by kernel_rfl) hS)) (fun e=>h3.bd (List.getElem_mem hi3) (.inl e.2) rfl)).rd 0 rfl)) (ag.rfl_) (rfl)
  constructor
  ·rintro S L' w18 hU hmo hme hI hM hC hS ⟨-⟩;have hM':=hM;obtain ⟨hz18,hA18,hB18,hD18⟩:=hM';have e8:=hI.1 8 (fj rfl);exact aN [(8,_)] hU hmo hme hI hM (.tail _ (.tail _ (.tail _ (.tail _ (.head _))))) rfl rfl (by kernel_rfl) ⟨e8,trivial⟩ (aB (v:=.int _ _) rfl) ag.rfl_ rfl
  constructor
  ·rintro S L' w19 hU hmo hme hI hM hC hS ⟨-⟩;have hM':=hM;obtain ⟨hz19,hA19,hB19,hD19⟩:=hM';have e0:=hI.1 0 (fj rfl);exact aN [(0,_)] hU hmo hme hI hM (.tail _ (.tail _ (.tail _ (.tail _ (.tail _ (.head _)))))) rfl rfl (by kernel_rfl) ⟨e0,trivial⟩ (aB (v:=.pointer _) rfl) ag.rfl_ rfl
  constructor
  ·rintro S L' w20 hU hmo hme hI hM hC hS ⟨d5,-⟩;have hM':=hM;obtain ⟨hz20,hA20,hB20,hD20⟩:=hM';obtain ⟨v20_66,e66,h66⟩:=hI.get (i:=5) (.tail _ (.tail _ (.tail _ (.tail _ (.tail _ (.head _)))))) d5;obtain rfl:=h66;exact aN [(66,_)] hU hmo hme hI hM (.tail _ (.tail _ (.tail _ (.tail _ (.tail _ (.tail _ (.head _))))))) rfl rfl (by kernel_rfl) ⟨e66,trivial⟩ (au rfl) ag.rfl_ rfl
  constructor
  ·rintro S L' w21 hU hmo hme hI hM hC hS ⟨d6,-⟩;have hM':=hM;obtain ⟨hz21,hA21,hB21,hD21⟩:=hM';obtain ⟨v21_67,e67,h67⟩:=hI.get (i:=6) (.tail _ (.tail _ (.tail _ (.tail _ (.tail _ (.tail _ (.head _))))))) d6;obtain rfl:=h67;exact aN [(67,_)] hU hmo hme hI hM (.tail _ (.tail _ (.tail _ (.tail _ (.tail _ (.tail _ (.tail _ (.head _)))))))) rfl rfl (by kernel_rfl) ⟨e67,trivial⟩ (ai cd rfl) ag.rfl_ rfl
  constructor
  ·rintro S L' w22 hU hmo hme hI hM hC hS ⟨d7,-⟩;have hM':=hM;obtain ⟨hz22,hA22,hB22,hD22⟩:=hM';obtain ⟨v22_68,e68,h68⟩:=hI.get (i:=7) (.tail _ (.tail _ (.tail _ (.tail _ (.tail _ (.tail _ (.tail _ (.head _)))))))) d7;obtain rfl:=h68;exact aN [(68,_)] hU hmo hme hI hM (.tail _ (.tail _ (.tail _ (.tail _ (.tail _ (.tail _ (.tail _ (.tail _ (.head _))))))))) rfl rfl (by kernel_rfl) ⟨e68,trivial⟩ (ao dG rfl ((h3.blk.chg (hB22 (ay hC (j:=19) rfl (by kernel_rfl) hS)) (fun e=>h3.bd (List.getElem_mem hi3) (.inl e.2) rfl)).rd 0 rfl)) (ag.rfl_) (rfl)
  constructor
  ·rintro S L' w23 hU hmo hme hI hM hC hS ⟨-⟩;have hM':=hM;obtain ⟨hz23,hA23,hB23,hD23⟩:=hM';have e8:=hI.1 8 (fj rfl);exact aN [(8,_)] hU hmo hme hI hM (.tail _ (.tail _ (.tail _ (.tail _ (.tail _ (.tail _ (.tail _ (.tail _ (.tail _ (.head _)))))))))) rfl rfl (by kernel_rfl) ⟨e8,trivial⟩ (aB (v:=.int _ _) rfl) ag.rfl_ rfl
  constructor
  ·rintro S L' w24 hU hmo hme hI hM hC hS ⟨d8,d9,-⟩;have hM':=hM;obtain ⟨hz24,hA24,hB24,hD24⟩:=hM';obtain ⟨v24_69,e69,h69⟩:=hI.get (i:=8) (.tail _ (.tail _ (.tail _ (.tail _ (.tail _ (.tail _ (.tail _ (.tail _ (.head _))))))))) d8;obtain rfl:=h69;obtain ⟨v24_70,e70,h70⟩:=hI.get (i:=9) (.tail _ (.tail _ (.tail _ (.tail _ (.tail _ (.tail _ (.tail _ (.tail _ (.tail _ (.head _)))))))))) d9;obtain rfl:=h70;exact aN [(69,_),(70,_)] hU hmo hme hI hM (.tail _ (.tail _ (.tail _ (.tail _ (.tail _ (.tail _ (.tail _ (.tail _ (.tail _ (.tail _ (.head _))))))))))) rfl rfl (by kernel_rfl) ⟨e69,e70,trivial⟩ (bf bK rfl rfl (by omega)) ag.rfl_ rfl
  constructor
  ·rintro S L' w25 hU hmo hme hI hM hC hS ⟨d10,-⟩;have hM':=hM;obtain ⟨hz25,hA25,hB25,hD25⟩:=hM';obtain ⟨v25_71,e71,h71⟩:=hI.get (i:=10) (.tail _ (.tail _ (.tail _ (.tail _ (.tail _ (.tail _ (.tail _ (.tail _ (.tail _ (.tail _ (.head _))))))))))) d10;obtain rfl:=h71;exact aN [(71,_)] hU hmo hme hI hM (.tail _ (.tail _ (.tail _ (.tail _ (.tail _ (.tail _ (.tail _ (.tail _ (.tail _ (.tail _ (.tail _ (.head _)))))))))))) rfl rfl (by kernel_rfl) ⟨e71,trivial⟩ (ai cQ rfl) ag.rfl_ rfl
  constructor
  ·rintro S L' w26 hU hmo hme hI hM hC hS ⟨d11,-⟩;have hM':=hM;obtain ⟨hz26,hA26,hB26,hD26⟩:=hM';obtain ⟨v26_72,e72,h72⟩:=hI.get (i:=11) (.tail _ (.tail _ (.tail _ (.tail _ (.tail _ (.tail _ (.tail _ (.tail _ (.tail _ (.tail _ (.tail _ (.head _)))))))))))) d11;obtain rfl:=h72;exact aN [(72,_)] hU hmo hme hI hM (.tail _ (.tail _ (.tail _ (.tail _ (.tail _ (.tail _ (.tail _ (.tail _ (.tail _ (.tail _ (.tail _ (.tail _ (.head _))))))))))))) rfl rfl (by kernel_rfl) ⟨e72,trivial⟩ (ai cR rfl) ag.rfl_ rfl
  constructor
  ·rintro S L' w27 hU hmo hme hI hM hC hS ⟨d12,-⟩;have hM':=hM;obtain ⟨hz27,hA27,hB27,hD27⟩:=hM';obtain ⟨v27_73,e73,h73⟩:=hI.get (i:=12) (.tail _ (.tail _ (.tail _ (.tail _ (.tail _ (.tail _ (.tail _ (.tail _ (.tail _ (.tail _ (.tail _ (.tail _ (.head _))))))))))))) d12;obtain rfl:=h73;exact aN [(73,_)] hU hmo hme hI hM (.tail _ (.tail _ (.tail _ (.tail _ (.tail _ (.tail _ (.tail _ (.tail _ (.tail _ (.tail _ (.tail _ (.tail _ (.tail _ (.head _)))))))))))))) rfl rfl (by kernel_rfl) ⟨e73,trivial⟩ (ao (v:=.slice fs3[i].vA fs3[i].vs.length fs3[i].vc) bQ rfl (by have h9:=Ct (hA27 (ay hC (j:=15) rfl (by kernel_rfl) hS)) (hce3 1 _ rfl);simpa [Nat.add_assoc] using h9)) (ag.rfl_) (rfl)
  constructor
  ·rintro S L' w28 hU hmo hme hI hM hC hS ⟨-⟩;have hM':=hM;obtain ⟨hz28,hA28,hB28,hD28⟩:=hM';have e2:=hI.1 2 (fj rfl);exact aN [(2,_)] hU hmo hme hI hM (.tail _ (.tail _ (.tail _ (.tail _ (.tail _ (.tail _ (.tail _ (.tail _ (.tail _ (.tail _ (.tail _ (.tail _ (.tail _ (.tail _ (.head _))))))))))))))) rfl rfl (by kernel_rfl) ⟨e2,trivial⟩ (aB (v:=.slice _ _ _) rfl) ag.rfl_ rfl
  constructor
  ·rintro S L' w29 hU hmo hme hI hM hC hS ⟨d13,d14,-⟩;have hM':=hM;obtain ⟨hz29,hA29,hB29,hD29⟩:=hM';obtain ⟨v29_74,e74,h74⟩:=hI.get (i:=13) (.tail _ (.tail _ (.tail _ (.tail _ (.tail _ (.tail _ (.tail _ (.tail _ (.tail _ (.tail _ (.tail _ (.tail _ (.tail _ (.head _)))))))))))))) d13;obtain rfl:=h74;obtain ⟨v29_75,e75,h75⟩:=hI.get (i:=14) (.tail _ (.tail _ (.tail _ (.tail _ (.tail _ (.tail _ (.tail _ (.tail _ (.tail _ (.tail _ (.tail _ (.tail _ (.tail _ (.tail _ (.head _))))))))))))))) d14;obtain rfl:=h75;have hF9:=hA29 hS;have hs9:=hF9.size;obtain ⟨f2,w2,hR,h1,h2,h3,h4,h5,h6,h7,h8,h9⟩:=vZ (ρ:=ev 80 [(74,_),(75,_)]) (s:=.tmp 74) (x:=.tmp 75) (f:=fs3[i]) (A2:=A2) (c2:=c2) (bs:=bs) (hfi3.from_ hF9) rfl rfl (hb3.from_ hF9) (by rw [hv3];omega);exact wO [(74,_),(75,_)] hU hI (.tail _ (.tail _ (.tail _ (.tail _ (.tail _ (.tail _ (.tail _ (.tail _ (.tail _ (.tail _ (.tail _ (.tail _ (.tail _ (.tail _ (.tail _ (.head _)))))))))))))))) rfl (by kernel_rfl) ⟨e74,e75,trivial⟩ hR ⟨Nat.le_trans hz29 h6.size,fun h0=>(by rw [mQ] at h0;cases h0),fun _=>hF9.toChg.next h6,fun h0=>(by rw [Bx (by decide),ay hC (j:=19) rfl (by kernel_rfl) hS] at h0;cases h0)⟩ ⟨f2,rfl,⟨h1,h2,h3,h4,h5,fun k hk=>(h8 k hk).imp (fun e=>e) fun e=>Nat.le_trans hs9 e,fun ho k hk=>(h9 ho k hk).imp (fun e=>e) fun e=>Nat.le_trans hs9 e⟩,fun _=>h7⟩ ⟨fun _ _ _ h=>h,fun _ _ _ h=>h,fun _ _ _ h=>h,fun _ _ _ h=>h,fun _ _ _ h=>h,fun _ _ _ h=>h,fun _ _ _ h=>h,fun _ _ _ h=>h,fun _ _ _ h=>h,fun _ _ _ h=>h,fun _ _ _ h=>h,fun _ _ _ h=>h,fun _ _ _ h=>h,fun _ _ _ h=>h,fun _ _ _ h=>h,(fun h=>by cases h),fun _ _ _ h=>h,fun _ _ _ h=>h,fun _ _ _ h=>h,trivial⟩
  constructor
  ·rintro S L' w30 hU hmo hme hI hM hC hS ⟨d3,d4,d0,d1,d2,d3,d4,d5,d6,d7,d8,d9,d10,d11,d12,d13,d14,d15,-⟩;have hM':=hM;obtain ⟨hz30,hA30,hB30,hD30⟩:=hM';obtain ⟨v30_64,e64,h64⟩:=hI.get (i:=3) (.tail _ (.tail _ (.tail _ (.head _)))) d3;obtain rfl:=h64;obtain ⟨v30_65,e65,h65⟩:=hI.get (i:=4) (.tail _ (.tail _ (.tail _ (.tail _ (.head _))))) d4;obtain rfl:=h65;exact aN [(64,_),(65,_)] hU hmo hme hI hM (.tail _ (.tail _ (.tail _ (.tail _ (.tail _ (.tail _ (.tail _ (.tail _ (.tail _ (.tail _ (.tail _ (.tail _ (.tail _ (.tail _ (.tail _ (.tail _ (.head _))))))))))))))))) rfl rfl (by kernel_rfl) ⟨e64,e65,trivial⟩ (bf bK rfl rfl (by omega)) ag.rfl_ rfl
  constructor
  ·rintro S L' w31 hU hmo hme hI hM hC hS ⟨d16,d0,d1,d2,d3,d4,d5,d6,d7,d8,d9,d10,d11,d12,d13,d14,d15,-⟩;have hM':=hM;obtain ⟨hz31,hA31,hB31,hD31⟩:=hM';obtain ⟨v31_77,e77,h77⟩:=hI.get (i:=16) (.tail _ (.tail _ (.tail _ (.tail _ (.tail _ (.tail _ (.tail _ (.tail _ (.tail _ (.tail _ (.tail _ (.tail _ (.tail _ (.tail _ (.tail _ (.tail _ (.head _))))))))))))))))) d16;obtain rfl:=h77;exact aN [(77,_)] hU hmo hme hI hM (.tail _ (.tail _ (.tail _ (.tail _ (.tail _ (.tail _ (.tail _ (.tail _ (.tail _ (.tail _ (.tail _ (.tail _ (.tail _ (.tail _ (.tail _ (.tail _ (.tail _ (.head _)))))))))))))))))) rfl rfl (by kernel_rfl) ⟨e77,trivial⟩ (ai cQ rfl) ag.rfl_ rfl
  constructor
  ·rintro S L' w32 hU hmo hme hI hM hC hS ⟨d17,d0,d1,d2,d3,d4,d5,d6,d7,d8,d9,d10,d11,d12,d13,d14,d15,-⟩;have hM':=hM;obtain ⟨hz32,hA32,hB32,hD32⟩:=hM';obtain ⟨v32_78,e78,h78⟩:=hI.get (i:=17) (.tail _ (.tail _ (.tail _ (.tail _ (.tail _ (.tail _ (.tail _ (.tail _ (.tail _ (.tail _ (.tail _ (.tail _ (.tail _ (.tail _ (.tail _ (.tail _ (.tail _ (.head _)))))))))))))))))) d17;obtain rfl:=h78;exact aN [(78,_)] hU hmo hme hI hM (.tail _ (.tail _ (.tail _ (.tail _ (.tail _ (.tail _ (.tail _ (.tail _ (.tail _ (.tail _ (.tail _ (.tail _ (.tail _ (.tail _ (.tail _ (.tail _ (.tail _ (.tail _ (.head _))))))))))))))))))) rfl rfl (by kernel_rfl) ⟨e78,trivial⟩ (ai cR rfl) ag.rfl_ rfl
  constructor
  ·rintro S L' w33 hU hmo hme hI hM hC hS ⟨d18,d15,d15,d0,d1,d2,d3,d4,d5,d6,d7,d8,d9,d10,d11,d12,d13,d14,d15,-⟩;have hM':=hM;obtain ⟨hz33,hA33,hB33,hD33⟩:=hM';obtain ⟨v33_76,e76,h76⟩:=hI.get (i:=15) (.tail _ (.tail _ (.tail _ (.tail _ (.tail _ (.tail _ (.tail _ (.tail _ (.tail _ (.tail _ (.tail _ (.tail _ (.tail _ (.tail _ (.tail _ (.head _)))))))))))))))) d15;obtain ⟨f2,rfl,hq2,hq3⟩:=h76;obtain ⟨v33_79,e79,h79⟩:=hI.get (i:=18) (.tail _ (.tail _ (.tail _ (.tail _ (.tail _ (.tail _ (.tail _ (.tail _ (.tail _ (.tail _ (.tail _ (.tail _ (.tail _ (.tail _ (.tail _ (.tail _ (.tail _ (.tail _ (.head _))))))))))))))))))) d18;obtain rfl:=h79;have hCh:=hB33 hS;have s15:S 15=true:=d15;have hrow:=eX h3.row hCh (fun q hq e=>h3.bp (List.getElem_mem hi3) (.inl e.2) hq);have hco:=hrow.cellAt (i*3+1) (by omega);have hlF:=lr gy fs3;rw [List.getElem?_eq_getElem (by omega)] at hco;have hO:=cY.setCell w33 g (i*3+1) (.slice f2.vA f2.vs.length f2.vc);have hg9:g<w33.heap.size:=Nat.lt_of_lt_of_le hg3 hz33
   have hfo:gq _ f2:=(hq3 hS).chg (hO.toChg (U:=fun k=>k=g) rfl) fun q hq e=>by
    rcases hq2.2.2.2.2.2.1 q hq with e2 | e2
    ·exact h3.bp (List.getElem_mem hi3) e2 (by rw [e];rfl)
    ·omega
   exact qX [(76,_),(79,_)] hI (BE rfl) rfl (by kernel_rfl) ⟨e76,e79,trivial⟩ (kX (v:=.slice f2.vA f2.vs.length f2.vc) kQ (by show Value.pointer (some ⟨g,0+i*3+1+0,none⟩)=Value.pointer (some ⟨g,i*3+1,none⟩);rw [Nat.zero_add]) rfl rfl hco (hrow.frozenAt _)) ⟨Nat.le_trans hz33 (Nat.le_of_eq hO.size.symm),fun h0=>(by rw [Bx (by decide),s15] at h0;cases h0),fun h0=>(by rw [mQ] at h0;cases h0),fun _=>⟨f2,hq2,(hCh.wide fun k hk=>.inl (.inr hk)).next (hO.toChg (.inl rfl)),(hrow.stored _ _).1,hfo⟩⟩ ⟨fun _ _ _ h=>h,fun _ _ _ h=>h,fun _ _ _ h=>h,fun _ _ _ h=>h,fun _ _ _ h=>h,fun _ _ _ h=>h,fun _ _ _ h=>h,fun _ _ _ h=>h,fun _ _ _ h=>h,fun _ _ _ h=>h,fun _ _ _ h=>h,fun _ _ _ h=>h,fun _ _ _ h=>h,fun _ _ _ h=>h,fun _ _ _ h=>h,fun _ _ _ ⟨f3,h1,h2,h3⟩=>⟨f3,h1,h2,fun h0=>(by rw [mQ] at h0;cases h0)⟩,fun _ _ _ h=>h,fun _ _ _ h=>h,fun _ _ _ h=>h,trivial⟩
  exact trivial
 case hend=>
  intro w34 hM;obtain ⟨hz34,hA34,hB34,hD34⟩:=hM;rintro v34_61 rfl v34_62 rfl v34_63 rfl v34_64 rfl v34_65 rfl v34_66 rfl v34_67 rfl v34_68 rfl v34_69 rfl v34_70 rfl v34_71 rfl v34_72 rfl v34_73 rfl v34_74 rfl v34_75 rfl v34_76 ⟨f2,rfl,hq2,hq3⟩ v34_77 rfl v34_78 rfl v34_79 rfl;refine fq ?_;obtain ⟨f3,⟨hq1,hq2v,hq3d,hq4,hq5,hq7,hq8⟩,hCC,hP,hfo⟩:=hD34 rfl;refine ae (af (ab (asi rfl (ah (ae (aC (bz (v:=.int _ _) rfl rfl ?_)))))));rw [q7 gy fs3 i 1 hi3 (by decide) f3 (.slice f3.vA f3.vs.length f3.vc) (by unfold flV;rw [hq1,hq3d,hq4,hq5];rfl)] at hP;have hk:=(h3.put hi3 (f':=f3) hCC hP hfo hq7 hq8).from_ ag.rfl_;have hCC:=hCC.next (ag.rfl_).toChg;have hs3:=hok3.1;have hz3:=hok3.2.2 _ (List.getElem_mem hia3);rw [bP] at hz3
  have hD:aS (fs3.set i f3)=qe (aS fs3) nm (eB (aS fs) nm++bs):=by
   rw [lB,zj hs3 hia3 hk13,bP];unfold Fl.abs;rw [hq1,hq2v,hq3d,hn3,hv3]
  have e1:jl (aS fs) fu off nm bs.length=0:=by
   unfold jl;rw [if_neg (by omega),if_neg (by omega),if_neg (fun h9=>hcap3 h9.1 h9.2)]
  rw [e1];have hvl:f3.vs.length≤1048576:=by rw [hq2v,hv3,List.length_append];omega
  have hT4:Chg U w w34:=hT3.trans hCC fun k hk=>by
   rcases hk with e | e
   ·exact (hft3 k (.inr (.inl e))).imp (hU k) fun e=>e
   ·exact (hft3 k (.inr (.inr ⟨_,List.getElem_mem hi3,.inl e.2⟩))).imp (hU k) fun e=>e
  refine ⟨rfl,?_,hT4⟩;rw [show kI (aS fs) fu off nm bs=aS (fs3.set i f3) by unfold kI;rw [e1,if_pos rfl,hD,hab3]];refine dJ hU hk (DOk.set hok3 hs3 hi3 f3 hq1 hvl (by rw [hq3d];exact hz3.2)) (c_ hfu0 _) fun k hk=>?_
  have hsz:=hT3.size;rcases hk with e | e | ⟨f3,h4,e⟩
  ·exact hft3 k (.inl e)
  ·exact hft3 k (.inr (.inl e))
  ·rcases List.mem_or_eq_of_mem_set h4 with h4 | h4
   ·exact hft3 k (.inr (.inr ⟨f3,h4,e⟩))
   ·rw [h4] at e;rcases hq7 k e with e2 | e2
    ·exact hft3 k (.inr (.inr ⟨_,List.getElem_mem hi3,e2⟩))
    ·exact .inr (Nat.le_trans hsz e2)
theorem ki:fK prog 97=some true:=by kernel_rfl
theorem kh:cS prog 97=some 2:=by kernel_rfl
theorem o3:∀ (a0:ByteArray) (a1:Option Addr) (a2 a3:Nat) (a4:Option Addr) (a5 a6:Nat),prog.built 99 [(0,.string a0),(1,.agg #[.slice a1 a2 a3,.slice a4 a5 a6])]=some #[.string a0,.slice a1 a2 a3,.slice a4 a5 a6]:=by intros;kernel_rfl
def gk (D:List Fe) (fu:Nat) (off:Bool) (a b:ByteArray):Int:=opE D (okN a&&okN b) fu off a
def gR (D:List Fe) (fu:Nat) (off:Bool) (a b:ByteArray):List Fe:=if gk D fu off a b=0 then (if a=b then D else eW (ic (ic D a) b) (b,eB D a,rN D a)) else D
theorem zI {w:World} {g i:Nat} {f:Fl} (h:w.rangeAt g (0+i*3) (flV f)):w.rangeAt g (i*3+1) [.slice f.vA f.vs.length f.vc,.slice f.dA f.ds.length f.dc]:=fun j v hj=>by
 have:=h (j+1) v hj;rw [Nat.zero_add] at this;rw [show i*3+1+j=i*3+(j+1) by omega];exact this
theorem nB {P:Program} {ρ:Operand→Value} {w:World} {t:TypeId} {x:Operand} {e by_:Nat} {z v z0 z1 z2 u0 u1 u2:Value} (hq:eU P t=some (e,3,by_,z)) (hz:z.cells=#[z0,z1,z2]) (hx:ρ x=v) (hv:v.cells=#[u0,u1,u2]):RO P ρ (.buildSlice t 1 #[(0,x)]) w (.slice (some ⟨w.heap.size,0,none⟩) 1 1) (w.alloc (.cells #[u0,u1,u2] e)):=by
 refine qa (l:=[(0,x)]) (cells:=#[u0,u1,u2]) hq rfl rfl ?_
 have e1:(Array.range (1*3)).map (z.cells[·%z.cells.size]!)=#[z0,z1,z2]:=by
  rw [hz,show Array.range (1*3)=#[0,1,2] from rfl];simp
 rw [e1];simp [Instr.fill,hx,hv]
section
variable {w w':World} {d:Nat} {fs:List Fl} {Ap Ap':Option Addr} {cp cp':Nat} {ca:Int} {fu:Nat} {off:Bool}
theorem DkH.ins (h:DkH w d fs Ap cp ca fu off) {i:Nat} {f':Fl} (c:Chg (fun k=>k=d∨Ap.map (·.block)=some k) w w') (hb:Blk w' d 90 #[.slice Ap' (fs.length+1) cp',.int .i64 ca,.int .i64 (fu:Nat),.bool off]) (hi:i≤fs.length)
 (hr:w'.ownsRow 0 99 3 (.slice Ap' (fs.length+1) cp') (fs.length+1) ((fs.take i++f'::fs.drop i).flatMap flV)) (hf:gq w' f') (hs:∀ g∈fs,Sep g f'):DkH w' d (fs.take i++f'::fs.drop i) Ap' cp' ca fu off:=by
 refine ⟨by rw [zG hi];exact hb,by rw [zG hi];exact hr,fun g hg=>?_,?_⟩
 ·rcases List.mem_append.1 hg with hg | hg
  ·have hm:=List.mem_of_mem_take hg;exact (h.ok g hm).chg c fun k hk e=>e.elim (h.bd hm hk) (h.bp hm hk)
  ·rcases List.mem_cons.1 hg with rfl | hg
   ·exact hf
   ·have hm:=List.mem_of_mem_drop hg;exact (h.ok g hm).chg c fun k hk e=>e.elim (h.bd hm hk) (h.bp hm hk)
 ·have h0:(fs.take i++fs.drop i).Pairwise Sep:=by rw [List.take_append_drop];exact h.ap
  rw [List.pairwise_append] at h0 ⊢;refine ⟨h0.1,List.pairwise_cons.2 ⟨fun g hg=>(hs g (List.mem_of_mem_drop hg)).symm,h0.2.1⟩,fun a ha b hb=>?_⟩;rcases List.mem_cons.1 hb with rfl | hb
  ·exact hs a (List.mem_of_mem_take ha)
  ·exact h0.2.2 a ha b hb
theorem DOk.ren {D:List Fe} (h:DOk D) {a b:ByteArray} (hh:gv D a=true) (_:a≠b):DOk (eW (ic (ic D a) b) (b,eB D a,rN D a)):=by
 obtain ⟨e0,he0,hk0⟩:=iM.1 hh;have hlt:(ic D a).length<D.length:=List.length_filter_lt_length_iff_exists.2 ⟨e0,he0,by simpa using hk0⟩;have hl2:(ic (ic D a) b).length≤(ic D a).length:=List.length_filter_le _ _;obtain ⟨i,hi,hx⟩:=List.getElem_of_mem he0;have hgv:=jf h.1 hi (hx ▸ hk0);have hgs:=uA h.1 hi (hx ▸ hk0);have hz:=h.2.2 _ (List.getElem_mem hi);refine ⟨((h.1.del a).del b).ins (fun e he=>(jO.1 he).2) _ _,by rw [rL];have:=h.2.1;omega,fun e he=>?_⟩;rcases rJ.1 he with rfl | he
 ·rw [hgv,hgs];exact hz
 ·exact h.2.2 e (jO.1 (jO.1 he).1).1
end
theorem vd (U:Nat→Prop) (d:Nat) (D:List Fe) (fu:Nat) (off:Bool) (w:World) (hd:cP w U d D fu off) (nm:ByteArray) (hn:nm.size≤140737488351232) (n2:ByteArray) (hn2:n2.size≤140737488351232) :
 Rt prog 96 [.pointer (some ⟨d,0,none⟩),.string nm,.string n2] w (fun v w'=>v=.int .i64 (gk D fu off nm n2)∧cP w' (Nx U w w') d (gR D fu off nm n2) (fuB (okN nm&&okN n2) fu) (kk (okN nm&&okN n2) fu off)∧Chg U w w'):=by
 have hd0:=hd;obtain ⟨fs,Ap,cp,ca,h,hD,hok,hfu0,hU⟩:=hd;subst hD;obtain ⟨hs,hl,hz⟩:=hok;rw [aR] at hl;refine enter (n:=57) Tryz.func96 rfl rfl rfl (af (ab (asi rfl (ah (ae (af (ab (mvp rfl (mvg rfl (mvg rfl (yZ [.tmp 14,.tmp 15] [.string _,.string _] de rfl rfl rfl rfl (by simp [Value.cells]) ?_)))))))))));intro b16 w1 E16 hb16 hk16;have hF11:ag w _:=(ag.rfl_.next E16);have hbd:b16≠d:=by have:=h.blk.lt;omega
 refine av kR (xr (h.from_ (ag.rfl_.next E16)) hs hl hfu0 hn hn2 hk16 hbd) ?_;rintro v17 w2 ⟨hop,⟨ca2,h2⟩,hC11⟩;have hT:=(hF11.toChg (U:=U)).next (hC11.wide fun k hk=>.inl (by rw [hk];exact hU d (.inl rfl)));rcases hop with ⟨hz0,rfl⟩ | ⟨hz0,i,fd,hf,⟨hfd,rfl⟩ | ⟨hfd,g,rfl,rfl⟩⟩
 ·refine mvt rfl (aa (ar rfl rfl) (aa (ar rfl rfl) (asp rfl (asi rfl (ah (ae (af (af (ab (mvi rfl (aa (cv rfl rfl) (mvb rfl ?_))))))))))));refine Bp (t:=22) rfl (fun Q3=>?_) (fun Q3=>?_);rotate_left
  ·exfalso;omega
  refine aA rfl rfl (aA rfl rfl (aA rfl rfl (aa (aO (v:=.bool _) rfl rfl) (ah (ae (aY rfl (af (ab (mvi rfl (asi rfl ?_))))))))));refine ah (ae (aC (aF (bz (v:=.int _ _) rfl rfl ?_))))
  first
   |(have e1:gk (aS fs) fu off nm n2=bE (okN nm&&okN n2) fu off:=by unfold gk opE;rw [if_pos hz0]
     rw [e1];refine ⟨rfl,?_,hT.next (ag.rfl_).toChg⟩;rw [show gR (aS fs) fu off nm n2=aS fs by unfold gR;rw [e1,if_neg hz0]];exact dJ hU (h2.from_ ag.rfl_) ⟨hs,by rw [aR];exact hl,hz⟩ (c_ hfu0 _) fun k hk=>.inl hk)
   |(have e1:gk (aS fs) fu off nm n2=3:=by unfold gk opE;rw [if_neg (by omega),hf.has hs,hfd];rfl
     rw [e1];refine ⟨rfl,?_,hT.next (ag.rfl_).toChg⟩;rw [show gR (aS fs) fu off nm n2=aS fs by unfold gR;rw [e1,if_neg (by decide)]];exact dJ hU (h2.from_ ag.rfl_) ⟨hs,by rw [aR];exact hl,hz⟩ (c_ hfu0 _) fun k hk=>.inl hk)
   |(have e1:gk (aS fs) fu off nm n2=0:=by unfold gk opE;rw [if_neg (by omega),hf.has hs,hfd];rfl
     have e2:nm=n2:=by first | assumption | (apply gr;assumption) | (apply gr;simp_all)
     rw [e1];refine ⟨rfl,?_,hT.next (ag.rfl_).toChg⟩;rw [show gR (aS fs) fu off nm n2=aS fs by unfold gR;rw [e1,if_pos rfl,if_pos e2]];exact dJ hU (h2.from_ ag.rfl_) ⟨hs,by rw [aR];exact hl,hz⟩ (c_ hfu0 _) fun k hk=>.inl hk)
 ·refine mvt rfl (aa (ar rfl rfl) (aa (ar rfl rfl) (asp rfl (asi rfl (ah (ae (af (af (ab (mvi rfl (aa (cv rfl rfl) (mvb rfl ?_))))))))))));refine Bp (t:=22) rfl (fun Q23=>?_) (fun Q23=>?_);rotate_left
  ·exfalso;omega
  refine aA rfl rfl (aA rfl rfl (aA rfl rfl (aa (aO (v:=.bool _) rfl rfl) (ah (ae (aY rfl (af (ab (mvi rfl (asi rfl ?_))))))))));refine ah (ae (aC (aF (bz (v:=.int _ _) rfl rfl ?_))))
  first
   |(have e1:gk (aS fs) fu off nm n2=bE (okN nm&&okN n2) fu off:=by unfold gk opE;rw [if_pos hz0]
     rw [e1];refine ⟨rfl,?_,hT.next (ag.rfl_).toChg⟩;rw [show gR (aS fs) fu off nm n2=aS fs by unfold gR;rw [e1,if_neg hz0]];exact dJ hU (h2.from_ ag.rfl_) ⟨hs,by rw [aR];exact hl,hz⟩ (c_ hfu0 _) fun k hk=>.inl hk)
   |(have e1:gk (aS fs) fu off nm n2=3:=by unfold gk opE;rw [if_neg (by omega),hf.has hs,hfd];rfl
     rw [e1];refine ⟨rfl,?_,hT.next (ag.rfl_).toChg⟩;rw [show gR (aS fs) fu off nm n2=aS fs by unfold gR;rw [e1,if_neg (by decide)]];exact dJ hU (h2.from_ ag.rfl_) ⟨hs,by rw [aR];exact hl,hz⟩ (c_ hfu0 _) fun k hk=>.inl hk)
   |(have e1:gk (aS fs) fu off nm n2=0:=by unfold gk opE;rw [if_neg (by omega),hf.has hs,hfd];rfl
     have e2:nm=n2:=by first | assumption | (apply gr;assumption) | (apply gr;simp_all)
     rw [e1];refine ⟨rfl,?_,hT.next (ag.rfl_).toChg⟩;rw [show gR (aS fs) fu off nm n2=aS fs by unfold gR;rw [e1,if_pos rfl,if_pos e2]];exact dJ hU (h2.from_ ag.rfl_) ⟨hs,by rw [aR];exact hl,hz⟩ (c_ hfu0 _) fun k hk=>.inl hk)
 obtain ⟨hi,hi2⟩:=hf.2.1 hfd;have hia:i<(aS fs).length:=by rw [aR];exact hi
 have hk1:(aS fs)[i].1=nm:=by rw [bP];exact hi2
 have hzi:=hz _ (List.getElem_mem hia);rw [bP] at hzi;have hz1:fs[i].vs.length≤1048576:=hzi.1;have hz2:fs[i].ds.length≤1048576:=hzi.2;have hgv:eB (aS fs) nm=fs[i].vs:=by rw [jf hs hia hk1,bP];rfl
 obtain ⟨bp,op,e9,hcd⟩:=(kY h2.row).2 (by omega);cases e9;have hce:=hcd i hi;have hfi:=h2.ok _ (List.getElem_mem hi);have hgs:rN (aS fs) nm=fs[i].ds:=by rw [uA hs hia hk1,bP];rfl
 refine mvt rfl (aa (ar rfl rfl) (aa (ar rfl rfl) (asp rfl (asi rfl (ah (ae (af (af (ab (mvi rfl (aa (cv rfl rfl) (mvb rfl ?_))))))))))));refine Bp (t:=22) rfl (fun Q43=>?_) (fun Q43=>?_)
 ·exfalso;omega
 refine ak rfl (mvg rfl (ak rfl (mvg rfl (ak rfl (aa (iW rfl rfl) (aa (aQ (v:=.bool _) rfl rfl) (ah (ae (BL rfl (fun Q44=>?_) (fun Q44=>?_))))))))))
 ·refine af (ab (mvi rfl (asi rfl (ah (ae (aC (aF (bz (v:=.int _ _) rfl rfl ?_))))))))
  first
   |(have e1:gk (aS fs) fu off nm n2=bE (okN nm&&okN n2) fu off:=by unfold gk opE;rw [if_pos hz0]
     rw [e1];refine ⟨rfl,?_,hT.next (ag.rfl_).toChg⟩;rw [show gR (aS fs) fu off nm n2=aS fs by unfold gR;rw [e1,if_neg hz0]];exact dJ hU (h2.from_ ag.rfl_) ⟨hs,by rw [aR];exact hl,hz⟩ (c_ hfu0 _) fun k hk=>.inl hk)
   |(have e1:gk (aS fs) fu off nm n2=3:=by unfold gk opE;rw [if_neg (by omega),hf.has hs,hfd];rfl
     rw [e1];refine ⟨rfl,?_,hT.next (ag.rfl_).toChg⟩;rw [show gR (aS fs) fu off nm n2=aS fs by unfold gR;rw [e1,if_neg (by decide)]];exact dJ hU (h2.from_ ag.rfl_) ⟨hs,by rw [aR];exact hl,hz⟩ (c_ hfu0 _) fun k hk=>.inl hk)
   |(have e1:gk (aS fs) fu off nm n2=0:=by unfold gk opE;rw [if_neg (by omega),hf.has hs,hfd];rfl
     have e2:nm=n2:=by first | assumption | (apply gr;assumption) | (apply gr;simp_all)
     rw [e1];refine ⟨rfl,?_,hT.next (ag.rfl_).toChg⟩;rw [show gR (aS fs) fu off nm n2=aS fs by unfold gR;rw [e1,if_pos rfl,if_pos e2]];exact dJ hU (h2.from_ ag.rfl_) ⟨hs,by rw [aR];exact hl,hz⟩ (c_ hfu0 _) fun k hk=>.inl hk)
 have hne:nm≠n2:=by first | assumption | (intro h9;subst h9;simp_all)
 refine aE (ae (af (ab (mvg rfl (mvp rfl (aa (au rfl) (aa (ai cQ rfl) (aa (aG (cs:=[_,_]) ki kh rfl (by exact dU ag.rfl_ (zI hce))) ?_))))))));refine aa (bN (l:=[(0,.tmp 28),(1,.tmp 32)]) (o3 _ _ _ _ _ _ _)) (aZ kS ?_);intro b9 w45 E9 hb9 hk9;have hz9:=((ag.rfl_ (a:=w2))).size;refine aV (vs:=[_,_,_]) ff rfl rfl (by simp [Value.oneCell']) (hk9) rfl ?_;intro w46 O4 P4;refine ah (ae (af (ab (mvp rfl (mvg rfl ?_)))));have hF36:ag _ w46:=(((ag.rfl_ (a:=w2)).next E9).only O4 ((by rw [hb9];exact Nat.le_refl _)));have h36:=h2.from_ hF36;refine av kT (da d fs _ cp ca2 _ _ _ h36 hs hl (c_ hfu0 _) nm) ?_;rintro v36 w47 ⟨rfl,fs2,Ap2,cp2,h3,hab2,hC36,hsub2,hA2⟩;have hT2:=(hT.next hF36.toChg).next (hC36.wide fun k hk=>.inl (hU k (hk.elim .inl fun e=>.inr (.inl e))));have P5:=P4.chg hC36 (fun hk=>hk.elim (fun e=>by have:=h2.blk.lt;omega) (fun e=>by have:=(gl h2.row b9 e).2;omega));have hs2:KS (aS fs2):=by rw [hab2];exact hs.del nm
 have hl2:fs2.length≤16:=by rw [←aR,hab2];exact Nat.le_trans (List.length_filter_le _ _) (by rw [aR];exact hl)
 have hfi5:=(hfi.from_ hF36).chg hC36 (fun k hk e=>e.elim (h2.bd (List.getElem_mem hi) hk) (h2.bp (List.getElem_mem hi) hk));refine ah (ae (af (ab (mvp rfl (mvg rfl ?_)))));have hF39:ag _ w47:=ag.rfl_;have h39:=h3.from_ hF39;refine av kT (da d fs2 Ap2 cp2 ca2 _ _ _ h39 hs2 hl2 (c_ hfu0 _) n2) ?_;rintro v39 w48 ⟨rfl,fs4,Ap4,cp4,h4,hab4,hC39,hsub4,hA4⟩;have hT3:=(hT2.next hF39.toChg).next (hC39.wide fun k hk=>.inl (hU k (hk.elim .inl fun e=>.inr (.inl (hA2 k e)))));have P6:=(P5.from_ hF39).chg hC39 (fun hk=>hk.elim (fun e=>by have:=h2.blk.lt;omega) (fun e=>by have:=(gl h2.row b9 (hA2 _ e)).2;omega));have hs4:KS (aS fs4):=by rw [hab4];exact hs2.del n2
 have hl4:fs4.length≤16:=by rw [←aR,hab4];exact Nat.le_trans (List.length_filter_le _ _) (by rw [aR];exact hl2)
 have hfi6:=(hfi5.from_ hF39).chg hC39 (fun k hk e=>e.elim (h2.bd (List.getElem_mem hi) hk) (fun e=>h2.bp (List.getElem_mem hi) hk (hA2 k e)));refine ah (ae (af (ab (mvp rfl (mvg rfl (av h_ (lu d fs4 Ap4 cp4 ca2 _ _ _ (h4.from_ ag.rfl_) hs4 hl4 (c_ hfu0 _) n2) ?_))))));rintro v43 w49 ⟨⟨i4,fd4,rfl,hf4⟩,E43⟩;have h8:=h4.from_ (ag.rfl_.next E43);have hP8:=P6.from_ (ag.rfl_.next E43);have hB8:=h8.blk;have hR8:=h8.row;have hT8:=hT3.next ((ag.rfl_.next E43)).toChg;have hi4:i4≤fs4.length:=by have:=hf4.1.le;rwa [aR] at this
 obtain ⟨f2,hf2⟩:∃ f2:Fl,f2={ fs[i] with nm:=n2 }:=⟨_,rfl⟩;have hfi8:gq w49 f2:=by rw [hf2];exact ⟨(hfi6.from_ (ag.rfl_.next E43)).v,(hfi6.from_ (ag.rfl_.next E43)).d,(hfi6.from_ (ag.rfl_.next E43)).vt,(hfi6.from_ (ag.rfl_.next E43)).dt,(hfi6.from_ (ag.rfl_.next E43)).o,(hfi6.from_ (ag.rfl_.next E43)).n⟩
 have hbd8:∀ k,f2.B k→k≠d:=by rw [hf2];exact fun k hk=>h2.bd (List.getElem_mem hi) hk
 have hbp8:∀ k,f2.B k→Ap4.map (·.block)≠some k:=by rw [hf2];exact fun k hk e=>h2.bp (List.getElem_mem hi) hk (hA2 k (hA4 k e))
 have hsep8:∀ g∈fs4,Sep g f2:=fun g hg=>by
  have hm:=hsub2 g (hsub4 g hg)
  have hnm:g.nm≠nm:=fun e=>by
   have h9:g.abs∈ic (aS fs) nm:=by rw [←hab2];exact List.mem_map_of_mem (hsub4 g hg)
   exact (jO.1 h9).2 e
  obtain ⟨j,hj,rfl⟩:=List.getElem_of_mem hm;have hji:j≠i:=fun e=>by subst e;exact hnm hi2
  have hs9:Sep fs[j] fs[i]:=by
   rcases Nat.lt_or_gt_of_ne hji with e | e
   ·exact List.pairwise_iff_getElem.1 h2.ap j i hj hi e
   ·exact (List.pairwise_iff_getElem.1 h2.ap i j hi hj e).symm
  rw [hf2];exact ⟨hs9.1,hs9.2⟩
 refine mvt rfl (aa (ar rfl rfl) (aa (ar rfl rfl) (asi rfl (asb rfl (ah (ae (af ?_)))))));apply tA 9 8 [53] [(46,eqp _),(47,eqp _),(48,eqp _),(49,eqp _),(50,eqp (.slice Ap4 fs4.length cp4)),(51,eqp _),(52,eqp (.agg (flV f2).toArray)),(53,fun v w'=>∃ q,v=.slice (some ⟨q,0,none⟩) 1 1∧Blk w' q 99 (flV f2).toArray∧(w49).heap.size≤q),(54,fun v w'=>∃ A5 c5,v=.slice A5 (fs4.length+1) c5∧w'.ownsRow 0 99 3 (.slice A5 (fs4.length+1) c5) (fs4.length+1) ((fs4.take i4++f2::fs4.drop i4).flatMap flV)∧∀ q,A5.map (·.block)=some q→Ap4.map (·.block)=some q∨(w49).heap.size≤q)] (fun w'=>ag w49 w') (fun w'=>Chg (fun k=>k=d∨Ap4.map (·.block)=some k) w49 w'∧Blk w' d 90 #[.slice Ap4 fs4.length cp4,.int .i64 ca2,.int .i64 (fuB (okN nm&&okN n2) fu:Nat),.bool (kk (okN nm&&okN n2) fu off)]) (by repeat first | exact cr | refine cq ?_ | refine bU ?_) (by kernel_rfl) (by kernel_rfl) (by kernel_rfl) ⟨aj _,aj _,aj _,aj _,aj _,aj _,aj _,(fun _ _ _ hF ⟨q,h1,h2,h3⟩=>⟨q,h1,h2.from_ hF,h3⟩),(fun _ _ _ hF ⟨A2,c2,h1,h2,h3⟩=>⟨A2,c2,h1,h2.kept_from hF,h3⟩),trivial⟩ (ag.rfl_.d1) (⟨ag.rfl_.d1.toChg,hB8.from_ ag.rfl_.d1⟩) (fun _ _ hF h=>h.next hF) (fun _ _ hF h=>⟨h.1.next hF.toChg,h.2.from_ hF⟩)
 case hop=>
  constructor
  ·rintro-w51 ⟨hC51,hb51⟩;exact an (aB (v:=.pointer _) rfl) rfl
  constructor
  ·rintro-w52 ⟨hC52,hb52⟩;exact an (aB (v:=.pointer _) rfl) rfl
  constructor
  ·rintro-w53 ⟨hC53,hb53⟩;rintro _ rfl;exact an (au rfl) rfl
  constructor
  ·rintro-w54 D54;rintro _ rfl;exact an (ai cd rfl) rfl
  constructor
  ·rintro-w55 D55;rintro _ rfl;exact an (ao dG rfl ((hB8.from_ D55).rd 0 rfl)) rfl
  constructor
  ·rintro-w56 D56;exact an (aB (v:=.int _ _) rfl) rfl
  constructor
  ·rintro-w57 D57;exact an (aG (cs:=flV f2) iT ff rfl (by rw [hf2];exact (hP8.from_ D57).whole)) rfl
  constructor
  ·rintro-w58 D58;rintro v58_52 rfl;exact fC (nB eA rfl rfl rfl) (ag.rfl_.new _) ⟨_,rfl,Blk.new _ _ _,D58.size⟩
  constructor
  ·intro h;cases h
  exact trivial
 case hmu=>
  rintro w60 D60;rintro v60_50 rfl _ rfl v60_53 ⟨q60,rfl,hq60,hqs60⟩;show qO ..;refine zv pT (nV 0 Ap4 cp4 fs4.length i4 1 q60 0 1 (fs4.flatMap flV) (flV f2) _ _ _ ((hR8.kept_from D60)) (Nat.zero_le _) hi4 (by decide) rfl hq60.whole hq60 (fun k hk e=>by have:=(gl hR8 k hk).2;omega) (qt _) (jL _) (by omega)) ?_;rintro v w3 ⟨⟨A2,c2,rfl,ho3,hA3⟩,hg3⟩;rw [Ax] at ho3;have hs9:=D60.size;refine ⟨⟨D60.toChg.next (Chg.of_grown hg3 (fun k e=>.inr e)),(hB8.from_ D60).grown hg3 (dX (hR8.kept_from D60) (hB8.from_ D60) (by decide))⟩,⟨A2,c2,rfl,ho3,fun q hq=>(hA3 q hq).imp (fun e=>e) fun e=>Nat.le_trans hs9 e⟩,fun t u ht h=>lj (by repeat first | exact trivial | refine ⟨.inl rfl,?_⟩ | refine ⟨.inr (fun _ h=>h),?_⟩) t u ht h⟩
 case hend=>
  rintro w61 ⟨hC61,hb61⟩;rintro _ rfl _ rfl _ rfl _ rfl v50 rfl _ rfl v52 rfl v53 _ v54 ⟨A54,c54,rfl,ho54,hA54⟩;show St ..;have hC8:=hC61;have hbb:=hb61;refine aa (au rfl) (aa (ai cd rfl) (cT (v:=.slice _ _ _) hH rfl rfl rfl (hbb) (by show 0<4;decide) ?_));intro w62 O8 P8;refine ah (ae (af (ab (asi rfl (ah (ae (aC (bz (v:=.int _ _) rfl rfl ?_))))))));have e1:gk (aS fs) fu off nm n2=0:=by unfold gk opE;rw [if_neg (by omega),hf.has hs,hfd];rfl
  have hC9:Chg (fun k=>k=d∨Ap4.map (·.block)=some k) _ w62:=hC8.next (O8.toChg (.inl rfl));have hr:=eE ho54 O8 (dX ho54 hbb (by decide));have hfo:gq w62 f2:=hfi8.chg hC9 fun k hk e=>e.elim (fun e=>hbd8 k hk e) (fun e=>hbp8 k hk e)
  have hk:=h8.ins hC9 P8 hi4 hr hfo hsep8
  have hab:aS (fs4.take i4++f2::fs4.drop i4)=eW (ic (ic (aS fs) nm) n2) (n2,eB (aS fs) nm,rN (aS fs) nm):=by
   rw [r7,←hab2,←hab4,hgv,hgs,hf4.1.ins,hf2];rfl
  rw [e1];have hT9:=hT8.next (hC9.wide fun k hk=>.inl (hk.elim (fun e=>hU k (.inl e)) fun e=>hU k (.inr (.inl (hA2 k (hA4 k e))))));refine ⟨rfl,?_,hT9⟩;rw [show gR (aS fs) fu off nm n2=aS (fs4.take i4++f2::fs4.drop i4) by unfold gR;rw [e1,if_pos rfl,if_neg hne,hab]];refine dJ hU hk (by rw [hab];exact DOk.ren ⟨hs,by rw [aR];exact hl,hz⟩ (by rw [hf.has hs,hfd]) hne) (c_ hfu0 _) fun k hk=>?_
  rcases hk with e | e | ⟨f3,h3,e⟩
  ·exact .inl (.inl e)
  ·exact (hA54 k e).imp (fun e=>.inr (.inl (hA2 k (hA4 k e)))) fun e=>Nat.le_trans hT8.size e
  ·rcases List.mem_append.1 h3 with h9 | h9
   ·exact .inl (.inr (.inr ⟨f3,hsub2 _ (hsub4 _ (List.mem_of_mem_take h9)),e⟩))
   ·rcases List.mem_cons.1 h9 with rfl | h9
    ·rw [hf2] at e;exact .inl (.inr (.inr ⟨fs[i],List.getElem_mem hi,e⟩))
    ·exact .inl (.inr (.inr ⟨f3,hsub2 _ (hsub4 _ (List.mem_of_mem_drop h9)),e⟩))
end Go.Proofs.YtaohnmneccbljaaGreatDoor
namespace Go.Proofs.YtaohnmneccbljaaGreatDoor
open Go.Proofs.Tryz (prog)
open Go.RowKit
open Go.ChangeShapes Go.WideShapes Go.ChangeAt
theorem pS:(dq prog 79).isSome=true:=by kernel_rfl
theorem tY:prog.built 90 []=some #[.slice none 0 0,.int .i64 0,.int .i64 0,.bool false]:=by kernel_rfl
theorem mg:dq prog 79=some (93,2):=by kernel_rfl
theorem wq:fK prog 93=some true:=by kernel_rfl
theorem pR:cS prog 93=some 2:=by kernel_rfl
theorem wo:ij prog 93=some (.agg #[.string ⟨#[]⟩,.slice none 0 0]):=by kernel_rfl
theorem dB:ch prog 93 0=some 0:=by kernel_rfl
theorem fh:ch prog 93 1=some 1:=by kernel_rfl
theorem kx:∀ (a0:Option Addr) (a1 a2:Nat) (a3:Option Addr) (a4 a5:Nat),prog.built 97 [(0,.slice a0 a1 a2),(1,.slice a3 a4 a5)]=some #[.slice a0 a1 a2,.slice a3 a4 a5]:=by intros;kernel_rfl
section
variable {ops:Array Oper} {n:Fr} {L:List (Nat×Value)} {dst:Option Nat} {ty:TypeId} {pos:String} {after:Array Edge}
theorem uw {P:Program} {s x:Operand} {t:TypeId} {w:World} {post:Value→World→Prop} {base:Nat} {A A2:Option Addr} {m j cap c2 e size by_:Nat} {z:Value} {xs news:List Value} (hq:eU P t=some (e,size,by_,z)) (hzs:z.cells.size=size) (hs0:0<size)
 (hs:ev n L s=.slice A m cap) (hown:w.ownsRow base e size (.slice A m cap) m xs) (hB:base≤w.heap.size)
 (hx:ev n L x=.slice A2 j c2) (hl:news.length=j*size) (hsrc:∃ b o,A2=some ⟨b,o,none⟩∧w.rangeAt b o news) (h1:∀ u∈news,u.oneCell'=true) (h63:m+j≤9223372036854775807) (hby:(m+j)*by_≤140737488355328)
 (k:∀ A' cap' w',w'.ownsRow base e size (.slice A' (m+j) cap') (m+j) (xs++news)→w.grownBy w' (A.map (·.block))→(A'.map (·.block)=A.map (·.block)∨A'.map (·.block)=some w.heap.size)→post (.slice A' (m+j) cap') w') :
 qO P ops n L ⟨dst,.call { callee:=.builtin .append,args:=#[s,x],argTypes:=#[t,t] },ty,pos,after,none⟩ w post:=by
 obtain ⟨A',cap',w',hr,ho,hg,hl⟩:=kD (P:=P) (ρ:=ev n L) hq hzs hs0 hs hown hB hx hl hsrc h1 h63 hby;exact BC hr (k A' cap' w' ho hg hl)
end
structure Af where
 nm:ByteArray
 A:Option Addr
 c:Nat
 bs:List Nat
def afV (f:Af):List Value:=[.string f.nm,.slice f.A f.bs.length f.c]
theorem Ag (f:Af):(afV f).length=2:=rfl
theorem oi (f:Af):∀ u∈afV f,u.oneCell'=true:=by simp [afV,Value.oneCell']
def afE (f:Af):Fe:=(f.nm,f.bs,f.bs)
def BV (w:World) (f:Af):Prop:=RB w f.A f.c f.bs∧f.nm.size≤140737488351232∧f.bs.length≤140737488355328
def okJ (fs:List Af) (j:Nat):Prop:=∀ h:j<fs.length,okN fs[j].nm=true∧fs[j].bs.length≤1048576∧(0<j→sLt (fs[j-1]'(by omega)).nm fs[j].nm)
def Bc (fs:List Af):Prop:=fs.length≤16∧∀ j,okJ fs j
theorem Bd {fs:List Af} (h:∀ j,okJ fs j):KS (fs.map afE):=by
 unfold KS;rw [List.pairwise_map,List.pairwise_iff_getElem];intro i j hi hj hij
 induction j with
 |zero=>omega
 |succ j ih=>
  have h1:=(h (j+1) hj).2.2 (Nat.zero_lt_succ _);rcases Nat.eq_or_lt_of_le (Nat.le_of_lt_succ hij) with e | e
  ·subst e;exact h1
  ·exact j6 (ih (by omega) e) h1
theorem Bb {a b:ByteArray} (h:¬ sLt a b):(!(Op.bytesLess a.toList b.toList))=true:=by
 rcases hb:Op.bytesLess a.toList b.toList with _ | _
 ·rfl
 ·exact absurd ((ue _ _).1 hb) h
theorem yJ {a b:ByteArray} (h:sLt a b):(!(Op.bytesLess a.toList b.toList))=false:=by rw [(ue _ _).2 h];rfl
theorem xB (A:Option Addr) (c n:Nat) (fs:List Af) (w:World) (hr:gH 2 afV w A fs) (hn:n=fs.length) (hall:∀ f∈fs,BV w f) :
 Rt prog 22 [.slice A n c] w (fun v w'=>((¬ Bc fs∧v=.tuple #[.pointer none,.int .i64 1])∨(Bc fs∧∃ d,v=.tuple #[.pointer (some ⟨d,0,none⟩),.int .i64 0]∧cP w' (fun k=>w.heap.size≤k) d (fs.map afE) 0 false))∧ag w w'):=by
 subst hn;refine enter (n:=66) Tryz.func22 rfl rfl rfl (af (ab (asp rfl (asi rfl (ah (ae (af (af (ab (mvs rfl (aa (bb pS rfl) (aa (cn rfl rfl) (ah (ae ?_))))))))))))));refine BM rfl (fun Q1=>?_) (fun Q1=>?_)
 ·refine af (ab (asp rfl (asi rfl (ah (ae (aC (aF (gj (v:=.pointer _) (v':=.int _ _) rfl rfl rfl ?_))))))));exact ⟨.inl ⟨fun h=>by have:=h.1;omega,rfl⟩,ag.rfl_⟩
 refine aE (ae (af (ab (aa (bN (l:=[]) (tY)) (bu (v:=.agg _) rfl ?_)))));intro b12 w2 E12 hb12 hk12;have hg12:w.heap.size≤b12:=by rw [hb12];exact (ag.rfl_).size
 refine asp rfl (ah (ae (af (af (ab (mvs rfl (aa (bb pS rfl) (mvi rfl (ah (ae (aP (cH (G:=Nat×List Fl×Option Addr×Nat) [2,3,5,6,7,16,17,18,19,20,21,22,23,24,25,26,27,28,29,30,31,32,33,34,35,36,37,38,39,40,41,42,43,44,45,46,47,48,49,50,51,52,53,54,55,56,57,58,59,60,61,62,63,64] (fun (i,_)=>[(15,.int .i64 (i:Nat))]) (fun (i,gs,Ap,cp) w'=>i≤fs.length∧gs.length=i∧(∀ j,j<i→okJ fs j)∧aS gs=(fs.take i).map afE∧DkH w' b12 gs Ap cp 0 0 false∧(∀ k,lM b12 Ap gs k→w.heap.size≤k)∧ag w w') (fun (i,_)=>fs.length-i) ((0,[],none,0)) ⟨rfl,trivial⟩ ?_ ?_))))))))))))
 ·exact ⟨Nat.zero_le _,rfl,fun j h=>absurd h (Nat.not_lt_zero _),rfl,⟨hk12,World.ownsRow_nil _ _ _ _,fun f hf=>(by cases hf),List.Pairwise.nil⟩,fun k hk=>(by rcases hk with e | e | ⟨f,hf,_⟩;omega;cases e;cases hf),(ag.rfl_.next E12)⟩
 rintro ⟨i,gs,Ap,cp⟩ ρ3 w3 ⟨hi,hgl,hoj,hga,hD,hft,hB⟩;refine af (ab (aa (cl rfl rfl) (ah (ae (af (BM rfl (fun Q4=>?_) (fun Q4=>?_)))))))
 ·have hil:i<fs.length:=by omega
  obtain ⟨bd,od,rfl,hcd⟩:=hr (by omega);have hce:=hcd i hil;have hn16:fs.length≤16:=by omega
  refine aE (ae (af (aP (af (ab (mvi rfl (aa (bf mg rfl rfl (by omega)) (aa (aG (cs:=[_,_]) wq pR rfl (by exact dU hB hce)) ?_))))))));refine aZ wo ?_;intro b6 w5 E6 hb6 hk6;have hg6:w.heap.size≤b6:=by rw [hb6];exact (hB).size
  refine asi rfl (aV (vs:=[_,_]) pR rfl rfl (by simp [Value.oneCell']) (hk6) rfl ?_);intro w6 O6 P6;have F6:ag _ w6:=E6.only O6 (by rw [hb6];exact Nat.le_refl _);have h6:=hD.from_ F6;have hz6:=F6.size;obtain ⟨z6,hz6e⟩:∃ z6,z6=(w6).heap.size:=⟨_,rfl⟩;refine ah (ae (af (af ?_)))
  have hsp:okN fs[i].nm=false∨(okN fs[i].nm=true∧1048576<fs[i].bs.length)∨(okN fs[i].nm=true∧fs[i].bs.length≤1048576∧i=0)∨(okN fs[i].nm=true∧fs[i].bs.length≤1048576∧0<i∧¬ sLt fs[i-1].nm fs[i].nm)∨(okN fs[i].nm=true∧fs[i].bs.length≤1048576∧0<i∧sLt fs[i-1].nm fs[i].nm):=by
   rcases hb:okN fs[i].nm with _ | _
   ·exact .inl rfl
   ·by_cases h1:1048576<fs[i].bs.length
    ·exact .inr (.inl ⟨rfl,h1⟩)
    ·by_cases h2:i=0
     ·exact .inr (.inr (.inl ⟨rfl,by omega,h2⟩))
     ·by_cases h3:sLt fs[i-1].nm fs[i].nm
      ·exact .inr (.inr (.inr (.inr ⟨rfl,by omega,by omega,h3⟩)))
      ·exact .inr (.inr (.inr (.inl ⟨rfl,by omega,by omega,h3⟩)))
  rcases hsp with hokn | ⟨hokn,hlen⟩ | ⟨hokn,hlen,hi0⟩ | ⟨hokn,hlen,hi0,hns⟩ | ⟨hokn,hlen,hi0,hsl⟩
  ·have hbad:¬ okJ fs i:=fun h=>by have:=(h hil).1;rw [hokn] at this;cases this
   apply bO 26 [(20,eqp _),(21,eqp (.string fs[i].nm)),(22,fun v w'=>∃ q,v=.slice (some ⟨q,0,none⟩) 1 1∧Blk w' q 9 #[.string fs[i].nm]),(23,eqp _),(24,eqp _),(25,eqp _),(26,eqp _),(27,eqp _),(28,eqp _),(29,eqp _),(30,eqp _),(31,eqp _),(32,eqp _),(33,eqp _),(34,eqp _),(35,eqp _),(36,eqp _),(37,eqp _),(38,eqp _),(39,eqp _),(40,eqp _),(41,eqp _),(42,eqp _),(43,eqp _),(44,eqp _),(45,eqp _)] (by repeat first | exact cr | refine cq ?_ | refine bU ?_) (by kernel_rfl) (by kernel_rfl) ⟨aj _,aj _,(fun _ _ _ hF ⟨q,h1,h2⟩=>⟨q,h1,h2.from_ hF⟩),aj _,aj _,aj _,aj _,aj _,aj _,aj _,aj _,aj _,aj _,aj _,aj _,aj _,aj _,aj _,aj _,aj _,aj _,aj _,aj _,aj _,aj _,aj _,trivial⟩
   case hop=>
    constructor
    ·rintro-w8 D8;exact an (ai dB rfl) rfl
    constructor
    ·rintro-w9 D9;rintro _ rfl;exact an (ao bY rfl (by exact (P6.from_ (ag.rfl_.next D9)).rd 0 rfl)) rfl
    constructor
    ·rintro-w10 D10;rintro v10_21 rfl;exact fC (k5 (v:=.string fs[i].nm) de rfl rfl rfl) (ag.rfl_.new _) ⟨_,rfl,Blk.new _ _ _⟩
    constructor
    ·rintro-w11 D11;rintro v11_22 ⟨q22,rfl,hq22⟩;refine cX fN ((gN (some ⟨q22,0,none⟩) 1 1 [fs[i].nm] _ (mn hq22) rfl (by omega) (fun s hs=>by rw [List.mem_singleton.1 hs];exact (hall _ (List.getElem_mem hil)).2.1)).mono ?_);rintro v _ ⟨rfl,E11'⟩;exact ⟨E11',rfl⟩
    constructor
    ·rintro-w12 D12;rintro _ rfl;exact an (cU (bG rfl) (by simp [hokn])) rfl
    constructor
    ·rintro-w13 D13;rintro _ rfl;exact an (aB (v:=.bool _) rfl) rfl
    constructor
    ·rintro-w14 D14;rintro _ rfl;exact ec rfl rfl rfl
    constructor
    ·rintro-w15 D15;rintro _ rfl _ rfl;exact ec rfl rfl rfl
    constructor
    ·rintro-w16 D16;rintro _ rfl _ rfl;exact ec rfl rfl rfl
    constructor
    ·rintro-w17 D17;rintro _ rfl _ rfl;exact ec rfl rfl rfl
    constructor
    ·rintro-w18 D18;rintro _ rfl _ rfl;exact an (aO (v:=.bool _) rfl rfl) rfl
    constructor
    ·rintro-w19 D19;rintro _ rfl;exact an (aB (v:=.bool _) rfl) rfl
    constructor
    ·rintro-w20 D20;rintro _ rfl;exact ec rfl rfl rfl
    constructor
    ·rintro-w21 D21;rintro _ rfl _ rfl;exact ec rfl rfl rfl
    constructor
    ·rintro-w22 D22;rintro _ rfl _ rfl;exact ec rfl rfl rfl
    constructor
    ·rintro-w23 D23;rintro _ rfl;exact dR rfl rfl
    constructor
    ·rintro-w24 D24;rintro _ rfl;exact dR rfl rfl
    constructor
    ·rintro-w25 D25;rintro _ rfl _ rfl;exact dR rfl rfl
    constructor
    ·rintro-w26 D26;rintro _ rfl _ rfl _ rfl;exact dR rfl rfl
    constructor
    ·rintro-w27 D27;rintro _ rfl _ rfl;exact dR rfl rfl
    constructor
    ·rintro-w28 D28;rintro _ rfl _ rfl;exact dR rfl rfl
    constructor
    ·rintro-w29 D29;rintro _ rfl;exact dR rfl rfl
    constructor
    ·rintro-w30 D30;rintro _ rfl _ rfl;exact dR rfl rfl
    constructor
    ·rintro-w31 D31;rintro _ rfl _ rfl _ rfl;exact dR rfl rfl
    constructor
    ·rintro-w32 D32;rintro _ rfl _ rfl _ rfl;exact ec rfl rfl rfl
    constructor
    ·rintro-w33 D33;rintro _ rfl _ rfl;exact an (aO (v:=.bool _) rfl rfl) rfl
    exact trivial
   case hend=>
    intro w34 D34;rintro _ rfl v21 rfl v22 ⟨q22,rfl,hq22⟩ _ rfl _ rfl _ rfl _ rfl _ rfl _ rfl _ rfl _ rfl _ rfl _ rfl _ rfl _ rfl _ rfl _ rfl _ rfl _ rfl _ rfl _ rfl _ rfl _ rfl _ rfl _ rfl _ rfl;show St ..;refine ah (ae (aY rfl (af (ab (asp rfl (asi rfl (ah (ae (aC (aF (aW (aF (aF (aW (aF (gj (v:=.pointer _) (v':=.int _ _) rfl rfl rfl (⟨.inl ⟨fun h=>hbad (h.2 i),rfl⟩,(((hB.next E6).only O6 (hg6)).next D34)⟩)))))))))))))))))
  ·have hbad:¬ okJ fs i:=fun h=>by have:=(h hil).2.1;omega
   apply bO 26 [(20,eqp _),(21,eqp (.string fs[i].nm)),(22,fun v w'=>∃ q,v=.slice (some ⟨q,0,none⟩) 1 1∧Blk w' q 9 #[.string fs[i].nm]),(23,eqp _),(24,eqp _),(25,eqp _),(26,eqp _),(27,eqp (.slice fs[i].A fs[i].bs.length fs[i].c)),(28,eqp _),(29,eqp _),(30,eqp _),(31,eqp _),(32,eqp _),(33,eqp _),(34,eqp _),(35,eqp _),(36,eqp _),(37,eqp _),(38,eqp _),(39,eqp _),(40,eqp _),(41,eqp _),(42,eqp _),(43,eqp _),(44,eqp _),(45,eqp _)] (by repeat first | exact cr | refine cq ?_ | refine bU ?_) (by kernel_rfl) (by kernel_rfl) ⟨aj _,aj _,(fun _ _ _ hF ⟨q,h1,h2⟩=>⟨q,h1,h2.from_ hF⟩),aj _,aj _,aj _,aj _,aj _,aj _,aj _,aj _,aj _,aj _,aj _,aj _,aj _,aj _,aj _,aj _,aj _,aj _,aj _,aj _,aj _,aj _,aj _,trivial⟩
   case hop=>
    constructor
    ·rintro-w36 D36;exact an (ai dB rfl) rfl
    constructor
    ·rintro-w37 D37;rintro _ rfl;exact an (ao bY rfl (by exact (P6.from_ (ag.rfl_.next D37)).rd 0 rfl)) rfl
    constructor
    ·rintro-w38 D38;rintro v38_21 rfl;exact fC (k5 (v:=.string fs[i].nm) de rfl rfl rfl) (ag.rfl_.new _) ⟨_,rfl,Blk.new _ _ _⟩
    constructor
    ·rintro-w39 D39;rintro v39_22 ⟨q22,rfl,hq22⟩;refine cX fN ((gN (some ⟨q22,0,none⟩) 1 1 [fs[i].nm] _ (mn hq22) rfl (by omega) (fun s hs=>by rw [List.mem_singleton.1 hs];exact (hall _ (List.getElem_mem hil)).2.1)).mono ?_);rintro v _ ⟨rfl,E39'⟩;exact ⟨E39',rfl⟩
    constructor
    ·rintro-w40 D40;rintro _ rfl;exact an (bh (bG rfl) (by simp [hokn])) rfl
    constructor
    ·rintro-w41 D41;rintro _ rfl;exact an (aB (v:=.bool _) rfl) rfl
    constructor
    ·rintro-w42 D42;rintro _ rfl;exact aL rfl (ai fh rfl) rfl
    constructor
    ·rintro-w43 D43;rintro _ rfl _ rfl;exact aL rfl (ao (v:=.slice fs[i].A fs[i].bs.length fs[i].c) bQ rfl ((P6.from_ (ag.rfl_.next D43)).rd 1 rfl)) rfl
    constructor
    ·rintro-w44 D44;rintro _ rfl v44_27 rfl;exact aL rfl (bb bZ rfl) rfl
    constructor
    ·rintro-w45 D45;rintro _ rfl _ rfl;exact aL rfl (cU (cn rfl rfl) (decide_eq_true (by omega))) rfl
    constructor
    ·rintro-w46 D46;rintro _ rfl _ rfl;exact an (aQ (v:=.bool _) rfl rfl) rfl
    constructor
    ·rintro-w47 D47;rintro _ rfl;exact an (aB (v:=.bool _) rfl) rfl
    constructor
    ·rintro-w48 D48;rintro _ rfl;exact ec rfl rfl rfl
    constructor
    ·rintro-w49 D49;rintro _ rfl _ rfl;exact ec rfl rfl rfl
    constructor
    ·rintro-w50 D50;rintro _ rfl _ rfl;exact ec rfl rfl rfl
    constructor
    ·rintro-w51 D51;rintro _ rfl;exact dR rfl rfl
    constructor
    ·rintro-w52 D52;rintro _ rfl;exact dR rfl rfl
    constructor
    ·rintro-w53 D53;rintro _ rfl _ rfl;exact dR rfl rfl
    constructor
    ·rintro-w54 D54;rintro _ rfl _ rfl _ rfl;exact dR rfl rfl
    constructor
    ·rintro-w55 D55;rintro _ rfl _ rfl;exact dR rfl rfl
    constructor
    ·rintro-w56 D56;rintro _ rfl _ rfl;exact dR rfl rfl
    constructor
    ·rintro-w57 D57;rintro _ rfl;exact dR rfl rfl
    constructor
    ·rintro-w58 D58;rintro _ rfl _ rfl;exact dR rfl rfl
    constructor
    ·rintro-w59 D59;rintro _ rfl _ rfl _ rfl;exact dR rfl rfl
    constructor
    ·rintro-w60 D60;rintro _ rfl _ rfl _ rfl;exact ec rfl rfl rfl
    constructor
    ·rintro-w61 D61;rintro _ rfl _ rfl;exact an (aO (v:=.bool _) rfl rfl) rfl
    exact trivial
   case hend=>
    intro w62 D62;rintro _ rfl v21 rfl v22 ⟨q22,rfl,hq22⟩ _ rfl _ rfl _ rfl _ rfl v27 rfl _ rfl _ rfl _ rfl _ rfl _ rfl _ rfl _ rfl _ rfl _ rfl _ rfl _ rfl _ rfl _ rfl _ rfl _ rfl _ rfl _ rfl _ rfl;show St ..;refine ah (ae (aY rfl (af (ab (asp rfl (asi rfl (ah (ae (aC (aF (aW (aF (aF (aW (aF (gj (v:=.pointer _) (v':=.int _ _) rfl rfl rfl (⟨.inl ⟨fun h=>hbad (h.2 i),rfl⟩,(((hB.next E6).only O6 (hg6)).next D62)⟩)))))))))))))))))
  ·have hord:0<i→sLt (fs[i-1]'(by omega)).nm fs[i].nm:=fun h=>by omega
   apply bO 26 [(20,eqp _),(21,eqp (.string fs[i].nm)),(22,fun v w'=>∃ q,v=.slice (some ⟨q,0,none⟩) 1 1∧Blk w' q 9 #[.string fs[i].nm]),(23,eqp _),(24,eqp _),(25,eqp _),(26,eqp _),(27,eqp (.slice fs[i].A fs[i].bs.length fs[i].c)),(28,eqp _),(29,eqp _),(30,eqp _),(31,eqp _),(32,eqp _),(33,eqp _),(34,eqp _),(35,eqp _),(36,eqp _),(37,eqp _),(38,eqp _),(39,eqp _),(40,eqp _),(41,eqp _),(42,eqp _),(43,eqp _),(44,eqp _),(45,eqp _)] (by repeat first | exact cr | refine cq ?_ | refine bU ?_) (by kernel_rfl) (by kernel_rfl) ⟨aj _,aj _,(fun _ _ _ hF ⟨q,h1,h2⟩=>⟨q,h1,h2.from_ hF⟩),aj _,aj _,aj _,aj _,aj _,aj _,aj _,aj _,aj _,aj _,aj _,aj _,aj _,aj _,aj _,aj _,aj _,aj _,aj _,aj _,aj _,aj _,aj _,trivial⟩
   case hop=>
    constructor
    ·rintro-w64 D64;exact an (ai dB rfl) rfl
    constructor
    ·rintro-w65 D65;rintro _ rfl;exact an (ao bY rfl (by exact (P6.from_ (ag.rfl_.next D65)).rd 0 rfl)) rfl
    constructor
    ·rintro-w66 D66;rintro v66_21 rfl;exact fC (k5 (v:=.string fs[i].nm) de rfl rfl rfl) (ag.rfl_.new _) ⟨_,rfl,Blk.new _ _ _⟩
    constructor
    ·rintro-w67 D67;rintro v67_22 ⟨q22,rfl,hq22⟩;refine cX fN ((gN (some ⟨q22,0,none⟩) 1 1 [fs[i].nm] _ (mn hq22) rfl (by omega) (fun s hs=>by rw [List.mem_singleton.1 hs];exact (hall _ (List.getElem_mem hil)).2.1)).mono ?_);rintro v _ ⟨rfl,E67'⟩;exact ⟨E67',rfl⟩
    constructor
    ·rintro-w68 D68;rintro _ rfl;exact an (bh (bG rfl) (by simp [hokn])) rfl
    constructor
    ·rintro-w69 D69;rintro _ rfl;exact an (aB (v:=.bool _) rfl) rfl
    constructor
    ·rintro-w70 D70;rintro _ rfl;exact aL rfl (ai fh rfl) rfl
    constructor
    ·rintro-w71 D71;rintro _ rfl _ rfl;exact aL rfl (ao (v:=.slice fs[i].A fs[i].bs.length fs[i].c) bQ rfl ((P6.from_ (ag.rfl_.next D71)).rd 1 rfl)) rfl
    constructor
    ·rintro-w72 D72;rintro _ rfl v72_27 rfl;exact aL rfl (bb bZ rfl) rfl
    constructor
    ·rintro-w73 D73;rintro _ rfl _ rfl;exact aL rfl (bh (cn rfl rfl) (decide_eq_false (by omega))) rfl
    constructor
    ·rintro-w74 D74;rintro _ rfl _ rfl;exact an (aQ (v:=.bool _) rfl rfl) rfl
    constructor
    ·rintro-w75 D75;rintro _ rfl;exact an (aB (v:=.bool _) rfl) rfl
    constructor
    ·rintro-w76 D76;rintro _ rfl;exact aL rfl (aB (v:=.int _ _) rfl) rfl
    constructor
    ·rintro-w77 D77;rintro _ rfl _ rfl;exact aL rfl (bh (cn rfl rfl) (decide_eq_false (by omega))) rfl
    constructor
    ·rintro-w78 D78;rintro _ rfl _ rfl;exact aL rfl (aB (v:=.bool _) rfl) rfl
    constructor
    ·rintro-w79 D79;rintro _ rfl;exact ec rfl rfl rfl
    constructor
    ·rintro-w80 D80;rintro _ rfl;exact ec rfl rfl rfl
    constructor
    ·rintro-w81 D81;rintro _ rfl _ rfl;exact ec rfl rfl rfl
    constructor
    ·rintro-w82 D82;rintro _ rfl _ rfl _ rfl;exact ec rfl rfl rfl
    constructor
    ·rintro-w83 D83;rintro _ rfl _ rfl;exact ec rfl rfl rfl
    constructor
    ·rintro-w84 D84;rintro _ rfl _ rfl;exact ec rfl rfl rfl
    constructor
    ·rintro-w85 D85;rintro _ rfl;exact ec rfl rfl rfl
    constructor
    ·rintro-w86 D86;rintro _ rfl _ rfl;exact ec rfl rfl rfl
    constructor
    ·rintro-w87 D87;rintro _ rfl _ rfl _ rfl;exact ec rfl rfl rfl
    constructor
    ·rintro-w88 D88;rintro _ rfl _ rfl _ rfl;exact aL rfl (aQ (v:=.bool _) rfl rfl) rfl
    constructor
    ·rintro-w89 D89;rintro _ rfl _ rfl;exact an (aQ (v:=.bool _) rfl rfl) rfl
    exact trivial
   case hend=>
    intro w90 D90;rintro _ rfl v21 rfl v22 ⟨q22,rfl,hq22⟩ _ rfl _ rfl _ rfl _ rfl v27 rfl _ rfl _ rfl _ rfl _ rfl _ rfl _ rfl _ rfl _ rfl _ rfl _ rfl _ rfl _ rfl _ rfl _ rfl _ rfl _ rfl _ rfl _ rfl;show St ..;refine ah (ae (aI rfl (aE (ae (af (ab (aa (ai fh rfl) (aa (ao bQ rfl (by exact (P6.from_ (ag.rfl_.next D90)).rd 1 rfl)) ?_))))))));have hM48:ag _ w90:=(ag.rfl_.next D90);refine av fO (ck fs[i].A fs[i].c fs[i].bs.length fs[i].bs _ ((hall _ (List.getElem_mem hil)).1.from_ (((hB.next E6).only O6 (hg6)).next D90)) rfl (by omega)) ?_;rintro v48 w91 ⟨⟨A48,c48,rfl,ho48⟩,E48⟩;have h10:=h6.from_ (((ag.rfl_.next D90).next E48));have hB10:ag w w91:=((((hB.next E6).only O6 (hg6)).next D90).next E48);have P10a:=P6.from_ (((ag.rfl_.next D90).next E48));obtain ⟨f2,hf2⟩:∃ f2:Fl,f2=⟨fs[i].nm,A48,c48,A48,c48,fs[i].bs,fs[i].bs,true⟩:=⟨_,rfl⟩;have hz10:=(((((hB.next E6).only O6 (hg6)).next D90).next E48)).size;have hB48:∀ k,f2.B k→z6≤k:=by rw [hf2,hz6e];exact fun k hk=>hk.elim (fun e=>Nat.le_trans hM48.size (gl ho48 k e).1) fun e=>Nat.le_trans hM48.size (gl ho48 k e).1
    have hf10:gq w91 f2:=by rw [hf2];exact ⟨(RB.own ho48 (hall _ (List.getElem_mem hil)).1.bt).2,(RB.own ho48 (hall _ (List.getElem_mem hil)).1.bt).2,TyB.own ho48,TyB.own ho48,fun _=>⟨dI ho48 (Nat.zero_le _),.inr ⟨rfl,[],(List.append_nil _).symm⟩⟩,fun h=>by cases h⟩
    refine ass rfl (ah (ae ?_));apply tA 13 12 [60] [(49,eqp _),(50,eqp _),(51,eqp _),(52,eqp _),(53,eqp (.slice Ap gs.length cp)),(54,eqp _),(55,eqp (.string fs[i].nm)),(56,eqp _),(57,eqp _),(58,eqp _),(59,eqp (.agg (flV f2).toArray)),(60,fun v w'=>∃ q,v=.slice (some ⟨q,0,none⟩) 1 1∧Blk w' q 99 (flV f2).toArray),(61,fun v w'=>∃ A5 c5,v=.slice A5 (gs.length+1) c5∧w'.ownsRow 0 99 3 (.slice A5 (gs.length+1) c5) (gs.length+1) ((gs++[f2]).flatMap flV)∧∀ q,A5.map (·.block)=some q→Ap.map (·.block)=some q∨(w91).heap.size≤q)] (fun w'=>ag w91 w') (fun w'=>Chg (fun k=>Ap.map (·.block)=some k) w91 w'∧Blk w' b12 90 #[.slice Ap gs.length cp,.int .i64 0,.int .i64 ((0:Nat):Int),.bool false]∧Blk w' b6 93 (afV fs[i]).toArray∧ag w w') (by repeat first | exact cr | refine cq ?_ | refine bU ?_) (by kernel_rfl) (by kernel_rfl) (by kernel_rfl) ⟨aj _,aj _,aj _,aj _,aj _,aj _,aj _,aj _,aj _,aj _,aj _,(fun _ _ _ hF ⟨q,h1,h2⟩=>⟨q,h1,h2.from_ hF⟩),(fun _ _ _ hF ⟨A2,c2,h1,h2,h3⟩=>⟨A2,c2,h1,h2.kept_from hF,h3⟩),trivial⟩ (ag.rfl_.d1) (⟨ag.rfl_.d1.toChg,h10.blk.from_ ag.rfl_.d1,P10a.from_ ag.rfl_.d1,(((((hB.next E6).only O6 (hg6)).next D90).next E48)).d1⟩) (fun _ _ hF h=>h.next hF) (fun _ _ hF h=>⟨h.1.next hF.toChg,h.2.1.from_ hF,h.2.2.1.from_ hF,h.2.2.2.next hF⟩)
    case hop=>
     constructor
     ·rintro-w93 ⟨hC93,hb93,hp93,hw93⟩;exact an (aB (v:=.pointer _) rfl) rfl
     constructor
     ·rintro-w94 ⟨hC94,hb94,hp94,hw94⟩;exact an (aB (v:=.pointer _) rfl) rfl
     constructor
     ·rintro-w95 ⟨hC95,hb95,hp95,hw95⟩;rintro _ rfl;exact an (au rfl) rfl
     constructor
     ·rintro-w96 D96;rintro _ rfl;exact an (ai cd rfl) rfl
     constructor
     ·rintro-w97 D97;rintro _ rfl;exact an (ao dG rfl ((h10.blk.from_ D97).rd 0 rfl)) rfl
     constructor
     ·rintro-w98 ⟨hC98,hb98,hp98,hw98⟩;exact an (ai dB rfl) rfl
     constructor
     ·rintro-w99 ⟨hC99,hb99,hp99,hw99⟩;rintro _ rfl;exact an (ao (v:=.string fs[i].nm) bY rfl (hp99.rd 0 rfl)) rfl
     constructor
     ·rintro-w100 ⟨hC100,hb100,hp100,hw100⟩;exact an (aB (v:=.slice _ _ _) rfl) rfl
     constructor
     ·rintro-w101 ⟨hC101,hb101,hp101,hw101⟩;exact an (aB (v:=.slice _ _ _) rfl) rfl
     constructor
     ·rintro-w102 ⟨hC102,hb102,hp102,hw102⟩;rintro _ rfl _ rfl;exact an (bN (l:=[(0,.tmp 56),(1,.tmp 57)]) (kx _ _ _ _ _ _)) rfl
     constructor
     ·rintro-w103 D103;rintro v103_55 rfl _ rfl;exact an (bH (v':=.agg (flV f2).toArray) (bN (by kernel_rfl)) (by first | (rw [hf2];done) | (rw [hf2];rfl))) rfl
     constructor
     ·rintro-w104 D104;rintro v104_59 rfl;exact fC (nB eA rfl rfl rfl) (ag.rfl_.new _) ⟨_,rfl,Blk.new _ _ _⟩
     constructor
     ·intro h;cases h
     exact trivial
    case hmu=>
     rintro w106 D106;rintro v106_53 rfl v106_60 ⟨q106,rfl,hq106⟩;show qO ..;have hs9:=D106.size;refine uw (base:=0) (news:=flV f2) eA rfl (by decide) rfl (h10.row.kept_from D106) (Nat.zero_le _) rfl rfl ⟨q106,0,rfl,hq106.whole⟩ (jL f2) (by omega) (by omega) ?_;intro A5 c5 w3 ho3 hg3 hL3;refine ⟨⟨D106.toChg.next (Chg.of_grown hg3 (fun k e=>e)),(h10.blk.from_ D106).grown hg3 (dX (h10.row.kept_from D106) (h10.blk.from_ D106) (by decide)),(P10a.from_ D106).grown hg3 (dX (h10.row.kept_from D106) (P10a.from_ D106) (by decide)),(hB10.next D106).grew hg3 (fun k hk=>hft k (.inr (.inl hk)))⟩,⟨A5,c5,rfl,by rw [List.flatMap_append];simpa using ho3,fun q hq=>hL3.elim (fun e=>.inl (e ▸ hq)) fun e=>.inr (by rw [e] at hq;cases hq;exact hs9)⟩,fun t u ht h=>lj (by repeat first | exact trivial | refine ⟨.inl rfl,?_⟩ | refine ⟨.inr (fun _ h=>h),?_⟩) t u ht h⟩
    case hend=>
     rintro w107 ⟨hC107,hb107,hp107,hw107⟩;rintro _ rfl _ rfl _ rfl _ rfl v53 rfl _ rfl v55 rfl _ rfl _ rfl _ rfl v59 rfl v60 _ v61 ⟨A61,c61,rfl,ho61,hA61⟩;show St ..;have hC10:=hC107;have hbb:=hb107;refine aa (au rfl) (aa (ai cd rfl) (cT (v:=.slice _ _ _) hH rfl rfl rfl (hbb) (by show 0<4;decide) ?_));intro w108 O10 P10;refine ah (bI (ae (ab (aa (br rfl rfl (by omega)) (mvi rfl (ah ?_))))));refine bW ((i+1,gs++[f2],A61,c61)) ⟨(by first | rfl | (refine bD ?_;omega)),trivial⟩ (by (iterate 108 refine bg rfl ?_);exact bw) ⟨?_,?_⟩
     ·have hr:=eE ho61 O10 (dX ho61 hbb (by decide));have hC9:Chg (fun k=>k=b12∨Ap.map (·.block)=some k) _ w108:=(hC10.wide fun k hk=>.inl (.inr hk)).next (O10.toChg (.inl rfl))
      have hfo:gq w108 f2:=(hf10.from_ ag.rfl_).chg hC9 fun k hk e=>by
       have h7:=hB48 k hk;rcases e with e | e
       ·have:=h10.blk.lt;have:=h6.blk.lt;omega
       ·have:=(gl h6.row k e).2;omega
      have hk:=h10.ins (i:=gs.length) hC9 P10 (Nat.le_refl _) (by rw [List.take_length,List.drop_length];exact hr) hfo (fun g hg=>⟨fun ho k hk hb=>by have:=hB48 k hb;have:=(h6.ok g hg).lt (k:=k) (.inl hk);omega,fun ho k hk hb=>by have:=hB48 k (.inl hk);have:=(h6.ok g hg).lt hb;omega⟩);rw [List.take_length,List.drop_length] at hk
      exact ⟨by omega,by rw [List.length_append,hgl];rfl,fun j hj=>by
       rcases Nat.eq_or_lt_of_le (Nat.le_of_lt_succ hj) with e | e
       ·subst e;exact fun _=>⟨hokn,hlen,hord⟩
       ·exact hoj j e,by unfold aS at hga ⊢;rw [List.map_append,hga,List.take_succ_eq_append_getElem hil,List.map_append,hf2];rfl,hk,fun k hk=>by
       rcases hk with e | e | ⟨f3,h3,e⟩
       ·exact hft k (.inl e)
       ·rcases hA61 k e with e | e
        ·exact hft k (.inr (.inl e))
        ·exact Nat.le_trans hz10 e
       ·rcases List.mem_append.1 h3 with h3 | h3
        ·exact hft k (.inr (.inr ⟨f3,h3,e⟩))
        ·rw [List.mem_singleton.1 h3] at e;have:=hB48 k e;omega,(hw107.only O10 ((hft _ (.inl rfl))))⟩
     ·show fs.length-(i+1)<fs.length-i;omega
  ·have hbad:¬ okJ fs i:=fun h=>hns ((h hil).2.2 (by omega))
   apply bO 26 [(20,eqp _),(21,eqp (.string fs[i].nm)),(22,fun v w'=>∃ q,v=.slice (some ⟨q,0,none⟩) 1 1∧Blk w' q 9 #[.string fs[i].nm]),(23,eqp _),(24,eqp _),(25,eqp _),(26,eqp _),(27,eqp (.slice fs[i].A fs[i].bs.length fs[i].c)),(28,eqp _),(29,eqp _),(30,eqp _),(31,eqp _),(32,eqp _),(33,eqp _),(34,eqp _),(35,eqp _),(36,eqp _),(37,eqp _),(38,eqp _),(39,eqp _),(40,eqp (.string fs[i-1].nm)),(41,eqp _),(42,eqp (.string fs[i].nm)),(43,eqp _),(44,eqp _),(45,eqp _)] (by repeat first | exact cr | refine cq ?_ | refine bU ?_) (by kernel_rfl) (by kernel_rfl) ⟨aj _,aj _,(fun _ _ _ hF ⟨q,h1,h2⟩=>⟨q,h1,h2.from_ hF⟩),aj _,aj _,aj _,aj _,aj _,aj _,aj _,aj _,aj _,aj _,aj _,aj _,aj _,aj _,aj _,aj _,aj _,aj _,aj _,aj _,aj _,aj _,aj _,trivial⟩
   case hop=>
    constructor
    ·rintro-w110 D110;exact an (ai dB rfl) rfl
    constructor
    ·rintro-w111 D111;rintro _ rfl;exact an (ao bY rfl (by exact (P6.from_ (ag.rfl_.next D111)).rd 0 rfl)) rfl
    constructor
    ·rintro-w112 D112;rintro v112_21 rfl;exact fC (k5 (v:=.string fs[i].nm) de rfl rfl rfl) (ag.rfl_.new _) ⟨_,rfl,Blk.new _ _ _⟩
    constructor
    ·rintro-w113 D113;rintro v113_22 ⟨q22,rfl,hq22⟩;refine cX fN ((gN (some ⟨q22,0,none⟩) 1 1 [fs[i].nm] _ (mn hq22) rfl (by omega) (fun s hs=>by rw [List.mem_singleton.1 hs];exact (hall _ (List.getElem_mem hil)).2.1)).mono ?_);rintro v _ ⟨rfl,E113'⟩;exact ⟨E113',rfl⟩
    constructor
    ·rintro-w114 D114;rintro _ rfl;exact an (bh (bG rfl) (by simp [hokn])) rfl
    constructor
    ·rintro-w115 D115;rintro _ rfl;exact an (aB (v:=.bool _) rfl) rfl
    constructor
    ·rintro-w116 D116;rintro _ rfl;exact aL rfl (ai fh rfl) rfl
    constructor
    ·rintro-w117 D117;rintro _ rfl _ rfl;exact aL rfl (ao (v:=.slice fs[i].A fs[i].bs.length fs[i].c) bQ rfl ((P6.from_ (ag.rfl_.next D117)).rd 1 rfl)) rfl
    constructor
    ·rintro-w118 D118;rintro _ rfl v118_27 rfl;exact aL rfl (bb bZ rfl) rfl
    constructor
    ·rintro-w119 D119;rintro _ rfl _ rfl;exact aL rfl (bh (cn rfl rfl) (decide_eq_false (by omega))) rfl
    constructor
    ·rintro-w120 D120;rintro _ rfl _ rfl;exact an (aQ (v:=.bool _) rfl rfl) rfl
    constructor
    ·rintro-w121 D121;rintro _ rfl;exact an (aB (v:=.bool _) rfl) rfl
    constructor
    ·rintro-w122 D122;rintro _ rfl;exact aL rfl (aB (v:=.int _ _) rfl) rfl
    constructor
    ·rintro-w123 D123;rintro _ rfl _ rfl;exact aL rfl (cU (cn rfl rfl) (decide_eq_true (by omega))) rfl
    constructor
    ·rintro-w124 D124;rintro _ rfl _ rfl;exact aL rfl (aB (v:=.bool _) rfl) rfl
    constructor
    ·rintro-w125 D125;rintro _ rfl;exact aL rfl (aB (v:=.slice _ _ _) rfl) rfl
    constructor
    ·rintro-w126 D126;rintro _ rfl;exact aL rfl (aB (v:=.int _ _) rfl) rfl
    constructor
    ·rintro-w127 D127;rintro _ rfl _ rfl;exact aL rfl (kZ (b:=1) rfl rfl (by omega)) rfl
    constructor
    ·rintro-w128 D128;rintro _ rfl _ rfl _ rfl;exact aL rfl (bf mg rfl rfl (by omega)) rfl
    constructor
    ·rintro-w129 D129;rintro _ rfl _ rfl;exact aL rfl (ai dB rfl) rfl
    constructor
    ·rintro-w130 D130;rintro _ rfl _ rfl;exact aL rfl (ao (v:=.string fs[i-1].nm) bY rfl (by have h9:=Ct (((hB.next E6).only O6 (hg6)).next D130) ((hcd (i-1) (by omega)) 0 _ rfl);simpa using h9)) rfl
    constructor
    ·rintro-w131 D131;rintro _ rfl;exact aL rfl (ai dB rfl) rfl
    constructor
    ·rintro-w132 D132;rintro _ rfl _ rfl;exact aL rfl (ao (v:=.string fs[i].nm) bY rfl ((P6.from_ (ag.rfl_.next D132)).rd 0 rfl)) rfl
    constructor
    ·rintro-w133 D133;rintro _ rfl v133_40 rfl v133_42 rfl;exact aL rfl (cU (uh rfl rfl) (Bb hns)) rfl
    constructor
    ·rintro-w134 D134;rintro _ rfl _ rfl _ rfl;exact aL rfl (aO (v:=.bool _) rfl rfl) rfl
    constructor
    ·rintro-w135 D135;rintro _ rfl _ rfl;exact an (aQ (v:=.bool _) rfl rfl) rfl
    exact trivial
   case hend=>
    intro w136 D136;rintro _ rfl v21 rfl v22 ⟨q22,rfl,hq22⟩ _ rfl _ rfl _ rfl _ rfl v27 rfl _ rfl _ rfl _ rfl _ rfl _ rfl _ rfl _ rfl _ rfl _ rfl _ rfl _ rfl _ rfl v40 rfl _ rfl v42 rfl _ rfl _ rfl _ rfl;show St ..;refine ah (ae (aY rfl (af (ab (asp rfl (asi rfl (ah (ae (aC (aF (aW (aF (aF (aW (aF (gj (v:=.pointer _) (v':=.int _ _) rfl rfl rfl (⟨.inl ⟨fun h=>hbad (h.2 i),rfl⟩,(((hB.next E6).only O6 (hg6)).next D136)⟩)))))))))))))))))
  have hord:0<i→sLt (fs[i-1]'(by omega)).nm fs[i].nm:=fun _=>hsl
  apply bO 26 [(20,eqp _),(21,eqp (.string fs[i].nm)),(22,fun v w'=>∃ q,v=.slice (some ⟨q,0,none⟩) 1 1∧Blk w' q 9 #[.string fs[i].nm]),(23,eqp _),(24,eqp _),(25,eqp _),(26,eqp _),(27,eqp (.slice fs[i].A fs[i].bs.length fs[i].c)),(28,eqp _),(29,eqp _),(30,eqp _),(31,eqp _),(32,eqp _),(33,eqp _),(34,eqp _),(35,eqp _),(36,eqp _),(37,eqp _),(38,eqp _),(39,eqp _),(40,eqp (.string fs[i-1].nm)),(41,eqp _),(42,eqp (.string fs[i].nm)),(43,eqp _),(44,eqp _),(45,eqp _)] (by repeat first | exact cr | refine cq ?_ | refine bU ?_) (by kernel_rfl) (by kernel_rfl) ⟨aj _,aj _,(fun _ _ _ hF ⟨q,h1,h2⟩=>⟨q,h1,h2.from_ hF⟩),aj _,aj _,aj _,aj _,aj _,aj _,aj _,aj _,aj _,aj _,aj _,aj _,aj _,aj _,aj _,aj _,aj _,aj _,aj _,aj _,aj _,aj _,aj _,trivial⟩
  case hop=>
   constructor
   ·rintro-w138 D138;exact an (ai dB rfl) rfl
   constructor
   ·rintro-w139 D139;rintro _ rfl;exact an (ao bY rfl (by exact (P6.from_ (ag.rfl_.next D139)).rd 0 rfl)) rfl
   constructor
   ·rintro-w140 D140;rintro v140_21 rfl;exact fC (k5 (v:=.string fs[i].nm) de rfl rfl rfl) (ag.rfl_.new _) ⟨_,rfl,Blk.new _ _ _⟩
   constructor
   ·rintro-w141 D141;rintro v141_22 ⟨q22,rfl,hq22⟩;refine cX fN ((gN (some ⟨q22,0,none⟩) 1 1 [fs[i].nm] _ (mn hq22) rfl (by omega) (fun s hs=>by rw [List.mem_singleton.1 hs];exact (hall _ (List.getElem_mem hil)).2.1)).mono ?_);rintro v _ ⟨rfl,E141'⟩;exact ⟨E141',rfl⟩
   constructor
   ·rintro-w142 D142;rintro _ rfl;exact an (bh (bG rfl) (by simp [hokn])) rfl
   constructor
   ·rintro-w143 D143;rintro _ rfl;exact an (aB (v:=.bool _) rfl) rfl
   constructor
   ·rintro-w144 D144;rintro _ rfl;exact aL rfl (ai fh rfl) rfl
   constructor
   ·rintro-w145 D145;rintro _ rfl _ rfl;exact aL rfl (ao (v:=.slice fs[i].A fs[i].bs.length fs[i].c) bQ rfl ((P6.from_ (ag.rfl_.next D145)).rd 1 rfl)) rfl
   constructor
   ·rintro-w146 D146;rintro _ rfl v146_27 rfl;exact aL rfl (bb bZ rfl) rfl
   constructor
   ·rintro-w147 D147;rintro _ rfl _ rfl;exact aL rfl (bh (cn rfl rfl) (decide_eq_false (by omega))) rfl
   constructor
   ·rintro-w148 D148;rintro _ rfl _ rfl;exact an (aQ (v:=.bool _) rfl rfl) rfl
   constructor
   ·rintro-w149 D149;rintro _ rfl;exact an (aB (v:=.bool _) rfl) rfl
   constructor
   ·rintro-w150 D150;rintro _ rfl;exact aL rfl (aB (v:=.int _ _) rfl) rfl
   constructor
   ·rintro-w151 D151;rintro _ rfl _ rfl;exact aL rfl (cU (cn rfl rfl) (decide_eq_true (by omega))) rfl
   constructor
   ·rintro-w152 D152;rintro _ rfl _ rfl;exact aL rfl (aB (v:=.bool _) rfl) rfl
   constructor
   ·rintro-w153 D153;rintro _ rfl;exact aL rfl (aB (v:=.slice _ _ _) rfl) rfl
   constructor
   ·rintro-w154 D154;rintro _ rfl;exact aL rfl (aB (v:=.int _ _) rfl) rfl
   constructor
   ·rintro-w155 D155;rintro _ rfl _ rfl;exact aL rfl (kZ (b:=1) rfl rfl (by omega)) rfl
   constructor
   ·rintro-w156 D156;rintro _ rfl _ rfl _ rfl;exact aL rfl (bf mg rfl rfl (by omega)) rfl
   constructor
   ·rintro-w157 D157;rintro _ rfl _ rfl;exact aL rfl (ai dB rfl) rfl
   constructor
   ·rintro-w158 D158;rintro _ rfl _ rfl;exact aL rfl (ao (v:=.string fs[i-1].nm) bY rfl (by have h9:=Ct (((hB.next E6).only O6 (hg6)).next D158) ((hcd (i-1) (by omega)) 0 _ rfl);simpa using h9)) rfl
   constructor
   ·rintro-w159 D159;rintro _ rfl;exact aL rfl (ai dB rfl) rfl
   constructor
   ·rintro-w160 D160;rintro _ rfl _ rfl;exact aL rfl (ao (v:=.string fs[i].nm) bY rfl ((P6.from_ (ag.rfl_.next D160)).rd 0 rfl)) rfl
   constructor
   ·rintro-w161 D161;rintro _ rfl v161_40 rfl v161_42 rfl;exact aL rfl (bh (uh rfl rfl) (yJ hsl)) rfl
   constructor
   ·rintro-w162 D162;rintro _ rfl _ rfl _ rfl;exact aL rfl (aO (v:=.bool _) rfl rfl) rfl
   constructor
   ·rintro-w163 D163;rintro _ rfl _ rfl;exact an (aQ (v:=.bool _) rfl rfl) rfl
   exact trivial
  case hend=>
   intro w164 D164;rintro _ rfl v21 rfl v22 ⟨q22,rfl,hq22⟩ _ rfl _ rfl _ rfl _ rfl v27 rfl _ rfl _ rfl _ rfl _ rfl _ rfl _ rfl _ rfl _ rfl _ rfl _ rfl _ rfl _ rfl v40 rfl _ rfl v42 rfl _ rfl _ rfl _ rfl;show St ..;refine ah (ae (aI rfl (aE (ae (af (ab (aa (ai fh rfl) (aa (ao bQ rfl (by exact (P6.from_ (ag.rfl_.next D164)).rd 1 rfl)) ?_))))))));have hM48:ag _ w164:=(ag.rfl_.next D164);refine av fO (ck fs[i].A fs[i].c fs[i].bs.length fs[i].bs _ ((hall _ (List.getElem_mem hil)).1.from_ (((hB.next E6).only O6 (hg6)).next D164)) rfl (by omega)) ?_;rintro v48 w165 ⟨⟨A48,c48,rfl,ho48⟩,E48⟩;have h10:=h6.from_ (((ag.rfl_.next D164).next E48));have hB10:ag w w165:=((((hB.next E6).only O6 (hg6)).next D164).next E48);have P10a:=P6.from_ (((ag.rfl_.next D164).next E48));obtain ⟨f2,hf2⟩:∃ f2:Fl,f2=⟨fs[i].nm,A48,c48,A48,c48,fs[i].bs,fs[i].bs,true⟩:=⟨_,rfl⟩;have hz10:=(((((hB.next E6).only O6 (hg6)).next D164).next E48)).size;have hB48:∀ k,f2.B k→z6≤k:=by rw [hf2,hz6e];exact fun k hk=>hk.elim (fun e=>Nat.le_trans hM48.size (gl ho48 k e).1) fun e=>Nat.le_trans hM48.size (gl ho48 k e).1
   have hf10:gq w165 f2:=by rw [hf2];exact ⟨(RB.own ho48 (hall _ (List.getElem_mem hil)).1.bt).2,(RB.own ho48 (hall _ (List.getElem_mem hil)).1.bt).2,TyB.own ho48,TyB.own ho48,fun _=>⟨dI ho48 (Nat.zero_le _),.inr ⟨rfl,[],(List.append_nil _).symm⟩⟩,fun h=>by cases h⟩
   refine ass rfl (ah (ae ?_));apply tA 13 12 [60] [(49,eqp _),(50,eqp _),(51,eqp _),(52,eqp _),(53,eqp (.slice Ap gs.length cp)),(54,eqp _),(55,eqp (.string fs[i].nm)),(56,eqp _),(57,eqp _),(58,eqp _),(59,eqp (.agg (flV f2).toArray)),(60,fun v w'=>∃ q,v=.slice (some ⟨q,0,none⟩) 1 1∧Blk w' q 99 (flV f2).toArray),(61,fun v w'=>∃ A5 c5,v=.slice A5 (gs.length+1) c5∧w'.ownsRow 0 99 3 (.slice A5 (gs.length+1) c5) (gs.length+1) ((gs++[f2]).flatMap flV)∧∀ q,A5.map (·.block)=some q→Ap.map (·.block)=some q∨(w165).heap.size≤q)] (fun w'=>ag w165 w') (fun w'=>Chg (fun k=>Ap.map (·.block)=some k) w165 w'∧Blk w' b12 90 #[.slice Ap gs.length cp,.int .i64 0,.int .i64 ((0:Nat):Int),.bool false]∧Blk w' b6 93 (afV fs[i]).toArray∧ag w w') (by repeat first | exact cr | refine cq ?_ | refine bU ?_) (by kernel_rfl) (by kernel_rfl) (by kernel_rfl) ⟨aj _,aj _,aj _,aj _,aj _,aj _,aj _,aj _,aj _,aj _,aj _,(fun _ _ _ hF ⟨q,h1,h2⟩=>⟨q,h1,h2.from_ hF⟩),(fun _ _ _ hF ⟨A2,c2,h1,h2,h3⟩=>⟨A2,c2,h1,h2.kept_from hF,h3⟩),trivial⟩ (ag.rfl_.d1) (⟨ag.rfl_.d1.toChg,h10.blk.from_ ag.rfl_.d1,P10a.from_ ag.rfl_.d1,(((((hB.next E6).only O6 (hg6)).next D164).next E48)).d1⟩) (fun _ _ hF h=>h.next hF) (fun _ _ hF h=>⟨h.1.next hF.toChg,h.2.1.from_ hF,h.2.2.1.from_ hF,h.2.2.2.next hF⟩)
   case hop=>
    constructor
    ·rintro-w167 ⟨hC167,hb167,hp167,hw167⟩;exact an (aB (v:=.pointer _) rfl) rfl
    constructor
    ·rintro-w168 ⟨hC168,hb168,hp168,hw168⟩;exact an (aB (v:=.pointer _) rfl) rfl
    constructor
    ·rintro-w169 ⟨hC169,hb169,hp169,hw169⟩;rintro _ rfl;exact an (au rfl) rfl
    constructor
    ·rintro-w170 D170;rintro _ rfl;exact an (ai cd rfl) rfl
    constructor
    ·rintro-w171 D171;rintro _ rfl;exact an (ao dG rfl ((h10.blk.from_ D171).rd 0 rfl)) rfl
    constructor
    ·rintro-w172 ⟨hC172,hb172,hp172,hw172⟩;exact an (ai dB rfl) rfl
    constructor
    ·rintro-w173 ⟨hC173,hb173,hp173,hw173⟩;rintro _ rfl;exact an (ao (v:=.string fs[i].nm) bY rfl (hp173.rd 0 rfl)) rfl
    constructor
    ·rintro-w174 ⟨hC174,hb174,hp174,hw174⟩;exact an (aB (v:=.slice _ _ _) rfl) rfl
    constructor
    ·rintro-w175 ⟨hC175,hb175,hp175,hw175⟩;exact an (aB (v:=.slice _ _ _) rfl) rfl
    constructor
    ·rintro-w176 ⟨hC176,hb176,hp176,hw176⟩;rintro _ rfl _ rfl;exact an (bN (l:=[(0,.tmp 56),(1,.tmp 57)]) (kx _ _ _ _ _ _)) rfl
    constructor
    ·rintro-w177 D177;rintro v177_55 rfl _ rfl;exact an (bH (v':=.agg (flV f2).toArray) (bN (by kernel_rfl)) (by first | (rw [hf2];done) | (rw [hf2];rfl))) rfl
    constructor
    ·rintro-w178 D178;rintro v178_59 rfl;exact fC (nB eA rfl rfl rfl) (ag.rfl_.new _) ⟨_,rfl,Blk.new _ _ _⟩
    constructor
    ·intro h;cases h
    exact trivial
   case hmu=>
    rintro w180 D180;rintro v180_53 rfl v180_60 ⟨q180,rfl,hq180⟩;show qO ..;have hs9:=D180.size;refine uw (base:=0) (news:=flV f2) eA rfl (by decide) rfl (h10.row.kept_from D180) (Nat.zero_le _) rfl rfl ⟨q180,0,rfl,hq180.whole⟩ (jL f2) (by omega) (by omega) ?_;intro A5 c5 w3 ho3 hg3 hL3;refine ⟨⟨D180.toChg.next (Chg.of_grown hg3 (fun k e=>e)),(h10.blk.from_ D180).grown hg3 (dX (h10.row.kept_from D180) (h10.blk.from_ D180) (by decide)),(P10a.from_ D180).grown hg3 (dX (h10.row.kept_from D180) (P10a.from_ D180) (by decide)),(hB10.next D180).grew hg3 (fun k hk=>hft k (.inr (.inl hk)))⟩,⟨A5,c5,rfl,by rw [List.flatMap_append];simpa using ho3,fun q hq=>hL3.elim (fun e=>.inl (e ▸ hq)) fun e=>.inr (by rw [e] at hq;cases hq;exact hs9)⟩,fun t u ht h=>lj (by repeat first | exact trivial | refine ⟨.inl rfl,?_⟩ | refine ⟨.inr (fun _ h=>h),?_⟩) t u ht h⟩
   case hend=>
    rintro w181 ⟨hC181,hb181,hp181,hw181⟩;rintro _ rfl _ rfl _ rfl _ rfl v53 rfl _ rfl v55 rfl _ rfl _ rfl _ rfl v59 rfl v60 _ v61 ⟨A61,c61,rfl,ho61,hA61⟩;show St ..;have hC10:=hC181;have hbb:=hb181;refine aa (au rfl) (aa (ai cd rfl) (cT (v:=.slice _ _ _) hH rfl rfl rfl (hbb) (by show 0<4;decide) ?_));intro w182 O10 P10;refine ah (bI (ae (ab (aa (br rfl rfl (by omega)) (mvi rfl (ah ?_))))));refine bW ((i+1,gs++[f2],A61,c61)) ⟨(by first | rfl | (refine bD ?_;omega)),trivial⟩ (by (iterate 108 refine bg rfl ?_);exact bw) ⟨?_,?_⟩
    ·have hr:=eE ho61 O10 (dX ho61 hbb (by decide));have hC9:Chg (fun k=>k=b12∨Ap.map (·.block)=some k) _ w182:=(hC10.wide fun k hk=>.inl (.inr hk)).next (O10.toChg (.inl rfl))
     have hfo:gq w182 f2:=(hf10.from_ ag.rfl_).chg hC9 fun k hk e=>by
      have h7:=hB48 k hk;rcases e with e | e
      ·have:=h10.blk.lt;have:=h6.blk.lt;omega
      ·have:=(gl h6.row k e).2;omega
     have hk:=h10.ins (i:=gs.length) hC9 P10 (Nat.le_refl _) (by rw [List.take_length,List.drop_length];exact hr) hfo (fun g hg=>⟨fun ho k hk hb=>by have:=hB48 k hb;have:=(h6.ok g hg).lt (k:=k) (.inl hk);omega,fun ho k hk hb=>by have:=hB48 k (.inl hk);have:=(h6.ok g hg).lt hb;omega⟩);rw [List.take_length,List.drop_length] at hk
     exact ⟨by omega,by rw [List.length_append,hgl];rfl,fun j hj=>by
      rcases Nat.eq_or_lt_of_le (Nat.le_of_lt_succ hj) with e | e
      ·subst e;exact fun _=>⟨hokn,hlen,hord⟩
      ·exact hoj j e,by unfold aS at hga ⊢;rw [List.map_append,hga,List.take_succ_eq_append_getElem hil,List.map_append,hf2];rfl,hk,fun k hk=>by
      rcases hk with e | e | ⟨f3,h3,e⟩
      ·exact hft k (.inl e)
      ·rcases hA61 k e with e | e
       ·exact hft k (.inr (.inl e))
       ·exact Nat.le_trans hz10 e
      ·rcases List.mem_append.1 h3 with h3 | h3
       ·exact hft k (.inr (.inr ⟨f3,h3,e⟩))
       ·rw [List.mem_singleton.1 h3] at e;have:=hB48 k e;omega,(hw181.only O10 ((hft _ (.inl rfl))))⟩
    ·show fs.length-(i+1)<fs.length-i;omega
 refine cx (bc (bc (bX (ae (af (ab (mvp rfl (asp rfl (asi rfl (ah (ae (aC (gj (v:=.pointer _) (v':=.int _ _) rfl rfl rfl ?_)))))))))))));obtain rfl:i=fs.length:=by omega
 rw [List.take_length] at hga;have hall2:∀ j,okJ fs j:=fun j h=>hoj j h h
 have hks:=Bd hall2
 refine ⟨.inr ⟨⟨by omega,hall2⟩,b12,rfl,⟨gs,Ap,cp,0,hD.from_ ag.rfl_,hga,⟨hks,by rw [List.length_map];omega,fun e he=>by
  obtain ⟨f,hf,rfl⟩:=List.mem_map.1 he;obtain ⟨j,hj,rfl⟩:=List.getElem_of_mem hf;exact ⟨(hall2 j hj).2.1,(hall2 j hj).2.1⟩⟩,by omega,hft⟩⟩,hB⟩
end Go.Proofs.YtaohnmneccbljaaGreatDoor
namespace Go.Proofs.YtaohnmneccbljaaGreatDoor
open Go.Proofs.Tryz (prog)
open Go.RowKit
open Go.ChangeShapes Go.WideShapes Go.ChangeAt
theorem bj:dq prog 91=some (5,1):=by kernel_rfl
theorem mN:rC prog 91=some (5,1,(.int .u8 0)):=by kernel_rfl
theorem mO:aH prog 73=true:=by kernel_rfl
theorem sw:aH prog 74=true:=by kernel_rfl
theorem wZ {P:Program} {w:World} {t:TypeId} {x:Operand} {ρ:Operand→Value} {e sz h m c:Nat} {A:Option Addr} {y:Operand} {k:IntKind} (ht:dq P t=some (e,sz)) (hx:ρ x=.slice A m c) (hy:ρ y=.int k (h:Nat)) (hh:h≤c) :
 RO P ρ (.slice t x none (some y) none) w (.slice A h c) w:=by
 have:=bk (P:=P) (ρ:=ρ) (w:=w) (l:=0) (h:=h) ht (lo:=none) (hi:=some y) hx (.inl ⟨rfl,rfl⟩) (.inr ⟨y,k,_,rfl,hy,rfl⟩) (Nat.zero_le _) hh
 rwa [ep,Nat.sub_zero,Nat.sub_zero] at this
theorem RB.tk {w:World} {A:Option Addr} {c:Nat} {l:List Nat} (h:RB w A c l) (k:Nat) (h0:0<(aK (l.take k)).length):∃ b o,A=some ⟨b,o,none⟩∧w.rangeAt b o (aK (l.take k)):=
 (RB.pre (l:=l.take k) (r:=l.drop k) (by rwa [List.take_append_drop])).at_ (by rwa [aJ] at h0)
def mj (vs ds:List Nat) (n:Nat):List Nat:=vs.take n++(ds.take vs.length++List.replicate (vs.length-ds.length) 0).drop n
theorem j4 (vs ds:List Nat) (n:Nat):(mj vs ds n).length=vs.length:=by simp [mj];omega
theorem uS (vs ds:List Nat) (n:Nat):over (over (List.replicate vs.length (.int .u8 0)) 0 (aK (ds.take vs.length))) 0 (aK (vs.take (min n vs.length)))=aK (mj vs ds n):=by
 have h1:over (List.replicate vs.length (.int .u8 0)) 0 (aK (ds.take vs.length))=aK (ds.take vs.length++List.replicate (vs.length-ds.length) 0):=by
  unfold over aK;rw [List.take_zero,List.nil_append,List.map_append,List.map_replicate,List.drop_replicate]
  congr 2
  simp;omega
 rw [h1];unfold over mj;rw [List.take_zero,List.nil_append,Nat.zero_add,aJ,List.length_take,du];rcases Nat.le_total n vs.length with h | h
 ·rw [Nat.min_eq_left h,Nat.min_eq_left h];simp [aK]
 ·rw [Nat.min_eq_right h,Nat.min_self,List.take_of_length_le (Nat.le_refl _),List.take_of_length_le h,List.drop_of_length_le (by simp [aK];omega),List.drop_of_length_le (by simp;omega),List.append_nil,List.append_nil]
theorem wD {vs ds:List Nat} {n:Nat} (hv:∀ b∈vs,b<256) (hd:∀ b∈ds,b<256):∀ b∈mj vs ds n,b<256:=fun b hb=>by
 rcases List.mem_append.1 hb with h | h
 ·exact hv b (List.mem_of_mem_take h)
 ·rcases List.mem_append.1 (List.mem_of_mem_drop h) with h | h
  ·exact hd b (List.mem_of_mem_take h)
  ·have:=List.eq_of_mem_replicate h;omega
def eV (vs ds:List Nat) (pick:Int):List Nat:=
 if pick%3=0 then ds else if pick%3=1 then vs else mj vs ds (((pick/3)%(((max vs.length ds.length+31)/32+1:Nat):Int)).toNat*32)
theorem pH {vs ds:List Nat} {p:Int} (hv:∀ b∈vs,b<256) (hd:∀ b∈ds,b<256):∀ b∈eV vs ds p,b<256:=by
 unfold eV;split
 ·exact hd
 ·split
  ·exact hv
  ·exact wD hv hd
theorem oc {vs ds:List Nat} {p:Int}:(eV vs ds p).length≤max vs.length ds.length:=by
 unfold eV;split
 ·exact Nat.le_max_right _ _
 ·split
  ·exact Nat.le_max_left _ _
  ·rw [j4];exact Nat.le_max_left _ _
theorem yR (VA DA:Option Addr) (vc dc:Nat) (vs ds:List Nat) (n:Nat) (w:World) (hv:RB w VA vc vs) (hd:RB w DA dc ds) (hvl:vs.length≤2000000) (_:ds.length≤2000000) (_:n≤1000000000) :
 Rt prog 74 [.agg #[.slice VA vs.length vc,.slice DA ds.length dc],.int .i64 (n:Nat)] w (fun v w'=>(∃ A' c',v=.slice A' vs.length c'∧w'.ownsRow w.heap.size 5 1 (.slice A' vs.length c') vs.length (aK (mj vs ds n)))∧ag w w'):=by
 refine enter (n:=25) Tryz.func74 rfl rfl rfl (af (ab (bu (v:=.agg _) rfl ?_)));intro b2 w1 E2 hb2 hk2;refine ass rfl (ah (ae (af (ab (aa (ai cR rfl) (aa (ao bQ rfl (by exact (hk2.from_ ag.rfl_).rd 0 rfl)) ?_))))));refine aa (bb bZ rfl) ?_;have hB9:ag w w1:=(ag.rfl_.next E2);have hM9:=hk2.from_ (ag.rfl_);refine yY mN rfl rfl rfl (by omega) (by omega) ?_;intro b9 w2 E9 hb9 hk9;have hn9:b2≠b9:=by have:=hM9.lt;omega
 refine ass rfl (ah (ae (af (ab (mvs rfl (aa (ai fx rfl) (aa (ao bQ rfl (by exact (hk2.from_ (ag.rfl_.next E9)).rd 1 rfl)) ?_)))))));have hB13:ag w w2:=((ag.rfl_.next E2).next E9);refine gP (news:=aK (ds.take vs.length)) (g:=b9) (o:=0) (cur:=List.replicate vs.length (.int .u8 0)) bj rfl rfl (by rw [aJ,List.length_take,Nat.mul_one,Nat.min_comm]) (fun _=>rfl) (fun h=>(hd.from_ hB13).tk _ h) (hk9.from_ (ag.rfl_)) (by rw [aJ,List.length_take,List.length_replicate];omega) (dP _) ?_;intro w3 O13 P13;have hP2:=(hk2.from_ (ag.rfl_.next E9)).only O13 hn9;refine ah (ae (af (ab (mvs rfl (aa (ai cR rfl) (aa (ao bQ rfl (by exact (hP2.from_ ag.rfl_).rd 0 rfl)) ?_))))));refine mvi rfl (aa (ai cR rfl) (aa (ao bQ rfl (by exact (hP2.from_ ag.rfl_).rd 0 rfl)) ?_));refine aa (bb bZ rfl) (aa (xc rfl rfl) (iI (t:=21) (v:=.int _ _) (v':=.int .i64 ((min n vs.length:Nat):Int)) rfl (by congr 1;omega) ?_));refine aa (wZ bj rfl rfl (by have:=hv.le;omega)) ?_;have hB23:ag w w3:=(hB13.only O13 (by rw [hb9];exact hB9.size));refine gP (news:=aK (vs.take (min n vs.length))) (g:=b9) (o:=0) bj rfl rfl (by rw [aJ,List.length_take];omega) (fun _=>rfl) (fun h=>(hv.from_ hB23).tk _ h) P13 (by rw [cZ _ _ _ (by rw [aJ,List.length_take,List.length_replicate];omega),aJ,List.length_take,List.length_replicate];omega) (dP _) ?_;intro w4 O23 P23;refine ah (ae (af (ab (mvs rfl (ass rfl (ah (ae (aC (bz (v:=.slice _ _ _) rfl rfl ?_)))))))));rw [uS] at P23;exact ⟨⟨some ⟨b9,0,none⟩,vs.length,rfl,nI (by rw [hb9];exact hB9.size) P23 (Nat.le_refl _) (by unfold maxLen;omega) (by rw [aJ,j4,Nat.mul_one]) (List.take_of_length_le (by rw [aJ,j4,Nat.mul_one];exact Nat.le_refl _))⟩,(hB23.only O23 (by rw [hb9];exact hB9.size))⟩
theorem pG (VA DA:Option Addr) (vc dc:Nat) (vs ds:List Nat) (pick:Int) (w:World) (hv:RB w VA vc vs) (hd:RB w DA dc ds) (hvl:vs.length≤2000000) (hdl:ds.length≤2000000) (hp:-9223372036854775808≤pick∧pick≤9223372036854775807) :
 Rt prog 58 [.agg #[.slice VA vs.length vc,.slice DA ds.length dc],.int .i64 pick] w (fun v w'=>(∃ A' c' n,v=.slice A' n c'∧n=(eV vs ds pick).length∧w'.ownsRow w.heap.size 5 1 (.slice A' n c') n (aK (eV vs ds pick)))∧ag w w'):=by
 refine enter (n:=49) Tryz.func58 rfl rfl rfl (af (ab (bu (v:=.agg _) rfl ?_)));intro b2 w1 E2 hb2 hk2;refine ass rfl (ah (ae (af (ab (mvi rfl (av mO (pF pick 3 _ (by decide) (by decide) hp) ?_))))));rintro v13 w2 ⟨rfl,E13⟩;refine mvt rfl (aa (ar rfl rfl) (aa (ar rfl rfl) (asi rfl (asi rfl (ah (ae (af (af (ab (mvi rfl (ah (ae (aP (af (ab (aa (a7 rfl rfl) ?_))))))))))))))));refine asb rfl (ah (ae (BM rfl (fun Q3=>?_) (fun Q3=>?_))))
 ·refine af (ab (aa (ai fx rfl) (aa (ao bQ rfl (by exact (hk2.from_ (ag.rfl_.next E13)).rd 1 rfl)) ?_)));have hB21:ag w w2:=((ag.rfl_.next E2).next E13);refine av fO (ck DA dc ds.length ds _ (hd.from_ ((ag.rfl_.next E2).next E13)) rfl (by omega)) ?_;rintro v21 w4 ⟨⟨A21,c21,rfl,ho21⟩,E21⟩;refine ass rfl (ah (ae (aC (aW (aF (bz (v:=.slice _ _ _) rfl rfl ?_))))));have e1:eV vs ds pick=ds:=by unfold eV;rw [if_pos (by omega)]
  rw [e1];exact ⟨⟨A21,c21,_,rfl,rfl,dI ho21 hB21.size⟩,(((ag.rfl_.next E2).next E13).next E21)⟩
 refine af (ab (aa (a7 rfl rfl) (asb rfl (ah (ae (BM rfl (fun Q5=>?_) (fun Q5=>?_)))))))
 ·refine af (ab (aa (ai cR rfl) (aa (ao bQ rfl (by exact (hk2.from_ (ag.rfl_.next E13)).rd 0 rfl)) ?_)));have hB26:ag w w2:=((ag.rfl_.next E2).next E13);refine av fO (ck VA vc vs.length vs _ (hv.from_ ((ag.rfl_.next E2).next E13)) rfl (by omega)) ?_;rintro v26 w6 ⟨⟨A26,c26,rfl,ho26⟩,E26⟩;refine ass rfl (ah (ae (aC (aW (aF (bz (v:=.slice _ _ _) rfl rfl ?_))))));have e1:eV vs ds pick=vs:=by unfold eV;rw [if_neg (by omega),if_pos (by omega)]
  rw [e1];exact ⟨⟨A26,c26,_,rfl,rfl,dI ho26 hB26.size⟩,(((ag.rfl_.next E2).next E13).next E26)⟩
 refine aE (bI (ae (af (ab (aa (ai cR rfl) (aa (ao bQ rfl (by exact (hk2.from_ (ag.rfl_.next E13)).rd 0 rfl)) ?_))))));refine aa (bb bZ rfl) (aa (ai fx rfl) (aa (ao bQ rfl (by exact (hk2.from_ (ag.rfl_.next E13)).rd 1 rfl)) ?_));refine aa (bb bZ rfl) (aa (p_ rfl rfl) (iI (t:=33) (v:=.int _ _) (v':=.int .i64 ((max vs.length ds.length:Nat):Int)) rfl (by congr 1;omega) ?_));refine asi rfl (ah (ae (af (ab (mvi rfl (aa (cf (b:=32) rfl rfl (by omega)) (aa (kZ (b:=1) rfl rfl (by omega)) (aa (za (b:=32) rfl rfl (by omega)) (asi rfl (ah (ae (af (ab (mvi rfl ?_))))))))))))));refine mvi rfl (aa (cf (b:=1) rfl rfl (by omega)) (av mO (pF (pick/3) _ _ (by omega) (by omega) (by omega)) ?_));rintro v42 w7 ⟨rfl,E42⟩;have hz1:=Int.emod_nonneg (pick/3) (show (((max vs.length ds.length+31)/32+1:Nat):Int)≠0 by omega);have hz2:=Int.emod_lt_of_pos (pick/3) (show (0:Int)<(((max vs.length ds.length+31)/32+1:Nat):Int) by omega);obtain ⟨q,hq,hq2⟩:∃ q:Nat,(pick/3)%(((max vs.length ds.length+31)/32+1:Nat):Int)=(q:Int)∧q≤(max vs.length ds.length+31)/32:=⟨((pick/3)%(((max vs.length ds.length+31)/32+1:Nat):Int)).toNat,by omega,by omega⟩;rw [show max vs.length ds.length+32-1=max vs.length ds.length+31 by omega,hq];refine mvt rfl (aa (ar rfl rfl) (aa (ar rfl rfl) (asi rfl (asi rfl (ah (ae (af (ab (aa (aG (cs:=[_,_]) ki kh rfl (by exact (hk2.from_ ((ag.rfl_.next E13).next E42)).whole)) ?_)))))))));refine mvi rfl (aa (p8 (b:=32) rfl rfl (by omega)) ?_);have hB48:ag w w7:=(((ag.rfl_.next E2).next E13).next E42);refine av sw (yR VA DA vc dc vs ds (q*32) _ (hv.from_ (((ag.rfl_.next E2).next E13).next E42)) (hd.from_ (((ag.rfl_.next E2).next E13).next E42)) hvl hdl (by omega)) ?_;rintro v48 w8 ⟨⟨A48,c48,rfl,ho48⟩,E48⟩;refine ass rfl (ah (ae (aC (bz (v:=.slice _ _ _) rfl rfl ?_))));have e1:eV vs ds pick=mj vs ds (q*32):=by unfold eV;rw [if_neg (by omega),if_neg (by omega),hq];rfl
 rw [e1];exact ⟨⟨A48,c48,_,rfl,(j4 _ _ _).symm,dI ho48 hB48.size⟩,((((ag.rfl_.next E2).next E13).next E42).next E48)⟩
theorem eR:eU prog 79=some (93,2,40,(.agg #[.string ⟨#[]⟩,.slice none 0 0])):=by kernel_rfl
theorem lK:dq prog 23=some (3,1):=by kernel_rfl
theorem qQ:aH prog 57=true:=by kernel_rfl
theorem gI:(dq prog 23).isSome=true:=by kernel_rfl
theorem lJ:aH prog 58=true:=by kernel_rfl
def afB (f:Af):ByteArray×List Nat:=(f.nm,f.bs)
def ed:List Fe→List Int→List (ByteArray×List Nat)
 |[],_=>[]
 |e::D,ps=>if e.2.1=e.2.2 then (e.1,e.2.1)::ed D ps else (e.1,eV e.2.1 e.2.2 (ps.headD 0))::ed D ps.tail
def iU (w:World) (N:Nat) (f:Af):Prop:=w.ownsRow N 5 1 (.slice f.A f.bs.length f.c) f.bs.length (aK f.bs)∧(∀ b∈f.bs,b<256)∧f.nm.size≤140737488351232∧f.bs.length≤1048576
theorem iU.from_ {w w':World} {N:Nat} {f:Af} (h:iU w N f) (hF:ag w w'):iU w' N f:=⟨h.1.kept_from hF,h.2⟩
theorem iU.aside {w w':World} {N e s n c:Nat} {A:Option Addr} {xs:List Value} {f:Af} (h:iU w N f) (ho:w.ownsRow N e s (.slice A n c) n xs) (hne:5≠e) (hg:w.grownBy w' (A.map (·.block))):iU w' N f:=⟨vp h.1 hg (vq ho h.1 hne.symm),h.2⟩
theorem iU.ok {w:World} {N:Nat} {f:Af} (h:iU w N f):BV w f:=⟨(RB.own h.1 h.2.1).2,h.2.2.1,by have:=h.2.2.2;omega⟩
theorem yo {D:List Fe} {i:Nat} (hi:i<D.length) {ps:List Int} (h:D[i].2.1=D[i].2.2):ed (D.drop i) ps=(D[i].1,D[i].2.1)::ed (D.drop (i+1)) ps:=by
 rw [List.drop_eq_getElem_cons hi];rw [ed,if_pos h]
theorem rU {D:List Fe} {i:Nat} (hi:i<D.length) {ps:List Int} (h:¬ D[i].2.1=D[i].2.2):ed (D.drop i) ps=(D[i].1,eV D[i].2.1 D[i].2.2 (ps.headD 0))::ed (D.drop (i+1)) ps.tail:=by
 rw [List.drop_eq_getElem_cons hi];rw [ed,if_neg h]
theorem uG {w:World} {g t:Nat} {a b c:Value} (h:Blk w g t #[a,b,c]):w.rangeAt g (0+1) [b,c]:=fun j v hv=>by
 match j,hv with
 |0,hv=>exact h.whole 1 v hv
 |1,hv=>exact h.whole 2 v hv
 |j+2,hv=>simp at hv
theorem zE {w:World} {b o c:Nat} {a:Int} {l:List Int} (h:d_ iV w (some ⟨b,o,none⟩) (a::l)) (hc:(a::l).length≤c):d_ iV w (dm (some ⟨b,o,none⟩) c 1 1) l:=fun h0=>by
 obtain ⟨b2,o2,e,hh⟩:=h (by simp);cases e;refine ⟨b,o+1,?_,fun i hi=>?_⟩
 ·unfold dm;rw [if_neg (by simp at hc;omega)];rfl
 ·have:=hh (i+1) (by simpa using hi);rw [show o+1+i=o+(i+1) by omega];simpa using this
theorem yn (U:Nat→Prop) (d:Nat) (D:List Fe) (fu:Nat) (off:Bool) (w:World) (hd:cP w U d D fu off) (PA:Option Addr) (pc pn:Nat) (ps:List Int) (hr:d_ iV w PA ps) (hpn:pn=ps.length) (hpc:ps.length≤pc) (hpc9:pc≤9223372036854775807) (hpb:∀ q∈ps,-9223372036854775808≤q∧q≤9223372036854775807) (hnms:∀ e∈D,e.1.size≤140737488351232) :
 Rt prog 35 [.pointer (some ⟨d,0,none⟩),.slice PA pn pc] w (fun v w'=>(∃ A' c' n,∃ gs:List Af,v=.slice A' n c'∧n=gs.length∧gs.map afB=ed D ps∧w'.ownsRow w.heap.size 93 2 (.slice A' n c') n (gs.flatMap afV)∧∀ g∈gs,iU w' w.heap.size g)∧ag w w'):=by
 subst hpn;have hd0:=hd;obtain ⟨fs,Ap,cp,ca,h,hD,hok,hfu0,hU⟩:=hd;subst hD;obtain ⟨hs,hl,hz⟩:=hok;rw [aR] at hl;refine enter (n:=52) Tryz.func35 rfl rfl rfl (af (ab (ass rfl (ah (ae (af (ab (ass rfl (ah (ae (af (af (ab (mvp rfl (aa (au rfl) (aa (ai cd rfl) ?_))))))))))))))));refine aa (ao dG rfl (by exact (h.blk.from_ ag.rfl_).rd 0 rfl)) ?_;refine aa (bb eH rfl) (mvi rfl (ah (ae (aP (cH (G:=Nat×List Af×Option Addr×Nat×Option Addr×List Int×Nat) [7,8,9,16,17,18,19,20,21,22,23,24,25,26,27,28,29,30,31,32,33,34,35,36,37,38,39,40,41,42,43,44,45,46,47,48,49,50] (fun (i,_,A5,c5,Q,qs,qc)=>[(1,.slice Q qs.length qc),(5,.slice A5 i c5),(15,.int .i64 (i:Nat))]) (fun (i,gs,A5,c5,Q,qs,qc) w'=>i≤fs.length∧gs.length=i∧ed (aS fs) ps=gs.map afB++ed ((aS fs).drop i) qs∧d_ iV w Q qs∧qs.length≤qc∧qc≤9223372036854775807∧(∀ q∈qs,-9223372036854775808≤q∧q≤9223372036854775807)∧w'.ownsRow w.heap.size 93 2 (.slice A5 i c5) i (gs.flatMap afV)∧(∀ g∈gs,iU w' w.heap.size g)∧ag w w') (fun (i,_)=>fs.length-i) ((0,[],none,0,PA,ps,pc)) ⟨rfl,rfl,rfl,trivial⟩ ?_ ?_)))))
 ·exact ⟨Nat.zero_le _,rfl,rfl,hr,hpc,hpc9,hpb,World.ownsRow_nil _ _ _ _,fun g hg=>(by cases hg),ag.rfl_⟩
 rintro ⟨i,gs,A5,c5,Q,qs,qc⟩ ρ1 w1 ⟨hi,hgl,hcl,hrq,hqc,hqc9,hqb,ho,hgs,hB⟩;refine af (ab (aa (cl rfl rfl) (ah (ae (af (BM rfl (fun Q2=>?_) (fun Q2=>?_)))))))
 ·have hil:i<fs.length:=by omega
  have hila:i<(aS fs).length:=by rw [aR];exact hil
  obtain ⟨bp,op,rfl,hcd⟩:=(kY h.row).2 (by omega);have hce:=hcd i hil;have hfi:=h.ok _ (List.getElem_mem hil);have hzi:=hz _ (List.getElem_mem hila);rw [bP] at hzi;have hz1:fs[i].vs.length≤1048576:=hzi.1;have hz2:fs[i].ds.length≤1048576:=hzi.2;have hnm:fs[i].nm.size≤140737488351232:=by have:=hnms _ (List.getElem_mem hila);rwa [bP] at this
  refine aE (ae (af (aP (af (ab (aa (bf bK rfl rfl (by omega)) (aa (aG (cs:=[_,_,_]) iT ff rfl (by exact dU hB hce)) ?_)))))));refine aZ kS ?_;intro b7 w3 E7 hb7 hk7;have hg7:w.heap.size≤b7:=by rw [hb7];exact (hB).size
  refine aV (vs:=[_,_,_]) ff rfl rfl (by simp [Value.oneCell']) (hk7) rfl ?_;intro w4 O4 P4;have hF7:ag _ w4:=E7.only O4 (by rw [hb7];exact Nat.le_refl _);replace ho:=ho.kept_from hF7;replace hgs:=fun g hg=>(hgs g hg).from_ hF7
  refine ah (ae (af (ab (aa (ai cQ rfl) (aa (ai cR rfl) (aa (ao bQ rfl (by exact (P4.from_ ag.rfl_).rd 1 rfl)) ?_))))));replace ho:=ho.kept_from (ag.rfl_);replace hgs:=fun g hg=>(hgs g hg).from_ (ag.rfl_)
  replace P4:=P4.from_ (ag.rfl_);have hz22:=(((hB.next E7).only O4 (hg7))).size;refine av fO (ck fs[i].vA fs[i].vc fs[i].vs.length fs[i].vs _ (hfi.v.from_ ((hB.next E7).only O4 (hg7))) rfl (by omega)) ?_;rintro v22 w5 ⟨⟨A22,c22,rfl,ho22⟩,E22⟩;replace ho:=ho.kept_from E22;replace hgs:=fun g hg=>(hgs g hg).from_ E22
  replace P4:=P4.from_ E22;have hodx:iU w5 w.heap.size ⟨fs[i].nm,A22,c22,fs[i].vs⟩:=⟨dI ho22 hz22,hfi.v.bt,hnm,hz1⟩;refine ass rfl (ah (ae (af (af (ab (aa (ai cQ rfl) (aa (ai cR rfl) (aa (ao bQ rfl (by exact (P4.from_ ag.rfl_).rd 1 rfl)) ?_))))))));refine aa (ai cQ rfl) (aa (ai fx rfl) (aa (ao bQ rfl (by exact (P4.from_ ag.rfl_).rd 2 rfl)) ?_));refine av qQ (vV fs[i].vA fs[i].dA fs[i].vc fs[i].dc _ _ fs[i].vs fs[i].ds _ (hfi.v.from_ (((hB.next E7).only O4 (hg7)).next E22)) (hfi.d.from_ (((hB.next E7).only O4 (hg7)).next E22)) rfl rfl) ?_;rintro v29 w6 ⟨rfl,rfl⟩;refine aa (bG rfl) (ah (ae (aM rfl (fun Q7=>?_) (fun Q7=>?_))))
  ·with_reducible (replace Q7:=gA Q7;replace Q7:=dF_ Q7)
   have hne:¬ fs[i].vs=fs[i].ds:=by simpa using Q7
   refine af (ab (asi rfl (ah (ae (af (af (ab (mvs rfl (aa (bb gI rfl) (aa (cn rfl rfl) (ah (ae (BM rfl (fun Q8=>?_) (fun Q8=>?_))))))))))))))
   ·obtain ⟨pk,qn,rfl⟩:∃ a b,qs=a::b:=by cases qs with | nil=>(simp at Q8) | cons a b=>exact ⟨a,b,rfl⟩
    obtain ⟨bq,oq,rfl,hcq⟩:=hrq (by simp);have hq0:=hqb pk (List.mem_cons_self ..);obtain ⟨Qn,hQn⟩:∃ x,x=dm (some ⟨bq,oq,none⟩) qc 1 1:=⟨_,rfl⟩;obtain ⟨qm,hqm⟩:∃ x,x=qc-1:=⟨_,rfl⟩;have hrn:=zE hrq hqc;rw [←hQn] at hrn;have hnc:qn.length≤qm:=by rw [hqm];simp at hqc;omega
    have hnc9:qm≤9223372036854775807:=by omega
    have hnb:∀ q∈qn,-9223372036854775808≤q∧q≤9223372036854775807:=fun q hq=>hqb q (List.mem_cons_of_mem _ hq)
    have hpk:=hq0;obtain ⟨bsC,hbsC⟩:∃ l,l=eV fs[i].vs fs[i].ds pk:=⟨_,rfl⟩;have hcr0:ed ((aS fs).drop i) (pk::qn)=(fs[i].nm,bsC)::ed ((aS fs).drop (i+1)) qn:=by rw [rU hila (by rw [bP];exact hne),bP,hbsC];rfl
    apply bO 7 [(34,eqp _),(35,eqp _),(36,eqp (.int .i64 pk)),(37,eqp _),(38,eqp (.slice Qn qn.length qm)),(9,eqp _),(1,eqp _)] (by repeat first | exact cr | refine cq ?_ | refine bU ?_) (by kernel_rfl) (by kernel_rfl) ⟨aj _,aj _,aj _,aj _,aj _,aj _,aj _,trivial⟩
    case hop=>
     constructor
     ·rintro-w10 D10;exact an (aB (v:=.slice _ _ _) rfl) rfl
     constructor
     ·rintro-w11 D11;rintro _ rfl;exact an (cm lK rfl rfl (by omega)) rfl
     constructor
     ·rintro-w12 D12;rintro _ rfl;exact an (ao (v:=.int .i64 pk) aD rfl (Ct ((((hB.next E7).only O4 (hg7)).next E22).next D12) (by have h9:=hcq 0 (by simp);exact h9))) rfl
     constructor
     ·rintro-w13 D13;exact an (aB (v:=.slice _ _ _) rfl) rfl
     constructor
     ·rintro-w14 D14;rintro _ rfl;exact an (bH (v':=.slice Qn qn.length qm) (bk (l:=1) (h:=(pk::qn).length) lK rfl (.inr ⟨_,_,_,rfl,rfl,rfl⟩) (.inl ⟨rfl,rfl⟩) (by simp) hqc) (by rw [hQn,hqm];rfl)) rfl
     constructor
     ·rintro-w15 D15;rintro v15_36 rfl;exact an (bn (v:=.int _ _) rfl) rfl
     constructor
     ·rintro-w16 D16;rintro v16_38 rfl;exact an (bn (v:=.slice _ _ _) rfl) rfl
     exact trivial
    case hend=>
     intro w17 D17;rintro _ rfl _ rfl v36 rfl _ rfl v38 rfl _ rfl _ rfl;show St ..;refine ah (ae (ab (aa (ai cQ rfl) (aa (aG (cs:=[_,_]) ki kh rfl (by exact uG (P4.from_ (ag.rfl_.next D17)))) ?_))));refine mvi rfl ?_;replace ho:=ho.kept_from ((ag.rfl_.next D17));replace hgs:=fun g hg=>(hgs g hg).from_ ((ag.rfl_.next D17))
     replace P4:=P4.from_ ((ag.rfl_.next D17));have hz42:=(((((hB.next E7).only O4 (hg7)).next E22).next D17)).size;refine av lJ (pG fs[i].vA fs[i].dA fs[i].vc fs[i].dc fs[i].vs fs[i].ds _ _ (hfi.v.from_ ((((hB.next E7).only O4 (hg7)).next E22).next D17)) (hfi.d.from_ ((((hB.next E7).only O4 (hg7)).next E22).next D17)) (by omega) (by omega) hpk) ?_;rintro v42 w18 ⟨⟨A42,c42,n42,rfl,hn42,ho42⟩,E42⟩;replace ho:=ho.kept_from E42;replace hgs:=fun g hg=>(hgs g hg).from_ E42
     replace P4:=P4.from_ E42;rw [←hbsC] at hn42 ho42;subst hn42;obtain ⟨g2,hg2⟩:∃ g2:Af,g2=⟨fs[i].nm,A42,c42,bsC⟩:=⟨_,rfl⟩;have hod:iU w18 w.heap.size g2:=by rw [hg2];exact ⟨dI ho42 hz42,by show ∀ b∈bsC,b<256;rw [hbsC];exact pH hfi.v.bt hfi.d.bt,hnm,by show bsC.length≤1048576;rw [hbsC];exact Nat.le_trans oc (Nat.max_le.2 ⟨hz1,hz2⟩)⟩
     have hcr:=hcr0;rw [show (fs[i].nm,bsC)=afB g2 by rw [hg2] <;> rfl] at hcr;refine ass rfl (ah (ae (ab (mvs rfl (aa (ai gf rfl) (aa (ao bY rfl (by exact (P4.from_ ag.rfl_).rd 0 rfl)) ?_))))));refine mvs rfl ?_;refine aa (bH (v':=.agg (afV g2).toArray) (bN (by kernel_rfl)) (by rw [hg2] <;> rfl)) ?_;have hM48:ag _ w18:=ag.rfl_;refine np eR rfl rfl rfl ?_;intro b48 w19 E48 hb48 hk48;have hM49:ag _ w19:=(ag.rfl_.next E48);have ho49p:=ho.kept_from hM49;replace hgs:=fun g hg=>(hgs g hg).from_ hM49
     replace hod:=hod.from_ hM49;refine dk (a0:=w) (news:=afV g2) eR rfl (by decide) rfl ho49p ((((((hB.next E7).only O4 (hg7)).next E22).next D17).next E42).next E48) rfl rfl (fun _=>⟨b48,0,rfl,hk48.whole⟩) (fun h=>by cases h) (oi g2) (by omega) (by omega) ?_;intro A49 c49 w20 ho49 B49 hg49;refine ass rfl (ah (bI (ae (ab (aa (cf (b:=1) rfl rfl (by omega)) (mvi rfl (ah ?_)))))));refine bW ((i+1,gs++[g2],A49,c49,Qn,qn,qm)) ⟨(by first | rfl | (rw [hqn] <;> rfl)),rfl,(by first | rfl | (refine bD ?_;omega)),trivial⟩ (by (iterate 84 refine bg rfl ?_);exact bw) ⟨?_,?_⟩
     ·refine ⟨by omega,by rw [List.length_append,hgl];rfl,?_,hrn,hnc,hnc9,hnb,by rw [List.flatMap_append];simpa using ho49,fun g hg=>?_,B49⟩
      ·(rw [hcl,hcr,List.map_append,List.append_assoc];try rfl)
      ·rcases List.mem_append.1 hg with hg | hg
       ·exact (hgs g hg).aside ho49p (by decide) hg49
       ·rw [List.mem_singleton.1 hg];exact hod.aside ho49p (by decide) hg49
     ·show fs.length-(i+1)<fs.length-i;omega
   obtain rfl:qs=[]:=by cases qs with | nil=>rfl | cons a b=>(simp at Q8 <;> omega)
   have hpk:(-9223372036854775808:Int)≤0∧(0:Int)≤9223372036854775807:=by decide
   obtain ⟨bsC,hbsC⟩:∃ l,l=eV fs[i].vs fs[i].ds 0:=⟨_,rfl⟩;obtain ⟨qn,hqn⟩:∃ x:List Int,x=[]:=⟨_,rfl⟩;obtain ⟨Qn,rfl⟩:∃ x,x=Q:=⟨_,rfl⟩;obtain ⟨qm,rfl⟩:∃ x,x=qc:=⟨_,rfl⟩;have hrn:=hrq;rw [←hqn] at hrn;have hnc:qn.length≤qm:=by rw [hqn];exact hqc
   have hnc9:=hqc9;have hnb:∀ q∈qn,-9223372036854775808≤q∧q≤9223372036854775807:=by rw [hqn];exact hqb
   have hcr0:ed ((aS fs).drop i) []=(fs[i].nm,bsC)::ed ((aS fs).drop (i+1)) qn:=by rw [rU hila (by rw [bP];exact hne),bP,hqn,hbsC];rfl
   refine aE (ae (ab (aa (ai cQ rfl) (aa (aG (cs:=[_,_]) ki kh rfl (by exact uG (P4.from_ ag.rfl_))) ?_))));refine mvi rfl ?_;replace ho:=ho.kept_from (ag.rfl_);replace hgs:=fun g hg=>(hgs g hg).from_ (ag.rfl_)
   replace P4:=P4.from_ (ag.rfl_);have hz42:=((((hB.next E7).only O4 (hg7)).next E22)).size;refine av lJ (pG fs[i].vA fs[i].dA fs[i].vc fs[i].dc fs[i].vs fs[i].ds _ _ (hfi.v.from_ (((hB.next E7).only O4 (hg7)).next E22)) (hfi.d.from_ (((hB.next E7).only O4 (hg7)).next E22)) (by omega) (by omega) hpk) ?_;rintro v42 w21 ⟨⟨A42,c42,n42,rfl,hn42,ho42⟩,E42⟩;replace ho:=ho.kept_from E42;replace hgs:=fun g hg=>(hgs g hg).from_ E42
   replace P4:=P4.from_ E42;rw [←hbsC] at hn42 ho42;subst hn42;obtain ⟨g2,hg2⟩:∃ g2:Af,g2=⟨fs[i].nm,A42,c42,bsC⟩:=⟨_,rfl⟩;have hod:iU w21 w.heap.size g2:=by rw [hg2];exact ⟨dI ho42 hz42,by show ∀ b∈bsC,b<256;rw [hbsC];exact pH hfi.v.bt hfi.d.bt,hnm,by show bsC.length≤1048576;rw [hbsC];exact Nat.le_trans oc (Nat.max_le.2 ⟨hz1,hz2⟩)⟩
   have hcr:=hcr0;rw [show (fs[i].nm,bsC)=afB g2 by rw [hg2] <;> rfl] at hcr;refine ass rfl (ah (ae (ab (mvs rfl (aa (ai gf rfl) (aa (ao bY rfl (by exact (P4.from_ ag.rfl_).rd 0 rfl)) ?_))))));refine mvs rfl ?_;refine aa (bH (v':=.agg (afV g2).toArray) (bN (by kernel_rfl)) (by rw [hg2] <;> rfl)) ?_;have hM48:ag _ w21:=ag.rfl_;refine np eR rfl rfl rfl ?_;intro b48 w22 E48 hb48 hk48;have hM49:ag _ w22:=(ag.rfl_.next E48);have ho49p:=ho.kept_from hM49;replace hgs:=fun g hg=>(hgs g hg).from_ hM49
   replace hod:=hod.from_ hM49;refine dk (a0:=w) (news:=afV g2) eR rfl (by decide) rfl ho49p (((((hB.next E7).only O4 (hg7)).next E22).next E42).next E48) rfl rfl (fun _=>⟨b48,0,rfl,hk48.whole⟩) (fun h=>by cases h) (oi g2) (by omega) (by omega) ?_;intro A49 c49 w23 ho49 B49 hg49;refine ass rfl (ah (bI (ae (ab (aa (cf (b:=1) rfl rfl (by omega)) (mvi rfl (ah ?_)))))));refine bW ((i+1,gs++[g2],A49,c49,Qn,qn,qm)) ⟨(by first | rfl | (rw [hqn] <;> rfl)),rfl,(by first | rfl | (refine bD ?_;omega)),trivial⟩ (by (iterate 77 refine bg rfl ?_);exact bw) ⟨?_,?_⟩
   ·refine ⟨by omega,by rw [List.length_append,hgl];rfl,?_,hrn,hnc,hnc9,hnb,by rw [List.flatMap_append];simpa using ho49,fun g hg=>?_,B49⟩
    ·(rw [hcl,hcr,List.map_append,List.append_assoc];try rfl)
    ·rcases List.mem_append.1 hg with hg | hg
     ·exact (hgs g hg).aside ho49p (by decide) hg49
     ·rw [List.mem_singleton.1 hg];exact hod.aside ho49p (by decide) hg49
   ·show fs.length-(i+1)<fs.length-i;omega
  with_reducible (replace Q7:=gB Q7;replace Q7:=dT_ Q7)
  have heq:fs[i].vs=fs[i].ds:=by simpa using Q7
  obtain ⟨Qn,rfl⟩:∃ x,x=Q:=⟨_,rfl⟩;obtain ⟨qn,rfl⟩:∃ x,x=qs:=⟨_,rfl⟩;obtain ⟨qm,rfl⟩:∃ x,x=qc:=⟨_,rfl⟩;have hrn:=hrq;have hnc:=hqc;have hnc9:=hqc9;have hnb:=hqb;obtain ⟨g2,hg2⟩:∃ g2:Af,g2=⟨fs[i].nm,A22,c22,fs[i].vs⟩:=⟨_,rfl⟩;have hod:=hodx;rw [←hg2] at hod;have hcr:ed ((aS fs).drop i) qn=afB g2::ed ((aS fs).drop (i+1)) qn:=by rw [yo hila (by rw [bP];exact heq),bP,hg2];rfl
  refine aE (ae (ab (mvs rfl (aa (ai gf rfl) (aa (ao bY rfl (by exact (P4.from_ ag.rfl_).rd 0 rfl)) ?_)))));refine mvs rfl ?_;refine aa (bH (v':=.agg (afV g2).toArray) (bN (by kernel_rfl)) (by rw [hg2] <;> rfl)) ?_;have hM48:ag _ w5:=ag.rfl_;refine np eR rfl rfl rfl ?_;intro b48 w24 E48 hb48 hk48;have hM49:ag _ w24:=(ag.rfl_.next E48);have ho49p:=ho.kept_from hM49;replace hgs:=fun g hg=>(hgs g hg).from_ hM49
  replace hod:=hod.from_ hM49;refine dk (a0:=w) (news:=afV g2) eR rfl (by decide) rfl ho49p ((((hB.next E7).only O4 (hg7)).next E22).next E48) rfl rfl (fun _=>⟨b48,0,rfl,hk48.whole⟩) (fun h=>by cases h) (oi g2) (by omega) (by omega) ?_;intro A49 c49 w25 ho49 B49 hg49;refine ass rfl (ah (bI (ae (ab (aa (cf (b:=1) rfl rfl (by omega)) (mvi rfl (ah ?_)))))));refine bW ((i+1,gs++[g2],A49,c49,Qn,qn,qm)) ⟨(by first | rfl | (rw [hqn] <;> rfl)),rfl,(by first | rfl | (refine bD ?_;omega)),trivial⟩ (by (iterate 68 refine bg rfl ?_);exact bw) ⟨?_,?_⟩
  ·refine ⟨by omega,by rw [List.length_append,hgl];rfl,?_,hrn,hnc,hnc9,hnb,by rw [List.flatMap_append];simpa using ho49,fun g hg=>?_,B49⟩
   ·(rw [hcl,hcr,List.map_append,List.append_assoc];try rfl)
   ·rcases List.mem_append.1 hg with hg | hg
    ·exact (hgs g hg).aside ho49p (by decide) hg49
    ·rw [List.mem_singleton.1 hg];exact hod.aside ho49p (by decide) hg49
  ·show fs.length-(i+1)<fs.length-i;omega
 refine cx (bc (bc (bX (ae (af (ab (mvs rfl (ass rfl (ah (ae (aC (bz (v:=.slice _ _ _) rfl rfl ?_))))))))))));obtain rfl:i=fs.length:=by omega
 rw [List.drop_of_length_le (by rw [aR];exact Nat.le_refl _)] at hcl;exact ⟨⟨A5,c5,_,gs,rfl,hgl.symm,by rw [hcl,ed,List.append_nil],ho,hgs⟩,hB⟩
end Go.Proofs.YtaohnmneccbljaaGreatDoor
namespace Go.Proofs.YtaohnmneccbljaaGreatDoor.CM
abbrev W32:=BitVec 32
def BI:List W32→Nat→W32→W32
 |[],_,_=>0#32
 |c::r,i,x=>(if x.getLsbD i then c else 0#32) ^^^ BI r (i+1) x
structure Add (f:W32→W32):Prop where
 zero:f 0#32=0#32
 add:∀ a b,f (a ^^^ b)=f a ^^^ f b
def BO:List W32:=(List.range' 0 32).map fun k=>1#32 <<< k
def Ar (r:W32×W32) (l:List (W32×W32)) (i:Nat):List (W32×W32):=l.map fun p=>if p.1.getLsbD i then (p.1 ^^^ r.1,p.2 ^^^ r.2) else p
def AA:Nat→Nat→List (W32×W32)→List (W32×W32)→List (W32×W32)
 |0,_,done,_=>done
 |n+1,i,done,todo=>
  match todo.find? (fun p=>p.1.getLsbD i) with
  |none=>done
  |some r=>AA n (i+1) (Ar r done i++[r]) (Ar r (todo.filter fun p=>p.1 != r.1) i)
def zD (f:W32→W32):List W32:=(AA 32 0 [] (BO.map fun e=>(f e,e))).map (·.2)
def BY:List W32:=[0,498536548,997073096,651767980,1994146192,1802195444,1303535960,1342533948,3988292384,4027552580,3604390888,3412177804,2607071920,2262029012,2685067896,3183342108]
def tab (i:Nat):W32:=BY.getD i 0
def nW (c:W32):W32:=(c >>> 4) ^^^ tab (c &&& 15#32).toNat
def BN (c:W32):W32:=if c &&& 1#32=1#32 then (c >>> 1) ^^^ 3988292384#32 else c >>> 1
theorem B1 (a:W32):(a &&& 15#32).toNat<16:=by
 rw [BitVec.toNat_and];exact Nat.lt_of_le_of_lt Nat.and_le_right (by decide)
def qY (c:W32):W32:=nW (nW c)
def Cn:W32→W32:=BI (zD qY) 0
def reg:W32→List Nat→W32
 |c,[]=>c
 |c,b::r=>reg (qY (c ^^^ BitVec.ofNat 32 b)) r
theorem uk:∀ (l m:List Nat) (c:W32),reg c (l++m)=reg (reg c l) m
 |[],_,_=>rfl
 |x::r,m,c=>by simp only [List.cons_append,reg];exact uk r m _
end Go.Proofs.YtaohnmneccbljaaGreatDoor.CM
namespace Go.Proofs.YtaohnmneccbljaaGreatDoor
open Go.Proofs.Tryz (prog)
open Go.RowKit CM
theorem j3 (x:BitVec 32):BitVec.ofInt 32 (x.toNat:Int)=x:=by
 rw [BitVec.ofInt_natCast];apply BitVec.eq_of_toNat_eq;rw [BitVec.toNat_ofNat];exact Nat.mod_eq_of_lt x.isLt
theorem nd (x:BitVec 32):IntKind.u32.wrap (x.toNat:Int)=(x.toNat:Int):=by
 have h:=x.isLt;rw [IntKind.wrap_u32'];omega
theorem wz (x y:BitVec 32):bits BinOp.xor IntKind.u32 (x.toNat:Int) (y.toNat:Int)=((x ^^^ y).toNat:Int):=by
 show IntKind.u32.wrap ((BitVec.ofInt 32 (x.toNat:Int) ^^^ BitVec.ofInt 32 (y.toNat:Int)).toNat:Int)=_;rw [j3,j3,nd]
theorem BQ (x y:BitVec 32):bits BinOp.and IntKind.u32 (x.toNat:Int) (y.toNat:Int)=((x &&& y).toNat:Int):=by
 show IntKind.u32.wrap ((BitVec.ofInt 32 (x.toNat:Int) &&& BitVec.ofInt 32 (y.toNat:Int)).toNat:Int)=_;rw [j3,j3,nd]
theorem BR (x:BitVec 32):bits BinOp.and IntKind.u32 (x.toNat:Int) 15=((x &&& 15#32).toNat:Int):=BQ x 15#32
theorem B0 (x:BitVec 32):(x.toNat:Int)/16=((x >>> 4).toNat:Int):=by
 rw [BitVec.toNat_ushiftRight,Nat.shiftRight_eq_div_pow];omega
def cO (w:World):Prop:=∀ i,i<16→w.cell? ⟨3,i,none⟩=some (.int .u32 ((tab i).toNat:Int))
theorem cO.from_ {w w':World} (h:cO w) (hw:ag w w'):cO w':=fun i hi=>(hw.cells _ _ (by
 rcases Nat.lt_or_ge 3 w.heap.size with hlt | hge
 ·exact hlt
 ·have:=h 0 (by omega);unfold World.cell? at this;rw [Array.getElem?_eq_none hge] at this;cases this)).trans (h i hi)
theorem rM (c:BitVec 32) (w:World) (hT:cO w) :
 Calls prog 122 #[.int .u32 (c.toNat:Int)] w fun e w'=>e=.returned (.int .u32 ((nW c).toNat:Int))∧w=w':=by
 have h15:=B1 c;have hT1:=hT _ h15;have e1:=BR c;have e2:=B0 c;have e3:=wz (c >>> 4) (tab (c &&& 15#32).toNat);rw [←e2] at e3;have hh:nW c=(c >>> 4) ^^^ tab (c &&& 15#32).toNat:=rfl;rw [←hh] at e3;clear hh hT e2
 generalize (nW c).toNat=r at*
 generalize (tab (c &&& 15#32).toNat).toNat=t at*
 generalize (c &&& 15#32).toNat=m at*
 generalize c.toNat=x at*
 have i1:(0:Int)≤(m:Int):=by omega
 have i2:(m:Int)<16:=by omega
 go_enter Tryz.func122,Tryz.ntmps122
 go_wp2
 go_ret
 exact ⟨uj e3,rfl⟩
theorem wF (g:Nat) (c:BitVec 32) (b:Nat) (w:World) (hb:b<256) (hT:cO w) (hg:w.cell? ⟨g,0,none⟩=some (.int .u32 (c.toNat:Int))) (hf:w.frozen? ⟨g,0,none⟩=false) :
 Calls prog 106 #[.pointer (some ⟨g,0,none⟩),.int .u8 (b:Int)] w fun e w'=>e=.returned (.tuple #[])∧w'=w.setCell ⟨g,0,none⟩ (.int .u32 ((qY (c ^^^ BitVec.ofNat 32 b)).toNat:Int)):=by
 have e1:=wz c (BitVec.ofNat 32 b);have hbn:((BitVec.ofNat 32 b).toNat:Int)=(b:Int):=by rw [BitVec.toNat_ofNat,Nat.mod_eq_of_lt (by omega)]
 rw [hbn] at e1;have c1:=rM (c ^^^ BitVec.ofNat 32 b) w hT;have c2:=rM (nW (c ^^^ BitVec.ofNat 32 b)) w hT;have hs:qY (c ^^^ BitVec.ofNat 32 b)=nW (nW (c ^^^ BitVec.ofNat 32 b)):=rfl;rw [hs];clear hbn hs hT
 generalize (nW (nW (c ^^^ BitVec.ofNat 32 b))).toNat=r at*
 generalize (nW (c ^^^ BitVec.ofNat 32 b)).toNat=q at*
 generalize (c ^^^ BitVec.ofNat 32 b).toNat=p at*
 generalize c.toNat=x at*
 have C1:=Lib.hid c1;have C2:=Lib.hid c2;clear c1 c2
 go_enter Tryz.func106,Tryz.ntmps106
 go_wp2_with (first
  |(go_at_call 122;(with_reducible refine C1.out.mono ?_);rintro e w1 ⟨rfl,rfl⟩)
  |(go_at_call 122;(with_reducible refine C2.out.mono ?_);rintro e w1 ⟨rfl,rfl⟩))
 go_end0
 exact ⟨rfl,rfl⟩
def CM.Bytes (l:List Nat):Prop:=∀ b∈l,b<256
def wM (s:BitVec 32) (l:List Nat):BitVec 32 := ~~~(reg (~~~s) l)
theorem As (x:BitVec 32):bits BinOp.xor IntKind.u32 IntKind.u32.max (x.toNat:Int)=((~~~x).toNat:Int):=by
 have h:=wz (BitVec.allOnes 32) x;have e:((BitVec.allOnes 32).toNat:Int)=IntKind.u32.max:=by decide+kernel
 rw [e,BitVec.allOnes_xor] at h;exact h
def yG (w:World) (ns:BitVec 32) (l:List Nat) (i:Value) (wr:World):Prop:=
 ∃ j:Nat,j≤l.length∧i=.int .i64 j∧ag w wr∧wr.cell? ⟨w.heap.size,0,none⟩=some (.int .u32 ((reg ns (l.take j)).toNat:Int))∧wr.frozen? ⟨w.heap.size,0,none⟩=false
theorem wL {w wr:World} {ns:BitVec 32} {l:List Nat} {j:Nat} (hlt:j<l.length) (hw:ag w wr) {u:Value} (hc:wr.cell? ⟨w.heap.size,0,none⟩=some u) (hf:wr.frozen? ⟨w.heap.size,0,none⟩=false) :
 yG w ns l (.int .i64 ((j:Int)+1)) (wr.setCell ⟨w.heap.size,0,none⟩ (.int .u32 ((reg ns (l.take (j+1))).toNat:Int))):=
 ⟨j+1,by omega,by go_num,hw.set_ (Nat.le_refl _) _,World.cell?_setCell_same wr _ _ hc,by rw [World.frozen?_setCell];exact hf⟩
theorem yT (s:BitVec 32) (v:Value) (l:List Nat) (w:World) (hr:Row w v (aK l)) (hl:CM.Bytes l) (hlen:l.length≤140737488351232) (hT:cO w) :
 Calls prog 91 #[.int .u32 (s.toNat:Int),v] w fun e w'=>e=.returned (.int .u32 ((wM s l).toNat:Int))∧ag w w':=by
 obtain ⟨A,cap,rfl,hrow⟩:=q9 hr;have hn:=As s;have HT:=Lib.hid (fun w' (h:ag w w')=>hT.from_ h);have hres:wM s l = ~~~(reg (~~~s) l):=rfl;rw [hres];clear hres
 generalize ~~~s=ns at*
 have hfin:=As (reg ns l)
 generalize ~~~(reg ns l)=out at*
 have HF:=Lib.hid hfin;clear hT hr hfin
 go_enter Tryz.func91,Tryz.ntmps91
 go_wp2
 go_loopw [13] (yG w ns l) (fun i _=>l.length-(intOf i).toNat)
 case atStart=>
  exact ⟨0,by omega,rfl,ag.rfl_.new _,(Blk.new w _ _).cell 0,World.frozen?_alloc_new _ _ _ _⟩
 case round=>
  obtain ⟨j,hj,rfl,hw,hc,hf⟩:=hrel;by_cases hlt:j<l.length
  ·obtain ⟨b,o,rfl,hb,hcell⟩:=hrow (by omega);have d1:=(hw.cells b (o+j) hb).trans (hcell j hlt);have i1:(0:Int)≤(j:Int):=by omega
   have i2:(j:Int)<(l.length:Int):=by omega
   have hx:l[j]<256:=hl _ (List.getElem_mem hlt)
   have hsn:reg ns (l.take (j+1))=qY (reg ns (l.take j) ^^^ BitVec.ofNat 32 l[j]):=by
    rw [List.take_succ_eq_append_getElem hlt,uk];rfl
   have ct:=wF w.heap.size (reg ns (l.take j)) l[j] wr hx (HT.out wr hw) hc hf;rw [←hsn] at ct;have CT:=Lib.hid ct;clear ct hsn hcell hrow hl hn
   generalize l[j]=x at*
   go_wp2_with (go_at_call 106;(with_reducible refine CT.out.mono ?_);rintro e w1 ⟨rfl,rfl⟩)
   go_roundw
   case rel=>exact wL hlt hw hc hf
   case measure=>simp [intOf];omega
  ·obtain hjl:j=l.length:=by omega
   rw [hjl,List.take_length] at hc;clear hj hjl
   generalize (reg ns l).toNat=r at*
   go_wp2
   go_ret
   exact ⟨uj HF.out,hw⟩
def b8 (c:BitVec 32):Nat→BitVec 32
 |0=>c
 |k+1=>BN (b8 c k)
def B9 (w:World) (ns:BitVec 32) (l:List Nat) (c i:Value) (wr:World):Prop:=
 ∃ j:Nat,j≤l.length∧i=.int .i64 j∧ag w wr∧c=.int .u32 ((reg ns (l.take j)).toNat:Int)
def BW (w:World) (c0:BitVec 32) (c k:Value) (wr:World):Prop:=
 ∃ q:Nat,q≤8∧k=.int .i64 q∧ag w wr∧c=.int .u32 ((b8 c0 q).toNat:Int)
end Go.Proofs.YtaohnmneccbljaaGreatDoor
namespace Go.Proofs.YtaohnmneccbljaaGreatDoor
open Go.Proofs.Tryz (prog)
open Go.RowKit
open Go.ChangeShapes Go.WideShapes Go.ChangeAt
def leB:Nat→Nat→List Nat
 |0,_=>[]
 |k+1,n=>n%256::leB k (n/256)
def leN:List Nat→Nat
 |[]=>0
 |b::l=>b+256*leN l
theorem dr:∀ (k n:Nat),(leB k n).length=k
 |0,_=>rfl
 |k+1,n=>by rw [leB,List.length_cons,dr k]
theorem l4:∀ (k n:Nat),∀ b∈leB k n,b<256
 |0,_,b,h=>by cases h
 |k+1,n,b,h=>by
  rcases List.mem_cons.1 h with rfl | h
  ·exact Nat.mod_lt _ (by decide)
  ·exact l4 k _ b h
theorem qp:∀ (k n:Nat),n<256 ^ k→leN (leB k n)=n
 |0,n,h=>by
  have:n=0:=by simpa using h
  rw [this];rfl
 |k+1,n,h=>by
  rw [leB,leN,qp k (n/256) (by rw [Nat.pow_succ] at h;exact Nat.div_lt_of_lt_mul (by omega))];omega
theorem rG:∀ (k n:Nat),leB (k+1) n=leB k n++[n/256 ^ k%256]
 |0,n=>by simp [leB]
 |k+1,n=>by
  rw [leB,rG k (n/256),leB,Nat.div_div_eq_div_mul,Nat.pow_succ',List.cons_append]
theorem ux:∀ (l:List Nat) (x:Nat),leN (l++[x])=leN l+x*256 ^ l.length
 |[],x=>by simp [leN]
 |b::l,x=>by
  have e:256*(x*256 ^ l.length)=x*256 ^ (l.length+1):=by rw [Nat.pow_succ,Nat.mul_left_comm,Nat.mul_comm 256]
  rw [List.cons_append,leN,ux l x,leN,List.length_cons,←e];omega
theorem te:∀ (l:List Nat),(∀ b∈l,b<256)→leN l<256 ^ l.length
 |[],_=>by decide
 |b::l,h=>by
  have h1:=h b (List.mem_cons_self ..);have h2:=te l fun x hx=>h x (List.mem_cons_of_mem _ hx)
  rw [leN,List.length_cons,Nat.pow_succ];omega
theorem xO:∀ (l m:List Nat),leN l≤leN (l++m)
 |[],m=>Nat.zero_le _
 |b::l,m=>by
  have:=xO l m;rw [List.cons_append,leN,leN];omega
theorem AZ (i:Nat):256 ^ i=2 ^ (8*i):=by rw [show (256:Nat)=2 ^ 8 from rfl,←Nat.pow_mul]
theorem BB {a x i:Nat} (h:a<256 ^ i):a ||| (x*2 ^ (8*i))=a+x*256 ^ i:=by
 rw [AZ] at h ⊢;rw [Nat.or_comm,Nat.mul_comm,←Nat.two_pow_add_eq_or_of_lt h];omega
section
variable {P:Program} {ρ:Operand→Value} {w:World} {t yt:TypeId} {x y:Operand}
theorem Ba {a b:Nat} (ha:a<2 ^ 63) (hb:b<2 ^ 63):Go.bits .or .i64 (a:Int) (b:Int)=((a ||| b:Nat):Int):=by
 have e1:(BitVec.ofInt 64 (a:Int)).toNat=a:=by rw [BitVec.ofInt_natCast,BitVec.toNat_ofNat];exact Nat.mod_eq_of_lt (by omega)
 have e2:(BitVec.ofInt 64 (b:Int)).toNat=b:=by rw [BitVec.ofInt_natCast,BitVec.toNat_ofNat];exact Nat.mod_eq_of_lt (by omega)
 show IntKind.i64.wrap ((BitVec.ofInt 64 (a:Int) ||| BitVec.ofInt 64 (b:Int)).toNat:Int)=_;have h:a ||| b<2 ^ 63:=Nat.or_lt_two_pow ha hb
 rw [BitVec.toNat_or,e1,e2,IntKind.wrap_i64];generalize a ||| b=c at*;omega
theorem xb {a b:Nat} (hx:ρ x=.int .i64 (a:Nat)) (hy:ρ y=.int .i64 (b:Nat)) (h:a<2 ^ 63∧b<2 ^ 63):RO P ρ (.binOp .or t x y yt) w (.int .i64 ((a ||| b:Nat):Int)) w:=by
 have:=Bz (P:=P) (ρ:=ρ) (w:=w) (t:=t) (yt:=yt) hx hy;rwa [Ba h.1 h.2] at this
theorem y_ {a b:Nat} (hx:ρ x=.int .i64 (a:Nat)) (hy:ρ y=.int .i64 (b:Nat)) (h:b≤63∧a*2 ^ b<2 ^ 63):RO P ρ (.binOp .shl t x y yt) w (.int .i64 ((a*2 ^ b:Nat):Int)) w:=by
 have:=AL (P:=P) (ρ:=ρ) (w:=w) (t:=t) (yt:=yt) hx hy (by omega);have e:min ((b:Nat):Int).toNat IntKind.i64.bits=b:=by rw [Int.toNat_natCast];show min b 64=b;omega
 rw [e,show ((a:Int)*2 ^ b)=((a*2 ^ b:Nat):Int) by rw [Int.natCast_mul,Int.natCast_pow];rfl,IntKind.wrap_i64] at this;have h2:=h.2
 generalize a*2 ^ b=c at*
 rw [show ((c:Int)+9223372036854775808)%18446744073709551616-9223372036854775808=(c:Int) by omega] at this;exact this
end
theorem yX {P:Program} {ops:Array Oper} {Q:Exit→Act→World→Prop} {rest:List Oper} {n:Fr} {L:List (Nat×Value)} {w:World} {t ty:TypeId} {pos:String} {after:Array Edge} {x y:Operand} {g i b:Nat} {u:TypeId} {l:List Nat} (ht:cS P t=some 1) (hx:ev n L x=.pointer (some ⟨g,i,none⟩)) (hy:ev n L y=.int .u8 (b:Nat)) (hb:Blk w g u (aK l).toArray) (hi:i<l.length)
 (k:∀ w',cY g w w'→Blk w' g u (aK (l.set i b)).toArray→St P ops Q rest n L w'):St P ops Q (⟨none,.store t x y,ty,pos,after,none⟩::rest) n L w:=by
 refine cT ht hx hy rfl hb (by simpa [aK] using hi) fun w' O B=>k w' O ?_
 have e:((aK l).toArray.setIfInBounds i (.int .u8 (b:Nat)))=(aK (l.set i b)).toArray:=by
  apply Array.ext';simp [aK,List.map_set]
 first
  |(rw [e] at B;exact B)
  |(rw [←e];exact B)
theorem y5 {p m r:List Nat} {x:Nat} (y:Nat):(p++m++x::r).set (p.length+m.length) y=p++(m++[y])++r:=by
 rw [←List.length_append,List.set_append_right _ _ (Nat.le_refl _),Nat.sub_self,List.set_cons_zero];simp
theorem wQ {P:Program} {ops:Array Oper} {Q:Exit→Act→World→Prop} {rest:List Oper} {n:Fr} {L:List (Nat×Value)} {w:World} {t ty:TypeId} {pos:String} {after:Array Edge} {x y:Operand} {d e by_ m c:Nat} {z:Value} {kl kc:IntKind} (ht:rC P t=some (e,by_,z)) (hz:z.cells=#[z]) (hx:ev n L x=.int kl (m:Nat)) (hy:ev n L y=.int kc (c:Nat)) (hmc:m≤c) (hm:c≤9223372036854775807) (hb:by_*c≤281474976710656)
 (k:∀ g w',ag w w'→g=w.heap.size→Blk w' g e (List.replicate c z).toArray→St P ops Q rest n ((d,.slice (some ⟨g,0,none⟩) m c)::L) w'):St P ops Q (⟨some d,.makeSlice t x y,ty,pos,after,none⟩::rest) n L w:=by
 unfold rC at ht;split at ht
 ·rename_i e' hu;cases hi:P.info? e' with
  |none=>simp [hi] at ht
  |some i=>
   rw [hi] at ht;simp only [Option.bind_some] at ht;split at ht
   ·rename_i hs;cases hzz:i.zero with
    |none=>simp [hzz] at ht
    |some z'=>
     simp only [hzz,Option.map_some,Option.some.injEq,Prod.mk.injEq] at ht;obtain ⟨rfl,rfl,rfl⟩:=ht
     have hr:=run_make (P:=P) w t e' i z' hu hi hzz kl kc (m:Int) (c:Int) (by omega) (by omega) (by
      have:((i.bytes*c:Nat):Int)≤281474976710656:=by omega
      rwa [Int.natCast_mul] at this) (by omega)
     have hcells:madeCells z'.cells ((c:Int).toNat*i.size)=(List.replicate c z').toArray:=by
      rw [hs,Int.toNat_natCast,Nat.mul_one,hz];apply Array.ext_getElem?;intro j;simp only [madeCells,Array.getElem?_map];by_cases hj:j<c
      ·simp [hj,Nat.mod_one]
      ·simp [hj]
     rw [hcells,Int.toNat_natCast] at hr;refine aa (v:=.slice (some ⟨w.heap.size,0,none⟩) m c) (w':=w.alloc (.cells (List.replicate c z').toArray e')) (fun _ _ _ _ _=>?_) (k _ _ (ag.rfl_.new _) rfl (Blk.new w e' _));simp [execOp,hx,hy,hr]
   ·cases ht
 ·cases ht
theorem rf {P:Program} {ρ:Operand→Value} {w:World} {s x:Operand} {t tx e g m cap:Nat} {str:ByteArray} {cur:List Value} (ht:dq P t=some (e,1)) (htx:P.underlying tx=some .string) (hs:ρ s=.slice (some ⟨g,0,none⟩) m cap) (hx:ρ x=.string str) (hb:Blk w g e cur.toArray) (hroom:m+str.size≤cap) (hfit:m+str.size≤cur.length) :
 ∃ w',RO P ρ (.call { callee:=.builtin .append,args:=#[s,x],argTypes:=#[t,tx] }) w (.slice (some ⟨g,0,none⟩) (m+str.size) cap) w'∧cY g w w'∧Blk w' g e (over cur m (aK (eT str))).toArray:=by
 obtain ⟨hu,hsz⟩:=fS ht;obtain ⟨i,hi,hs2⟩:=wG hsz;have hbc:byteCells str=aK (eT str):=by unfold byteCells aK eT;rw [List.map_map];rfl
 have hS:Src P i.size tx (.string str) str.size (byteCells str) w:=by rw [hs2];exact Src.ofString w htx str
 have hl:(byteCells str).length=str.size:=by rw [hbc,aJ,eJ]
 have hth:=hb.there (m*i.size) (byteCells str).length (by rw [hs2,hl];simpa using hfit);have hrun:=fun ty=>run_append_room_src (P:=P) w t tx ty e i hu hi g 0 m cap (.string str) str.size (byteCells str) hS hroom (fun j hj=>by rw [Nat.zero_add];exact (hth j hj).1) (fun j hj=>by rw [Nat.zero_add];exact (hth j hj).2)
 refine ⟨w.setCells g (0+m*i.size) (byteCells str),fun dst ty pos after gg=>?_,cY.sets _ _ _,?_⟩
 ·unfold execOp;simp only [resolve,invoke,builtin,Sem.run_bind,Sem.run_pure,Result.andThen_ok,List.map_toArray,List.map_cons,List.map_nil,hs,hx,hrun]
 ·rw [←hbc,hs2,Nat.mul_one,Nat.zero_add];exact hb.sets _ _ (by rw [hl];exact hfit)
theorem qZ {P:Program} {ops:Array Oper} {Q:Exit→Act→World→Prop} {rest:List Oper} {n:Fr} {L:List (Nat×Value)} {w:World} {t tx ty:TypeId} {pos:String} {after:Array Edge} {s x:Operand} {d e g m cap:Nat} {str:ByteArray} {cur:List Value} (ht:dq P t=some (e,1)) (htx:P.underlying tx=some .string) (hs:ev n L s=.slice (some ⟨g,0,none⟩) m cap) (hx:ev n L x=.string str) (hb:Blk w g e cur.toArray) (hroom:m+str.size≤cap) (hfit:m+str.size≤cur.length)
 (k:∀ w',cY g w w'→Blk w' g e (over cur m (aK (eT str))).toArray→St P ops Q rest n ((d,.slice (some ⟨g,0,none⟩) (m+str.size) cap)::L) w') :
 St P ops Q (⟨some d,.call { callee:=.builtin .append,args:=#[s,x],argTypes:=#[t,tx] },ty,pos,after,none⟩::rest) n L w:=
 let ⟨w',hr,ho,hb'⟩:=rf ht htx hs hx hb hroom hfit
 aa hr (k w' ho hb')
def BG (a b:Nat) (t:ByteArray):List Nat:=leB 8 a++leB 8 b++eT t
def B6 (l:List Nat):Nat:=(wM 0#32 l).toNat
def Co (a b:Nat) (t:ByteArray):List Nat:=leB 4 (B6 (BG a b t))++BG a b t
def bz0 (k:Nat):List Nat:=List.replicate (20+k) 0
def bz1 (k a:Nat):List Nat:=(bz0 k).take 4++leB 8 a++(bz0 k).drop 12
def bz2 (k a b:Nat):List Nat:=(bz1 k a).take 12++leB 8 b++(bz1 k a).drop 20
def bz3 (a b:Nat) (t:ByteArray):List Nat:=(bz2 t.size a b).take 20++eT t
theorem wY {w:World} {g c o n:Nat} {p r:List Nat} (h:Blk w g 5 (aK (p++r)).toArray) (ho:p.length=o) (hn:n=r.length):Row w (.slice (some ⟨g,o,none⟩) n c) (aK r):=by
 subst ho hn;refine ⟨_,c,by rw [aJ],fun _=>⟨g,p.length,rfl,h.lt,fun i u hu=>?_⟩⟩;refine h.rd (p.length+i) ?_;rw [List.getElem?_toArray,du,List.getElem?_append_right (by rw [aJ];omega),aJ,Nat.add_sub_cancel_left];exact hu
theorem RB.tail {w:World} {A:Option Addr} {c:Nat} {p r:List Nat} (h:RB w A c (p++r)):RB w (dm A c p.length 1) (c-p.length) r:=by
 have hl:=h.le;rw [List.length_append] at hl;refine ⟨by omega,by have:=h.mx;omega,fun h0=>?_,fun b hb=>h.bt b (List.mem_append_right _ hb)⟩;obtain ⟨b,o,rfl,hr⟩:=h.at_ (by rw [List.length_append];omega);refine ⟨b,o+p.length*1,bT (by omega),fun j v hj=>?_⟩;have:=hr (p.length+j) v (by rw [du,List.getElem?_append_right (by rw [aJ];omega),aJ,Nat.add_sub_cancel_left];exact hj);rw [Nat.mul_one,Nat.add_assoc];exact this
theorem RB.rowR {w:World} {A:Option Addr} {c n:Nat} {l:List Nat} (h:RB w A c l) (hn:n=l.length):Row w (.slice A n c) (aK l):=by
 subst hn;refine ⟨A,c,by rw [aJ],fun h0=>?_⟩;obtain ⟨b,o,rfl,hr⟩:=h.at_ (by rwa [aJ] at h0);exact ⟨b,o,rfl,World.block_lt_of_cell? _ _ (hr 0 _ (List.getElem?_eq_getElem h0)),fun i u hu=>hr i u hu⟩
end Go.Proofs.YtaohnmneccbljaaGreatDoor
namespace Go.Proofs.YtaohnmneccbljaaGreatDoor
open Go.Proofs.Tryz (prog)
open Go.RowKit
open Go.ChangeShapes Go.WideShapes Go.ChangeAt
def eL (c:List Nat):List Nat:=c++List.replicate (31-c.length) 0
theorem lU {c:List Nat} (h:c.length≤31):(eL c).length=31:=by unfold eL;rw [List.length_append,List.length_replicate];omega
def cF (b:List Nat):List Nat:=
 if _:b=[] then [] else (if b.length≤31 then 2 else 1)::(eL (b.take 31)++cF (b.drop 31))
termination_by b.length
decreasing_by
 have:0<b.length:=List.length_pos_iff.2 (by assumption);rw [List.length_drop];omega
theorem nr:cF []=[]:=by unfold cF;rfl
theorem mY {b:List Nat} (h:b≠[]):cF b=(if b.length≤31 then 2 else 1)::(eL (b.take 31)++cF (b.drop 31)):=by
 rw [cF,dif_neg h]
def unS (s:List Nat):Option (List Nat×Nat):=
 match s with
 |[]=>none
 |m::r=>if r.length<31 then none else if m=2 then some (r.take 31,32) else if m=1 then (unS (r.drop 31)).map fun p=>(r.take 31++p.1,32+p.2) else none
termination_by s.length
decreasing_by
 simp only [List.length_drop,List.length_cons];omega
theorem nh (m:Nat) (r:List Nat):unS (m::r)=if r.length<31 then none else if m=2 then some (r.take 31,32) else if m=1 then (unS (r.drop 31)).map fun p=>(r.take 31++p.1,32+p.2) else none:=by rw [unS]
def ld (b:List Nat):List Nat:=b++List.replicate ((31-b.length%31)%31) 0
theorem iJ:∀ (n:Nat) (b:List Nat),b.length=n→(cF b).length=(b.length+30)/31*32:=fun n=>by
 induction n using Nat.strongRecOn with
 |ind n ih=>
  intro b hb;by_cases h:b=[]
  ·subst h;rw [nr];rfl
  ·have h0:0<b.length:=List.length_pos_iff.2 h;rw [mY h,List.length_cons,List.length_append,lU (by rw [List.length_take];omega),ih (b.drop 31).length (by rw [List.length_drop];omega) _ rfl,List.length_drop];rcases Nat.lt_or_ge b.length 31 with a | a
   ·rw [show b.length-31=0 by omega];have:(b.length+30)/31=1:=by omega
    rw [this]
   ·have:(b.length+30)/31=(b.length-31+30)/31+1:=by omega
    rw [this];omega
theorem wC:∀ (n:Nat) (b rest:List Nat),b.length=n→b≠[]→unS (cF b++rest)=some (ld b,(cF b).length):=fun n=>by
 induction n using Nat.strongRecOn with
 |ind n ih=>
  intro b rest hb h;have h0:0<b.length:=List.length_pos_iff.2 h;have hp:(eL (b.take 31)).length=31:=lU (by rw [List.length_take];omega);rw [iJ _ b rfl,mY h,List.cons_append,nh,if_neg (by rw [List.length_append,List.length_append,hp];omega)]
  have ht:(eL (b.take 31)++cF (b.drop 31)++rest).take 31=eL (b.take 31):=by
   rw [List.append_assoc,List.take_append_of_le_length (by omega),List.take_of_length_le (by omega)]
  have hd:(eL (b.take 31)++cF (b.drop 31)++rest).drop 31=cF (b.drop 31)++rest:=by
   rw [List.append_assoc,List.drop_append_of_le_length (by omega),List.drop_of_length_le (by omega),List.nil_append]
  rw [ht,hd];by_cases hl:b.length≤31
  ·rw [if_pos hl,if_pos rfl]
   have e1:eL (b.take 31)=ld b:=by
    unfold eL ld;rw [List.take_of_length_le hl];rcases Nat.lt_or_ge b.length 31 with a | a
    ·rw [show (31-b.length%31)%31=31-b.length by omega]
    ·rw [show (31-b.length%31)%31=0 by omega,show 31-b.length=0 by omega]
   rw [e1,show (b.length+30)/31*32=32 by omega]
  ·have hne:b.drop 31≠[]:=by
    intro e;have:=congrArg List.length e;rw [List.length_drop] at this;simp at this;omega
   rw [if_neg hl,if_neg (by decide),if_pos rfl,ih (b.drop 31).length (by rw [List.length_drop];omega) _ rest rfl hne,iJ _ (b.drop 31) rfl];simp only [Option.map_some,Option.some.injEq,Prod.mk.injEq,List.length_drop];constructor
   ·unfold ld eL;rw [List.length_take,Nat.min_eq_left (by omega),Nat.sub_self,List.replicate_zero,List.append_nil,←List.append_assoc,List.take_append_drop,List.length_drop]
    congr 2
    omega
   ·omega
theorem xp (b:List Nat):b.length≤(ld b).length:=by unfold ld;rw [List.length_append];omega
theorem y6:∀ (n:Nat) (b:List Nat),b.length=n→(∀ x∈b,x<256)→∀ x∈cF b,x<256:=fun n=>by
 induction n using Nat.strongRecOn with
 |ind n ih=>
  intro b hb hx x hm;by_cases h:b=[]
  ·subst h;rw [nr] at hm;cases hm
  ·have h0:0<b.length:=List.length_pos_iff.2 h;rw [mY h] at hm;rcases List.mem_cons.1 hm with rfl | hm
   ·split <;> decide
   ·rcases List.mem_append.1 hm with hm | hm
    ·unfold eL at hm;rcases List.mem_append.1 hm with hm | hm
     ·exact hx x (List.mem_of_mem_take hm)
     ·rw [List.eq_of_mem_replicate hm];decide
    ·exact ih (b.drop 31).length (by rw [List.length_drop];omega) _ rfl (fun y hy=>hx y (List.mem_of_mem_drop hy)) x hm
theorem oz:cS prog 5=some 1:=by kernel_rfl
theorem yE:prog.underlying 5=some (.int .u8):=by kernel_rfl
theorem jU:fK prog 5=some false:=by kernel_rfl
theorem yD:(prog.underlying 5).isSome=true:=by kernel_rfl
theorem fo (g o k c n:Nat) (l:List Nat) (w:World) (hb:Blk w g 5 (aK l).toArray) (hok:o+k≤l.length) (hk:k≤8) (_:n<9223372036854775808) :
 Rt prog 108 [.slice (some ⟨g,o,none⟩) k c,.int .i64 (n:Nat)] w (fun v w'=>v=.tuple #[]∧Blk w' g 5 (aK (l.take o++leB k n++l.drop (o+k))).toArray∧cY g w w'):=by
 refine enter (n:=19) Tryz.func108 rfl rfl rfl (af (ab (mvs rfl (aa (bb bZ rfl) (mvi rfl (ah (ae (aP (cH (G:=Nat) [4,8,9,10,11,12,13,14,15,16,17,18] (fun i=>[(7,.int .i64 (i:Nat))]) (fun i w'=>i≤k∧Blk w' g 5 (aK (l.take o++leB i n++l.drop (o+i))).toArray∧cY g w w') (fun i=>k-i) (0) ⟨rfl,trivial⟩ ?_ ?_)))))))))
 ·exact ⟨Nat.zero_le _,by rw [leB,List.append_nil,Nat.add_zero,List.take_append_drop];exact hb,cY.rfl_⟩
 rintro i ρ1 w1 ⟨hi,hbi,hO⟩;refine af (ab (aa (cl rfl rfl) (ah (ae (af (BM rfl (fun Q2=>?_) (fun Q2=>?_)))))))
 ·obtain ⟨x0,hdr⟩:∃ x,l.drop (o+i)=x::l.drop (o+i+1):=⟨l[o+i],List.drop_eq_getElem_cons (by omega)⟩;refine aE (ae (af (aP (af (ab (mvi rfl (asi rfl (ah (ae (ab (mvs rfl (mvi rfl (mvi rfl (mvi rfl (aa (p8 (a:=8) rfl rfl (by omega)) ?_)))))))))))))));refine aa (ug rfl rfl (by show 8*i≤64;omega)) ?_;refine aa (xe lI yE rfl) (aa (dM bj rfl rfl (by omega)) (yX (b:=n/256 ^ i%256) oz rfl (by rw [AZ];rfl) hbi (by rw [List.length_append,List.length_append,List.length_take,List.length_drop,dr];omega) ?_));intro w3 O3 P3;refine ah (bI (ae (ab (aa (cf (b:=1) rfl rfl (by omega)) (mvi rfl (ah ?_))))));refine bW (i+1) ⟨(by first | rfl | (refine bD ?_;omega)),trivial⟩ (by (iterate 26 refine bg rfl ?_);exact bw) ⟨?_,?_⟩
  ·refine ⟨by omega,?_,hO.trans O3⟩;rw [rG];have e1:o+i=(l.take o).length+(leB i n).length:=by rw [List.length_take,dr];omega
   have h1:=y5 (p:=l.take o) (m:=leB i n) (x:=x0) (r:=l.drop (o+i+1)) (n/256 ^ i%256);rw [←e1] at h1;rw [hdr,h1] at P3;rw [show o+(i+1)=o+i+1 by omega];exact P3
  ·show k-(i+1)<k-i;omega
 refine cx (bc (bc (bX (m_ (zf rfl ?_)))));obtain rfl:i=k:=by omega
 exact ⟨rfl,hbi,hO⟩
theorem vv (A:Option Addr) (c k:Nat) (l:List Nat) (w:World) (hr:RB w A c l) (hk:k=l.length) (hk8:l.length≤7∨leN l<9223372036854775808∧l.length≤8) :
 Rt prog 89 [.slice A k c] w (fun v w'=>v=.int .i64 (leN l:Nat)∧w=w'):=by
 subst hk
 have hlt:leN l<9223372036854775808:=by
  rcases hk8 with h | h
  ·have h1:=te l hr.bt;have h2:256 ^ l.length≤256 ^ 7:=Nat.pow_le_pow_right (by decide) h;have h3:(256:Nat) ^ 7=72057594037927936:=by decide
   omega
  ·exact h.1
 refine enter (n:=22) Tryz.func89 rfl rfl rfl (af (ab (asi rfl (ah (ae (af (ab (asi rfl (ah (ae (af (af (ab (mvs rfl (aa (bb bZ rfl) (mvi rfl ?_))))))))))))))));refine ah (ae (aP (cH (G:=Nat) [4,5,9,10,11,12,13,14,15,16,17,18,19,20] (fun i=>[(3,.int .i64 (leN (l.take i):Nat)),(8,.int .i64 (i:Nat))]) (fun i w'=>i≤l.length∧w=w') (fun i=>l.length-i) (0) ⟨rfl,rfl,trivial⟩ ?_ ?_)))
 ·exact ⟨Nat.zero_le _,rfl⟩
 rintro i ρ1 w1 ⟨hi,rfl⟩;refine af (ab (aa (cl rfl rfl) (ah (ae (af (BM rfl (fun Q2=>?_) (fun Q2=>?_)))))))
 ·have hil:i<l.length:=by omega
  obtain ⟨ba,oa,rfl,hca⟩:=hr.at_ (by omega);have hx9:=hca i (.int .u8 ((l[i]:Nat):Int)) (by unfold aK;rw [List.getElem?_map,List.getElem?_eq_getElem hil];rfl);have hxb:=hr.bt _ (List.getElem_mem hil);have hts:leN (l.take (i+1))=leN (l.take i)+l[i]*256 ^ i:=by rw [List.take_succ_eq_append_getElem hil,ux,List.length_take,Nat.min_eq_left (by omega)]
  have hle:leN (l.take (i+1))≤leN l:=by have:=xO (l.take (i+1)) (l.drop (i+1));rwa [List.take_append_drop] at this
  have hlo:leN (l.take i)<256 ^ i:=by have:=te (l.take i) (fun b hb=>hr.bt b (List.mem_of_mem_take hb));rwa [List.length_take,Nat.min_eq_left (by omega)] at this
  have hp:=AZ i;have hs19:leN (l.take (i+1))=leN (l.take i) ||| (l[i]*2 ^ (8*i)):=by rw [BB hlo,hts]
  have hsm:l[i]*2 ^ (8*i)<2 ^ 63:=by rw [←hp];omega
  refine aE (ae (af (aP (af (ab (mvi rfl (aa (dM bj rfl rfl (by omega)) (aa (ao jU rfl (by exact hx9)) ?_))))))));refine asi rfl (asi rfl (ah (ae (ab (mvi rfl (mvi rfl (aa (jE yD jZ rfl (by omega)) (mvi rfl (aa (p8 (a:=8) rfl rfl (by omega)) (aa (y_ rfl rfl ⟨by omega,hsm⟩) ?_))))))))));refine aa (xb rfl rfl ⟨by show leN (l.take i)<9223372036854775808;omega,hsm⟩) ?_;refine asi rfl (ah (bI (ae (ab (aa (cf (b:=1) rfl rfl (by omega)) (mvi rfl (ah ?_)))))));refine bW (i+1) ⟨(by rw [hs19];rfl),(by first | rfl | (refine bD ?_;omega)),trivial⟩ (by (iterate 32 refine bg rfl ?_);exact bw) ⟨?_,?_⟩
  ·exact ⟨by omega,rfl⟩
  ·show l.length-(i+1)<l.length-i;omega
 refine cx (bc (bc (bX (ae (af (ab (mvi rfl (asi rfl (ah (ae (aC (bz (v:=.int _ _) rfl rfl ?_))))))))))));obtain rfl:i=l.length:=by omega
 rw [List.take_length];exact ⟨rfl,rfl⟩
theorem sc:prog.underlying 185=some (.array (prog.arrayLen 185) (prog.elem 185)):=by kernel_rfl
theorem se:prog.arrayLen 185=32:=by kernel_rfl
theorem sd:cS prog (prog.elem 185)=some 1:=by kernel_rfl
theorem tG:ij prog 185=some (.agg #[.int .u8 0,.int .u8 0,.int .u8 0,.int .u8 0,.int .u8 0,.int .u8 0,.int .u8 0,.int .u8 0,.int .u8 0,.int .u8 0,.int .u8 0,.int .u8 0,.int .u8 0,.int .u8 0,.int .u8 0,.int .u8 0,.int .u8 0,.int .u8 0,.int .u8 0,.int .u8 0,.int .u8 0,.int .u8 0,.int .u8 0,.int .u8 0,.int .u8 0,.int .u8 0,.int .u8 0,.int .u8 0,.int .u8 0,.int .u8 0,.int .u8 0,.int .u8 0]):=by kernel_rfl
theorem ov:Ac prog 185=some (32,1):=by kernel_rfl
theorem zc {P:Program} {ρ:Operand→Value} {w:World} {t:TypeId} {x y:Operand} {b n l:Nat} {k:IntKind} (ht:P.underlying t=some (.array (P.arrayLen t) (P.elem t))) (hn:P.arrayLen t=n) (hs:cS P (P.elem t)=some 1) (hx:ρ x=.pointer (some ⟨b,0,none⟩)) (hy:ρ y=.int k (l:Nat)) (h:l<n):RO P ρ (.slice t x (some y) none none) w (.slice (some ⟨b,l,none⟩) (n-l) (n-l)) w:=fun _ _ _ _ _=>by
 subst hn;simp only [execOp,hx,hy,Option.map_none,Option.map_some,Sem.run_bind];rw [run_sliceAt_array_l w t _ ht k (l:Int) (by omega) (by omega),dD hs,Result.andThen_ok,Int.toNat_natCast];simp only [slicedAt];rw [if_neg (by omega),Nat.mul_one,Go.WideShapes.add_plain,Nat.zero_add];rfl
theorem zd {P:Program} {ρ:Operand→Value} {w:World} {t:TypeId} {x:Operand} {b n:Nat} (ht:P.underlying t=some (.array (P.arrayLen t) (P.elem t))) (hn:P.arrayLen t=n) (h0:0<n) (hs:cS P (P.elem t)=some 1) (hx:ρ x=.pointer (some ⟨b,0,none⟩)):RO P ρ (.slice t x none none none) w (.slice (some ⟨b,0,none⟩) n n) w:=fun _ _ _ _ _=>by
 subst hn;simp only [execOp,hx,Option.map_none,Sem.run_bind];rw [run_sliceAt_array_all w t _ ht,dD hs,Result.andThen_ok];simp only [slicedAt];rw [if_neg (by omega),Nat.zero_mul,Go.WideShapes.add_plain,Nat.add_zero,Nat.sub_zero];rfl
theorem z8 {w:World} {A:Option Addr} {c k:Nat} {l:List Nat} (h:RB w A c l) (h0:0<l.length):∃ b o,A=some ⟨b,o,none⟩∧w.rangeAt b o (aK (l.take k)):=by
 obtain ⟨b,o,hA,hc⟩:=h.at_ h0;refine ⟨b,o,hA,fun j v hv=>hc j v ?_⟩;unfold aK at hv ⊢;rw [List.map_take,List.getElem?_take] at hv;split at hv
 ·exact hv
 ·cases hv
def mark (r:List Nat):Nat:=if r.length≤31 then 2 else 1
theorem u3 {r:List Nat} (h:r≠[]):cF r=mark r::(eL (r.take 31)++cF (r.drop 31)):=mY h
theorem A_ (m:Nat) (r:List Nat):over (aK (m::List.replicate 31 0)) 1 (aK (r.take 31))=aK (m::eL (r.take 31)):=by
 unfold over eL aK;rw [List.length_map,List.length_take,List.map_cons,List.map_cons,List.map_append];have:1+min 31 r.length=min 31 r.length+1:=by omega
 rw [this,List.drop_succ_cons,←List.map_drop,List.drop_replicate];simp
theorem wU (m:Nat) (r:List Nat):(aK (1::eL (r.take 31))).toArray.setIfInBounds 0 (.int .u8 (m:Nat))=(aK (m::eL (r.take 31))).toArray:=by
 unfold aK;rw [List.setIfInBounds_toArray,List.map_cons,List.set_cons_zero,List.map_cons]
theorem jg (n:Nat) (w:World) (hn:n≤1000000000) :
 Rt prog 90 [.int .i64 (n:Nat)] w (fun v w'=>v=.int .i64 ((n+53)/31*32:Nat)∧w=w'):=by
 refine enter (n:=9) Tryz.func90 rfl rfl rfl (af (ab (asi rfl (ah (ae (af (ab (mvi rfl (aa (br rfl rfl (by omega)) (aa (br rfl rfl (by omega)) (aa (dv rfl rfl (by omega)) ?_)))))))))));refine aa (bH (sS rfl rfl (by omega)) (congrArg (Value.int .i64) (show IntKind.i64.wrap (Int.tdiv (23+(n:Int)+31-1) 31)=(((n+53)/31:Nat):Int) by rw [Int.tdiv_eq_ediv_of_nonneg (by omega),IntWalk.i64_in _ (by omega)];omega))) ?_;refine aa (nA rfl rfl (by omega)) (asi rfl (ah (ae (aC (bz (v:=.int _ _) rfl rfl (⟨bD (by omega),rfl⟩))))))
theorem qq (A:Option Addr) (c n:Nat) (l:List Nat) (w:World) (hr:RB w A c l) (hn:n=l.length) (hl:l.length≤1000000) :
 Rt prog 109 [.slice A n c] w (fun v w'=>(∃ A' c',v=.slice A' (cF l).length c'∧w'.ownsRow w.heap.size 5 1 (.slice A' (cF l).length c') (cF l).length (aK (cF l)))∧ag w w'):=by
 subst hn;refine enter (n:=24) Tryz.func109 rfl rfl rfl (af (ab (ass rfl (ah (ae (af (ab (ass rfl (ah (ae (af (aP (cH (G:=List Nat×(Option Addr×Nat)×List Nat×(Option Addr×Nat)) [4,5,6,7,8,9,10,11,12,13,14,15,16,17,18,19,20,21,22] (fun (r,(A0,c0),o,(A3,c3))=>[(0,.slice A0 r.length c0),(3,.slice A3 o.length c3)]) (fun (r,(A0,c0),o,(A3,c3)) w'=>RB w A0 c0 r∧r.length≤l.length∧o++cF r=cF l∧w'.ownsRow w.heap.size 5 1 (.slice A3 o.length c3) o.length (aK o)∧ag w w') (fun (r,_)=>r.length) ((l,(A,c),[],(none,0))) ⟨rfl,rfl,trivial⟩ ?_ ?_)))))))))))))
 ·exact ⟨hr,Nat.le_refl _,rfl,World.ownsRow_nil _ _ _ _,ag.rfl_⟩
 rintro ⟨r,⟨A0,c0⟩,o,⟨A3,c3⟩⟩ ρ1 w1 ⟨hr0,hrl,hol,ho,hB⟩;refine af (af (ab (mvs rfl (aa (bb bZ rfl) (aa (cn rfl rfl) (ah (ae (BM rfl (fun Q2=>?_) (fun Q2=>?_)))))))))
 ·have hne:r≠[]:=fun e=>by have:=congrArg List.length e;simp only [List.length_nil] at this;omega
  have hob:o.length≤1100000:=by have:=congrArg List.length hol;rw [List.length_append,iJ _ l rfl] at this;omega
  have hp31:(eL (r.take 31)).length=31:=lU (by rw [List.length_take];omega)
  have hr1:RB w (dm A0 c0 (min r.length 31) 1) (c0-min r.length 31) (r.drop 31):=by
   have h1:RB w (dm A0 c0 (r.take 31).length 1) (c0-(r.take 31).length) (r.drop 31):=RB.tail (p:=r.take 31) (by rw [List.take_append_drop];exact hr0);rw [List.length_take,Nat.min_comm] at h1;exact h1
  have hle0:=hr0.le;refine aE (ae (aP (af (ab (aZ tG ?_)))));intro b4 w3 E4 hb4 hk4;have hz4:=hb4;refine ah (ae (af (ab (aa (kr ov rfl rfl (by omega)) (cT (v:=.int _ _) oz rfl rfl rfl (hk4) (by show 0<32;decide) ?_)))));intro w4 O4 P4;have P4b:Blk w4 b4 185 (aK (1::List.replicate 31 0)).toArray:=P4;refine ah (ae (af (ab (aa (zc (l:=1) sc se sd rfl rfl (by decide)) (mvs rfl (gP (news:=aK (r.take 31)) (g:=b4) (o:=1) (cur:=aK (1::List.replicate 31 0)) bj rfl rfl (by rw [aJ,List.length_take];omega) (fun _=>rfl) (fun _=>z8 (hr0.from_ ((hB.next E4).only O4 ((by rw [hb4];exact hB.size)))) (List.length_pos_iff.2 hne)) P4b (by rw [aJ,aJ,List.length_take,List.length_cons,List.length_replicate];omega) (fun v hv=>dP _ v hv) ?_))))));intro w5 O5 P5;rw [A_] at P5;have hFc:=(E4.only O4 (Nat.le_of_eq hb4.symm)).only O5 (Nat.le_of_eq hb4.symm);refine asi rfl (ah (ae (af (ab (mvs rfl (mvi rfl (aa (bk (l:=min r.length 31) (h:=r.length) bj rfl (.inr ⟨_,_,_,rfl,rfl,rfl⟩) (.inl ⟨rfl,rfl⟩) (by omega) (by omega)) (ass rfl (ah (ae (kH (G:=Unit) [16,17,18,19] (fun _=>[]) (fun _ w'=>Blk w' b4 185 (aK (mark r::eL (r.take 31))).toArray∧w'.ownsRow w.heap.size 5 1 (.slice A3 o.length c3) o.length (aK o)∧ag w w') ?_ ?_)))))))))))
  ·refine af (ab (mvs rfl (aa (bb bZ rfl) (aa (a7 rfl rfl) (ah (ae (BM rfl (fun Q6=>?_) (fun Q6=>?_))))))))
   ·refine ab (aa (kr ov rfl rfl (by omega)) (cT (v:=.int _ _) oz rfl rfl rfl (P5) (by rw [List.size_toArray,aJ];simp) ?_));intro w7 O8 P8;refine ah ?_;refine bW (()) trivial (by (iterate 4 refine bg rfl ?_);exact bw) ?_;exact ⟨by rw [←wU];unfold mark;rw [if_pos (by omega)];exact P8,ho.kept_from (hFc.only O8 (Nat.le_of_eq hb4.symm)),((hB.next hFc).only O8 ((by rw [hb4];exact hB.size)))⟩
   refine aE ?_;refine bW (()) trivial (by (iterate 3 refine bg rfl ?_);exact bw) ?_;exact ⟨by unfold mark;rw [if_neg (by omega)];exact P5,ho.kept_from hFc,(hB.next hFc)⟩
  rintro-ρ8 w8 ⟨hk9,ho9,hB⟩;refine ab (mvs rfl (aa (zd sc se (by decide) sd rfl) (dk (a0:=w) (news:=aK (mark r::eL (r.take 31))) fP rfl (by decide) rfl ho9 hB rfl (by rw [aJ,List.length_cons,hp31]) (fun _=>⟨b4,0,rfl,hk9.whole⟩) (fun h=>by cases h) (dP _) (by omega) (by omega) ?_)));intro A22 c22 w9 ho22 B22 hg22;refine ass rfl (ah (bI ?_));refine bW ((r.drop 31,(dm A0 c0 (min r.length 31) 1,c0-min r.length 31),o++(mark r::eL (r.take 31)),(A22,c22))) ⟨(congrArg (fun n=>Value.slice (dm A0 c0 (min r.length 31) 1) n (c0-min r.length 31)) (by rw [List.length_drop];omega)),(congrArg (fun n=>Value.slice A22 n c22) (by rw [List.length_append,List.length_cons,hp31])),trivial⟩ (by (iterate 42 refine bg rfl ?_);exact bw) ⟨?_,?_⟩
  ·refine ⟨hr1,by rw [List.length_drop];omega,by rw [List.append_assoc,List.cons_append,←u3 hne];exact hol,?_,B22⟩;rw [List.length_append,List.length_cons,hp31];have e:aK o++aK (mark r::eL (r.take 31))=aK (o++(mark r::eL (r.take 31))):=by simp [aK]
   rw [←e];exact ho22
  ·show (r.drop 31).length<r.length;rw [List.length_drop];omega
 refine cx (bc (bc (bX (ae (af (ab (mvs rfl (ass rfl (ah (ae (aC (bz (v:=.slice _ _ _) rfl rfl ?_))))))))))));obtain rfl:r=[]:=List.eq_nil_of_length_eq_zero (by omega);rw [nr,List.append_nil] at hol;subst hol;exact ⟨⟨A3,c3,rfl,ho⟩,hB⟩
theorem AG {l:List Nat} {z:Nat} (h:z+32≤l.length):unS (l.drop z)=if l[z]'(by omega)=2 then some ((l.drop (z+1)).take 31,32) else if l[z]'(by omega)=1 then (unS (l.drop (z+32))).map fun p=>((l.drop (z+1)).take 31++p.1,32+p.2) else none:=by
 rw [List.drop_eq_getElem_cons (show z<l.length by omega),nh,if_neg (by rw [List.length_drop];omega),List.drop_drop,show z+1+31=z+32 by omega]
theorem yQ {l:List Nat} {z:Nat} (h:¬ z+32≤l.length):unS (l.drop z)=none:=by
 rcases Nat.lt_or_ge z l.length with a | a
 ·rw [List.drop_eq_getElem_cons a,nh,if_pos (by rw [List.length_drop];omega)]
 ·rw [List.drop_of_length_le a];unfold unS;rfl
theorem pI (a b:List Nat):aK a++aK b=aK (a++b):=by simp [aK]
theorem jK (A:Option Addr) (c n:Nat) (l:List Nat) (w:World) (hr:RB w A c l) (hn:n=l.length) (hl:l.length≤2000000) :
 Rt prog 88 [.slice A n c] w (fun v w'=>((∃ p A' c',unS l=some p∧v=.tuple #[.slice A' p.1.length c',.int .i64 (p.2:Nat),.bool true]∧w'.ownsRow w.heap.size 5 1 (.slice A' p.1.length c') p.1.length (aK p.1))∨(unS l=none∧v=.tuple #[.slice none 0 0,.int .i64 0,.bool false]))∧ag w w'):=by
 subst hn;refine enter (n:=38) Tryz.func88 rfl rfl rfl (af (ab (ass rfl (asi rfl (asb rfl (ah (ae (af (aP (cH (G:=Nat×List Nat×(Option Addr×Nat)) [4,5,6,7,8,9,10,11,12,13,14,15,16,17,18,19,20,21,22,23,24,25,26,27,28,29,30,31,32,33,34,35,36,37] (fun (z,o,(A2,c2))=>[(2,.slice A2 o.length c2),(3,.int .i64 (z:Nat))]) (fun (z,o,(A2,c2)) w'=>z≤l.length∧o.length≤z∧unS l=(unS (l.drop z)).map (fun p=>(o++p.1,z+p.2))∧w'.ownsRow w.heap.size 5 1 (.slice A2 o.length c2) o.length (aK o)∧ag w w') (fun (z,_)=>l.length-z) ((0,[],(none,0))) ⟨rfl,rfl,trivial⟩ ?_ ?_))))))))))
 ·exact ⟨Nat.zero_le _,Nat.le_refl _,by simp,World.ownsRow_nil _ _ _ _,ag.rfl_⟩
 rintro ⟨z,o,⟨A2,c2⟩⟩ ρ1 w1 ⟨hz,hoz,hun,ho,hB⟩;refine af (af (ab (mvs rfl (aa (bb bZ rfl) (mvi rfl (aa (cf (b:=32) rfl rfl (by omega)) (aa (gQ rfl rfl) (ah (ae (BM rfl (fun Q2=>?_) (fun Q2=>?_)))))))))))
 ·have hz32:z+32≤l.length:=by omega
  have hle:=hr.le;obtain ⟨ba,oa,hA,hca⟩:=hr.at_ (by omega);subst hA;have hU:=AG hz32;obtain ⟨m,hm⟩:∃ m,m=l[z]'(by omega):=⟨_,rfl⟩;rw [←hm] at hU;have hcz:w.cell? ⟨ba,oa+z,none⟩=some (.int .u8 (m:Nat)):=hca z _ (by unfold aK;rw [List.getElem?_map,List.getElem?_eq_getElem (show z<l.length by omega),hm];rfl);have ht31:((l.drop (z+1)).take 31).length=31:=by rw [List.length_take,List.length_drop];omega
  refine aE (ae (aP (af (ab (mvs rfl (mvi rfl (mvi rfl (aa (cf (b:=32) rfl rfl (by omega)) (aa (bH (v':=.slice (some ⟨ba,oa+z,none⟩) 32 (c-z)) (bk (l:=z) (h:=z+32) bj rfl (.inr ⟨_,_,_,rfl,rfl,rfl⟩) (.inr ⟨_,_,_,rfl,rfl,rfl⟩) (by omega) (by omega)) (by rw [bT (by omega),Nat.mul_one,Nat.add_sub_cancel_left])) ?_)))))))));refine ass rfl (ah (ae (af (af (ab (mvs rfl (aa (cm bj rfl rfl (by omega)) (aa (ao jU rfl (by exact Ct hB hcz)) ?_))))))));refine aa (cv rfl rfl) (mvb rfl (a_ (t:=20) rfl (fun Q3=>?_) (fun Q3=>?_)))
  ·replace Q3:=gA Q3;replace Q3:=iA Q3;refine ak rfl (mvs rfl (ak rfl (aa (cm bj rfl rfl (by omega)) (ak rfl (aa (ao jU rfl (by exact Ct hB hcz)) ?_)))));refine ak rfl (aa (cv rfl rfl) (aa (aO (v:=.bool _) rfl rfl) (ah (ae (aM rfl (fun Q4=>?_) (fun Q4=>?_))))))
   ·replace Q4:=gA Q4;replace Q4:=iA Q4;refine af (ab (ass rfl (asi rfl (asb rfl (ah (ae (aC (aF (aW (aF (aW (aF (xg (v:=.slice _ _ _) (v':=.int _ _) (v'':=.bool _) rfl rfl rfl rfl (⟨.inr ⟨?_,rfl⟩,hB⟩))))))))))))));rw [hun,hU,if_neg (by omega),if_neg (by omega)];rfl
   replace Q4:=gB Q4;replace Q4:=iz Q4;refine aE (ae (af (ab (mvs rfl (mvs rfl (aa (bH (v':=.slice (some ⟨ba,oa+z+1,none⟩) 31 (c-z-1)) (bk (l:=1) (h:=32) bj rfl (.inr ⟨_,_,_,rfl,rfl,rfl⟩) (.inl ⟨rfl,rfl⟩) (by omega) (by omega)) (by rw [bT (by omega)])) ?_))))));refine dk (a0:=w) (news:=aK ((l.drop (z+1)).take 31)) fP rfl (by decide) rfl (ho.kept_from ag.rfl_) hB rfl (by rw [aJ,ht31]) (fun _=>⟨ba,oa+z+1,rfl,dU hB (fun j v hv=> ?hsrc)⟩) (fun h=>by cases h) (dP _) (by omega) (by omega) ?_
   case hsrc=>
    unfold aK at hv;rw [List.map_take,List.getElem?_take] at hv;split at hv
    ·rw [List.map_drop,List.getElem?_drop] at hv;have:=hca (z+1+j) v hv
     rwa [show oa+(z+1+j)=oa+z+1+j by omega] at this
    ·cases hv
   intro A29 c29 w5 ho29 B29 hg29;have ho29b:w5.ownsRow w.heap.size 5 1 (.slice A29 (o++(l.drop (z+1)).take 31).length c29) (o++(l.drop (z+1)).take 31).length (aK (o++(l.drop (z+1)).take 31)):=by rw [←pI,List.length_append,ht31];exact ho29
   refine ass rfl (ah (ae (af (ab (mvi rfl (aa (cf (b:=32) rfl rfl (by omega)) (asi rfl (ah (ae (af (ab (mvs rfl (aa (cm bj rfl rfl (by omega)) (aa (ao jU rfl (by exact Ct B29 hcz)) ?_))))))))))))));refine aa (a7 rfl rfl) (ah (ae (BL rfl (fun Q6=>?_) (fun Q6=>?_))));rotate_left
   ·exfalso;omega
   refine af (ab (mvs rfl (mvi rfl (ass rfl (asi rfl (asb rfl (ah (ae (aC (aW (aF (aW (aF (xg (v:=.slice _ _ _) (v':=.int _ _) (v'':=.bool _) rfl rfl rfl rfl (⟨.inl ⟨(o++(l.drop (z+1)).take 31,z+32),A29,c29,?_,?_,ho29b⟩,B29⟩)))))))))))))))
   ·rw [hun,hU,if_pos (by omega)];rfl
   ·show _=Value.tuple #[.slice A29 (o++(l.drop (z+1)).take 31).length c29,_,_];rw [List.length_append,ht31]
  replace Q3:=gB Q3;replace Q3:=iz Q3;refine aA rfl rfl (aA rfl rfl (aA rfl rfl (aA rfl rfl (aa (aQ (v:=.bool _) rfl rfl) (ah (ae (aI rfl (aE (ae (af (ab (mvs rfl ?_))))))))))));refine mvs rfl (aa (bH (v':=.slice (some ⟨ba,oa+z+1,none⟩) 31 (c-z-1)) (bk (l:=1) (h:=32) bj rfl (.inr ⟨_,_,_,rfl,rfl,rfl⟩) (.inl ⟨rfl,rfl⟩) (by omega) (by omega)) (by rw [bT (by omega)])) ?_);refine dk (a0:=w) (news:=aK ((l.drop (z+1)).take 31)) fP rfl (by decide) rfl (ho.kept_from ag.rfl_) hB rfl (by rw [aJ,ht31]) (fun _=>⟨ba,oa+z+1,rfl,dU hB (fun j v hv=> ?hsrc)⟩) (fun h=>by cases h) (dP _) (by omega) (by omega) ?_
  case hsrc=>
   unfold aK at hv;rw [List.map_take,List.getElem?_take] at hv;split at hv
   ·rw [List.map_drop,List.getElem?_drop] at hv;have:=hca (z+1+j) v hv
    rwa [show oa+(z+1+j)=oa+z+1+j by omega] at this
   ·cases hv
  intro A29 c29 w7 ho29 B29 hg29;have ho29b:w7.ownsRow w.heap.size 5 1 (.slice A29 (o++(l.drop (z+1)).take 31).length c29) (o++(l.drop (z+1)).take 31).length (aK (o++(l.drop (z+1)).take 31)):=by rw [←pI,List.length_append,ht31];exact ho29
  refine ass rfl (ah (ae (af (ab (mvi rfl (aa (cf (b:=32) rfl rfl (by omega)) (asi rfl (ah (ae (af (ab (mvs rfl (aa (cm bj rfl rfl (by omega)) (aa (ao jU rfl (by exact Ct B29 hcz)) ?_))))))))))))));refine aa (a7 rfl rfl) (ah (ae (BL rfl (fun Q8=>?_) (fun Q8=>?_))))
  ·exfalso;omega
  refine aE (bI ?_);refine bW ((z+32,o++(l.drop (z+1)).take 31,(A29,c29))) ⟨(congrArg (fun n=>Value.slice A29 n c29) (by rw [List.length_append,ht31])),(by first | rfl | (refine bD ?_;omega)),trivial⟩ (by (iterate 70 refine bg rfl ?_);exact bw) ⟨?_,?_⟩
  ·refine ⟨by omega,by rw [List.length_append,ht31];omega,?_,ho29b,B29⟩;rw [hun,hU,if_neg (by omega),if_pos (by omega),Option.map_map]
   congr 1
   funext p
   simp only [Function.comp,List.append_assoc,Nat.add_assoc]
  ·show l.length-(z+32)<l.length-z;omega
 refine cx (bc (bc (bX (ae (af (ab (ass rfl (asi rfl (asb rfl (ah (ae (aC (xg (v:=.slice _ _ _) (v':=.int _ _) (v'':=.bool _) rfl rfl rfl rfl (⟨.inr ⟨?_,rfl⟩,hB⟩))))))))))))));rw [hun,yQ (by omega)];rfl
theorem fw:aH prog 108=true:=by kernel_rfl
theorem ju:prog.underlying 9=some .string:=by kernel_rfl
theorem fV:ch prog 65 3=some 3:=by kernel_rfl
theorem fX:ch prog 65 0=some 0:=by kernel_rfl
theorem fU:ch prog 65 4=some 4:=by kernel_rfl
theorem fW:ch prog 65 1=some 1:=by kernel_rfl
theorem iE:ch prog 65 2=some 2:=by kernel_rfl
theorem mI:aH prog 91=true:=by kernel_rfl
theorem mH:(prog.underlying 57).isSome=true:=by kernel_rfl
theorem qJ:aH prog 109=true:=by kernel_rfl
structure Rc where
 k:Nat
 i:Nat
 t:Nat
 d:ByteArray
 fin:Bool
def rcV (r:Rc):List Value:=[.int .i64 (r.k:Nat),.int .i64 (r.i:Nat),.int .i64 (r.t:Nat),.string r.d,.bool r.fin]
def Rc.k8 (r:Rc):Nat:=if r.fin then r.k+8 else r.k
structure Rc.Ok (r:Rc):Prop where
 k1:1≤r.k
 k3:r.k≤3
 i:r.i<9223372036854775808
 t:r.t<9223372036854775808
 d:r.d.size≤4096
def rcB (r:Rc):List Nat:=leB 1 r.k8++(leB 8 r.i++(leB 8 r.t++(leB 2 r.d.size++eT r.d)))
def eo (s:BitVec 32) (r:Rc):BitVec 32:=wM s (rcB r)
def b_ (s:BitVec 32) (r:Rc):List Nat:=leB 4 (eo s r).toNat++rcB r
theorem j9 (r:Rc):(rcB r).length=19+r.d.size:=by
 unfold rcB;simp only [List.length_append,dr,eJ];omega
theorem kf (s:BitVec 32) (r:Rc):(b_ s r).length=23+r.d.size:=by
 unfold b_;rw [List.length_append,dr,j9];omega
theorem sZ (r:Rc):∀ b∈rcB r,b<256:=by
 intro b hb;unfold rcB at hb;simp only [List.mem_append] at hb;rcases hb with hb | hb | hb | hb | hb
 ·exact l4 _ _ _ hb
 ·exact l4 _ _ _ hb
 ·exact l4 _ _ _ hb
 ·exact l4 _ _ _ hb
 ·exact yV _ _ hb
theorem oh (s:BitVec 32) (r:Rc):∀ b∈b_ s r,b<256:=fun b hb=>by
 rcases List.mem_append.1 hb with hb | hb
 ·exact l4 _ _ _ hb
 ·exact sZ r b hb
theorem kU {p q r:List Nat} {o k n:Nat} (ho:p.length=o) (hq:q.length=k):(p++(q++r)).take o++leB k n++(p++(q++r)).drop (o+k)=p++(leB k n++r):=by
 subst ho;subst hq;rw [List.take_append_of_le_length (Nat.le_refl _),List.take_of_length_le (Nat.le_refl _),List.append_assoc]
 congr 2
 rw [List.drop_append,List.drop_of_length_le (by omega),List.nil_append,Nat.add_sub_cancel_left,List.drop_append,List.drop_of_length_le (Nat.le_refl _),List.nil_append,Nat.sub_self,List.drop_zero]
def z (n:Nat):List Nat:=List.replicate n 0
def q0 (m:Nat):List Nat:=z 4++(z 1++(z 8++(z 8++(z 2++z m))))
def q1 (r:Rc):List Nat:=z 4++(leB 1 r.k8++(z 8++(z 8++(z 2++z r.d.size))))
def q2 (r:Rc):List Nat:=z 4++(leB 1 r.k8++(leB 8 r.i++(z 8++(z 2++z r.d.size))))
def q3 (r:Rc):List Nat:=z 4++(leB 1 r.k8++(leB 8 r.i++(leB 8 r.t++(z 2++z r.d.size))))
def q4 (r:Rc):List Nat:=z 4++(leB 1 r.k8++(leB 8 r.i++(leB 8 r.t++(leB 2 r.d.size++z r.d.size))))
theorem Aq (m:Nat):q0 m=List.replicate (23+m) 0:=by
 unfold q0 z;simp only [List.replicate_append_replicate]
 congr 1
 omega
theorem BA (r:Rc):(q1 r).length=23+r.d.size∧(q2 r).length=23+r.d.size∧(q3 r).length=23+r.d.size∧(q4 r).length=23+r.d.size:=by
 unfold q1 q2 q3 q4 z;simp only [List.length_append,dr,List.length_replicate];omega
theorem q01 (r:Rc):(q0 r.d.size).take 4++leB 1 r.k8++(q0 r.d.size).drop (4+1)=q1 r:=kU rfl rfl
theorem q12 (r:Rc):(q1 r).take 5++leB 8 r.i++(q1 r).drop (5+8)=q2 r:=by
 have:=kU (p:=z 4++leB 1 r.k8) (q:=z 8) (r:=z 8++(z 2++z r.d.size)) (o:=5) (k:=8) (n:=r.i) (by rw [List.length_append,dr];rfl) rfl;unfold q1 q2;simpa only [List.append_assoc] using this
theorem q23 (r:Rc):(q2 r).take 13++leB 8 r.t++(q2 r).drop (13+8)=q3 r:=by
 have:=kU (p:=z 4++(leB 1 r.k8++leB 8 r.i)) (q:=z 8) (r:=z 2++z r.d.size) (o:=13) (k:=8) (n:=r.t) (by rw [List.length_append,List.length_append,dr,dr];rfl) rfl;unfold q2 q3;simpa only [List.append_assoc] using this
theorem q34 (r:Rc):(q3 r).take 21++leB 2 r.d.size++(q3 r).drop (21+2)=q4 r:=by
 have:=kU (p:=z 4++(leB 1 r.k8++(leB 8 r.i++leB 8 r.t))) (q:=z 2) (r:=z r.d.size) (o:=21) (k:=2) (n:=r.d.size) (by rw [List.length_append,List.length_append,List.length_append,dr,dr,dr];rfl) rfl;unfold q3 q4;simpa only [List.append_assoc] using this
theorem zi (r:Rc):over (aK (q4 r)) 23 (aK (eT r.d))=aK (z 4++rcB r):=by
 have e:q4 r=(z 4++(leB 1 r.k8++(leB 8 r.i++(leB 8 r.t++leB 2 r.d.size))))++z r.d.size:=by
  unfold q4;simp only [List.append_assoc]
 have hl:(z 4++(leB 1 r.k8++(leB 8 r.i++(leB 8 r.t++leB 2 r.d.size)))).length=23:=by
  simp only [List.length_append,dr];rfl
 unfold over;rw [e,du,List.take_append_of_le_length (by rw [aJ,hl];omega),List.take_of_length_le (by rw [aJ,hl];omega),List.drop_of_length_le (by rw [List.length_append,aJ,aJ,aJ,hl,eJ];simp [z]),List.append_nil,←du];unfold rcB;simp only [List.append_assoc]
theorem q6 (s:BitVec 32) (r:Rc):(z 4++rcB r).take 0++leB 4 (eo s r).toNat++(z 4++rcB r).drop (0+4)=b_ s r:=kU (p:=[]) (q:=z 4) (r:=rcB r) rfl rfl
theorem wX {A:Option Addr} {c n:Nat} {l:List Nat} {w:World} (s:BitVec 32) (hr:Row w (.slice A n c) (aK l)) (hl:∀ b∈l,b<256) (hlen:l.length≤140737488351232) (hT:cO w):Rt prog 91 [.int .u32 (s.toNat:Nat),.slice A n c] w fun v w'=>v=.int .u32 (((wM s l).toNat:Nat):Int)∧ag w w':=
 Calls.mono (yT s _ l w hr hl hlen hT) fun _ _ ⟨he,hF⟩=>⟨_,he,rfl,hF⟩
theorem AT {w:World} {g c:Nat} {l:List Nat} (h:Blk w g 5 (aK l).toArray) (hb:∀ b∈l,b<256) (h1:l.length≤c) (h2:c≤9223372036854775807:=by omega):RB w (some ⟨g,0,none⟩) c l:=
 ⟨h1,h2,fun _=>⟨g,0,rfl,h.whole⟩,hb⟩
theorem qy (s:BitVec 32) (r:Rc):(eo s r).toNat<9223372036854775808:=by
 have:=(eo s r).isLt;omega
theorem or8 {k:Nat} (h:k≤3):(((k ||| 8:Nat):Int))=((k+8:Nat):Int):=by
 have:k=0∨k=1∨k=2∨k=3:=by omega
 rcases this with rfl | rfl | rfl | rfl <;> rfl
theorem Av {r:Rc} (h:r.Ok):r.k8<16:=by
 have:=h.k3;unfold Rc.k8;split <;> omega
theorem dx (r:Rc) (s:BitVec 32) (w:World) (hk:r.Ok) (hT:cO w) :
 Rt prog 93 [.agg (rcV r).toArray,.int .u32 (s.toNat:Nat)] w (fun v w'=>(∃ A' c',v=.tuple #[.slice A' (cF (b_ s r)).length c',.int .u32 ((eo s r).toNat:Nat)]∧w'.ownsRow w.heap.size 5 1 (.slice A' (cF (b_ s r)).length c') (cF (b_ s r)).length (aK (cF (b_ s r))))∧ag w w'):=by
 have hsz:=hk.d;have hk8:=Av hk;have hbl:=kf s r;obtain ⟨ql1,ql2,ql3,ql4⟩:=BA r;refine enter (n:=56) Tryz.func93 rfl rfl rfl (af (ab (bu (v:=.agg _) rfl ?_)));intro b2 w1 E2 hb2 hk2;refine ass rfl (asi rfl (ah (ae (af (ab (aa (ai fV rfl) (aa (ao bY rfl (by exact (hk2.from_ ag.rfl_).rd 3 rfl)) ?_)))))));refine aa (im (by kernel_rfl) rfl) (aa (cf (a:=23) rfl rfl (by omega)) (wQ (m:=23) (c:=23+r.d.size) mN rfl rfl rfl (by omega) (by omega) (by omega) ?_));intro b13 w2 E13 hb13 hk13
 have hz0:Blk w2 b13 5 (aK (q0 r.d.size)).toArray:=by
  have e:(aK (q0 r.d.size)).toArray=(List.replicate (23+r.d.size) (Value.int .u8 0)).toArray:=by rw [Aq];unfold aK;rw [List.map_replicate];rfl
  rw [e];exact hk13
 have hg13:w.heap.size≤b13:=by rw [hb13];exact ((ag.rfl_.next E2)).size
 have hb2n:b2≠b13:=by have:=(hk2.from_ ag.rfl_).lt;omega
 replace hk2:=(hk2.from_ ag.rfl_).from_ E13;refine ass rfl (ah (ae (af (ab (aa (ai fX rfl) (aa (ao aD rfl (by exact (hk2.from_ ag.rfl_).rd 0 rfl)) ?_))))));refine asi rfl (ah (ae (kH (G:=Unit) [16,17,18,19] (fun _=>[(7,.int .i64 (r.k8:Nat))]) (fun _ w'=>Blk w' b13 5 (aK (q0 r.d.size)).toArray∧Blk w' b2 65 (rcV r).toArray∧ag w w') ?_ ?_)))
 ·refine af (ab (aa (ai fU rfl) (aa (ao di rfl (by exact (hk2.from_ ag.rfl_).rd 4 rfl)) ?_)));refine ah (ae (aM rfl (fun Q3=>?_) (fun Q3=>?_)))
  ·(try first | (replace Q3 := gA Q3; trace "@MK N dx:c17+ 1.1") | (replace Q3 := gB Q3; trace "@MK N dx:c17+ 1.2"))
   (try first | (replace Q3 := fI Q3; trace "@MK N dx:c17+ 2.1") | (replace Q3 := fJ Q3; trace "@MK N dx:c17+ 2.2") | (replace Q3 := iz Q3; trace "@MK N dx:c17+ 2.3") | (replace Q3 := iA Q3; trace "@MK N dx:c17+ 2.4") | (replace Q3 := dT_ Q3; trace "@MK N dx:c17+ 2.5") | (replace Q3 := dF_ Q3; trace "@MK N dx:c17+ 2.6"))
   refine ab (mvi rfl (aa (xb (b:=8) rfl rfl (by have:=hk.k3;omega)) ?_));refine asi rfl (ah ?_);refine bW (()) ⟨(bD (by unfold Rc.k8;rw [if_pos (by first | assumption | simp_all)];exact or8 hk.k3)),trivial⟩ (by (iterate 5 refine bg rfl ?_);exact bw) ?_;exact ⟨hz0.from_ ag.rfl_,hk2.from_ ag.rfl_,((ag.rfl_.next E2).next E13)⟩
  (try first | (replace Q3 := gA Q3; trace "@MK N dx:c17- 1.1") | (replace Q3 := gB Q3; trace "@MK N dx:c17- 1.2"))
  (try first | (replace Q3 := fI Q3; trace "@MK N dx:c17- 2.1") | (replace Q3 := fJ Q3; trace "@MK N dx:c17- 2.2") | (replace Q3 := iz Q3; trace "@MK N dx:c17- 2.3") | (replace Q3 := iA Q3; trace "@MK N dx:c17- 2.4") | (replace Q3 := dT_ Q3; trace "@MK N dx:c17- 2.5") | (replace Q3 := dF_ Q3; trace "@MK N dx:c17- 2.6"))
  refine aE ?_;refine bW (()) ⟨(bD (by unfold Rc.k8;rw [if_neg (by first | assumption | simp_all)])),trivial⟩ (by (iterate 2 refine bg rfl ?_);exact bw) ?_;exact ⟨hz0.from_ ag.rfl_,hk2.from_ ag.rfl_,((ag.rfl_.next E2).next E13)⟩
 rintro-ρ4 w4 ⟨hz0,hk2,hB⟩;refine af (ab (mvs rfl ?_));refine aa (bH (v':=.slice (some ⟨b13,4,none⟩) (1) ((23+r.d.size)-4)) (bk (l:=4) (h:=5) bj rfl (.inr ⟨_,_,_,rfl,rfl,rfl⟩) (.inr ⟨_,_,_,rfl,rfl,rfl⟩) (by omega) (by omega)) (by first | (rw [bT (by omega)];done) | (rw [bT (by omega)];rfl))) ?_;refine mvi rfl (av fw (fo b13 4 1 _ r.k8 _ _ (hz0.from_ ag.rfl_) (by rw [Aq,List.length_replicate];omega) (by decide) (by omega)) ?_);rintro v23 w5 ⟨rfl,hz1x,hO23⟩;rw [q01] at hz1x;have hz1:=hz1x;replace hk2:=(hk2.from_ ag.rfl_).only hO23 hb2n;refine ah (ae (af ?_));apply gz [(0,24,fun _ v _=>v=_),(1,25,fun _ v _=>v=_),(2,26,fun _ v _=>v=_),(3,27,fun _ v _=>v=_),(4,28,fun _ v _=>v=_)] [4] (fun S w'=>(S 4=false→ag w5 w')∧(S 4=true→Blk w' b13 5 (aK (q2 r)).toArray∧Blk w' b2 65 (rcV r).toArray∧ag w w')) (by kernel_rfl) (by kernel_rfl) rfl rfl ⟨fun _ _ _ _ _ _ _ h=>h,fun _ _ _ _ _ _ _ h=>h,fun _ _ _ _ _ _ _ h=>h,fun _ _ _ _ _ _ _ h=>h,fun _ _ _ _ _ _ _ h=>h,trivial⟩ (fun S i w1 w2 hq hF h=>⟨fun h0=>(h.1 (lP h0)).next hF,fun h1=>(fun h=>⟨h.1.from_ hF,h.2.1.from_ hF,h.2.2.next hF⟩) (h.2 (mP (show 4≠i by rintro rfl;exact absurd hq (by decide)) h1))⟩) ⟨fun _=>ag.rfl_.d1,fun h=>by cases h⟩
 case hstep=>
  constructor
  ·rintro S L' w6 hU hmo hme hI hM hC hS ⟨-⟩;have hS0:S 4=false:=(ay hC (j:=4) rfl (by kernel_rfl) (ay hC (j:=1) rfl (by kernel_rfl) hS));have hM6:=hM.1 hS0;have e6:=hI.1 6 (fj rfl);exact aN [(6,_)] hU hmo hme hI hM (.head _) rfl rfl (by kernel_rfl) ⟨e6,trivial⟩ (aB (v:=.slice _ _ _) rfl) ag.rfl_ (rfl)
  constructor
  ·rintro S L' w7 hU hmo hme hI hM hC hS ⟨d0,-⟩;have hS0:S 4=false:=(ay hC (j:=4) rfl (by kernel_rfl) hS);have hM7:=hM.1 hS0;obtain ⟨v7_24,e24,h24⟩:=hI.get (i:=0) (.head _) d0;obtain rfl:=h24;exact aN [(24,_)] hU hmo hme hI hM (.tail _ (.head _)) rfl rfl (by kernel_rfl) ⟨e24,trivial⟩ (bH (v':=.slice (some ⟨b13,5,none⟩) (8) ((23+r.d.size)-5)) (bk (l:=5) (h:=13) bj rfl (.inr ⟨_,_,_,rfl,rfl,rfl⟩) (.inr ⟨_,_,_,rfl,rfl,rfl⟩) (by omega) (by omega)) (by first | (rw [bT (by omega)];done) | (rw [bT (by omega)];rfl))) ag.rfl_ (rfl)
  constructor
  ·rintro S L' w8 hU hmo hme hI hM hC hS ⟨-⟩;have hS0:S 4=false:=(ay hC (j:=4) rfl (by kernel_rfl) (ay hC (j:=3) rfl (by kernel_rfl) hS));have hM8:=hM.1 hS0;have e2:=hI.1 2 (fj rfl);exact aN [(2,_)] hU hmo hme hI hM (.tail _ (.tail _ (.head _))) rfl rfl (by kernel_rfl) ⟨e2,trivial⟩ (ai fW rfl) ag.rfl_ (rfl)
  constructor
  ·rintro S L' w9 hU hmo hme hI hM hC hS ⟨d2,-⟩;have hS0:S 4=false:=(ay hC (j:=4) rfl (by kernel_rfl) hS);have hM9:=hM.1 hS0;obtain ⟨v9_26,e26,h26⟩:=hI.get (i:=2) (.tail _ (.tail _ (.head _))) d2;obtain rfl:=h26;exact aN [(26,_)] hU hmo hme hI hM (.tail _ (.tail _ (.tail _ (.head _)))) rfl rfl (by kernel_rfl) ⟨e26,trivial⟩ (ao aD rfl (by exact (hk2.from_ (ag.rfl_.next hM9)).rd 1 rfl)) ag.rfl_ (rfl)
  constructor
  ·rintro S L' w10 hU hmo hme hI hM hC hS ⟨d1,d3,-⟩;have hS0:S 4=false:=hS;have hM10:=hM.1 hS0;obtain ⟨v10_25,e25,h25⟩:=hI.get (i:=1) (.tail _ (.head _)) d1;obtain rfl:=h25;obtain ⟨v10_27,e27,h27⟩:=hI.get (i:=3) (.tail _ (.tail _ (.tail _ (.head _)))) d3;obtain rfl:=h27;refine eY (al:=[.tmp 25,.tmp 27]) [(25,_),(27,_)] hU hI (.tail _ (.tail _ (.tail _ (.tail _ (.head _))))) (by kernel_rfl) ⟨e25,e27,trivial⟩ fw ((fo b13 5 8 _ r.i _ _ (hz1.from_ hM10) (by rw [ql1];omega) (by decide) hk.i).mono ?_);rintro v w2 ⟨rfl,hb9,hO9⟩;rw [q12] at hb9;exact ⟨⟨fun h0=>(by rw [mQ] at h0;cases h0),fun _=>⟨hb9,(hk2.from_ hM10).only hO9 hb2n,((((hB).only hO23 hg13).next hM10)).only hO9 hg13⟩⟩,rfl,⟨fun _ _ _ h=>h,fun _ _ _ h=>h,fun _ _ _ h=>h,fun _ _ _ h=>h,fun _ _ _ h=>h,trivial⟩⟩
  exact trivial
 case hend=>
  intro w11 hM;obtain ⟨hz2,hk2,hFhz2⟩:=hM.2 rfl;rintro v11_24 rfl v11_25 rfl v11_26 rfl v11_27 rfl v11_28 rfl;refine fq (ae (af ?_));apply gz [(0,29,fun _ v _=>v=_),(1,30,fun _ v _=>v=_),(2,31,fun _ v _=>v=_),(3,32,fun _ v _=>v=_),(4,33,fun _ v _=>v=_)] [4] (fun S w'=>(S 4=false→ag w11 w')∧(S 4=true→Blk w' b13 5 (aK (q3 r)).toArray∧Blk w' b2 65 (rcV r).toArray∧ag w w')) (by kernel_rfl) (by kernel_rfl) rfl rfl ⟨fun _ _ _ _ _ _ _ h=>h,fun _ _ _ _ _ _ _ h=>h,fun _ _ _ _ _ _ _ h=>h,fun _ _ _ _ _ _ _ h=>h,fun _ _ _ _ _ _ _ h=>h,trivial⟩ (fun S i w1 w2 hq hF h=>⟨fun h0=>(h.1 (lP h0)).next hF,fun h1=>(fun h=>⟨h.1.from_ hF,h.2.1.from_ hF,h.2.2.next hF⟩) (h.2 (mP (show 4≠i by rintro rfl;exact absurd hq (by decide)) h1))⟩) ⟨fun _=>ag.rfl_.d1,fun h=>by cases h⟩
  case hstep=>
   constructor
   ·rintro S L' w12 hU hmo hme hI hM hC hS ⟨-⟩;have hS0:S 4=false:=(ay hC (j:=4) rfl (by kernel_rfl) (ay hC (j:=1) rfl (by kernel_rfl) hS));have hM12:=hM.1 hS0;have e6:=hI.1 6 (fj rfl);exact aN [(6,_)] hU hmo hme hI hM (.head _) rfl rfl (by kernel_rfl) ⟨e6,trivial⟩ (aB (v:=.slice _ _ _) rfl) ag.rfl_ (rfl)
   constructor
   ·rintro S L' w13 hU hmo hme hI hM hC hS ⟨d0,-⟩;have hS0:S 4=false:=(ay hC (j:=4) rfl (by kernel_rfl) hS);have hM13:=hM.1 hS0;obtain ⟨v13_29,e29,h29⟩:=hI.get (i:=0) (.head _) d0;obtain rfl:=h29;exact aN [(29,_)] hU hmo hme hI hM (.tail _ (.head _)) rfl rfl (by kernel_rfl) ⟨e29,trivial⟩ (bH (v':=.slice (some ⟨b13,13,none⟩) (8) ((23+r.d.size)-13)) (bk (l:=13) (h:=21) bj rfl (.inr ⟨_,_,_,rfl,rfl,rfl⟩) (.inr ⟨_,_,_,rfl,rfl,rfl⟩) (by omega) (by omega)) (by first | (rw [bT (by omega)];done) | (rw [bT (by omega)];rfl))) ag.rfl_ (rfl)
   constructor
   ·rintro S L' w14 hU hmo hme hI hM hC hS ⟨-⟩;have hS0:S 4=false:=(ay hC (j:=4) rfl (by kernel_rfl) (ay hC (j:=3) rfl (by kernel_rfl) hS));have hM14:=hM.1 hS0;have e2:=hI.1 2 (fj rfl);exact aN [(2,_)] hU hmo hme hI hM (.tail _ (.tail _ (.head _))) rfl rfl (by kernel_rfl) ⟨e2,trivial⟩ (ai iE rfl) ag.rfl_ (rfl)
   constructor
   ·rintro S L' w15 hU hmo hme hI hM hC hS ⟨d2,-⟩;have hS0:S 4=false:=(ay hC (j:=4) rfl (by kernel_rfl) hS);have hM15:=hM.1 hS0;obtain ⟨v15_31,e31,h31⟩:=hI.get (i:=2) (.tail _ (.tail _ (.head _))) d2;obtain rfl:=h31;exact aN [(31,_)] hU hmo hme hI hM (.tail _ (.tail _ (.tail _ (.head _)))) rfl rfl (by kernel_rfl) ⟨e31,trivial⟩ (ao aD rfl (by exact (hk2.from_ (ag.rfl_.next hM15)).rd 2 rfl)) ag.rfl_ (rfl)
   constructor
   ·rintro S L' w16 hU hmo hme hI hM hC hS ⟨d1,d3,-⟩;have hS0:S 4=false:=hS;have hM16:=hM.1 hS0;obtain ⟨v16_30,e30,h30⟩:=hI.get (i:=1) (.tail _ (.head _)) d1;obtain rfl:=h30;obtain ⟨v16_32,e32,h32⟩:=hI.get (i:=3) (.tail _ (.tail _ (.tail _ (.head _)))) d3;obtain rfl:=h32;refine eY (al:=[.tmp 30,.tmp 32]) [(30,_),(32,_)] hU hI (.tail _ (.tail _ (.tail _ (.tail _ (.head _))))) (by kernel_rfl) ⟨e30,e32,trivial⟩ fw ((fo b13 13 8 _ r.t _ _ (hz2.from_ hM16) (by rw [ql2];omega) (by decide) hk.t).mono ?_);rintro v w2 ⟨rfl,hb9,hO9⟩;rw [q23] at hb9;exact ⟨⟨fun h0=>(by rw [mQ] at h0;cases h0),fun _=>⟨hb9,(hk2.from_ hM16).only hO9 hb2n,((hFhz2.next hM16)).only hO9 hg13⟩⟩,rfl,⟨fun _ _ _ h=>h,fun _ _ _ h=>h,fun _ _ _ h=>h,fun _ _ _ h=>h,fun _ _ _ h=>h,trivial⟩⟩
   exact trivial
  case hend=>
   intro w17 hM;obtain ⟨hz3,hk2,hFhz3⟩:=hM.2 rfl;rintro v17_29 rfl v17_30 rfl v17_31 rfl v17_32 rfl v17_33 rfl;refine fq (ae (af ?_));apply gz [(0,34,fun _ v _=>v=_),(1,35,fun _ v _=>v=_),(2,36,fun _ v _=>v=_),(3,37,fun _ v _=>v=_),(4,38,fun _ v _=>v=_),(5,39,fun _ v _=>v=_)] [5] (fun S w'=>(S 5=false→ag w17 w')∧(S 5=true→Blk w' b13 5 (aK (q4 r)).toArray∧Blk w' b2 65 (rcV r).toArray∧ag w w')) (by kernel_rfl) (by kernel_rfl) rfl rfl ⟨fun _ _ _ _ _ _ _ h=>h,fun _ _ _ _ _ _ _ h=>h,fun _ _ _ _ _ _ _ h=>h,fun _ _ _ _ _ _ _ h=>h,fun _ _ _ _ _ _ _ h=>h,fun _ _ _ _ _ _ _ h=>h,trivial⟩ (fun S i w1 w2 hq hF h=>⟨fun h0=>(h.1 (lP h0)).next hF,fun h1=>(fun h=>⟨h.1.from_ hF,h.2.1.from_ hF,h.2.2.next hF⟩) (h.2 (mP (show 5≠i by rintro rfl;exact absurd hq (by decide)) h1))⟩) ⟨fun _=>ag.rfl_.d1,fun h=>by cases h⟩
   case hstep=>
    constructor
    ·rintro S L' w18 hU hmo hme hI hM hC hS ⟨-⟩;have hS0:S 5=false:=(ay hC (j:=5) rfl (by kernel_rfl) (ay hC (j:=1) rfl (by kernel_rfl) hS));have hM18:=hM.1 hS0;have e6:=hI.1 6 (fj rfl);exact aN [(6,_)] hU hmo hme hI hM (.head _) rfl rfl (by kernel_rfl) ⟨e6,trivial⟩ (aB (v:=.slice _ _ _) rfl) ag.rfl_ (rfl)
    constructor
    ·rintro S L' w19 hU hmo hme hI hM hC hS ⟨d0,-⟩;have hS0:S 5=false:=(ay hC (j:=5) rfl (by kernel_rfl) hS);have hM19:=hM.1 hS0;obtain ⟨v19_34,e34,h34⟩:=hI.get (i:=0) (.head _) d0;obtain rfl:=h34;exact aN [(34,_)] hU hmo hme hI hM (.tail _ (.head _)) rfl rfl (by kernel_rfl) ⟨e34,trivial⟩ (bH (v':=.slice (some ⟨b13,21,none⟩) (2) ((23+r.d.size)-21)) (bk (l:=21) (h:=23) bj rfl (.inr ⟨_,_,_,rfl,rfl,rfl⟩) (.inr ⟨_,_,_,rfl,rfl,rfl⟩) (by omega) (by omega)) (by first | (rw [bT (by omega)];done) | (rw [bT (by omega)];rfl))) ag.rfl_ (rfl)
    constructor
    ·rintro S L' w20 hU hmo hme hI hM hC hS ⟨-⟩;have hS0:S 5=false:=(ay hC (j:=5) rfl (by kernel_rfl) (ay hC (j:=4) rfl (by kernel_rfl) (ay hC (j:=3) rfl (by kernel_rfl) hS)));have hM20:=hM.1 hS0;have e2:=hI.1 2 (fj rfl);exact aN [(2,_)] hU hmo hme hI hM (.tail _ (.tail _ (.head _))) rfl rfl (by kernel_rfl) ⟨e2,trivial⟩ (ai fV rfl) ag.rfl_ (rfl)
    constructor
    ·rintro S L' w21 hU hmo hme hI hM hC hS ⟨d2,-⟩;have hS0:S 5=false:=(ay hC (j:=5) rfl (by kernel_rfl) (ay hC (j:=4) rfl (by kernel_rfl) hS));have hM21:=hM.1 hS0;obtain ⟨v21_36,e36,h36⟩:=hI.get (i:=2) (.tail _ (.tail _ (.head _))) d2;obtain rfl:=h36;exact aN [(36,_)] hU hmo hme hI hM (.tail _ (.tail _ (.tail _ (.head _)))) rfl rfl (by kernel_rfl) ⟨e36,trivial⟩ (ao bY rfl (by exact (hk2.from_ (ag.rfl_.next hM21)).rd 3 rfl)) ag.rfl_ (rfl)
    constructor
    ·rintro S L' w22 hU hmo hme hI hM hC hS ⟨d3,-⟩;have hS0:S 5=false:=(ay hC (j:=5) rfl (by kernel_rfl) hS);have hM22:=hM.1 hS0;obtain ⟨v22_37,e37,h37⟩:=hI.get (i:=3) (.tail _ (.tail _ (.tail _ (.head _)))) d3;obtain rfl:=h37;exact aN [(37,_)] hU hmo hme hI hM (.tail _ (.tail _ (.tail _ (.tail _ (.head _))))) rfl rfl (by kernel_rfl) ⟨e37,trivial⟩ (im (by kernel_rfl) rfl) ag.rfl_ (rfl)
    constructor
    ·rintro S L' w23 hU hmo hme hI hM hC hS ⟨d1,d4,-⟩;have hS0:S 5=false:=hS;have hM23:=hM.1 hS0;obtain ⟨v23_35,e35,h35⟩:=hI.get (i:=1) (.tail _ (.head _)) d1;obtain rfl:=h35;obtain ⟨v23_38,e38,h38⟩:=hI.get (i:=4) (.tail _ (.tail _ (.tail _ (.tail _ (.head _))))) d4;obtain rfl:=h38;refine eY (al:=[.tmp 35,.tmp 38]) [(35,_),(38,_)] hU hI (.tail _ (.tail _ (.tail _ (.tail _ (.tail _ (.head _)))))) (by kernel_rfl) ⟨e35,e38,trivial⟩ fw ((fo b13 21 2 _ r.d.size _ _ (hz3.from_ hM23) (by rw [ql3];omega) (by decide) (by omega)).mono ?_);rintro v w2 ⟨rfl,hb9,hO9⟩;rw [q34] at hb9;exact ⟨⟨fun h0=>(by rw [mQ] at h0;cases h0),fun _=>⟨hb9,(hk2.from_ hM23).only hO9 hb2n,((hFhz3.next hM23)).only hO9 hg13⟩⟩,rfl,⟨fun _ _ _ h=>h,fun _ _ _ h=>h,fun _ _ _ h=>h,fun _ _ _ h=>h,fun _ _ _ h=>h,fun _ _ _ h=>h,trivial⟩⟩
    exact trivial
   case hend=>
    intro w24 hM;obtain ⟨hz4,hk2,hFhz4⟩:=hM.2 rfl;rintro v24_34 rfl v24_35 rfl v24_36 rfl v24_37 rfl v24_38 rfl v24_39 rfl;refine fq (ae (af (ab (mvs rfl (aa (ai fV rfl) (aa (ao bY rfl (by exact (hk2.from_ ag.rfl_).rd 3 rfl)) ?_))))));refine qZ (cur:=aK (q4 r)) bj ju rfl rfl (hz4.from_ ag.rfl_) (Nat.le_refl _) (by rw [aJ,ql4];exact Nat.le_refl _) ?_;intro w25 O43 P43;rw [zi] at P43;have hF43:=(hFhz4).only O43 hg13;replace hk2:=(hk2.from_ ag.rfl_).only O43 hb2n;refine ass rfl (ah (ae (af (ab (mvi rfl (mvs rfl ?_))))));refine aa (bH (v':=.slice (some ⟨b13,4,none⟩) ((23+r.d.size)-4) ((23+r.d.size)-4)) (bk (l:=4) (h:=(23+r.d.size)) bj rfl (.inr ⟨_,_,_,rfl,rfl,rfl⟩) (.inl ⟨rfl,rfl⟩) (by omega) (by omega)) (by first | (rw [bT (by omega)];done) | (rw [bT (by omega)];rfl))) ?_;refine av mI (wX s (c:=23+r.d.size-4) (wY (p:=z 4) (r:=rcB r) (P43.from_ ag.rfl_) rfl (by rw [j9];omega)) (sZ r) (by rw [j9];omega) (hT.from_ hF43)) ?_;rintro v47 w26 ⟨rfl,E47⟩;refine asi rfl (ah (ae (af (ab (mvs rfl (aa (bH (v':=.slice (some ⟨b13,0,none⟩) (4) ((23+r.d.size)-0)) (bk (l:=0) (h:=4) bj rfl (.inl ⟨rfl,rfl⟩) (.inr ⟨_,_,_,rfl,rfl,rfl⟩) (by omega) (by omega)) (by first | (rw [ep];done) | (rw [ep];rfl))) ?_))))));refine mvi rfl (aa (jE mH jZ rfl (by have h:=qy s r;omega)) ?_);refine av fw (fo b13 0 4 _ (eo s r).toNat _ _ (P43.from_ (ag.rfl_.next E47)) (by rw [List.length_append,j9];show 0+4≤4+_;omega) (by decide) (qy s r)) ?_;rintro v52 w27 ⟨rfl,hz6,hO52⟩;rw [q6] at hz6;have hzB:=((((hF43.next E47)).only hO52 hg13)).size;refine ah (ae (af (ab (mvs rfl ?_))));have hzB:=((((hF43.next E47)).only hO52 hg13)).size;refine av qJ (qq _ (23+r.d.size) _ (b_ s r) _ (AT (hz6.from_ ag.rfl_) (oh s r) (by rw [hbl];omega)) hbl.symm (by rw [hbl];omega)) ?_;rintro v54 w28 ⟨⟨A54,c54,rfl,ho54⟩,E54⟩;refine mvi rfl (ass rfl (asi rfl (ah (ae (aC (gj (v:=.slice _ _ _) (v':=.int _ _) rfl rfl rfl (⟨⟨A54,c54,rfl,dI ho54 hzB⟩,((((hF43.next E47)).only hO52 hg13).next E54)⟩)))))))
end Go.Proofs.YtaohnmneccbljaaGreatDoor
