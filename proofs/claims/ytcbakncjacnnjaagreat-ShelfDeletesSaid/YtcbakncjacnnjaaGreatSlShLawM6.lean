/- texts that the claim stands on. -/
import Derived.Test.YtcbakncjacnnjaaGreatSlShLawM5
import Derived.Sort.Grow
import Derived.Shelf.SlSortCmp.NoneTotal
import Derived.Shelf.SlSortCmp.WholeK
set_option maxRecDepth 100000
set_option maxHeartbeats 4000000
namespace Go.Proofs.YtcbakncjacnnjaaGreat
open Go.Proofs.Tryz (prog)
open Go.RowKit Go.ChangeShapes Go.WideShapes Go.ChangeAt
open Go.Proofs.YtcbakncjacnnjaaGreat.SA
structure Pt where
 lo:Nat
 hi:Nat
 s:Nat
 ds:List Dc
 A:Option Addr
 c:Nat
 gone:List ByteArray
noncomputable def Pt.live (p:Pt):List Dc:=lv p.ds p.gone
def ptV (p:Pt):List Value:=[.pointer (some ⟨p.s,0,none⟩),.slice p.A p.gone.length p.c]
theorem kO (p:Pt):(ptV p).length=2:=rfl
theorem Fa (p:Pt):∀ u∈ptV p,u.oneCell'=true:=by simp [ptV,Value.oneCell']
theorem vr (l:List Pt):∀ u∈l.flatMap ptV,u.oneCell'=true:=s4 fun x _ u hu=>Fa x u hu
noncomputable def jI (ps:List Pt) (L:List Dc):List Dc:=L++ps.flatMap Pt.live
def Pt.of (lo hi s:Nat) (ds:List Dc):Pt:=⟨lo,hi,s,ds,none,0,[]⟩
theorem Pt.of_live (lo hi s:Nat) (ds:List Dc):(Pt.of lo hi s ds).live=ds:=JX ds
structure ShG (ps:List Pt) (L D:List Dc):Prop where
 sdL:SD L
 ord:iW D
 fit:jJ D
 perm:D.Perm (jI ps L)
 part:∀ p∈ps,SO p.gone∧p.gone.length+p.live.length=p.ds.length∧p.live≠[]
theorem uI {ds:List Dc} (h:iW ds):SD ds:=List.pairwise_iff_getElem.2 fun i j hi hj hij=>by
 have:=h.lt hij hj
 rwa [bM hi,bM hj] at this
theorem Bw {ds:List Dc} (h:SD ds) (k:∀ d∈ds,1≤d.1.size∧d.1.size≤64):iW ds:=fun i hi=>by
 have h1:=k _ (List.getElem_mem hi);refine ⟨by rw [bM hi];exact h1.1,by rw [bM hi];exact h1.2,fun h0=>?_⟩;rw [bM hi,bM (show i-1<ds.length by omega)];exact List.pairwise_iff_getElem.1 h (i-1) i (by omega) hi (by omega)
theorem zr {ds:List Dc} (h:iW ds) {d:Dc} (hd:d∈ds):1≤d.1.size∧d.1.size≤64:=by
 obtain ⟨i,hi,rfl⟩:=List.getElem_of_mem hd;have:=h i hi;rw [okI,bM hi] at this;exact ⟨this.1,this.2.1⟩
theorem vL {a b:List Dc} (h:jJ b) (k:a.Sublist b):jJ a:=⟨Nat.le_trans k.length_le h.1,fun d hd=>h.2.1 d (k.subset hd),Nat.le_trans (IG k) h.2.2⟩
theorem s6 {a b:List Dc} (h:jJ b) (k:a.Perm b):jJ a:=⟨by rw [k.length_eq];exact h.1,fun d hd=>h.2.1 d (k.mem_iff.1 hd),by rw [te k];exact h.2.2⟩
noncomputable def C5 (D:List Dc) (d:Dc):List Dc:=vi (D++[d])
section
variable {ps:List Pt} {L D:List Dc}
theorem ShG.sd (h:ShG ps L D):SD D:=uI h.ord
theorem ShG.dif (h:ShG ps L D):Dif (jI ps L):=h.sd.dif.perm h.perm
theorem ShG.mem (h:ShG ps L D) {d:Dc}:d∈D↔d∈L∨∃ p∈ps,d∈p.live:=by
 rw [h.perm.mem_iff,jI,List.mem_append,List.mem_flatMap]
theorem ShG.len (h:ShG ps L D):L.length+(ps.flatMap Pt.live).length≤64:=by
 have h1:=h.fit.1;rw [h.perm.length_eq,jI,List.length_append] at h1;exact h1
theorem oy:∀ {ps:List Pt},(∀ p∈ps,p.live≠[])→ps.length≤(ps.flatMap Pt.live).length
 |[],_=>Nat.le_refl _
 |p::ps,h=>by
  have h1:=List.length_pos_iff.2 (h p (List.mem_cons_self ..));have h2:=oy (ps:=ps) fun q hq=>h q (List.mem_cons_of_mem _ hq)
  rw [List.flatMap_cons,List.length_append,List.length_cons];omega
theorem ShG.parts (h:ShG ps L D):ps.length≤64:=by
 have h1:=oy fun p hp=>(h.part p hp).2.2
 have h2:=h.len;omega
theorem ShG.loose (h:ShG ps L D):L.length≤64:=by have:=h.len;omega
theorem FE {p:Pt} (hp:p∈ps):∃ l,(l++p.live).Perm (jI ps L):=by
 obtain ⟨a,b,rfl⟩:=List.append_of_mem hp;refine ⟨L++a.flatMap Pt.live++b.flatMap Pt.live,?_⟩;unfold jI;rw [List.flatMap_append,List.flatMap_cons,List.append_assoc,List.append_assoc];refine List.Perm.append_left L (List.Perm.append_left _ List.perm_append_comm)
theorem ShG.liveFit (h:ShG ps L D) {p:Pt} (hp:p∈ps):jJ p.live:=by
 obtain ⟨l,hl⟩:=FE (L:=L) hp;exact vL (s6 h.fit (hl.trans h.perm.symm)) (List.sublist_append_right ..)
theorem ShG.looseFit (h:ShG ps L D):jJ L:=vL (s6 h.fit h.perm.symm) (List.sublist_append_left ..)
theorem ShG.add (h:ShG ps L D) {d:Dc} {k:Nat} (hk:k≤L.length) (h1:∀ x,x<k→sLt (SM.G Dz L x).1 d.1) (h2:k<L.length→¬ sLt (SM.G Dz L k).1 d.1∧(SM.G Dz L k).1≠d.1) (hn:∀ e∈D,e.1≠d.1) (hi:1≤d.1.size∧d.1.size≤64) (ht:d.2.size≤2048) (hl:D.length<64) (hz:dsz D+d.2.size≤16384) :
 ShG ps (L.take k++d::L.drop k) (C5 D d):=by
 have hd:Dif (D++[d]):=by
  unfold Dif;rw [List.pairwise_append];exact ⟨h.sd.dif,List.pairwise_singleton ..,fun a ha b hb=>by rw [List.mem_singleton.1 hb];exact hn a ha⟩
 obtain ⟨k1,k2⟩:=vh hd;refine ⟨h.sdL.ins hk h1 h2,Bw k1 fun e he=>?_,⟨?_,fun e he=>?_,?_⟩,k2.trans ?_,h.part⟩
 ·rcases List.mem_append.1 (k2.mem_iff.1 he) with he | he
  ·exact zr h.ord he
  ·rw [List.mem_singleton.1 he];exact hi
 ·show (vi (D++[d])).length≤64;rw [k2.length_eq,List.length_append,List.length_singleton];omega
 ·rcases List.mem_append.1 (k2.mem_iff.1 he) with he | he
  ·exact h.fit.2.1 e he
  ·rw [List.mem_singleton.1 he];exact ht
 ·show dsz (vi (D++[d]))≤16384;rw [te k2,pw];simp only [dsz];omega
 ·unfold jI;have e1:(D++[d]).Perm (L++ps.flatMap Pt.live++[d]):=h.perm.append_right [d];refine e1.trans ?_
  have e2:(L++ps.flatMap Pt.live++[d]).Perm (L++[d]++ps.flatMap Pt.live):=by
   rw [List.append_assoc,List.append_assoc];exact List.Perm.append_left L List.perm_append_comm
  exact e2.trans (mW.symm.append_right _)
theorem ShG.del (h:ShG ps L D) (id:ByteArray) {ps':List Pt} {L':List Dc} (hsd:SD L') (ha:jI ps' L'=eg (jI ps L) id) (hp:∀ p∈ps',SO p.gone∧p.gone.length+p.live.length=p.ds.length∧p.live≠[]):ShG ps' L' (eg D id):=
 ⟨hsd,Bw (BW h.sd) fun d hd=>zr h.ord (Gm.1 hd).1,vL h.fit List.filter_sublist,by rw [ha];exact Dm h.perm id,hp⟩
theorem ShG.cut (h:ShG ps L D) {k:Nat} (hk:k<L.length):ShG ps (L.take k++L.drop (k+1)) (eg D L[k].1):=by
 refine h.del _ (by rw [←pB h.sdL.dif hk];exact BW h.sdL) ?_ h.part;have hd:=h.dif;unfold jI Dif at hd;rw [List.pairwise_append] at hd;unfold jI;rw [na,pB h.sdL.dif hk,kT];exact fun d hd2 e=>hd.2.2 _ (List.getElem_mem hk) d hd2 e.symm
theorem ShG.others (h:ShG ps L D) {i:Nat} (hi:i<ps.length) {d:Dc} (hd:d∈ps[i].live):(∀ e∈L,e.1≠d.1)∧(∀ e∈(ps.take i).flatMap Pt.live,e.1≠d.1)∧∀ e∈(ps.drop (i+1)).flatMap Pt.live,e.1≠d.1:=by
 have hx:ps=ps.take i++(ps[i]::ps.drop (i+1)):=by rw [←List.drop_eq_getElem_cons hi,List.take_append_drop]
 have hf:=h.dif;unfold jI Dif at hf;have hfm:ps.flatMap Pt.live=(ps.take i).flatMap Pt.live++(ps[i].live++(ps.drop (i+1)).flatMap Pt.live):=(congrArg (List.flatMap Pt.live) hx).trans (by rw [List.flatMap_append,List.flatMap_cons]);rw [hfm,List.pairwise_append,List.pairwise_append,List.pairwise_append] at hf;obtain ⟨_,⟨_,⟨_,_,k1⟩,k2⟩,k3⟩:=hf;exact ⟨fun e he=>k3 e he d (List.mem_append_right _ (List.mem_append_left _ hd)),fun e he=>k2 e he d (List.mem_append_left _ hd),fun e he q=>k1 d hd e he q.symm⟩
theorem KC (L:List Dc) {i:Nat} (hi:i<ps.length):jI ps L=L++((ps.take i).flatMap Pt.live++(ps[i].live++(ps.drop (i+1)).flatMap Pt.live)):=by
 unfold jI;have hx:ps=ps.take i++(ps[i]::ps.drop (i+1)):=by rw [←List.drop_eq_getElem_cons hi,List.take_append_drop]
 exact congrArg (L++·) ((congrArg (List.flatMap Pt.live) hx).trans (by rw [List.flatMap_append,List.flatMap_cons]))
theorem ShG.all_del (h:ShG ps L D) {i:Nat} (hi:i<ps.length) {d:Dc} (hd:d∈ps[i].live):eg (jI ps L) d.1=L++((ps.take i).flatMap Pt.live++(eg ps[i].live d.1++(ps.drop (i+1)).flatMap Pt.live)):=by
 obtain ⟨h1,h2,h3⟩:=h.others hi hd;rw [KC L hi,na,na,na,kT h1,kT h2,kT h3]
theorem ShG.gone (h:ShG ps L D) {i:Nat} (hi:i<ps.length) {d:Dc} (hd:d∈ps[i].live) {k:Nat} {A:Option Addr} {c:Nat} (hs:SO (ps[i].gone.take k++d.1::ps[i].gone.drop k)) (hsd:SD ps[i].ds) (hne:eg ps[i].live d.1≠[]) :
 ShG (ps.set i { ps[i] with A:=A,c:=c,gone:=ps[i].gone.take k++d.1::ps[i].gone.drop k }) L (eg D d.1):=by
 have hlive:(Pt.live { ps[i] with A:=A,c:=c,gone:=ps[i].gone.take k++d.1::ps[i].gone.drop k })=eg ps[i].live d.1:=FB;have hset:∀ q:Pt,ps.set i q=ps.take i++q::ps.drop (i+1):=fun q=>by rw [List.set_eq_take_append_cons_drop,if_pos hi]
 refine h.del d.1 h.sdL ?_ fun p hp=>?_
 ·rw [h.all_del hi hd,hset];unfold jI;rw [List.flatMap_append,List.flatMap_cons,hlive]
 ·rw [hset] at hp
  have hp2:p={ ps[i] with A:=A,c:=c,gone:=ps[i].gone.take k++d.1::ps[i].gone.drop k }∨p∈ps:=by
   rcases List.mem_append.1 hp with hp | hp
   ·exact .inr (List.mem_of_mem_take hp)
   ·rcases List.mem_cons.1 hp with e | hp
    ·exact .inl e
    ·exact .inr (List.mem_of_mem_drop hp)
  rcases hp2 with rfl | hp
  ·refine ⟨hs,?_,by rw [hlive];exact hne⟩;rw [hlive];have h1:=(h.part _ (List.getElem_mem hi)).2.1;have h2:=Gn (K4 (gs:=ps[i].gone) hsd).dif hd;show (List.length (_++_))+_=_;rw [mW.length_eq,List.length_append,List.length_singleton];show ps[i].gone.length+1+(eg ps[i].live d.1).length=ps[i].ds.length;have h3:(eg ps[i].live d.1).length+1=ps[i].live.length:=h2;omega
  ·exact h.part p hp
theorem ShG.drop (h:ShG ps L D) {i:Nat} (hi:i<ps.length) {d:Dc} (hd:d∈ps[i].live) (hne:eg ps[i].live d.1=[]):ShG (ps.take i++ps.drop (i+1)) L (eg D d.1):=by
 refine h.del d.1 h.sdL ?_ fun p hp=>h.part p ?_
 ·rw [h.all_del hi hd,hne,List.nil_append];unfold jI;rw [List.flatMap_append]
 ·rcases List.mem_append.1 hp with hp | hp
  ·exact List.mem_of_mem_take hp
  ·exact List.mem_of_mem_drop hp
theorem ShG.fresh (lo hi s:Nat) {ds:List Dc} (hne:ds≠[]):SO (Pt.of lo hi s ds).gone∧(Pt.of lo hi s ds).gone.length+(Pt.of lo hi s ds).live.length=(Pt.of lo hi s ds).ds.length∧(Pt.of lo hi s ds).live≠[]:=by
 rw [Pt.of_live];exact ⟨List.Pairwise.nil,Nat.zero_add _,hne⟩
theorem ShG.seal (h:ShG ps L D) (lo hi s:Nat) (hne:L≠[]):ShG (ps++[Pt.of lo hi s L]) [] D:=by
 refine ⟨List.Pairwise.nil,h.ord,h.fit,h.perm.trans ?_,fun p hp=>?_⟩
 ·unfold jI;rw [List.flatMap_append,List.nil_append,List.flatMap_cons,List.flatMap_nil,List.append_nil,Pt.of_live];exact List.perm_append_comm
 ·rcases List.mem_append.1 hp with hp | hp
  ·exact h.part p hp
  ·rw [List.mem_singleton.1 hp];exact ShG.fresh lo hi s hne
theorem ShG.tidy (h:ShG ps L D) {i m:Nat} (_:i+m≤ps.length) {M:List Dc} (lo hi s:Nat) (hp:M.Perm (((ps.drop i).take m).flatMap Pt.live)) (hne:M≠[]):ShG (ps.take i++Pt.of lo hi s M::ps.drop (i+m)) L D:=by
 refine ⟨h.sdL,h.ord,h.fit,h.perm.trans ?_,fun p hp=>?_⟩
 ·unfold jI;refine List.Perm.append_left L ?_;have hx:ps=ps.take i++((ps.drop i).take m++ps.drop (i+m)):=by rw [←List.drop_drop,List.take_append_drop,List.take_append_drop]
  have e1:ps.flatMap Pt.live=(ps.take i).flatMap Pt.live++(((ps.drop i).take m).flatMap Pt.live++(ps.drop (i+m)).flatMap Pt.live):=(congrArg (List.flatMap Pt.live) hx).trans (by rw [List.flatMap_append,List.flatMap_append]);rw [e1,List.flatMap_append,List.flatMap_cons,Pt.of_live];exact List.Perm.append_left _ (hp.symm.append_right _)
 ·rcases List.mem_append.1 hp with hp | hp
  ·exact h.part p (List.mem_of_mem_take hp)
  ·rcases List.mem_cons.1 hp with rfl | hp
   ·exact ShG.fresh lo hi s hne
   ·exact h.part p (List.mem_of_mem_drop hp)
theorem ShG.new0:ShG [] [] []:=⟨List.Pairwise.nil,fun i hi=>absurd hi (by simp),⟨by simp,fun d hd=>(by cases hd),(by simp [dsz])⟩,.refl _,fun p hp=>by cases hp⟩
theorem ShG.new1 (lo hi s:Nat) (ho:iW D) (hf:jJ D) (hne:D≠[]):ShG [Pt.of lo hi s D] [] D:=by
 refine ⟨List.Pairwise.nil,ho,hf,?_,fun p hp=>?_⟩
 ·unfold jI;rw [List.nil_append,List.flatMap_cons,List.flatMap_nil,List.append_nil,Pt.of_live]
 ·rw [List.mem_singleton.1 hp];exact ShG.fresh lo hi s hne
end
def DL (s:Nat) (Ap Al:Option Addr) (ps:List Pt) (k:Nat):Prop:=k=s∨Ap.map (·.block)=some k∨Al.map (·.block)=some k∨∃ p∈ps,p.A.map (·.block)=some k
def qN (s:Nat) (Ap Al:Option Addr) (ps:List Pt) (k:Nat):Prop:=DL s Ap Al ps k∨∃ p∈ps,p.lo≤k∧k<p.hi
structure ShH (w:World) (ps:List Pt) (L:List Dc) (s:Nat) (Ap:Option Addr) (cp:Nat) (Al:Option Addr) (cl:Nat):Prop where
 blk:Blk w s 63 #[.slice Ap ps.length cp,.slice Al L.length cl]
 rowP:w.ownsRow 0 66 2 (.slice Ap ps.length cp) ps.length (ps.flatMap ptV)
 rowL:w.ownsRow 0 37 2 (.slice Al L.length cl) L.length (L.flatMap dV)
 gone:∀ p∈ps,w.ownsRow 0 9 1 (.slice p.A p.gone.length p.c) p.gone.length (p.gone.map Value.string)
 apart:ps.Pairwise fun p q=>fp p.A q.A
 seg:∀ p∈ps,kF w p.lo p.hi p.s p.ds
 frz:∀ p∈ps,∀ k,p.lo≤k→k<p.hi→¬ DL s Ap Al ps k
section
variable {V:Nat→Prop} {w w':World} {ps ps':List Pt} {L L':List Dc} {s cp cl cp' cl':Nat} {Ap Al Ap' Al':Option Addr}
theorem ShH.chg (h:ShH w ps L s Ap cp Al cl) (c:Chg V w w') (hV:∀ k,qN s Ap Al ps k→¬ V k):ShH w' ps L s Ap cp Al cl:=
 ⟨h.blk.chg c (hV _ (.inl (.inl rfl))),jT h.rowP c fun q hq=>hV q (.inl (.inr (.inl hq))),jT h.rowL c fun q hq=>hV q (.inl (.inr (.inr (.inl hq)))),
  fun p hp=>jT (h.gone p hp) c fun q hq=>hV q (.inl (.inr (.inr (.inr ⟨p,hp,hq⟩)))),h.apart,fun p hp=>(h.seg p hp).chg c fun k h1 h2=>hV k (.inr ⟨p,hp,h1,h2⟩),h.frz⟩
theorem ShH.from_ (h:ShH w ps L s Ap cp Al cl) (hF:aj w w'):ShH w' ps L s Ap cp Al cl:=h.chg (V:=fun _=>False) hF.toChg fun _ _ h=>h
theorem ShH.lt (h:ShH w ps L s Ap cp Al cl) {k:Nat} (hk:qN s Ap Al ps k):k<w.heap.size:=by
 rcases hk with (rfl | hk | hk | ⟨p,hp,hk⟩) | ⟨p,hp,_,hk⟩
 ·exact h.blk.lt
 ·exact (b_ h.rowP k hk).2
 ·exact (b_ h.rowL k hk).2
 ·exact (b_ (h.gone p hp) k hk).2
 ·obtain ⟨w0,_,_,_,_,h5,_⟩:=h.seg p hp;exact Nat.lt_of_lt_of_le hk h5
theorem dz {base e sz n c:Nat} {A:Option Addr} {xs:List Value} {g:Nat} {t:TypeId} {cs:Array Value} (h:w.ownsRow base e sz (.slice A n c) n xs) (hb:Blk w g t cs) (hne:t≠e):∀ q,A.map (·.block)=some q→q≠g:=fun q hq e2=>by
 rcases h.2 with ⟨k1,_⟩ | ⟨g1,cap1,cur1,k1,_,k2,_⟩
 ·simp only [Value.slice.injEq] at k1;rw [k1.1] at hq;cases hq
 ·simp only [Value.slice.injEq] at k1;rw [k1.1] at hq;cases hq;have e3:g1=g:=e2;unfold Blk at hb;rw [e3,hb] at k2;simp only [Option.some.injEq,Obj.cells.injEq] at k2;exact hne k2.2.1
theorem ShH.setLoose (h:ShH w ps L s Ap cp Al cl) (c:Chg V w w') (hV:∀ k,V k→k=s∨Al.map (·.block)=some k) (hb:Blk w' s 63 #[.slice Ap ps.length cp,.slice Al' L'.length cl'])
 (hL:w'.ownsRow 0 37 2 (.slice Al' L'.length cl') L'.length (L'.flatMap dV)) (hA:∀ k,Al'.map (·.block)=some k→Al.map (·.block)=some k∨w.heap.size≤k):ShH w' ps L' s Ap cp Al' cl':=by
 refine ⟨hb,jT h.rowP c fun q hq hv=>?_,hL,fun p hp=>jT (h.gone p hp) c fun q hq hv=>?_,h.apart,fun p hp=>(h.seg p hp).chg c fun k h1 h2 hv=>?_,fun p hp k h1 h2 hm=>?_⟩
 ·rcases hV q hv with e | e
  ·exact dz h.rowP h.blk (by decide) q hq e
  ·exact fX h.rowP h.rowL (by decide) q hq q e rfl
 ·rcases hV q hv with e | e
  ·exact dz (h.gone p hp) h.blk (by decide) q hq e
  ·exact fX (h.gone p hp) h.rowL (by decide) q hq q e rfl
 ·rcases hV k hv with e | e
  ·exact h.frz p hp k h1 h2 (.inl e)
  ·exact h.frz p hp k h1 h2 (.inr (.inr (.inl e)))
 ·have hlt:=h.lt (.inr ⟨p,hp,h1,h2⟩);rcases hm with e | e | e | e
  ·exact h.frz p hp k h1 h2 (.inl e)
  ·exact h.frz p hp k h1 h2 (.inr (.inl e))
  ·rcases hA k e with e | e
   ·exact h.frz p hp k h1 h2 (.inr (.inr (.inl e)))
   ·omega
  ·exact h.frz p hp k h1 h2 (.inr (.inr (.inr e)))
theorem ShH.setParts (h:ShH w ps L s Ap cp Al cl) (c:Chg V w w') (hV:∀ k,V k→k=s∨Ap.map (·.block)=some k) (hb:Blk w' s 63 #[.slice Ap' ps'.length cp',.slice Al' L'.length cl'])
 (hP:w'.ownsRow 0 66 2 (.slice Ap' ps'.length cp') ps'.length (ps'.flatMap ptV)) (hA:∀ k,Ap'.map (·.block)=some k→Ap.map (·.block)=some k∨w.heap.size≤k)
 (hL:(Al'=Al∧cl'=cl∧L'=L)∨(Al'=none∧cl'=0∧L'=[]))
 (hps:∀ p∈ps',p∈ps∨(p.A=none∧p.c=0∧p.gone=[]∧kF w p.lo p.hi p.s p.ds∧∀ k,p.lo≤k→k<p.hi→¬ DL s Ap Al ps k)) (hpw:ps'.Pairwise fun p q=>fp p.A q.A):ShH w' ps' L' s Ap' cp' Al' cl':=by
 have hfr:∀ p∈ps',kF w p.lo p.hi p.s p.ds∧∀ k,p.lo≤k→k<p.hi→¬ DL s Ap Al ps k:=fun p hp=>by
  rcases hps p hp with e | e
  ·exact ⟨h.seg p e,h.frz p e⟩
  ·exact ⟨e.2.2.2.1,e.2.2.2.2⟩
 refine ⟨hb,hP,?_,fun p hp=>?_,hpw,fun p hp=>(hfr p hp).1.chg c fun k h1 h2 hv=>?_,fun p hp k h1 h2 hm=>?_⟩
 ·rcases hL with ⟨rfl,rfl,rfl⟩ | ⟨rfl,rfl,rfl⟩
  ·refine jT h.rowL c fun q hq hv=>?_
   rcases hV q hv with e | e
   ·exact dz h.rowL h.blk (by decide) q hq e
   ·exact fX h.rowL h.rowP (by decide) q hq q e rfl
  ·exact World.ownsRow_nil _ _ _ _
 ·rcases hps p hp with e | ⟨e1,e2,e3,_⟩
  ·refine jT (h.gone p e) c fun q hq hv=>?_
   rcases hV q hv with e2 | e2
   ·exact dz (h.gone p e) h.blk (by decide) q hq e2
   ·exact fX (h.gone p e) h.rowP (by decide) q hq q e2 rfl
  ·rw [e1,e2,e3];exact World.ownsRow_nil _ _ _ _
 ·rcases hV k hv with e | e
  ·exact (hfr p hp).2 k h1 h2 (.inl e)
  ·exact (hfr p hp).2 k h1 h2 (.inr (.inl e))
 ·have hlt:k<w.heap.size:=by
   obtain ⟨w0,_,_,_,_,h5,_⟩:=(hfr p hp).1;exact Nat.lt_of_lt_of_le h2 h5
  rcases hm with e | e | e | ⟨q,hq,e⟩
  ·exact (hfr p hp).2 k h1 h2 (.inl e)
  ·rcases hA k e with e | e
   ·exact (hfr p hp).2 k h1 h2 (.inr (.inl e))
   ·omega
  ·rcases hL with ⟨rfl,_,_⟩ | ⟨rfl,_,_⟩
   ·exact (hfr p hp).2 k h1 h2 (.inr (.inr (.inl e)))
   ·cases e
  ·rcases hps q hq with e2 | ⟨e2,_⟩
   ·exact (hfr p hp).2 k h1 h2 (.inr (.inr (.inr ⟨q,e2,e⟩)))
   ·rw [e2] at e;cases e
theorem ShH.setGone (h:ShH w ps L s Ap cp Al cl) {i:Nat} (hi:i<ps.length) {A:Option Addr} {c:Nat} {gs:List ByteArray} (c_:Chg V w w') (hV:∀ k,V k→Ap.map (·.block)=some k∨ps[i].A.map (·.block)=some k)
 (hP:w'.ownsRow 0 66 2 (.slice Ap ps.length cp) ps.length ((ps.set i { ps[i] with A:=A,c:=c,gone:=gs }).flatMap ptV))
 (hG:w'.ownsRow 0 9 1 (.slice A gs.length c) gs.length (gs.map Value.string)) (hA:∀ k,A.map (·.block)=some k→ps[i].A.map (·.block)=some k∨w.heap.size≤k) :
 ShH w' (ps.set i { ps[i] with A:=A,c:=c,gone:=gs }) L s Ap cp Al cl:=by
 have hset:∀ q:Pt,ps.set i q=ps.take i++q::ps.drop (i+1):=fun q=>by rw [List.set_eq_take_append_cons_drop,if_pos hi]
 have hmi:=List.getElem_mem hi
 have hap:∀ j (hj:j<ps.length),j≠i→fp ps[j].A ps[i].A:=fun j hj hne=>by
  rcases Nat.lt_or_gt_of_ne hne with e | e
  ·exact List.pairwise_iff_getElem.1 h.apart j i hj hi e
  ·exact (List.pairwise_iff_getElem.1 h.apart i j hi hj e).symm
 have hap2:∀ j (hj:j<ps.length),j≠i→fp ps[j].A A:=fun j hj hne p hp q hq e=>by
  rcases hA q hq with k | k
  ·exact hap j hj hne p hp q k e
  ·have:=(b_ (h.gone _ (List.getElem_mem hj)) p hp).2;omega
 have hmem:∀ q∈ps.set i { ps[i] with A:=A,c:=c,gone:=gs },(∃ j,∃ hj:j<ps.length,j≠i∧q=ps[j])∨q={ ps[i] with A:=A,c:=c,gone:=gs }:=fun q hq=>by
  obtain ⟨j,hj,rfl⟩:=List.getElem_of_mem hq;rw [List.length_set] at hj;rw [List.getElem_set];by_cases e:i=j
  ·exact .inr (by rw [if_pos e])
  ·exact .inl ⟨j,hj,fun e2=>e e2.symm,by rw [if_neg e]⟩
 have hseg:∀ q∈ps.set i { ps[i] with A:=A,c:=c,gone:=gs },∃ p∈ps,q.lo=p.lo∧q.hi=p.hi∧q.s=p.s∧q.ds=p.ds:=fun q hq=>by
  rcases hmem q hq with ⟨j,hj,_,rfl⟩ | rfl
  ·exact ⟨_,List.getElem_mem hj,rfl,rfl,rfl,rfl⟩
  ·exact ⟨_,hmi,rfl,rfl,rfl,rfl⟩
 have hmut:∀ k,DL s Ap Al (ps.set i { ps[i] with A:=A,c:=c,gone:=gs }) k→DL s Ap Al ps k∨w.heap.size≤k:=fun k hm=>by
  rcases hm with e | e | e | ⟨q,hq,e⟩
  ·exact .inl (.inl e)
  ·exact .inl (.inr (.inl e))
  ·exact .inl (.inr (.inr (.inl e)))
  ·rcases hmem q hq with ⟨j,hj,_,rfl⟩ | rfl
   ·exact .inl (.inr (.inr (.inr ⟨_,List.getElem_mem hj,e⟩)))
   ·rcases hA k e with e | e
    ·exact .inl (.inr (.inr (.inr ⟨_,hmi,e⟩)))
    ·exact .inr e
 refine ⟨?_,by rw [List.length_set];exact hP,jT h.rowL c_ fun q hq hv=>?_,fun p hp=>?_,?_,fun p hp=>?_,fun p hp k h1 h2 hm=>?_⟩
 ·rw [List.length_set];refine h.blk.chg c_ fun hv=>?_
  rcases hV s hv with e | e
  ·exact dz h.rowP h.blk (by decide) s e rfl
  ·exact dz (h.gone _ hmi) h.blk (by decide) s e rfl
 ·rcases hV q hv with e | e
  ·exact fX h.rowL h.rowP (by decide) q hq q e rfl
  ·exact fX h.rowL (h.gone _ hmi) (by decide) q hq q e rfl
 ·rcases hmem p hp with ⟨j,hj,hne,rfl⟩ | rfl
  ·refine jT (h.gone _ (List.getElem_mem hj)) c_ fun q hq hv=>?_
   rcases hV q hv with e | e
   ·exact fX (h.gone _ (List.getElem_mem hj)) h.rowP (by decide) q hq q e rfl
   ·exact hap j hj hne q hq q e rfl
  ·exact hG
 ·rw [List.pairwise_iff_getElem];intro a b ha hb hab;rw [List.length_set] at ha hb;rw [List.getElem_set,List.getElem_set];by_cases ea:i=a
  ·subst ea;rw [if_pos rfl,if_neg (by omega)];exact (hap2 b hb (by omega)).symm
  ·rw [if_neg ea];by_cases eb:i=b
   ·subst eb;rw [if_pos rfl];exact hap2 a ha (by omega)
   ·rw [if_neg eb];exact List.pairwise_iff_getElem.1 h.apart a b ha hb hab
 ·obtain ⟨q,hq,e1,e2,e3,e4⟩:=hseg p hp;rw [e1,e2,e3,e4];refine (h.seg q hq).chg c_ fun k h1 h2 hv=>h.frz q hq k h1 h2 ?_
  rcases hV k hv with e | e
  ·exact .inr (.inl e)
  ·exact .inr (.inr (.inr ⟨_,hmi,e⟩))
 ·obtain ⟨q,hq,e1,e2,_⟩:=hseg p hp;rw [e1] at h1;rw [e2] at h2;rcases hmut k hm with e | e
  ·exact h.frz q hq k h1 h2 e
  ·have:=h.lt (.inr ⟨q,hq,h1,h2⟩);omega
end
def Nx (U:Nat→Prop) (w w':World) (k:Nat):Prop:=U k∨(w.heap.size≤k∧k<w'.heap.size)
def dD (w:World) (U:Nat→Prop) (s:Nat) (D:List Dc):Prop:=∃ ps L Ap cp Al cl,ShG ps L D∧ShH w ps L s Ap cp Al cl∧∀ k,qN s Ap Al ps k→U k
section
variable {U V:Nat→Prop} {w w':World} {s:Nat} {D:List Dc}
theorem dD.chg (h:dD w U s D) (c:Chg V w w') (hV:∀ k,U k→¬ V k):dD w' U s D:=by
 obtain ⟨ps,L,Ap,cp,Al,cl,h1,h2,h3⟩:=h;exact ⟨ps,L,Ap,cp,Al,cl,h1,h2.chg c fun k hk=>hV k (h3 k hk),h3⟩
theorem dD.from_ (h:dD w U s D) (hF:aj w w'):dD w' U s D:=h.chg (V:=fun _=>False) hF.toChg fun _ _ h=>h
theorem dD.wide (h:dD w U s D) (hU:∀ k,U k→k<w.heap.size→V k):dD w V s D:=by
 obtain ⟨ps,L,Ap,cp,Al,cl,h1,h2,h3⟩:=h;exact ⟨ps,L,Ap,cp,Al,cl,h1,h2,fun k hk=>hU k (h3 k hk) (h2.lt hk)⟩
theorem dD.docs (h:dD w U s D):iW D∧jJ D:=by
 obtain ⟨ps,L,Ap,cp,Al,cl,h1,h2,h3⟩:=h;exact ⟨h1.ord,h1.fit⟩
theorem Nx.trans {w2:World} (h1:w.heap.size≤w'.heap.size) (h2:w'.heap.size≤w2.heap.size) {k:Nat} (h:Nx (Nx U w w') w' w2 k):Nx U w w2 k:=by
 rcases h with (h | h) | h
 ·exact .inl h
 ·exact .inr ⟨h.1,by omega⟩
 ·exact .inr ⟨by omega,h.2⟩
end
end Go.Proofs.YtcbakncjacnnjaaGreat
namespace Go.Proofs.YtcbakncjacnnjaaGreat
open Go.Proofs.Tryz (prog)
open Go.RowKit
open Go.ChangeShapes Go.WideShapes Go.ChangeAt
open Go.Proofs.YtcbakncjacnnjaaGreat.SA
theorem II (base s:Nat) (ds:List Dc) (w:World) (hs:jc w base s ds) :
 Rt prog 72 [.pointer (some ⟨s,0,none⟩)] w (fun v w'=>(∃ A' c',v=.slice A' ds.length c'∧w'.ownsRow w.heap.size 37 2 (.slice A' ds.length c') ds.length (ds.flatMap dV))∧aj w w'):=by
 obtain ⟨hb0,x,bd,a,B,F,A,c,hI,hf,hb,ho,hO,hD⟩:=hs;have hDl:=hD.1;have hrD:=(cL.own bI (by decide) ho).2;refine enter (n:=8) Tryz.func72 rfl rfl rfl (ag (aa (ass rfl (ah (ab (ag (aa (mvp rfl (ae (aw rfl) (ae (ak gx rfl) (ae (aq bK rfl (by exact (hI.from_ aj.rfl_).rd 1 rfl)) ?_)))))))))));refine aA nv (vZ A c ds.length ds _ (hrD.from_ aj.rfl_) rfl (fun h=>by subst h;exact ⟨qi ho,jE ho⟩) (by omega)) ?_;rintro v7 w1 ⟨⟨A7,c7,rfl,ho7⟩,E7⟩;refine ass rfl (ah (ab (ay (bE (v:=.slice _ _ _) rfl rfl (⟨⟨A7,c7,rfl,ho7⟩,(aj.rfl_.next E7)⟩)))))
theorem oI:fz prog 64=some false:=by kernel_rfl
theorem j5:cQ prog 66 1=some 1:=by kernel_rfl
theorem tI:aH prog 69=true:=by kernel_rfl
theorem mi:cQ prog 66 0=some 0:=by kernel_rfl
theorem oJ:fz prog 58=some false:=by kernel_rfl
theorem Ak:aH prog 96=true:=by kernel_rfl
theorem oH:aH prog 74=true:=by kernel_rfl
theorem kY:fz prog 108=some false:=by kernel_rfl
theorem mj:cQ prog 57 0=some 0:=by kernel_rfl
theorem wE:aH prog 73=true:=by kernel_rfl
theorem wF:aH prog 77=true:=by kernel_rfl
theorem Aq:aH prog 72=true:=by kernel_rfl
theorem Ar:aH prog 71=true:=by kernel_rfl
theorem An:aH prog 75=true:=by kernel_rfl
theorem Am:aH prog 76=true:=by kernel_rfl
structure PtIn (w:World) (p:Pt):Prop where
 row:bW Value.string w p.A p.gone
 len:p.gone.length≤100000000
 so:SO p.gone
 seg:kF w p.lo p.hi p.s p.ds
theorem PtIn.from_ {w w':World} {p:Pt} (h:PtIn w p) (hF:aj w w'):PtIn w' p:=⟨h.row.from_ hF,h.len,h.so,h.seg.from_ hF⟩
structure nx (w:World) (g o:Nat) (p:Pt):Prop extends PtIn w p where
 ptr:w.cell? ⟨g,o,none⟩=some (.pointer (some ⟨p.s,0,none⟩))
 sl:w.cell? ⟨g,o+1,none⟩=some (.slice p.A p.gone.length p.c)
theorem nx.from_ {w w':World} {g o:Nat} {p:Pt} (h:nx w g o p) (hF:aj w w'):nx w' g o p:=⟨h.toPtIn.from_ hF,br hF h.ptr,br hF h.sl⟩
theorem nx.box {w:World} {b t:Nat} {p:Pt} (h:PtIn w p) (hk:Blk w b t (ptV p).toArray):nx w b 0 p:=⟨h,hk.rd 0 rfl,hk.rd 1 rfl⟩
theorem sn {w:World} {base e n c:Nat} {A:Option Addr} {ss:List ByteArray} (h:w.ownsRow base e 1 (.slice A n c) n (ss.map Value.string)):bW Value.string w A ss:=(bW.own h).2
theorem ShH.ptIn {w:World} {ps:List Pt} {L D:List Dc} {s cp cl:Nat} {Ap Al:Option Addr} (h:ShH w ps L s Ap cp Al cl) (hG:ShG ps L D) {p:Pt} (hp:p∈ps):PtIn w p:=by
 have h2:=(hG.part _ hp).2.1;have h3:=(h.seg _ hp).at.docs.2.1;exact ⟨sn (h.gone _ hp),by omega,(hG.part _ hp).1,h.seg _ hp⟩
theorem sA {w:World} {base m c g:Nat} {ps:List Pt} (h:w.ownsRow base 66 2 (.slice (some ⟨g,0,none⟩) m c) m (ps.flatMap ptV)) (hP:∀ p∈ps,PtIn w p) {i:Nat} (hi:i<ps.length):nx w g (0+i*2) ps[i]:=by
 obtain ⟨hl,hr⟩:=cL.own kO (by decide) h;obtain ⟨b,o,e,hc⟩:=hr (by omega);cases e;have h1:=hc i hi;exact ⟨hP _ (List.getElem_mem hi),h1 0 _ rfl,h1 1 _ rfl⟩
def zF (p:Pt) (id:ByteArray):Prop:=∃ d∈p.live,d.1=id
theorem lS (A:Option Addr) (c n:Nat) (ds:List Dc) (w:World) (hr:cL 2 dV w A ds) (hn:n=ds.length) (hl:n≤100000000) (hz:dsz ds≤1000000000000) :
 Rt prog 51 [.slice A n c] w (fun v w'=>v=.int .i64 (dsz ds:Nat)∧aj w w'):=by
 refine enter (n:=19) Tryz.func51 rfl rfl rfl (ag (aa (asi rfl (ah (ab (ag (aa (asi rfl (ah (ab (ag (ag (aa (mvs rfl (ae (aS bx rfl) (mvi rfl ?_))))))))))))))));refine ah (ab (az (bg (G:=Nat) [5,9,10,11,12,13,14,15,16,17] (fun i=>[(3,.int .i64 (dsz (ds.take i):Nat)),(8,.int .i64 (i:Nat))]) (fun i w'=>i≤ds.length∧aj w w') (fun i=>ds.length-i) (0) ⟨rfl,rfl,trivial⟩ ?_ ?_)))
 ·exact ⟨Nat.zero_le _,aj.rfl_⟩
 rintro i ρ1 w1 ⟨hi,hB⟩;refine ag (aa (ae (aX rfl rfl) (ah (ab (ag (Li rfl (fun Q2=>?_) (fun Q2=>?_)))))))
 ·obtain ⟨bd,od,rfl,hcd⟩:=hr (by omega);have hil:i<ds.length:=by omega
  have hce:=hcd i hil;obtain ⟨d,hd⟩:∃ d,ds[i]=d:=⟨_,rfl⟩;have hdi:ds.getD i dd=d:=by rw [bM hil,hd]
  rw [hd] at hce;have hdz:=iL hil;rw [hdi] at hdz;have hdz2:=tf (ds:=ds) (i+1);refine au (ab (ag (az (ag (aa (ae (aG aO rfl rfl (by omega)) (ae (bw (cs:=[_,_]) bO bq rfl (by exact c0 hB hce)) ?_)))))));refine dN kj ?_;intro b5 w3 E5 hb5 hk5;have hg5:w.heap.size≤b5:=by rw [hb5];exact (hB).size
  refine fZ (vs:=[_,_]) bq rfl rfl (by simp [Value.oneCell']) (hk5) rfl ?_;intro w4 O4 P4;refine ah (ab (aa (mvi rfl (ae (ak cf rfl) (ae (aq bf rfl (by exact (P4.from_ aj.rfl_).rd 1 rfl)) ?_)))));refine ae (cJ (by kernel_rfl) rfl) (ae (aJ rfl rfl (by omega)) (asi rfl (ah (aN (ab (aa (ae (aJ (b:=1) rfl rfl (by omega)) (mvi rfl (ah ?_)))))))));refine aR (i+1) ⟨(aM (by rw [iL hil,hdi])),rfl,trivial⟩ (by (iterate 24 refine aF rfl ?_);exact aK) ⟨?_,?_⟩
  ·exact ⟨by omega,((hB.next E5).only O4 (hg5))⟩
  ·show ds.length-(i+1)<ds.length-i;omega
 refine aZ (aD (aD (aU (ab (ag (aa (mvi rfl (asi rfl (ah (ab (ay (bE (v:=.int _ _) rfl rfl ?_))))))))))));obtain rfl:i=ds.length:=by omega
 rw [List.take_length];exact ⟨rfl,hB⟩
theorem rX (id:ByteArray) (w:World) (hs:id.size≤140737488351232) :
 Rt prog 34 [.string id] w (fun v w'=>v=.bool (decide (1≤id.size∧id.size≤64))∧aj w w'):=by
 refine enter (n:=11) Tryz.func34 rfl rfl rfl (ag (aa (asb rfl (ah (ab (ag (aa (mvg rfl (ae (cJ (by kernel_rfl) rfl) (ae (ek rfl rfl) (mvb rfl (KL (t:=6) rfl (fun Q1=>?_) (fun Q1=>?_)))))))))))))
 ·refine an rfl (mvg rfl (an rfl (ae (cJ (by kernel_rfl) rfl) (an rfl (ae (qd rfl rfl) (ae (bc (v:=.bool _) rfl rfl) (asb rfl (ah (ab (ay ?_))))))))));refine bE (v:=.bool _) rfl rfl (⟨congrArg Value.bool ?_,aj.rfl_⟩)
  first
   |(rw [Bool.eq_iff_iff];simp;omega)
   |(symm;rw [decide_eq_false_iff_not];omega)
 refine aB rfl rfl (aB rfl rfl (aB rfl rfl (ae (aQ (v:=.bool _) rfl rfl) (asb rfl (ah (ab (ay (bE (v:=.bool _) rfl rfl (⟨congrArg Value.bool ?_,aj.rfl_⟩)))))))))
 first
  |(rw [Bool.eq_iff_iff];simp;omega)
  |(symm;rw [decide_eq_false_iff_not];omega)
theorem qz (g o:Nat) (p:Pt) (w:World) (h:nx w g o p) (id:ByteArray) :
 Rt prog 74 [.pointer (some ⟨g,o,none⟩),.string id] w (fun v w'=>v=.bool (ri id p.gone)∧aj w w'):=by
 refine enter (n:=17) Tryz.func74 rfl rfl rfl (ag (aa (asb rfl (ah (ab (ag (aa (mvp rfl (ae (aw rfl) (ae (ak j5 rfl) (ae (aq oI rfl (by exact br aj.rfl_ h.sl)) ?_)))))))))));refine mvg rfl (aA tI (A0 p.A p.c p.gone.length p.gone _ (h.row.from_ aj.rfl_) rfl h.len id h.so) ?_);rintro v13 w1 ⟨⟨i,fd,rfl,hi,h1,h2,h3⟩,E13⟩;obtain rfl:=Dd h.so h1 h2 h3;refine mvt rfl (ae (ax rfl rfl) (ae (ax rfl rfl) (asi rfl (asb rfl (ah (ab (ag (aa (mvb rfl (asb rfl (ah (ab (ay ?_)))))))))))));refine bE (v:=.bool _) rfl rfl (⟨rfl,(aj.rfl_.next E13)⟩)
theorem Ke (g o:Nat) (p:Pt) (w:World) (h:nx w g o p) (id:ByteArray) :
 Rt prog 68 [.pointer (some ⟨g,o,none⟩),.string id] w (fun v w'=>(∃ b:Bool,v=.bool b∧(b=true↔zF p id))∧aj w w'):=by
 refine enter (n:=24) Tryz.func68 rfl rfl rfl (ag (aa (asb rfl (ah (ab (ag (aa (mvp rfl (ae (aw rfl) (ae (ak mi rfl) (ae (aq oJ rfl (by exact br aj.rfl_ h.ptr)) ?_)))))))))));refine mvg rfl (aA Ak (Kr p.lo p.s p.ds _ (h.seg.at.from_ aj.rfl_) id) ?_);rintro v13 w1 ⟨hd13,E13⟩;rcases hd13 with ⟨i0,hi0,hid0,rfl⟩ | ⟨hno,rfl⟩
 ·refine mvt rfl (ae (ax rfl rfl) (ae (ax rfl rfl) (asg rfl (asi rfl (ah (ab (ag (aa (mvi rfl (ae (cF rfl rfl) (mvb rfl ?_)))))))))));refine KL (t:=18) rfl (fun Q2=>?_) (fun Q2=>?_);rotate_left
  ·exfalso;omega
  refine an rfl (mvp rfl (an rfl (mvg rfl (an rfl (aA oH (qz g o p _ (h.from_ (aj.rfl_.next E13)) id) ?_)))));rintro v21 w3 ⟨rfl,E21⟩;refine an rfl (ae (dZ rfl) (ae (bc (v:=.bool _) rfl rfl) (asb rfl (ah (ab (ay (bE (v:=.bool _) rfl rfl ?_)))))))
  first
   |exact ⟨⟨_,rfl,⟨fun hq=>⟨p.ds[i0],ov.2 ⟨List.getElem_mem hi0,by rw [←bM hi0,hid0];exact kR.1 hq⟩,by rw [←bM hi0,hid0]⟩,fun ⟨d,hd,e⟩=>kR.2 (e ▸ (ov.1 hd).2)⟩⟩,((aj.rfl_.next E13).next E21)⟩
   |exact ⟨⟨_,rfl,⟨fun hq=>(by cases hq),fun ⟨d,hd,e⟩=>by obtain ⟨j,hj,rfl⟩:=List.getElem_of_mem (ov.1 hd).1;exact absurd (by rw [bM hj];exact e) (hno j hj)⟩⟩,((aj.rfl_.next E13).next E21)⟩
 refine mvt rfl (ae (ax rfl rfl) (ae (ax rfl rfl) (asg rfl (asi rfl (ah (ab (ag (aa (mvi rfl (ae (cF rfl rfl) (mvb rfl ?_)))))))))));refine KL (t:=18) rfl (fun Q4=>?_) (fun Q4=>?_)
 ·exfalso;omega
 refine aB rfl rfl (aB rfl rfl (aB rfl rfl (aB rfl rfl (ae (aQ (v:=.bool _) rfl rfl) (asb rfl (ah (ab (ay (bE (v:=.bool _) rfl rfl ?_)))))))))
 first
  |exact ⟨⟨_,rfl,⟨fun hq=>⟨p.ds[i0],ov.2 ⟨List.getElem_mem hi0,by rw [←bM hi0,hid0];exact kR.1 hq⟩,by rw [←bM hi0,hid0]⟩,fun ⟨d,hd,e⟩=>kR.2 (e ▸ (ov.1 hd).2)⟩⟩,(aj.rfl_.next E13)⟩
  |exact ⟨⟨_,rfl,⟨fun hq=>(by cases hq),fun ⟨d,hd,e⟩=>by obtain ⟨j,hj,rfl⟩:=List.getElem_of_mem (ov.1 hd).1;exact absurd (by rw [bM hj];exact e) (hno j hj)⟩⟩,(aj.rfl_.next E13)⟩
theorem FF (g o:Nat) (p:Pt) (w:World) (h:nx w g o p) (b:Nat) (hb:Blk w b 108 #[.pointer (some ⟨g,o,none⟩)]) (d:Dc) :
 Rt prog 73 [.agg (dV d).toArray,.pointer (some ⟨b,0,none⟩)] w (fun v w'=>v=.bool (ri d.1 p.gone)∧aj w w'):=by
 refine enter (n:=8) Tryz.func73 rfl rfl rfl (ag (aa (cW (v:=.agg _) rfl ?_)));intro b2 w1 E2 hb2 hk2;refine asb rfl (ah (ab (ag (aa (ae (aq kY rfl (by exact (hb.from_ (aj.rfl_.next E2)).rd 0 rfl)) ?_)))));refine ae (ak aW rfl) (ae (aq bf rfl (by exact hk2.rd 0 rfl)) ?_);refine aA oH (qz g o p _ (h.from_ (aj.rfl_.next E2)) d.1) ?_;rintro v7 w2 ⟨rfl,E7⟩;refine asb rfl (ah (ab (ay (bE (v:=.bool _) rfl rfl (⟨rfl,((aj.rfl_.next E2).next E7)⟩)))))
theorem FU (g o:Nat) (p:Pt) (w:World) (h:nx w g o p) (b:Nat) (hb:Blk w b 108 #[.pointer (some ⟨g,o,none⟩)]) (d:Ht) :
 Rt prog 77 [.agg (hV d).toArray,.pointer (some ⟨b,0,none⟩)] w (fun v w'=>v=.bool (ri d.1 p.gone)∧aj w w'):=by
 refine enter (n:=8) Tryz.func77 rfl rfl rfl (ag (aa (cW (v:=.agg _) rfl ?_)));intro b2 w1 E2 hb2 hk2;refine asb rfl (ah (ab (ag (aa (ae (aq kY rfl (by exact (hb.from_ (aj.rfl_.next E2)).rd 0 rfl)) ?_)))));refine ae (ak mj rfl) (ae (aq bf rfl (by exact hk2.rd 0 rfl)) ?_);refine aA oH (qz g o p _ (h.from_ (aj.rfl_.next E2)) d.1) ?_;rintro v7 w2 ⟨rfl,E7⟩;refine asb rfl (ah (ab (ay (bE (v:=.bool _) rfl rfl (⟨rfl,((aj.rfl_.next E2).next E7)⟩)))))
theorem rM (g o:Nat) (p:Pt) (w:World) (h:nx w g o p) :
 Rt prog 39 [.pointer (some ⟨g,o,none⟩)] w (fun v w'=>(∃ A' c',v=.slice A' p.live.length c'∧w'.ownsRow w.heap.size 37 2 (.slice A' p.live.length c') p.live.length (p.live.flatMap dV))∧aj w w'):=by
 have hdl:=h.seg.at.docs.2.1;refine enter (n:=10) Tryz.func39 rfl rfl rfl (ag (aa (cW (v:=.pointer _) rfl ?_)));intro b1 w1 E1 hb1 hk1;refine ass rfl (ah (ab (ag (aa (ae (aq kY rfl (by exact (hk1.from_ aj.rfl_).rd 0 rfl)) ?_)))));refine ae (aw rfl) (ae (ak mi rfl) (ae (aq oJ rfl (by exact br (aj.rfl_.next E1) h.ptr)) ?_));have hz:=((aj.rfl_.next E1)).size;have hy:=Nat.le_refl (w1).heap.size;refine aA Aq (II p.lo p.s p.ds _ (h.seg.at.from_ (aj.rfl_.next E1))) ?_;rintro v7 w2 ⟨⟨A7,c7,rfl,ho7⟩,E7⟩;refine ae (eR (v':=.func (.func 73) #[] #[.pointer (some ⟨b1,0,none⟩)]) (iu (l1:=[]) (l2:=[.tmp 1])) rfl) (aA Ar (yh 73 [.pointer (some ⟨b1,0,none⟩)] (fun d=>ri d.1 p.gone) wE _ A7 c7 p.ds.length p.ds _ ho7 (by omega) (fun w2 x _ hG=>FF g o p w2 (h.from_ ((((aj.rfl_.next E1).next E7)).grew hG (fun k hk=>Nat.le_trans hz (b_ ho7 k hk).1))) b1 (hk1.from_ (((aj.rfl_.next E7)).grew hG (fun k hk=>Nat.le_trans hy (b_ ho7 k hk).1))) x)) ?_);rintro v9 w3 ⟨⟨A9,c9,m,rfl,hm,ho9⟩,hg9⟩;refine ass rfl (ah (ab (ay (bE (v:=.slice _ _ _) rfl rfl ?_))));subst hm;exact ⟨⟨A9,c9,rfl,fu ho9 hz⟩,((((aj.rfl_.next E1).next E7)).grew hg9 (fun k hk=>Nat.le_trans hz (b_ ho7 k hk).1))⟩
theorem Is (g o:Nat) (p:Pt) (w:World) (h:nx w g o p) (q:ByteArray) (hq:q.size≤140737488351232) (hqe:ou q=0) :
 Rt prog 41 [.pointer (some ⟨g,o,none⟩),.string q] w (fun v w'=>(∃ A' c',v=.tuple #[.slice A' (dg p.live q).length c',.int .i64 0]∧w'.ownsRow w.heap.size 57 2 (.slice A' (dg p.live q).length c') (dg p.live q).length ((dg p.live q).flatMap hV))∧aj w w'):=by
 have hdl:=h.seg.at.docs.2.1;have hdt:=h.seg.at.docs.2.2.2;have hhl:=rN (p:=q) p.ds;have hsg:lX p.ds q=dg p.ds q:=by unfold lX;rw [if_pos hqe]
 refine enter (n:=21) Tryz.func41 rfl rfl rfl (ag (aa (cW (v:=.pointer _) rfl ?_)));intro b2 w1 E2 hb2 hk2;refine ass rfl (asi rfl (ah (ab (ag (aa (ae (aq kY rfl (by exact (hk2.from_ aj.rfl_).rd 0 rfl)) ?_))))));refine ae (aw rfl) (ae (ak mi rfl) (ae (aq oJ rfl (by exact br (aj.rfl_.next E2) h.ptr)) ?_));refine mvg rfl ?_;have hz:=((aj.rfl_.next E2)).size;have hy:=Nat.le_refl (w1).heap.size;refine aA An (pZ p.lo p.s p.ds _ (h.seg.at.from_ (aj.rfl_.next E2)) q hq) ?_;rintro v14 w2 ⟨⟨A14,c14,rfl,ho14⟩,E14⟩;refine mvt rfl (ae (ax rfl rfl) (ae (ax rfl rfl) (ass rfl (asi rfl (ah (ab (ag (aa (mvs rfl (ae (eR (v':=.func (.func 77) #[] #[.pointer (some ⟨b2,0,none⟩)]) (iu (l1:=[]) (l2:=[.tmp 2])) rfl) (aA Am (yg 77 [.pointer (some ⟨b2,0,none⟩)] (fun x=>ri x.1 p.gone) wF _ A14 c14 (lX p.ds q).length (lX p.ds q) _ ho14 (by rw [hsg];omega) (fun w2 x _ hG=>FU g o p w2 (h.from_ ((((aj.rfl_.next E2).next E14)).grew hG (fun k hk=>Nat.le_trans hz (b_ ho14 k hk).1))) b2 (hk2.from_ (((aj.rfl_.next E14)).grew hG (fun k hk=>Nat.le_trans hy (b_ ho14 k hk).1))) x)) ?_)))))))))));rintro v19 w3 ⟨⟨A19,c19,m,rfl,hm,ho19⟩,hg19⟩;refine mvi rfl (ass rfl (asi rfl (ah (ab (ay (cY (v:=.slice _ _ _) (v':=.int _ _) rfl rfl rfl ?_))))));rw [hsg,BJ] at hm ho19;subst hm;rw [hqe];exact ⟨⟨A19,c19,rfl,fu ho19 hz⟩,((((aj.rfl_.next E2).next E14)).grew hg19 (fun k hk=>Nat.le_trans hz (b_ ho14 k hk).1))⟩
end Go.Proofs.YtcbakncjacnnjaaGreat
namespace Go.Proofs.YtcbakncjacnnjaaGreat
open Go.Proofs.Tryz (prog)
open Go.RowKit Go.ChangeShapes Go.WideShapes Go.ChangeAt
open Go.Proofs.YtcbakncjacnnjaaGreat.SA
def Pz:Pt:=⟨0,0,0,[],none,0,[]⟩
theorem Chg.only {U:Nat→Prop} {w w1 w2:World} {g:Nat} (h:Chg U w w1) (ho:de g w1 w2) (hg:U g):Chg U w w2:=h.next (ho.toChg hg)
theorem vK {U:Nat→Prop} {w w':World} {ps ps':List Pt} {L':List Dc} {s cp' cl':Nat} {Ap Al Ap' Al':Option Addr} (h':ShH w' ps' L' s Ap' cp' Al' cl') (hU:∀ k,qN s Ap Al ps k→U k) (hA:∀ k,Ap'.map (·.block)=some k→Ap.map (·.block)=some k∨w.heap.size≤k) (hL:∀ k,Al'.map (·.block)=some k→Al.map (·.block)=some k∨w.heap.size≤k)
 (hp:∀ p∈ps',(∃ q∈ps,(∀ k,p.A.map (·.block)=some k→q.A.map (·.block)=some k∨w.heap.size≤k)∧p.lo=q.lo∧p.hi=q.hi)∨(p.A=none∧w.heap.size≤p.lo)):∀ k,qN s Ap' Al' ps' k→Nx U w w' k:=fun k hk=>by
 have hlt:=h'.lt hk
 have key:qN s Ap Al ps k∨w.heap.size≤k:=by
  rcases hk with (e | e | e | ⟨p,h1,e⟩) | ⟨p,h1,e1,e2⟩
  ·exact .inl (.inl (.inl e))
  ·exact (hA k e).imp (fun e=>.inl (.inr (.inl e))) id
  ·exact (hL k e).imp (fun e=>.inl (.inr (.inr (.inl e)))) id
  ·rcases hp p h1 with ⟨q,hq,h2,_⟩ | ⟨h2,_⟩
   ·exact (h2 k e).imp (fun e=>.inl (.inr (.inr (.inr ⟨q,hq,e⟩)))) id
   ·rw [h2] at e;cases e
  ·rcases hp p h1 with ⟨q,hq,_,h3,h4⟩ | ⟨_,h3⟩
   ·exact .inl (.inr ⟨q,hq,h3 ▸ e1,h4 ▸ e2⟩)
   ·exact .inr (Nat.le_trans h3 e1)
 exact key.elim (fun h=>.inl (hU k h)) (fun h=>.inr ⟨h,hlt⟩)
section
variable {U:Nat→Prop} {w W w':World} {ps ps':List Pt} {L L' D D':List Dc} {s cp cl cp' cl':Nat} {Ap Al Ap' Al':Option Addr}
theorem dD.same (h:dD w U s D) (hF:aj w w'):dD w' (Nx U w w') s D∧Chg U w w':=⟨(h.from_ hF).wide fun _ hk _=>.inl hk,hF.toChg⟩
theorem pY (h:ShH w ps L s Ap cp Al cl) (hU:∀ k,qN s Ap Al ps k→U k) (hF:aj w W) (hC:Chg (fun k=>k=s∨Ap.map (·.block)=some k) W w') (hb:Blk w' s 63 #[.slice Ap' ps'.length cp',.slice Al' L'.length cl'])
 (hP:w'.ownsRow 0 66 2 (.slice Ap' ps'.length cp') ps'.length (ps'.flatMap ptV)) (hA:∀ k,Ap'.map (·.block)=some k→Ap.map (·.block)=some k∨W.heap.size≤k)
 (hL:(Al'=Al∧cl'=cl∧L'=L)∨(Al'=none∧cl'=0∧L'=[]))
 (hps:∀ p∈ps',p∈ps∨(p.A=none∧p.c=0∧p.gone=[]∧kF W p.lo p.hi p.s p.ds∧w.heap.size≤p.lo)) (hpw:ps'.Pairwise fun p q=>fp p.A q.A):ShH w' ps' L' s Ap' cp' Al' cl'∧(∀ k,qN s Ap' Al' ps' k→Nx U w w' k)∧Chg U w w':=by
 have hs:=hF.size;have hH:=(h.from_ hF).setParts hC (fun k hk=>hk) hb hP hA hL (fun p hp=>(hps p hp).imp id fun ⟨e1,e2,e3,e4,e5⟩=>⟨e1,e2,e3,e4,fun k h1 h2 hm=>by have:=h.lt (.inl hm);omega⟩) hpw;refine ⟨hH,vK hH hU (fun k hk=>(hA k hk).imp id fun e=>Nat.le_trans hs e) (fun k hk=>?_) (fun p hp=>?_),?_⟩
 ·rcases hL with ⟨e,_⟩ | ⟨e,_⟩
  ·exact .inl (e ▸ hk)
  ·rw [e] at hk;cases hk
 ·rcases hps p hp with e | ⟨e1,_,_,_,e5⟩
  ·exact .inl ⟨p,e,fun k hk=>.inl hk,rfl,rfl⟩
  ·exact .inr ⟨e1,e5⟩
 ·refine hF.toChg.next (hC.wide fun k hk=>.inl ?_);rcases hk with e | e
  ·exact hU k (.inl (.inl e))
  ·exact hU k (.inl (.inr (.inl e)))
theorem o6 (h:ShH w ps L s Ap cp Al cl) (hU:∀ k,qN s Ap Al ps k→U k) (hF:aj w W) (hC:Chg (fun k=>k=s∨Ap.map (·.block)=some k) W w') (hb:Blk w' s 63 #[.slice Ap' ps'.length cp',.slice Al' L'.length cl'])
 (hP:w'.ownsRow 0 66 2 (.slice Ap' ps'.length cp') ps'.length (ps'.flatMap ptV)) (hA:∀ k,Ap'.map (·.block)=some k→Ap.map (·.block)=some k∨W.heap.size≤k)
 (hL:(Al'=Al∧cl'=cl∧L'=L)∨(Al'=none∧cl'=0∧L'=[]))
 (hps:∀ p∈ps',p∈ps∨(p.A=none∧p.c=0∧p.gone=[]∧kF W p.lo p.hi p.s p.ds∧w.heap.size≤p.lo)) (hpw:ps'.Pairwise fun p q=>fp p.A q.A) (hG':ShG ps' L' D'):dD w' (Nx U w w') s D'∧Chg U w w':=
 let ⟨h1,h2,h3⟩:=pY h hU hF hC hb hP hA hL hps hpw
 ⟨⟨ps',L',Ap',cp',Al',cl',hG',h1,h2⟩,h3⟩
theorem xl (h:ShH w ps L s Ap cp Al cl) (hU:∀ k,qN s Ap Al ps k→U k) (hF:aj w W) (hC:Chg (fun k=>k=s∨Al.map (·.block)=some k) W w') (hb:Blk w' s 63 #[.slice Ap ps.length cp,.slice Al' L'.length cl'])
 (hL:w'.ownsRow 0 37 2 (.slice Al' L'.length cl') L'.length (L'.flatMap dV)) (hA:∀ k,Al'.map (·.block)=some k→Al.map (·.block)=some k∨W.heap.size≤k) (hG':ShG ps L' D'):dD w' (Nx U w w') s D'∧Chg U w w':=by
 have hs:=hF.size;have hH:=(h.from_ hF).setLoose hC (fun k hk=>hk) hb hL hA;refine ⟨⟨ps,L',Ap,cp,Al',cl',hG',hH,vK hH hU (fun k hk=>.inl hk) (fun k hk=>(hA k hk).imp id fun e=>Nat.le_trans hs e) (fun p hp=>.inl ⟨p,hp,fun k hk=>.inl hk,rfl,rfl⟩)⟩,?_⟩;refine hF.toChg.next (hC.wide fun k hk=>.inl ?_);rcases hk with e | e
 ·exact hU k (.inl (.inl e))
 ·exact hU k (.inl (.inr (.inr (.inl e))))
theorem dD.then {w2:World} {D2:List Dc} (h1:Chg U w w') (h2:dD w2 (Nx (Nx U w w') w' w2) s D2) (h3:Chg (Nx U w w') w' w2):dD w2 (Nx U w w2) s D2∧Chg U w w2:=
 ⟨h2.wide fun _ hk _=>hk.trans h1.size h3.size,h1.trans h3 fun _ hk=>hk.imp id fun h=>h.1⟩
end
end Go.Proofs.YtcbakncjacnnjaaGreat
namespace Go.Proofs.YtcbakncjacnnjaaGreat
open Go.Proofs.Tryz (prog)
open Go.RowKit
open Go.ChangeShapes Go.WideShapes Go.ChangeAt
open Go.Proofs.YtcbakncjacnnjaaGreat.SA
theorem q7:aH prog 65=true:=by kernel_rfl
theorem eo:cQ prog 63 1=some 1:=by kernel_rfl
theorem DC:fz prog 66=some true:=by kernel_rfl
theorem Dy:dY prog 66=some 2:=by kernel_rfl
theorem DA:aH prog 68=true:=by kernel_rfl
theorem yH:aH prog 67=true:=by kernel_rfl
theorem cz:cQ prog 63 0=some 0:=by kernel_rfl
theorem dX:fz prog 61=some false:=by kernel_rfl
theorem DB:aH prog 66=true:=by kernel_rfl
theorem qL:aH prog 31=true:=by kernel_rfl
theorem tJ:prog.built 63 []=some #[.slice none 0 0,.slice none 0 0]:=by kernel_rfl
theorem kZ:∀ (a0:Option Addr),prog.built 66 [(0,.pointer a0)]=some #[.pointer a0,.slice none 0 0]:=by intros;kernel_rfl
theorem jr:dY prog 61=some 1:=by kernel_rfl
theorem nN:dY prog 22=some 1:=by kernel_rfl
theorem iW.cmp {ds:List Dc} (h:SD ds) {i j:Nat} (hij:i<j) (hj:j<ds.length):sLt (ds.getD i dd).1 (ds.getD j dd).1:=by
 rw [bM (Nat.lt_trans hij hj),bM hj];exact List.pairwise_iff_getElem.1 h i j _ hj hij
theorem kF.ex {w:World} {N lo s:Nat} {ds:List Dc} (h:jc w lo s ds) (hN:N≤lo):∃ lo hi,N≤lo∧hi=w.heap.size∧kF w lo hi s ds:=⟨_,_,hN,rfl,kF.of h⟩
theorem ph {w:World} {base e s n c:Nat} {A:Option Addr} {xs:List Value} (h:w.ownsRow base e s (.slice A n c) n xs):A=none→n=0∧c=0:=fun hA=>by subst hA;exact ⟨qi h,jE h⟩
theorem HM {w:World} {g lo hi s0:Nat} {ds:List Dc} (h:Blk w g 66 #[.pointer (some ⟨s0,0,none⟩),.slice none 0 0]):w.ownsRow 0 66 2 (.slice (some ⟨g,0,none⟩) 1 1) 1 ([Pt.of lo hi s0 ds].flatMap ptV):=ic (cur:=[.pointer (some ⟨s0,0,none⟩),.slice none 0 0]) (Nat.zero_le _) h (Nat.le_refl _) (by decide) rfl rfl
theorem x8 (a b id:ByteArray) (w:World) :
 Rt prog 65 [.agg #[.string a,.string b],.string id] w (fun v w'=>v=.int .i64 (jG a id)∧aj w w'):=by
 refine enter (n:=9) Tryz.func65 rfl rfl rfl (ag (aa (cW (v:=.agg _) rfl ?_)));intro b2 w1 E2 hb2 hk2;refine asi rfl (ah (ab (ag (aa (ae (ak aW rfl) (ae (aq bf rfl (by exact hk2.rd 0 rfl)) ?_))))));refine mvg rfl (aA iT (ti a id _) ?_);rintro v8 w2 ⟨rfl,rfl⟩;refine asi rfl (ah (ab (ay (bE (v:=.int _ _) rfl rfl (⟨rfl,(aj.rfl_.next E2)⟩)))))
theorem zN (A:Option Addr) (c n:Nat) (ds:List Dc) (w:World) (hr:cL 2 dV w A ds) (hn:n=ds.length) (hl:n≤100000000) (id:ByteArray) (hO:SD ds) :
 Rt prog 64 [.slice A n c,.string id,.func (.func 65) #[] #[]] w (fun v w'=>(∃ (i:Nat) (fd:Bool),v=.tuple #[.int .i64 (i:Nat),.bool fd]∧i≤n∧(∀ x,x<i→sLt (ds.getD x dd).1 id)∧(∀ x,i≤x→x<n→¬ sLt (ds.getD x dd).1 id)∧(fd=true↔i<n∧(ds.getD i dd).1=id))∧aj w w'):=by
 refine enter (n:=49) Tryz.func64 rfl rfl rfl (ag (aa (asi rfl (asb rfl (ah (ab (ag (aa (mvs rfl (ae (aS bx rfl) (asi rfl (ah (ab (ag (aa ?_)))))))))))))));refine mvi rfl (asi rfl (asi rfl (ah (ab (ag (az (bg (G:=Nat×Nat) [11,15,16,17,18,19,20,21,22,23,24,25,26,27,28,29,30,31,32,33,34] (fun (i,j)=>[(9,.int .i64 (i:Nat)),(10,.int .i64 (j:Nat))]) (fun (i,j) w'=>i≤j∧j≤n∧(∀ x,x<i→sLt (ds.getD x dd).1 id)∧(∀ x,j≤x→x<n→¬ sLt (ds.getD x dd).1 id)∧aj w w') (fun (i,j)=>j-i) ((0,n)) ⟨rfl,rfl,trivial⟩ ?_ ?_)))))))
 ·exact ⟨Nat.zero_le _,Nat.le_refl _,fun x h=>absurd h (by omega),fun x h1 h2=>absurd h1 (by omega),aj.rfl_⟩
 rintro ⟨i,j⟩ ρ1 w1 ⟨hij,hjn,hlo,hhi,hB⟩;refine ag (ag (aa (mvi rfl (mvi rfl (ae (aX rfl rfl) (ah (ab (Li rfl (fun Q2=>?_) (fun Q2=>?_)))))))))
 ·obtain ⟨bd,od,rfl,hcd⟩:=hr (by omega);refine au (ab (az (ag (aa (mvi rfl (mvi rfl (ae (aJ rfl rfl (by omega)) ?_)))))));obtain ⟨h,hh⟩:∃ h,h=(i+j)/2 ^ 1:=⟨_,rfl⟩;refine ae (fq eE fw rfl (by omega)) (ae (e_ (b:=1) rfl rfl (by decide)) (ae (eD gG eW rfl (by omega)) (dE (t:=23) (v:=.int _ _) (v':=.int .i64 (h:Nat)) rfl (by rw [hh]) ?_)));refine asi rfl (ah (ab (ag (aa (ae (ar (v:=.func _ _ _) rfl) (mvs rfl (mvi rfl (ae (aG aO rfl rfl (by omega)) ?_))))))));refine ae (bw (cs:=[_,_]) bO bq rfl (by have h2:=hcd h (by omega);rw [←bM (show h<ds.length by omega)] at h2;exact c0 hB h2)) ?_;refine mvg rfl (fQ (caps:=[]) rfl q7 (x8 (ds.getD h dd).1 (ds.getD h dd).2 id _) ?_);rintro v3 w3 ⟨rfl,E30⟩;refine ae (aX rfl rfl) (ah (ab (Li rfl (fun Q4=>?_) (fun Q4=>?_))))
  ·have hlt:sLt (ds.getD h dd).1 id:=kU.1 (by omega);refine aa (mvi rfl (ae (aJ (b:=1) rfl rfl (by omega)) (asi rfl (ah (aN ?_)))));refine aR ((h+1,j)) ⟨(by first | rfl | (refine aM ?_;omega)),(by first | rfl | (refine aM ?_;omega)),trivial⟩ (by (iterate 45 refine aF rfl ?_);exact aK) ⟨?_,?_⟩
   ·exact ⟨by omega,hjn,fun x hx=>by
     rcases Nat.eq_or_lt_of_le (Nat.le_of_lt_succ hx) with e | e
     ·subst e;exact hlt
     ·exact ep (iW.cmp hO e (by omega)) hlt,hhi,(hB.next E30)⟩
   ·show j-(h+1)<j-i;omega
  have hnl:¬ sLt (ds.getD h dd).1 id:=fun h9=>by have:=kU.2 h9;omega
  refine aa (mvi rfl (asi rfl (ah (aN ?_))));refine aR ((i,h)) ⟨(by first | rfl | (refine aM ?_;omega)),(by first | rfl | (refine aM ?_;omega)),trivial⟩ (by (iterate 44 refine aF rfl ?_);exact aK) ⟨?_,?_⟩
  ·exact ⟨by omega,by omega,hlo,fun x h1 h2=>by
    rcases Nat.eq_or_lt_of_le h1 with e | e
    ·subst e;exact hnl
    ·exact fun h9=>hnl (ep (iW.cmp hO e (by omega)) h9),(hB.next E30)⟩
  ·show h-i<j-i;omega
 refine aZ (aD (aD (aU (ab (ag (aa (mvi rfl (mvi rfl (mvi rfl (ae (aX rfl rfl) (mvb rfl (KL (t:=39) rfl (fun Q5=>?_) (fun Q5=>?_)))))))))))))
 ·obtain ⟨bd,od,rfl,hcd⟩:=hr (by omega);refine an rfl (ae (ar (v:=.func _ _ _) rfl) (an rfl (mvs rfl (an rfl (mvi rfl (an rfl (ae (aG aO rfl rfl (by omega)) (an rfl ?_))))))));refine ae (bw (cs:=[_,_]) bO bq rfl (by have h2:=hcd i (by omega);rw [←bM (show i<ds.length by omega)] at h2;exact c0 hB h2)) ?_;refine an rfl (mvg rfl (an rfl (fQ (caps:=[]) rfl q7 (x8 (ds.getD i dd).1 (ds.getD i dd).2 id _) ?_)));rintro v6 w6 ⟨rfl,E46⟩;refine an rfl (ae (cF rfl rfl) (ae (bc (v:=.bool _) rfl rfl) (asi rfl (asb rfl (ah (ab (ay (cY (v:=.int _ _) (v':=.bool _) rfl rfl rfl ?_))))))));obtain rfl:i=j:=by omega
  refine ⟨⟨i,_,rfl,hjn,hlo,hhi,?_⟩,(hB.next E46)⟩
  first
   |(rw [beq_iff_eq,jz];exact ⟨fun h9=>⟨by omega,h9⟩,fun h9=>h9.2⟩)
   |(rw [decide_eq_true_iff,jz];exact ⟨fun h9=>⟨by omega,h9⟩,fun h9=>h9.2⟩)
   |exact ⟨fun h9=>(by cases h9),fun h9=>absurd h9.1 (by omega)⟩
 refine aB rfl rfl (aB rfl rfl (aB rfl rfl (aB rfl rfl (aB rfl rfl (aB rfl rfl (aB rfl rfl (aB rfl rfl (ae (aQ (v:=.bool _) rfl rfl) ?_))))))));refine asi rfl (asb rfl (ah (ab (ay (cY (v:=.int _ _) (v':=.bool _) rfl rfl rfl ?_)))));obtain rfl:i=j:=by omega
 refine ⟨⟨i,_,rfl,hjn,hlo,hhi,?_⟩,hB⟩
 first
  |(rw [beq_iff_eq,jz];exact ⟨fun h9=>⟨by omega,h9⟩,fun h9=>h9.2⟩)
  |(rw [decide_eq_true_iff,jz];exact ⟨fun h9=>⟨by omega,h9⟩,fun h9=>h9.2⟩)
  |exact ⟨fun h9=>(by cases h9),fun h9=>absurd h9.1 (by omega)⟩
theorem BN (ps:List Pt) (L D:List Dc) (s:Nat) (Ap:Option Addr) (cp:Nat) (Al:Option Addr) (cl:Nat) (w:World) (h:ShH w ps L s Ap cp Al cl) (hG:ShG ps L D) (id:ByteArray) :
 Rt prog 35 [.pointer (some ⟨s,0,none⟩),.string id] w (fun v w'=>(∃ (i:Nat) (fd:Bool),v=.tuple #[.int .i64 (i:Nat),.bool fd]∧i≤L.length∧(∀ x,x<i→sLt (L.getD x dd).1 id)∧(∀ x,i≤x→x<L.length→¬ sLt (L.getD x dd).1 id)∧(fd=true↔i<L.length∧(L.getD i dd).1=id))∧aj w w'):=by
 have hll:=hG.loose;refine enter (n:=14) Tryz.func35 rfl rfl rfl (ag (aa (asi rfl (asb rfl (ah (ab (ag (aa (mvp rfl (ae (aw rfl) (ae (ak eo rfl) (ae (aq bK rfl (by exact (h.blk.from_ aj.rfl_).rd 1 rfl)) ?_))))))))))));refine mvg rfl (aA q8 (zN Al cl L.length L _ ((cL.own bI (by decide) h.rowL).2.from_ aj.rfl_) rfl (by omega) id hG.sdL) ?_);rintro v11 w1 ⟨⟨i,fd,rfl,h1,h2,h3,h4⟩,E11⟩;refine ae (ax rfl rfl) (ae (ax rfl rfl) (asi rfl (asb rfl (ah (ab (ay (cY (v:=.int _ _) (v':=.bool _) rfl rfl rfl (⟨⟨i,fd,rfl,h1,h2,h3,h4⟩,(aj.rfl_.next E11)⟩))))))))
theorem C6 (fid:FuncId) (caps:List Value) (p:Pt→Bool) (hcal:aH prog fid=true) (A:Option Addr) (c n:Nat) (l:List Pt) (w:World) (hr:cL 2 ptV w A l) (hn:n=l.length) (hl:n≤100000000) (hp:∀ w' x,x∈l→aj w w'→Rt prog fid (.agg (ptV x).toArray::caps) w' fun v w''=>v=.bool (p x)∧aj w' w'') :
 Rt prog 66 [.slice A n c,.func (.func fid) #[] caps.toArray] w (fun v w'=>((∃ i:Nat,v=.int .i64 (i:Nat)∧i<n∧p (SM.G Pz l i)=true∧∀ k,k<i→p (SM.G Pz l k)=false)∨(v=.int .i64 (-1)∧∀ k,k<n→p (SM.G Pz l k)=false))∧aj w w'):=by
 refine enter (n:=19) Tryz.func66 rfl rfl rfl (ag (aa (asi rfl (ah (ab (ag (ag (aa (mvs rfl (ae (aS dt rfl) (mvi rfl (ah (ab (az (bg (G:=Nat) [4,5,9,10,11,12,13,14,15,16,17,18] (fun i=>[(8,.int .i64 (i:Nat))]) (fun i w'=>i≤n∧(∀ k,k<i→p (SM.G Pz l k)=false)∧aj w w') (fun i=>n-i) (0) ⟨rfl,trivial⟩ ?_ ?_)))))))))))))))
 ·exact ⟨Nat.zero_le _,fun k h=>absurd h (by omega),aj.rfl_⟩
 rintro i ρ1 w1 ⟨hi,hno,hB⟩;refine ag (aa (ae (aX rfl rfl) (ah (ab (ag (Li rfl (fun Q2=>?_) (fun Q2=>?_)))))))
 ·obtain ⟨bd,od,rfl,hcd⟩:=hr (by omega);have hil:i<l.length:=by omega
  have hmem:SM.G Pz l i∈l:=by rw [SM.G_get Pz hil];exact List.getElem_mem hil
  have hce:=hcd i hil;rw [←SM.G_get Pz hil] at hce;refine au (ab (ag (az (ag (aa (mvi rfl (asi rfl (ah (ab (ag (aa (ae (ar (v:=.func _ _ _) rfl) (mvs rfl (mvi rfl (ae (aG cN rfl rfl (by omega)) (ae (bw (cs:=[_,_]) DC Dy rfl (by exact c0 hB hce)) ?_))))))))))))))));refine fQ (l:=[.tmp 15]) (caps:=caps) rfl hcal (hp _ (SM.G Pz l i) hmem hB) ?_;rintro v16 w3 ⟨rfl,E16⟩;refine ah (ab (av rfl (fun Q4=>?_) (fun Q4=>?_)))
  ·refine ag (aa (mvi rfl (asi rfl (ah (ab (ay (bn (aC (aC (bn (aC (bE (v:=.int _ _) rfl rfl (⟨.inl ⟨i,rfl,by omega,by simp_all,hno⟩,(hB.next E16)⟩)))))))))))))
  refine au (aN (ab (aa (ae (aJ (b:=1) rfl rfl (by omega)) (mvi rfl (ah ?_))))));refine aR (i+1) ⟨(by first | rfl | (refine aM ?_;omega)),trivial⟩ (by (iterate 24 refine aF rfl ?_);exact aK) ⟨?_,?_⟩
  ·exact ⟨by omega,fun k hk=>by
    rcases Nat.eq_or_lt_of_le (Nat.le_of_lt_succ hk) with e | e
    ·subst e;simp_all
    ·exact hno k e,(hB.next E16)⟩
  ·show n-(i+1)<n-i;omega
 refine aZ (aD (aD (aU (ab (ag (aa (asi rfl (ah (ab (ay (bE (v:=.int _ _) rfl rfl (⟨.inr ⟨rfl,fun k hk=>hno k (by omega)⟩,hB⟩))))))))))))
theorem Fl (p:Pt) (w:World) (hp:PtIn w p) (id:ByteArray) (b:Nat) (hb:Blk w b 9 #[.string id]) :
 Rt prog 67 [.agg (ptV p).toArray,.pointer (some ⟨b,0,none⟩)] w (fun v w'=>(∃ x:Bool,v=.bool x∧(x=true↔zF p id))∧aj w w'):=by
 refine enter (n:=6) Tryz.func67 rfl rfl rfl (ag (aa (cW (v:=.agg _) rfl ?_)));intro b2 w1 E2 hb2 hk2;refine asb rfl (ah (ab (ag (aa (ae (aq bf rfl (by exact (hb.from_ (aj.rfl_.next E2)).rd 0 rfl)) ?_)))));refine aA DA (Ke b2 0 p _ (nx.box (hp.from_ (aj.rfl_.next E2)) hk2) id) ?_;rintro v5 w2 ⟨⟨x,rfl,hx⟩,E5⟩;refine asb rfl (ah (ab (ay (bE (v:=.bool _) rfl rfl (⟨⟨x,rfl,hx⟩,((aj.rfl_.next E2).next E5)⟩)))))
noncomputable def Kf (id:ByteArray) (p:Pt):Bool:=@decide (zF p id) (Classical.propDecidable _)
theorem mY {id:ByteArray} {p:Pt}:Kf id p=true↔zF p id:=by unfold Kf;exact @decide_eq_true_iff _ (Classical.propDecidable _)
theorem uN (ps:List Pt) (L D:List Dc) (s:Nat) (Ap:Option Addr) (cp:Nat) (Al:Option Addr) (cl:Nat) (w:World) (h:ShH w ps L s Ap cp Al cl) (hG:ShG ps L D) (id:ByteArray) :
 Rt prog 37 [.pointer (some ⟨s,0,none⟩),.string id] w (fun v w'=>((∃ i:Nat,v=.int .i64 (i:Nat)∧∃ hi:i<ps.length,zF ps[i] id)∨(v=.int .i64 (-1)∧∀ p∈ps,¬ zF p id))∧aj w w'):=by
 have hll:=hG.parts;refine enter (n:=11) Tryz.func37 rfl rfl rfl (ag (aa (cW (v:=.string _) rfl ?_)));intro b3 w1 E3 hb3 hk3;refine asi rfl (ah (ab (ag (aa (mvp rfl (ae (aw rfl) (ae (ak cz rfl) (ae (aq dX rfl (by exact (h.blk.from_ (aj.rfl_.next E3)).rd 0 rfl)) ?_))))))));refine ae (eR (v':=.func (.func 67) #[] #[.pointer (some ⟨b3,0,none⟩)]) (iu (l1:=[]) (l2:=[.tmp 3])) rfl) ?_;refine aA DB (C6 67 [.pointer (some ⟨b3,0,none⟩)] (Kf id) yH Ap cp ps.length ps _ ((cL.own kO (by decide) h.rowP).2.from_ (aj.rfl_.next E3)) rfl (by omega) (fun w2 x hx hF=>(Fl x w2 ((h.ptIn hG hx).from_ (((aj.rfl_.next E3)).next hF)) id b3 (hk3.from_ ((aj.rfl_).next hF))).mono (fun v w3 hv=>by obtain ⟨⟨y,rfl,hy⟩,hF2⟩:=hv;exact ⟨congrArg Value.bool (by rw [Bool.eq_iff_iff,hy,mY]),hF2⟩))) ?_;rintro v10 w2 ⟨hi10,E10⟩;rcases hi10 with ⟨i,rfl,hi,hp,_⟩ | ⟨rfl,hno⟩
 ·refine asi rfl (ah (ab (ay (bE (v:=.int _ _) rfl rfl (⟨?_,((aj.rfl_.next E3).next E10)⟩)))))
  first
   |exact .inl ⟨i,rfl,hi,by rw [SM.G_get Pz hi] at hp;exact mY.1 hp⟩
   |exact .inr ⟨rfl,fun p hp hq=>by
     obtain ⟨i,hi,rfl⟩:=List.getElem_of_mem hp;have:=hno i hi;rw [SM.G_get Pz hi,mY.2 hq] at this;cases this⟩
 refine asi rfl (ah (ab (ay (bE (v:=.int _ _) rfl rfl (⟨?_,((aj.rfl_.next E3).next E10)⟩)))))
 first
  |exact .inl ⟨i,rfl,hi,by rw [SM.G_get Pz hi] at hp;exact mY.1 hp⟩
  |exact .inr ⟨rfl,fun p hp hq=>by
    obtain ⟨i,hi,rfl⟩:=List.getElem_of_mem hp;have:=hno i hi;rw [SM.G_get Pz hi,mY.2 hq] at this;cases this⟩
theorem rF {w:World} {s:Nat} {ds:List Dc} {N:Nat} (hk:Blk w s 63 #[.slice none 0 0,.slice none 0 0]) (h0:ds.length=0) (hs:N≤s):dD w (fun k=>N≤k) s ds:=by
 obtain rfl:=List.eq_nil_of_length_eq_zero h0;refine ⟨[],[],none,0,none,0,ShG.new0,⟨hk,World.ownsRow_nil _ _ _ _,World.ownsRow_nil _ _ _ _,fun p hp=>(by cases hp),List.Pairwise.nil,fun p hp=>(by cases hp),fun p hp=>(by cases hp)⟩,fun k hk=>?_⟩;rcases hk with (e | e | e | ⟨p,hp,_⟩) | ⟨p,hp,_⟩
 ·show N≤k;omega
 ·cases e
 ·cases e
 ·cases hp
 ·cases hp
theorem rD {w:World} {s lo hi s0 g:Nat} {ds:List Dc} {N:Nat} (hk:Blk w s 63 #[.slice (some ⟨g,0,none⟩) 1 1,.slice none 0 0]) (hg:Blk w g 66 #[.pointer (some ⟨s0,0,none⟩),.slice none 0 0]) (hsg:kF w lo hi s0 ds) (h0:0<ds.length) (h1:N≤lo) (h2:hi≤s) (h3:hi≤g) (h4:N≤s) (h5:N≤g) (ho:iW ds) (hf:jJ ds):dD w (fun k=>N≤k) s ds:=by
 refine ⟨[Pt.of lo hi s0 ds],[],some ⟨g,0,none⟩,1,none,0,ShG.new1 lo hi s0 ho hf (fun e=>by rw [e] at h0;cases h0),⟨hk,HM hg,World.ownsRow_nil _ _ _ _,fun p hp=>?_,List.pairwise_singleton ..,fun p hp=>?_,fun p hp k k1 k2 hm=>?_⟩,fun k hk=>?_⟩
 ·rw [List.mem_singleton.1 hp];exact World.ownsRow_nil _ _ _ _
 ·rw [List.mem_singleton.1 hp];exact hsg
 ·rw [List.mem_singleton.1 hp] at k2;have k3:k<hi:=k2;rcases hm with e | e | e | ⟨q,hq,e⟩
  ·omega
  ·cases e;have:g<hi:=k3;omega
  ·cases e
  ·rw [List.mem_singleton.1 hq] at e;cases e
 ·show N≤k;rcases hk with (e | e | e | ⟨q,hq,e⟩) | ⟨q,hq,e,_⟩
  ·omega
  ·cases e;exact h5
  ·cases e
  ·rw [List.mem_singleton.1 hq] at e;cases e
  ·rw [List.mem_singleton.1 hq] at e;have:lo≤k:=e;omega
theorem bY (A:Option Addr) (c n:Nat) (ds:List Dc) (w:World) (hr:cL 2 dV w A ds) (hn:n=ds.length) (hl:n≤100000000) (hn0:A=none→n=0∧c=0) :
 Rt prog 12 [.slice A n c] w (fun v w'=>((jm ds≠0∧v=.tuple #[.pointer none,.int .i64 (jm ds)])∨(jm ds=0∧∃ s,v=.tuple #[.pointer (some ⟨s,0,none⟩),.int .i64 0]∧dD w' (fun k=>w.heap.size≤k) s ds))∧aj w w'):=by
 refine enter (n:=27) Tryz.func12 rfl rfl rfl (ag (aa (asp rfl (asi rfl (ah (ab (ag (aa (mvs rfl ?_)))))))));have hz9:w.heap.size≤(w).heap.size:=(aj.rfl_).size;refine aA qL (Fu A c n ds _ (hr.from_ aj.rfl_) hn hl hn0) ?_;rintro v9 w1 ⟨hs9,E9⟩;rcases hs9 with ⟨hck,rfl⟩ | ⟨hck,s0,rfl,hsg⟩
 ·have hb33:(jm ds != 0)=true:=by simpa using hck
  refine mvt rfl (ae (ax rfl rfl) (ae (ax rfl rfl) (asp rfl (asi rfl (ah (ab (ag (ag (aa (mvi rfl (ae (cq rfl rfl) (ah (ab ?_)))))))))))));refine Lf rfl (fun Q2=>?_) (fun Q2=>?_)
  ·refine ag (aa (mvi rfl (asp rfl (asi rfl (ah (ab (ay (aC (cY (v:=.pointer _) (v':=.int _ _) rfl rfl rfl (⟨.inl ⟨hck,rfl⟩,(aj.rfl_.next E9)⟩))))))))))
  first
   |(exfalso; first | (first | omega | (simp [hb33] at *; done); trace "@MK D bY:f9.0.c13- 1") | (contradiction; trace "@MK D bY:f9.0.c13- 2") | ((cases Q2; done); trace "@MK D bY:f9.0.c13- 3"))
   |(trace "@MK D bY:f9.0.c13- 0")
    refine au (ab (ag (aa (ae (du (l:=[]) (tJ)) (cW (v:=.agg _) rfl ?_)))));intro b16 w3 E16 hb16 hk16;have hg16:w.heap.size≤b16:=by rw [hb16];exact ((aj.rfl_.next E9)).size
    have hs16:=E16.size;refine asp rfl (ah (ab (ag (ag (aa (mvs rfl (ae (aS bx rfl) (ae (bU rfl rfl) (ah (ab (av rfl (fun Q4=>?_) (fun Q4=>?_))))))))))))
    ·(try with_reducible first | (replace Q4 := dT_ Q4; trace "@MK N bY:f9.0.c13-.c19+ 1.1") | (replace Q4 := dF_ Q4; trace "@MK N bY:f9.0.c13-.c19+ 1.2") | (replace Q4 := fx Q4; trace "@MK N bY:f9.0.c13-.c19+ 1.3") | (replace Q4 := fy Q4; trace "@MK N bY:f9.0.c13-.c19+ 1.4"))
     (try with_reducible first | (replace Q4 := dT_ Q4; trace "@MK N bY:f9.0.c13-.c19+ 2.1") | (replace Q4 := dF_ Q4; trace "@MK N bY:f9.0.c13-.c19+ 2.2") | (replace Q4 := eG Q4; trace "@MK N bY:f9.0.c13-.c19+ 2.3") | (replace Q4 := eH Q4; trace "@MK N bY:f9.0.c13-.c19+ 2.4") | (replace Q4 := fV Q4; trace "@MK N bY:f9.0.c13-.c19+ 2.5") | (replace Q4 := fW Q4; trace "@MK N bY:f9.0.c13-.c19+ 2.6"))
     first
      |(exfalso; first | (first | omega | (simp [hb33] at *; done); trace "@MK D bY:f9.0.c13-.c19+ 1") | (contradiction; trace "@MK D bY:f9.0.c13-.c19+ 2") | ((cases Q4; done); trace "@MK D bY:f9.0.c13-.c19+ 3"))
      |(trace "@MK D bY:f9.0.c13-.c19+ 0")
       refine aa (mvp rfl (mvp rfl (ae (du (l:=[(0,.tmp 21)]) (kZ _)) (gd fv rfl rfl rfl ?_))));intro b23 w5 E23 hb23 hk23;have hsk2:=hsk.from_ (((aj.rfl_.next E16)).next E23);refine ae (aw rfl) (ae (ak cz rfl) (bZ (v:=.slice _ _ _) jr rfl rfl rfl (hk16.from_ E23) (by show 0<2;decide) ?_));intro w6 O6 P6;refine ah (ab (ag (aa (mvp rfl (asp rfl (asi rfl (ah (ab (ay (cY (v:=.pointer _) (v':=.int _ _) rfl rfl rfl ?_))))))))))
       first
        |exact ⟨.inr ⟨hck,b16,rfl,rF hk16 (by omega) hg16⟩,((((aj.rfl_.next E9).next E16).next E23).only O6 (hg16))⟩
        |exact ⟨.inr ⟨hck,b16,rfl,rD P6 (hk23.only O6 (by have:=hk16.lt;omega)) (hsk2.chg (O6.toChg (U:=fun k=>k=b16) rfl) (fun k _ h2 e=>by have e2:k=b16:=e;omega)) (by omega) hz9 (by omega) (by omega) hg16 (by omega) hord hfit⟩,((((aj.rfl_.next E9).next E16).next E23).only O6 (hg16))⟩
    (try with_reducible first | (replace Q4 := dT_ Q4; trace "@MK N bY:f9.0.c13-.c19- 1.1") | (replace Q4 := dF_ Q4; trace "@MK N bY:f9.0.c13-.c19- 1.2") | (replace Q4 := fx Q4; trace "@MK N bY:f9.0.c13-.c19- 1.3") | (replace Q4 := fy Q4; trace "@MK N bY:f9.0.c13-.c19- 1.4"))
    (try with_reducible first | (replace Q4 := dT_ Q4; trace "@MK N bY:f9.0.c13-.c19- 2.1") | (replace Q4 := dF_ Q4; trace "@MK N bY:f9.0.c13-.c19- 2.2") | (replace Q4 := eG Q4; trace "@MK N bY:f9.0.c13-.c19- 2.3") | (replace Q4 := eH Q4; trace "@MK N bY:f9.0.c13-.c19- 2.4") | (replace Q4 := fV Q4; trace "@MK N bY:f9.0.c13-.c19- 2.5") | (replace Q4 := fW Q4; trace "@MK N bY:f9.0.c13-.c19- 2.6"))
    first
     |(exfalso; first | (first | omega | (simp [hb33] at *; done); trace "@MK D bY:f9.0.c13-.c19- 1") | (contradiction; trace "@MK D bY:f9.0.c13-.c19- 2") | ((cases Q4; done); trace "@MK D bY:f9.0.c13-.c19- 3"))
     |(trace "@MK D bY:f9.0.c13-.c19- 0")
      refine au (ab (ag (aa (mvp rfl (asp rfl (asi rfl (ah (ab (ay (cY (v:=.pointer _) (v':=.int _ _) rfl rfl rfl ?_))))))))))
      first
       |exact ⟨.inr ⟨hck,b16,rfl,rF hk16 (by omega) hg16⟩,((aj.rfl_.next E9).next E16)⟩
       |exact ⟨.inr ⟨hck,b16,rfl,rD P6 (hk23.only O6 (by have:=hk16.lt;omega)) (hsk2.chg (O6.toChg (U:=fun k=>k=b16) rfl) (fun k _ h2 e=>by have e2:k=b16:=e;omega)) (by omega) hz9 (by omega) (by omega) hg16 (by omega) hord hfit⟩,((aj.rfl_.next E9).next E16)⟩
 have hsz9:=((aj.rfl_.next E9)).size;have hsk:=kF.of hsg;obtain ⟨hord,hfit⟩:=hsg.docs;refine mvt rfl (ae (ax rfl rfl) (ae (ax rfl rfl) (asp rfl (asi rfl (ah (ab (ag (ag (aa (mvi rfl (ae (cq rfl rfl) (ah (ab ?_)))))))))))));refine Lf rfl (fun Q7=>?_) (fun Q7=>?_)
 ·first
   |(exfalso; first | (first | omega | (simp [hb33] at *; done); trace "@MK D bY:f9.1.c13+ 1") | (contradiction; trace "@MK D bY:f9.1.c13+ 2") | ((cases Q7; done); trace "@MK D bY:f9.1.c13+ 3"))
   |(trace "@MK D bY:f9.1.c13+ 0")
    refine ag (aa (mvi rfl (asp rfl (asi rfl (ah (ab (ay (aC (cY (v:=.pointer _) (v':=.int _ _) rfl rfl rfl (⟨.inl ⟨hck,rfl⟩,(aj.rfl_.next E9)⟩))))))))))
 refine au (ab (ag (aa (ae (du (l:=[]) (tJ)) (cW (v:=.agg _) rfl ?_)))));intro b16 w8 E16 hb16 hk16;have hg16:w.heap.size≤b16:=by rw [hb16];exact ((aj.rfl_.next E9)).size
 have hs16:=E16.size;refine asp rfl (ah (ab (ag (ag (aa (mvs rfl (ae (aS bx rfl) (ae (bU rfl rfl) (ah (ab (Li rfl (fun Q9=>?_) (fun Q9=>?_))))))))))))
 ·refine aa (mvp rfl (mvp rfl (ae (du (l:=[(0,.tmp 21)]) (kZ _)) (gd fv rfl rfl rfl ?_))));intro b23 w10 E23 hb23 hk23;have hsk2:=hsk.from_ (((aj.rfl_.next E16)).next E23);refine ae (aw rfl) (ae (ak cz rfl) (bZ (v:=.slice _ _ _) jr rfl rfl rfl (hk16.from_ E23) (by show 0<2;decide) ?_));intro w11 O6 P6;refine ah (ab (ag (aa (mvp rfl (asp rfl (asi rfl (ah (ab (ay (cY (v:=.pointer _) (v':=.int _ _) rfl rfl rfl ?_))))))))))
  first
   |exact ⟨.inr ⟨hck,b16,rfl,rF hk16 (by omega) hg16⟩,((((aj.rfl_.next E9).next E16).next E23).only O6 (hg16))⟩
   |exact ⟨.inr ⟨hck,b16,rfl,rD P6 (hk23.only O6 (by have:=hk16.lt;omega)) (hsk2.chg (O6.toChg (U:=fun k=>k=b16) rfl) (fun k _ h2 e=>by have e2:k=b16:=e;omega)) (by omega) hz9 (by omega) (by omega) hg16 (by omega) hord hfit⟩,((((aj.rfl_.next E9).next E16).next E23).only O6 (hg16))⟩
 refine au (ab (ag (aa (mvp rfl (asp rfl (asi rfl (ah (ab (ay (cY (v:=.pointer _) (v':=.int _ _) rfl rfl rfl ?_))))))))))
 first
  |exact ⟨.inr ⟨hck,b16,rfl,rF hk16 (by omega) hg16⟩,((aj.rfl_.next E9).next E16)⟩
  |exact ⟨.inr ⟨hck,b16,rfl,rD P6 (hk23.only O6 (by have:=hk16.lt;omega)) (hsk2.chg (O6.toChg (U:=fun k=>k=b16) rfl) (fun k _ h2 e=>by have e2:k=b16:=e;omega)) (by omega) hz9 (by omega) (by omega) hg16 (by omega) hord hfit⟩,((aj.rfl_.next E9).next E16)⟩
theorem iG (U:Nat→Prop) (s:Nat) (D:List Dc) (w:World) (hs:dD w U s D) :
 Rt prog 24 [.pointer (some ⟨s,0,none⟩)] w (fun _ w'=>dD w' (Nx U w w') s D∧Chg U w w'):=by
 have hs0:=hs;obtain ⟨ps,L,Ap,cp,Al,cl,hG,h,hU⟩:=hs;have hll:=hG.loose;have hpl:=hG.parts;refine enter (n:=34) Tryz.func24 rfl rfl rfl (ag (ag (aa (mvp rfl (ae (aw rfl) (ae (ak eo rfl) (ae (aq bK rfl (by exact (h.blk.from_ aj.rfl_).rd 1 rfl)) ?_)))))));refine ae (aS bx rfl) (ae (cF rfl rfl) (ah (ab (Li rfl (fun Q1=>?_) (fun Q1=>?_)))))
 ·refine ay (aC (k_ rfl (hs0.same aj.rfl_)))
 refine au (ab (ag (aa (mvp rfl (ae (aw rfl) (ae (ak eo rfl) (ae (aq bK rfl (by exact (h.blk.from_ aj.rfl_).rd 1 rfl)) ?_)))))));have hz15:w.heap.size≤(w).heap.size:=(aj.rfl_).size;refine aA qL (Fu Al cl L.length L _ ((cL.own bI (by decide) h.rowL).2.from_ aj.rfl_) rfl (by omega) (ph h.rowL)) ?_;rintro v15 w2 ⟨hs15,E15⟩;rcases hs15 with ⟨hck,rfl⟩ | ⟨hck,s0,rfl,hsg⟩
 ·have hb33:(jm L != 0)=true:=by simpa using hck
  refine mvt rfl (ae (ax rfl rfl) (ae (ax rfl rfl) (asp rfl (asi rfl (ah (ab (ag (ag (aa (mvi rfl (ae (cq rfl rfl) (ah (ab ?_)))))))))))));refine Lf rfl (fun Q3=>?_) (fun Q3=>?_)
  ·refine ay (aC (k_ rfl (hs0.same (aj.rfl_.next E15))))
  first
   |(exfalso; first | (first | omega | (simp [hb33] at *; done); trace "@MK D iG:c9-.f15.0.c19- 1") | (contradiction; trace "@MK D iG:c9-.f15.0.c19- 2") | ((cases Q3; done); trace "@MK D iG:c9-.f15.0.c19- 3"))
   |(trace "@MK D iG:c9-.f15.0.c19- 0")
    refine au (ab (ag (aa (mvp rfl (mvp rfl (ae (aw rfl) (ae (ak cz rfl) (ae (aq dX rfl (by exact (h.blk.from_ (aj.rfl_.next E15)).rd 0 rfl)) ?_))))))));refine mvp rfl (ae (du (l:=[(0,.tmp 25)]) (kZ _)) (gd fv rfl rfl rfl ?_));intro b27 w4 E27 hb27 hk27;have hF28:=((aj.rfl_.next E15).next E27);have hsk2:=hsk.from_ ((aj.rfl_.next E27));refine h_ (base:=0) fv rfl (by decide) rfl (A:=Ap) (xs:=ps.flatMap ptV) (news:=[.pointer (some ⟨s0,0,none⟩),.slice none 0 0]) (h.rowP.kept_from ((aj.rfl_.next E15).next E27)) (Nat.zero_le _) rfl rfl ⟨b27,0,rfl,hk27.whole⟩ (by simp [Value.oneCell']) (by omega) (by omega) ?_;intro A28 c28 w5 ho28 hg28 hL28;have hb28:=(h.blk.from_ hF28).grown hg28 (dz (h.rowP.kept_from hF28) (h.blk.from_ hF28) (by decide));refine ae (aw rfl) (ae (ak cz rfl) (bZ (v:=.slice _ _ _) jr rfl rfl rfl (hb28) (by show 0<2;decide) ?_));intro w6 O3 P3;refine ah (ab (aa (mvp rfl (ae (aw rfl) (ae (ak eo rfl) (bZ (v:=.slice _ _ _) nN rfl rfl rfl (P3) (by show 1<2;decide) ?_))))));intro w7 O4 P4;refine ah (gZ (k_ rfl ?_));have hne:L≠[]:=fun e=>by subst e;simp_all
    have hlen:(ps++[Pt.of lo hi s0 L]).length=ps.length+1:=List.length_append;refine o6 (ps':=ps++[Pt.of lo hi s0 L]) (L':=[]) h hU hF28 (((Chg.of_grown hg28 (fun k e=>.inr e)).only O3 (.inl rfl)).only O4 (.inl rfl)) (by rw [hlen];exact P4) ?_ (fun k hk=>hL28.elim (fun e=>.inl (e ▸ hk)) (fun e=>.inr (by rw [e] at hk;cases hk;exact Nat.le_refl _))) (.inr ⟨rfl,rfl,rfl⟩) (fun p hp=>?_) ?_ (hG.seal lo hi s0 hne)
    ·rw [hlen,List.flatMap_append];exact cH (cH ho28 O3 (dz ho28 hb28 (by decide))) O4 (dz (cH ho28 O3 (dz ho28 hb28 (by decide))) P3 (by decide))
    ·rcases List.mem_append.1 hp with hp | hp
     ·exact .inl hp
     ·rw [List.mem_singleton.1 hp];exact .inr ⟨rfl,rfl,rfl,hsk2,hlo⟩
    ·refine List.pairwise_append.2 ⟨h.apart,List.pairwise_singleton ..,fun a _ b hb=>?_⟩;rw [List.mem_singleton.1 hb];exact fun p hp q hq=>by cases hq
 obtain ⟨lo,hi,hlo,hhi,hsk⟩:=kF.ex hsg hz15;refine mvt rfl (ae (ax rfl rfl) (ae (ax rfl rfl) (asp rfl (asi rfl (ah (ab (ag (ag (aa (mvi rfl (ae (cq rfl rfl) (ah (ab ?_)))))))))))));refine Lf rfl (fun Q8=>?_) (fun Q8=>?_)
 ·first
   |(exfalso; first | (first | omega | (simp [hb33] at *; done); trace "@MK D iG:c9-.f15.1.c19+ 1") | (contradiction; trace "@MK D iG:c9-.f15.1.c19+ 2") | ((cases Q8; done); trace "@MK D iG:c9-.f15.1.c19+ 3"))
   |(trace "@MK D iG:c9-.f15.1.c19+ 0")
    refine ay (aC (k_ rfl (hs0.same (aj.rfl_.next E15))))
 refine au (ab (ag (aa (mvp rfl (mvp rfl (ae (aw rfl) (ae (ak cz rfl) (ae (aq dX rfl (by exact (h.blk.from_ (aj.rfl_.next E15)).rd 0 rfl)) ?_))))))));refine mvp rfl (ae (du (l:=[(0,.tmp 25)]) (kZ _)) (gd fv rfl rfl rfl ?_));intro b27 w9 E27 hb27 hk27;have hF28:=((aj.rfl_.next E15).next E27);have hsk2:=hsk.from_ ((aj.rfl_.next E27));refine h_ (base:=0) fv rfl (by decide) rfl (A:=Ap) (xs:=ps.flatMap ptV) (news:=[.pointer (some ⟨s0,0,none⟩),.slice none 0 0]) (h.rowP.kept_from ((aj.rfl_.next E15).next E27)) (Nat.zero_le _) rfl rfl ⟨b27,0,rfl,hk27.whole⟩ (by simp [Value.oneCell']) (by omega) (by omega) ?_;intro A28 c28 w10 ho28 hg28 hL28;have hb28:=(h.blk.from_ hF28).grown hg28 (dz (h.rowP.kept_from hF28) (h.blk.from_ hF28) (by decide));refine ae (aw rfl) (ae (ak cz rfl) (bZ (v:=.slice _ _ _) jr rfl rfl rfl (hb28) (by show 0<2;decide) ?_));intro w11 O3 P3;refine ah (ab (aa (mvp rfl (ae (aw rfl) (ae (ak eo rfl) (bZ (v:=.slice _ _ _) nN rfl rfl rfl (P3) (by show 1<2;decide) ?_))))));intro w12 O4 P4;refine ah (gZ (k_ rfl ?_));have hne:L≠[]:=fun e=>by subst e;simp_all
 have hlen:(ps++[Pt.of lo hi s0 L]).length=ps.length+1:=List.length_append;refine o6 (ps':=ps++[Pt.of lo hi s0 L]) (L':=[]) h hU hF28 (((Chg.of_grown hg28 (fun k e=>.inr e)).only O3 (.inl rfl)).only O4 (.inl rfl)) (by rw [hlen];exact P4) ?_ (fun k hk=>hL28.elim (fun e=>.inl (e ▸ hk)) (fun e=>.inr (by rw [e] at hk;cases hk;exact Nat.le_refl _))) (.inr ⟨rfl,rfl,rfl⟩) (fun p hp=>?_) ?_ (hG.seal lo hi s0 hne)
 ·rw [hlen,List.flatMap_append];exact cH (cH ho28 O3 (dz ho28 hb28 (by decide))) O4 (dz (cH ho28 O3 (dz ho28 hb28 (by decide))) P3 (by decide))
 ·rcases List.mem_append.1 hp with hp | hp
  ·exact .inl hp
  ·rw [List.mem_singleton.1 hp];exact .inr ⟨rfl,rfl,rfl,hsk2,hlo⟩
 ·refine List.pairwise_append.2 ⟨h.apart,List.pairwise_singleton ..,fun a _ b hb=>?_⟩;rw [List.mem_singleton.1 hb];exact fun p hp q hq=>by cases hq
end Go.Proofs.YtcbakncjacnnjaaGreat
namespace Go.Proofs.YtcbakncjacnnjaaGreat
open Go.Proofs.Tryz (prog)
open Go.RowKit
def Gr (a w:World):Prop:=∃ q os,w=Go.Sort.grow (a.drewN q) os
theorem Gr.rfl_ {a:World}:Gr a a:=⟨0,#[],by rw [Go.Sort.grow_empty];rfl⟩
theorem Gr.d1 {a w:World} (h:Gr a w):Gr a w.drew:=by
 obtain ⟨q,os,rfl⟩:=h;exact ⟨q+1,os,rfl⟩
theorem Gr.next {a w w':World} (h:Gr a w) (k:Gr w w'):Gr a w':=by
 obtain ⟨q,os,rfl⟩:=h;obtain ⟨q2,os2,rfl⟩:=k;refine ⟨q+q2,os++os2,?_⟩;unfold Go.Sort.grow World.drewN;simp [Array.append_assoc,Nat.add_assoc]
theorem Gr.alloc (w:World) (o:Obj):Gr w (w.alloc o):=⟨0,#[o],Go.Sort.alloc_eq_grow w o⟩
theorem Gr.new {a w:World} (h:Gr a w) (o:Obj):Gr a (w.alloc o):=h.next (Gr.alloc w o)
theorem Gr.from_ {a w:World} (h:Gr a w):aj a w:=by
 obtain ⟨q,os,rfl⟩:=h;refine (aj.rfl_.dn q).next ⟨rfl,rfl,rfl,by simp [Go.Sort.grow],fun k hk=>?_⟩;show (_++os)[k]? =_;rw [Array.getElem?_append_left hk]
namespace DG
def lQ:List (Nat×(Value→World→Prop))→Prop
 |[]=>True
 |(_,R)::r=>(∀ v w1 w2,Gr w1 w2→R v w1→R v w2)∧lQ r
theorem af (x:Value):∀ v w1 w2,Gr w1 w2→eqp x v w1→eqp x v w2:=fun _ _ _ _ h=>h
theorem dQ:∀ {l:List (Nat×(Value→World→Prop))},lQ l→∀ t v w1 w2,Gr w1 w2→eA l t v w1→eA l t v w2
 |[],_,_,_,_,_,_,_=>trivial
 |(k,R)::r,⟨h1,h2⟩,t,v,w1,w2,hF,h=>by
  have e:eA ((k,R)::r) t=bif Nat.beq t k then R else eA r t:=rfl
  rw [e] at h ⊢;cases hb:Nat.beq t k with
  |true=>rw [hb] at h;exact h1 _ _ _ hF h
  |false=>rw [hb] at h;exact dQ h2 t v w1 w2 hF h
def ao (P:Program) (ops:Array Oper) (n:Fr) (L:List (Nat×Value)) (o:Oper) (w:World) (R:Value→World→Prop):Prop:=
 (Region.wanted o (yielded ops (mkT n.n L))=true∧((∃ v w',(execOp (ev n L) o).run P w=.ok (.value v) w'∧Gr w w'∧R v w')∨
  (∃ f l,(execOp (ev n L) o).run P w=.ok (.enter f (List.toArray l)) w∧Rt P f l w fun v w'=>Gr w w'∧R v w')))∨
 (Region.wanted o (yielded ops (mkT n.n L))=false∧R undef w)
section
variable {P:Program} {ops:Array Oper} {n:Fr} {L:List (Nat×Value)} {w w':World} {op:Op} {ty:TypeId} {pos:String} {after:Array Edge} {d:Option Nat} {R:Value→World→Prop}
theorem d_ {v:Value} (hr:RO P (ev n L) op w v w') (hF:Gr w w') (hR:R v w'):ao P ops n L ⟨d,op,ty,pos,after,none⟩ w R:=
 .inl ⟨rfl,.inl ⟨v,w',hr _ _ _ _ _,hF,hR⟩⟩
theorem ai {v:Value} (hr:RO P (ev n L) op w v w) (hR:R v w):ao P ops n L ⟨d,op,ty,pos,after,none⟩ w R:=d_ hr Gr.rfl_ hR
theorem dP {f:FuncId} {l:List Operand} {ats:Array TypeId} (hf:aH P f=true) (hc:Rt P f (l.map (ev n L)) w fun v w'=>Gr w w'∧R v w') :
 ao P ops n L ⟨d,.call { callee:=.value (.func f),args:=l.toArray,argTypes:=ats },ty,pos,after,none⟩ w R:=
 .inl ⟨rfl,.inr ⟨f,l.map (ev n L),by rw [iC (fun _=>rfl),fR hf],hc⟩⟩
end
def tW (P:Program) (ops:Array Oper) (n:Fr) (L:List (Nat×Value)) (w:World) (R:Nat→Value→World→Prop) (pre:List Nat):List Oper→Prop
 |[]=>True
 |o::r=>(∀ w',Gr w w'→gU R w' (o4 ops pre o) fun M=>ao P ops n (M++L) o w' (R (o.dst.getD 0)))∧tW P ops n L w R pre r
section
variable {P:Program} {ops:Array Oper} {Q:Exit→Act→World→Prop} {rest:List Oper} {n:Fr} {L:List (Nat×Value)} {w:World} {ty:TypeId} {pos:String} {after:Array Edge} {d:Nat} {t:TypeId} {x y:Operand}
theorem cW {v:Value} (hx:ev n L x=v) (k:∀ b w',Gr w w'→b=w.heap.size→Blk w' b t v.cells→St P ops Q rest n ((d,.pointer (some ⟨b,0,none⟩))::L) w') :
 St P ops Q (⟨some d,.box t x,ty,pos,after,none⟩::rest) n L w:=
 ae (zh hx) (k _ _ (Gr.rfl_.new _) rfl (Blk.new w t _))
end
def il (P:Program) (ops:Array Oper) (n:Fr) (L:List (Nat×Value)) (I2:World→Prop) (R1 R2:Nat→Value→World→Prop) (l0:List Oper) (K:Nat) (mu:Nat):Nat→List Oper→Prop
 |_,[]=>True
 |i,o::r=>(Nat.beq i mu=false→∀ w',I2 w'→gU R2 w' (fb l0 K i o) fun M=>ao P ops n (M++L) o w' (R1 (o.dst.getD 0)))∧il P ops n L I2 R1 R2 l0 K mu (i+1) r
theorem lD {P:Program} {ops:Array Oper} {n:Fr} {L:List (Nat×Value)} {I2:World→Prop} {R1 R2:Nat→Value→World→Prop} {l0:List Oper} {K mu:Nat}:∀ {l:List Oper} {k:Nat},il P ops n L I2 R1 R2 l0 K mu k l→∀ (i:Nat) (o:Oper),l[i]? =some o→k+i≠mu→
 ∀ w',I2 w'→gU R2 w' (fb l0 K (k+i) o) fun M=>ao P ops n (M++L) o w' (R1 (o.dst.getD 0))
 |[],_,_,i,o,h,_=>by simp at h
 |x::r,k,⟨h1,h2⟩,0,o,h,hne=>by
  simp only [List.getElem?_cons_zero,Option.some.injEq] at h;subst h;rw [Nat.add_zero] at hne ⊢;refine h1 ?_;rw [←Bool.not_eq_true];intro hb;exact hne (Nat.eq_of_beq_eq_true hb)
 |x::r,k,⟨h1,h2⟩,i+1,o,h,hne=>by
  have:=lD h2 i o (by simpa using h) (by omega)
  rwa [show k+1+i=k+(i+1) by omega] at this
theorem kr {P:Program} {ops:Array Oper} {n:Fr} {L:List (Nat×Value)} {I2:World→Prop} {R1 R2:Nat→Value→World→Prop} {l0:List Oper} {K mu:Nat} {l:List Oper} (h:il P ops n L I2 R1 R2 l0 K mu 0 l) (i:Nat) (o:Oper) (ho:l[i]? =some o) (hne:i≠mu)
 (w':World) (hw:I2 w'):gU R2 w' (fb l0 K i o) fun M=>ao P ops n (M++L) o w' (R1 (o.dst.getD 0)):=by
 have:=lD h i o ho (by rw [Nat.zero_add];exact hne) w' hw
 rwa [Nat.zero_add] at this
section late
variable {P:Program} {Q:Exit→Act→World→Prop} {n:Fr} {L:List (Nat×Value)} {w:World} {l:List Oper} {K mu:Nat} {I1 I2:World→Prop} {R1 R:Nat→Value→World→Prop}
theorem lI (hQ:PQ Q) (hc:kv l K=true) (hop:il P l.toArray n L I2 R1 R l K mu 0 (l.take K)) (h12:∀ t v w,R1 t v w→R t v w) (hmuL:mu<K→dp l K mu=false)
 (hend:∀ w',I2 w'→gU R w' (eu l K) fun M=>St P l.toArray Q (l.drop K) n (M++L) w') (m:Nat) (listed:Array Bool) (L':List (Nat×Value)) (w':World) (hcl:hZ l listed) (hcount:listed.toList.count false=m) (hs:listed.size=l.length)
 (htail:∀ j,K≤j→j<l.length→listed.getD j true=false) (hF:I2 w')
 (hfr:∀ t,(∀ i o,i<K→l[i]? =some o→listed.getD i true=true→o.dst≠some t)→bh L' t=bh L t)
 (hR:∀ i o d,i<K→l[i]? =some o→listed.getD i true=true→o.dst=some d→R d (bh L' d) w') (hpre:∀ i,i<K→listed.getD i true=false→dp l K i=true):wpAny P .any l.toArray Q m listed (mkA n L') w':=by
 have hc1:=(Bool.and_eq_true_iff.1 hc).1;have hlate:=(Bool.and_eq_true_iff.1 hc).2;have hKl:K≤l.length:=dT_ (Bool.and_eq_true_iff.1 hc1).1;have hck:=(List.all_eq_true.1 (Bool.and_eq_true_iff.1 hc1).2)
 have hhead:∀ i,i<K→∃ o d,l[i]? =some o∧o.dst=some d∧dw o.op=false∧(∀ j oj,j<K→j≠i→l[j]? =some oj→oj.dst≠some d):=by
  intro i hi;have hil:i<l.length:=by omega
  have hx:=hck i (List.mem_range.2 hil);rw [List.getElem?_eq_getElem hil] at hx;simp only [Bool.and_eq_true] at hx;have h3:=hx.2;rw [if_pos hi] at h3;simp only [Bool.and_eq_true] at h3;obtain ⟨h3a,h3b⟩:=h3;cases hod:(l[i]).dst with
  |none=>rw [hod] at h3a;cases h3a
  |some d=>
   rw [hod] at h3a;simp only [Bool.and_eq_true] at h3a;refine ⟨l[i],d,List.getElem?_eq_getElem hil,hod,by simpa using hx.1.2,fun j oj hj hne hoj e=>?_⟩;have h5:=List.all_eq_true.1 h3a.1 j (List.mem_range.2 hj);rw [hoj] at h5;simp [hne,e] at h5
 have hval:∀ i,i<K→listed.getD i true=false→∃ v,∀ o d,l[i]? =some o→o.dst=some d→Yields P l.toArray o v (mkA n L')∧R d v w':=by
  intro i hi hf;have hil8:=hpre i hi hf;obtain ⟨o,d,ho,hd,hsel,_⟩:=hhead i hi;obtain ⟨hk,hg,hap⟩:=ji hlate hi ho hil8
  have hfact:∀ t∈fb l K i o,R t (bh L' t) w':=by
   intro t ht;obtain ⟨ht2,j,oj,hjK,hj,hdj,hji,_⟩:=iq hc hi ho ht;refine hR j oj t hjK hj ?_ hdj;cases hb:listed.getD j true with
   |true=>rfl
   |false=>
    have h6:=hpre j hjK hb;have h7:=(Oper.apart_spec (hap j oj hj (by omega) (.inl ⟨hjK,h6⟩))).2.2 t hdj;exact absurd (by simpa using ht2) h7
  have hlooks:=qu (L:=L) hc hcl hs ho (by omega) hf hfr;have hok:=fk (bh L') _ hfact (kr hop i o (by rw [List.getElem?_take,if_pos hi];exact ho) (by intro e;rw [e,hmuL (by omega)] at hil8;cases hil8) w' hF);obtain ⟨hE,hW⟩:=eN (n:=n) (ops:=l.toArray) (o:=o) hsel hlooks;rw [hd] at hok;simp only [Option.getD_some] at hok
  have hyl:∃ v,Yields P l.toArray o v (mkA n L')∧R d v w':=by
   unfold ao at hok;rw [hE,hW] at hok;rcases hok with ⟨hw,⟨v,w'',hr,hF',hRv⟩ | ⟨f,args,hr,hcall⟩⟩ | ⟨hw,hRv⟩
   ·obtain ⟨rfl,hall⟩:=sS hk hr;refine ⟨v,.inl ⟨hw,fun w2=>?_⟩,h12 _ _ _ hRv⟩;rw [cy];exact hall w2
   ·exfalso;obtain ⟨dst,op,ty,pos,after,guard⟩:=o;cases op <;> simp only [qY,Bool.false_eq_true] at hk <;> simp only [execOp,Sem.run_pure,Sem.run_bind,Result.ok.injEq] at hr
    ·cases hr.1
    ·cases hr.1
    ·rename_i x i';cases hx:ev n L' x <;> simp only [hx,Instr.extract] at hr <;> (try (simp at hr;done))
     rename_i vs;cases hv:vs[i']? <;> simp [hv] at hr
   ·exact ⟨undef,.inr ⟨hw,rfl⟩,h12 _ _ _ hRv⟩
  obtain ⟨v,hv1,hv2⟩:=hyl;refine ⟨v,fun o' d' ho' hd'=>?_⟩;rw [ho] at ho';cases ho';rw [hd] at hd';cases hd';exact ⟨hv1,hv2⟩
 obtain ⟨f,hf⟩:∃ f:Nat→Value,∀ i,i<K→listed.getD i true=false→∀ o d,l[i]? =some o→o.dst=some d→Yields P l.toArray o (f i) (mkA n L')∧R d (f i) w':=by
  refine ⟨fun i=>open Classical in if h:∃ v,∀ o d,l[i]? =some o→o.dst=some d→Yields P l.toArray o v (mkA n L')∧R d v w' then h.choose else undef,fun i hi hl=>?_⟩;have h:=hval i hi hl;simp only [dif_pos h];exact h.choose_spec
 have hUm:∀ i,i∈(List.range K).filter (fun i=> !listed.getD i true)↔i<K∧listed.getD i true=false:=fun i=>by
  rw [List.mem_filter,List.mem_range];simp
 obtain ⟨U,hU,hUn⟩:∃ U:List Nat,(∀ i,i∈U↔i<K∧listed.getD i true=false)∧U.Nodup:=⟨_,hUm,List.nodup_range.sublist (List.filter_sublist ..)⟩;have hbind:∀ {i:Nat} {o:Oper},l[i]? =some o→(l[i]?).bind (·.dst)=o.dst:=fun h=>by rw [h];rfl
 have hRall:∀ d∈eu l K,R d (bh ((U.filterMap fun i=>((l[i]?).bind (·.dst)).map fun d=>(d,f i))++L') d) w':=by
  intro d hd;obtain ⟨o,ho,hod⟩:=List.mem_filterMap.1 hd;obtain ⟨i,hi⟩:=List.mem_iff_getElem?.1 ho;rw [List.getElem?_take] at hi;split at hi
  ·rename_i hiK;obtain ⟨o',d',ho',hd',_,hdist⟩:=hhead i hiK;rw [hi] at ho';cases ho';rw [hod] at hd';cases hd'
   have hne:∀ j∈U,j≠i→(l[j]?).bind (·.dst)≠some d:=fun j hj hji=>by
    have hjK:=((hU j).1 hj).1;obtain ⟨oj,dj,hoj,_⟩:=hhead j hjK;rw [hbind hoj];exact hdist j oj hjK hji hoj
   cases hb:listed.getD i true with
   |true=>
    rw [iz U fun j hj=>hne j hj (fun e=>by subst e;have:=((hU j).1 hj).2;rw [hb] at this;cases this)];exact hR i o d hiK hi hb hod
   |false=>
    rw [jU U ((hU i).2 ⟨hiK,hb⟩) ((hbind hi).trans hod) hne];exact (hf i hiK hb o d hi hod).2
  ·cases hi
 have he:=fk _ (eu l K) hRall (hend w' hF)
 have hL:mkA n ((eu l K).map (fun d=>(d,bh ((U.filterMap fun i=>((l[i]?).bind (·.dst)).map fun d=>(d,f i))++L') d))++L)=fc l f U (mkA n L'):=by
  rw [pd];refine iy fun t _=>?_
  rw [kx];split
  ·rfl
  ·rename_i hne
   have hnd:∀ i,i<K→∀ o,l[i]? =some o→o.dst≠some t:=fun i hi o ho hod=>hne (by
    simp only [List.elem_eq_mem,decide_eq_true_eq];exact List.mem_filterMap.2 ⟨o,List.mem_iff_getElem?.2 ⟨i,by rw [List.getElem?_take,if_pos hi];exact ho⟩,hod⟩)
   rw [iz U fun j hj=>by
    have hjK:=((hU j).1 hj).1;obtain ⟨oj,dj,hoj,_⟩:=hhead j hjK;rw [hbind hoj];exact hnd j hjK oj hoj]
   exact (hfr t fun i o hi ho _ hod=>hnd i hi o ho hod).symm
 replace he:=he.out;rw [hL] at he;refine n5 hQ hc m K listed U _ w' hcl hcount hs (Nat.le_refl _) hKl (fun j h1 h2=>by rw [htail j h1 h2];simp [h1]) hUn (fun j hj=>⟨fun h=>(hU j).2 ⟨hj,h⟩,fun h=>((hU j).1 h).2⟩) (fun j hj=>?_) he;obtain ⟨h1,h2⟩:=(hU j).1 hj;obtain ⟨oj,dj,hoj,hdj,_⟩:=hhead j h1;exact ⟨h1,hpre j h1 h2,oj,hoj,(hf j h1 h2 oj dj hoj hdj).1⟩
theorem pk (hQ:PQ Q) (hc:kv l K=true) (hm1:∀ w1 w2,Gr w1 w2→I1 w1→I1 w2) (hm2:∀ w1 w2,Gr w1 w2→I2 w1→I2 w2) (hmono1:∀ t v w1 w2,Gr w1 w2→R1 t v w1→R1 t v w2) (hmono:∀ t v w1 w2,Gr w1 w2→R t v w1→R t v w2)
 (hop:il P l.toArray n L I2 R1 R l K mu 0 (l.take K)) (h12:∀ t v w,R1 t v w→R t v w) (hmuL:mu<K→dp l K mu=false) (hmu:yR P l.toArray n L I1 I2 R1 R l K mu l[mu]?)
 (hend:∀ w',I2 w'→gU R w' (eu l K) fun M=>St P l.toArray Q (l.drop K) n (M++L) w') :
 ∀ (m:Nat) (listed:Array Bool) (L':List (Nat×Value)) (w':World),hZ l listed→listed.toList.count false=m→listed.size=l.length→(∀ j,K≤j→j<l.length→listed.getD j true=false)→I2 w'→(listed.getD mu true=false→I1 w')→
  (∀ t,(∀ i o,i<K→l[i]? =some o→listed.getD i true=true→o.dst≠some t)→bh L' t=bh L t)→
  (∀ i o d,i<K→l[i]? =some o→listed.getD i true=true→o.dst=some d→R d (bh L' d) w')→(listed.getD mu true=false→∀ i o d,i<K→l[i]? =some o→listed.getD i true=true→o.dst=some d→R1 d (bh L' d) w')→wpAny P .any l.toArray Q m listed (mkA n L') w':=by
 have hc1:=(Bool.and_eq_true_iff.1 hc).1;have hlate:=(Bool.and_eq_true_iff.1 hc).2;have hKl:K≤l.length:=dT_ (Bool.and_eq_true_iff.1 hc1).1;have hck:=(List.all_eq_true.1 (Bool.and_eq_true_iff.1 hc1).2);intro m
 induction m with
 |zero=>
  intro listed L' w' hcl hcount hs htail hF hF1 hfr hR hR1
  exact lI hQ hc hop h12 hmuL hend 0 listed L' w' hcl hcount hs htail hF hfr hR (fun i hi h=>by
   have hm:listed[i]'(by omega)∈listed.toList:=by simp
   have hb:listed[i]'(by omega)=false:=by simpa [Array.getD,show i<listed.size by omega] using h
   rw [hb] at hm;exact absurd hcount (Nat.pos_iff_ne_zero.1 (List.count_pos_iff.2 hm)))
 |succ m ih=>
  intro listed L' w' hcl hcount hs htail hF hF1 hfr hR hR1;by_cases hpre:∀ i,i<K→listed.getD i true=false→dp l K i=true
  ·exact lI hQ hc hop h12 hmuL hend (m+1) listed L' w' hcl hcount hs htail hF hfr hR hpre
  ·
   have hn0:∃ i,i<K∧listed.getD i true=false∧dp l K i=false:=by
    refine Classical.byContradiction fun hno=>hpre fun i hi hf=>?_
    cases hb:dp l K i with
    |true=>rfl
    |false=>exact absurd ⟨i,hi,hf,hb⟩ hno
   obtain ⟨n0,hn0⟩:=hn0;obtain ⟨i0,hi0,hmin⟩:=exists_least (p:=fun i=>i<K∧listed.getD i true=false) ⟨n0,hn0.1,hn0.2.1⟩;have hi0l:i0<l.length:=by omega
   have hready:i0∈Region.ready .any l.toArray listed:=by
    refine mem_ready.2 ⟨hi0.2,l[i0],by rw [List.getElem?_toArray,List.getElem?_eq_getElem hi0l],fun e he hb=>?_⟩;have hx:=hck i0 (List.mem_range.2 hi0l);rw [List.getElem?_eq_getElem hi0l] at hx;simp only [Bool.and_eq_true] at hx;have he2:=List.all_eq_true.1 hx.1.1 e (by simpa using he);rw [hb] at he2;simp at he2;rw [←bC (by omega)];cases hb2:listed.getD e.on true with
    |true=>rfl
    |false=>exact absurd (hmin e.on ⟨by omega,hb2⟩) (by omega)
   refine ⟨fun h0=>(by rw [h0] at hready;cases hready),fun i hi=>?_⟩;obtain ⟨h0,o,ho,hall⟩:=mem_ready.1 hi;rw [List.getElem?_toArray] at ho;have hil:i<l.length:=(List.getElem?_eq_some_iff.1 ho).1;have hx:=hck i (List.mem_range.2 hil);rw [ho] at hx;simp only [Bool.and_eq_true] at hx
   have hiK:i<K:=by
    rcases Nat.lt_or_ge i K with h | h
    ·exact h
    ·exfalso;have h5:=eU hcl hall (lg hn0.2.2 ho h);rw [←bC (by omega),hn0.2.1] at h5;cases h5
   have h3:=hx.2;rw [if_pos hiK] at h3;simp only [Bool.and_eq_true] at h3;obtain ⟨h3a,h3b⟩:=h3;cases hod:o.dst with
   |none=>rw [hod] at h3a;cases h3a
   |some d=>
    rw [hod] at h3a;simp only [Bool.and_eq_true] at h3a;have hlooks:=qu (L:=L) hc hcl hs ho hil h0 hfr
    have hfactG:∀ (RR:Nat→Value→World→Prop),(∀ i o d,i<K→l[i]? =some o→listed.getD i true=true→o.dst=some d→RR d (bh L' d) w')→∀ t∈fb l K i o,RR t (bh L' t) w':=by
     intro RR hRR t ht;obtain ⟨_,j,oj,hjK,hj,hd,_,hdep⟩:=iq hc hiK ho ht;have h6:=eU hcl hall hdep;exact hRR j oj t hjK hj (by rw [bC (by omega)];exact h6) hd
    have hsel:dw o.op=false:=by simpa using hx.1.2
    obtain ⟨hE,hW⟩:=eN (n:=n) (ops:=l.toArray) (o:=o) hsel hlooks
    have next:∀ v w'',I2 w''→(i≠mu→listed.getD mu true=false→I1 w'')→R d v w''→(i≠mu→R1 d v w'')→(∀ t u,t≠d→R t u w'→(i=mu→R1 t u w')→R t u w'')→(i≠mu→∀ t u,R1 t u w'→R1 t u w'')→wpAny P .any l.toArray Q m (listed.setIfInBounds i true) ((mkA n L').put (some d) v) w'':=by
     intro v w'' hI2' hI1' hRv hR1v hst hst1;rw [eF]
     have hne:∀ j oj d',j<K→l[j]? =some oj→j≠i→oj.dst=some d'→d'≠d:=by
      intro j oj d' hj hoj hji hd e;have h5:=List.all_eq_true.1 h3a.1 j (List.mem_range.2 hj);rw [hoj] at h5;simp [hji,hd,e] at h5
     refine ih _ _ w'' (kA hcl ho hall) ?_ (by simpa using hs) (fun j hj1 hj2=>?_) hI2' (fun hml=>?_) (fun t ht=>?_) (fun j oj d' hj hoj hlj hd=>?_) (fun hml j oj d' hj hoj hlj hd=>?_)
     ·have hil':i<listed.size:=by omega
      have hfalse:listed.toList[i]? =some false:=by
       rw [Array.getElem?_toList,Array.getElem?_eq_getElem hil'];simp [Array.getD,hil'] at h0;rw [h0]
      rw [Array.toList_setIfInBounds];have:=eV (l:=listed.toList) (i:=i) hfalse;omega
     ·rw [getD_set_ne true (by omega)];exact htail j hj1 hj2
     ·have him:i≠mu:=fun e=>by subst e;simp [show i<listed.size by omega] at hml
      rw [getD_set_ne true him] at hml;exact hI1' him hml
     ·have htd:t≠d:=fun e=>ht i o hiK ho (by simp [show i<listed.size by omega]) (by rw [hod,e])
      rw [cg,if_neg htd];refine hfr t fun j oj hj hoj hlj=>ht j oj hj hoj ?_
      by_cases e:i=j
      ·subst e;rw [h0] at hlj;cases hlj
      ·rw [getD_set_ne true e];exact hlj
     ·rw [cg];by_cases e:j=i
      ·subst e;rw [ho] at hoj;cases hoj;rw [hod] at hd;cases hd;rw [if_pos rfl];exact hRv
      ·have hdd:=hne j oj d' hj hoj e hd;rw [if_neg hdd];rw [getD_set_ne true (Ne.symm e)] at hlj;refine hst _ _ hdd (hR j oj d' hj hoj hlj hd) (fun e2=>?_);subst e2;exact hR1 h0 j oj d' hj hoj hlj hd
     ·have him:i≠mu:=fun e=>by subst e;simp [show i<listed.size by omega] at hml
      rw [getD_set_ne true him] at hml;rw [cg];by_cases e:j=i
      ·subst e;rw [ho] at hoj;cases hoj;rw [hod] at hd;cases hd;rw [if_pos rfl];exact hR1v him
      ·rw [if_neg (hne j oj d' hj hoj e hd)];rw [getD_set_ne true (Ne.symm e)] at hlj;exact hst1 him _ _ (hR1 hml j oj d' hj hoj hlj hd)
    unfold wpOp;rw [List.getElem?_toArray,ho];show if Region.wanted o (yielded l.toArray (mkT n.n L'))=true then _ else _
    by_cases him:i=mu
    ·subst him;rw [ho] at hmu;have hok:=fk (bh L') _ (hfactG R1 (hR1 h0)) (hmu w' (hF1 h0));rw [hod] at hok;simp only [Option.getD_some] at hok;unfold mJ at hok;rw [hE,hW] at hok;obtain ⟨hw,⟨v,w'',hr,hI,hRv,hst⟩ | ⟨f,args,hr,hcall⟩⟩:=hok
     ·rw [if_pos hw];refine .inl ?_;unfold Oper.wp;rw [cy,hr,Oper.upon_value,hod];exact next v w'' hI (fun h=>absurd rfl h) hRv (fun h=>absurd rfl h) (fun t u ht _ h1=>hst t u ht (h1 rfl)) (fun h=>absurd rfl h)
     ·rw [if_pos hw];refine .inl ?_;unfold Oper.wp;rw [cy,hr,Oper.upon_enter,hod];refine Calls.mono hcall fun e w'' ⟨v,he,hI,hRv,hst⟩=>?_
      subst he;exact next v w'' hI (fun h=>absurd rfl h) hRv (fun h=>absurd rfl h) (fun t u ht _ h1=>hst t u ht (h1 rfl)) (fun h=>absurd rfl h)
    ·have hok:=fk (bh L') _ (hfactG R hR) (kr hop i o (by rw [List.getElem?_take,if_pos hiK];exact ho) him w' hF);rw [hod] at hok;simp only [Option.getD_some] at hok;unfold ao at hok;rw [hE,hW] at hok
     have next':∀ v w'',Gr w' w''→R1 d v w''→wpAny P .any l.toArray Q m (listed.setIfInBounds i true) ((mkA n L').put (some d) v) w'':=fun v w'' hF' hRv=>
      next v w'' (hm2 _ _ hF' hF) (fun _ h=>hm1 _ _ hF' (hF1 h)) (h12 _ _ _ hRv) (fun _=>hRv) (fun t u _ h _=>hmono _ _ _ _ hF' h) (fun _ t u h=>hmono1 _ _ _ _ hF' h)
     rcases hok with ⟨hw,⟨v,w'',hr,hF',hRv⟩ | ⟨f,args,hr,hcall⟩⟩ | ⟨hw,hRv⟩
     ·rw [if_pos hw];refine .inl ?_;unfold Oper.wp;rw [cy,hr,Oper.upon_value,hod];exact next' v w'' hF' hRv
     ·rw [if_pos hw];refine .inl ?_;unfold Oper.wp;rw [cy,hr,Oper.upon_enter,hod];refine Calls.mono hcall fun e w'' ⟨v,he,hF',hRv⟩=>?_
      subst he;exact next' v w'' hF' hRv
     ·rw [if_neg (by rw [hw];simp),hod];exact next' undef w' Gr.rfl_ hRv
theorem bH {id:Nat} (K:Nat) (RL:List (Nat×(Value→World→Prop))) (hQ:PQ Q) (hm:P.follows .mixedOrders=true) (hc:kv l K=true) (hmono:lQ RL)
 (hop:il P l.toArray n L (Gr w) (eA RL) (eA RL) l K l.length 0 (l.take K)) (hend:∀ w',Gr w w'→gU (eA RL) w' (eu l K) fun M=>St P l.toArray Q (l.drop K) n (M++L) w'):Cd P (.region id l.toArray true) Q n L w:=by
 refine ⟨wp_region_any hm ?_⟩;have hKl:K≤l.length:=dT_ (Bool.and_eq_true_iff.1 (Bool.and_eq_true_iff.1 hc).1).1
 have:=pk (Q:=Q) (mu:=l.length) (I1:=Gr w) (I2:=Gr w) (R1:=eA RL) hQ hc (fun _ _ hF h=>h.next hF) (fun _ _ hF h=>h.next hF) (dQ hmono) (dQ hmono) hop (fun _ _ _ h=>h) (fun h=>absurd h (by omega)) (by simp [yR]) hend l.length (Array.replicate l.length false) L { w with drawn:=w.drawn+1 } (jH l _) (by simp) (by simp)
  (fun j _ hj=>by simp [Array.getD,hj]) Gr.rfl_.d1 (fun _=>Gr.rfl_.d1) (fun _ _=>rfl) (fun i o d hi _ hl=>by
   have:i<l.length:=by omega
   simp [Array.getD,this] at hl) (fun _ i o d hi _ hl=>by
   have:i<l.length:=by omega
   simp [Array.getD,this] at hl)
 simpa using this
end late
end DG
end Go.Proofs.YtcbakncjacnnjaaGreat
namespace Go.Proofs.YtcbakncjacnnjaaGreat
open Go.Proofs.Tryz (prog)
open Go.RowKit Go.ChangeShapes Go.WideShapes Go.ChangeAt Go.Sort Go.Proofs
section
variable {α:Type} [Inhabited α] {f:α→List Value} {s:Nat}
omit [Inhabited α] in
theorem Dg (hf:∀ x,(f x).length=s) (L:List α) (i j:Nat) (hi:i<L.length) (hj:j<s):(L.flatMap f)[i*s+j]? =(f L[i])[j]? :=by
 have hL:L.flatMap f=(L.take i).flatMap f++(f L[i]++(L.drop (i+1)).flatMap f):=by
  have h0:L=L.take i++L[i]::L.drop (i+1):=by rw [←List.drop_eq_getElem_cons hi,List.take_append_drop]
  exact (congrArg (List.flatMap f) h0).trans (by rw [List.flatMap_append,List.flatMap_cons])
 have ht:((L.take i).flatMap f).length=i*s:=by rw [dR hf,List.length_take,Nat.min_eq_left (by omega)]
 rw [hL,List.getElem?_append_right (by omega),ht,Nat.add_sub_cancel_left,List.getElem?_append_left (by rw [hf];exact hj)]
theorem s5 (hf:∀ x,(f x).length=s) (hs:0<s) (L:List α):(flatK f s L.toArray).toList=L.flatMap f:=by
 apply List.ext_getElem?;intro t;have hlen:(L.flatMap f).length=L.length*s:=dR hf L;rw [Array.getElem?_toList];by_cases ht:t<L.length*s
 ·have hd:t/s<L.length:=Nat.div_lt_of_lt_mul (by rw [Nat.mul_comm];exact ht);have hm:t%s<s:=Nat.mod_lt _ hs;have e:t=t/s*s+t%s:=by rw [Nat.mul_comm];exact (Nat.div_add_mod t s).symm
  have h1:=get_flatK f s L.toArray t (by simpa using ht);rw [getElem!_pos _ t (by simpa using ht)] at h1;rw [Array.getElem?_eq_getElem (by simpa using ht),h1]
  conv=>rhs;rw [e]
  rw [Dg hf L _ _ hd hm];have h2:(L.toArray[t/s]! :α)=L[t/s]:=by rw [getElem!_pos _ _ (by simpa using hd)];simp
  rw [h2,getElem!_pos _ _ (by rw [hf];exact hm),List.getElem?_eq_getElem (by rw [hf];exact hm)]
 ·rw [Array.getElem?_eq_none (by simpa using ht),List.getElem?_eq_none (by omega)]
theorem uS (hf:∀ x,(f x).length=s) (hs:0<s) {w:World} {g:Nat} {cur:List Value} {e:TypeId} {ss:List α} (hb:Blk w g e cur.toArray) (ht:cur.take (ss.length*s)=ss.flatMap f):HoldsK f s w g 0 ss.toArray:=by
 unfold HoldsK;intro j hj;have hj':j<ss.length*s:=by simpa using hj
 have hb':w.heap[g]? =some (.cells cur.toArray e (0,0)):=hb;refine ⟨?_,by simp [World.frozen?,hb']⟩;have h1:cur[j]? =(ss.flatMap f)[j]? :=by rw [←ht,List.getElem?_take_of_lt hj']
 rw [←s5 hf hs,List.getElem?_eq_getElem (l:=(flatK f s ss.toArray).toList) (by simpa using hj)] at h1;rw [Nat.zero_add,getElem!_pos _ j hj];simp only [World.cell?,hb'];simpa using h1
theorem mC {w:World} {g n:Nat} {os:Array Obj} (d:Array α):w.grownBy (sortWorldK f s w g 0 n d os) (some g):=by
 unfold sortWorldK putRowK;refine ⟨rfl,rfl,rfl,by simp,fun k hk hne=>?_⟩;rw [heap_grow_old _ _ (by simpa using hk)];have:g≠k:=fun e=>hne (by rw [e])
 simp [putRow,mapBlock,Sort.ahead,Array.getElem?_modify,this]
theorem vH {w:World} {g n:Nat} {os:Array Obj} {cur:Array Value} {e:TypeId} {fr:Nat×Nat} (d:Array α) (hb:w.heap[g]? =some (.cells cur e fr)) :
 (sortWorldK f s w g 0 n d os).heap[g]? =some (.cells (putCells id 0 (flatK f s d) cur) e fr):=by
 have hg:g<w.heap.size:=(Array.getElem?_eq_some_iff.1 hb).1;unfold sortWorldK putRowK;rw [heap_grow_old _ _ (by simpa using hg)];simp [putRow,mapBlock,Sort.ahead,Array.getElem?_modify,hb,onCells]
theorem r0 (cur F:Array Value) (h:F.size≤cur.size):(putCells id 0 F cur).toList.take F.size=F.toList:=by
 apply List.ext_getElem?;intro j;by_cases hj:j<F.size
 ·rw [List.getElem?_take_of_lt hj,Array.getElem?_toList];simp [putCells,hj,show j<cur.size by omega]
 ·rw [List.getElem?_take_eq_none (by omega),List.getElem?_eq_none (by simp;omega)]
theorem qW (hf:∀ x,(f x).length=s) (hs:0<s) {w:World} {base g cap n:Nat} {e:TypeId} {os:Array Obj} {cur:List Value} {ts:List α} {m:Nat} (hl:ts.length=m) (hbase:base≤g) (hb:Blk w g e cur.toArray) (h1:m≤cap) (h2:cap≤maxLen) (h3:cur.length=cap*s) :
 (sortWorldK f s w g 0 n ts.toArray os).ownsRow base e s (.slice (some ⟨g,0,none⟩) m cap) m (ts.flatMap f):=by
 subst hl;refine ⟨by rw [dR hf],.inr ⟨g,cap,_,rfl,hbase,vH _ hb,h1,h2,by simp [putCells,h3],?_⟩⟩;have h4:=Nat.mul_le_mul_right s h1;have:=r0 cur.toArray (flatK f s ts.toArray) (by simp;omega);rw [s5 hf hs] at this;simpa using this
end
end Go.Proofs.YtcbakncjacnnjaaGreat
namespace Go.Proofs
open Go.Shelf
def Tryz.sortDoc_ren:Go.Shelf.Ren:=⟨fun | 6=>57 | 15=>80 | 14=>91 | 28=>114 | 29=>115 | 20=>122 | 21=>123 | 22=>124 | 23=>125 | 24=>126 | 25=>127 | 26=>128 | 27=>129 | 46=>158 | 47=>150 | 48=>151 | 49=>159 | 50=>160 | 57=>181 | n=>n,fun | 22=>22 | 24=>37 | 25=>92 | 3=>3 | 39=>67 | 0=>0 | 53=>159 | 55=>161 | 4=>4 | 46=>153 | 45=>152 | 50=>70 | 5=>5 | 9=>9 | 66=>187 | 70=>191 | 76=>219 | 77=>214 | n=>n,fun | n=>n⟩
theorem Tryz.sortDoc:Go.Proofs.SlLaysF0.n6 prog Tryz.sortDoc_ren:={
 mixed:=by kernel_rfl
 f6:=⟨Tryz.f57.name,by decide,Tryz.func57.trans (congrArg some (by kernel_rfl))⟩
 f14:=⟨Tryz.f91.name,by decide,Tryz.func91.trans (congrArg some (by kernel_rfl))⟩
 f15:=Tryz.func80.trans (congrArg some (by kernel_rfl))
 f20:=⟨Tryz.f122.name,by decide,Tryz.func122.trans (congrArg some (by kernel_rfl))⟩
 f21:=⟨Tryz.f123.name,by decide,Tryz.func123.trans (congrArg some (by kernel_rfl))⟩
 f22:=⟨Tryz.f124.name,by decide,Tryz.func124.trans (congrArg some (by kernel_rfl))⟩
 f23:=⟨Tryz.f125.name,by decide,Tryz.func125.trans (congrArg some (by kernel_rfl))⟩
 f24:=⟨Tryz.f126.name,by decide,Tryz.func126.trans (congrArg some (by kernel_rfl))⟩
 f25:=⟨Tryz.f127.name,by decide,Tryz.func127.trans (congrArg some (by kernel_rfl))⟩
 f26:=⟨Tryz.f128.name,by decide,Tryz.func128.trans (congrArg some (by kernel_rfl))⟩
 f27:=⟨Tryz.f129.name,by decide,Tryz.func129.trans (congrArg some (by kernel_rfl))⟩
 f28:=Tryz.func114.trans (congrArg some (by kernel_rfl))
 f29:=Tryz.func115.trans (congrArg some (by kernel_rfl))
 f46:=⟨Tryz.f158.name,by decide,Tryz.func158.trans (congrArg some (by kernel_rfl))⟩
 f47:=Tryz.func150.trans (congrArg some (by kernel_rfl))
 f48:=Tryz.func151.trans (congrArg some (by kernel_rfl))
 f49:=⟨Tryz.f159.name,by decide,Tryz.func159.trans (congrArg some (by kernel_rfl))⟩
 f50:=⟨Tryz.f160.name,by decide,Tryz.func160.trans (congrArg some (by kernel_rfl))⟩
 f57:=⟨Tryz.f181.name,by decide,Tryz.func181.trans (congrArg some (by kernel_rfl))⟩
 t0:=Tryz.underlying0
 a0:=Tryz.isAgg0
 z0:=Tryz.sizeOf0
 v0:=Tryz.zeroValue0
 t3:=Tryz.underlying3
 a3:=Tryz.isAgg3
 z3:=Tryz.sizeOf3
 v3:=Tryz.zeroValue3
 t4:=Tryz.underlying4
 a4:=Tryz.isAgg4
 z4:=Tryz.sizeOf4
 v4:=Tryz.zeroValue4
 t5:=Tryz.underlying5
 a5:=Tryz.isAgg5
 z5:=Tryz.sizeOf5
 v5:=Tryz.zeroValue5
 t9:=Tryz.underlying9
 a9:=Tryz.isAgg9
 z9:=Tryz.sizeOf9
 v9:=Tryz.zeroValue9
 t22:=Tryz.underlying22
 a22:=Tryz.isAgg22
 z22:=Tryz.sizeOf22
 v22:=Tryz.zeroValue22
 t25:=Tryz.underlying92
 a25:=Tryz.isAgg92
 z25:=Tryz.sizeOf92
 v25:=Tryz.zeroValue92
 t39:=Tryz.underlying67
 a39:=Tryz.isAgg67
 z39:=Tryz.sizeOf67
 v39:=Tryz.zeroValue67
 t45:=Tryz.underlying152
 a45:=Tryz.isAgg152
 z45:=Tryz.sizeOf152
 v45:=Tryz.zeroValue152
 t46:=Tryz.underlying153
 a46:=Tryz.isAgg153
 z46:=Tryz.sizeOf153
 v46:=Tryz.zeroValue153
 t50:=Tryz.underlying70
 a50:=Tryz.isAgg70
 z50:=Tryz.sizeOf70
 v50:=Tryz.zeroValue70
 t53:=Tryz.underlying159
 a53:=Tryz.isAgg159
 z53:=Tryz.sizeOf159
 v53:=Tryz.zeroValue159
 t55:=Tryz.underlying161
 a55:=Tryz.isAgg161
 z55:=Tryz.sizeOf161
 v55:=Tryz.zeroValue161
 t66:=Tryz.underlying187
 a66:=Tryz.isAgg187
 z66:=Tryz.sizeOf187
 v66:=Tryz.zeroValue187
 t70:=Tryz.underlying191
 a70:=Tryz.isAgg191
 z70:=Tryz.sizeOf191
 v70:=Tryz.zeroValue191
 t76:=Tryz.underlying219
 a76:=Tryz.isAgg219
 z76:=Tryz.sizeOf219
 v76:=Tryz.zeroValue219
 t77:=Tryz.underlying214
 a77:=Tryz.isAgg214
 z77:=Tryz.sizeOf214
 v77:=Tryz.zeroValue214 }
def Tryz.sortHit_ren:Go.Shelf.Ren:=⟨fun | 6=>43 | 15=>80 | 14=>79 | 28=>114 | 29=>115 | 20=>106 | 21=>107 | 22=>108 | 23=>109 | 24=>110 | 25=>111 | 26=>112 | 27=>113 | 46=>149 | 47=>150 | 48=>151 | 49=>152 | 50=>153 | 57=>179 | n=>n,fun | 22=>44 | 24=>57 | 25=>82 | 3=>3 | 39=>67 | 0=>0 | 53=>159 | 55=>161 | 4=>4 | 46=>153 | 45=>152 | 50=>70 | 5=>5 | 9=>9 | 66=>187 | 70=>191 | 76=>219 | 77=>214 | n=>n,fun | n=>n⟩
theorem Tryz.sortHit:Go.Proofs.SlLaysF0.n6 prog Tryz.sortHit_ren:={
 mixed:=by kernel_rfl
 f6:=⟨Tryz.f43.name,by decide,Tryz.func43.trans (congrArg some (by kernel_rfl))⟩
 f14:=⟨Tryz.f79.name,by decide,Tryz.func79.trans (congrArg some (by kernel_rfl))⟩
 f15:=Tryz.func80.trans (congrArg some (by kernel_rfl))
 f20:=⟨Tryz.f106.name,by decide,Tryz.func106.trans (congrArg some (by kernel_rfl))⟩
 f21:=⟨Tryz.f107.name,by decide,Tryz.func107.trans (congrArg some (by kernel_rfl))⟩
 f22:=⟨Tryz.f108.name,by decide,Tryz.func108.trans (congrArg some (by kernel_rfl))⟩
 f23:=⟨Tryz.f109.name,by decide,Tryz.func109.trans (congrArg some (by kernel_rfl))⟩
 f24:=⟨Tryz.f110.name,by decide,Tryz.func110.trans (congrArg some (by kernel_rfl))⟩
 f25:=⟨Tryz.f111.name,by decide,Tryz.func111.trans (congrArg some (by kernel_rfl))⟩
 f26:=⟨Tryz.f112.name,by decide,Tryz.func112.trans (congrArg some (by kernel_rfl))⟩
 f27:=⟨Tryz.f113.name,by decide,Tryz.func113.trans (congrArg some (by kernel_rfl))⟩
 f28:=Tryz.func114.trans (congrArg some (by kernel_rfl))
 f29:=Tryz.func115.trans (congrArg some (by kernel_rfl))
 f46:=⟨Tryz.f149.name,by decide,Tryz.func149.trans (congrArg some (by kernel_rfl))⟩
 f47:=Tryz.func150.trans (congrArg some (by kernel_rfl))
 f48:=Tryz.func151.trans (congrArg some (by kernel_rfl))
 f49:=⟨Tryz.f152.name,by decide,Tryz.func152.trans (congrArg some (by kernel_rfl))⟩
 f50:=⟨Tryz.f153.name,by decide,Tryz.func153.trans (congrArg some (by kernel_rfl))⟩
 f57:=⟨Tryz.f179.name,by decide,Tryz.func179.trans (congrArg some (by kernel_rfl))⟩
 t0:=Tryz.underlying0
 a0:=Tryz.isAgg0
 z0:=Tryz.sizeOf0
 v0:=Tryz.zeroValue0
 t3:=Tryz.underlying3
 a3:=Tryz.isAgg3
 z3:=Tryz.sizeOf3
 v3:=Tryz.zeroValue3
 t4:=Tryz.underlying4
 a4:=Tryz.isAgg4
 z4:=Tryz.sizeOf4
 v4:=Tryz.zeroValue4
 t5:=Tryz.underlying5
 a5:=Tryz.isAgg5
 z5:=Tryz.sizeOf5
 v5:=Tryz.zeroValue5
 t9:=Tryz.underlying9
 a9:=Tryz.isAgg9
 z9:=Tryz.sizeOf9
 v9:=Tryz.zeroValue9
 t22:=Tryz.underlying44
 a22:=Tryz.isAgg44
 z22:=Tryz.sizeOf44
 v22:=Tryz.zeroValue44
 t25:=Tryz.underlying82
 a25:=Tryz.isAgg82
 z25:=Tryz.sizeOf82
 v25:=Tryz.zeroValue82
 t39:=Tryz.underlying67
 a39:=Tryz.isAgg67
 z39:=Tryz.sizeOf67
 v39:=Tryz.zeroValue67
 t45:=Tryz.underlying152
 a45:=Tryz.isAgg152
 z45:=Tryz.sizeOf152
 v45:=Tryz.zeroValue152
 t46:=Tryz.underlying153
 a46:=Tryz.isAgg153
 z46:=Tryz.sizeOf153
 v46:=Tryz.zeroValue153
 t50:=Tryz.underlying70
 a50:=Tryz.isAgg70
 z50:=Tryz.sizeOf70
 v50:=Tryz.zeroValue70
 t53:=Tryz.underlying159
 a53:=Tryz.isAgg159
 z53:=Tryz.sizeOf159
 v53:=Tryz.zeroValue159
 t55:=Tryz.underlying161
 a55:=Tryz.isAgg161
 z55:=Tryz.sizeOf161
 v55:=Tryz.zeroValue161
 t66:=Tryz.underlying187
 a66:=Tryz.isAgg187
 z66:=Tryz.sizeOf187
 v66:=Tryz.zeroValue187
 t70:=Tryz.underlying191
 a70:=Tryz.isAgg191
 z70:=Tryz.sizeOf191
 v70:=Tryz.zeroValue191
 t76:=Tryz.underlying219
 a76:=Tryz.isAgg219
 z76:=Tryz.sizeOf219
 v76:=Tryz.zeroValue219
 t77:=Tryz.underlying214
 a77:=Tryz.isAgg214
 z77:=Tryz.sizeOf214
 v77:=Tryz.zeroValue214 }
end Go.Proofs
namespace Go.Proofs.YtcbakncjacnnjaaGreat
open Go.Proofs.Tryz (prog)
open Go.RowKit
open Go.ChangeShapes Go.WideShapes Go.ChangeAt
theorem nZ:cQ prog 57 1=some 1:=by kernel_rfl
theorem yF:aH prog 47=true:=by kernel_rfl
theorem yG:aH prog 45=true:=by kernel_rfl
theorem rp:aH prog 58=true:=by kernel_rfl
theorem rn:aH prog 44=true:=by kernel_rfl
def zV (a b:Int):Int:=if a<b then -1 else if b<a then 1 else 0
def vY (x y:Ht):Int:=if jG x.1 y.1≠0 then jG x.1 y.1 else zV x.2 y.2
theorem IM (a b:Int) (w:World):Rt prog 47 [.int .i64 a,.int .i64 b] w fun v w'=>v=.int .i64 (zV a b)∧w=w':=
 Calls.mono (Tryz.cmp_Compare_int a b w) fun e w' h=>⟨_,h.1,by unfold zV;first | rfl | (unfold Lib.compareInt;rfl),h.2.symm⟩
theorem yo (a b:ByteArray) (w:World):Rt prog 46 [.string a,.string b] w fun v w'=>v=.int .i64 (jG a b)∧w=w':=
 Calls.mono (Tryz.strings_Compare a b w) fun e w' h=>⟨_,h.1,by unfold jG;rw [Lib.toList_data,Lib.toList_data],h.2.symm⟩
theorem KY (g:Nat) (x y:Int) (w:World) (hk:Blk w g 3 #[.int .i64 x,.int .i64 y]) :
 Rt prog 45 [.slice (some ⟨g,0,none⟩) 2 2] w (fun v w'=>v=.int .i64 (if x≠0 then x else y)∧w=w'):=by
 refine enter (n:=18) Tryz.func45 rfl rfl rfl (ag (aa (asi rfl (ah (ab (ag (aa (asi rfl (ah (ab (ag (ag (aa (mvs rfl (ae (aS bP rfl) (mvi rfl ?_))))))))))))))));refine ah (ab (az (bg (G:=Nat) [2,5,9,10,11,12,13,14,15,16] (fun i=>[(8,.int .i64 (i:Nat))]) (fun i w'=>(i≤2∧(0<i→x=0)∧(1<i→y=0))∧w=w') (fun i=>2-i) (0) ⟨rfl,trivial⟩ ?_ ?_)))
 ·exact ⟨⟨Nat.zero_le _,fun h=>absurd h (by omega),fun h=>absurd h (by omega)⟩,rfl⟩
 rintro i ρ1 w1 ⟨⟨hi,hx0,hy0⟩,rfl⟩;refine ag (aa (ae (aX rfl rfl) (ah (ab (ag (Li rfl (fun Q2=>?_) (fun Q2=>?_)))))))
 ·obtain ⟨u,hu,hx⟩:∃ u:Int,u=(if i=0 then x else y)∧w.cell? ⟨g,0+i,none⟩=some (.int .i64 u):=by
   rcases Nat.eq_zero_or_pos i with e | e
   ·subst e;exact ⟨x,rfl,hk.rd 0 rfl⟩
   ·obtain rfl:i=1:=by omega
    exact ⟨y,rfl,hk.rd 1 rfl⟩
  refine au (ab (ag (az (ag (aa (ae (bk cd rfl rfl (by omega)) (ae (aq aY rfl (by exact hx)) ?_)))))));refine asi rfl (ah (ab (ag (aa (mvi rfl (mvi rfl (ae (cq rfl rfl) (ah (ab (Lf rfl (fun Q3=>?_) (fun Q3=>?_)))))))))))
  ·refine ag (aa (mvi rfl (asi rfl (ah (ab (ay (bn (aC (aC (bn (aC (bE (v:=.int _ _) rfl rfl (⟨congrArg (Value.int .i64) ?_,rfl⟩)))))))))))));rcases Nat.eq_zero_or_pos i with e | e
   ·subst e;rw [if_pos rfl] at hu;subst hu;rw [if_pos (by omega)]
   ·obtain rfl:i=1:=by omega
    rw [if_neg (by omega)] at hu;subst hu;rw [if_neg (by have:=hx0 e;omega)]
  refine au (aN (ab (aa (ae (aJ (b:=1) rfl rfl (by omega)) (mvi rfl (ah ?_))))));refine aR (i+1) ⟨(by first | rfl | (refine aM ?_;omega)),trivial⟩ (by (iterate 20 refine aF rfl ?_);exact aK) ⟨?_,?_⟩
  ·refine ⟨⟨by omega,fun _=>?_,fun h=>?_⟩,rfl⟩
   ·rcases Nat.eq_zero_or_pos i with e | e
    ·subst e;omega
    ·exact hx0 e
   ·obtain rfl:i=1:=by omega
    omega
  ·show 2-(i+1)<2-i;omega
 refine aZ (aD (aD (aU (ab (ag (aa (mvi rfl (asi rfl (ah (ab (ay (bE (v:=.int _ _) rfl rfl ?_))))))))))));obtain rfl:i=2:=by omega
 have h1:=hx0 (by omega);have h2:=hy0 (by omega);subst h1 h2;exact ⟨rfl,rfl⟩
theorem Ed (x y:Ht) (w:World) :
 Rt prog 44 [.agg (hV x).toArray,.agg (hV y).toArray] w (fun v w'=>v=.int .i64 (vY x y)∧Gr w w'):=by
 refine enter (n:=17) Tryz.func44 rfl rfl rfl (ag (aa (DG.cW (v:=.agg _) rfl ?_)));intro b2 w1 E2 hb2 hk2;refine DG.cW (v:=.agg _) rfl ?_;intro b3 w2 E3 hb3 hk3;refine asi rfl (ah (ab (ag ?_)));apply DG.bH 13 [(5,eqp _),(6,eqp (.string x.1)),(7,eqp _),(8,eqp (.string y.1)),(9,eqp (.int .i64 (jG x.1 y.1))),(10,eqp _),(11,eqp (.int .i64 x.2)),(12,eqp _),(13,eqp (.int .i64 y.2)),(14,eqp (.int .i64 (zV x.2 y.2))),(15,fun v w'=>∃ b,v=.slice (some ⟨b,0,none⟩) 2 2∧Blk w' b 3 #[.int .i64 (jG x.1 y.1),.int .i64 (zV x.2 y.2)]),(16,eqp (.int .i64 (vY x y))),(4,eqp (.int .i64 (vY x y)))] (by repeat first | exact bT | refine bS ?_ | refine bG ?_) (by kernel_rfl) (by kernel_rfl) ⟨DG.af _,DG.af _,DG.af _,DG.af _,DG.af _,DG.af _,DG.af _,DG.af _,DG.af _,DG.af _,(fun _ _ _ hF ⟨b,h1,h2⟩=>⟨b,h1,h2.from_ (Gr.from_ hF)⟩),DG.af _,DG.af _,trivial⟩
 case hop=>
  constructor
  ·rintro-w4 D4;show DG.ao ..;exact DG.ai (ak mj rfl) rfl
  constructor
  ·rintro-w5 D5;rintro _ rfl;show DG.ao ..;exact DG.ai (aq bf rfl (by exact (hk2.from_ (Gr.from_ (E3.next ((Gr.rfl_.next D5))))).rd 0 rfl)) rfl
  constructor
  ·rintro-w6 D6;show DG.ao ..;exact DG.ai (ak mj rfl) rfl
  constructor
  ·rintro-w7 D7;rintro _ rfl;show DG.ao ..;exact DG.ai (aq bf rfl (by exact (hk3.from_ (Gr.from_ ((Gr.rfl_.next D7)))).rd 0 rfl)) rfl
  constructor
  ·rintro-w8 D8;rintro v8_6 rfl v8_8 rfl;show DG.ao ..;refine DG.dP iT ((yo x.1 y.1 _).mono ?_);rintro _ _ ⟨rfl,rfl⟩;exact ⟨Gr.rfl_,rfl⟩
  constructor
  ·rintro-w9 D9;show DG.ao ..;exact DG.ai (ak nZ rfl) rfl
  constructor
  ·rintro-w10 D10;rintro _ rfl;show DG.ao ..;exact DG.ai (aq aY rfl (by exact (hk2.from_ (Gr.from_ (E3.next ((Gr.rfl_.next D10))))).rd 1 rfl)) rfl
  constructor
  ·rintro-w11 D11;show DG.ao ..;exact DG.ai (ak nZ rfl) rfl
  constructor
  ·rintro-w12 D12;rintro _ rfl;show DG.ao ..;exact DG.ai (aq aY rfl (by exact (hk3.from_ (Gr.from_ ((Gr.rfl_.next D12)))).rd 1 rfl)) rfl
  constructor
  ·rintro-w13 D13;rintro v13_11 rfl v13_13 rfl;show DG.ao ..;refine DG.dP yF ((IM x.2 y.2 _).mono ?_);rintro _ _ ⟨rfl,rfl⟩;exact ⟨Gr.rfl_,rfl⟩
  constructor
  ·rintro-w14 D14;rintro v14_9 rfl v14_14 rfl;show DG.ao ..;exact DG.d_ (su (l:=[(0,.tmp 9),(1,.tmp 14)]) (cells:=#[.int .i64 (jG x.1 y.1),.int .i64 (zV x.2 y.2)]) (m:=2) dc (by decide) (by decide) (by kernel_rfl)) (Gr.new Gr.rfl_ _) ⟨_,rfl,Blk.new _ _ _⟩
  constructor
  ·rintro-w15 D15;rintro v15_15 ⟨b15,rfl,hk15⟩;show DG.ao ..;refine DG.dP yG ((KY b15 _ _ _ hk15).mono ?_);rintro _ _ ⟨rfl,rfl⟩;exact ⟨Gr.rfl_,rfl⟩
  constructor
  ·rintro-w16 D16;rintro v16_16 rfl;show DG.ao ..;exact DG.ai (bQ (v:=.int _ _) rfl) rfl
  exact trivial
 case hend=>
  intro w17 D17;rintro _ rfl v6 rfl _ rfl v8 rfl v9 rfl _ rfl v11 rfl _ rfl v13 rfl v14 rfl v15 ⟨b15,rfl,hk15⟩ v16 rfl v4 rfl;show St ..;refine ah (ab (ay (bE (v:=.int _ _) rfl rfl (⟨rfl,(((Gr.rfl_.next E2).next E3).next D17)⟩))))
theorem Gj (x y:Dc) (w:World) :
 Rt prog 58 [.agg (dV x).toArray,.agg (dV y).toArray] w (fun v w'=>v=.int .i64 (jG x.1 y.1)∧Gr w w'):=by
 refine enter (n:=10) Tryz.func58 rfl rfl rfl (ag (aa (DG.cW (v:=.agg _) rfl ?_)));intro b2 w1 E2 hb2 hk2;refine DG.cW (v:=.agg _) rfl ?_;intro b3 w2 E3 hb3 hk3;refine asi rfl (ah (ab (ag (aa (ae (ak aW rfl) (ae (aq bf rfl (by exact (hk2.from_ (Gr.from_ (E3.next (Gr.rfl_)))).rd 0 rfl)) ?_))))));refine ae (ak aW rfl) (ae (aq bf rfl (by exact (hk3.from_ (Gr.from_ (Gr.rfl_))).rd 0 rfl)) ?_);refine aA iT (yo x.1 y.1 _) ?_;rintro v9 w3 ⟨rfl,rfl⟩;refine asi rfl (ah (ab (ay (bE (v:=.int _ _) rfl rfl (⟨rfl,((Gr.rfl_.next E2).next E3)⟩)))))
theorem Ie:Go.Sort.SWO (Go.Proofs.ltOf fun x y:Dc=>jG x.1 y.1):=by
 have e:∀ x y:Dc,Go.Proofs.ltOf (fun x y:Dc=>jG x.1 y.1) x y=true↔ltD x y:=fun x y=>by unfold Go.Proofs.ltOf;rw [decide_eq_true_iff];exact kU
 have e2:∀ x y:Dc,Go.Proofs.ltOf (fun x y:Dc=>jG x.1 y.1) x y=false↔¬ ltD x y:=fun x y=>by rw [←e,Bool.not_eq_true]
 exact ⟨fun x=>(e2 x x).2 (iJ.irr x),fun x y z h k=>(e x z).2 (ep ((e x y).1 h) ((e y z).1 k)),fun x y z h k=>(e2 x z).2 fun q=>iJ.tr ((e2 y z).1 k) ((e2 x y).1 h) q⟩
theorem B0 {x y:Ht}:vY x y<0↔hLt x y:=by
 unfold vY hLt zV;by_cases h:jG x.1 y.1=0
 ·have e:=jz.1 h;rw [if_neg (fun k=>k h)];constructor
  ·intro h2;exact .inr ⟨e,by split at h2 <;> first | assumption | (split at h2 <;> omega)⟩
  ·rintro (h2 | ⟨_,h2⟩)
   ·rw [e] at h2;exact absurd h2 (fF _)
   ·rw [if_pos h2];omega
 ·rw [if_pos h,kU];exact ⟨.inl,fun h2=>h2.elim id fun h3=>absurd (jz.2 h3.1) h⟩
theorem If:Go.Sort.SWO (Go.Proofs.ltOf vY):=by
 have e:∀ x y:Ht,Go.Proofs.ltOf vY x y=true↔hLt x y:=fun x y=>by unfold Go.Proofs.ltOf;rw [decide_eq_true_iff];exact B0
 have e2:∀ x y:Ht,Go.Proofs.ltOf vY x y=false↔¬ hLt x y:=fun x y=>by rw [←e,Bool.not_eq_true]
 exact ⟨fun x=>(e2 x x).2 (ox x),fun x y z h k=>(e x z).2 (qA ((e x y).1 h) ((e y z).1 k)),fun x y z h k=>(e2 x z).2 fun q=>by
  rcases BK x y with a | a | a
  ·exact (e2 x y).1 h a
  ·subst a;exact (e2 x z).1 k q
  ·exact (e2 y z).1 k (qA a q)⟩
instance:Inhabited Dc:=⟨(⟨#[]⟩,⟨#[]⟩)⟩
theorem Ct (base:Nat) (A:Option Addr) (c n:Nat) (xs:List Dc) (w:World) (ho:w.ownsRow base 37 2 (.slice A n c) n (xs.flatMap dV)) (hl:n≤100000000) :
 Rt prog 57 [.slice A n c,.func (.func 58) #[] #[]] w fun _ w'=>(∃ ys:List Dc,ys.Perm xs∧(ys.Pairwise fun a b=>¬ ltD b a)∧w'.ownsRow base 37 2 (.slice A n c) n (ys.flatMap dV))∧w.grownBy w' (A.map (·.block)):=by
 have hxl:xs.length=n:=fS bI ho;rcases Nat.eq_zero_or_pos n with h0 | h0
 ·subst h0;obtain rfl:=List.eq_nil_of_length_eq_zero hxl;exact Calls.mono (AnyF.slices_SortFunc_none Tryz.sortDoc A c _ w) fun e w' h=>⟨_,h.1,by rw [h.2];exact ⟨⟨[],.refl _,List.Pairwise.nil,ho⟩,World.grownBy.refl _ _⟩⟩
 ·obtain ⟨g,cur,rfl,hg,hbk,hnc,hcm,hcl,hct⟩:=fH ho h0;subst hxl;have hk:=AnyQ.slices_SortFunc Tryz.sortDoc 2 (fun w=>lL bO) (fun w=>dW bq) dV bI jY (fun x y:Dc=>jG x.1 y.1) Ie 58 #[] g 0 c xs.toArray w (fun args w=>fR rp args) (fun m os dk _ x y=>?_) (uS bI (by decide) hbk hct) hbk.lt (by simp;omega)
  ·refine Calls.mono hk fun e w' ⟨he,d',n2,os,hp,hs,hw⟩=>⟨_,he,?_,?_⟩
   ·obtain ⟨ts⟩:=d';have hlen:ts.length=xs.length:=by simpa using hp.1
    refine ⟨ts,?_,?_,?_⟩
    ·have:=hp.2.2;simpa [hlen,Array.extract_eq_self_of_le] using this
    ·rw [List.pairwise_iff_getElem];intro i j hi hj hij;have h9:=hs i j (Nat.zero_le _) hij (by simpa [hlen] using hj);rw [getElem!_pos _ _ (by simpa using hj),getElem!_pos _ _ (by simpa using hi)] at h9;unfold Go.Proofs.ltOf at h9;rw [decide_eq_false_iff_not,kU] at h9
     first | exact h9 | simpa using h9 | simpa [ltD] using h9
    ·rw [hw];exact qW bI (by decide) hlen hg hbk hnc hcm hcl
   ·rw [hw];exact mC _
  ·refine Calls.mono (Gj x y _) fun e w' ⟨v,he,hv,hG⟩=>?_
   subst hv;exact ⟨he,hG⟩
instance:Inhabited Ht:=⟨(⟨#[]⟩,0)⟩
theorem Cs (base:Nat) (A:Option Addr) (c n:Nat) (xs:List Ht) (w:World) (ho:w.ownsRow base 57 2 (.slice A n c) n (xs.flatMap hV)) (hl:n≤100000000) :
 Rt prog 43 [.slice A n c,.func (.func 44) #[] #[]] w fun _ w'=>(∃ ys:List Ht,ys.Perm xs∧(ys.Pairwise fun a b=>¬ hLt b a)∧w'.ownsRow base 57 2 (.slice A n c) n (ys.flatMap hV))∧w.grownBy w' (A.map (·.block)):=by
 have hxl:xs.length=n:=fS eB ho;rcases Nat.eq_zero_or_pos n with h0 | h0
 ·subst h0;obtain rfl:=List.eq_nil_of_length_eq_zero hxl;exact Calls.mono (AnyF.slices_SortFunc_none Tryz.sortHit A c _ w) fun e w' h=>⟨_,h.1,by rw [h.2];exact ⟨⟨[],.refl _,List.Pairwise.nil,ho⟩,World.grownBy.refl _ _⟩⟩
 ·obtain ⟨g,cur,rfl,hg,hbk,hnc,hcm,hcl,hct⟩:=fH ho h0;subst hxl;have hk:=AnyQ.slices_SortFunc Tryz.sortHit 2 (fun w=>lL js) (fun w=>dW gF) hV eB Ix (vY) If 44 #[] g 0 c xs.toArray w (fun args w=>fR rn args) (fun m os dk _ x y=>?_) (uS eB (by decide) hbk hct) hbk.lt (by simp;omega)
  ·refine Calls.mono hk fun e w' ⟨he,d',n2,os,hp,hs,hw⟩=>⟨_,he,?_,?_⟩
   ·obtain ⟨ts⟩:=d';have hlen:ts.length=xs.length:=by simpa using hp.1
    refine ⟨ts,?_,?_,?_⟩
    ·have:=hp.2.2;simpa [hlen,Array.extract_eq_self_of_le] using this
    ·rw [List.pairwise_iff_getElem];intro i j hi hj hij;have h9:=hs i j (Nat.zero_le _) hij (by simpa [hlen] using hj);rw [getElem!_pos _ _ (by simpa using hj),getElem!_pos _ _ (by simpa using hi)] at h9;unfold Go.Proofs.ltOf at h9;rw [decide_eq_false_iff_not,B0] at h9
     first | exact h9 | simpa using h9 | simpa [ltD] using h9
    ·rw [hw];exact qW eB (by decide) hlen hg hbk hnc hcm hcl
   ·rw [hw];exact mC _
  ·refine Calls.mono (Ed x y _) fun e w' ⟨v,he,hv,hG⟩=>?_
   subst hv;exact ⟨he,hG⟩
end Go.Proofs.YtcbakncjacnnjaaGreat
namespace Go.Proofs.YtcbakncjacnnjaaGreat
open Go.Proofs.Tryz (prog)
open Go.RowKit
open Go.ChangeShapes Go.WideShapes Go.ChangeAt
open Go.Proofs.YtcbakncjacnnjaaGreat.SA
theorem yI:prog.underlying 9=some .string:=by kernel_rfl
theorem mq:aH prog 39=true:=by kernel_rfl
theorem AH:aH prog 57=true:=by kernel_rfl
theorem AG:aH prog 78=true:=by kernel_rfl
theorem tN:∀ (a0:ByteArray) (a1:Int),prog.built 57 [(0,.string a0),(1,.int .i64 a1)]=some #[.string a0,.int .i64 a1]:=by intros;kernel_rfl
theorem Cw {ys:List Dc} (hs:ys.Pairwise fun a b=>¬ ltD b a) (hd:Dif ys):SD ys:=(hs.and hd).imp fun {a b} h=>by
 rcases lY a.1 b.1 with e | e | e
 ·exact e
 ·exact absurd e h.2
 ·exact absurd e h.1
theorem yb {ps:List Pt} {L D ys:List Dc} (hG:ShG ps L D) (hp:ys.Perm (jI ps L)) (hs:ys.Pairwise fun a b=>¬ ltD b a):ys=D:=
 SD.uniq (Cw hs (hG.dif.perm hp.symm)) hG.sd (hp.trans hG.perm.symm)
noncomputable def pf (ps:List Pt) (L:List Dc) (i:Nat):List Dc:=L++(ps.take i).flatMap Pt.live
theorem Bt (ps:List Pt) (L:List Dc):pf ps L 0=L:=List.append_nil L
theorem JN (ps:List Pt) (L:List Dc):pf ps L ps.length=jI ps L:=by unfold pf jI;rw [List.take_length]
theorem Bu {ps:List Pt} {L:List Dc} {i:Nat} (h:i<ps.length):pf ps L (i+1)=pf ps L i++ps[i].live:=by
 unfold pf;rw [List.take_succ_eq_append_getElem h,List.flatMap_append,List.append_assoc,List.flatMap_cons,List.flatMap_nil,List.append_nil]
theorem HY {ps:List Pt} {L:List Dc} {i:Nat} (_:i≤ps.length):∃ r,jI ps L=pf ps L i++r:=by
 refine ⟨(ps.drop i).flatMap Pt.live,?_⟩;unfold pf jI;rw [List.append_assoc,←List.flatMap_append,List.take_append_drop]
theorem I7 {ps:List Pt} {L D:List Dc} (hG:ShG ps L D) {i:Nat} (h:i≤ps.length):(pf ps L i).length≤64∧dsz (pf ps L i)≤16384:=by
 obtain ⟨r,e⟩:=HY (L:=L) h;have h1:=hG.perm;rw [e] at h1;have h2:=s6 hG.fit h1.symm;have h3:=h2.1;have h4:=h2.2.2;rw [List.length_append] at h3;rw [pw] at h4;omega
theorem HO {t q:ByteArray} {k:Nat}:(txt q).isPrefixOf ((txt t).drop k)=q.toList.isPrefixOf (t.toList.drop k):=by
 rw [←vS,Bool.eq_iff_iff,beq_iff_eq,pb,mN,s8,Nat.add_sub_cancel_left]
theorem qw {t q:List Nat} {a:Nat}:∀ d,(∀ j,a≤j→j<a+d→q.isPrefixOf (t.drop j)=false)→ig t q (a+d)=ig t q a
 |0,_=>rfl
 |d+1,h=>by
  rw [←Nat.add_assoc,vC (h (a+d) (by omega) (by omega)),qw d fun j h1 h2=>h j h1 (by omega)]
theorem FT {t q:ByteArray} {a:Nat} (ha:a≤t.size) (hq:q.size≠0):(Lib.index (t.extract a t.size).data.toList q.data.toList=-1∧ks (txt t) (txt q)=ig (txt t) (txt q) a)∨∃ k:Nat,Lib.index (t.extract a t.size).data.toList q.data.toList=(k:Int)∧a+k+q.size≤t.size∧ig (txt t) (txt q) (a+k+1)=ig (txt t) (txt q) a++[a+k]:=by
 have h0:txt q≠[]:=fun e=>hq (by rw [←ef,e];rfl)
 have hl:(t.extract a t.size).data.toList=t.toList.drop a:=by
  rw [←Lib.toList_data,s8,List.take_of_length_le (by rw [List.length_drop,mN];omega)]
 have hat:∀ j,Lib.occAt (t.toList.drop a) q.toList j=(txt q).isPrefixOf ((txt t).drop (a+j)):=fun j=>by
  rw [HO];unfold Lib.occAt;rw [List.drop_drop]
 rw [hl,←Lib.toList_data q];have hlen:(t.toList.drop a).length=t.size-a:=by rw [List.length_drop,mN]
 rcases Lib.index_spec (t.toList.drop a) q.toList with ⟨h1,h2⟩ | ⟨k,h1,h2,h3,h4⟩
 ·refine .inl ⟨h1,?_⟩;rw [Jh (k:=t.size+1) h0 (by rw [ef,ef];omega) (by rw [ef];exact Nat.le_refl _)]
  have:=qw (t:=txt t) (q:=txt q) (a:=a) (t.size+1-a) fun j j1 j2=>by
   have:=h2 (j-a) (by omega);rw [hat,show a+(j-a)=j by omega] at this;exact this
  rwa [show a+(t.size+1-a)=t.size+1 by omega] at this
 ·rw [hat] at h3;have h5:=(List.isPrefixOf_iff_prefix.1 h3).length_le;rw [List.length_drop,ef,ef] at h5;refine .inr ⟨k,h1,by omega,?_⟩
  rw [xX h3,qw k fun j j1 j2=>by
   have:=h4 (j-a) (by omega);rw [hat,show a+(j-a)=j by omega] at this;exact this]
theorem Cx (s sub:ByteArray) (m:Int) (w:World) (hs:s.size<4294967281) (hm:w.cell? ⟨0,0,none⟩=some (.int .i64 m)):Rt prog 78 [.string s,.string sub] w fun v w'=>v=.int .i64 (Lib.index s.data.toList sub.data.toList)∧w=w':=
 Calls.mono (Tryz.strings_Index s sub m w hs hm) fun _ _ h=>⟨_,h.1,rfl,h.2.symm⟩
theorem zc (t q:ByteArray) (a:Nat) (m:Int) (w:World) (ha:a≤t.size) (hq:q.size≠0) (ht:t.size≤1000000) (hm:w.cell? ⟨0,0,none⟩=some (.int .i64 m)):Rt prog 78 [.string (t.extract a t.size),.string q] w fun v w'=>((v=.int .i64 (-1)∧ks (txt t) (txt q)=ig (txt t) (txt q) a)∨∃ k:Nat,v=.int .i64 (k:Nat)∧a+k+q.size≤t.size∧ig (txt t) (txt q) (a+k+1)=ig (txt t) (txt q) a++[a+k])∧w=w':=
 (Cx _ q m w (by rw [ByteArray.size_extract];omega) hm).mono fun v w' h=>by
  obtain ⟨rfl,rfl⟩:=h;refine ⟨?_,rfl⟩;rcases FT ha hq with ⟨h1,h2⟩ | ⟨k,h1,h2,h3⟩
  ·exact .inl ⟨by rw [h1],h2⟩
  ·exact .inr ⟨k,by rw [h1],h2,h3⟩
def hTo (d:Dc) (q:ByteArray) (a:Nat):List Ht:=(ig (txt d.2) (txt q) a).map fun k=>(d.1,((k:Nat):Int))
theorem kf (U:Nat→Prop) (s:Nat) (D:List Dc) (w:World) (hs:dD w U s D) :
 Rt prog 28 [.pointer (some ⟨s,0,none⟩)] w (fun v w'=>(∃ A' c',v=.slice A' D.length c'∧w'.ownsRow w.heap.size 37 2 (.slice A' D.length c') D.length (D.flatMap dV))∧aj w w'):=by
 have hs0:=hs;obtain ⟨ps,L,Ap,cp,Al,cl,hG,h,hU⟩:=hs;have hll:=hG.loose;have hpl:=hG.parts;refine enter (n:=31) Tryz.func28 rfl rfl rfl (ag (aa (ass rfl (ah (ab (ag (aa (mvp rfl (ae (aw rfl) (ae (ak eo rfl) (ae (aq bK rfl (by exact (h.blk.from_ aj.rfl_).rd 1 rfl)) ?_)))))))))));refine aA nv (vZ Al cl L.length L _ ((cL.own bI (by decide) h.rowL).2.from_ aj.rfl_) rfl (ph h.rowL) (by omega)) ?_;rintro v9 w1 ⟨⟨A9,c9,rfl,ho9⟩,E9⟩;refine ass rfl (ah (ab (ag (ag (aa (mvp rfl (ae (aw rfl) (ae (ak cz rfl) (ae (aq dX rfl (by exact (h.blk.from_ (aj.rfl_.next E9)).rd 0 rfl)) ?_)))))))));refine ae (aS dt rfl) (mvi rfl (ah (ab (az (bg (G:=Nat×Option Addr×Nat) [4,16,17,18,19,20,21,22,23,24,25,26,27] (fun (i,A3,c3)=>[(3,.slice A3 (pf ps L i).length c3),(15,.int .i64 (i:Nat))]) (fun (i,A3,c3) w'=>i≤ps.length∧w'.ownsRow w.heap.size 37 2 (.slice A3 (pf ps L i).length c3) (pf ps L i).length ((pf ps L i).flatMap dV)∧aj w w') (fun (i,_,_)=>ps.length-i) ((0,A9,c9)) ⟨(by rw [Bt];rfl),rfl,trivial⟩ ?_ ?_)))))
 ·exact ⟨Nat.zero_le _,by rw [Bt];exact ho9,(aj.rfl_.next E9)⟩
 rintro ⟨i,A3,c3⟩ ρ2 w2 ⟨hi,ho3,hB⟩;obtain ⟨hpl3,hpz3⟩:=I7 hG hi;refine ag (aa (ae (aX rfl rfl) (ah (ab (ag (Li rfl (fun Q3=>?_) (fun Q3=>?_)))))))
 ·have hil:i<ps.length:=by omega
  obtain ⟨g,rfl⟩:=dF h.rowP (by omega);have hpf:(pf ps L (i+1)).length=(pf ps L i).length+ps[i].live.length:=by rw [Bu hil,List.length_append]
  obtain ⟨hpl4,_⟩:=I7 hG (show i+1≤ps.length by omega);refine au (ab (ag (az (ag (aa (mvi rfl (asi rfl (ah (ab (aa (mvs rfl (mvp rfl (ae (aw rfl) (ae (ak cz rfl) (ae (aq dX rfl (by exact (h.blk.from_ hB).rd 0 rfl)) ?_)))))))))))))));refine mvi rfl (ae (aG cN rfl rfl (by omega)) (aA mq (rM g (0+i*2) ps[i] _ ((sA h.rowP (fun p hp=>h.ptIn hG hp) hil).from_ hB)) ?_));rintro v25 w4 ⟨⟨A25,c25,rfl,ho25⟩,E25⟩;refine cZ dr rfl (by decide) rfl (A:=A3) (xs:=List.flatMap dV (pf ps L i)) (news:=List.flatMap dV ps[i].live) (ho3.kept_from (aj.rfl_.next E25)) ((hB.next E25).size) rfl (dR bI _) (fun h=>((cL.own bI (by decide) ho25).2).flat bI h) (fun e=>by subst e;exact jE ho25) (nb _) (by omega) (by omega) ?_;intro A26 c26 w5 ho26 hg26;have HF26:=((hB.next E25)).grew hg26 (fun k hk=>(b_ (ho3.kept_from (aj.rfl_.next E25)) k hk).1);refine ass rfl (ah (aN (ab (aa (ae (aJ (b:=1) rfl rfl (by omega)) (mvi rfl (ah ?_)))))));refine aR ((i+1,A26,c26)) ⟨(by rw [hpf];rfl),rfl,trivial⟩ (by (iterate 30 refine aF rfl ?_);exact aK) ⟨?_,?_⟩
  ·exact ⟨by omega,by rw [hpf,Bu hil,List.flatMap_append];exact ho26,HF26⟩
  ·show ps.length-(i+1)<ps.length-i;omega
 refine aZ (aD (aD (aU (ab (ag (aa (mvs rfl (aA AH (Ct _ A3 c3 (pf ps L i).length (pf ps L i) _ ho3 (by omega)) ?_))))))));rintro v29 w6 ⟨⟨ys,hyp,hys,hoy⟩,hg29⟩;refine ah (ab (ag (aa (mvs rfl (ass rfl (ah (ab (ay (bE (v:=.slice _ _ _) rfl rfl ?_)))))))));obtain rfl:i=ps.length:=by omega
 rw [JN] at hyp hoy ⊢;obtain rfl:=yb hG hyp hys;rw [←hyp.length_eq] at hoy ⊢;exact ⟨⟨A3,c3,rfl,hoy⟩,((hB).grew hg29 (fun k hk=>(b_ ho3 k hk).1))⟩
theorem Hi (d:Dc) (q:ByteArray) (m:Int) (w:World) (hm:w.cell? ⟨0,0,none⟩=some (.int .i64 m)) (hd:d.2.size≤2048) (hq:q.size≠0) :
 Rt prog 42 [.agg (dV d).toArray,.string q] w (fun v w'=>(∃ A' c',v=.slice A' (hOf d q).length c'∧w'.ownsRow w.heap.size 57 2 (.slice A' (hOf d q).length c') (hOf d q).length ((hOf d q).flatMap hV))∧aj w w'):=by
 refine enter (n:=29) Tryz.func42 rfl rfl rfl (ag (aa (cW (v:=.agg _) rfl ?_)));intro b2 w1 E2 hb2 hk2;refine ass rfl (ah (ab (ag (aa (ass rfl (ah (ab (ag (aa (asi rfl (ah (ab (az (bg (G:=Nat×Option Addr×Nat) [4,7,8,9,10,11,12,13,14,15,16,17,18,19,20,21,22,23,24,25,26,27,28] (fun (a,A5,c5)=>[(5,.slice A5 (hTo d q a).length c5),(6,.int .i64 (a:Nat))]) (fun (a,A5,c5) w'=>a≤d.2.size∧w'.ownsRow w.heap.size 57 2 (.slice A5 (hTo d q a).length c5) (hTo d q a).length ((hTo d q a).flatMap hV)∧Blk w' b2 37 (dV d).toArray∧aj w w') (fun (a,_,_)=>d.2.size-a) ((0,none,0)) ⟨rfl,rfl,trivial⟩ ?_ ?_))))))))))))))
 ·exact ⟨Nat.zero_le _,World.ownsRow_nil _ _ _ _,hk2.from_ aj.rfl_,(aj.rfl_.next E2)⟩
 rintro ⟨a,A5,c5⟩ ρ2 w2 ⟨ha,ho5,hP,hB⟩;refine ag (az (ag (aa (ae (ak cf rfl) (ae (aq bf rfl (by exact (hP.from_ aj.rfl_).rd 1 rfl)) ?_)))));refine mvi rfl (ae (Bm (l:=a) (h:=d.2.size) yI rfl (.inr ⟨_,_,_,rfl,rfl,rfl⟩) (.inl ⟨rfl,rfl⟩) (by omega) (by omega)) (mvg rfl (aA AG (zc d.2 q a m _ ha hq (by omega) (br hB hm)) ?_)));rintro v15 w3 ⟨hix,rfl⟩;rcases hix with ⟨rfl,hks⟩ | ⟨k,rfl,hak,hks⟩
 ·refine asi rfl (ah (ab (ag (ag (aa (mvi rfl (ae (aX rfl rfl) (ah (ab (Li rfl (fun Q4=>?_) (fun Q4=>?_)))))))))));rotate_left
  ·exfalso;omega
  refine ag (aa (mvs rfl (ass rfl (ah (ab (ay (aC (bn (aC (aC (bn (bE (v:=.slice _ _ _) rfl rfl ?_))))))))))));have e:hOf d q=hTo d q a:=by unfold hOf hTo;rw [hks]
  rw [e];exact ⟨⟨A5,c5,rfl,ho5⟩,hB⟩
 have hht:hTo d q (a+k+1)=hTo d q a++[(d.1,((a+k:Nat):Int))]:=by unfold hTo;rw [hks,List.map_append];rfl
 have hhl:(hTo d q (a+k+1)).length=(hTo d q a).length+1:=by rw [hht,List.length_append];rfl
 refine asi rfl (ah (ab (ag (ag (aa (mvi rfl (ae (aX rfl rfl) (ah (ab (Li rfl (fun Q7=>?_) (fun Q7=>?_)))))))))))
 ·exfalso;omega
 refine au (ab (ag (aa (mvi rfl (mvi rfl (ae (aJ rfl rfl (by omega)) (asi rfl (ah (ab (aa (mvs rfl (ae (ak aW rfl) (ae (aq bf rfl (by exact (hP.from_ aj.rfl_).rd 0 rfl)) ?_)))))))))))));refine mvi rfl (ae (du (l:=[(0,.tmp 24),(1,.tmp 25)]) (tN _ _)) (gd eO rfl rfl rfl ?_));intro b27 w8 E27 hb27 hk27;have hM28:=(aj.rfl_.next E27);have hP2:=hP.from_ hM28;have hkl:=vD (t:=txt d.2) (q:=txt q) (k:=a);have hkl2:(hTo d q a).length≤a:=by unfold hTo;rw [List.length_map];exact hkl
 refine cZ eO rfl (by decide) rfl (A:=A5) (xs:=(hTo d q a).flatMap hV) (news:=hV (d.1,((a+k:Nat):Int))) (ho5.kept_from (aj.rfl_.next E27)) ((hB.next E27).size) rfl rfl (fun _=>⟨b27,0,rfl,hk27.whole⟩) (fun h=>by cases h) (by simp [hV,Value.oneCell']) (by omega) (by omega) ?_;intro A28 c28 w9 ho28 hg28;have HF28:=((hB.next E27)).grew hg28 (fun k hk=>(b_ (ho5.kept_from (aj.rfl_.next E27)) k hk).1);refine ass rfl (ah (aN (ab (aa (mvi rfl (ae (aJ (b:=1) rfl rfl (by omega)) (asi rfl (ah ?_))))))));refine aR ((a+k+1,A28,c28)) ⟨(by rw [hhl];rfl),rfl,trivial⟩ (by (iterate 49 refine aF rfl ?_);exact aK) ⟨?_,?_⟩
 ·exact ⟨by omega,by rw [hhl,hht,List.flatMap_append];exact ho28,hP2.grown hg28 (dz (ho5.kept_from hM28) hP2 (by decide)),HF28⟩
 ·show d.2.size-(a+k+1)<d.2.size-a;omega
theorem DI:dY prog 64=some 1:=by kernel_rfl
theorem DJ:aH prog 70=true:=by kernel_rfl
noncomputable def kN (D:List Dc) (d:Dc):Int:=if ¬ (1≤d.1.size∧d.1.size≤64) then 1 else if 2048<d.2.size then 2 else if @decide (∃ e∈D,e.1=d.1) (Classical.propDecidable _)=true then 4 else if 64≤D.length∨16384<dsz D+d.2.size then 6 else 0
noncomputable def lq (D:List Dc) (d:Dc):List Dc:=if kN D d=0 then C5 D d else D
theorem qG {D:List Dc} {d:Dc} (h:¬ (1≤d.1.size∧d.1.size≤64)):kN D d=1:=by unfold kN;rw [if_pos h]
theorem Ab {D:List Dc} {d:Dc} (h:1≤d.1.size∧d.1.size≤64) (h2:2048<d.2.size):kN D d=2:=by unfold kN;rw [if_neg (fun k=>k h),if_pos h2]
theorem tA {D:List Dc} {d:Dc} (h:1≤d.1.size∧d.1.size≤64) (h2:¬ 2048<d.2.size) (h3:∃ e∈D,e.1=d.1):kN D d=4:=by unfold kN;rw [if_neg (fun k=>k h),if_neg h2,if_pos (@decide_eq_true _ (Classical.propDecidable _) h3)]
theorem qF {D:List Dc} {d:Dc} (h:1≤d.1.size∧d.1.size≤64) (h2:¬ 2048<d.2.size) (h3:¬ ∃ e∈D,e.1=d.1) (h4:64≤D.length∨16384<dsz D+d.2.size):kN D d=6:=by unfold kN;rw [if_neg (fun k=>k h),if_neg h2,if_neg (fun k=>h3 (@dT_ _ (Classical.propDecidable _) k)),if_pos h4]
theorem wj {D:List Dc} {d:Dc} (h:1≤d.1.size∧d.1.size≤64) (h2:¬ 2048<d.2.size) (h3:¬ ∃ e∈D,e.1=d.1) (h4:¬ (64≤D.length∨16384<dsz D+d.2.size)):kN D d=0:=by unfold kN;rw [if_neg (fun k=>k h),if_neg h2,if_neg (fun k=>h3 (@dT_ _ (Classical.propDecidable _) k)),if_neg h4]
theorem g_ {D:List Dc} {d:Dc} (h:kN D d≠0):lq D d=D:=by unfold lq;rw [if_neg h]
theorem rU {D:List Dc} {d:Dc} (h:kN D d=0):lq D d=C5 D d:=by unfold lq;rw [if_pos h]
noncomputable def yk (D:List Dc) (id:ByteArray):Int:=if ¬ (1≤id.size∧id.size≤64) then 1 else if @decide (∃ e∈D,e.1=id) (Classical.propDecidable _)=true then 0 else 3
theorem zR {D:List Dc} {id:ByteArray} (h:¬ (1≤id.size∧id.size≤64)):yk D id=1:=by unfold yk;rw [if_pos h]
theorem vR {D:List Dc} {id:ByteArray} (h:1≤id.size∧id.size≤64) (h3:∃ e∈D,e.1=id):yk D id=0:=by unfold yk;rw [if_neg (fun k=>k h),if_pos (@decide_eq_true _ (Classical.propDecidable _) h3)]
theorem Gl {D:List Dc} {id:ByteArray} (h:1≤id.size∧id.size≤64) (h3:¬ ∃ e∈D,e.1=id):yk D id=3:=by unfold yk;rw [if_neg (fun k=>k h),if_neg (fun k=>h3 (@dT_ _ (Classical.propDecidable _) k))]
theorem ShG.named {ps:List Pt} {L D:List Dc} (h:ShG ps L D) {id:ByteArray}:(∃ e∈D,e.1=id)↔(∃ e∈L,e.1=id)∨∃ p∈ps,zF p id:=by
 constructor
 ·rintro ⟨e,he,rfl⟩;rcases h.mem.1 he with he | ⟨p,hp,he⟩
  ·exact .inl ⟨e,he,rfl⟩
  ·exact .inr ⟨p,hp,e,he,rfl⟩
 ·rintro (⟨e,he,rfl⟩ | ⟨p,hp,e,he,rfl⟩)
  ·exact ⟨e,h.mem.2 (.inl he),rfl⟩
  ·exact ⟨e,h.mem.2 (.inr ⟨p,hp,he⟩),rfl⟩
theorem s7 {L:List Dc} (hs:SD L) {id:ByteArray} {i:Nat} {fd:Bool} (h1:∀ x,x<i→sLt (L.getD x dd).1 id) (h2:∀ x,i≤x→x<L.length→¬ sLt (L.getD x dd).1 id) (h3:fd=true↔i<L.length∧(L.getD i dd).1=id):fd=true↔∃ e∈L,e.1=id:=by
 rw [h3];constructor
 ·rintro ⟨hi,e⟩;exact ⟨L.getD i dd,by rw [bM hi];exact List.getElem_mem hi,e⟩
 ·rintro ⟨e,he,rfl⟩;obtain ⟨j,hj,rfl⟩:=List.getElem_of_mem he;have hj2:(L.getD j dd).1=L[j].1:=by rw [bM hj]
  rcases Nat.lt_trichotomy j i with a | a | a
  ·have:=h1 j a;rw [hj2] at this;exact absurd this (fF _)
  ·subst a;exact ⟨hj,hj2⟩
  ·have h4:=iW.cmp hs a hj;rw [hj2] at h4;exact absurd h4 (h2 i (Nat.le_refl _) (by omega))
theorem yj {D:List Dc} {id:ByteArray} (h:¬ ∃ e∈D,e.1=id):eg D id=D:=kT fun d hd e=>h ⟨d,hd,e⟩
theorem vQ {D:List Dc} (ho:iW D) {id:ByteArray} (h:¬ (1≤id.size∧id.size≤64)):eg D id=D:=kT fun _ hd e=>h (e ▸ zr ho hd)
theorem FR {L:List Dc} {k:Nat} (d:Dc):(L.flatMap dV).take (k*2)++dV d++(L.flatMap dV).drop (k*2)=(L.take k++d::L.drop k).flatMap dV:=by
 rw [iB bI,jl bI,List.flatMap_append,List.flatMap_cons,List.append_assoc]
theorem nI {α:Type} {L:List α} {k:Nat} (d:α):(L.take k++d::L.drop k).length=L.length+1:=by rw [mW.length_eq,List.length_append,List.length_singleton]
theorem Gp {L:List Dc} {k:Nat}:(L.flatMap dV).take (k*2)++(L.flatMap dV).drop ((k+1)*2)=(L.take k++L.drop (k+1)).flatMap dV:=by
 rw [iB bI,jl bI,List.flatMap_append]
theorem rQ {α:Type} {L:List α} {k:Nat} (h:k<L.length):(L.take k++L.drop (k+1)).length=L.length-(k+1-k):=by
 rw [List.length_append,List.length_take,List.length_drop];omega
theorem uY {L:List Pt} {k:Nat}:(L.flatMap ptV).take (k*2)++(L.flatMap ptV).drop ((k+1)*2)=(L.take k++L.drop (k+1)).flatMap ptV:=by
 rw [iB kO,jl kO,List.flatMap_append]
theorem uZ {ps:List Pt} (k:Nat) (h:ps.Pairwise fun a b=>fp a.A b.A):(ps.take k++ps.drop (k+1)).Pairwise fun a b=>fp a.A b.A:=by
 have hx:ps.take k++ps.drop (k+1)=ps.take k++(ps.drop k).drop 1:=by rw [List.drop_drop]
 rw [hx];exact List.Pairwise.sublist (List.Sublist.append (List.Sublist.refl _) (List.drop_sublist ..)) (by rw [List.take_append_drop];exact h)
theorem FX {ps:List Pt} {i:Nat} (hi:i<ps.length) {A:Option Addr} {c:Nat} {k:Nat} {id:ByteArray}:(ps.flatMap ptV).set (i*2+1) (.slice A (ps[i].gone.length+1) c)=(ps.set i { ps[i] with A:=A,c:=c,gone:=ps[i].gone.take k++id::ps[i].gone.drop k }).flatMap ptV:=
 En kO ps i 1 hi (by decide) _ _ (by unfold ptV;rw [←nI (L:=ps[i].gone) (k:=k) id];rfl)
theorem CF (ps:List Pt) (L D:List Dc) (s g cp:Nat) (Al:Option Addr) (cl:Nat) (w:World) (h:ShH w ps L s (some ⟨g,0,none⟩) cp Al cl) (hG:ShG ps L D) (i:Nat) (hi:i<ps.length) (id:ByteArray) (hid:id ∉ ps[i].gone) :
 Rt prog 38 [.pointer (some ⟨g,0+i*2,none⟩),.string id] w (fun _ w'=>∃ (k:Nat) (A':Option Addr) (c':Nat),SO (ps[i].gone.take k++id::ps[i].gone.drop k)∧ShH w' (ps.set i { ps[i] with A:=A',c:=c',gone:=ps[i].gone.take k++id::ps[i].gone.drop k }) L s (some ⟨g,0,none⟩) cp Al cl∧Chg (fun q=>(some (⟨g,0,none⟩:Addr)).map (·.block)=some q∨ps[i].A.map (·.block)=some q) w w'∧∀ q,A'.map (·.block)=some q→ps[i].A.map (·.block)=some q∨w.heap.size≤q):=by
 have hP:=sA h.rowP (fun p hp=>h.ptIn hG hp) hi;have hgo:=h.gone _ (List.getElem_mem hi);have hlen:=hP.len;refine enter (n:=26) Tryz.func38 rfl rfl rfl (ag (aa (mvp rfl (ae (aw rfl) (ae (ak j5 rfl) (ae (aq oI rfl (by exact br aj.rfl_ hP.sl)) ?_))))));refine mvg rfl (aA tI (A0 ps[i].A ps[i].c ps[i].gone.length ps[i].gone _ (hP.row.from_ aj.rfl_) rfl hP.len id hP.so) ?_);rintro v12 w1 ⟨⟨k,fd,rfl,hk,h1,h2,h3⟩,E12⟩;refine mvt rfl (ae (ax rfl rfl) (ae (ax rfl rfl) (asi rfl (asb rfl (ah (ab (aa (mvp rfl (mvp rfl (ae (aw rfl) ?_))))))))));refine ae (ak j5 rfl) (ae (aq oI rfl (by exact br (aj.rfl_.next E12) hP.sl)) ?_);refine mvi rfl (mvg rfl (gW (v:=.string _) qM rfl rfl rfl ?_));intro b22 w2 E22 hb22 hk22;have hs22:w.heap.size≤b22:=by rw [hb22];exact (aj.rfl_.next E12).size
 have hF23:=((aj.rfl_.next E12).next E22);have hs23:=hF23.size;refine aA DJ (zB 0 ps[i].A ps[i].c ps[i].gone.length k 1 b22 0 1 (ps[i].gone.map Value.string) [.string id] _ _ _ (hgo.kept_from ((aj.rfl_.next E12).next E22)) (Nat.zero_le _) hk (by decide) rfl hk22.whole hk22 (fun q hq=>by have:=(b_ hgo q hq).2;omega) (by simp [Value.oneCell']) (by simp [Value.oneCell']) (by omega)) ?_;rintro v23 w3 ⟨⟨A23,c23,rfl,ho23,hL23⟩,hg23⟩;have hPw:=lC (h.rowP.kept_from hF23) hg23 (fX (hgo.kept_from hF23) (h.rowP.kept_from hF23) (by decide));have hdis:=fX ho23 hPw (by decide);refine ae (aw rfl) (ae (ak j5 rfl) ?_);refine y9 (o:=i*2+1) DI (by show Value.pointer (some ⟨g,0+i*2+1,none⟩)=_;rw [Nat.zero_add]) rfl rfl hPw (by omega) ?_;intro w4 O1 P1;refine ah (gZ (k_ rfl ?_));have hil:(ps[i].gone.take k++id::ps[i].gone.drop k).length=ps[i].gone.length+1:=nI id;have hC:Chg (fun q=>(some (⟨g,0,none⟩:Addr)).map (·.block)=some q∨ps[i].A.map (·.block)=some q) _ _:=((Chg.of_grown hg23 (fun q e=>.inr e)).only O1 (.inl rfl));refine ⟨k,A23,c23,hP.so.ins h1 h2 hid,(h.from_ hF23).setGone hi (c:=c23) hC (fun q hq=>hq) ?_ ?_ hL23,hF23.toChg.next hC,fun q hq=>(hL23 q hq).imp (fun e=>e) fun e=>Nat.le_trans hs23 e⟩
 ·rw [←FX hi];exact P1
 ·have ho9:=cH ho23 O1 (fun q hq e=>hdis q hq g rfl e);rw [hil];have e9:(ps[i].gone.take k++id::ps[i].gone.drop k).map Value.string=(ps[i].gone.map Value.string).take (k*1)++[.string id]++(ps[i].gone.map Value.string).drop (k*1):=by simp [List.map_take,List.map_drop]
  rw [e9];exact ho9
theorem HL {w:World} {base m c g:Nat} {ps:List Pt} (h:w.ownsRow base 66 2 (.slice (some ⟨g,0,none⟩) m c) m (ps.flatMap ptV)) {i:Nat} (hi:i<ps.length) (hP:PtIn w ps[i]):nx w g (0+i*2) ps[i]:=by
 obtain ⟨hl,hr⟩:=cL.own kO (by decide) h;obtain ⟨b,o,e,hc⟩:=hr (by omega);cases e;have h1:=hc i hi;exact ⟨hP,h1 0 _ rfl,h1 1 _ rfl⟩
def uT (p:Pt) (A:Option Addr) (c k:Nat) (id:ByteArray):Pt:={ p with A:=A,c:=c,gone:=p.gone.take k++id::p.gone.drop k }
theorem zI (p:Pt) (A:Option Addr) (c k:Nat) (id:ByteArray):(uT p A c k id).live=eg p.live id:=FB
theorem Hg {U:Nat→Prop} {w W w':World} {ps:List Pt} {L:List Dc} {s cp cl g:Nat} {Al:Option Addr} {j:Nat} (hj:j<ps.length) {A:Option Addr} {c k:Nat} {id:ByteArray} (hU:∀ k,qN s (some ⟨g,0,none⟩) Al ps k→U k) (hF:aj w W)
 (hH:ShH w' (ps.set j (uT ps[j] A c k id)) L s (some ⟨g,0,none⟩) cp Al cl) (hC:Chg (fun q=>(some (⟨g,0,none⟩:Addr)).map (·.block)=some q∨ps[j].A.map (·.block)=some q) W w') (hA:∀ q,A.map (·.block)=some q→ps[j].A.map (·.block)=some q∨W.heap.size≤q) :
 (∀ q,qN s (some ⟨g,0,none⟩) Al (ps.set j (uT ps[j] A c k id)) q→Nx U w w' q)∧Chg U w w':=by
 have hs:=hF.size;have hmj:=List.getElem_mem hj
 have hp:∀ p∈ps.set j (uT ps[j] A c k id),∃ q∈ps,(∀ k,p.A.map (·.block)=some k→q.A.map (·.block)=some k∨w.heap.size≤k)∧p.lo=q.lo∧p.hi=q.hi:=by
  intro p hp;obtain ⟨i,hi,rfl⟩:=List.getElem_of_mem hp;rw [List.length_set] at hi;rw [List.getElem_set];by_cases e:j=i
  ·rw [if_pos e];exact ⟨ps[j],hmj,fun q hq=>(hA q hq).imp (fun e=>e) fun e=>Nat.le_trans hs e,rfl,rfl⟩
  ·rw [if_neg e];exact ⟨ps[i],List.getElem_mem hi,fun q hq=>.inl hq,rfl,rfl⟩
 have hq:∀ q,((some (⟨g,0,none⟩:Addr)).map (·.block)=some q∨ps[j].A.map (·.block)=some q)→U q:=by
  rintro q (e | e)
  ·exact hU q (.inl (.inr (.inl e)))
  ·exact hU q (.inl (.inr (.inr (.inr ⟨_,hmj,e⟩))))
 exact ⟨fun q hk=>vK (w:=w) hH hU (fun k hk=>.inl hk) (fun k hk=>.inl hk) (fun p h=>.inl (hp p h)) q hk,hF.toChg.next (hC.wide fun q h=>.inl (hq q h))⟩
theorem Bg {α:Type} {ps:List α} {j:Nat} (p:α):(ps.set j p).take j++(ps.set j p).drop (j+1)=ps.take j++ps.drop (j+1):=by
 rw [List.take_set,List.set_eq_of_length_le (by rw [List.length_take];omega),List.drop_set_of_lt (by omega)]
theorem BX {α:Type} {ps:List α} {j:Nat} {p:α} (h:p∈ps.take j++ps.drop (j+1)):p∈ps:=by
 rcases List.mem_append.1 h with h | h
 ·exact List.mem_of_mem_take h
 ·exact List.mem_of_mem_drop h
theorem tQ:aH prog 34=true:=by kernel_rfl
theorem tP:aH prog 35=true:=by kernel_rfl
theorem AK:aH prog 36=true:=by kernel_rfl
theorem tO:aH prog 37=true:=by kernel_rfl
theorem AJ:aH prog 38=true:=by kernel_rfl
theorem AI:aH prog 40=true:=by kernel_rfl
theorem qC (U:Nat→Prop) (s:Nat) (D:List Dc) (w:World) (hs:dD w U s D) (id:ByteArray) (hd:id.size≤140737488351232) :
 Rt prog 19 [.pointer (some ⟨s,0,none⟩),.string id] w (fun v w'=>v=.int .i64 (yk D id)∧dD w' (Nx U w w') s (eg D id)∧Chg U w w'):=by
 have hs0:=hs;obtain ⟨ps,L,Ap,cp,Al,cl,hG,h,hU⟩:=hs;have hll:=hG.loose;have hpl:=hG.parts;refine enter (n:=62) Tryz.func19 rfl rfl rfl (ag (aa (asi rfl (ah (ab (ag (ag (aa (mvg rfl (aA tQ (rX id _ hd) ?_))))))))));rintro v9 w1 ⟨rfl,E9⟩;refine ae (dZ rfl) (ah (ab (av rfl (fun Q2=>?_) (fun Q2=>?_))))
 ·with_reducible (replace Q2:=fx Q2;replace Q2:=dF_ Q2)
  have hid:¬ (1≤id.size∧id.size≤64):=by simpa using Q2
  refine ag (aa (asi rfl (ah (ab (ay (aC (bE (v:=.int _ _) rfl rfl ?_)))))));rw [zR hid,vQ hG.ord hid];exact ⟨rfl,hs0.same (aj.rfl_.next E9)⟩
 with_reducible (replace Q2:=fy Q2;replace Q2:=dT_ Q2)
 have hid:1≤id.size∧id.size≤64:=by simpa using Q2
 refine au (ab (ag (ag (aa (mvp rfl (mvg rfl (aA tP (BN ps L D s Ap cp Al cl _ (h.from_ (aj.rfl_.next E9)) hG id) ?_)))))));rintro v14 w3 ⟨⟨i,fd,rfl,hi1,hi2,hi3,hi4⟩,E14⟩;have hfl:=s7 hG.sdL hi2 hi3 hi4;refine mvt rfl (ae (ax rfl rfl) (ae (ax rfl rfl) (asi rfl (asb rfl (ah (ab (ag (aa (mvb rfl (ah (ab (av rfl (fun Q4=>?_) (fun Q4=>?_)))))))))))))
 ·obtain ⟨hil,hie⟩:=hi4.1 Q4;rw [bM hil] at hie;refine ag (aa (mvp rfl (mvp rfl (ae (aw rfl) (ae (ak eo rfl) (ae (aq bK rfl (by exact (h.blk.from_ ((aj.rfl_.next E9).next E14)).rd 1 rfl)) ?_))))));refine mvi rfl (mvi rfl (ae (aJ (b:=1) rfl rfl (by omega)) ?_));have hF26:=((aj.rfl_.next E9).next E14);refine aA AK (zQ 0 Al cl L.length i (i+1) (L.flatMap dV) _ (h.rowL.kept_from ((aj.rfl_.next E9).next E14)) (by omega) hil (nb _) (by omega)) ?_;rintro v26 w5 ⟨⟨A26,c26,rfl,ho26,hA26⟩,hg26⟩;have hb26:=(h.blk.from_ hF26).grown hg26 (dz (h.rowL.kept_from hF26) (h.blk.from_ hF26) (by decide));refine ae (aw rfl) (ae (ak eo rfl) (bZ (v:=.slice _ _ _) nN rfl rfl rfl (hb26) (by show 1<2;decide) ?_));intro w6 O5 P5;refine ah (ab (ag (aa (asi rfl (ah (ab (ay (aC (bE (v:=.int _ _) rfl rfl ?_)))))))));subst hie;rw [vR hid (hG.named.2 (.inl ⟨_,List.getElem_mem hil,rfl⟩))];exact ⟨rfl,xl (L':=L.take i++L.drop (i+1)) h hU hF26 ((Chg.of_grown hg26 (fun k e=>.inr e)).only O5 (.inl rfl)) (by rw [rQ hil];exact P5) (by rw [rQ hil,←Gp];exact cH ho26 O5 (dz ho26 hb26 (by decide))) (fun k hk=>.inl (hA26 k hk)) (hG.cut hil)⟩
 have hfd:¬ fd=true:=by first | exact Q4 | (rw [Q4];decide)
 refine au (ab (ag (aa (mvp rfl (mvg rfl (aA tO (uN ps L D s Ap cp Al cl _ (h.from_ ((aj.rfl_.next E9).next E14)) hG id) ?_))))));rintro v31 w7 ⟨hp31,E31⟩;rcases hp31 with ⟨j,rfl,hj,hj2⟩ | ⟨rfl,hno⟩
 ·obtain ⟨d,hdm,rfl⟩:=hj2;obtain ⟨g,rfl⟩:=dF h.rowP (by omega);have hgn:d.1 ∉ ps[j].gone:=(ov.1 hdm).2;have hgl:=(hG.part _ (List.getElem_mem hj)).2.1;have hdl:=(h.seg _ (List.getElem_mem hj)).at.docs.2.1;refine asi rfl (ah (ab (ag (ag (aa (mvi rfl (ae (aX rfl rfl) (ah (ab (Li rfl (fun Q8=>?_) (fun Q8=>?_)))))))))))
  ·exfalso;omega
  refine au (ab (ag (aa (mvp rfl (ae (aw rfl) (ae (ak cz rfl) (ae (aq dX rfl (by exact (h.blk.from_ (((aj.rfl_.next E9).next E14).next E31)).rd 0 rfl)) ?_)))))));refine mvi rfl (ae (aG cN rfl rfl (by omega)) (mvg rfl ?_));have hF41:=(((aj.rfl_.next E9).next E14).next E31);refine aA AJ (CF ps L D s g cp Al cl _ (h.from_ (((aj.rfl_.next E9).next E14).next E31)) hG j hj d.1 hgn) ?_;rintro v41 w9 ⟨k,A41,c41,hso,hH0,hC1,hA41⟩;obtain ⟨ps1,hps1⟩:∃ q,q=ps.set j (uT ps[j] A41 c41 k d.1):=⟨_,rfl⟩;have hH1:ShH w9 ps1 L s (some ⟨g,0,none⟩) cp Al cl:=by rw [hps1];exact hH0
  have hl1:ps1.length=ps.length:=by rw [hps1,List.length_set]
  have hj1:ps1[j]=uT ps[j] A41 c41 k d.1:=by subst hps1;exact List.getElem_set_self ..
  have hm1:=List.getElem_mem (l:=ps1) (n:=j) (by omega);have hgl1:ps1[j].gone.length=ps[j].gone.length+1:=by rw [hj1];exact nI _
  have hPI:PtIn w9 ps1[j]:=⟨sn (hH1.gone _ hm1),by omega,by rw [hj1];exact hso,hH1.seg _ hm1⟩;have hlv:ps1[j].live=eg ps[j].live d.1:=by rw [hj1];exact zI ..
  obtain ⟨hU1,hCw⟩:=Hg hj hU hF41 hH0 hC1 hA41;rw [←hps1] at hU1;refine ah (ab (ag (ag (aa (mvp rfl (ae (aw rfl) (ae (ak cz rfl) (ae (aq dX rfl (by exact (hH1.blk.from_ (aj.rfl_ (a:=w9))).rd 0 rfl)) ?_))))))));refine mvi rfl (ae (aG cN rfl rfl (by omega)) (aA mq (rM g (0+j*2) ps1[j] _ ((HL hH1.rowP (by omega) hPI).from_ (aj.rfl_ (a:=w9)))) ?_));rintro v48 w10 ⟨⟨A48,c48,rfl,ho48⟩,E48⟩;refine ae (aS bx rfl) (ae (cF rfl rfl) (ah (ab (Li rfl (fun Q11=>?_) (fun Q11=>?_)))))
  ·refine aa (mvp rfl (mvp rfl (ae (aw rfl) (ae (ak cz rfl) (ae (aq dX rfl (by exact (hH1.blk.from_ ((aj.rfl_ (a:=w9)).next E48)).rd 0 rfl)) ?_)))));refine mvi rfl (mvi rfl (ae (aJ (b:=1) rfl rfl (by omega)) ?_));have hF59:=((aj.rfl_ (a:=w9)).next E48);refine aA AI (zP 0 (some ⟨g,0,none⟩) cp ps1.length j (j+1) (ps1.flatMap ptV) _ (hH1.rowP.kept_from ((aj.rfl_ (a:=w9)).next E48)) (by omega) (by omega) (vr _) (by omega)) ?_;rintro v59 w12 ⟨⟨A59,c59,rfl,ho59,hA59⟩,hg59⟩;have hb59:=(hH1.blk.from_ hF59).grown hg59 (dz (hH1.rowP.kept_from hF59) (hH1.blk.from_ hF59) (by decide));refine ae (aw rfl) (ae (ak cz rfl) (bZ (v:=.slice _ _ _) jr rfl rfl rfl (hb59) (by show 0<2;decide) ?_));intro w13 O12 P12;refine ah (ab (ag (aa (asi rfl (ah (ab (ay (bE (v:=.int _ _) rfl rfl ?_))))))));have hnm:∃ e∈D,e.1=d.1:=hG.named.2 (.inr ⟨_,List.getElem_mem hj,d,hdm,rfl⟩);rw [vR hid hnm];refine ⟨rfl,?_⟩;have hsd:SD ps[j].ds:=uI (h.seg _ (List.getElem_mem hj)).at.docs.1
   first
    |(have hne:eg ps[j].live d.1=[]:=by rw [←hlv];exact List.eq_nil_of_length_eq_zero (by omega)
      have hcl:(ps1.take j++ps1.drop (j+1)).length=ps1.length-(j+1-j):=rQ (by omega);obtain ⟨q1,q2⟩:=o6 (ps':=ps1.take j++ps1.drop (j+1)) (L':=L) hH1 hU1 hF59 ((Chg.of_grown hg59 (fun k e=>.inr e)).only O12 (.inl rfl)) (by rw [hcl];exact P12) (by rw [hcl,←uY];exact cH ho59 O12 (dz ho59 hb59 (by decide))) (fun k hk=>.inl (hA59 k hk)) (.inl ⟨rfl,rfl,rfl⟩) (fun p hp=>.inl (BX hp)) (uZ j hH1.apart) (by rw [hps1,Bg];exact hG.drop hj hdm hne);exact dD.then hCw q1 q2)
    |(have hne:eg ps[j].live d.1≠[]:=fun e=>by rw [←hlv] at e;have:=congrArg List.length e;simp only [List.length_nil] at this;omega
      exact ⟨⟨ps1,L,some ⟨g,0,none⟩,cp,Al,cl,by rw [hps1];exact hG.gone hj hdm hso hsd hne,hH1.from_ (aj.rfl_ (a:=w13)),fun k hk=>(hU1 k hk).imp (fun e=>e) fun e=>⟨e.1,Nat.lt_of_lt_of_le e.2 ((aj.rfl_ (a:=w13))).size⟩⟩,hCw.next ((aj.rfl_ (a:=w13))).toChg⟩)
  refine au (ab (ag (aa (asi rfl (ah (ab (ay (bE (v:=.int _ _) rfl rfl ?_))))))));have hnm:∃ e∈D,e.1=d.1:=hG.named.2 (.inr ⟨_,List.getElem_mem hj,d,hdm,rfl⟩);rw [vR hid hnm];refine ⟨rfl,?_⟩;have hsd:SD ps[j].ds:=uI (h.seg _ (List.getElem_mem hj)).at.docs.1
  first
   |(have hne:eg ps[j].live d.1=[]:=by rw [←hlv];exact List.eq_nil_of_length_eq_zero (by omega)
     have hcl:(ps1.take j++ps1.drop (j+1)).length=ps1.length-(j+1-j):=rQ (by omega);obtain ⟨q1,q2⟩:=o6 (ps':=ps1.take j++ps1.drop (j+1)) (L':=L) hH1 hU1 hF59 ((Chg.of_grown hg59 (fun k e=>.inr e)).only O12 (.inl rfl)) (by rw [hcl];exact P12) (by rw [hcl,←uY];exact cH ho59 O12 (dz ho59 hb59 (by decide))) (fun k hk=>.inl (hA59 k hk)) (.inl ⟨rfl,rfl,rfl⟩) (fun p hp=>.inl (BX hp)) (uZ j hH1.apart) (by rw [hps1,Bg];exact hG.drop hj hdm hne);exact dD.then hCw q1 q2)
   |(have hne:eg ps[j].live d.1≠[]:=fun e=>by rw [←hlv] at e;have:=congrArg List.length e;simp only [List.length_nil] at this;omega
     exact ⟨⟨ps1,L,some ⟨g,0,none⟩,cp,Al,cl,by rw [hps1];exact hG.gone hj hdm hso hsd hne,hH1.from_ ((aj.rfl_ (a:=w9)).next E48),fun k hk=>(hU1 k hk).imp (fun e=>e) fun e=>⟨e.1,Nat.lt_of_lt_of_le e.2 (((aj.rfl_ (a:=w9)).next E48)).size⟩⟩,hCw.next (((aj.rfl_ (a:=w9)).next E48)).toChg⟩)
 refine asi rfl (ah (ab (ag (ag (aa (mvi rfl (ae (aX rfl rfl) (ah (ab (Li rfl (fun Q14=>?_) (fun Q14=>?_)))))))))));rotate_left
 ·exfalso;omega
 refine ag (aa (asi rfl (ah (ab (ay (aC (bE (v:=.int _ _) rfl rfl ?_)))))));have hn:¬ ∃ e∈D,e.1=id:=fun he=>(hG.named.1 he).elim (fun q=>hfd (hfl.2 q)) (fun ⟨p,hp,q⟩=>hno p hp q)
 rw [Gl hid hn,yj hn];exact ⟨rfl,hs0.same (((aj.rfl_.next E9).next E14).next E31)⟩
theorem yJ:aH prog 55=true:=by kernel_rfl
theorem ju:aH prog 28=true:=by kernel_rfl
theorem oR:aH prog 51=true:=by kernel_rfl
theorem wi (U:Nat→Prop) (s:Nat) (D:List Dc) (w:World) (hs:dD w U s D) (d:Dc) (hd1:d.1.size≤140737488351232) (hd2:d.2.size≤140737488351232) :
 Rt prog 27 [.pointer (some ⟨s,0,none⟩),.agg (dV d).toArray] w (fun v w'=>v=.int .i64 (kN D d)∧dD w' (Nx U w w') s (lq D d)∧Chg U w w'):=by
 have hs0:=hs;obtain ⟨ps,L,Ap,cp,Al,cl,hG,h,hU⟩:=hs;have hll:=hG.loose;have hpl:=hG.parts;have hf1:=hG.fit.1;have hf3:=hG.fit.2.2;refine enter (n:=56) Tryz.func27 rfl rfl rfl (ag (aa (cW (v:=.agg _) rfl ?_)));intro b3 w1 E3 hb3 hk3;refine asi rfl (ah (ab (ag (ag (aa (ae (ak aW rfl) (ae (aq bf rfl (by exact (hk3.from_ aj.rfl_).rd 0 rfl)) ?_)))))));refine aA tQ (rX d.1 _ hd1) ?_;rintro v10 w2 ⟨rfl,E10⟩;refine ae (dZ rfl) (ah (ab (av rfl (fun Q3=>?_) (fun Q3=>?_))))
 ·with_reducible (replace Q3:=fx Q3;replace Q3:=dF_ Q3)
  have hid:¬ (1≤d.1.size∧d.1.size≤64):=by simpa using Q3
  refine ag (aa (asi rfl (ah (ab (ay (aC (bE (v:=.int _ _) rfl rfl ?_)))))));rw [g_ (by rw [qG hid];decide),qG hid];exact ⟨rfl,hs0.same ((aj.rfl_.next E3).next E10)⟩
 with_reducible (replace Q3:=fy Q3;replace Q3:=dT_ Q3)
 have hid:1≤d.1.size∧d.1.size≤64:=by simpa using Q3
 refine au (ab (ag (ag (aa (ae (ak cf rfl) (ae (aq bf rfl (by exact (hk3.from_ (aj.rfl_.next E10)).rd 1 rfl)) ?_))))));refine ae (cJ (by kernel_rfl) rfl) (ae (bU rfl rfl) (ah (ab (Li rfl (fun Q4=>?_) (fun Q4=>?_)))))
 ·refine ag (aa (asi rfl (ah (ab (ay (aC (bE (v:=.int _ _) rfl rfl ?_)))))));rw [g_ (by rw [Ab hid (by omega)];decide),Ab hid (by omega)];exact ⟨rfl,hs0.same ((aj.rfl_.next E3).next E10)⟩
 refine au (ab (ag (aa (mvp rfl (ae (ak aW rfl) (ae (aq bf rfl (by exact (hk3.from_ (aj.rfl_.next E10)).rd 0 rfl)) ?_))))));refine aA tP (BN ps L D s Ap cp Al cl _ (h.from_ ((aj.rfl_.next E3).next E10)) hG d.1) ?_;rintro v20 w5 ⟨⟨i,fd,rfl,hi1,hi2,hi3,hi4⟩,E20⟩;have hfl:=s7 hG.sdL hi2 hi3 hi4;refine mvt rfl (ae (ax rfl rfl) (ae (ax rfl rfl) (asi rfl (asb rfl (ah (ab (ag (ag (aa (mvb rfl (mvb rfl (bz (t:=24) rfl (fun Q6=>?_) (fun Q6=>?_)))))))))))))
 ·refine aB rfl rfl (aB rfl rfl (aB rfl rfl (aB rfl rfl (aB rfl rfl (ae (bc (v:=.bool _) rfl rfl) (ah (ab (cB rfl (ag (aa ?_))))))))));refine asi rfl (ah (ab (ay (aC (bE (v:=.int _ _) rfl rfl ?_)))));have he:∃ e∈D,e.1=d.1:=hG.named.2 (by first | exact .inl (hfl.1 (by assumption)) | exact .inr ⟨_,List.getElem_mem hj,hj2⟩);rw [g_ (by rw [tA hid (by omega) he];decide),tA hid (by omega) he];exact ⟨rfl,hs0.same (((aj.rfl_.next E3).next E10).next E20)⟩
 refine an rfl (mvp rfl (an rfl (ae (ak aW rfl) (an rfl (ae (aq bf rfl (by exact (hk3.from_ ((aj.rfl_.next E10).next E20)).rd 0 rfl)) ?_)))));refine an rfl (aA tO (uN ps L D s Ap cp Al cl _ (h.from_ (((aj.rfl_.next E3).next E10).next E20)) hG d.1) ?_);rintro v28 w7 ⟨hp28,E28⟩;rcases hp28 with ⟨j,rfl,hj,hj2⟩ | ⟨rfl,hno⟩
 ·refine an rfl (ae (ek rfl rfl) (ae (aQ (v:=.bool _) rfl rfl) (ah (ab (Li rfl (fun Q8=>?_) (fun Q8=>?_))))));rotate_left
  ·exfalso;omega
  refine ag (aa (asi rfl (ah (ab (ay (aC (bE (v:=.int _ _) rfl rfl ?_)))))));have he:∃ e∈D,e.1=d.1:=hG.named.2 (by first | exact .inl (hfl.1 (by assumption)) | exact .inr ⟨_,List.getElem_mem hj,hj2⟩);rw [g_ (by rw [tA hid (by omega) he];decide),tA hid (by omega) he];exact ⟨rfl,hs0.same ((((aj.rfl_.next E3).next E10).next E20).next E28)⟩
 refine an rfl (ae (ek rfl rfl) (ae (aQ (v:=.bool _) rfl rfl) (ah (ab (Li rfl (fun Q65=>?_) (fun Q65=>?_))))))
 ·exfalso;omega
 refine au (ab (ag (aa (mvp rfl (aA ju (kf U s D _ (hs0.from_ ((((aj.rfl_.next E3).next E10).next E20).next E28))) ?_)))));rintro v32 w66 ⟨⟨A32,c32,rfl,ho32⟩,E32⟩;have hM8:=((((aj.rfl_.next E10).next E20).next E28).next E32);refine ass rfl (ah (ab (ag (ag ?_))));have hsp:64≤D.length∨(D.length<64∧16384<dsz D+d.2.size)∨(D.length<64∧dsz D+d.2.size≤16384):=by omega
 rcases hsp with hc1 | ⟨hc1,hc2⟩ | ⟨hc1,hc2⟩
 ·apply bH 12 [(33,eqp _),(34,eqp _),(35,eqp _),(36,eqp _),(37,eqp _),(38,eqp _),(39,eqp _),(40,eqp _),(41,eqp _),(42,eqp _),(43,eqp _),(44,eqp _)] (by repeat first | exact bT | refine bS ?_ | refine bG ?_) (by kernel_rfl) (by kernel_rfl) ⟨af _,af _,af _,af _,af _,af _,af _,af _,af _,af _,af _,af _,trivial⟩
  case hop=>
   constructor
   ·rintro-w68 D68;exact ai (ar (v:=.slice _ _ _) rfl) rfl
   constructor
   ·rintro-w69 D69;rintro _ rfl;exact ai (aS bx rfl) rfl
   constructor
   ·rintro-w70 D70;rintro _ rfl;exact ai (iw (ek rfl rfl) (decide_eq_true (by omega))) rfl
   constructor
   ·rintro-w71 D71;rintro _ rfl;exact ai (ar (v:=.bool _) rfl) rfl
   constructor
   ·rintro-w72 D72;rintro _ rfl;exact bj rfl rfl rfl
   constructor
   ·rintro-w73 D73;rintro _ rfl _ rfl;exact bj rfl rfl rfl
   constructor
   ·rintro-w74 D74;rintro _ rfl;exact bj rfl rfl rfl
   constructor
   ·rintro-w75 D75;rintro _ rfl _ rfl;exact bj rfl rfl rfl
   constructor
   ·rintro-w76 D76;rintro _ rfl _ rfl;exact bj rfl rfl rfl
   constructor
   ·rintro-w77 D77;rintro _ rfl _ rfl _ rfl;exact bj rfl rfl rfl
   constructor
   ·rintro-w78 D78;rintro _ rfl _ rfl;exact bj rfl rfl rfl
   constructor
   ·rintro-w79 D79;rintro _ rfl _ rfl;exact ai (bc (v:=.bool _) rfl rfl) rfl
   exact trivial
  case hend=>
   intro w80 D80;rintro _ rfl _ rfl _ rfl _ rfl _ rfl _ rfl _ rfl _ rfl _ rfl _ rfl _ rfl _ rfl;show St ..;have hF11:=((((((aj.rfl_.next E3).next E10).next E20).next E28).next E32).next D80);have hM11:=(((((aj.rfl_.next E10).next E20).next E28).next E32).next D80);have hB11:=h.blk.from_ hF11;have hfd:¬ fd=true:=by first | assumption | (rw [‹fd=false›];decide)
   have hn:¬ ∃ e∈D,e.1=d.1:=fun he=>(hG.named.1 he).elim (fun q=>hfd (hfl.2 q)) (fun ⟨p,hp,q⟩=>hno p hp q)
   refine ah (ab (cB rfl (ag (aa (asi rfl (ah (ab (ay (aC (bE (v:=.int _ _) rfl rfl ?_))))))))));rw [g_ (by rw [qF hid (by omega) hn (by omega)];decide),qF hid (by omega) hn (by omega)];exact ⟨rfl,hs0.same ((((((aj.rfl_.next E3).next E10).next E20).next E28).next E32).next D80)⟩
 ·apply bH 12 [(33,eqp _),(34,eqp _),(35,eqp _),(36,eqp _),(37,eqp _),(38,eqp (.int .i64 ((dsz D:Nat):Int))),(39,eqp _),(40,eqp (.string d.2)),(41,eqp _),(42,eqp _),(43,eqp _),(44,eqp _)] (by repeat first | exact bT | refine bS ?_ | refine bG ?_) (by kernel_rfl) (by kernel_rfl) ⟨af _,af _,af _,af _,af _,af _,af _,af _,af _,af _,af _,af _,trivial⟩
  case hop=>
   constructor
   ·rintro-w82 D82;exact ai (ar (v:=.slice _ _ _) rfl) rfl
   constructor
   ·rintro-w83 D83;rintro _ rfl;exact ai (aS bx rfl) rfl
   constructor
   ·rintro-w84 D84;rintro _ rfl;exact ai (cG (ek rfl rfl) (decide_eq_false (by omega))) rfl
   constructor
   ·rintro-w85 D85;rintro _ rfl;exact ai (ar (v:=.bool _) rfl) rfl
   constructor
   ·rintro-w86 D86;rintro _ rfl;exact aI rfl (ar (v:=.slice _ _ _) rfl) rfl
   constructor
   ·rintro-w87 D87;rintro _ rfl _ rfl;refine mS rfl oR ((lS A32 c32 D.length D _ ((cL.own bI (by decide) ho32).2.from_ D87) rfl (by omega) (by omega)).mono ?_);rintro _ w2 ⟨rfl,hE⟩;exact ⟨hE,rfl⟩
   constructor
   ·rintro-w88 D88;rintro _ rfl;exact aI rfl (ak cf rfl) rfl
   constructor
   ·rintro-w89 D89;rintro _ rfl _ rfl;exact aI rfl (aq (v:=.string d.2) bf rfl ((hk3.from_ (hM8.next D89)).rd 1 rfl)) rfl
   constructor
   ·rintro-w90 D90;rintro _ rfl v90_40 rfl;exact aI rfl (cJ (by kernel_rfl) rfl) rfl
   constructor
   ·rintro-w91 D91;rintro _ rfl v91_38 rfl _ rfl;exact aI rfl (gi rfl rfl (by omega)) rfl
   constructor
   ·rintro-w92 D92;rintro _ rfl _ rfl;exact aI rfl (iw (bU rfl rfl) (decide_eq_true (by omega))) rfl
   constructor
   ·rintro-w93 D93;rintro _ rfl _ rfl;exact ai (aQ (v:=.bool _) rfl rfl) rfl
   exact trivial
  case hend=>
   intro w94 D94;rintro _ rfl _ rfl _ rfl _ rfl _ rfl v38 rfl _ rfl v40 rfl _ rfl _ rfl _ rfl _ rfl;show St ..;have hF11:=((((((aj.rfl_.next E3).next E10).next E20).next E28).next E32).next D94);have hM11:=(((((aj.rfl_.next E10).next E20).next E28).next E32).next D94);have hB11:=h.blk.from_ hF11;have hfd:¬ fd=true:=by first | assumption | (rw [‹fd=false›];decide)
   have hn:¬ ∃ e∈D,e.1=d.1:=fun he=>(hG.named.1 he).elim (fun q=>hfd (hfl.2 q)) (fun ⟨p,hp,q⟩=>hno p hp q)
   refine ah (ab (cB rfl (ag (aa (asi rfl (ah (ab (ay (aC (bE (v:=.int _ _) rfl rfl ?_))))))))));rw [g_ (by rw [qF hid (by omega) hn (by omega)];decide),qF hid (by omega) hn (by omega)];exact ⟨rfl,hs0.same ((((((aj.rfl_.next E3).next E10).next E20).next E28).next E32).next D94)⟩
 apply bH 12 [(33,eqp _),(34,eqp _),(35,eqp _),(36,eqp _),(37,eqp _),(38,eqp (.int .i64 ((dsz D:Nat):Int))),(39,eqp _),(40,eqp (.string d.2)),(41,eqp _),(42,eqp _),(43,eqp _),(44,eqp _)] (by repeat first | exact bT | refine bS ?_ | refine bG ?_) (by kernel_rfl) (by kernel_rfl) ⟨af _,af _,af _,af _,af _,af _,af _,af _,af _,af _,af _,af _,trivial⟩
 case hop=>
  constructor
  ·rintro-w96 D96;exact ai (ar (v:=.slice _ _ _) rfl) rfl
  constructor
  ·rintro-w97 D97;rintro _ rfl;exact ai (aS bx rfl) rfl
  constructor
  ·rintro-w98 D98;rintro _ rfl;exact ai (cG (ek rfl rfl) (decide_eq_false (by omega))) rfl
  constructor
  ·rintro-w99 D99;rintro _ rfl;exact ai (ar (v:=.bool _) rfl) rfl
  constructor
  ·rintro-w100 D100;rintro _ rfl;exact aI rfl (ar (v:=.slice _ _ _) rfl) rfl
  constructor
  ·rintro-w101 D101;rintro _ rfl _ rfl;refine mS rfl oR ((lS A32 c32 D.length D _ ((cL.own bI (by decide) ho32).2.from_ D101) rfl (by omega) (by omega)).mono ?_);rintro _ w2 ⟨rfl,hE⟩;exact ⟨hE,rfl⟩
  constructor
  ·rintro-w102 D102;rintro _ rfl;exact aI rfl (ak cf rfl) rfl
  constructor
  ·rintro-w103 D103;rintro _ rfl _ rfl;exact aI rfl (aq (v:=.string d.2) bf rfl ((hk3.from_ (hM8.next D103)).rd 1 rfl)) rfl
  constructor
  ·rintro-w104 D104;rintro _ rfl v104_40 rfl;exact aI rfl (cJ (by kernel_rfl) rfl) rfl
  constructor
  ·rintro-w105 D105;rintro _ rfl v105_38 rfl _ rfl;exact aI rfl (gi rfl rfl (by omega)) rfl
  constructor
  ·rintro-w106 D106;rintro _ rfl _ rfl;exact aI rfl (cG (bU rfl rfl) (decide_eq_false (by omega))) rfl
  constructor
  ·rintro-w107 D107;rintro _ rfl _ rfl;exact ai (aQ (v:=.bool _) rfl rfl) rfl
  exact trivial
 case hend=>
  intro w108 D108;rintro _ rfl _ rfl _ rfl _ rfl _ rfl v38 rfl _ rfl v40 rfl _ rfl _ rfl _ rfl _ rfl;show St ..;have hF11:=((((((aj.rfl_.next E3).next E10).next E20).next E28).next E32).next D108);have hM11:=(((((aj.rfl_.next E10).next E20).next E28).next E32).next D108);have hB11:=h.blk.from_ hF11;have hfd:¬ fd=true:=by first | assumption | (rw [‹fd=false›];decide)
  have hn:¬ ∃ e∈D,e.1=d.1:=fun he=>(hG.named.1 he).elim (fun q=>hfd (hfl.2 q)) (fun ⟨p,hp,q⟩=>hno p hp q)
  refine ah (ab (cm rfl (au (ab (ag ?_)))));apply qE 9 8 [52] [(45,eqp _),(46,eqp _),(47,eqp _),(48,eqp _),(49,eqp (.slice Al L.length cl)),(50,eqp _),(51,eqp (.agg (dV d).toArray)),(52,fun v w'=>∃ q,v=.slice (some ⟨q,0,none⟩) 1 1∧Blk w' q 37 (dV d).toArray∧(w108).heap.size≤q),(53,fun v w'=>∃ A2 c2,v=.slice A2 (L.length+1) c2∧w'.ownsRow 0 37 2 (.slice A2 (L.length+1) c2) (L.length+1) ((L.take i++d::L.drop i).flatMap dV)∧∀ q,A2.map (·.block)=some q→Al.map (·.block)=some q∨(w108).heap.size≤q)] (fun w'=>aj w108 w') (fun w'=>Chg (fun k=>k=s∨Al.map (·.block)=some k) w108 w'∧Blk w' s 63 #[.slice Ap ps.length cp,.slice Al L.length cl]) (by repeat first | exact bT | refine bS ?_ | refine bG ?_) (by kernel_rfl) (by kernel_rfl) (by kernel_rfl) ⟨af _,af _,af _,af _,af _,af _,af _,(fun _ _ _ hF ⟨q,h1,h2,h3⟩=>⟨q,h1,h2.from_ hF,h3⟩),(fun _ _ _ hF ⟨A2,c2,h1,h2,h3⟩=>⟨A2,c2,h1,h2.kept_from hF,h3⟩),trivial⟩ (aj.rfl_.d1) (⟨aj.rfl_.d1.toChg,hB11.from_ aj.rfl_.d1⟩) (fun _ _ hF h=>h.next hF) (fun _ _ hF h=>⟨h.1.next hF.toChg,h.2.from_ hF⟩)
  case hop=>
   constructor
   ·rintro-w110 ⟨hC110,hb110⟩;exact ai (ar (v:=.pointer _) rfl) rfl
   constructor
   ·rintro-w111 ⟨hC111,hb111⟩;exact ai (ar (v:=.pointer _) rfl) rfl
   constructor
   ·rintro-w112 ⟨hC112,hb112⟩;rintro _ rfl;exact ai (aw rfl) rfl
   constructor
   ·rintro-w113 D113;rintro _ rfl;exact ai (ak eo rfl) rfl
   constructor
   ·rintro-w114 D114;rintro _ rfl;exact ai (aq bK rfl ((hB11.from_ D114).rd 1 rfl)) rfl
   constructor
   ·rintro-w115 D115;exact ai (ar (v:=.int _ _) rfl) rfl
   constructor
   ·rintro-w116 D116;exact ai (bw (cs:=dV d) bO bq rfl ((hk3.from_ (hM11.next D116)).whole)) rfl
   constructor
   ·rintro-w117 D117;rintro v117_51 rfl;exact d_ (sr dr rfl rfl rfl) (aj.rfl_.new _) ⟨_,rfl,Blk.new _ _ _,D117.size⟩
   constructor
   ·intro h;cases h
   exact trivial
  case hmu=>
   rintro w119 D119;rintro v119_49 rfl _ rfl v119_52 ⟨q119,rfl,hq119,hqs119⟩;show mJ ..;refine H_ yJ (zC 0 Al cl L.length i 1 q119 0 1 (L.flatMap dV) (dV d) _ _ _ (h.rowL.kept_from (hF11.next D119)) (Nat.zero_le _) hi1 (by decide) rfl hq119.whole hq119 (fun k hk e=>by have:=(b_ (h.rowL.kept_from hF11) k hk).2;omega) (nb _) (by simp [dV,Value.oneCell']) (by omega)) ?_;rintro v w3 ⟨⟨A2,c2,rfl,ho3,hA3⟩,hg3⟩;rw [FR] at ho3;have hs9:=D119.size;refine ⟨⟨D119.toChg.next (Chg.of_grown hg3 (fun k e=>.inr e)),(hB11.from_ D119).grown hg3 (dz (h.rowL.kept_from (hF11.next D119)) (hB11.from_ D119) (by decide))⟩,⟨A2,c2,rfl,ho3,fun q hq=>(hA3 q hq).imp (fun e=>e) fun e=>Nat.le_trans hs9 e⟩,fun t u ht h=>gT (by repeat first | exact trivial | refine ⟨.inl rfl,?_⟩ | refine ⟨.inr (fun _ h=>h),?_⟩) t u ht h⟩
  case hend=>
   rintro w120 ⟨hC120,hb120⟩;rintro _ rfl _ rfl _ rfl _ rfl v49 rfl _ rfl v51 rfl v52 _ v53 ⟨A53,c53,rfl,ho53,hA53⟩;show St ..;have hC11:=hC120;have hbb:=hb120;refine ae (aw rfl) (ae (ak eo rfl) (bZ (v:=.slice _ _ _) nN rfl rfl rfl (hbb) (by show 1<2;decide) ?_));intro w121 O11 P11;refine ah (ab (ag (aa (asi rfl (ah (ab (ay (bE (v:=.int _ _) rfl rfl ?_))))))));have he:kN D d=0:=wj hid (by omega) hn (by omega);have hlen:(L.take i++d::L.drop i).length=L.length+1:=nI d;rw [he,rU he];refine ⟨rfl,xl (L':=L.take i++d::L.drop i) h hU hF11 (hC11.only O11 (.inl rfl)) (by rw [hlen];exact P11) (by rw [hlen];exact cH ho53 O11 (dz ho53 hbb (by decide))) hA53 (hG.add hi1 hi2 (fun hlt=>⟨hi3 i (Nat.le_refl _) hlt,fun e=>hfd (hi4.2 ⟨hlt,e⟩)⟩) (fun e he q=>hn ⟨e,he,q⟩) hid (by omega) (by omega) (by omega))⟩
end Go.Proofs.YtcbakncjacnnjaaGreat
