/- texts that the claim stands on. -/
import Derived.Test.YtcbakncjacnnjaaGreatSlShLawE6

set_option maxRecDepth 100000
set_option maxHeartbeats 4000000
namespace Go.Proofs.YtcbakncjacnnjaaGreat
open Go.Proofs.Tryz (prog)
open Go.RowKit
open Go.ChangeShapes Go.WideShapes Go.ChangeAt
open Go.Proofs.YtcbakncjacnnjaaGreat.SA
theorem AE:aH prog 41=true:=by kernel_rfl
theorem AD:aH prog 42=true:=by kernel_rfl
theorem AC:aH prog 43=true:=by kernel_rfl
theorem AB:aH prog 48=true:=by kernel_rfl
def sH (D:List Dc) (q:ByteArray) (lim:Int):List Ht:=if gM q lim=0 then (dg D q).take lim.toNat else []
def sN (D:List Dc) (q:ByteArray) (lim:Int):Nat:=if gM q lim=0 then (dg D q).length else 0
theorem pL {q:ByteArray} {lim:Int} (h:gM q lim=0):oq q=0∧q.size≠0∧1≤lim∧lim≤1000:=by
 unfold gM at h;split at h
 ·cases h
 ·split at h
  ·cases h
  ·unfold oq;rw [if_neg (by assumption),if_neg (by omega)];exact ⟨rfl,by assumption,by omega,by omega⟩
theorem s8 (q:ByteArray) {a b:List Dc} (h:a.Perm b) (hf:jJ b):(dg a q).length≤16448:=by
 have h1:=rR (p:=q) a;have h2:=ti h;have h3:=h.length_eq;have h4:=hf.1;have h5:=hf.2.2;omega
noncomputable def hpf (ps:List Pt) (q:ByteArray) (i:Nat):List Ht:=dg ((ps.take i).flatMap Pt.live) q
theorem x6 {ps:List Pt} {q:ByteArray} {i:Nat} (h:i<ps.length):hpf ps q (i+1)=hpf ps q i++dg ps[i].live q:=by
 unfold hpf;rw [List.take_succ_eq_append_getElem h,List.flatMap_append,jE,List.flatMap_cons,List.flatMap_nil,List.append_nil]
noncomputable def hlf (ps:List Pt) (L:List Dc) (q:ByteArray) (j:Nat):List Ht:=hpf ps q ps.length++dg (L.take j) q
theorem x7 {ps:List Pt} {L:List Dc} {q:ByteArray} {j:Nat} (h:j<L.length):hlf ps L q (j+1)=hlf ps L q j++hOf L[j] q:=by
 unfold hlf;rw [List.take_succ_eq_append_getElem h,jE,List.append_assoc];show _++(_++(hOf L[j] q++[]))=_;rw [List.append_nil]
theorem s7 (ps:List Pt) (L:List Dc) (q:ByteArray):hlf ps L q 0=hpf ps q ps.length:=List.append_nil _
theorem BF {ps:List Pt} {L D:List Dc} (hG:ShG ps L D) (q:ByteArray):(hlf ps L q L.length).Perm (dg D q):=by
 have h1:=uZ hG.perm q;unfold hlf hpf;rw [List.take_length,List.take_length];refine List.Perm.trans ?_ h1.symm;unfold jI;rw [jE];exact List.perm_append_comm
theorem zD {ps:List Pt} {L D:List Dc} (hG:ShG ps L D) (q:ByteArray) {j:Nat} (_:j≤L.length):(hlf ps L q j).length≤16448:=by
 have h1:=(BF hG q).length_eq;have h2:=s8 q (.refl D) hG.fit
 have e:hlf ps L q L.length=hlf ps L q j++dg (L.drop j) q:=by
  unfold hlf;rw [List.append_assoc,←jE,List.take_append_drop,List.take_length]
 rw [e,List.length_append] at h1;omega
theorem J1 {ps:List Pt} {L D:List Dc} (hG:ShG ps L D) (q:ByteArray) {i:Nat} (_:i≤ps.length):(hpf ps q i).length≤16448:=by
 have h1:=zD hG q (Nat.zero_le L.length);rw [s7] at h1
 have e:hpf ps q ps.length=hpf ps q i++dg ((ps.drop i).flatMap Pt.live) q:=by
  unfold hpf;rw [←jE,←List.flatMap_append,List.take_append_drop,List.take_length]
 rw [e,List.length_append] at h1;omega
theorem eg (U:Nat→Prop) (s:Nat) (D:List Dc) (w:World) (hs:eC w U s D) (q:ByteArray) (lim:Int) (m:Int) (hm:w.cell? ⟨0,0,none⟩=some (.int .i64 m)) (hqs:q.size≤140737488351232) :
 Rt prog 20 [.pointer (some ⟨s,0,none⟩),.string q,.int .i64 lim] w (fun v w'=>(∃ A' c',v=.tuple #[.slice A' (sH D q lim).length c',.int .i64 (sN D q lim:Nat),.int .i64 (gM q lim)]∧w'.ownsRow w.heap.size 57 2 (.slice A' (sH D q lim).length c') (sH D q lim).length ((sH D q lim).flatMap hV))∧aj w w'):=by
 have hs0:=hs;obtain ⟨ps,L,Ap,cp,Al,cl,hG,h,hU⟩:=hs;have hll:=hG.loose;have hpl:=hG.parts;refine enter (n:=80) Tryz.func20 rfl rfl rfl (ag (aa (ass rfl (asi rfl (asi rfl (ah (ae (ag (ag (aa (mvg rfl (ab (fP rfl rfl) (ah (ae ?_))))))))))))));refine Mb rfl (fun Q1=>?_) (fun Q1=>?_)
 ·have hp0:q.size=0:=jB.1 (by simpa using Q1);refine ag (aa (ass rfl (asi rfl (asi rfl (ah (ae (aA (aF (rp (v:=.slice _ _ _) (v':=.int _ _) (v'':=.int _ _) rfl rfl rfl rfl ?_)))))))));have hak:gM q lim=5:=by unfold gM;rw [if_pos hp0]
  have e1:sH D q lim=[]:=by unfold sH;rw [if_neg (by omega)]
  have e2:sN D q lim=0:=by unfold sN;rw [if_neg (by omega)]
  rw [e1,e2,hak];exact ⟨⟨none,0,rfl,World.ownsRow_nil _ _ _ _⟩,aj.rfl_⟩
 have hp0:q.size≠0:=fun h9=>by have:=jB.2 h9;simp_all
 refine au (ae (ag (ag (aa (mvg rfl (ab (ck (by kernel_rfl) rfl) (ab (bX rfl rfl) (mvb rfl (KB (t:=20) rfl (fun Q2=>?_) (fun Q2=>?_))))))))))
 ·refine aD rfl rfl (aD rfl rfl (ab (a_ (v:=.bool _) rfl rfl) (mvb rfl (aD rfl rfl (aD rfl rfl (ab (a_ (v:=.bool _) rfl rfl) (ah (ae (cA rfl ?_)))))))));refine ag (aa (ass rfl (asi rfl (asi rfl (ah (ae (aA (aF (rp (v:=.slice _ _ _) (v':=.int _ _) (v'':=.int _ _) rfl rfl rfl rfl ?_)))))))));have hak:gM q lim=2:=by unfold gM;rw [if_neg hp0,if_pos (by omega)]
  have e1:sH D q lim=[]:=by unfold sH;rw [if_neg (by omega)]
  have e2:sN D q lim=0:=by unfold sN;rw [if_neg (by omega)]
  rw [e1,e2,hak];exact ⟨⟨none,0,rfl,World.ownsRow_nil _ _ _ _⟩,aj.rfl_⟩
 refine al rfl (mvi rfl (al rfl (ab (aY rfl rfl) (ab (aR (v:=.bool _) rfl rfl) (mvb rfl (KB (t:=24) rfl (fun Q3=>?_) (fun Q3=>?_)))))))
 ·refine aD rfl rfl (aD rfl rfl (ab (a_ (v:=.bool _) rfl rfl) (ah (ae (cA rfl (ag (aa (ass rfl (asi rfl (asi rfl ?_))))))))));refine ah (ae (aA (aF (rp (v:=.slice _ _ _) (v':=.int _ _) (v'':=.int _ _) rfl rfl rfl rfl ?_))));have hak:gM q lim=2:=by unfold gM;rw [if_neg hp0,if_pos (by omega)]
  have e1:sH D q lim=[]:=by unfold sH;rw [if_neg (by omega)]
  have e2:sN D q lim=0:=by unfold sN;rw [if_neg (by omega)]
  rw [e1,e2,hak];exact ⟨⟨none,0,rfl,World.ownsRow_nil _ _ _ _⟩,aj.rfl_⟩
 refine al rfl (mvi rfl (al rfl (ab (bX rfl rfl) (ab (aR (v:=.bool _) rfl rfl) (ah (ae (K8 rfl (fun Q4=>?_) (fun Q4=>?_))))))))
 ·refine ag (aa (ass rfl (asi rfl (asi rfl (ah (ae (aA (aF (rp (v:=.slice _ _ _) (v':=.int _ _) (v'':=.int _ _) rfl rfl rfl rfl ?_)))))))));have hak:gM q lim=2:=by unfold gM;rw [if_neg hp0,if_pos (by omega)]
  have e1:sH D q lim=[]:=by unfold sH;rw [if_neg (by omega)]
  have e2:sN D q lim=0:=by unfold sN;rw [if_neg (by omega)]
  rw [e1,e2,hak];exact ⟨⟨none,0,rfl,World.ownsRow_nil _ _ _ _⟩,aj.rfl_⟩
 have hak:gM q lim=0:=by unfold gM;rw [if_neg hp0,if_neg (by omega)]
 obtain ⟨hpe,_,hl1,hl2⟩:=pL hak;obtain ⟨l,rfl⟩:∃ l:Nat,lim=(l:Int):=⟨lim.toNat,by omega⟩;have hsH:sH D q l=(dg D q).take l:=by unfold sH;rw [if_pos hak,Int.toNat_natCast]
 have hsN:sN D q l=(dg D q).length:=by unfold sN;rw [if_pos hak]
 refine au (ae (ag (aa (ass rfl (ah (ae (ag (ag (aa (mvp rfl (ab (ay rfl) (ab (ak cB rfl) (ab (aq ee rfl (by exact (h.blk.from_ aj.rfl_).rd 0 rfl)) ?_)))))))))))));refine ab (aU dw rfl) (mvi rfl (ah (ae (az (bg (G:=Nat×Option Addr×Nat) [6,7,8,10,11,12,34,35,36,37,38,39,40,41,42,43,44,45,46,47,48,49,50,51,52,53] (fun (i,A9,c9)=>[(9,.slice A9 (hpf ps q i).length c9),(33,.int .i64 (i:Nat))]) (fun (i,A9,c9) w'=>i≤ps.length∧w'.ownsRow w.heap.size 57 2 (.slice A9 (hpf ps q i).length c9) (hpf ps q i).length ((hpf ps q i).flatMap hV)∧aj w w') (fun (i,_,_)=>ps.length-i) ((0,none,0)) ⟨rfl,rfl,trivial⟩ ?_ ?_)))))
 ·exact ⟨Nat.zero_le _,World.ownsRow_nil _ _ _ _,aj.rfl_⟩
 rintro ⟨i,A9,c9⟩ ρ5 w5 ⟨hi,ho9,hB⟩;refine ag (aa (ab (aY rfl rfl) (ah (ae (ag (K8 rfl (fun Q6=>?_) (fun Q6=>?_)))))))
 ·have hil:i<ps.length:=by omega
  obtain ⟨g,rfl⟩:=dy h.rowP (by omega);have hpf1:(hpf ps q (i+1)).length=(hpf ps q i).length+(dg ps[i].live q).length:=by rw [x6 hil,List.length_append]
  have hpl4:=J1 hG q (show i+1≤ps.length by omega);refine au (ae (ag (az (ag (aa (mvi rfl (asi rfl (ah (ae (ag (aa (mvp rfl (ab (ay rfl) (ab (ak cB rfl) (ab (aq ee rfl (by exact (h.blk.from_ hB).rd 0 rfl)) ?_)))))))))))))));refine mvi rfl (ab (aG cM rfl rfl (by omega)) (mvg rfl (ax AE (Ib g (0+i*2) ps[i] _ ((sF h.rowP (fun p hp=>h.ptIn hG hp) hil).from_ hB) q hqs hpe) ?_)));rintro v44 w7 ⟨⟨A44,c44,rfl,ho44⟩,E44⟩;refine mvt rfl (ab (aw rfl rfl) (ab (aw rfl rfl) (ass rfl (asi rfl (ah (ae (ag (ag (aa (mvi rfl (ab (cF (bP rfl rfl) (bne_self_eq_false _)) (ah (ae ?_)))))))))))));refine cm rfl (au (ae (aa (mvs rfl (mvs rfl (cR en rfl (by decide) rfl (A:=A9) (xs:=List.flatMap hV (hpf ps q i)) (news:=List.flatMap hV (dg ps[i].live q)) (ho9.kept_from (aj.rfl_.next E44)) ((hB.next E44).size) rfl (dW eP _) (fun h=>((cN.own eP (by decide) ho44).2).flat eP h) (fun e=>by subst e;exact jC ho44) (zH _) (by omega) (by omega) ?_))))));intro A52 c52 w8 ho52 hg52;have HF52:=((hB.next E44)).grew hg52 (fun k hk=>(bM (ho9.kept_from (aj.rfl_.next E44)) k hk).1);refine ass rfl (ah (aL (ae (aa (ab (aI (b:=1) rfl rfl (by omega)) (mvi rfl (ah ?_)))))));refine aO ((i+1,A52,c52)) ⟨(by rw [hpf1];rfl),rfl,trivial⟩ (by (iterate 52 refine aB rfl ?_);exact aK) ⟨?_,?_⟩
  ·exact ⟨by omega,by rw [hpf1,x6 hil,List.flatMap_append];exact ho52,HF52⟩
  ·show ps.length-(i+1)<ps.length-i;omega
 obtain rfl:i=ps.length:=by omega
 refine aZ (aC (aC (aT (ae (ag (ag (aa (mvp rfl (ab (ay rfl) (ab (ak eB rfl) (ab (aq cC rfl (by exact (h.blk.from_ hB).rd 1 rfl)) ?_)))))))))));refine ab (aU bx rfl) (mvi rfl (ah (ae (az (bg (G:=Nat×Option Addr×Nat) [14,60,61,62,63,64,65,66,67,68] (fun (j,A9,c9)=>[(9,.slice A9 (hlf ps L q j).length c9),(59,.int .i64 (j:Nat))]) (fun (j,A9,c9) w'=>j≤L.length∧w'.ownsRow w.heap.size 57 2 (.slice A9 (hlf ps L q j).length c9) (hlf ps L q j).length ((hlf ps L q j).flatMap hV)∧aj w w') (fun (j,_,_)=>L.length-j) ((0,A9,c9)) ⟨(by rw [s7];rfl),rfl,trivial⟩ ?_ ?_)))))
 ·exact ⟨Nat.zero_le _,by rw [s7];exact ho9,hB⟩
 rintro ⟨j,A9,c9⟩ ρ9 w9 ⟨hj,ho9,hB⟩;refine ag (aa (ab (aY rfl rfl) (ah (ae (ag (K8 rfl (fun Q10=>?_) (fun Q10=>?_)))))))
 ·have hjl:j<L.length:=by omega
  obtain ⟨bL,oL,rfl,hcL⟩:=(cN.own bH (by decide) h.rowL).2 (by omega);have hce:=hcL j hjl;have hlf1:(hlf ps L q (j+1)).length=(hlf ps L q j).length+(hOf L[j] q).length:=by rw [x7 hjl,List.length_append]
  have hpl5:=zD hG q (show j+1≤L.length by omega);have hdj:=hG.looseFit.2.1 _ (List.getElem_mem hjl);refine au (ae (ag (az (ag (aa (ab (aG aP rfl rfl (by omega)) (ab (bk (cs:=[_,_]) bJ bh rfl (by exact da hB hce)) ?_)))))));refine dE kk ?_;intro b14 w11 E14 hb14 hk14;have hg14:w.heap.size≤b14:=by rw [hb14];exact (hB).size
  refine fz (vs:=[_,_]) bh rfl rfl (by simp [Value.oneCell']) (hk14) rfl ?_;intro w12 O16 P16;replace ho9:=cG (ho9.kept_from E14) O16 (fun q hq=>by have:=(bM ho9 q hq).2;omega);refine ah (ae (aa (mvs rfl (ab (bk (cs:=[_,_]) bJ bh rfl (by exact (P16.from_ aj.rfl_).whole)) ?_))));refine mvg rfl (ax AD (G2 L[j] q m _ (bu ((hB.next E14).only O16 (hg14)) hm) hdj hp0) ?_);rintro v66 w13 ⟨⟨A66,c66,rfl,ho66⟩,E66⟩;refine cR en rfl (by decide) rfl (A:=A9) (xs:=List.flatMap hV (hlf ps L q j)) (news:=List.flatMap hV (hOf L[j] q)) (ho9.kept_from (aj.rfl_.next E66)) ((((hB.next E14).only O16 (hg14)).next E66).size) rfl (dW eP _) (fun h=>((cN.own eP (by decide) ho66).2).flat eP h) (fun e=>by subst e;exact jC ho66) (zH _) (by omega) (by omega) ?_;intro A67 c67 w14 ho67 hg67;have HF67:=((((hB.next E14).only O16 (hg14)).next E66)).grew hg67 (fun k hk=>(bM (ho9.kept_from (aj.rfl_.next E66)) k hk).1);refine ass rfl (ah (aL (ae (aa (ab (aI (b:=1) rfl rfl (by omega)) (mvi rfl (ah ?_)))))));refine aO ((j+1,A67,c67)) ⟨(by rw [hlf1];rfl),rfl,trivial⟩ (by (iterate 24 refine aB rfl ?_);exact aK) ⟨?_,?_⟩
  ·exact ⟨by omega,by rw [hlf1,x7 hjl,List.flatMap_append];exact ho67,HF67⟩
  ·show L.length-(j+1)<L.length-j;omega
 obtain rfl:j=L.length:=by omega
 have hpl6:=zD hG q (Nat.le_refl L.length);refine aZ (aC (aC (aT (ae (ag (aa (mvs rfl (ax AC (Ck _ A9 c9 (hlf ps L q L.length).length (hlf ps L q L.length) _ ho9 (by omega)) ?_))))))));rintro v70 w15 ⟨⟨ys,hyp,hys,hoy⟩,hg70⟩;obtain rfl:=CY hG.sd (BF hG q) hyp hys;have hyl:=hyp.length_eq;refine ah (ae (ag (aa (mvs rfl (mvi rfl (mvs rfl (ab (aU eV rfl) (ab (eE (v':=.int .i64 ((min l (hlf ps L q L.length).length:Nat):Int)) (Ey rfl rfl) (aM (by omega))) (ab (eE (v':=.slice A9 (min l (hlf ps L q L.length).length) c9) (bw (l:=0) (h:=min l (hlf ps L q L.length).length) fH rfl (.inl ⟨rfl,rfl⟩) (.inr ⟨_,_,_,rfl,rfl,rfl⟩) (by omega) (by have:=l3 hoy;omega)) (by rw [cP,Nat.sub_zero,Nat.sub_zero])) ?_)))))))));have hz77:=(((hB).grew hg70 (fun k hk=>(bM ho9 k hk).1))).size;refine ax AB (dL A9 c9 (min l (hlf ps L q L.length).length) (((dg D q).take l).flatMap hV) _ (by rw [dW eP,List.length_take,hyl]) (fun h0=>((cN.own eP (by decide) hoy).2.take l).flat eP (by rw [List.length_take,hyl];exact h0)) (fun e=>by subst e;have e1:=qw hoy;have e2:=jC hoy;omega) (zH _) (by omega)) ?_;rintro v77 w16 ⟨⟨A77,c77,rfl,ho77⟩,E77⟩;refine mvs rfl (ab (aU eV rfl) (ass rfl (asi rfl (asi rfl (ah (ae (aA (rp (v:=.slice _ _ _) (v':=.int _ _) (v'':=.int _ _) rfl rfl rfl rfl ?_))))))));have hlen:((dg D q).take l).length=min l (hlf ps L q L.length).length:=by rw [List.length_take,hyl]
 rw [hsH,hsN,hak,hlen,hyl];exact ⟨⟨A77,c77,rfl,fD ho77 hz77⟩,(((hB).grew hg70 (fun k hk=>(bM ho9 k hk).1)).next E77)⟩
structure L5 (w:World) (A B C:Option Addr) (ca:Nat) (ds:List Dc) (ps ns:List ByteArray):Prop where
 row:cN 2 dV w A ds
 sm:∀ d∈ds,Small d.1∧Small d.2
 len:ds.length*32≤140737488351232
 nil:A=none→ca=0
 rowP:bU Value.string w B ps
 smP:∀ s∈ps,Small s
 lenP:ps.length*16≤140737488351232
 rowN:bU Value.string w C ns
 smN:∀ s∈ns,Small s
 lenN:ns.length*16≤140737488351232
theorem HI {w:World} {base e s n c:Nat} {A:Option Addr} {xs:List Value} (h:w.ownsRow base e s (.slice A n c) n xs):A=none→n=0∧c=0:=fun hA=>by
 rcases h.2 with ⟨h0,h1⟩ | ⟨g,cap,cur,hv,_⟩
 ·simp only [Value.slice.injEq] at h0;exact ⟨h0.2.1,h0.2.2⟩
 ·simp only [Value.slice.injEq] at hv;rw [hA] at hv;cases hv.1
theorem Ic:lV [(⟨#[97]⟩,⟨#[120,120]⟩)] ⟨#[120]⟩=[(⟨#[97]⟩,0),(⟨#[97]⟩,1)]:=by
 have e2:txt ⟨#[120,120]⟩=[121,121]:=by unfold txt;rw [Lib.toList_data];rfl
 have e3:txt ⟨#[120]⟩=[121]:=by unfold txt;rw [Lib.toList_data];rfl
 have e4:oq ⟨#[120]⟩=0:=by decide
 have e5:ks [121,121] [121]=[0,1]:=by decide
 unfold lV;rw [e4,if_pos rfl];unfold dg dg;rw [e2,e3,e5];rfl
open Classical in
noncomputable def fI (ds:List Dc) (q:ByteArray):Int:=if h:∃ i,i<ds.length∧(ds.getD i dd).1=q∧∀ k,k<i→(ds.getD k dd).1≠q then ((Classical.choose h:Nat):Int) else -1
theorem I6 {ds:List Dc} {q:ByteArray} {i:Nat} (h1:i<ds.length) (h2:(ds.getD i dd).1=q) (h3:∀ k,k<i→(ds.getD k dd).1≠q):fI ds q=(i:Int):=by
 have h:∃ i,i<ds.length∧(ds.getD i dd).1=q∧∀ k,k<i→(ds.getD k dd).1≠q:=⟨i,h1,h2,h3⟩;unfold fI;rw [dif_pos h];obtain ⟨a1,a2,a3⟩:=Classical.choose_spec h;rcases Nat.lt_trichotomy (Classical.choose h) i with e | e | e
 ·exact absurd a2 (h3 _ e)
 ·rw [e]
 ·exact absurd h2 (a3 _ e)
theorem I5 {ds:List Dc} {q:ByteArray} (h:∀ i,i<ds.length→(ds.getD i dd).1≠q):fI ds q=-1:=by
 unfold fI;rw [dif_neg];rintro ⟨i,h1,h2,_⟩;exact h i h1 h2
theorem na (A B:Option Addr) (ca cb n m:Nat) (a:List Dc) (w:World) (ha:cN 2 dV w A a) (hb:cN 2 dV w B a) (hn:n=a.length) (hm:m=a.length) (hl:n≤100000000):Rt prog 29 [.slice A n ca,.slice B m cb] w fun v w'=>v=.bool true∧aj w w':=
 (C5 A B ca cb n m a a w ha hb hn hm hl).mono fun _ _ h=>⟨h.1.trans (congrArg Value.bool (decide_eq_true rfl)),h.2⟩
theorem xE (A:Option Addr) (c n:Nat) (ds:List Dc) (w:World) (hr:cN 2 dV w A ds) (hn:n=ds.length) (hl:n≤100000000) (q:ByteArray) :
 Rt prog 33 [.slice A n c,.string q] w (fun v w'=>v=.int .i64 (fI ds q)∧aj w w'):=by
 refine enter (n:=20) Tryz.func33 rfl rfl rfl (ag (aa (asi rfl (ah (ae (ag (ag (aa (asi rfl (ah (ae (az (bg (G:=Nat) [4,6,7,8,9,10,11,12,13,14,15,16,17,18,19] (fun i=>[(5,.int .i64 (i:Nat))]) (fun i w'=>i≤n∧(∀ k,k<i→(ds.getD k dd).1≠q)∧aj w w') (fun i=>n-i) (0) ⟨rfl,trivial⟩ ?_ ?_)))))))))))))
 ·exact ⟨Nat.zero_le _,fun k h=>absurd h (by omega),aj.rfl_⟩
 rintro i ρ1 w1 ⟨hi,hno,hB⟩;refine ag (ag (aa (mvi rfl (mvs rfl (ab (aU bx rfl) (ab (aY rfl rfl) (ah (ae (K8 rfl (fun Q2=>?_) (fun Q2=>?_))))))))))
 ·obtain ⟨bd,od,rfl,hcd⟩:=hr (by omega);have hil:i<ds.length:=by omega
  have hce:=hcd i hil;rw [←bO hil] at hce;refine au (ae (ag (az (ag (aa (mvs rfl (mvi rfl (ab (aG aP rfl rfl (by omega)) (ab (ak aW rfl) (ab (aq aX rfl (by exact bu hB (hce 0 _ rfl))) ?_))))))))));refine mvg rfl (ab (fP rfl rfl) (ah (ae (Mb rfl (fun Q3=>?_) (fun Q3=>?_)))))
  ·have heq:(ds.getD i dd).1=q:=by first | exact lS Q3 | exact fL.1 Q3
   refine ag (aa (mvi rfl (asi rfl (ah (ae (aA (bq (aF (aF (bq (aF (bE (v:=.int _ _) rfl rfl (⟨aM (by rw [I6 hil heq hno]),hB⟩)))))))))))))
  have hne:(ds.getD i dd).1≠q:=fun e=>by have:=fL.2 e;simp_all
  refine au (aL (ae (aa (mvi rfl (ab (aI (b:=1) rfl rfl (by omega)) (asi rfl (ah ?_)))))));refine aO (i+1) ⟨(by first | rfl | (refine aM ?_;omega)),trivial⟩ (by (iterate 30 refine aB rfl ?_);exact aK) ⟨?_,?_⟩
  ·exact ⟨by omega,fun k hk=>by
    rcases Nat.eq_or_lt_of_le (Nat.le_of_lt_succ hk) with e | e
    ·subst e;exact hne
    ·exact hno k e,hB⟩
  ·show n-(i+1)<n-i;omega
 refine aZ (aC (aC (aT (ae (ag (aa (asi rfl (ah (ae (aA (bE (v:=.int _ _) rfl rfl (⟨aM (by rw [I5 (fun k hk=>hno k (by omega))]),hB⟩))))))))))))
end Go.Proofs.YtcbakncjacnnjaaGreat
namespace Go.Proofs.YtcbakncjacnnjaaGreat
open Go.Proofs.Tryz (prog)
open Go.RowKit
open Go.ChangeShapes Go.WideShapes Go.ChangeAt
open Go.Proofs.YtcbakncjacnnjaaGreat.SA
theorem Dk:aH prog 49=true:=by kernel_rfl
theorem Dj:aH prog 50=true:=by kernel_rfl
theorem vf:aH prog 33=true:=by kernel_rfl
theorem lN:aH prog 11=true:=by kernel_rfl
theorem pd {s:ByteArray} (h:s.toList=(⟨#[]⟩:ByteArray).toList):s.size=0:=by rw [lS h];rfl
theorem xT {s:ByteArray} (h:s.size=0):s.toList=(⟨#[]⟩:ByteArray).toList:=by rw [oc h]
structure kO (w:World) (U:Nat→Prop) (A:Option Addr) (c:Nat) (ds:List Dc):Prop where
 row:cN 2 dV w A ds
 cap:ds.length≤c
 nil:A=none→c=0
 off:0<ds.length→∀ q,A.map (·.block)=some q→¬ U q
theorem kO.from_ {w w':World} {U:Nat→Prop} {A:Option Addr} {c:Nat} {ds:List Dc} (h:kO w U A c ds) (hF:aj w w'):kO w' U A c ds:=⟨h.row.from_ hF,h.cap,h.nil,h.off⟩
theorem kO.lt {w:World} {U:Nat→Prop} {A:Option Addr} {c:Nat} {ds:List Dc} (h:kO w U A c ds) (h0:0<ds.length):∀ q,A.map (·.block)=some q→q<w.heap.size:=fun q hq=>by
 obtain ⟨b,o,e,hc⟩:=h.row h0;subst e;cases hq;exact World.block_lt_of_cell? _ _ (hc 0 h0 0 _ rfl)
theorem kO.chg {w w':World} {U V:Nat→Prop} {A:Option Addr} {c:Nat} {ds:List Dc} (h:kO w U A c ds) (hc:Chg U w w') (hV:∀ k,V k→Nx U w w' k):kO w' V A c ds:=⟨fun h0=>by
 obtain ⟨b,o,e,hr⟩:=h.row h0;refine ⟨b,o,e,fun i hi=>?_⟩;have hb:=h.lt h0 b (by rw [e];rfl);have hu:=h.off h0 b (by rw [e];rfl);intro j v hv;have:=hr i hi j v hv;unfold World.cell? at this ⊢;show (match w'.heap[b]? with | some (.cells cs _ _)=>_ | _=>_)=_;rw [hc.block b hb hu];exact this,h.cap,h.nil,fun h0 q hq hv=>by
 rcases hV q hv with e | ⟨e,_⟩
 ·exact h.off h0 q hq e
 ·have:=h.lt h0 q hq;omega⟩
theorem kO.own {w w0:World} {U:Nat→Prop} {A:Option Addr} {c n:Nat} {ds:List Dc} (h:w.ownsRow w0.heap.size 37 2 (.slice A n c) n (ds.flatMap dV)) (hU:∀ q,U q→q<w0.heap.size):kO w U A c ds:=by
 have hl:=fZ bH h;subst hl;refine ⟨(cN.own bH (by decide) h).2,l3 h,fun e=>by subst e;exact jC h,fun _ q hq hu=>?_⟩;have h1:=(bM h q hq).1;have h2:=hU q hu;omega
theorem sq {w:World} {A:Option Addr} {c k:Nat} {ds:List Dc} (h:cN 2 dV w A ds) (hc:ds.length≤c) (hA:A=none→c=0) (hk:k≤ds.length):(0<ds.length-k→∃ b o,ik A c k 2=some ⟨b,o,none⟩∧w.rangeAt b o ((ds.drop k).flatMap dV))∧(ik A c k 2=none→c-k=0):=by
 refine ⟨fun h0=>?_,fun h0=>?_⟩
 ·obtain ⟨b,o,rfl,hr⟩:=h (by omega);rw [cw (by omega)];have h2:cN 2 dV w (some ⟨b,o+k*2,none⟩) (ds.drop k):=cN.drop (b:=b) (o:=o) h k hk;obtain ⟨b2,o2,e,hr2⟩:=h2.flat bH (by rw [List.length_drop];omega);cases e;exact ⟨_,_,rfl,hr2⟩
 ·cases A with
  |none=>have:=hA rfl;omega
  |some a=>
   unfold ik at h0;split at h0
   ·omega
   ·cases h0
theorem F3 {ds:List Dc} (hs:SD ds) {i:Nat} (hi:i<ds.length):(ds.take i).flatMap dV++(ds.drop (i+1)).flatMap dV=(fc ds ds[i].1).flatMap dV:=by rw [pJ hs.dif hi,List.flatMap_append]
theorem It {ds:List Dc} (hs:SD ds) {i:Nat} (hi:i<ds.length):(fc ds ds[i].1).length=i+(ds.length-(i+1)):=by rw [pJ hs.dif hi,List.length_append,List.length_take,List.length_drop];omega
theorem q0 (A:Option Addr) (c n:Nat) (ds:List Dc) (w:World) (hr:cN 2 dV w A ds) (hn:n=ds.length) (hl:n≤100000000) (hs:SD ds) (id:ByteArray):Rt prog 33 [.slice A n c,.string id] w fun v w'=>((∃ i:Nat,v=.int .i64 (i:Nat)∧∃ hi:i<ds.length,ds[i].1=id)∨(v=.int .i64 (-1)∧¬ ∃ e∈ds,e.1=id))∧aj w w':=
 (xE A c n ds w hr hn hl id).mono fun v w' h=>by
  refine ⟨?_,h.2⟩;rw [h.1];by_cases hx:∃ e∈ds,e.1=id
  ·obtain ⟨e,he,rfl⟩:=hx;obtain ⟨i,hi,rfl⟩:=List.getElem_of_mem he;refine .inl ⟨i,?_,hi,rfl⟩;rw [I6 hi (by rw [bO hi]) fun k hk e=>?_];have h4:=jb.cmp hs hk hi;rw [e,bO hi] at h4;exact fN _ h4
  ·refine .inr ⟨?_,hx⟩;rw [I5 fun i hi e=>hx ⟨ds[i],List.getElem_mem hi,by rw [←e,bO hi]⟩]
theorem cK (e:Int) (w:World) :
 Rt prog 15 [.int .i64 e] w (fun v w'=>v=.int .i64 e∧w=w'):=by
 refine enter (n:=4) Tryz.func15 rfl rfl rfl (ag (aa (asi rfl (ah (ae (ag (aa (mvi rfl (asi rfl (ah (ae (aA (bE (v:=.int _ _) rfl rfl (⟨rfl,rfl⟩))))))))))))))
theorem vy (A:Option Addr) (c n:Nat) (ds:List Dc) (w:World) (hr:cN 2 dV w A ds) (hn:n=ds.length) (hl:n≤100000000) (q:ByteArray) (lim:Int) (hqs:q.size≤140737488351232) (hz:dsz ds≤100000000) :
 Rt prog 21 [.slice A n c,.string q,.int .i64 lim] w (fun v w'=>(∃ A' c',v=.tuple #[.slice A' (sH ds q lim).length c',.int .i64 (sN ds q lim:Nat),.int .i64 (gM q lim)]∧cN 2 hV w' A' (sH ds q lim))∧aj w w'):=by
 refine enter (n:=28) Tryz.func21 rfl rfl rfl (ag (aa (ass rfl (asi rfl (asi rfl (ah (ae (ag (aa (mvg rfl (mvi rfl (ax Dk (zn q lim _) ?_))))))))))));rintro v13 w1 ⟨rfl,E13⟩;refine asi rfl (ah (ae (ag (ag (aa (mvi rfl (ab (bP rfl rfl) (ah (ae (L_ rfl (fun Q2=>?_) (fun Q2=>?_)))))))))))
 ·have hak:gM q lim≠0:=by simpa using Q2
  refine ag (aa (mvi rfl (ass rfl (asi rfl (asi rfl (ah (ae (aA (aF (rp (v:=.slice _ _ _) (v':=.int _ _) (v'':=.int _ _) rfl rfl rfl rfl ?_))))))))));have e1:sH ds q lim=[]:=by unfold sH;rw [if_neg hak]
  have e2:sN ds q lim=0:=by unfold sN;rw [if_neg hak]
  rw [e1,e2];exact ⟨⟨none,0,rfl,cN.nil⟩,(aj.rfl_.next E13)⟩
 have hak:gM q lim=0:=by simpa using Q2
 obtain ⟨hpe,hp0,hl1,hl2⟩:=pL hak;obtain ⟨l,rfl⟩:∃ l:Nat,lim=(l:Int):=⟨lim.toNat,by omega⟩;have hsH:sH ds q l=(dg ds q).take l:=by unfold sH;rw [if_pos hak,Int.toNat_natCast]
 have hsN:sN ds q l=(dg ds q).length:=by unfold sN;rw [if_pos hak]
 refine au (ae (ag (aa (mvs rfl (mvg rfl (ax Dj (zm A c n ds _ (hr.from_ (aj.rfl_.next E13)) hn hl q hp0 hqs hz) ?_))))));rintro v19 w3 ⟨⟨A19,c19,rfl,ho19⟩,E19⟩;refine ass rfl (ah (ae (ag (aa (mvs rfl (mvs rfl (ab (aU eV rfl) (mvi rfl (ab (eE (v':=.int .i64 ((min (dg ds q).length l:Nat):Int)) (Ey rfl rfl) (aM (by omega))) (ab (eE (v':=.slice A19 (min (dg ds q).length l) c19) (bw (l:=0) (h:=min (dg ds q).length l) fH rfl (.inl ⟨rfl,rfl⟩) (.inr ⟨_,_,_,rfl,rfl,rfl⟩) (by omega) (by have:=l3 ho19;omega)) (by rw [cP,Nat.sub_zero,Nat.sub_zero])) ?_))))))))));refine mvs rfl (ab (aU eV rfl) (ass rfl (asi rfl (asi rfl (ah (ae (aA (rp (v:=.slice _ _ _) (v':=.int _ _) (v'':=.int _ _) rfl rfl rfl rfl ?_))))))));have hlen:((dg ds q).take l).length=min (dg ds q).length l:=by rw [List.length_take,Nat.min_comm]
 rw [hsH,hsN,hak,hlen];exact ⟨⟨A19,c19,rfl,(cN.own eP (by decide) ho19).2.take l⟩,((aj.rfl_.next E13).next E19)⟩
theorem vz (U:Nat→Prop) (A:Option Addr) (c n:Nat) (ds:List Dc) (w:World) (hr:kO w U A c ds) (hU:∀ q,U q→q<w.heap.size) (hn:n=ds.length) (hl:n≤100000000) (hs:SD ds) (id:ByteArray) (hd:id.size≤140737488351232) (ho:jb ds) :
 Rt prog 18 [.slice A n c,.string id] w (fun v w'=>(∃ A' c',v=.tuple #[.slice A' (fc ds id).length c',.int .i64 (tm ds id)]∧kO w' U A' c' (fc ds id))∧aj w w'):=by
 subst hn;have hcap:=hr.cap;refine enter (n:=32) Tryz.func18 rfl rfl rfl (ag (aa (ass rfl (asi rfl (ah (ae (ag (ag (aa (mvg rfl (ab (fP rfl rfl) (mvb rfl (L9 (t:=10) rfl (fun Q1=>?_) (fun Q1=>?_))))))))))))))
 ·refine aD rfl rfl (aD rfl rfl (aD rfl rfl (ab (a_ (v:=.bool _) rfl rfl) (ah (ae (cA rfl (ag (aa (mvs rfl (ass rfl ?_))))))))));refine asi rfl (ah (ae (aA (aF (cZ (v:=.slice _ _ _) (v':=.int _ _) rfl rfl rfl ?_)))));have hid:¬ (1≤id.size∧id.size≤64):=by first | omega | (have:=pd (by assumption);omega)
  rw [zU hid,vV ho hid];exact ⟨⟨A,c,rfl,hr.from_ aj.rfl_⟩,aj.rfl_⟩
 refine al rfl (mvg rfl (al rfl (ab (ck (by kernel_rfl) rfl) (al rfl (ab (bX rfl rfl) (ab (aR (v:=.bool _) rfl rfl) (ah (ae (K8 rfl (fun Q2=>?_) (fun Q2=>?_))))))))))
 ·refine ag (aa (mvs rfl (ass rfl (asi rfl (ah (ae (aA (aF (cZ (v:=.slice _ _ _) (v':=.int _ _) rfl rfl rfl ?_)))))))));have hid:¬ (1≤id.size∧id.size≤64):=by first | omega | (have:=pd (by assumption);omega)
  rw [zU hid,vV ho hid];exact ⟨⟨A,c,rfl,hr.from_ aj.rfl_⟩,aj.rfl_⟩
 have hid:1≤id.size∧id.size≤64:=by
  have h0:id.size≠0:=fun e=>absurd (xT e) (by assumption)
  omega
 refine au (ae (ag (aa (mvs rfl (mvg rfl (ax vf (q0 A c ds.length ds _ (hr.row.from_ aj.rfl_) rfl hl hs id) ?_))))));rintro v18 w3 ⟨hf18,E18⟩;rcases hf18 with ⟨i,rfl,hi,hie⟩ | ⟨rfl,hno⟩
 ·subst hie;have htl:=sq (k:=i+1) hr.row hr.cap hr.nil (by omega);refine asi rfl (ah (ae (ag (ag (aa (mvi rfl (ab (aY rfl rfl) (ah (ae (K8 rfl (fun Q4=>?_) (fun Q4=>?_)))))))))))
  ·exfalso;omega
  refine au (ae (ag (aa (mvs rfl (mvi rfl (ab (eE (v':=.slice A i c) (bw (l:=0) (h:=i) aP rfl (.inl ⟨rfl,rfl⟩) (.inr ⟨_,_,_,rfl,rfl,rfl⟩) (by omega) (by omega)) (by rw [cP,Nat.sub_zero,Nat.sub_zero])) ?_))))));have hz25:=((aj.rfl_.next E18)).size;refine ax lN (jF A c i (ds.take i) _ ((hr.row.take i).from_ (aj.rfl_.next E18)) (by rw [List.length_take];omega) (by omega)) ?_;rintro v25 w5 ⟨⟨A25,c25,rfl,ho25⟩,E25⟩;refine ass rfl (ah (ae (ag (aa (mvs rfl (mvs rfl (mvi rfl (ab (aI (b:=1) rfl rfl (by omega)) (ab (bw (l:=i+1) (h:=ds.length) aP rfl (.inr ⟨_,_,_,rfl,rfl,rfl⟩) (.inl ⟨rfl,rfl⟩) (by omega) (by omega)) ?_)))))))));refine cR de rfl (by decide) rfl (A:=A25) (xs:=List.flatMap dV (ds.take i)) (news:=List.flatMap dV (ds.drop (i+1))) (fD (ho25.kept_from aj.rfl_) hz25) (((aj.rfl_.next E18).next E25).size) rfl (by rw [dW bH,List.length_drop]) (fun h=>by obtain ⟨b,o,e1,e2⟩:=htl.1 (by first | exact h | (rw [dW bH,List.length_drop] at h;omega));exact ⟨b,o,e1,da ((aj.rfl_.next E18).next E25) e2⟩) htl.2 (nc _) (by omega) (by omega) ?_;intro A31 c31 w6 ho31 hg31;have HF31:=(((aj.rfl_.next E18).next E25)).grew hg31 (fun k hk=>Nat.le_trans hz25 (bM ho25 k hk).1);refine ass rfl (asi rfl (ah (ae (aA (cZ (v:=.slice _ _ _) (v':=.int _ _) rfl rfl rfl ?_)))));rw [qM hid ⟨_,List.getElem_mem hi,rfl⟩,It hs hi];rw [F3 hs hi] at ho31;exact ⟨⟨A31,c31,rfl,kO.own ho31 hU⟩,HF31⟩
 refine asi rfl (ah (ae (ag (ag (aa (mvi rfl (ab (aY rfl rfl) (ah (ae (K8 rfl (fun Q7=>?_) (fun Q7=>?_)))))))))));rotate_left
 ·exfalso;omega
 refine ag (aa (mvs rfl (ass rfl (asi rfl (ah (ae (aA (aF (cZ (v:=.slice _ _ _) (v':=.int _ _) rfl rfl rfl ?_)))))))));rw [zT hid hno,tl hno];exact ⟨⟨A,c,rfl,hr.from_ (aj.rfl_.next E18)⟩,(aj.rfl_.next E18)⟩
theorem BE {ds:List Dc} {d:Dc} {i:Nat} (hs:SD ds) (hi:i≤ds.length) (h1:∀ x,x<i→sLt (SM.G Dz ds x).1 d.1) (h2:i<ds.length→¬ sLt (SM.G Dz ds i).1 d.1) (hn:¬ ∃ e∈ds,e.1=d.1):zC ds d=ds.take i++d::ds.drop i:=
 rH (hs.ins hi h1 fun hlt=>⟨h2 hlt,fun e=>hn ⟨ds[i],List.getElem_mem hlt,by rw [←e,pX hlt]⟩⟩) mY
theorem Cx (U:Nat→Prop) (A:Option Addr) (c n:Nat) (ds:List Dc) (w:World) (hr:kO w U A c ds) (hU:∀ q,U q→q<w.heap.size) (hn:n=ds.length) (hl:n≤100000000) (hs:SD ds) (d:Dc) (hd1:d.1.size≤140737488351232) (hd2:d.2.size≤140737488351232) (hf:jJ ds) :
 Rt prog 26 [.slice A n c,.agg (dV d).toArray] w (fun v w'=>(∃ A' c',v=.tuple #[.slice A' (gn ds d).length c',.int .i64 (jZ ds d)]∧kO w' U A' c' (gn ds d))∧aj w w'):=by
 subst hn;have hcap:=hr.cap;have hf1:=hf.1;have hf3:=hf.2.2;refine enter (n:=70) Tryz.func26 rfl rfl rfl (ag (aa (c0 (v:=.agg _) rfl ?_)));intro b3 w1 E3 hb3 hk3;refine ass rfl (asi rfl (ah (ae (ag (ag (aa (ab (ak aW rfl) (ab (aq aX rfl (by exact (hk3.from_ aj.rfl_).rd 0 rfl)) ?_))))))));refine ab (fP rfl rfl) (mvb rfl (L9 (t:=11) rfl (fun Q2=>?_) (fun Q2=>?_)))
 ·refine aD rfl rfl (aD rfl rfl (aD rfl rfl (aD rfl rfl (ab (a_ (v:=.bool _) rfl rfl) (ah (ae (cA rfl (ag (aa (mvs rfl ?_))))))))));refine ass rfl (asi rfl (ah (ae (aA (aF (cZ (v:=.slice _ _ _) (v':=.int _ _) rfl rfl rfl ?_))))));have hid:¬ (1≤d.1.size∧d.1.size≤64):=by first | omega | (have:=pd (by assumption);omega)
  rw [oG hid,gO (by rw [oG hid];decide)];exact ⟨⟨A,c,rfl,hr.from_ (aj.rfl_.next E3)⟩,(aj.rfl_.next E3)⟩
 refine al rfl (ab (ak aW rfl) (al rfl (ab (aq aX rfl (by exact (hk3.from_ aj.rfl_).rd 0 rfl)) ?_)));refine al rfl (ab (ck (by kernel_rfl) rfl) (al rfl (ab (bX rfl rfl) (ab (aR (v:=.bool _) rfl rfl) (ah (ae (K8 rfl (fun Q3=>?_) (fun Q3=>?_))))))))
 ·refine ag (aa (mvs rfl (ass rfl (asi rfl (ah (ae (aA (aF (cZ (v:=.slice _ _ _) (v':=.int _ _) rfl rfl rfl ?_)))))))));have hid:¬ (1≤d.1.size∧d.1.size≤64):=by first | omega | (have:=pd (by assumption);omega)
  rw [oG hid,gO (by rw [oG hid];decide)];exact ⟨⟨A,c,rfl,hr.from_ (aj.rfl_.next E3)⟩,(aj.rfl_.next E3)⟩
 have hid:1≤d.1.size∧d.1.size≤64:=by
  have h0:d.1.size≠0:=fun e=>absurd (xT e) (by assumption)
  omega
 refine au (ae (ag (ag (aa (ab (ak bR rfl) (ab (aq aX rfl (by exact (hk3.from_ aj.rfl_).rd 1 rfl)) ?_))))));refine ab (ck (by kernel_rfl) rfl) (ab (bX rfl rfl) (ah (ae (K8 rfl (fun Q4=>?_) (fun Q4=>?_)))))
 ·refine ag (aa (mvs rfl (ass rfl (asi rfl (ah (ae (aA (aF (cZ (v:=.slice _ _ _) (v':=.int _ _) rfl rfl rfl ?_)))))))));have he:=wt (D:=ds) hid (by omega);rw [gO (by rw [he];decide),he];exact ⟨⟨A,c,rfl,hr.from_ (aj.rfl_.next E3)⟩,(aj.rfl_.next E3)⟩
 refine au (ae (ag (ag (aa (mvs rfl (ab (ak aW rfl) (ab (aq aX rfl (by exact (hk3.from_ aj.rfl_).rd 0 rfl)) ?_)))))));refine ax vf (q0 A c ds.length ds _ (hr.row.from_ (aj.rfl_.next E3)) rfl hl hs d.1) ?_;rintro v26 w5 ⟨hf26,E26⟩;rcases hf26 with ⟨j,rfl,hj,hje⟩ | ⟨rfl,hno⟩
 ·refine ab (ek rfl rfl) (ah (ae (K8 rfl (fun Q6=>?_) (fun Q6=>?_))));rotate_left
  ·exfalso;omega
  refine ag (aa (mvs rfl (ass rfl (asi rfl (ah (ae (aA (aF (cZ (v:=.slice _ _ _) (v':=.int _ _) rfl rfl rfl ?_)))))))));have he:=oE hid (by omega) ⟨_,List.getElem_mem hj,hje⟩;rw [gO (by rw [he];decide),he];exact ⟨⟨A,c,rfl,hr.from_ ((aj.rfl_.next E3).next E26)⟩,((aj.rfl_.next E3).next E26)⟩
 refine ab (ek rfl rfl) (ah (ae (K8 rfl (fun Q105=>?_) (fun Q105=>?_))))
 ·exfalso;omega
 refine au (ae (ag (ag ?_)));have hsp:64≤ds.length∨(ds.length<64∧16384<dsz ds+d.2.size)∨(ds.length<64∧dsz ds+d.2.size≤16384):=by omega
 rcases hsp with hc1 | ⟨hc1,hc2⟩ | ⟨hc1,hc2⟩
 ·apply bI 12 [(29,eqp _),(30,eqp _),(31,eqp _),(32,eqp _),(33,eqp _),(34,eqp _),(35,eqp _),(36,eqp _),(37,eqp _),(38,eqp _),(39,eqp _),(40,eqp _)] (by repeat first | exact bW | refine bT ?_ | refine bG ?_) (by kernel_rfl) (by kernel_rfl) ⟨af _,af _,af _,af _,af _,af _,af _,af _,af _,af _,af _,af _,trivial⟩
  case hop=>
   constructor
   ·rintro-w107 D107;exact ai (ar (v:=.slice _ _ _) rfl) rfl
   constructor
   ·rintro-w108 D108;rintro _ rfl;exact ai (aU bx rfl) rfl
   constructor
   ·rintro-w109 D109;rintro _ rfl;exact ai (gx (ek rfl rfl) (decide_eq_true (by omega))) rfl
   constructor
   ·rintro-w110 D110;rintro _ rfl;exact ai (ar (v:=.bool _) rfl) rfl
   constructor
   ·rintro-w111 D111;rintro _ rfl;exact bj rfl rfl rfl
   constructor
   ·rintro-w112 D112;rintro _ rfl _ rfl;exact bj rfl rfl rfl
   constructor
   ·rintro-w113 D113;rintro _ rfl;exact bj rfl rfl rfl
   constructor
   ·rintro-w114 D114;rintro _ rfl _ rfl;exact bj rfl rfl rfl
   constructor
   ·rintro-w115 D115;rintro _ rfl _ rfl;exact bj rfl rfl rfl
   constructor
   ·rintro-w116 D116;rintro _ rfl _ rfl;exact bj rfl rfl rfl
   constructor
   ·rintro-w117 D117;rintro _ rfl _ rfl _ rfl;exact bj rfl rfl rfl
   constructor
   ·rintro-w118 D118;rintro _ rfl _ rfl;exact ai (a_ (v:=.bool _) rfl rfl) rfl
   exact trivial
  case hend=>
   intro w119 D119;rintro _ rfl _ rfl _ rfl _ rfl _ rfl _ rfl _ rfl _ rfl _ rfl _ rfl _ rfl _ rfl;show St ..;refine ah (ae (cA rfl (ag (aa (mvs rfl (ass rfl (asi rfl (ah (ae (aA (aF (cZ (v:=.slice _ _ _) (v':=.int _ _) rfl rfl rfl ?_))))))))))));have he:=qP hid (by omega) hno (by omega);rw [gO (by rw [he];decide),he];exact ⟨⟨A,c,rfl,hr.from_ (((aj.rfl_.next E3).next E26).next D119)⟩,(((aj.rfl_.next E3).next E26).next D119)⟩
 ·apply bI 12 [(29,eqp _),(30,eqp _),(31,eqp _),(32,eqp _),(33,eqp _),(34,eqp (.int .i64 ((dsz ds:Nat):Int))),(35,eqp _),(36,eqp (.string d.2)),(37,eqp _),(38,eqp _),(39,eqp _),(40,eqp _)] (by repeat first | exact bW | refine bT ?_ | refine bG ?_) (by kernel_rfl) (by kernel_rfl) ⟨af _,af _,af _,af _,af _,af _,af _,af _,af _,af _,af _,af _,trivial⟩
  case hop=>
   constructor
   ·rintro-w121 D121;exact ai (ar (v:=.slice _ _ _) rfl) rfl
   constructor
   ·rintro-w122 D122;rintro _ rfl;exact ai (aU bx rfl) rfl
   constructor
   ·rintro-w123 D123;rintro _ rfl;exact ai (cF (ek rfl rfl) (decide_eq_false (by omega))) rfl
   constructor
   ·rintro-w124 D124;rintro _ rfl;exact ai (ar (v:=.bool _) rfl) rfl
   constructor
   ·rintro-w125 D125;rintro _ rfl;exact aJ rfl (ar (v:=.slice _ _ _) rfl) rfl
   constructor
   ·rintro-w126 D126;rintro _ rfl _ rfl;refine mU rfl oY ((oh A c ds.length ds _ (hr.row.from_ (((aj.rfl_.next E3).next E26).next D126)) rfl hl (by omega)).mono ?_);rintro _ w2 ⟨rfl,hE⟩;exact ⟨hE,rfl⟩
   constructor
   ·rintro-w127 D127;rintro _ rfl;exact aJ rfl (ak bR rfl) rfl
   constructor
   ·rintro-w128 D128;rintro _ rfl _ rfl;exact aJ rfl (aq (v:=.string d.2) aX rfl ((hk3.from_ (((aj.rfl_.next E26).next D128))).rd 1 rfl)) rfl
   constructor
   ·rintro-w129 D129;rintro _ rfl v129_36 rfl;exact aJ rfl (ck (by kernel_rfl) rfl) rfl
   constructor
   ·rintro-w130 D130;rintro _ rfl _ rfl;exact aJ rfl (et rfl rfl (by omega)) rfl
   constructor
   ·rintro-w131 D131;rintro _ rfl v131_34 rfl _ rfl;exact aJ rfl (gx (bX rfl rfl) (decide_eq_true (by omega))) rfl
   constructor
   ·rintro-w132 D132;rintro _ rfl _ rfl;exact ai (aR (v:=.bool _) rfl rfl) rfl
   exact trivial
  case hend=>
   intro w133 D133;rintro _ rfl _ rfl _ rfl _ rfl _ rfl v34 rfl _ rfl v36 rfl _ rfl _ rfl _ rfl _ rfl;show St ..;refine ah (ae (cA rfl (ag (aa (mvs rfl (ass rfl (asi rfl (ah (ae (aA (aF (cZ (v:=.slice _ _ _) (v':=.int _ _) rfl rfl rfl ?_))))))))))));have he:=qP hid (by omega) hno (by omega);rw [gO (by rw [he];decide),he];exact ⟨⟨A,c,rfl,hr.from_ (((aj.rfl_.next E3).next E26).next D133)⟩,(((aj.rfl_.next E3).next E26).next D133)⟩
 apply bI 12 [(29,eqp _),(30,eqp _),(31,eqp _),(32,eqp _),(33,eqp _),(34,eqp (.int .i64 ((dsz ds:Nat):Int))),(35,eqp _),(36,eqp (.string d.2)),(37,eqp _),(38,eqp _),(39,eqp _),(40,eqp _)] (by repeat first | exact bW | refine bT ?_ | refine bG ?_) (by kernel_rfl) (by kernel_rfl) ⟨af _,af _,af _,af _,af _,af _,af _,af _,af _,af _,af _,af _,trivial⟩
 case hop=>
  constructor
  ·rintro-w135 D135;exact ai (ar (v:=.slice _ _ _) rfl) rfl
  constructor
  ·rintro-w136 D136;rintro _ rfl;exact ai (aU bx rfl) rfl
  constructor
  ·rintro-w137 D137;rintro _ rfl;exact ai (cF (ek rfl rfl) (decide_eq_false (by omega))) rfl
  constructor
  ·rintro-w138 D138;rintro _ rfl;exact ai (ar (v:=.bool _) rfl) rfl
  constructor
  ·rintro-w139 D139;rintro _ rfl;exact aJ rfl (ar (v:=.slice _ _ _) rfl) rfl
  constructor
  ·rintro-w140 D140;rintro _ rfl _ rfl;refine mU rfl oY ((oh A c ds.length ds _ (hr.row.from_ (((aj.rfl_.next E3).next E26).next D140)) rfl hl (by omega)).mono ?_);rintro _ w2 ⟨rfl,hE⟩;exact ⟨hE,rfl⟩
  constructor
  ·rintro-w141 D141;rintro _ rfl;exact aJ rfl (ak bR rfl) rfl
  constructor
  ·rintro-w142 D142;rintro _ rfl _ rfl;exact aJ rfl (aq (v:=.string d.2) aX rfl ((hk3.from_ (((aj.rfl_.next E26).next D142))).rd 1 rfl)) rfl
  constructor
  ·rintro-w143 D143;rintro _ rfl v143_36 rfl;exact aJ rfl (ck (by kernel_rfl) rfl) rfl
  constructor
  ·rintro-w144 D144;rintro _ rfl _ rfl;exact aJ rfl (et rfl rfl (by omega)) rfl
  constructor
  ·rintro-w145 D145;rintro _ rfl v145_34 rfl _ rfl;exact aJ rfl (cF (bX rfl rfl) (decide_eq_false (by omega))) rfl
  constructor
  ·rintro-w146 D146;rintro _ rfl _ rfl;exact ai (aR (v:=.bool _) rfl rfl) rfl
  exact trivial
 case hend=>
  intro w147 D147;rintro _ rfl _ rfl _ rfl _ rfl _ rfl v34 rfl _ rfl v36 rfl _ rfl _ rfl _ rfl _ rfl;show St ..;refine ah (ae (cm rfl (au (ae (ag (aa (asi rfl (ah (ae (ag (az (bg (G:=Nat) [42,43,44,45,46,47,48,49,50,51,52,53,54,55,56,57] (fun i=>[(6,.int .i64 (i:Nat))]) (fun i w'=>i≤ds.length∧(∀ x,x<i→sLt (SM.G Dz ds x).1 d.1)∧Blk w' b3 37 (dV d).toArray∧aj w w') (fun i=>ds.length-i) (0) ⟨rfl,trivial⟩ ?_ ?_))))))))))))
  ·exact ⟨Nat.zero_le _,fun x h=>absurd h (by omega),hk3.from_ ((aj.rfl_.next E26).next D147),(((aj.rfl_.next E3).next E26).next D147)⟩
  rintro i ρ148 w148 ⟨hi,hlo,hP,hB⟩;refine ag (ag ?_);have hsp:ds.length≤i∨i<ds.length:=by omega
  rcases hsp with hc3 | hc3
  ·apply bI 14 [(42,eqp _),(43,eqp _),(44,eqp _),(45,eqp _),(46,eqp _),(47,eqp _),(48,eqp _),(49,eqp _),(50,eqp _),(51,eqp _),(52,eqp _),(53,eqp _),(54,eqp _),(55,eqp _)] (by repeat first | exact bW | refine bT ?_ | refine bG ?_) (by kernel_rfl) (by kernel_rfl) ⟨af _,af _,af _,af _,af _,af _,af _,af _,af _,af _,af _,af _,af _,af _,trivial⟩
   case hop=>
    constructor
    ·rintro-w150 D150;exact ai (ar (v:=.int _ _) rfl) rfl
    constructor
    ·rintro-w151 D151;exact ai (ar (v:=.slice _ _ _) rfl) rfl
    constructor
    ·rintro-w152 D152;rintro _ rfl;exact ai (aU bx rfl) rfl
    constructor
    ·rintro-w153 D153;rintro _ rfl _ rfl;exact ai (cF (aY rfl rfl) (decide_eq_false (by omega))) rfl
    constructor
    ·rintro-w154 D154;rintro _ rfl;exact ai (ar (v:=.bool _) rfl) rfl
    constructor
    ·rintro-w155 D155;rintro _ rfl;exact bj rfl rfl rfl
    constructor
    ·rintro-w156 D156;rintro _ rfl;exact bj rfl rfl rfl
    constructor
    ·rintro-w157 D157;rintro _ rfl _ rfl _ rfl;exact bj rfl rfl rfl
    constructor
    ·rintro-w158 D158;rintro _ rfl _ rfl;exact bj rfl rfl rfl
    constructor
    ·rintro-w159 D159;rintro _ rfl _ rfl;exact bj rfl rfl rfl
    constructor
    ·rintro-w160 D160;rintro _ rfl;exact bj rfl rfl rfl
    constructor
    ·rintro-w161 D161;rintro _ rfl _ rfl;exact bj rfl rfl rfl
    constructor
    ·rintro-w162 D162;rintro _ rfl _ rfl _ rfl;exact bj rfl rfl rfl
    constructor
    ·rintro-w163 D163;rintro _ rfl _ rfl;exact ai (aR (v:=.bool _) rfl rfl) rfl
    exact trivial
   case hend=>
    intro w164 D164;rintro _ rfl _ rfl _ rfl _ rfl _ rfl _ rfl _ rfl _ rfl _ rfl _ rfl _ rfl _ rfl _ rfl _ rfl;show St ..;have hF12:=(hB.next D164);have hz12:=hF12.size;have hP12:=hP.from_ ((aj.rfl_.next D164));have htl:=sq (k:=i) hr.row hr.cap hr.nil hi;have hge:i<ds.length→¬ sLt (SM.G Dz ds i).1 d.1:=fun h=>absurd h (by omega)
    refine ah (ae (cm rfl (aZ (aC (aC (aT (ae (ag ?_))))))));apply qO 7 6 [61,63] [(58,eqp _),(59,eqp _),(60,eqp _),(61,fun v w'=>∃ A2 c2,v=.slice A2 i c2∧w'.ownsRow (w164).heap.size 37 2 (.slice A2 i c2) i ((ds.take i).flatMap dV)),(62,eqp (.agg (dV d).toArray)),(63,fun v w'=>∃ q,v=.slice (some ⟨q,0,none⟩) 1 1∧Blk w' q 37 (dV d).toArray),(64,fun v w'=>∃ A2 c2,v=.slice A2 (i+1) c2∧w'.ownsRow (w164).heap.size 37 2 (.slice A2 (i+1) c2) (i+1) ((ds.take i).flatMap dV++dV d))] (fun w'=>aj w164 w') (fun w'=>aj w164 w') (by repeat first | exact bW | refine bT ?_ | refine bG ?_) (by kernel_rfl) (by kernel_rfl) (by kernel_rfl) ⟨af _,af _,af _,(fun _ _ _ hF ⟨A2,c2,h1,h2⟩=>⟨A2,c2,h1,h2.kept_from hF⟩),af _,(fun _ _ _ hF ⟨q,h1,h2⟩=>⟨q,h1,h2.from_ hF⟩),(fun _ _ _ hF ⟨A2,c2,h1,h2⟩=>⟨A2,c2,h1,h2.kept_from hF⟩),trivial⟩ (aj.rfl_.d1) (aj.rfl_.d1) (fun _ _ hF h=>h.next hF) (fun _ _ hF h=>h.next hF)
    case hop=>
     constructor
     ·rintro-w166 D166;exact ai (ar (v:=.slice _ _ _) rfl) rfl
     constructor
     ·rintro-w167 D167;exact ai (ar (v:=.int _ _) rfl) rfl
     constructor
     ·rintro-w168 D168;rintro _ rfl _ rfl
      first
       |exact ai (eE (v':=.slice A i c) (bw (l:=0) (h:=i) aP rfl (.inl ⟨rfl,rfl⟩) (.inr ⟨_,_,_,rfl,rfl,rfl⟩) (by omega) (by omega)) (by rw [cP,Nat.sub_zero,Nat.sub_zero])) rfl
       |exact ai (eE (v':=.slice (some ⟨bd,od,none⟩) i c) (bw (l:=0) (h:=i) aP rfl (.inl ⟨rfl,rfl⟩) (.inr ⟨_,_,_,rfl,rfl,rfl⟩) (by omega) (by omega)) (by rw [cP,Nat.sub_zero,Nat.sub_zero])) rfl
     constructor
     ·rintro-w169 D169;rintro _ rfl;refine eH lN ((jF _ c i (ds.take i) _ ((hr.row.take i).from_ (hF12.next D169)) (by rw [List.length_take];omega) (by omega)).mono ?_);rintro v w2 ⟨⟨A2,c2,rfl,ho2⟩,hE⟩;exact ⟨hE,A2,c2,rfl,fD ho2 D169.size⟩
     constructor
     ·rintro-w170 D170;exact ai (bk (cs:=dV d) bJ bh rfl ((hP12.from_ D170).whole)) rfl
     constructor
     ·rintro-w171 D171;rintro v171_62 rfl;exact fR (sv de rfl rfl rfl) (aj.rfl_.new _) ⟨_,rfl,Blk.new _ _ _⟩
     constructor
     ·intro h;cases h
     exact trivial
    case hmu=>
     rintro w173 D173;rintro v173_61 ⟨A61_173,c61_173,rfl,ho61_173⟩ v173_63 ⟨q173,rfl,hq173⟩;show mJ ..;refine kg de rfl (by decide) rfl ho61_173 D173.size rfl rfl ⟨_,_,rfl,hq173.whole⟩ (by simp [dV,Value.oneCell']) (by omega) (by omega) ?_;intro A3 c3 w3 ho3 hg3;exact ⟨D173.grew hg3 (fun k hk=>(bM ho61_173 k hk).1),⟨A3,c3,rfl,ho3⟩,fun t u ht h=>gZ (by repeat first | exact trivial | refine ⟨.inl rfl,?_⟩ | refine ⟨.inr (fun _ h=>h),?_⟩) t u ht h⟩
    case hend=>
     rintro w174 D174;rintro _ rfl _ rfl _ rfl v61 _ v62 rfl v63 _ v64 ⟨A64,c64,rfl,ho64⟩;show St ..;refine ass rfl (ah (ae (ag (aa (mvs rfl (mvs rfl (mvi rfl (ab (bw (l:=i) (h:=ds.length) aP rfl (.inr ⟨_,_,_,rfl,rfl,rfl⟩) (.inl ⟨rfl,rfl⟩) (by omega) (by omega)) ?_))))))));refine cR de rfl (by decide) rfl (A:=A64) (xs:=List.flatMap dV (ds.take i)++dV d) (news:=List.flatMap dV (ds.drop i)) (fD (ho64.kept_from aj.rfl_) hz12) (((hB.next D164).next D174).size) rfl (by rw [dW bH,List.length_drop]) (fun h=>by obtain ⟨b,o,e1,e2⟩:=htl.1 (by first | exact h | (rw [dW bH,List.length_drop] at h;omega));exact ⟨b,o,e1,da ((hB.next D164).next D174) e2⟩) htl.2 (nc _) (by omega) (by omega) ?_;intro A69 c69 w175 ho69 hg69;have HF69:=(((hB.next D164).next D174)).grew hg69 (fun k hk=>Nat.le_trans hz12 (bM ho64 k hk).1);refine ass rfl (asi rfl (ah (ae (aA (cZ (v:=.slice _ _ _) (v':=.int _ _) rfl rfl rfl ?_)))));have he:=tH hid (by omega) hno (by omega);have hie:=BE hs hi hlo hge hno;have hln:(zC ds d).length=i+1+(ds.length-i):=by rw [hie,nG];omega
     rw [nM he,he,hln];refine ⟨⟨A69,c69,rfl,kO.own (n:=i+1+(ds.length-i)) ?_ hU⟩,HF69⟩;rw [hie,List.flatMap_append,List.flatMap_cons,←List.append_assoc];exact ho69
  obtain ⟨bd,od,rfl,hcd⟩:=hr.row (by omega);have hil:i<ds.length:=hc3;have hce:=hcd i hil;rw [←pX hil] at hce;apply bI 14 [(42,eqp _),(43,eqp _),(44,eqp _),(45,eqp _),(46,eqp _),(47,eqp _),(48,eqp _),(49,eqp _),(50,eqp _),(51,eqp (.string (SM.G Dz ds i).1)),(52,eqp _),(53,eqp (.string d.1)),(54,eqp _),(55,eqp _)] (by repeat first | exact bW | refine bT ?_ | refine bG ?_) (by kernel_rfl) (by kernel_rfl) ⟨af _,af _,af _,af _,af _,af _,af _,af _,af _,af _,af _,af _,af _,af _,trivial⟩
  case hop=>
   constructor
   ·rintro-w177 D177;exact ai (ar (v:=.int _ _) rfl) rfl
   constructor
   ·rintro-w178 D178;exact ai (ar (v:=.slice _ _ _) rfl) rfl
   constructor
   ·rintro-w179 D179;rintro _ rfl;exact ai (aU bx rfl) rfl
   constructor
   ·rintro-w180 D180;rintro _ rfl _ rfl;exact ai (gx (aY rfl rfl) (decide_eq_true (by omega))) rfl
   constructor
   ·rintro-w181 D181;rintro _ rfl;exact ai (ar (v:=.bool _) rfl) rfl
   constructor
   ·rintro-w182 D182;rintro _ rfl;exact aJ rfl (ar (v:=.slice _ _ _) rfl) rfl
   constructor
   ·rintro-w183 D183;rintro _ rfl;exact aJ rfl (ar (v:=.int _ _) rfl) rfl
   constructor
   ·rintro-w184 D184;rintro _ rfl _ rfl _ rfl;exact aJ rfl (aG aP rfl rfl (by omega)) rfl
   constructor
   ·rintro-w185 D185;rintro _ rfl _ rfl;exact aJ rfl (ak aW rfl) rfl
   constructor
   ·rintro-w186 D186;rintro _ rfl _ rfl;exact aJ rfl (aq (v:=.string (SM.G Dz ds i).1) aX rfl (bu (hB.next D186) (hce 0 _ rfl))) rfl
   constructor
   ·rintro-w187 D187;rintro _ rfl;exact aJ rfl (ak aW rfl) rfl
   constructor
   ·rintro-w188 D188;rintro _ rfl _ rfl;exact aJ rfl (aq (v:=.string d.1) aX rfl ((hP.from_ ((aj.rfl_.next D188))).rd 0 rfl)) rfl
   constructor
   ·rintro-w189 D189;rintro _ rfl v189_51 rfl v189_53 rfl;exact aJ rfl (Bj rfl rfl) rfl
   constructor
   ·rintro-w190 D190;rintro _ rfl _ rfl;exact ai (a_ (v:=.bool _) rfl rfl) rfl
   exact trivial
  case hend=>
   intro w191 D191;rintro _ rfl _ rfl _ rfl _ rfl _ rfl _ rfl _ rfl _ rfl _ rfl v51 rfl _ rfl v53 rfl _ rfl _ rfl;show St ..;have hF12:=(hB.next D191);have hz12:=hF12.size;have hP12:=hP.from_ ((aj.rfl_.next D191));have htl:=sq (k:=i) hr.row hr.cap hr.nil hi;refine ah (ae (av rfl (fun Q192=>?_) (fun Q192=>?_)))
   ·have hlt:sLt (SM.G Dz ds i).1 d.1:=(jv _ _).1 Q192;refine au (ae (az (aa (mvi rfl (ab (aI (b:=1) rfl rfl (by omega)) (asi rfl (ah (aL ?_))))))));refine aO (i+1) ⟨(by first | rfl | (refine aM ?_;omega)),trivial⟩ (by (iterate 34 refine aB rfl ?_);exact aK) ⟨?_,?_⟩
    ·exact ⟨by omega,fun x hx=>by
      rcases Nat.eq_or_lt_of_le (Nat.le_of_lt_succ hx) with e | e
      ·subst e;exact hlt
      ·exact hlo x e,hP.from_ (aj.rfl_.next D191),(hB.next D191)⟩
    ·show ds.length-(i+1)<ds.length-i;omega
   have hge:i<ds.length→¬ sLt (SM.G Dz ds i).1 d.1:=fun _ h9=>by
    have h8:=(jv _ _).2 h9
    simp_all
   refine aZ (aC (aC (aT (ae (ag ?_)))));apply qO 7 6 [61,63] [(58,eqp _),(59,eqp _),(60,eqp _),(61,fun v w'=>∃ A2 c2,v=.slice A2 i c2∧w'.ownsRow (w191).heap.size 37 2 (.slice A2 i c2) i ((ds.take i).flatMap dV)),(62,eqp (.agg (dV d).toArray)),(63,fun v w'=>∃ q,v=.slice (some ⟨q,0,none⟩) 1 1∧Blk w' q 37 (dV d).toArray),(64,fun v w'=>∃ A2 c2,v=.slice A2 (i+1) c2∧w'.ownsRow (w191).heap.size 37 2 (.slice A2 (i+1) c2) (i+1) ((ds.take i).flatMap dV++dV d))] (fun w'=>aj w191 w') (fun w'=>aj w191 w') (by repeat first | exact bW | refine bT ?_ | refine bG ?_) (by kernel_rfl) (by kernel_rfl) (by kernel_rfl) ⟨af _,af _,af _,(fun _ _ _ hF ⟨A2,c2,h1,h2⟩=>⟨A2,c2,h1,h2.kept_from hF⟩),af _,(fun _ _ _ hF ⟨q,h1,h2⟩=>⟨q,h1,h2.from_ hF⟩),(fun _ _ _ hF ⟨A2,c2,h1,h2⟩=>⟨A2,c2,h1,h2.kept_from hF⟩),trivial⟩ (aj.rfl_.d1) (aj.rfl_.d1) (fun _ _ hF h=>h.next hF) (fun _ _ hF h=>h.next hF)
   case hop=>
    constructor
    ·rintro-w194 D194;exact ai (ar (v:=.slice _ _ _) rfl) rfl
    constructor
    ·rintro-w195 D195;exact ai (ar (v:=.int _ _) rfl) rfl
    constructor
    ·rintro-w196 D196;rintro _ rfl _ rfl
     first
      |exact ai (eE (v':=.slice A i c) (bw (l:=0) (h:=i) aP rfl (.inl ⟨rfl,rfl⟩) (.inr ⟨_,_,_,rfl,rfl,rfl⟩) (by omega) (by omega)) (by rw [cP,Nat.sub_zero,Nat.sub_zero])) rfl
      |exact ai (eE (v':=.slice (some ⟨bd,od,none⟩) i c) (bw (l:=0) (h:=i) aP rfl (.inl ⟨rfl,rfl⟩) (.inr ⟨_,_,_,rfl,rfl,rfl⟩) (by omega) (by omega)) (by rw [cP,Nat.sub_zero,Nat.sub_zero])) rfl
    constructor
    ·rintro-w197 D197;rintro _ rfl;refine eH lN ((jF _ c i (ds.take i) _ ((hr.row.take i).from_ (hF12.next D197)) (by rw [List.length_take];omega) (by omega)).mono ?_);rintro v w2 ⟨⟨A2,c2,rfl,ho2⟩,hE⟩;exact ⟨hE,A2,c2,rfl,fD ho2 D197.size⟩
    constructor
    ·rintro-w198 D198;exact ai (bk (cs:=dV d) bJ bh rfl ((hP12.from_ D198).whole)) rfl
    constructor
    ·rintro-w199 D199;rintro v199_62 rfl;exact fR (sv de rfl rfl rfl) (aj.rfl_.new _) ⟨_,rfl,Blk.new _ _ _⟩
    constructor
    ·intro h;cases h
    exact trivial
   case hmu=>
    rintro w201 D201;rintro v201_61 ⟨A61_201,c61_201,rfl,ho61_201⟩ v201_63 ⟨q201,rfl,hq201⟩;show mJ ..;refine kg de rfl (by decide) rfl ho61_201 D201.size rfl rfl ⟨_,_,rfl,hq201.whole⟩ (by simp [dV,Value.oneCell']) (by omega) (by omega) ?_;intro A3 c3 w3 ho3 hg3;exact ⟨D201.grew hg3 (fun k hk=>(bM ho61_201 k hk).1),⟨A3,c3,rfl,ho3⟩,fun t u ht h=>gZ (by repeat first | exact trivial | refine ⟨.inl rfl,?_⟩ | refine ⟨.inr (fun _ h=>h),?_⟩) t u ht h⟩
   case hend=>
    rintro w202 D202;rintro _ rfl _ rfl _ rfl v61 _ v62 rfl v63 _ v64 ⟨A64,c64,rfl,ho64⟩;show St ..;refine ass rfl (ah (ae (ag (aa (mvs rfl (mvs rfl (mvi rfl (ab (bw (l:=i) (h:=ds.length) aP rfl (.inr ⟨_,_,_,rfl,rfl,rfl⟩) (.inl ⟨rfl,rfl⟩) (by omega) (by omega)) ?_))))))));refine cR de rfl (by decide) rfl (A:=A64) (xs:=List.flatMap dV (ds.take i)++dV d) (news:=List.flatMap dV (ds.drop i)) (fD (ho64.kept_from aj.rfl_) hz12) (((hB.next D191).next D202).size) rfl (by rw [dW bH,List.length_drop]) (fun h=>by obtain ⟨b,o,e1,e2⟩:=htl.1 (by first | exact h | (rw [dW bH,List.length_drop] at h;omega));exact ⟨b,o,e1,da ((hB.next D191).next D202) e2⟩) htl.2 (nc _) (by omega) (by omega) ?_;intro A69 c69 w203 ho69 hg69;have HF69:=(((hB.next D191).next D202)).grew hg69 (fun k hk=>Nat.le_trans hz12 (bM ho64 k hk).1);refine ass rfl (asi rfl (ah (ae (aA (cZ (v:=.slice _ _ _) (v':=.int _ _) rfl rfl rfl ?_)))));have he:=tH hid (by omega) hno (by omega);have hie:=BE hs hi hlo hge hno;have hln:(zC ds d).length=i+1+(ds.length-i):=by rw [hie,nG];omega
    rw [nM he,he,hln];refine ⟨⟨A69,c69,rfl,kO.own (n:=i+1+(ds.length-i)) ?_ hU⟩,HF69⟩;rw [hie,List.flatMap_append,List.flatMap_cons,←List.append_assoc];exact ho69
end Go.Proofs.YtcbakncjacnnjaaGreat
namespace Go.Proofs.YtcbakncjacnnjaaGreat
open Go.Proofs.Tryz (prog)
open Go.RowKit
open Go.ChangeShapes Go.WideShapes Go.ChangeAt
section
variable {cur xs vs zs:List Value} {i n c:Nat}
theorem xQ {cs vs:List Value} {o:Nat} (h:o≤cs.length):(dJ cs o vs).take (o+vs.length)=cs.take o++vs:=by
 unfold dJ;rw [List.take_append_of_le_length (by rw [List.length_append,List.length_take];omega),List.take_of_length_le (by rw [List.length_append,List.length_take];omega)]
theorem CD {cs vs:List Value} {o k:Nat} (h:o+vs.length≤k) (hl:o≤cs.length):(dJ cs o vs).drop k=cs.drop k:=by
 unfold dJ;rw [List.drop_append,List.drop_eq_nil_of_le (by rw [List.length_append,List.length_take];omega),List.nil_append,List.length_append,List.length_take,Nat.min_eq_left hl,List.drop_drop]
 congr 1
 omega
theorem Bl (hct:cur.take (n*2)=xs) (hcl:cur.length=c*2) (hnc:n≤c) (hi:i+4≤n) (hv:vs.length=2):(dJ cur (i*2) vs).take ((i+1)*2)=xs.take (i*2)++vs:=by
 have e:(i+1)*2=i*2+vs.length:=by omega
 rw [e,xQ (by omega),←hct,List.take_take,Nat.min_eq_left (by omega)]
theorem Hj (hct:cur.take (n*2)=xs) (hcl:cur.length=c*2) (hnc:n≤c) (hi:i+4≤n) (hv:vs.length=2):(dJ cur (i*2) vs).take (n*2)=dJ xs (i*2) vs:=by
 rw [qy _ _ _ _ (by omega) (by omega),hct]
theorem Hk (hct:cur.take (n*2)=xs) (hcl:cur.length=c*2) (hnc:n≤c) (hi:i+4≤n) (hv:vs.length=2):(dJ (dJ (dJ cur (i*2) vs) ((i+1)*2) (xs.drop ((i+4)*2))) ((i+1+(n-(i+4)))*2) zs).take ((i+1+(n-(i+4)))*2)=xs.take (i*2)++vs++xs.drop ((i+4)*2):=by
 have hxl:xs.length=n*2:=by rw [←hct,List.length_take];omega
 have h1:(dJ cur (i*2) vs).length=cur.length:=bK _ _ _ (by omega);have hd:(xs.drop ((i+4)*2)).length=(n-(i+4))*2:=by rw [List.length_drop];omega
 have h2:(dJ (dJ cur (i*2) vs) ((i+1)*2) (xs.drop ((i+4)*2))).length=cur.length:=by rw [bK _ _ _ (by omega),h1]
 rw [iJ _ _ _ _ (Nat.le_refl _) (by omega)];have e:(i+1+(n-(i+4)))*2=(i+1)*2+(xs.drop ((i+4)*2)).length:=by omega
 rw [e,xQ (by omega),Bl hct hcl hnc hi hv]
end
theorem HT {P:Program} {ops:Array Oper} {n:Fr} {L:List (Nat×Value)} {w:World} {ty:TypeId} {pos:String} {after:Array Edge} {dst:Option Nat} {post:Value→World→Prop} {d s:Operand} {dT sT e size g o m c j c2:Nat} {A A2:Option Addr} {u:TypeId} {cur news:List Value} (ht:dm P dT=some (e,size)) (hd:ev n L d=.slice A m c) (hs:ev n L s=.slice A2 j c2) (hn:news.length=min j m*size)
 (hA:0<news.length→A=some ⟨g,o,none⟩) (hsrc:0<news.length→∃ b o,A2=some ⟨b,o,none⟩∧w.rangeAt b o news) (hb:Blk w g u cur.toArray) (hfit:o+news.length≤cur.length) (h1:∀ v∈news,v.oneCell'=true)
 (k:∀ w',dh g w w'→Blk w' g u (dJ cur o news).toArray→post (.int .i64 (min j m:Nat)) w'):mJ P ops n L ⟨dst,.call { callee:=.builtin .copy,args:=#[d,s],argTypes:=#[dT,sT] },ty,pos,after,none⟩ w post:=
 let ⟨w',hR,hO,hB⟩:=sx (sT:=sT) ht hd hs hn hA hsrc hb hfit h1
 IU hR (k w' hO hB)
theorem qZ (base:Nat) (A:Option Addr) (c n i b vc:Nat) (xs vs:List Value) (tv:TypeId) (csv:Array Value) (w:World) (ho:w.ownsRow base 66 2 (.slice A n c) n xs) (hi:i+4≤n) (hvl:vs.length=2) (hvr:w.rangeAt b 0 vs) (_:Blk w b tv csv) (hne:∀ k,A.map (·.block)=some k→k≠b) (h1:∀ u∈xs,u.oneCell'=true) (h1v:∀ u∈vs,u.oneCell'=true) (hl:n≤100000000) :
 Rt prog 54 [.slice A n c,.int .i64 (i:Nat),.int .i64 ((i+4:Nat):Int),.slice (some ⟨b,0,none⟩) 1 vc] w (fun v w'=>(∃ A' c',v=.slice A' (n-3) c'∧w'.ownsRow base 66 2 (.slice A' (n-3) c') (n-3) (xs.take (i*2)++vs++xs.drop ((i+4)*2))∧∀ q,A'.map (·.block)=some q→A.map (·.block)=some q)∧w.grownBy w' (A.map (·.block))):=by
 obtain ⟨g,cur,rfl,hg,hbk,hnc,hcm,hcl,hct⟩:=fQ ho (by omega);have hxl:xs.length=n*2:=ho.1;have hgb:g≠b:=hne g rfl;have hdl:(xs.drop ((i+4)*2)).length=(n-(i+4))*2:=by rw [List.length_drop,hxl];omega
 have hbz:w.grownBy w (some g):=World.grownBy.refl _ _;refine enter (n:=224) Tryz.func54 rfl rfl rfl (ag (aa (ass rfl (ah (ae (ag (aa (mvs rfl (mvi rfl (mvi rfl (ab (bw (l:=i) (h:=i+4) cM rfl (.inr ⟨_,_,_,rfl,rfl,rfl⟩) (.inr ⟨_,_,_,rfl,rfl,rfl⟩) (by omega) (by omega)) (ah (ae (ag (ag (aa ?_))))))))))))))));refine mvi rfl (mvi rfl (ab (cF (cy rfl rfl) (by rw [beq_eq_false_iff_ne];omega)) ?_));refine ah (ae (cm rfl (au (ae (ag (ag (aa (mvi rfl (mvs rfl (ab (aU dw rfl) (ab (cy rfl rfl) (ah (ae (K8 rfl (fun Q1=>?_) (fun Q1=>?_)))))))))))))))
 ·refine ag (aa (mvs rfl (mvi rfl (ab (eE (v':=.slice (some ⟨g,0,none⟩) i c) (bw (l:=0) (h:=i) cM rfl (.inl ⟨rfl,rfl⟩) (.inr ⟨_,_,_,rfl,rfl,rfl⟩) (by omega) (by omega)) (by rw [cP,Nat.sub_zero,Nat.sub_zero])) ?_))));refine mvs rfl (n_ (news:=vs) (cur:=cur) cM rfl rfl (by rw [hvl]) (fun h=>⟨b,0,rfl,hvr⟩) hbk h1v (by omega) (by omega) ?_);intro w2 O34 P34;refine ass rfl (ah (ae (ag (ag (aa (mvs rfl (ab (aU dw rfl) (mvs rfl (ab (aU dw rfl) (ab (gx (aY rfl rfl) (decide_eq_true (by omega))) (ah (ae (cA rfl ?_)))))))))))));refine aa (mvs rfl (mvs rfl (ab (aU dw rfl) (ab (bw (l:=(i+1)) (h:=n) cM rfl (.inr ⟨_,_,_,rfl,rfl,rfl⟩) (.inl ⟨rfl,rfl⟩) (by omega) (by omega)) ?_))));refine ke (g:=g) (o:=(i+1)*2) fF rfl rfl (fun h=>by rw [cw (by omega),Nat.zero_add]) P34 (by rw [bK _ _ _ (by omega),hcl];omega) (by decide) ?_;intro w3 zs O7 hzl P7;refine ah (ae (ag (aa (mvs rfl (ass rfl (ah (ae (aA (aF (bE (v:=.slice _ _ _) rfl rfl ?_))))))))));obtain rfl:n=i+4:=by omega
  have e3:i+4-3=i+1:=by omega
  rw [e3];refine ⟨⟨_,_,rfl,il hg P7 (by omega) hcm (by rw [bK _ _ _ (by rw [hzl,bK _ _ _ (by omega),hcl];omega),bK _ _ _ (by omega),hcl]) ?_,fun q hq=>hq⟩,aS hbz (aS O34.grown O7.grown)⟩;rw [iJ _ _ _ _ (Nat.le_refl _) (by rw [bK _ _ _ (by omega)];omega),Bl hct hcl hnc hi hvl,List.drop_of_length_le (by omega),List.append_nil]
 refine au (ae (ag ?_));apply bI 13 [(45,eqp _),(46,eqp _),(47,eqp _),(48,eqp _),(49,eqp _),(50,eqp _),(51,eqp _),(52,eqp _),(53,eqp _),(54,eqp _),(55,eqp _),(56,eqp _),(10,eqp _)] (by repeat first | exact bW | refine bT ?_ | refine bG ?_) (by kernel_rfl) (by kernel_rfl) ⟨af _,af _,af _,af _,af _,af _,af _,af _,af _,af _,af _,af _,af _,trivial⟩
 case hop=>
  constructor
  ·rintro-w5 D5;exact ai (ar (v:=.slice _ _ _) rfl) rfl
  constructor
  ·rintro-w6 D6;exact ai (ar (v:=.int _ _) rfl) rfl
  constructor
  ·rintro-w7 D7;rintro _ rfl _ rfl;exact ai (eE (v':=.slice (some ⟨g,0,none⟩) i c) (bw (l:=0) (h:=i) cM rfl (.inl ⟨rfl,rfl⟩) (.inr ⟨_,_,_,rfl,rfl,rfl⟩) (by omega) (by omega)) (by rw [cP,Nat.sub_zero,Nat.sub_zero])) rfl
  constructor
  ·rintro-w8 D8;rintro _ rfl;exact ai (aU dw rfl) rfl
  constructor
  ·rintro-w9 D9;exact ai (ar (v:=.slice _ _ _) rfl) rfl
  constructor
  ·rintro-w10 D10;rintro _ rfl;exact ai (aU dw rfl) rfl
  constructor
  ·rintro-w11 D11;rintro _ rfl _ rfl;exact ai (aI rfl rfl (by omega)) rfl
  constructor
  ·rintro-w12 D12;exact ai (ar (v:=.slice _ _ _) rfl) rfl
  constructor
  ·rintro-w13 D13;exact ai (ar (v:=.int _ _) rfl) rfl
  constructor
  ·rintro-w14 D14;rintro _ rfl _ rfl;exact ai (bw (l:=(i+4)) (h:=n) cM rfl (.inr ⟨_,_,_,rfl,rfl,rfl⟩) (.inl ⟨rfl,rfl⟩) (by omega) (by omega)) rfl
  constructor
  ·rintro-w15 D15;rintro _ rfl;exact ai (aU dw rfl) rfl
  constructor
  ·rintro-w16 D16;rintro _ rfl _ rfl;exact ai (aI rfl rfl (by omega)) rfl
  constructor
  ·rintro-w17 D17;rintro _ rfl;exact ai (cq (v:=.int _ _) rfl) rfl
  exact trivial
 case hend=>
  intro w18 D18;rintro _ rfl _ rfl _ rfl _ rfl _ rfl _ rfl _ rfl _ rfl _ rfl _ rfl _ rfl _ rfl _ rfl;show St ..;replace hbz:=aS hbz (aj.grown D18 _);replace hbk:=hbk.from_ D18;replace hvr:=da D18 hvr;refine ah (ae (ag (ag (aa (mvi rfl (mvs rfl (ab (sB dw rfl) (ab (cF (bX rfl rfl) (decide_eq_false (by omega))) (ah (ae (cm rfl (au (ae (ag (aa (mvs rfl ?_))))))))))))))));refine mvi rfl (ab (eE (v':=.slice (some ⟨g,0,none⟩) (i+1+(n-(i+4))) c) (bw (l:=0) (h:=(i+1+(n-(i+4)))) cM rfl (.inl ⟨rfl,rfl⟩) (.inr ⟨_,_,_,rfl,rfl,rfl⟩) (by omega) (by omega)) (by rw [cP,Nat.sub_zero,Nat.sub_zero])) ?_);refine ass rfl (ah (ae (ag (ag (aa (mvi rfl (mvs rfl (ab (aU dw rfl) (ab (aI rfl rfl (by omega)) (mvi rfl (ab (gx (mP rfl rfl) (decide_eq_true (by omega))) (ah (ae ?_)))))))))))));refine cA rfl (ag (aa (mvs rfl (mvi rfl (ab (bw (l:=i) (h:=(i+1+(n-(i+4)))) cM rfl (.inr ⟨_,_,_,rfl,rfl,rfl⟩) (.inl ⟨rfl,rfl⟩) (by omega) (by omega)) (mvs rfl (iH (news:=vs) (g:=g) (o:=i*2) cM rfl rfl (by rw [hvl,show min 1 ((i+1+(n-(i+4)))-i)=1 by omega]) (fun h=>by rw [cw (by omega),Nat.zero_add]) (fun h=>⟨b,0,rfl,hvr⟩) hbk (by omega) h1v ?_)))))));intro w19 O97 P97;replace hbz:=aS hbz (dh.grown O97);refine ah (ae (ag ?_));apply Gl 10 9 [] [(98,eqp _),(99,eqp _),(100,eqp _),(101,eqp _),(102,eqp _),(103,eqp _),(104,eqp _),(105,eqp _),(106,eqp _),(107,fun _ w'=>Blk w' g 66 (dJ (dJ cur (i*2) vs) ((i+1)*2) (xs.drop ((i+4)*2))).toArray)] (fun w'=>aj w19 w') (fun w'=>World.grownBy w w' (some g)) (by repeat first | exact bW | refine bT ?_ | refine bG ?_) (by kernel_rfl) (by kernel_rfl) (by kernel_rfl) ⟨af _,af _,af _,af _,af _,af _,af _,af _,af _,(fun _ _ _ hF h=>h.from_ hF),trivial⟩ (aj.rfl_.d1) (aS hbz ((aj.rfl_.d1 (a:=w19)).grown _)) (fun _ _ hF h=>h.next hF) (fun _ _ hF h=>aS h (hF.grown _))
  case hop=>
   constructor
   ·rintro-w21 hZ21;exact ai (ar (v:=.slice _ _ _) rfl) rfl
   constructor
   ·rintro-w22 hZ22;exact ai (ar (v:=.int _ _) rfl) rfl
   constructor
   ·rintro-w23 hZ23;exact ai (ar (v:=.slice _ _ _) rfl) rfl
   constructor
   ·rintro-w24 hZ24;rintro _ rfl;exact ai (aU dw rfl) rfl
   constructor
   ·rintro-w25 hZ25;rintro _ rfl _ rfl;exact ai (aI rfl rfl (by omega)) rfl
   constructor
   ·rintro-w26 hZ26;rintro _ rfl _ rfl;exact ai (bw (l:=(i+1)) (h:=(i+1+(n-(i+4)))) cM rfl (.inr ⟨_,_,_,rfl,rfl,rfl⟩) (.inl ⟨rfl,rfl⟩) (by omega) (by omega)) rfl
   constructor
   ·rintro-w27 hZ27;exact ai (ar (v:=.slice _ _ _) rfl) rfl
   constructor
   ·rintro-w28 hZ28;exact ai (ar (v:=.int _ _) rfl) rfl
   constructor
   ·rintro-w29 hZ29;rintro _ rfl _ rfl;exact ai (bw (l:=(i+4)) (h:=n) cM rfl (.inr ⟨_,_,_,rfl,rfl,rfl⟩) (.inl ⟨rfl,rfl⟩) (by omega) (by omega)) rfl
   constructor
   ·intro h;cases h
   exact trivial
  case hmu=>
   rintro w31 D31;rintro _ rfl _ rfl;show mJ ..;refine HT (news:=xs.drop ((i+4)*2)) (g:=g) (o:=(i+1)*2) cM rfl rfl (by rw [hdl,show min (n-(i+4)) ((i+1+(n-(i+4)))-(i+1))=n-(i+4) by omega]) (fun h=>by rw [cw (by omega),Nat.zero_add]) (fun h=>⟨g,(i+4)*2,by rw [cw (by omega),Nat.zero_add],(CD (o:=i*2) (vs:=vs) (by omega) (by omega):(dJ xs (i*2) vs).drop ((i+4)*2)=_) ▸ ko (P97.from_ D31) (Hj hct hcl hnc hi hvl)⟩) (P97.from_ D31) (by rw [hdl,bK _ _ _ (by omega),hcl];omega) (fun v hv=>h1 v (List.mem_of_mem_drop hv)) ?_;intro w3 O3 P3;exact ⟨aS (aS hbz (D31.grown _)) O3.grown,P3,fun t u ht h=>gZ (by repeat first | exact trivial | refine ⟨.inl rfl,?_⟩ | refine ⟨.inr (fun _ h=>h),?_⟩) t u ht h⟩
  case hend=>
   rintro w32 hZ32;rintro _ rfl _ rfl _ rfl _ rfl _ rfl _ rfl _ rfl _ rfl _ rfl v107 P107;show St ..;replace hbz:=hZ32;refine ah (ae (ag (aa (mvs rfl (mvi rfl (ab (bw (l:=(i+1+(n-(i+4)))) (h:=n) cM rfl (.inr ⟨_,_,_,rfl,rfl,rfl⟩) (.inl ⟨rfl,rfl⟩) (by omega) (by omega)) ?_))))));refine ke (g:=g) (o:=(i+1+(n-(i+4)))*2) fF rfl rfl (fun h=>by rw [cw (by omega),Nat.zero_add]) P107 (by rw [bK _ _ _ (by rw [hdl,bK _ _ _ (by omega),hcl];omega),bK _ _ _ (by omega),hcl];omega) (by decide) ?_;intro w33 zs O19 hzl P19;refine ah (ae (ag (aa (mvs rfl (ass rfl (ah (ae (aA (aF (bE (v:=.slice _ _ _) rfl rfl ?_))))))))));have e3:n-3=(i+1+(n-(i+4))):=by omega
   rw [e3];exact ⟨⟨_,_,rfl,il hg P19 (by omega) hcm (by rw [bK _ _ _ (by rw [hzl,bK _ _ _ (by rw [hdl,bK _ _ _ (by omega),hcl];omega),bK _ _ _ (by omega),hcl];omega),bK _ _ _ (by rw [hdl,bK _ _ _ (by omega),hcl];omega),bK _ _ _ (by omega),hcl]) (Hk hct hcl hnc hi hvl),fun q hq=>hq⟩,aS hbz O19.grown⟩
end Go.Proofs.YtcbakncjacnnjaaGreat
namespace Go.Proofs.YtcbakncjacnnjaaGreat
open Go.Proofs.Tryz (prog)
open Go.RowKit
open Go.ChangeShapes Go.WideShapes Go.ChangeAt
theorem kY:aH prog 119=true:=by kernel_rfl
theorem ng:aH prog 212=true:=by kernel_rfl
theorem xv {b c:Bool} (h:b=true→c=true) (k:c=false):b=false:=by
 cases b with
 |false=>rfl
 |true=>rw [h rfl] at k;cases k
theorem Ce (a b:ByteArray) (w:World):Rt prog 46 [.string a,.string b] w fun v w'=>v=.int .i64 (jG a b)∧w=w':=
 Calls.mono (Tryz.strings_Compare a b w) fun e w' h=>⟨_,h.1,by unfold jG;rw [Lib.toList_data,Lib.toList_data],h.2.symm⟩
theorem rX (a b:Dc) (w:World) :
 Rt prog 119 [.agg (dV a).toArray,.agg (dV b).toArray] w (fun v w'=>v=.int .i64 (jG a.1 b.1)∧aj w w'):=by
 refine enter (n:=10) Tryz.func119 rfl rfl rfl (ag (aa (c0 (v:=.agg _) rfl ?_)));intro b2 w1 E2 hb2 hk2;refine c0 (v:=.agg _) rfl ?_;intro b3 w2 E3 hb3 hk3;refine asi rfl (ah (ae (ag (aa (ab (ak aW rfl) (ab (aq aX rfl (by exact (hk2.from_ E3).rd 0 rfl)) ?_))))));refine ab (ak aW rfl) (ab (aq aX rfl (by exact hk3.rd 0 rfl)) ?_);refine ax iT (Ce a.1 b.1 _) ?_;rintro v9 w3 ⟨rfl,rfl⟩;refine asi rfl (ah (ae (aA (bE (v:=.int _ _) rfl rfl (⟨rfl,((aj.rfl_.next E2).next E3)⟩)))))
theorem sb (base:Nat) (A:Option Addr) (c n:Nat) (xs:List Dc) (w:World) (ho:w.ownsRow base 37 2 (.slice A n c) n (xs.flatMap dV)) (_:base≤w.heap.size) (hl:n≤100000000) (a b q:Nat) (hab:a+q≤b) (hbn:b+q≤n) :
 Rt prog 212 [.slice A n c,.int .i64 (a:Nat),.int .i64 (b:Nat),.int .i64 (q:Nat),.func (.func 119) #[] #[]] w (fun _ w'=>∃ ys,w'.ownsRow base 37 2 (.slice A n c) n (List.flatMap dV ys)∧w.grownBy w' (A.map (·.block))∧SM.PW Dz a (b+q) xs ys∧∀ k,SM.G Dz ys k=SM.swr a b q (SM.G Dz xs) k):=by
 have hxl:=fZ bH ho;refine enter (n:=38) Tryz.func212 rfl rfl rfl (ag (aa (asi rfl (ah (ae (az (bg (G:=Nat×List Dc) [11,12,13,14,15,16,17,18,19,20,21,22,23,24,25,26,27,28,29,30,31,32,33,34,35,36,37] (fun (i,_)=>[(10,.int .i64 (i:Nat))]) (fun (i,ys) w'=>i≤q∧w'.ownsRow base 37 2 (.slice A n c) n (List.flatMap dV ys)∧w.grownBy w' (A.map (·.block))∧SM.PW Dz a (b+q) xs ys∧∀ k,SM.G Dz ys k=SM.swr a b i (SM.G Dz xs) k) (fun (i,_)=>q-i) ((0,xs)) ⟨rfl,trivial⟩ ?_ ?_)))))))
 ·exact ⟨Nat.zero_le _,ho,World.grownBy.refl _ _,.rfl_,fun k=>(SM.swr_zero a b _ k).symm⟩
 rintro ⟨i,ys⟩ ρ1 w1 ⟨hi,hoy,hG0,hP,hR⟩;refine ag (ag (aa (mvi rfl (mvi rfl (ab (aY rfl rfl) (ah (ae (K8 rfl (fun Q2=>?_) (fun Q2=>?_)))))))))
 ·obtain ⟨g,rfl⟩:=dy ho (by omega);have hyl:=fZ bH hoy;refine au (ae (ag (az ?_)));have hU3:oI [(0,16,.slice (some ⟨g,0,none⟩) n c),(1,17,.int .i64 ((a:Nat):Int)),(2,18,.int .i64 ((i:Nat):Int)),(3,19,.int .i64 (((a+i):Nat):Int)),(4,20,.slice (some ⟨g,0,none⟩) n c),(5,21,.int .i64 ((b:Nat):Int)),(6,22,.int .i64 ((i:Nat):Int)),(7,23,.int .i64 (((b+i):Nat):Int)),(8,24,.slice (some ⟨g,0,none⟩) n c),(9,25,.int .i64 ((b:Nat):Int)),(10,26,.int .i64 ((i:Nat):Int)),(11,27,.int .i64 (((b+i):Nat):Int)),(12,28,.pointer (some ⟨g,0+(b+i)*2,none⟩)),(13,29,.agg (dV (SM.G Dz ys (b+i))).toArray),(14,30,.slice (some ⟨g,0,none⟩) n c),(15,31,.int .i64 ((a:Nat):Int)),(16,32,.int .i64 ((i:Nat):Int)),(17,33,.int .i64 (((a+i):Nat):Int)),(18,34,.pointer (some ⟨g,0+(a+i)*2,none⟩)),(19,35,.agg (dV (SM.G Dz ys (a+i))).toArray),(20,36,.pointer (some ⟨g,0+(a+i)*2,none⟩)),(22,37,.pointer (some ⟨g,0+(b+i)*2,none⟩))]:=by simp [oI]
  refine pK [(0,16,.slice (some ⟨g,0,none⟩) n c),(1,17,.int .i64 ((a:Nat):Int)),(2,18,.int .i64 ((i:Nat):Int)),(3,19,.int .i64 (((a+i):Nat):Int)),(4,20,.slice (some ⟨g,0,none⟩) n c),(5,21,.int .i64 ((b:Nat):Int)),(6,22,.int .i64 ((i:Nat):Int)),(7,23,.int .i64 (((b+i):Nat):Int)),(8,24,.slice (some ⟨g,0,none⟩) n c),(9,25,.int .i64 ((b:Nat):Int)),(10,26,.int .i64 ((i:Nat):Int)),(11,27,.int .i64 (((b+i):Nat):Int)),(12,28,.pointer (some ⟨g,0+(b+i)*2,none⟩)),(13,29,.agg (dV (SM.G Dz ys (b+i))).toArray),(14,30,.slice (some ⟨g,0,none⟩) n c),(15,31,.int .i64 ((a:Nat):Int)),(16,32,.int .i64 ((i:Nat):Int)),(17,33,.int .i64 (((a+i):Nat):Int)),(18,34,.pointer (some ⟨g,0+(a+i)*2,none⟩)),(19,35,.agg (dV (SM.G Dz ys (a+i))).toArray),(20,36,.pointer (some ⟨g,0+(a+i)*2,none⟩)),(22,37,.pointer (some ⟨g,0+(b+i)*2,none⟩))] (fun S w'=>World.grownBy w1 w' (some g)∧(S 21=false→w'.ownsRow base 37 2 (.slice (some ⟨g,0,none⟩) n c) n (List.flatMap dV ys))∧(S 21=true→S 13=true∧S 19=true)∧(S 21=true→S 23=false→w'.ownsRow base 37 2 (.slice (some ⟨g,0,none⟩) n c) n (List.flatMap dV (ys.set (a+i) (SM.G Dz ys (b+i)))))∧(S 21=true→S 23=true→w'.ownsRow base 37 2 (.slice (some ⟨g,0,none⟩) n c) n (List.flatMap dV ((ys.set (a+i) (SM.G Dz ys (b+i))).set (b+i) (SM.G Dz ys (a+i)))))∧(S 21=false→S 23=false)) (by kernel_rfl) (by kernel_rfl) hU3 (by simp) (⟨(aj.rfl_.d1 (a:=w1)).grown _,fun _=>hoy.kept_from aj.rfl_.d1,fun q=>Bool.noConfusion q,fun q=>Bool.noConfusion q,fun q=>Bool.noConfusion q,fun _=>rfl⟩) ?_ ?_
  ·constructor
   ·rintro S L' wS hI hM hS0 ⟨-⟩;have e0:=hI.1 0 (by simp);have hM':=hM;obtain ⟨hG,hA,hB1,hC,hD,hE⟩:=hM';exact bz (ar e0) ⟨hI.put hU3 (.head _),hM⟩
   constructor
   ·rintro S L' wS hI hM hS0 ⟨-⟩;have e1:=hI.1 1 (by simp);have hM':=hM;obtain ⟨hG,hA,hB1,hC,hD,hE⟩:=hM';exact bz (ar e1) ⟨hI.put hU3 (.tail _ (.head _)),hM⟩
   constructor
   ·rintro S L' wS hI hM hS0 ⟨-⟩;have e10:=hI.1 10 (by simp);have hM':=hM;obtain ⟨hG,hA,hB1,hC,hD,hE⟩:=hM';exact bz (ar e10) ⟨hI.put hU3 (.tail _ (.tail _ (.head _))),hM⟩
   constructor
   ·rintro S L' wS hI hM hS0 ⟨d1,d2,-⟩;have e17:br L' 17=.int .i64 ((a:Nat):Int):=hI.get (i:=1) (.tail _ (.head _)) d1;have e18:br L' 18=.int .i64 ((i:Nat):Int):=hI.get (i:=2) (.tail _ (.tail _ (.head _))) d2;have hM':=hM;obtain ⟨hG,hA,hB1,hC,hD,hE⟩:=hM';exact bz (aI (a:=a) (b:=i) e17 e18 (by omega)) ⟨hI.put hU3 (.tail _ (.tail _ (.tail _ (.head _)))),hM⟩
   constructor
   ·rintro S L' wS hI hM hS0 ⟨-,-⟩;have e0:=hI.1 0 (by simp);have hM':=hM;obtain ⟨hG,hA,hB1,hC,hD,hE⟩:=hM';exact bz (ar e0) ⟨hI.put hU3 (.tail _ (.tail _ (.tail _ (.tail _ (.head _))))),hM⟩
   constructor
   ·rintro S L' wS hI hM hS0 ⟨-,-⟩;have e2:=hI.1 2 (by simp);have hM':=hM;obtain ⟨hG,hA,hB1,hC,hD,hE⟩:=hM';exact bz (ar e2) ⟨hI.put hU3 (.tail _ (.tail _ (.tail _ (.tail _ (.tail _ (.head _)))))),hM⟩
   constructor
   ·rintro S L' wS hI hM hS0 ⟨-,-⟩;have e10:=hI.1 10 (by simp);have hM':=hM;obtain ⟨hG,hA,hB1,hC,hD,hE⟩:=hM';exact bz (ar e10) ⟨hI.put hU3 (.tail _ (.tail _ (.tail _ (.tail _ (.tail _ (.tail _ (.head _))))))),hM⟩
   constructor
   ·rintro S L' wS hI hM hS0 ⟨d5,d6,-,-⟩;have e21:br L' 21=.int .i64 ((b:Nat):Int):=hI.get (i:=5) (.tail _ (.tail _ (.tail _ (.tail _ (.tail _ (.head _)))))) d5;have e22:br L' 22=.int .i64 ((i:Nat):Int):=hI.get (i:=6) (.tail _ (.tail _ (.tail _ (.tail _ (.tail _ (.tail _ (.head _))))))) d6;have hM':=hM;obtain ⟨hG,hA,hB1,hC,hD,hE⟩:=hM';exact bz (aI (a:=b) (b:=i) e21 e22 (by omega)) ⟨hI.put hU3 (.tail _ (.tail _ (.tail _ (.tail _ (.tail _ (.tail _ (.tail _ (.head _)))))))),hM⟩
   constructor
   ·rintro S L' wS hI hM hS0 ⟨-⟩;have e0:=hI.1 0 (by simp);have hM':=hM;obtain ⟨hG,hA,hB1,hC,hD,hE⟩:=hM';exact bz (ar e0) ⟨hI.put hU3 (.tail _ (.tail _ (.tail _ (.tail _ (.tail _ (.tail _ (.tail _ (.tail _ (.head _))))))))),hM⟩
   constructor
   ·rintro S L' wS hI hM hS0 ⟨-⟩;have e2:=hI.1 2 (by simp);have hM':=hM;obtain ⟨hG,hA,hB1,hC,hD,hE⟩:=hM';exact bz (ar e2) ⟨hI.put hU3 (.tail _ (.tail _ (.tail _ (.tail _ (.tail _ (.tail _ (.tail _ (.tail _ (.tail _ (.head _)))))))))),hM⟩
   constructor
   ·rintro S L' wS hI hM hS0 ⟨-⟩;have e10:=hI.1 10 (by simp);have hM':=hM;obtain ⟨hG,hA,hB1,hC,hD,hE⟩:=hM';exact bz (ar e10) ⟨hI.put hU3 (.tail _ (.tail _ (.tail _ (.tail _ (.tail _ (.tail _ (.tail _ (.tail _ (.tail _ (.tail _ (.head _))))))))))),hM⟩
   constructor
   ·rintro S L' wS hI hM hS0 ⟨d9,d10,-⟩;have e25:br L' 25=.int .i64 ((b:Nat):Int):=hI.get (i:=9) (.tail _ (.tail _ (.tail _ (.tail _ (.tail _ (.tail _ (.tail _ (.tail _ (.tail _ (.head _)))))))))) d9;have e26:br L' 26=.int .i64 ((i:Nat):Int):=hI.get (i:=10) (.tail _ (.tail _ (.tail _ (.tail _ (.tail _ (.tail _ (.tail _ (.tail _ (.tail _ (.tail _ (.head _))))))))))) d10;have hM':=hM;obtain ⟨hG,hA,hB1,hC,hD,hE⟩:=hM';exact bz (aI (a:=b) (b:=i) e25 e26 (by omega)) ⟨hI.put hU3 (.tail _ (.tail _ (.tail _ (.tail _ (.tail _ (.tail _ (.tail _ (.tail _ (.tail _ (.tail _ (.tail _ (.head _)))))))))))),hM⟩
   constructor
   ·rintro S L' wS hI hM hS0 ⟨d8,d11,-⟩;have e24:br L' 24=.slice (some ⟨g,0,none⟩) n c:=hI.get (i:=8) (.tail _ (.tail _ (.tail _ (.tail _ (.tail _ (.tail _ (.tail _ (.tail _ (.head _))))))))) d8;have e27:br L' 27=.int .i64 (((b+i):Nat):Int):=hI.get (i:=11) (.tail _ (.tail _ (.tail _ (.tail _ (.tail _ (.tail _ (.tail _ (.tail _ (.tail _ (.tail _ (.tail _ (.head _)))))))))))) d11;have hM':=hM;obtain ⟨hG,hA,hB1,hC,hD,hE⟩:=hM';exact bz (aG (i:=(b+i)) aP e24 e27 (by omega)) ⟨hI.put hU3 (.tail _ (.tail _ (.tail _ (.tail _ (.tail _ (.tail _ (.tail _ (.tail _ (.tail _ (.tail _ (.tail _ (.tail _ (.head _))))))))))))),hM⟩
   constructor
   ·rintro S L' wS hI hM hS0 ⟨d12,-⟩;have e28:br L' 28=.pointer (some ⟨g,0+(b+i)*2,none⟩):=hI.get (i:=12) (.tail _ (.tail _ (.tail _ (.tail _ (.tail _ (.tail _ (.tail _ (.tail _ (.tail _ (.tail _ (.tail _ (.tail _ (.head _))))))))))))) d12;have hM':=hM;obtain ⟨hG,hA,hB1,hC,hD,hE⟩:=hM';exact bz (bk (cs:=dV (SM.G Dz ys (b+i))) bJ bh e28 (fC bH Dz (hA (xv (fun q=>(hB1 q).1) hS0)) (by omega))) ⟨hI.put hU3 (.tail _ (.tail _ (.tail _ (.tail _ (.tail _ (.tail _ (.tail _ (.tail _ (.tail _ (.tail _ (.tail _ (.tail _ (.tail _ (.head _)))))))))))))),hG,hA,fun q=>⟨rfl,(hB1 q).2⟩,hC,hD,hE⟩
   constructor
   ·rintro S L' wS hI hM hS0 ⟨-⟩;have e0:=hI.1 0 (by simp);have hM':=hM;obtain ⟨hG,hA,hB1,hC,hD,hE⟩:=hM';exact bz (ar e0) ⟨hI.put hU3 (.tail _ (.tail _ (.tail _ (.tail _ (.tail _ (.tail _ (.tail _ (.tail _ (.tail _ (.tail _ (.tail _ (.tail _ (.tail _ (.tail _ (.head _))))))))))))))),hM⟩
   constructor
   ·rintro S L' wS hI hM hS0 ⟨-⟩;have e1:=hI.1 1 (by simp);have hM':=hM;obtain ⟨hG,hA,hB1,hC,hD,hE⟩:=hM';exact bz (ar e1) ⟨hI.put hU3 (.tail _ (.tail _ (.tail _ (.tail _ (.tail _ (.tail _ (.tail _ (.tail _ (.tail _ (.tail _ (.tail _ (.tail _ (.tail _ (.tail _ (.tail _ (.head _)))))))))))))))),hM⟩
   constructor
   ·rintro S L' wS hI hM hS0 ⟨-⟩;have e10:=hI.1 10 (by simp);have hM':=hM;obtain ⟨hG,hA,hB1,hC,hD,hE⟩:=hM';exact bz (ar e10) ⟨hI.put hU3 (.tail _ (.tail _ (.tail _ (.tail _ (.tail _ (.tail _ (.tail _ (.tail _ (.tail _ (.tail _ (.tail _ (.tail _ (.tail _ (.tail _ (.tail _ (.tail _ (.head _))))))))))))))))),hM⟩
   constructor
   ·rintro S L' wS hI hM hS0 ⟨d15,d16,-⟩;have e31:br L' 31=.int .i64 ((a:Nat):Int):=hI.get (i:=15) (.tail _ (.tail _ (.tail _ (.tail _ (.tail _ (.tail _ (.tail _ (.tail _ (.tail _ (.tail _ (.tail _ (.tail _ (.tail _ (.tail _ (.tail _ (.head _)))))))))))))))) d15;have e32:br L' 32=.int .i64 ((i:Nat):Int):=hI.get (i:=16) (.tail _ (.tail _ (.tail _ (.tail _ (.tail _ (.tail _ (.tail _ (.tail _ (.tail _ (.tail _ (.tail _ (.tail _ (.tail _ (.tail _ (.tail _ (.tail _ (.head _))))))))))))))))) d16;have hM':=hM;obtain ⟨hG,hA,hB1,hC,hD,hE⟩:=hM';exact bz (aI (a:=a) (b:=i) e31 e32 (by omega)) ⟨hI.put hU3 (.tail _ (.tail _ (.tail _ (.tail _ (.tail _ (.tail _ (.tail _ (.tail _ (.tail _ (.tail _ (.tail _ (.tail _ (.tail _ (.tail _ (.tail _ (.tail _ (.tail _ (.head _)))))))))))))))))),hM⟩
   constructor
   ·rintro S L' wS hI hM hS0 ⟨d14,d17,-⟩;have e30:br L' 30=.slice (some ⟨g,0,none⟩) n c:=hI.get (i:=14) (.tail _ (.tail _ (.tail _ (.tail _ (.tail _ (.tail _ (.tail _ (.tail _ (.tail _ (.tail _ (.tail _ (.tail _ (.tail _ (.tail _ (.head _))))))))))))))) d14;have e33:br L' 33=.int .i64 (((a+i):Nat):Int):=hI.get (i:=17) (.tail _ (.tail _ (.tail _ (.tail _ (.tail _ (.tail _ (.tail _ (.tail _ (.tail _ (.tail _ (.tail _ (.tail _ (.tail _ (.tail _ (.tail _ (.tail _ (.tail _ (.head _)))))))))))))))))) d17;have hM':=hM;obtain ⟨hG,hA,hB1,hC,hD,hE⟩:=hM';exact bz (aG (i:=(a+i)) aP e30 e33 (by omega)) ⟨hI.put hU3 (.tail _ (.tail _ (.tail _ (.tail _ (.tail _ (.tail _ (.tail _ (.tail _ (.tail _ (.tail _ (.tail _ (.tail _ (.tail _ (.tail _ (.tail _ (.tail _ (.tail _ (.tail _ (.head _))))))))))))))))))),hM⟩
   constructor
   ·rintro S L' wS hI hM hS0 ⟨d18,-⟩;have e34:br L' 34=.pointer (some ⟨g,0+(a+i)*2,none⟩):=hI.get (i:=18) (.tail _ (.tail _ (.tail _ (.tail _ (.tail _ (.tail _ (.tail _ (.tail _ (.tail _ (.tail _ (.tail _ (.tail _ (.tail _ (.tail _ (.tail _ (.tail _ (.tail _ (.tail _ (.head _))))))))))))))))))) d18;have hM':=hM;obtain ⟨hG,hA,hB1,hC,hD,hE⟩:=hM';exact bz (bk (cs:=dV (SM.G Dz ys (a+i))) bJ bh e34 (fC bH Dz (hA (xv (fun q=>(hB1 q).2) hS0)) (by omega))) ⟨hI.put hU3 (.tail _ (.tail _ (.tail _ (.tail _ (.tail _ (.tail _ (.tail _ (.tail _ (.tail _ (.tail _ (.tail _ (.tail _ (.tail _ (.tail _ (.tail _ (.tail _ (.tail _ (.tail _ (.tail _ (.head _)))))))))))))))))))),hG,hA,fun q=>⟨(hB1 q).1,rfl⟩,hC,hD,hE⟩
   constructor
   ·rintro S L' wS hI hM hS0 ⟨d0,d3,d0,d1,d2,d3,-,-,-,-,d8,d9,d10,d11,d12,d13,-,-,-,-,-,d19,-⟩;have e16:br L' 16=.slice (some ⟨g,0,none⟩) n c:=hI.get (i:=0) (.head _) d0;have e19:br L' 19=.int .i64 (((a+i):Nat):Int):=hI.get (i:=3) (.tail _ (.tail _ (.tail _ (.head _)))) d3;have hM':=hM;obtain ⟨hG,hA,hB1,hC,hD,hE⟩:=hM';exact bz (aG (i:=(a+i)) aP e16 e19 (by omega)) ⟨hI.put hU3 (.tail _ (.tail _ (.tail _ (.tail _ (.tail _ (.tail _ (.tail _ (.tail _ (.tail _ (.tail _ (.tail _ (.tail _ (.tail _ (.tail _ (.tail _ (.tail _ (.tail _ (.tail _ (.tail _ (.tail _ (.head _))))))))))))))))))))),hM⟩
   constructor
   ·rintro S L' wS hI hM hS0 ⟨d20,d13,d0,d1,d2,d3,-,-,-,-,d8,d9,d10,d11,d12,d13,-,-,-,-,-,d19,-⟩;have e29:br L' 29=.agg (dV (SM.G Dz ys (b+i))).toArray:=hI.get (i:=13) (.tail _ (.tail _ (.tail _ (.tail _ (.tail _ (.tail _ (.tail _ (.tail _ (.tail _ (.tail _ (.tail _ (.tail _ (.tail _ (.head _)))))))))))))) d13;have e36:br L' 36=.pointer (some ⟨g,0+(a+i)*2,none⟩):=hI.get (i:=20) (.tail _ (.tail _ (.tail _ (.tail _ (.tail _ (.tail _ (.tail _ (.tail _ (.tail _ (.tail _ (.tail _ (.tail _ (.tail _ (.tail _ (.tail _ (.tail _ (.tail _ (.tail _ (.tail _ (.tail _ (.head _))))))))))))))))))))) d20;have hM':=hM;obtain ⟨hG,hA,hB1,hC,hD,hE⟩:=hM';obtain ⟨w2,hR,hO,hb⟩:=gv (n:=38) (L:=L') (x:=.tmp 36) (y:=.tmp 29) (f:=dV) bH jY (i:=(a+i)) bh e36 e29 (hA hS0) (by omega);exact iG hR ⟨hI.skip (by simp),aS hG hO.grown,fun q=>Bool.noConfusion q,fun _=>⟨d13,d19⟩,fun _ _=>hb,fun _ q=>Bool.noConfusion (q.symm.trans (hE hS0)),fun q=>Bool.noConfusion q⟩
   constructor
   ·rintro S L' wS hI hM hS0 ⟨d4,d7,d0,d1,d2,d3,d4,d5,d6,d7,d8,d9,d10,d11,d12,d13,d14,d15,d16,d17,d18,d19,d20,d21,-⟩;have e20:br L' 20=.slice (some ⟨g,0,none⟩) n c:=hI.get (i:=4) (.tail _ (.tail _ (.tail _ (.tail _ (.head _))))) d4;have e23:br L' 23=.int .i64 (((b+i):Nat):Int):=hI.get (i:=7) (.tail _ (.tail _ (.tail _ (.tail _ (.tail _ (.tail _ (.tail _ (.head _)))))))) d7;have hM':=hM;obtain ⟨hG,hA,hB1,hC,hD,hE⟩:=hM';exact bz (aG (i:=(b+i)) aP e20 e23 (by omega)) ⟨hI.put hU3 (.tail _ (.tail _ (.tail _ (.tail _ (.tail _ (.tail _ (.tail _ (.tail _ (.tail _ (.tail _ (.tail _ (.tail _ (.tail _ (.tail _ (.tail _ (.tail _ (.tail _ (.tail _ (.tail _ (.tail _ (.tail _ (.head _)))))))))))))))))))))),hM⟩
   constructor
   ·rintro S L' wS hI hM hS0 ⟨d22,d19,d21,d0,d1,d2,d3,d4,d5,d6,d7,d8,d9,d10,d11,d12,d13,d14,d15,d16,d17,d18,d19,d20,d21,-⟩;have e35:br L' 35=.agg (dV (SM.G Dz ys (a+i))).toArray:=hI.get (i:=19) (.tail _ (.tail _ (.tail _ (.tail _ (.tail _ (.tail _ (.tail _ (.tail _ (.tail _ (.tail _ (.tail _ (.tail _ (.tail _ (.tail _ (.tail _ (.tail _ (.tail _ (.tail _ (.tail _ (.head _)))))))))))))))))))) d19;have e37:br L' 37=.pointer (some ⟨g,0+(b+i)*2,none⟩):=hI.get (i:=22) (.tail _ (.tail _ (.tail _ (.tail _ (.tail _ (.tail _ (.tail _ (.tail _ (.tail _ (.tail _ (.tail _ (.tail _ (.tail _ (.tail _ (.tail _ (.tail _ (.tail _ (.tail _ (.tail _ (.tail _ (.tail _ (.head _)))))))))))))))))))))) d22;have hM':=hM;obtain ⟨hG,hA,hB1,hC,hD,hE⟩:=hM';obtain ⟨w2,hR,hO,hb⟩:=gv (n:=38) (L:=L') (x:=.tmp 37) (y:=.tmp 35) (f:=dV) bH jY (i:=(b+i)) bh e37 e35 (hC d21 hS0) (by omega);exact iG hR ⟨hI.skip (by simp),aS hG hO.grown,fun q=>Bool.noConfusion (q.symm.trans d21),hB1,fun _ q=>Bool.noConfusion q,fun _ _=>hb,fun q=>Bool.noConfusion (q.symm.trans d21)⟩
   exact trivial
  ·intro w4 hM;obtain ⟨hG,hA,hB1,hC,hD,hE⟩:=hM;have hS9:=hD rfl rfl;change World.ownsRow _ _ _ _ _ _ (List.flatMap dV (SM.swp Dz ys (a+i) (b+i))) at hS9;refine aL (ae (aa (mvi rfl (ab (aI (b:=1) rfl rfl (by omega)) (asi rfl (ah ?_))))));refine aO ((i+1,SM.swp Dz ys (a+i) (b+i))) ⟨(by first | rfl | (refine aM ?_;omega)),trivial⟩ (by (iterate 56 refine aB rfl ?_);exact aK) ⟨?_,?_⟩
   ·exact ⟨by omega,hS9,aS hG0 hG,hP.trans (.swap (by omega) (by omega) (by omega)),SM.swr_succ hR (by omega) hyl (by omega)⟩
   ·show q-(i+1)<q-i;omega
 refine aZ (aC (aC (aT (gm (kp rfl ?_)))));obtain rfl:i=q:=by omega
 exact ⟨ys,hoy,hG0,hP,hR⟩
theorem uX (base:Nat) (A:Option Addr) (c n:Nat) (xs:List Dc) (w:World) (ho:w.ownsRow base 37 2 (.slice A n c) n (xs.flatMap dV)) (_:base≤w.heap.size) (hl:n≤100000000) (a b:Nat) (hab:a≤b) (hbn:b≤n) :
 Rt prog 122 [.slice A n c,.int .i64 (a:Nat),.int .i64 (b:Nat),.func (.func 119) #[] #[]] w (fun _ w'=>∃ ys,w'.ownsRow base 37 2 (.slice A n c) n (List.flatMap dV ys)∧w.grownBy w' (A.map (·.block))∧SM.PW Dz a b xs ys∧SM.Srt Dz ltD a b ys):=by
 have hxl:=fZ bH ho;refine enter (n:=53) Tryz.func122 rfl rfl rfl (ag (aa (mvi rfl (ab (aI (b:=1) rfl rfl (by omega)) (asi rfl (ah (ae (az (bg (G:=Nat×List Dc) [9,12,13,14,15,16,17,18,19,20,21,22,23,24,25,26,27,28,29,30,31,32,33,34,35,36,37,38,39,40,41,42,43,44,45,46,47,48,49,50,51,52] (fun (i,_)=>[(8,.int .i64 (i:Nat))]) (fun (i,ys) w'=>a+1≤i∧(i≤b∨i=a+1)∧w'.ownsRow base 37 2 (.slice A n c) n (List.flatMap dV ys)∧w.grownBy w' (A.map (·.block))∧SM.PW Dz a b xs ys∧SM.Srt Dz ltD a i ys) (fun (i,_)=>b-i) ((a+1,xs)) ⟨rfl,trivial⟩ ?_ ?_)))))))))
 ·exact ⟨Nat.le_refl _,.inr rfl,ho,World.grownBy.refl _ _,.rfl_,(SM.Srt.one iK (by omega)).2 trivial⟩
 rintro ⟨i,ys⟩ ρ1 w1 ⟨hia,hib,hoy,hG0,hP,hR⟩;refine ag (ag (aa (mvi rfl (mvi rfl (ab (aY rfl rfl) (ah (ae (K8 rfl (fun Q2=>?_) (fun Q2=>?_)))))))))
 ·obtain ⟨g,rfl⟩:=dy ho (by omega);refine au (ae (ag (az (ag (aa (mvi rfl (asi rfl (ah (ae (az (bg (G:=Nat×List Dc) [18,19,20,21,22,23,24,25,26,27,28,29,30,31,32,33,34,35,36,37,38,39,40,41,42,43,44,45,46,47,48,49,50,51,52] (fun (j,_)=>[(9,.int .i64 (j:Nat))]) (fun (j,ys) w'=>a≤j∧j≤i∧w'.ownsRow base 37 2 (.slice (some ⟨g,0,none⟩) n c) n (List.flatMap dV ys)∧w.grownBy w' (some g)∧SM.PW Dz a b xs ys∧SM.Ins Dz ltD a i j ys) (fun (j,_)=>j-a) ((i,ys)) ⟨rfl,trivial⟩ ?_ ?_)))))))))))
  ·exact ⟨by omega,Nat.le_refl _,hoy,hG0,hP,SM.Ins.start hR⟩
  rintro ⟨j,ys⟩ ρ3 w3 ⟨hja,hji,hoy,hG0,hP,hR⟩;refine ag (ag ?_);have hsp:j=a∨a<j:=by omega
  rcases hsp with hj9 | hj9
  ·apply bI 17 [(18,eqp _),(19,eqp _),(20,eqp _),(21,eqp _),(22,eqp _),(23,eqp _),(24,eqp _),(25,eqp _),(26,eqp _),(27,eqp _),(28,eqp _),(29,eqp _),(30,eqp _),(31,eqp _),(32,eqp _),(33,eqp _),(34,eqp _)] (by repeat first | exact bW | refine bT ?_ | refine bG ?_) (by kernel_rfl) (by kernel_rfl) ⟨af _,af _,af _,af _,af _,af _,af _,af _,af _,af _,af _,af _,af _,af _,af _,af _,af _,trivial⟩
   case hop=>
    constructor
    ·rintro-w5 D5;exact ai (ar (v:=.int _ _) rfl) rfl
    constructor
    ·rintro-w6 D6;exact ai (ar (v:=.int _ _) rfl) rfl
    constructor
    ·rintro-w7 D7;rintro _ rfl _ rfl;exact ai (cF (bX rfl rfl) (decide_eq_false (by omega))) rfl
    constructor
    ·rintro-w8 D8;rintro _ rfl;exact ai (ar (v:=.bool _) rfl) rfl
    constructor
    ·rintro-w9 D9;rintro _ rfl;exact bj rfl rfl rfl
    constructor
    ·rintro-w10 D10;rintro _ rfl;exact bj rfl rfl rfl
    constructor
    ·rintro-w11 D11;rintro _ rfl;exact bj rfl rfl rfl
    constructor
    ·rintro-w12 D12;rintro _ rfl _ rfl _ rfl;exact bj rfl rfl rfl
    constructor
    ·rintro-w13 D13;rintro _ rfl _ rfl;exact bj rfl rfl rfl
    constructor
    ·rintro-w14 D14;rintro _ rfl;exact bj rfl rfl rfl
    constructor
    ·rintro-w15 D15;rintro _ rfl;exact bj rfl rfl rfl
    constructor
    ·rintro-w16 D16;rintro _ rfl _ rfl;exact bj rfl rfl rfl
    constructor
    ·rintro-w17 D17;rintro _ rfl _ rfl _ rfl;exact bj rfl rfl rfl
    constructor
    ·rintro-w18 D18;rintro _ rfl _ rfl;exact bj rfl rfl rfl
    constructor
    ·rintro-w19 D19;rintro _ rfl _ rfl _ rfl _ rfl;exact bj rfl rfl rfl
    constructor
    ·rintro-w20 D20;rintro _ rfl _ rfl;exact bj rfl rfl rfl
    constructor
    ·rintro-w21 D21;rintro _ rfl _ rfl;exact ai (aR (v:=.bool _) rfl rfl) rfl
    exact trivial
   case hend=>
    intro w22 D22;rintro _ rfl _ rfl _ rfl _ rfl _ rfl _ rfl _ rfl _ rfl _ rfl _ rfl _ rfl _ rfl _ rfl _ rfl _ rfl _ rfl _ rfl;show St ..;have hM4:=D22;have hoz:=hoy.kept_from hM4;have hGz:=aS hG0 (hM4.grown _);subst hj9;have hRz:SM.Srt Dz ltD j (i+1) ys:=hR.low iK;refine ah (ae (cm rfl (aZ (aC (aC (aT (aL (ae (aa (mvi rfl (ab (aI (b:=1) rfl rfl (by omega)) (asi rfl (ah ?_)))))))))))));refine aO ((i+1,ys)) ⟨(by first | rfl | (refine aM ?_;omega)),trivial⟩ (by (iterate 104 refine aB rfl ?_);exact aK) ⟨?_,?_⟩
    ·exact ⟨by omega,.inl (by omega),hoz,hGz,hP,hRz⟩
    ·show b-(i+1)<b-i;omega
  apply bI 17 [(18,eqp _),(19,eqp _),(20,eqp _),(21,eqp _),(22,eqp _),(23,eqp _),(24,eqp _),(25,eqp _),(26,eqp (.agg (dV (SM.G Dz ys j)).toArray)),(27,eqp _),(28,eqp _),(29,eqp _),(30,eqp _),(31,eqp (.agg (dV (SM.G Dz ys (j-1))).toArray)),(32,eqp _),(33,eqp _),(34,eqp _)] (by repeat first | exact bW | refine bT ?_ | refine bG ?_) (by kernel_rfl) (by kernel_rfl) ⟨af _,af _,af _,af _,af _,af _,af _,af _,af _,af _,af _,af _,af _,af _,af _,af _,af _,trivial⟩
  case hop=>
   constructor
   ·rintro-w24 D24;exact ai (ar (v:=.int _ _) rfl) rfl
   constructor
   ·rintro-w25 D25;exact ai (ar (v:=.int _ _) rfl) rfl
   constructor
   ·rintro-w26 D26;rintro _ rfl _ rfl;exact ai (gx (bX rfl rfl) (decide_eq_true (by omega))) rfl
   constructor
   ·rintro-w27 D27;rintro _ rfl;exact ai (ar (v:=.bool _) rfl) rfl
   constructor
   ·rintro-w28 D28;rintro _ rfl;exact aJ rfl (ar (v:=.func _ _ _) rfl) rfl
   constructor
   ·rintro-w29 D29;rintro _ rfl;exact aJ rfl (ar (v:=.slice _ _ _) rfl) rfl
   constructor
   ·rintro-w30 D30;rintro _ rfl;exact aJ rfl (ar (v:=.int _ _) rfl) rfl
   constructor
   ·rintro-w31 D31;rintro _ rfl _ rfl _ rfl;exact aJ rfl (dS aP rfl rfl (by omega)) rfl
   constructor
   ·rintro-w32 D32;rintro _ rfl _ rfl;exact aJ rfl (bk (cs:=dV (SM.G Dz ys j)) bJ bh rfl (fC bH Dz (hoy.kept_from D32) (by omega))) rfl
   constructor
   ·rintro-w33 D33;rintro _ rfl;exact aJ rfl (ar (v:=.slice _ _ _) rfl) rfl
   constructor
   ·rintro-w34 D34;rintro _ rfl;exact aJ rfl (ar (v:=.int _ _) rfl) rfl
   constructor
   ·rintro-w35 D35;rintro _ rfl _ rfl;exact aJ rfl (cg (b:=1) rfl rfl (by omega)) rfl
   constructor
   ·rintro-w36 D36;rintro _ rfl _ rfl _ rfl;exact aJ rfl (dS aP rfl rfl (by omega)) rfl
   constructor
   ·rintro-w37 D37;rintro _ rfl _ rfl;exact aJ rfl (bk (cs:=dV (SM.G Dz ys (j-1))) bJ bh rfl (fC bH Dz (hoy.kept_from D37) (by omega))) rfl
   constructor
   ·rintro-w38 D38;rintro _ rfl _ rfl v38_26 rfl v38_31 rfl;exact CG (caps:=[]) rfl rfl kY ((rX (SM.G Dz ys j) (SM.G Dz ys (j-1)) _).mono fun v w2 h=>⟨h.2,h.1⟩)
   constructor
   ·rintro-w39 D39;rintro _ rfl _ rfl;exact aJ rfl (aY rfl rfl) rfl
   constructor
   ·rintro-w40 D40;rintro _ rfl _ rfl;exact ai (a_ (v:=.bool _) rfl rfl) rfl
   exact trivial
  case hend=>
   intro w41 D41;rintro _ rfl _ rfl _ rfl _ rfl _ rfl _ rfl _ rfl _ rfl v26 rfl _ rfl _ rfl _ rfl _ rfl v31 rfl _ rfl _ rfl _ rfl;show St ..;have hM4:=D41;refine ah (ae (K8 rfl (fun Q42=>?_) (fun Q42=>?_)))
   ·have hyl:=fZ bH hoy;have hoy4:=hoy.kept_from hM4;refine au (ae (ag (az ?_)));have hU43:oI [(0,37,.slice (some ⟨g,0,none⟩) n c),(1,38,.int .i64 ((j:Nat):Int)),(2,39,.slice (some ⟨g,0,none⟩) n c),(3,40,.int .i64 ((j:Nat):Int)),(4,41,.int .i64 (((j-1):Nat):Int)),(5,42,.slice (some ⟨g,0,none⟩) n c),(6,43,.int .i64 ((j:Nat):Int)),(7,44,.int .i64 (((j-1):Nat):Int)),(8,45,.pointer (some ⟨g,0+(j-1)*2,none⟩)),(9,46,.agg (dV (SM.G Dz ys (j-1))).toArray),(10,47,.slice (some ⟨g,0,none⟩) n c),(11,48,.int .i64 ((j:Nat):Int)),(12,49,.pointer (some ⟨g,0+j*2,none⟩)),(13,50,.agg (dV (SM.G Dz ys j)).toArray),(14,51,.pointer (some ⟨g,0+j*2,none⟩)),(16,52,.pointer (some ⟨g,0+(j-1)*2,none⟩))]:=by simp [oI]
    refine pK [(0,37,.slice (some ⟨g,0,none⟩) n c),(1,38,.int .i64 ((j:Nat):Int)),(2,39,.slice (some ⟨g,0,none⟩) n c),(3,40,.int .i64 ((j:Nat):Int)),(4,41,.int .i64 (((j-1):Nat):Int)),(5,42,.slice (some ⟨g,0,none⟩) n c),(6,43,.int .i64 ((j:Nat):Int)),(7,44,.int .i64 (((j-1):Nat):Int)),(8,45,.pointer (some ⟨g,0+(j-1)*2,none⟩)),(9,46,.agg (dV (SM.G Dz ys (j-1))).toArray),(10,47,.slice (some ⟨g,0,none⟩) n c),(11,48,.int .i64 ((j:Nat):Int)),(12,49,.pointer (some ⟨g,0+j*2,none⟩)),(13,50,.agg (dV (SM.G Dz ys j)).toArray),(14,51,.pointer (some ⟨g,0+j*2,none⟩)),(16,52,.pointer (some ⟨g,0+(j-1)*2,none⟩))] (fun S w'=>World.grownBy w41 w' (some g)∧(S 15=false→w'.ownsRow base 37 2 (.slice (some ⟨g,0,none⟩) n c) n (List.flatMap dV ys))∧(S 15=true→S 9=true∧S 13=true)∧(S 15=true→S 17=false→w'.ownsRow base 37 2 (.slice (some ⟨g,0,none⟩) n c) n (List.flatMap dV (ys.set j (SM.G Dz ys (j-1)))))∧(S 15=true→S 17=true→w'.ownsRow base 37 2 (.slice (some ⟨g,0,none⟩) n c) n (List.flatMap dV ((ys.set j (SM.G Dz ys (j-1))).set (j-1) (SM.G Dz ys j))))∧(S 15=false→S 17=false)) (by kernel_rfl) (by kernel_rfl) hU43 (by simp) (⟨(aj.rfl_.d1 (a:=w41)).grown _,fun _=>hoy4.kept_from aj.rfl_.d1,fun q=>Bool.noConfusion q,fun q=>Bool.noConfusion q,fun q=>Bool.noConfusion q,fun _=>rfl⟩) ?_ ?_
    ·constructor
     ·rintro S L' wS hI hM hS0 ⟨-⟩;have e0:=hI.1 0 (by simp);have hM':=hM;obtain ⟨hG,hA,hB1,hC,hD,hE⟩:=hM';exact bz (ar e0) ⟨hI.put hU43 (.head _),hM⟩
     constructor
     ·rintro S L' wS hI hM hS0 ⟨-⟩;have e9:=hI.1 9 (by simp);have hM':=hM;obtain ⟨hG,hA,hB1,hC,hD,hE⟩:=hM';exact bz (ar e9) ⟨hI.put hU43 (.tail _ (.head _)),hM⟩
     constructor
     ·rintro S L' wS hI hM hS0 ⟨-,-⟩;have e0:=hI.1 0 (by simp);have hM':=hM;obtain ⟨hG,hA,hB1,hC,hD,hE⟩:=hM';exact bz (ar e0) ⟨hI.put hU43 (.tail _ (.tail _ (.head _))),hM⟩
     constructor
     ·rintro S L' wS hI hM hS0 ⟨-,-⟩;have e9:=hI.1 9 (by simp);have hM':=hM;obtain ⟨hG,hA,hB1,hC,hD,hE⟩:=hM';exact bz (ar e9) ⟨hI.put hU43 (.tail _ (.tail _ (.tail _ (.head _)))),hM⟩
     constructor
     ·rintro S L' wS hI hM hS0 ⟨d3,-,-⟩;have e40:br L' 40=.int .i64 ((j:Nat):Int):=hI.get (i:=3) (.tail _ (.tail _ (.tail _ (.head _)))) d3;have hM':=hM;obtain ⟨hG,hA,hB1,hC,hD,hE⟩:=hM';exact bz (cg (a:=j) (b:=1) e40 rfl (by omega)) ⟨hI.put hU43 (.tail _ (.tail _ (.tail _ (.tail _ (.head _))))),hM⟩
     constructor
     ·rintro S L' wS hI hM hS0 ⟨-⟩;have e0:=hI.1 0 (by simp);have hM':=hM;obtain ⟨hG,hA,hB1,hC,hD,hE⟩:=hM';exact bz (ar e0) ⟨hI.put hU43 (.tail _ (.tail _ (.tail _ (.tail _ (.tail _ (.head _)))))),hM⟩
     constructor
     ·rintro S L' wS hI hM hS0 ⟨-⟩;have e9:=hI.1 9 (by simp);have hM':=hM;obtain ⟨hG,hA,hB1,hC,hD,hE⟩:=hM';exact bz (ar e9) ⟨hI.put hU43 (.tail _ (.tail _ (.tail _ (.tail _ (.tail _ (.tail _ (.head _))))))),hM⟩
     constructor
     ·rintro S L' wS hI hM hS0 ⟨d6,-⟩;have e43:br L' 43=.int .i64 ((j:Nat):Int):=hI.get (i:=6) (.tail _ (.tail _ (.tail _ (.tail _ (.tail _ (.tail _ (.head _))))))) d6;have hM':=hM;obtain ⟨hG,hA,hB1,hC,hD,hE⟩:=hM';exact bz (cg (a:=j) (b:=1) e43 rfl (by omega)) ⟨hI.put hU43 (.tail _ (.tail _ (.tail _ (.tail _ (.tail _ (.tail _ (.tail _ (.head _)))))))),hM⟩
     constructor
     ·rintro S L' wS hI hM hS0 ⟨d5,d7,-⟩;have e42:br L' 42=.slice (some ⟨g,0,none⟩) n c:=hI.get (i:=5) (.tail _ (.tail _ (.tail _ (.tail _ (.tail _ (.head _)))))) d5;have e44:br L' 44=.int .i64 (((j-1):Nat):Int):=hI.get (i:=7) (.tail _ (.tail _ (.tail _ (.tail _ (.tail _ (.tail _ (.tail _ (.head _)))))))) d7;have hM':=hM;obtain ⟨hG,hA,hB1,hC,hD,hE⟩:=hM';exact bz (aG (i:=(j-1)) aP e42 e44 (by omega)) ⟨hI.put hU43 (.tail _ (.tail _ (.tail _ (.tail _ (.tail _ (.tail _ (.tail _ (.tail _ (.head _))))))))),hM⟩
     constructor
     ·rintro S L' wS hI hM hS0 ⟨d8,-⟩;have e45:br L' 45=.pointer (some ⟨g,0+(j-1)*2,none⟩):=hI.get (i:=8) (.tail _ (.tail _ (.tail _ (.tail _ (.tail _ (.tail _ (.tail _ (.tail _ (.head _))))))))) d8;have hM':=hM;obtain ⟨hG,hA,hB1,hC,hD,hE⟩:=hM';exact bz (bk (cs:=dV (SM.G Dz ys (j-1))) bJ bh e45 (fC bH Dz (hA (xv (fun q=>(hB1 q).1) hS0)) (by omega))) ⟨hI.put hU43 (.tail _ (.tail _ (.tail _ (.tail _ (.tail _ (.tail _ (.tail _ (.tail _ (.tail _ (.head _)))))))))),hG,hA,fun q=>⟨rfl,(hB1 q).2⟩,hC,hD,hE⟩
     constructor
     ·rintro S L' wS hI hM hS0 ⟨-⟩;have e0:=hI.1 0 (by simp);have hM':=hM;obtain ⟨hG,hA,hB1,hC,hD,hE⟩:=hM';exact bz (ar e0) ⟨hI.put hU43 (.tail _ (.tail _ (.tail _ (.tail _ (.tail _ (.tail _ (.tail _ (.tail _ (.tail _ (.tail _ (.head _))))))))))),hM⟩
     constructor
     ·rintro S L' wS hI hM hS0 ⟨-⟩;have e9:=hI.1 9 (by simp);have hM':=hM;obtain ⟨hG,hA,hB1,hC,hD,hE⟩:=hM';exact bz (ar e9) ⟨hI.put hU43 (.tail _ (.tail _ (.tail _ (.tail _ (.tail _ (.tail _ (.tail _ (.tail _ (.tail _ (.tail _ (.tail _ (.head _)))))))))))),hM⟩
     constructor
     ·rintro S L' wS hI hM hS0 ⟨d10,d11,-⟩;have e47:br L' 47=.slice (some ⟨g,0,none⟩) n c:=hI.get (i:=10) (.tail _ (.tail _ (.tail _ (.tail _ (.tail _ (.tail _ (.tail _ (.tail _ (.tail _ (.tail _ (.head _))))))))))) d10;have e48:br L' 48=.int .i64 ((j:Nat):Int):=hI.get (i:=11) (.tail _ (.tail _ (.tail _ (.tail _ (.tail _ (.tail _ (.tail _ (.tail _ (.tail _ (.tail _ (.tail _ (.head _)))))))))))) d11;have hM':=hM;obtain ⟨hG,hA,hB1,hC,hD,hE⟩:=hM';exact bz (aG (i:=j) aP e47 e48 (by omega)) ⟨hI.put hU43 (.tail _ (.tail _ (.tail _ (.tail _ (.tail _ (.tail _ (.tail _ (.tail _ (.tail _ (.tail _ (.tail _ (.tail _ (.head _))))))))))))),hM⟩
     constructor
     ·rintro S L' wS hI hM hS0 ⟨d12,-⟩;have e49:br L' 49=.pointer (some ⟨g,0+j*2,none⟩):=hI.get (i:=12) (.tail _ (.tail _ (.tail _ (.tail _ (.tail _ (.tail _ (.tail _ (.tail _ (.tail _ (.tail _ (.tail _ (.tail _ (.head _))))))))))))) d12;have hM':=hM;obtain ⟨hG,hA,hB1,hC,hD,hE⟩:=hM';exact bz (bk (cs:=dV (SM.G Dz ys j)) bJ bh e49 (fC bH Dz (hA (xv (fun q=>(hB1 q).2) hS0)) (by omega))) ⟨hI.put hU43 (.tail _ (.tail _ (.tail _ (.tail _ (.tail _ (.tail _ (.tail _ (.tail _ (.tail _ (.tail _ (.tail _ (.tail _ (.tail _ (.head _)))))))))))))),hG,hA,fun q=>⟨(hB1 q).1,rfl⟩,hC,hD,hE⟩
     constructor
     ·rintro S L' wS hI hM hS0 ⟨d0,d1,d0,d1,-,-,-,d5,d6,d7,d8,d9,-,-,-,d13,-⟩;have e37:br L' 37=.slice (some ⟨g,0,none⟩) n c:=hI.get (i:=0) (.head _) d0;have e38:br L' 38=.int .i64 ((j:Nat):Int):=hI.get (i:=1) (.tail _ (.head _)) d1;have hM':=hM;obtain ⟨hG,hA,hB1,hC,hD,hE⟩:=hM';exact bz (aG (i:=j) aP e37 e38 (by omega)) ⟨hI.put hU43 (.tail _ (.tail _ (.tail _ (.tail _ (.tail _ (.tail _ (.tail _ (.tail _ (.tail _ (.tail _ (.tail _ (.tail _ (.tail _ (.tail _ (.head _))))))))))))))),hM⟩
     constructor
     ·rintro S L' wS hI hM hS0 ⟨d14,d9,d0,d1,-,-,-,d5,d6,d7,d8,d9,-,-,-,d13,-⟩;have e46:br L' 46=.agg (dV (SM.G Dz ys (j-1))).toArray:=hI.get (i:=9) (.tail _ (.tail _ (.tail _ (.tail _ (.tail _ (.tail _ (.tail _ (.tail _ (.tail _ (.head _)))))))))) d9;have e51:br L' 51=.pointer (some ⟨g,0+j*2,none⟩):=hI.get (i:=14) (.tail _ (.tail _ (.tail _ (.tail _ (.tail _ (.tail _ (.tail _ (.tail _ (.tail _ (.tail _ (.tail _ (.tail _ (.tail _ (.tail _ (.head _))))))))))))))) d14;have hM':=hM;obtain ⟨hG,hA,hB1,hC,hD,hE⟩:=hM';obtain ⟨w2,hR,hO,hb⟩:=gv (n:=53) (L:=L') (x:=.tmp 51) (y:=.tmp 46) (f:=dV) bH jY (i:=j) bh e51 e46 (hA hS0) (by omega);exact iG hR ⟨hI.skip (by simp),aS hG hO.grown,fun q=>Bool.noConfusion q,fun _=>⟨d9,d13⟩,fun _ _=>hb,fun _ q=>Bool.noConfusion (q.symm.trans (hE hS0)),fun q=>Bool.noConfusion q⟩
     constructor
     ·rintro S L' wS hI hM hS0 ⟨d2,d4,d0,d1,d2,d3,d4,d5,d6,d7,d8,d9,d10,d11,d12,d13,d14,d15,-⟩;have e39:br L' 39=.slice (some ⟨g,0,none⟩) n c:=hI.get (i:=2) (.tail _ (.tail _ (.head _))) d2;have e41:br L' 41=.int .i64 (((j-1):Nat):Int):=hI.get (i:=4) (.tail _ (.tail _ (.tail _ (.tail _ (.head _))))) d4;have hM':=hM;obtain ⟨hG,hA,hB1,hC,hD,hE⟩:=hM';exact bz (aG (i:=(j-1)) aP e39 e41 (by omega)) ⟨hI.put hU43 (.tail _ (.tail _ (.tail _ (.tail _ (.tail _ (.tail _ (.tail _ (.tail _ (.tail _ (.tail _ (.tail _ (.tail _ (.tail _ (.tail _ (.tail _ (.head _)))))))))))))))),hM⟩
     constructor
     ·rintro S L' wS hI hM hS0 ⟨d16,d13,d15,d0,d1,d2,d3,d4,d5,d6,d7,d8,d9,d10,d11,d12,d13,d14,d15,-⟩;have e50:br L' 50=.agg (dV (SM.G Dz ys j)).toArray:=hI.get (i:=13) (.tail _ (.tail _ (.tail _ (.tail _ (.tail _ (.tail _ (.tail _ (.tail _ (.tail _ (.tail _ (.tail _ (.tail _ (.tail _ (.head _)))))))))))))) d13;have e52:br L' 52=.pointer (some ⟨g,0+(j-1)*2,none⟩):=hI.get (i:=16) (.tail _ (.tail _ (.tail _ (.tail _ (.tail _ (.tail _ (.tail _ (.tail _ (.tail _ (.tail _ (.tail _ (.tail _ (.tail _ (.tail _ (.tail _ (.head _)))))))))))))))) d16;have hM':=hM;obtain ⟨hG,hA,hB1,hC,hD,hE⟩:=hM';obtain ⟨w2,hR,hO,hb⟩:=gv (n:=53) (L:=L') (x:=.tmp 52) (y:=.tmp 50) (f:=dV) bH jY (i:=(j-1)) bh e52 e50 (hC d15 hS0) (by omega);exact iG hR ⟨hI.skip (by simp),aS hG hO.grown,fun q=>Bool.noConfusion (q.symm.trans d15),hB1,fun _ q=>Bool.noConfusion q,fun _ _=>hb,fun q=>Bool.noConfusion (q.symm.trans d15)⟩
     exact trivial
    ·intro w44 hM;obtain ⟨hG,hA,hB1,hC,hD,hE⟩:=hM;have hS9:=hD rfl rfl;change World.ownsRow _ _ _ _ _ _ (List.flatMap dV (SM.swp Dz ys j (j-1))) at hS9;refine aL (ae (aa (mvi rfl (ab (cg (b:=1) rfl rfl (by omega)) (asi rfl (ah ?_))))));refine aO ((j-1,SM.swp Dz ys j (j-1))) ⟨(by first | rfl | (refine aM ?_;omega)),trivial⟩ (by (iterate 72 refine aB rfl ?_);exact aK) ⟨?_,?_⟩
     ·exact ⟨by omega,by omega,hS9,aS (aS hG0 (hM4.grown _)) hG,hP.trans (.swap (by omega) (by omega) (by omega)),hR.step iK (by omega) hji (by omega) (ra.1 (by omega))⟩
     ·show j-1-a<j-a;omega
   have hoz:=hoy.kept_from hM4;have hGz:=aS hG0 (hM4.grown _);have hRz:SM.Srt Dz ltD a (i+1) ys:=hR.stop iK hj9 (fun h9=>by have:=ra.2 h9;omega);refine aZ (aC (aC (aT (aL (ae (aa (mvi rfl (ab (aI (b:=1) rfl rfl (by omega)) (asi rfl (ah ?_))))))))));refine aO ((i+1,ys)) ⟨(by first | rfl | (refine aM ?_;omega)),trivial⟩ (by (iterate 104 refine aB rfl ?_);exact aK) ⟨?_,?_⟩
   ·exact ⟨by omega,.inl (by omega),hoz,hGz,hP,hRz⟩
   ·show b-(i+1)<b-i;omega
 refine aZ (aC (aC (aT (gm (kp rfl (⟨ys,hoy,hG0,hP,hR.sub (Nat.le_refl _) (by omega)⟩))))))
theorem Cq (base:Nat) (A:Option Addr) (c n:Nat) (xs:List Dc) (w:World) (ho:w.ownsRow base 37 2 (.slice A n c) n (xs.flatMap dV)) (hbs:base≤w.heap.size) (hl:n≤100000000) (a m b:Nat) (h1:a<m) (h2:m<b) (hbn:b≤n) :
 Rt prog 202 [.slice A n c,.int .i64 (a:Nat),.int .i64 (m:Nat),.int .i64 (b:Nat),.func (.func 119) #[] #[]] w (fun _ w'=>∃ ys,w'.ownsRow base 37 2 (.slice A n c) n (List.flatMap dV ys)∧w.grownBy w' (A.map (·.block))∧SM.PW Dz a b xs ys∧∀ k,SM.G Dz ys k=SM.rot a m b (SM.G Dz xs) k):=by
 refine enter (n:=58) Tryz.func202 rfl rfl rfl (ag (aa (mvi rfl (mvi rfl (ab (cg rfl rfl (by omega)) (asi rfl (ah (ae (ag (aa (mvi rfl (mvi rfl ?_))))))))))));refine ab (cg rfl rfl (by omega)) (asi rfl (ah (ae (ag (az (bg (G:=Nat×Nat×List Dc) [18,19,20,21,22,23,24,25,26,27,28,29,30,31,32,33,34,35,36,37,38,39,40,41,42,43,44,45,46,47,48,49] (fun (i,j,_)=>[(10,.int .i64 (i:Nat)),(11,.int .i64 (j:Nat))]) (fun (i,j,ys) w'=>0<i∧0<j∧a≤m-i∧i≤m∧m+j≤b∧w'.ownsRow base 37 2 (.slice A n c) n (List.flatMap dV ys)∧w.grownBy w' (A.map (·.block))∧SM.PW Dz a b xs ys∧∀ k,SM.rot (m-i) m (m+j) (SM.G Dz ys) k=SM.rot a m b (SM.G Dz xs) k) (fun (i,j,_)=>i+j) ((m-a,b-m,xs)) ⟨rfl,rfl,trivial⟩ ?_ ?_))))))
 ·exact ⟨by omega,by omega,by omega,by omega,by omega,ho,World.grownBy.refl _ _,.rfl_,fun k=>by rw [show m-(m-a)=a by omega,show m+(b-m)=b by omega]⟩
 rintro ⟨i,j,ys⟩ ρ1 w1 ⟨hi,hj,hia,him,hjb,hoy,hG0,hP,hR⟩;refine ag (ag (aa (mvi rfl (mvi rfl (ab (bP rfl rfl) (ah (ae (L_ rfl (fun Q2=>?_) (fun Q2=>?_)))))))))
 ·refine au (ae (az (ag (aa (mvi rfl (mvi rfl (ab (bX rfl rfl) (ah (ae (K8 rfl (fun Q3=>?_) (fun Q3=>?_)))))))))))
  ·refine ag (aa (mvs rfl (mvi rfl (mvi rfl (ab (cg rfl rfl (by omega)) (mvi rfl (mvi rfl (ab (ar (v:=.func _ _ _) rfl) (ax ng (sb base A c n ys _ hoy (Nat.le_trans hbs hG0.size) hl (m-i) m j (by omega) (by omega)) ?_)))))))));rintro v31 w4 ⟨zs,hoz,hGz,hPz,hRz⟩;refine ah (ae (aa (mvi rfl (mvi rfl (ab (cg rfl rfl (by omega)) (asi rfl (ah (aL ?_))))))));refine aO ((i-j,j,zs)) ⟨(by first | rfl | (refine aM ?_;omega)),(by first | rfl | (refine aM ?_;omega)),trivial⟩ (by (iterate 52 refine aB rfl ?_);exact aK) ⟨?_,?_⟩
   ·exact ⟨by omega,hj,by omega,by omega,hjb,hoz,aS hG0 hGz,hP.trans (hPz.wide (by omega) (by omega)),fun k=>(SM.rot_left hj (by omega) him hRz k).trans (hR k)⟩
   ·show i-j+j<i+j;omega
  refine ag (aa (mvs rfl (mvi rfl (mvi rfl (ab (cg rfl rfl (by omega)) (mvi rfl (mvi rfl (ab (aI rfl rfl (by omega)) (mvi rfl ?_)))))))));refine ab (cg rfl rfl (by omega)) (mvi rfl (ab (ar (v:=.func _ _ _) rfl) (ax ng (sb base A c n ys _ hoy (Nat.le_trans hbs hG0.size) hl (m-i) (m+j-i) i (by omega) (by omega)) ?_)));rintro v46 w5 ⟨zs,hoz,hGz,hPz,hRz⟩;refine ah (ae (aa (mvi rfl (mvi rfl (ab (cg rfl rfl (by omega)) (asi rfl (ah (aL ?_))))))));refine aO ((i,j-i,zs)) ⟨(by first | rfl | (refine aM ?_;omega)),(by first | rfl | (refine aM ?_;omega)),trivial⟩ (by (iterate 56 refine aB rfl ?_);exact aK) ⟨?_,?_⟩
  ·exact ⟨hi,by omega,hia,him,by omega,hoz,aS hG0 hGz,hP.trans (hPz.wide (by omega) (by omega)),fun k=>(SM.rot_right hi (by omega) him hRz k).trans (hR k)⟩
  ·show i+(j-i)<i+j;omega
 obtain rfl:i=j:=by omega
 refine aZ (aC (aC (aT (ae (aa (mvs rfl (mvi rfl (mvi rfl (ab (cg rfl rfl (by omega)) (mvi rfl (mvi rfl (ab (ar (v:=.func _ _ _) rfl) ?_))))))))))));refine ax ng (sb base A c n ys _ hoy (Nat.le_trans hbs hG0.size) hl (m-i) m i (by omega) (by omega)) ?_;rintro v57 w6 ⟨zs,hoz,hGz,hPz,hRz⟩;refine ah (gm (kp rfl (⟨zs,hoz,aS hG0 hGz,hP.trans (hPz.wide (by omega) (by omega)),fun k=>(SM.rot_same him hRz k).trans (hR k)⟩)))
theorem Ad:aH prog 202=true:=by kernel_rfl
theorem l_:aH prog 180=true:=by kernel_rfl
theorem DI (base:Nat) (A:Option Addr) (c n:Nat) (xs:List Dc) (w:World) (ho:w.ownsRow base 37 2 (.slice A n c) n (xs.flatMap dV)) (hbs:base≤w.heap.size) (hl:n≤100000000) (a m b:Nat) (h1:a<m) (h2:m<b) (hbn:b≤n) (s1:SM.Srt Dz ltD a m xs) (s2:SM.Srt Dz ltD m b xs) (IH:∀ (xs:List Dc) (w:World) (a' m' b':Nat),w.ownsRow base 37 2 (.slice A n c) n (xs.flatMap dV)→base≤w.heap.size→a'<m'→m'<b'→b'≤n→b'-a'<b-a→SM.Srt Dz ltD a' m' xs→SM.Srt Dz ltD m' b' xs→Rt prog 180 [.slice A n c,.int .i64 (a':Nat),.int .i64 (m':Nat),.int .i64 (b':Nat),.func (.func 119) #[] #[]] w (fun _ w'=>∃ ys,w'.ownsRow base 37 2 (.slice A n c) n (List.flatMap dV ys)∧w.grownBy w' (A.map (·.block))∧SM.PW Dz a' b' xs ys∧SM.Srt Dz ltD a' b' ys)) :
 Rt prog 180 [.slice A n c,.int .i64 (a:Nat),.int .i64 (m:Nat),.int .i64 (b:Nat),.func (.func 119) #[] #[]] w (fun _ w'=>∃ ys,w'.ownsRow base 37 2 (.slice A n c) n (List.flatMap dV ys)∧w.grownBy w' (A.map (·.block))∧SM.PW Dz a b xs ys∧SM.Srt Dz ltD a b ys):=by
 have hxl:=fZ bH ho;obtain ⟨g,rfl⟩:=dy ho (by omega);refine enter (n:=220) Tryz.func180 rfl rfl rfl (ag (ag (aa (mvi rfl (mvi rfl (ab (cg rfl rfl (by omega)) (ab (cy rfl rfl) (ah (ae (K8 rfl (fun Q1=>?_) (fun Q1=>?_)))))))))))
 ·refine ag (aa (mvi rfl (asi rfl (ah (ae (ag (aa (mvi rfl (asi rfl (ah (ae (ag (az (bg (G:=Nat×Nat) [12,31,32,33,34,35,36,37,38,39,40,41,42,43,44,45,46,47,48,49,50,51,52,53] (fun (i,j)=>[(10,.int .i64 (i:Nat)),(11,.int .i64 (j:Nat))]) (fun (i,j) w'=>m≤i∧i≤j∧j≤b∧(i=m∨ltD (SM.G Dz xs (i-1)) (SM.G Dz xs a))∧(j=b∨¬ ltD (SM.G Dz xs j) (SM.G Dz xs a))∧w'.ownsRow base 37 2 (.slice (some ⟨g,0,none⟩) n c) n (List.flatMap dV xs)∧w.grownBy w' (some g)) (fun (i,j)=>j-i) ((m,b)) ⟨rfl,rfl,trivial⟩ ?_ ?_))))))))))))))
  ·exact ⟨Nat.le_refl _,by omega,Nat.le_refl _,.inl rfl,.inl rfl,ho,World.grownBy.refl _ _⟩
  rintro ⟨i,j⟩ ρ2 w2 ⟨h3,h4,h5,hlo,hhi,hoy,hG0⟩;refine ag (ag (aa (mvi rfl (mvi rfl (ab (aY rfl rfl) (ah (ae (K8 rfl (fun Q3=>?_) (fun Q3=>?_)))))))))
  ·refine au (ae (az (ag (aa (mvi rfl (mvi rfl (ab (aI rfl rfl (by omega)) ?_)))))));obtain ⟨h,hh⟩:∃ h,h=(i+j)/2 ^ 1:=⟨_,rfl⟩;refine ab (fB dZ fG rfl (by omega)) (ab (fa (b:=1) rfl rfl (by decide)) (ab (eN gP eZ rfl (by omega)) (dx (t:=39) (v:=.int _ _) (v':=.int .i64 (h:Nat)) rfl (by rw [hh]) ?_)));refine asi rfl (ah (ae (ag ?_)));apply bI 11 [(40,eqp _),(41,eqp _),(42,eqp _),(43,eqp _),(44,eqp (.agg (dV (SM.G Dz xs h)).toArray)),(45,eqp _),(46,eqp _),(47,eqp _),(48,eqp (.agg (dV (SM.G Dz xs a)).toArray)),(49,eqp _),(50,eqp _)] (by repeat first | exact bW | refine bT ?_ | refine bG ?_) (by kernel_rfl) (by kernel_rfl) ⟨af _,af _,af _,af _,af _,af _,af _,af _,af _,af _,af _,trivial⟩
   case hop=>
    constructor
    ·rintro-w5 D5;exact ai (ar (v:=.func _ _ _) rfl) rfl
    constructor
    ·rintro-w6 D6;exact ai (ar (v:=.slice _ _ _) rfl) rfl
    constructor
    ·rintro-w7 D7;exact ai (ar (v:=.int _ _) rfl) rfl
    constructor
    ·rintro-w8 D8;rintro _ rfl _ rfl;exact ai (aG aP rfl rfl (by omega)) rfl
    constructor
    ·rintro-w9 D9;rintro _ rfl;exact ai (bk (cs:=dV (SM.G Dz xs h)) bJ bh rfl (fC bH Dz (hoy.kept_from D9) (by omega))) rfl
    constructor
    ·rintro-w10 D10;exact ai (ar (v:=.slice _ _ _) rfl) rfl
    constructor
    ·rintro-w11 D11;exact ai (ar (v:=.int _ _) rfl) rfl
    constructor
    ·rintro-w12 D12;rintro _ rfl _ rfl;exact ai (aG aP rfl rfl (by omega)) rfl
    constructor
    ·rintro-w13 D13;rintro _ rfl;exact ai (bk (cs:=dV (SM.G Dz xs a)) bJ bh rfl (fC bH Dz (hoy.kept_from D13) (by omega))) rfl
    constructor
    ·rintro-w14 D14;rintro _ rfl v14_44 rfl v14_48 rfl;exact sR (caps:=[]) rfl kY ((rX (SM.G Dz xs h) (SM.G Dz xs a) _).mono fun v w2 h=>⟨h.2,h.1⟩)
    constructor
    ·rintro-w15 D15;rintro _ rfl;exact ai (aY rfl rfl) rfl
    exact trivial
   case hend=>
    intro w16 D16;rintro _ rfl _ rfl _ rfl _ rfl v44 rfl _ rfl _ rfl _ rfl v48 rfl _ rfl _ rfl;show St ..;replace hG0:=aS hG0 (D16.grown _);replace hoy:=hoy.kept_from D16;refine ah (ae (K8 rfl (fun Q17=>?_) (fun Q17=>?_)))
    ·have hlt:=ra.1 (show jG (SM.G Dz xs h).1 (SM.G Dz xs a).1<0 by omega);refine aa (mvi rfl (ab (aI (b:=1) rfl rfl (by omega)) (asi rfl (ah (aL ?_)))));refine aO ((h+1,j)) ⟨(by first | rfl | (refine aM ?_;omega)),(by first | rfl | (refine aM ?_;omega)),trivial⟩ (by (iterate 51 refine aB rfl ?_);exact aK) ⟨?_,?_⟩
     ·exact ⟨by omega,by omega,h5,.inr (by rw [show h+1-1=h by omega];exact hlt),hhi,hoy,hG0⟩
     ·show j-(h+1)<j-i;omega
    have hnl:¬ ltD (SM.G Dz xs h) (SM.G Dz xs a):=fun h9=>by have:=ra.2 h9;omega
    refine aa (mvi rfl (asi rfl (ah (aL ?_))));refine aO ((i,h)) ⟨(by first | rfl | (refine aM ?_;omega)),(by first | rfl | (refine aM ?_;omega)),trivial⟩ (by (iterate 50 refine aB rfl ?_);exact aK) ⟨?_,?_⟩
    ·exact ⟨h3,by omega,by omega,hlo,.inr hnl,hoy,hG0⟩
    ·show h-i<j-i;omega
  refine aZ (aC (aC (aT (ae (ag (ag (aa (mvi rfl (asi rfl (ah (ae (az (bg (G:=Nat×List Dc) [55,56,57,58,59,60,61,62,63,64,65,66,67,68,69,70,71,72,73,74,75,76] (fun (k,_)=>[(13,.int .i64 (k:Nat))]) (fun (k,ys) w'=>a≤k∧k≤i-1∧w'.ownsRow base 37 2 (.slice (some ⟨g,0,none⟩) n c) n (List.flatMap dV ys)∧w.grownBy w' (some g)∧SM.PW Dz a b xs ys∧∀ t,SM.G Dz ys t=SM.mvl a k (SM.G Dz xs) t) (fun (k,_)=>i-k) ((a,xs)) ⟨rfl,trivial⟩ ?_ ?_)))))))))))))
  ·exact ⟨Nat.le_refl _,by omega,hoy,hG0,.rfl_,fun t=>(SM.mvl_zero _ t).symm⟩
  rintro ⟨k,ys⟩ ρ18 w18 ⟨hka,hki,hoy,hG0,hP,hR⟩;have hyl:=fZ bH hoy;refine ag (ag (aa (mvi rfl (mvi rfl (ab (cg (b:=1) rfl rfl (by omega)) (ab (aY rfl rfl) (ah (ae (K8 rfl (fun Q19=>?_) (fun Q19=>?_))))))))))
  ·refine au (ae (ag (az ?_)));have hU20:oI [(0,61,.slice (some ⟨g,0,none⟩) n c),(1,62,.int .i64 ((k:Nat):Int)),(2,63,.slice (some ⟨g,0,none⟩) n c),(3,64,.int .i64 ((k:Nat):Int)),(4,65,.int .i64 (((k+1):Nat):Int)),(5,66,.slice (some ⟨g,0,none⟩) n c),(6,67,.int .i64 ((k:Nat):Int)),(7,68,.int .i64 (((k+1):Nat):Int)),(8,69,.pointer (some ⟨g,0+(k+1)*2,none⟩)),(9,70,.agg (dV (SM.G Dz ys (k+1))).toArray),(10,71,.slice (some ⟨g,0,none⟩) n c),(11,72,.int .i64 ((k:Nat):Int)),(12,73,.pointer (some ⟨g,0+k*2,none⟩)),(13,74,.agg (dV (SM.G Dz ys k)).toArray),(14,75,.pointer (some ⟨g,0+k*2,none⟩)),(16,76,.pointer (some ⟨g,0+(k+1)*2,none⟩))]:=by simp [oI]
   refine pK [(0,61,.slice (some ⟨g,0,none⟩) n c),(1,62,.int .i64 ((k:Nat):Int)),(2,63,.slice (some ⟨g,0,none⟩) n c),(3,64,.int .i64 ((k:Nat):Int)),(4,65,.int .i64 (((k+1):Nat):Int)),(5,66,.slice (some ⟨g,0,none⟩) n c),(6,67,.int .i64 ((k:Nat):Int)),(7,68,.int .i64 (((k+1):Nat):Int)),(8,69,.pointer (some ⟨g,0+(k+1)*2,none⟩)),(9,70,.agg (dV (SM.G Dz ys (k+1))).toArray),(10,71,.slice (some ⟨g,0,none⟩) n c),(11,72,.int .i64 ((k:Nat):Int)),(12,73,.pointer (some ⟨g,0+k*2,none⟩)),(13,74,.agg (dV (SM.G Dz ys k)).toArray),(14,75,.pointer (some ⟨g,0+k*2,none⟩)),(16,76,.pointer (some ⟨g,0+(k+1)*2,none⟩))] (fun S w'=>World.grownBy w18 w' (some g)∧(S 15=false→w'.ownsRow base 37 2 (.slice (some ⟨g,0,none⟩) n c) n (List.flatMap dV ys))∧(S 15=true→S 9=true∧S 13=true)∧(S 15=true→S 17=false→w'.ownsRow base 37 2 (.slice (some ⟨g,0,none⟩) n c) n (List.flatMap dV (ys.set k (SM.G Dz ys (k+1)))))∧(S 15=true→S 17=true→w'.ownsRow base 37 2 (.slice (some ⟨g,0,none⟩) n c) n (List.flatMap dV ((ys.set k (SM.G Dz ys (k+1))).set (k+1) (SM.G Dz ys k))))∧(S 15=false→S 17=false)) (by kernel_rfl) (by kernel_rfl) hU20 (by simp) (⟨(aj.rfl_.d1 (a:=w18)).grown _,fun _=>hoy.kept_from aj.rfl_.d1,fun q=>Bool.noConfusion q,fun q=>Bool.noConfusion q,fun q=>Bool.noConfusion q,fun _=>rfl⟩) ?_ ?_
   ·constructor
    ·rintro S L' wS hI hM hS0 ⟨-⟩;have e0:=hI.1 0 (by simp);have hM':=hM;obtain ⟨hG,hA,hB1,hC,hD,hE⟩:=hM';exact bz (ar e0) ⟨hI.put hU20 (.head _),hM⟩
    constructor
    ·rintro S L' wS hI hM hS0 ⟨-⟩;have e13:=hI.1 13 (by simp);have hM':=hM;obtain ⟨hG,hA,hB1,hC,hD,hE⟩:=hM';exact bz (ar e13) ⟨hI.put hU20 (.tail _ (.head _)),hM⟩
    constructor
    ·rintro S L' wS hI hM hS0 ⟨-,-⟩;have e0:=hI.1 0 (by simp);have hM':=hM;obtain ⟨hG,hA,hB1,hC,hD,hE⟩:=hM';exact bz (ar e0) ⟨hI.put hU20 (.tail _ (.tail _ (.head _))),hM⟩
    constructor
    ·rintro S L' wS hI hM hS0 ⟨-,-⟩;have e13:=hI.1 13 (by simp);have hM':=hM;obtain ⟨hG,hA,hB1,hC,hD,hE⟩:=hM';exact bz (ar e13) ⟨hI.put hU20 (.tail _ (.tail _ (.tail _ (.head _)))),hM⟩
    constructor
    ·rintro S L' wS hI hM hS0 ⟨d3,-,-⟩;have e64:br L' 64=.int .i64 ((k:Nat):Int):=hI.get (i:=3) (.tail _ (.tail _ (.tail _ (.head _)))) d3;have hM':=hM;obtain ⟨hG,hA,hB1,hC,hD,hE⟩:=hM';exact bz (aI (a:=k) (b:=1) e64 rfl (by omega)) ⟨hI.put hU20 (.tail _ (.tail _ (.tail _ (.tail _ (.head _))))),hM⟩
    constructor
    ·rintro S L' wS hI hM hS0 ⟨-⟩;have e0:=hI.1 0 (by simp);have hM':=hM;obtain ⟨hG,hA,hB1,hC,hD,hE⟩:=hM';exact bz (ar e0) ⟨hI.put hU20 (.tail _ (.tail _ (.tail _ (.tail _ (.tail _ (.head _)))))),hM⟩
    constructor
    ·rintro S L' wS hI hM hS0 ⟨-⟩;have e13:=hI.1 13 (by simp);have hM':=hM;obtain ⟨hG,hA,hB1,hC,hD,hE⟩:=hM';exact bz (ar e13) ⟨hI.put hU20 (.tail _ (.tail _ (.tail _ (.tail _ (.tail _ (.tail _ (.head _))))))),hM⟩
    constructor
    ·rintro S L' wS hI hM hS0 ⟨d6,-⟩;have e67:br L' 67=.int .i64 ((k:Nat):Int):=hI.get (i:=6) (.tail _ (.tail _ (.tail _ (.tail _ (.tail _ (.tail _ (.head _))))))) d6;have hM':=hM;obtain ⟨hG,hA,hB1,hC,hD,hE⟩:=hM';exact bz (aI (a:=k) (b:=1) e67 rfl (by omega)) ⟨hI.put hU20 (.tail _ (.tail _ (.tail _ (.tail _ (.tail _ (.tail _ (.tail _ (.head _)))))))),hM⟩
    constructor
    ·rintro S L' wS hI hM hS0 ⟨d5,d7,-⟩;have e66:br L' 66=.slice (some ⟨g,0,none⟩) n c:=hI.get (i:=5) (.tail _ (.tail _ (.tail _ (.tail _ (.tail _ (.head _)))))) d5;have e68:br L' 68=.int .i64 (((k+1):Nat):Int):=hI.get (i:=7) (.tail _ (.tail _ (.tail _ (.tail _ (.tail _ (.tail _ (.tail _ (.head _)))))))) d7;have hM':=hM;obtain ⟨hG,hA,hB1,hC,hD,hE⟩:=hM';exact bz (aG (i:=(k+1)) aP e66 e68 (by omega)) ⟨hI.put hU20 (.tail _ (.tail _ (.tail _ (.tail _ (.tail _ (.tail _ (.tail _ (.tail _ (.head _))))))))),hM⟩
    constructor
    ·rintro S L' wS hI hM hS0 ⟨d8,-⟩;have e69:br L' 69=.pointer (some ⟨g,0+(k+1)*2,none⟩):=hI.get (i:=8) (.tail _ (.tail _ (.tail _ (.tail _ (.tail _ (.tail _ (.tail _ (.tail _ (.head _))))))))) d8;have hM':=hM;obtain ⟨hG,hA,hB1,hC,hD,hE⟩:=hM';exact bz (bk (cs:=dV (SM.G Dz ys (k+1))) bJ bh e69 (fC bH Dz (hA (xv (fun q=>(hB1 q).1) hS0)) (by omega))) ⟨hI.put hU20 (.tail _ (.tail _ (.tail _ (.tail _ (.tail _ (.tail _ (.tail _ (.tail _ (.tail _ (.head _)))))))))),hG,hA,fun q=>⟨rfl,(hB1 q).2⟩,hC,hD,hE⟩
    constructor
    ·rintro S L' wS hI hM hS0 ⟨-⟩;have e0:=hI.1 0 (by simp);have hM':=hM;obtain ⟨hG,hA,hB1,hC,hD,hE⟩:=hM';exact bz (ar e0) ⟨hI.put hU20 (.tail _ (.tail _ (.tail _ (.tail _ (.tail _ (.tail _ (.tail _ (.tail _ (.tail _ (.tail _ (.head _))))))))))),hM⟩
    constructor
    ·rintro S L' wS hI hM hS0 ⟨-⟩;have e13:=hI.1 13 (by simp);have hM':=hM;obtain ⟨hG,hA,hB1,hC,hD,hE⟩:=hM';exact bz (ar e13) ⟨hI.put hU20 (.tail _ (.tail _ (.tail _ (.tail _ (.tail _ (.tail _ (.tail _ (.tail _ (.tail _ (.tail _ (.tail _ (.head _)))))))))))),hM⟩
    constructor
    ·rintro S L' wS hI hM hS0 ⟨d10,d11,-⟩;have e71:br L' 71=.slice (some ⟨g,0,none⟩) n c:=hI.get (i:=10) (.tail _ (.tail _ (.tail _ (.tail _ (.tail _ (.tail _ (.tail _ (.tail _ (.tail _ (.tail _ (.head _))))))))))) d10;have e72:br L' 72=.int .i64 ((k:Nat):Int):=hI.get (i:=11) (.tail _ (.tail _ (.tail _ (.tail _ (.tail _ (.tail _ (.tail _ (.tail _ (.tail _ (.tail _ (.tail _ (.head _)))))))))))) d11;have hM':=hM;obtain ⟨hG,hA,hB1,hC,hD,hE⟩:=hM';exact bz (aG (i:=k) aP e71 e72 (by omega)) ⟨hI.put hU20 (.tail _ (.tail _ (.tail _ (.tail _ (.tail _ (.tail _ (.tail _ (.tail _ (.tail _ (.tail _ (.tail _ (.tail _ (.head _))))))))))))),hM⟩
    constructor
    ·rintro S L' wS hI hM hS0 ⟨d12,-⟩;have e73:br L' 73=.pointer (some ⟨g,0+k*2,none⟩):=hI.get (i:=12) (.tail _ (.tail _ (.tail _ (.tail _ (.tail _ (.tail _ (.tail _ (.tail _ (.tail _ (.tail _ (.tail _ (.tail _ (.head _))))))))))))) d12;have hM':=hM;obtain ⟨hG,hA,hB1,hC,hD,hE⟩:=hM';exact bz (bk (cs:=dV (SM.G Dz ys k)) bJ bh e73 (fC bH Dz (hA (xv (fun q=>(hB1 q).2) hS0)) (by omega))) ⟨hI.put hU20 (.tail _ (.tail _ (.tail _ (.tail _ (.tail _ (.tail _ (.tail _ (.tail _ (.tail _ (.tail _ (.tail _ (.tail _ (.tail _ (.head _)))))))))))))),hG,hA,fun q=>⟨(hB1 q).1,rfl⟩,hC,hD,hE⟩
    constructor
    ·rintro S L' wS hI hM hS0 ⟨d0,d1,d0,d1,-,-,-,d5,d6,d7,d8,d9,-,-,-,d13,-⟩;have e61:br L' 61=.slice (some ⟨g,0,none⟩) n c:=hI.get (i:=0) (.head _) d0;have e62:br L' 62=.int .i64 ((k:Nat):Int):=hI.get (i:=1) (.tail _ (.head _)) d1;have hM':=hM;obtain ⟨hG,hA,hB1,hC,hD,hE⟩:=hM';exact bz (aG (i:=k) aP e61 e62 (by omega)) ⟨hI.put hU20 (.tail _ (.tail _ (.tail _ (.tail _ (.tail _ (.tail _ (.tail _ (.tail _ (.tail _ (.tail _ (.tail _ (.tail _ (.tail _ (.tail _ (.head _))))))))))))))),hM⟩
    constructor
    ·rintro S L' wS hI hM hS0 ⟨d14,d9,d0,d1,-,-,-,d5,d6,d7,d8,d9,-,-,-,d13,-⟩;have e70:br L' 70=.agg (dV (SM.G Dz ys (k+1))).toArray:=hI.get (i:=9) (.tail _ (.tail _ (.tail _ (.tail _ (.tail _ (.tail _ (.tail _ (.tail _ (.tail _ (.head _)))))))))) d9;have e75:br L' 75=.pointer (some ⟨g,0+k*2,none⟩):=hI.get (i:=14) (.tail _ (.tail _ (.tail _ (.tail _ (.tail _ (.tail _ (.tail _ (.tail _ (.tail _ (.tail _ (.tail _ (.tail _ (.tail _ (.tail _ (.head _))))))))))))))) d14;have hM':=hM;obtain ⟨hG,hA,hB1,hC,hD,hE⟩:=hM';obtain ⟨w2,hR,hO,hb⟩:=gv (n:=220) (L:=L') (x:=.tmp 75) (y:=.tmp 70) (f:=dV) bH jY (i:=k) bh e75 e70 (hA hS0) (by omega);exact iG hR ⟨hI.skip (by simp),aS hG hO.grown,fun q=>Bool.noConfusion q,fun _=>⟨d9,d13⟩,fun _ _=>hb,fun _ q=>Bool.noConfusion (q.symm.trans (hE hS0)),fun q=>Bool.noConfusion q⟩
    constructor
    ·rintro S L' wS hI hM hS0 ⟨d2,d4,d0,d1,d2,d3,d4,d5,d6,d7,d8,d9,d10,d11,d12,d13,d14,d15,-⟩;have e63:br L' 63=.slice (some ⟨g,0,none⟩) n c:=hI.get (i:=2) (.tail _ (.tail _ (.head _))) d2;have e65:br L' 65=.int .i64 (((k+1):Nat):Int):=hI.get (i:=4) (.tail _ (.tail _ (.tail _ (.tail _ (.head _))))) d4;have hM':=hM;obtain ⟨hG,hA,hB1,hC,hD,hE⟩:=hM';exact bz (aG (i:=(k+1)) aP e63 e65 (by omega)) ⟨hI.put hU20 (.tail _ (.tail _ (.tail _ (.tail _ (.tail _ (.tail _ (.tail _ (.tail _ (.tail _ (.tail _ (.tail _ (.tail _ (.tail _ (.tail _ (.tail _ (.head _)))))))))))))))),hM⟩
    constructor
    ·rintro S L' wS hI hM hS0 ⟨d16,d13,d15,d0,d1,d2,d3,d4,d5,d6,d7,d8,d9,d10,d11,d12,d13,d14,d15,-⟩;have e74:br L' 74=.agg (dV (SM.G Dz ys k)).toArray:=hI.get (i:=13) (.tail _ (.tail _ (.tail _ (.tail _ (.tail _ (.tail _ (.tail _ (.tail _ (.tail _ (.tail _ (.tail _ (.tail _ (.tail _ (.head _)))))))))))))) d13;have e76:br L' 76=.pointer (some ⟨g,0+(k+1)*2,none⟩):=hI.get (i:=16) (.tail _ (.tail _ (.tail _ (.tail _ (.tail _ (.tail _ (.tail _ (.tail _ (.tail _ (.tail _ (.tail _ (.tail _ (.tail _ (.tail _ (.tail _ (.head _)))))))))))))))) d16;have hM':=hM;obtain ⟨hG,hA,hB1,hC,hD,hE⟩:=hM';obtain ⟨w2,hR,hO,hb⟩:=gv (n:=220) (L:=L') (x:=.tmp 76) (y:=.tmp 74) (f:=dV) bH jY (i:=(k+1)) bh e76 e74 (hC d15 hS0) (by omega);exact iG hR ⟨hI.skip (by simp),aS hG hO.grown,fun q=>Bool.noConfusion (q.symm.trans d15),hB1,fun _ q=>Bool.noConfusion q,fun _ _=>hb,fun q=>Bool.noConfusion (q.symm.trans d15)⟩
    exact trivial
   ·intro w21 hM;obtain ⟨hG,hA,hB1,hC,hD,hE⟩:=hM;have hS9:=hD rfl rfl;change World.ownsRow _ _ _ _ _ _ (List.flatMap dV (SM.swp Dz ys k (k+1))) at hS9;refine aL (ae (aa (mvi rfl (ab (aI (b:=1) rfl rfl (by omega)) (asi rfl (ah ?_))))));refine aO ((k+1,SM.swp Dz ys k (k+1))) ⟨(by first | rfl | (refine aM ?_;omega)),trivial⟩ (by (iterate 46 refine aB rfl ?_);exact aK) ⟨?_,?_⟩
    ·exact ⟨by omega,by omega,hS9,aS hG0 hG,hP.trans (.swap (by omega) (by omega) (by omega)),SM.mvl_succ hR hka (by omega)⟩
    ·show i-(k+1)<i-k;omega
  refine aZ (aC (aC (aT (ae (aA (aF (kp rfl ?_)))))));obtain rfl:k=i-1:=by omega
  exact ⟨ys,hoy,hG0,hP,SM.mrg_first iK (by omega) s2 ⟨h3,by omega⟩ hlo (by rw [show i=j by omega];exact hhi) hR⟩
 refine au (ae (ag (ag (aa (mvi rfl (mvi rfl (ab (cg rfl rfl (by omega)) (ab (cy rfl rfl) (ah (ae (K8 rfl (fun Q22=>?_) (fun Q22=>?_))))))))))))
 ·refine ag (aa (mvi rfl (asi rfl (ah (ae (ag (aa (mvi rfl (asi rfl (ah (ae (ag (az (bg (G:=Nat×Nat) [16,83,84,85,86,87,88,89,90,91,92,93,94,95,96,97,98,99,100,101,102,103,104,105,106] (fun (i,j)=>[(14,.int .i64 (i:Nat)),(15,.int .i64 (j:Nat))]) (fun (i,j) w'=>a≤i∧i≤j∧j≤m∧(i=a∨¬ ltD (SM.G Dz xs m) (SM.G Dz xs (i-1)))∧(j=m∨ltD (SM.G Dz xs m) (SM.G Dz xs j))∧w'.ownsRow base 37 2 (.slice (some ⟨g,0,none⟩) n c) n (List.flatMap dV xs)∧w.grownBy w' (some g)) (fun (i,j)=>j-i) ((a,m)) ⟨rfl,rfl,trivial⟩ ?_ ?_))))))))))))))
  ·exact ⟨Nat.le_refl _,by omega,Nat.le_refl _,.inl rfl,.inl rfl,ho,World.grownBy.refl _ _⟩
  rintro ⟨i,j⟩ ρ23 w23 ⟨h3,h4,h5,hlo,hhi,hoy,hG0⟩;refine ag (ag (aa (mvi rfl (mvi rfl (ab (aY rfl rfl) (ah (ae (K8 rfl (fun Q24=>?_) (fun Q24=>?_)))))))))
  ·refine au (ae (az (ag (aa (mvi rfl (mvi rfl (ab (aI rfl rfl (by omega)) ?_)))))));obtain ⟨h,hh⟩:∃ h,h=(i+j)/2 ^ 1:=⟨_,rfl⟩;refine ab (fB dZ fG rfl (by omega)) (ab (fa (b:=1) rfl rfl (by decide)) (ab (eN gP eZ rfl (by omega)) (dx (t:=91) (v:=.int _ _) (v':=.int .i64 (h:Nat)) rfl (by rw [hh]) ?_)));refine asi rfl (ah (ae (ag ?_)));apply bI 12 [(92,eqp _),(93,eqp _),(94,eqp _),(95,eqp _),(96,eqp (.agg (dV (SM.G Dz xs m)).toArray)),(97,eqp _),(98,eqp _),(99,eqp _),(100,eqp (.agg (dV (SM.G Dz xs h)).toArray)),(101,eqp _),(102,eqp _),(103,eqp _)] (by repeat first | exact bW | refine bT ?_ | refine bG ?_) (by kernel_rfl) (by kernel_rfl) ⟨af _,af _,af _,af _,af _,af _,af _,af _,af _,af _,af _,af _,trivial⟩
   case hop=>
    constructor
    ·rintro-w26 D26;exact ai (ar (v:=.func _ _ _) rfl) rfl
    constructor
    ·rintro-w27 D27;exact ai (ar (v:=.slice _ _ _) rfl) rfl
    constructor
    ·rintro-w28 D28;exact ai (ar (v:=.int _ _) rfl) rfl
    constructor
    ·rintro-w29 D29;rintro _ rfl _ rfl;exact ai (aG aP rfl rfl (by omega)) rfl
    constructor
    ·rintro-w30 D30;rintro _ rfl;exact ai (bk (cs:=dV (SM.G Dz xs m)) bJ bh rfl (fC bH Dz (hoy.kept_from D30) (by omega))) rfl
    constructor
    ·rintro-w31 D31;exact ai (ar (v:=.slice _ _ _) rfl) rfl
    constructor
    ·rintro-w32 D32;exact ai (ar (v:=.int _ _) rfl) rfl
    constructor
    ·rintro-w33 D33;rintro _ rfl _ rfl;exact ai (aG aP rfl rfl (by omega)) rfl
    constructor
    ·rintro-w34 D34;rintro _ rfl;exact ai (bk (cs:=dV (SM.G Dz xs h)) bJ bh rfl (fC bH Dz (hoy.kept_from D34) (by omega))) rfl
    constructor
    ·rintro-w35 D35;rintro _ rfl v35_96 rfl v35_100 rfl;exact sR (caps:=[]) rfl kY ((rX (SM.G Dz xs m) (SM.G Dz xs h) _).mono fun v w2 h=>⟨h.2,h.1⟩)
    constructor
    ·rintro-w36 D36;rintro _ rfl;exact ai (aY rfl rfl) rfl
    constructor
    ·rintro-w37 D37;rintro _ rfl;exact ai (ff rfl) rfl
    exact trivial
   case hend=>
    intro w38 D38;rintro _ rfl _ rfl _ rfl _ rfl v96 rfl _ rfl _ rfl _ rfl v100 rfl _ rfl _ rfl _ rfl;show St ..;replace hG0:=aS hG0 (D38.grown _);replace hoy:=hoy.kept_from D38;refine ah (ae (av rfl (fun Q39=>?_) (fun Q39=>?_)))
    ·with_reducible (replace Q39:=eo Q39;replace Q39:=dF_ Q39)
     have hnl:¬ ltD (SM.G Dz xs m) (SM.G Dz xs h):=fun h9=>by
      have h8:=ra.2 h9;exact absurd h8 (by omega)
     refine aa (mvi rfl (ab (aI (b:=1) rfl rfl (by omega)) (asi rfl (ah (aL ?_)))));refine aO ((h+1,j)) ⟨(by first | rfl | (refine aM ?_;omega)),(by first | rfl | (refine aM ?_;omega)),trivial⟩ (by (iterate 53 refine aB rfl ?_);exact aK) ⟨?_,?_⟩
     ·exact ⟨by omega,by omega,h5,.inr (by rw [show h+1-1=h by omega];exact hnl),hhi,hoy,hG0⟩
     ·show j-(h+1)<j-i;omega
    with_reducible (replace Q39:=ep Q39;replace Q39:=dT_ Q39)
    have hlt:=ra.1 (show jG (SM.G Dz xs m).1 (SM.G Dz xs h).1<0 by simpa using Q39);refine aa (mvi rfl (asi rfl (ah (aL ?_))));refine aO ((i,h)) ⟨(by first | rfl | (refine aM ?_;omega)),(by first | rfl | (refine aM ?_;omega)),trivial⟩ (by (iterate 52 refine aB rfl ?_);exact aK) ⟨?_,?_⟩
    ·exact ⟨h3,by omega,by omega,hlo,.inr hlt,hoy,hG0⟩
    ·show h-i<j-i;omega
  refine aZ (aC (aC (aT (ae (ag (ag (aa (mvi rfl (asi rfl (ah (ae (az (bg (G:=Nat×List Dc) [108,109,110,111,112,113,114,115,116,117,118,119,120,121,122,123,124,125,126,127,128] (fun (k,_)=>[(17,.int .i64 (k:Nat))]) (fun (k,ys) w'=>i≤k∧k≤m∧w'.ownsRow base 37 2 (.slice (some ⟨g,0,none⟩) n c) n (List.flatMap dV ys)∧w.grownBy w' (some g)∧SM.PW Dz a b xs ys∧∀ t,SM.G Dz ys t=SM.mvr k m (SM.G Dz xs) t) (fun (k,_)=>k-i) ((m,xs)) ⟨rfl,trivial⟩ ?_ ?_)))))))))))))
  ·exact ⟨by omega,Nat.le_refl _,hoy,hG0,.rfl_,fun t=>(SM.mvr_zero _ _ t).symm⟩
  rintro ⟨k,ys⟩ ρ40 w40 ⟨hki,hkm,hoy,hG0,hP,hR⟩;have hyl:=fZ bH hoy;refine ag (ag (aa (mvi rfl (mvi rfl (ab (bX rfl rfl) (ah (ae (K8 rfl (fun Q41=>?_) (fun Q41=>?_)))))))))
  ·refine au (ae (ag (az ?_)));have hU42:oI [(0,113,.slice (some ⟨g,0,none⟩) n c),(1,114,.int .i64 ((k:Nat):Int)),(2,115,.slice (some ⟨g,0,none⟩) n c),(3,116,.int .i64 ((k:Nat):Int)),(4,117,.int .i64 (((k-1):Nat):Int)),(5,118,.slice (some ⟨g,0,none⟩) n c),(6,119,.int .i64 ((k:Nat):Int)),(7,120,.int .i64 (((k-1):Nat):Int)),(8,121,.pointer (some ⟨g,0+(k-1)*2,none⟩)),(9,122,.agg (dV (SM.G Dz ys (k-1))).toArray),(10,123,.slice (some ⟨g,0,none⟩) n c),(11,124,.int .i64 ((k:Nat):Int)),(12,125,.pointer (some ⟨g,0+k*2,none⟩)),(13,126,.agg (dV (SM.G Dz ys k)).toArray),(14,127,.pointer (some ⟨g,0+k*2,none⟩)),(16,128,.pointer (some ⟨g,0+(k-1)*2,none⟩))]:=by simp [oI]
   refine pK [(0,113,.slice (some ⟨g,0,none⟩) n c),(1,114,.int .i64 ((k:Nat):Int)),(2,115,.slice (some ⟨g,0,none⟩) n c),(3,116,.int .i64 ((k:Nat):Int)),(4,117,.int .i64 (((k-1):Nat):Int)),(5,118,.slice (some ⟨g,0,none⟩) n c),(6,119,.int .i64 ((k:Nat):Int)),(7,120,.int .i64 (((k-1):Nat):Int)),(8,121,.pointer (some ⟨g,0+(k-1)*2,none⟩)),(9,122,.agg (dV (SM.G Dz ys (k-1))).toArray),(10,123,.slice (some ⟨g,0,none⟩) n c),(11,124,.int .i64 ((k:Nat):Int)),(12,125,.pointer (some ⟨g,0+k*2,none⟩)),(13,126,.agg (dV (SM.G Dz ys k)).toArray),(14,127,.pointer (some ⟨g,0+k*2,none⟩)),(16,128,.pointer (some ⟨g,0+(k-1)*2,none⟩))] (fun S w'=>World.grownBy w40 w' (some g)∧(S 15=false→w'.ownsRow base 37 2 (.slice (some ⟨g,0,none⟩) n c) n (List.flatMap dV ys))∧(S 15=true→S 9=true∧S 13=true)∧(S 15=true→S 17=false→w'.ownsRow base 37 2 (.slice (some ⟨g,0,none⟩) n c) n (List.flatMap dV (ys.set k (SM.G Dz ys (k-1)))))∧(S 15=true→S 17=true→w'.ownsRow base 37 2 (.slice (some ⟨g,0,none⟩) n c) n (List.flatMap dV ((ys.set k (SM.G Dz ys (k-1))).set (k-1) (SM.G Dz ys k))))∧(S 15=false→S 17=false)) (by kernel_rfl) (by kernel_rfl) hU42 (by simp) (⟨(aj.rfl_.d1 (a:=w40)).grown _,fun _=>hoy.kept_from aj.rfl_.d1,fun q=>Bool.noConfusion q,fun q=>Bool.noConfusion q,fun q=>Bool.noConfusion q,fun _=>rfl⟩) ?_ ?_
   ·constructor
    ·rintro S L' wS hI hM hS0 ⟨-⟩;have e0:=hI.1 0 (by simp);have hM':=hM;obtain ⟨hG,hA,hB1,hC,hD,hE⟩:=hM';exact bz (ar e0) ⟨hI.put hU42 (.head _),hM⟩
    constructor
    ·rintro S L' wS hI hM hS0 ⟨-⟩;have e17:=hI.1 17 (by simp);have hM':=hM;obtain ⟨hG,hA,hB1,hC,hD,hE⟩:=hM';exact bz (ar e17) ⟨hI.put hU42 (.tail _ (.head _)),hM⟩
    constructor
    ·rintro S L' wS hI hM hS0 ⟨-,-⟩;have e0:=hI.1 0 (by simp);have hM':=hM;obtain ⟨hG,hA,hB1,hC,hD,hE⟩:=hM';exact bz (ar e0) ⟨hI.put hU42 (.tail _ (.tail _ (.head _))),hM⟩
    constructor
    ·rintro S L' wS hI hM hS0 ⟨-,-⟩;have e17:=hI.1 17 (by simp);have hM':=hM;obtain ⟨hG,hA,hB1,hC,hD,hE⟩:=hM';exact bz (ar e17) ⟨hI.put hU42 (.tail _ (.tail _ (.tail _ (.head _)))),hM⟩
    constructor
    ·rintro S L' wS hI hM hS0 ⟨d3,-,-⟩;have e116:br L' 116=.int .i64 ((k:Nat):Int):=hI.get (i:=3) (.tail _ (.tail _ (.tail _ (.head _)))) d3;have hM':=hM;obtain ⟨hG,hA,hB1,hC,hD,hE⟩:=hM';exact bz (cg (a:=k) (b:=1) e116 rfl (by omega)) ⟨hI.put hU42 (.tail _ (.tail _ (.tail _ (.tail _ (.head _))))),hM⟩
    constructor
    ·rintro S L' wS hI hM hS0 ⟨-⟩;have e0:=hI.1 0 (by simp);have hM':=hM;obtain ⟨hG,hA,hB1,hC,hD,hE⟩:=hM';exact bz (ar e0) ⟨hI.put hU42 (.tail _ (.tail _ (.tail _ (.tail _ (.tail _ (.head _)))))),hM⟩
    constructor
    ·rintro S L' wS hI hM hS0 ⟨-⟩;have e17:=hI.1 17 (by simp);have hM':=hM;obtain ⟨hG,hA,hB1,hC,hD,hE⟩:=hM';exact bz (ar e17) ⟨hI.put hU42 (.tail _ (.tail _ (.tail _ (.tail _ (.tail _ (.tail _ (.head _))))))),hM⟩
    constructor
    ·rintro S L' wS hI hM hS0 ⟨d6,-⟩;have e119:br L' 119=.int .i64 ((k:Nat):Int):=hI.get (i:=6) (.tail _ (.tail _ (.tail _ (.tail _ (.tail _ (.tail _ (.head _))))))) d6;have hM':=hM;obtain ⟨hG,hA,hB1,hC,hD,hE⟩:=hM';exact bz (cg (a:=k) (b:=1) e119 rfl (by omega)) ⟨hI.put hU42 (.tail _ (.tail _ (.tail _ (.tail _ (.tail _ (.tail _ (.tail _ (.head _)))))))),hM⟩
    constructor
    ·rintro S L' wS hI hM hS0 ⟨d5,d7,-⟩;have e118:br L' 118=.slice (some ⟨g,0,none⟩) n c:=hI.get (i:=5) (.tail _ (.tail _ (.tail _ (.tail _ (.tail _ (.head _)))))) d5;have e120:br L' 120=.int .i64 (((k-1):Nat):Int):=hI.get (i:=7) (.tail _ (.tail _ (.tail _ (.tail _ (.tail _ (.tail _ (.tail _ (.head _)))))))) d7;have hM':=hM;obtain ⟨hG,hA,hB1,hC,hD,hE⟩:=hM';exact bz (aG (i:=(k-1)) aP e118 e120 (by omega)) ⟨hI.put hU42 (.tail _ (.tail _ (.tail _ (.tail _ (.tail _ (.tail _ (.tail _ (.tail _ (.head _))))))))),hM⟩
    constructor
    ·rintro S L' wS hI hM hS0 ⟨d8,-⟩;have e121:br L' 121=.pointer (some ⟨g,0+(k-1)*2,none⟩):=hI.get (i:=8) (.tail _ (.tail _ (.tail _ (.tail _ (.tail _ (.tail _ (.tail _ (.tail _ (.head _))))))))) d8;have hM':=hM;obtain ⟨hG,hA,hB1,hC,hD,hE⟩:=hM';exact bz (bk (cs:=dV (SM.G Dz ys (k-1))) bJ bh e121 (fC bH Dz (hA (xv (fun q=>(hB1 q).1) hS0)) (by omega))) ⟨hI.put hU42 (.tail _ (.tail _ (.tail _ (.tail _ (.tail _ (.tail _ (.tail _ (.tail _ (.tail _ (.head _)))))))))),hG,hA,fun q=>⟨rfl,(hB1 q).2⟩,hC,hD,hE⟩
    constructor
    ·rintro S L' wS hI hM hS0 ⟨-⟩;have e0:=hI.1 0 (by simp);have hM':=hM;obtain ⟨hG,hA,hB1,hC,hD,hE⟩:=hM';exact bz (ar e0) ⟨hI.put hU42 (.tail _ (.tail _ (.tail _ (.tail _ (.tail _ (.tail _ (.tail _ (.tail _ (.tail _ (.tail _ (.head _))))))))))),hM⟩
    constructor
    ·rintro S L' wS hI hM hS0 ⟨-⟩;have e17:=hI.1 17 (by simp);have hM':=hM;obtain ⟨hG,hA,hB1,hC,hD,hE⟩:=hM';exact bz (ar e17) ⟨hI.put hU42 (.tail _ (.tail _ (.tail _ (.tail _ (.tail _ (.tail _ (.tail _ (.tail _ (.tail _ (.tail _ (.tail _ (.head _)))))))))))),hM⟩
    constructor
    ·rintro S L' wS hI hM hS0 ⟨d10,d11,-⟩;have e123:br L' 123=.slice (some ⟨g,0,none⟩) n c:=hI.get (i:=10) (.tail _ (.tail _ (.tail _ (.tail _ (.tail _ (.tail _ (.tail _ (.tail _ (.tail _ (.tail _ (.head _))))))))))) d10;have e124:br L' 124=.int .i64 ((k:Nat):Int):=hI.get (i:=11) (.tail _ (.tail _ (.tail _ (.tail _ (.tail _ (.tail _ (.tail _ (.tail _ (.tail _ (.tail _ (.tail _ (.head _)))))))))))) d11;have hM':=hM;obtain ⟨hG,hA,hB1,hC,hD,hE⟩:=hM';exact bz (aG (i:=k) aP e123 e124 (by omega)) ⟨hI.put hU42 (.tail _ (.tail _ (.tail _ (.tail _ (.tail _ (.tail _ (.tail _ (.tail _ (.tail _ (.tail _ (.tail _ (.tail _ (.head _))))))))))))),hM⟩
    constructor
    ·rintro S L' wS hI hM hS0 ⟨d12,-⟩;have e125:br L' 125=.pointer (some ⟨g,0+k*2,none⟩):=hI.get (i:=12) (.tail _ (.tail _ (.tail _ (.tail _ (.tail _ (.tail _ (.tail _ (.tail _ (.tail _ (.tail _ (.tail _ (.tail _ (.head _))))))))))))) d12;have hM':=hM;obtain ⟨hG,hA,hB1,hC,hD,hE⟩:=hM';exact bz (bk (cs:=dV (SM.G Dz ys k)) bJ bh e125 (fC bH Dz (hA (xv (fun q=>(hB1 q).2) hS0)) (by omega))) ⟨hI.put hU42 (.tail _ (.tail _ (.tail _ (.tail _ (.tail _ (.tail _ (.tail _ (.tail _ (.tail _ (.tail _ (.tail _ (.tail _ (.tail _ (.head _)))))))))))))),hG,hA,fun q=>⟨(hB1 q).1,rfl⟩,hC,hD,hE⟩
    constructor
    ·rintro S L' wS hI hM hS0 ⟨d0,d1,d0,d1,-,-,-,d5,d6,d7,d8,d9,-,-,-,d13,-⟩;have e113:br L' 113=.slice (some ⟨g,0,none⟩) n c:=hI.get (i:=0) (.head _) d0;have e114:br L' 114=.int .i64 ((k:Nat):Int):=hI.get (i:=1) (.tail _ (.head _)) d1;have hM':=hM;obtain ⟨hG,hA,hB1,hC,hD,hE⟩:=hM';exact bz (aG (i:=k) aP e113 e114 (by omega)) ⟨hI.put hU42 (.tail _ (.tail _ (.tail _ (.tail _ (.tail _ (.tail _ (.tail _ (.tail _ (.tail _ (.tail _ (.tail _ (.tail _ (.tail _ (.tail _ (.head _))))))))))))))),hM⟩
    constructor
    ·rintro S L' wS hI hM hS0 ⟨d14,d9,d0,d1,-,-,-,d5,d6,d7,d8,d9,-,-,-,d13,-⟩;have e122:br L' 122=.agg (dV (SM.G Dz ys (k-1))).toArray:=hI.get (i:=9) (.tail _ (.tail _ (.tail _ (.tail _ (.tail _ (.tail _ (.tail _ (.tail _ (.tail _ (.head _)))))))))) d9;have e127:br L' 127=.pointer (some ⟨g,0+k*2,none⟩):=hI.get (i:=14) (.tail _ (.tail _ (.tail _ (.tail _ (.tail _ (.tail _ (.tail _ (.tail _ (.tail _ (.tail _ (.tail _ (.tail _ (.tail _ (.tail _ (.head _))))))))))))))) d14;have hM':=hM;obtain ⟨hG,hA,hB1,hC,hD,hE⟩:=hM';obtain ⟨w2,hR,hO,hb⟩:=gv (n:=220) (L:=L') (x:=.tmp 127) (y:=.tmp 122) (f:=dV) bH jY (i:=k) bh e127 e122 (hA hS0) (by omega);exact iG hR ⟨hI.skip (by simp),aS hG hO.grown,fun q=>Bool.noConfusion q,fun _=>⟨d9,d13⟩,fun _ _=>hb,fun _ q=>Bool.noConfusion (q.symm.trans (hE hS0)),fun q=>Bool.noConfusion q⟩
    constructor
    ·rintro S L' wS hI hM hS0 ⟨d2,d4,d0,d1,d2,d3,d4,d5,d6,d7,d8,d9,d10,d11,d12,d13,d14,d15,-⟩;have e115:br L' 115=.slice (some ⟨g,0,none⟩) n c:=hI.get (i:=2) (.tail _ (.tail _ (.head _))) d2;have e117:br L' 117=.int .i64 (((k-1):Nat):Int):=hI.get (i:=4) (.tail _ (.tail _ (.tail _ (.tail _ (.head _))))) d4;have hM':=hM;obtain ⟨hG,hA,hB1,hC,hD,hE⟩:=hM';exact bz (aG (i:=(k-1)) aP e115 e117 (by omega)) ⟨hI.put hU42 (.tail _ (.tail _ (.tail _ (.tail _ (.tail _ (.tail _ (.tail _ (.tail _ (.tail _ (.tail _ (.tail _ (.tail _ (.tail _ (.tail _ (.tail _ (.head _)))))))))))))))),hM⟩
    constructor
    ·rintro S L' wS hI hM hS0 ⟨d16,d13,d15,d0,d1,d2,d3,d4,d5,d6,d7,d8,d9,d10,d11,d12,d13,d14,d15,-⟩;have e126:br L' 126=.agg (dV (SM.G Dz ys k)).toArray:=hI.get (i:=13) (.tail _ (.tail _ (.tail _ (.tail _ (.tail _ (.tail _ (.tail _ (.tail _ (.tail _ (.tail _ (.tail _ (.tail _ (.tail _ (.head _)))))))))))))) d13;have e128:br L' 128=.pointer (some ⟨g,0+(k-1)*2,none⟩):=hI.get (i:=16) (.tail _ (.tail _ (.tail _ (.tail _ (.tail _ (.tail _ (.tail _ (.tail _ (.tail _ (.tail _ (.tail _ (.tail _ (.tail _ (.tail _ (.tail _ (.head _)))))))))))))))) d16;have hM':=hM;obtain ⟨hG,hA,hB1,hC,hD,hE⟩:=hM';obtain ⟨w2,hR,hO,hb⟩:=gv (n:=220) (L:=L') (x:=.tmp 128) (y:=.tmp 126) (f:=dV) bH jY (i:=(k-1)) bh e128 e126 (hC d15 hS0) (by omega);exact iG hR ⟨hI.skip (by simp),aS hG hO.grown,fun q=>Bool.noConfusion (q.symm.trans d15),hB1,fun _ q=>Bool.noConfusion q,fun _ _=>hb,fun q=>Bool.noConfusion (q.symm.trans d15)⟩
    exact trivial
   ·intro w43 hM;obtain ⟨hG,hA,hB1,hC,hD,hE⟩:=hM;have hS9:=hD rfl rfl;change World.ownsRow _ _ _ _ _ _ (List.flatMap dV (SM.swp Dz ys k (k-1))) at hS9;refine aL (ae (aa (mvi rfl (ab (cg (b:=1) rfl rfl (by omega)) (asi rfl (ah ?_))))));refine aO ((k-1,SM.swp Dz ys k (k-1))) ⟨(by first | rfl | (refine aM ?_;omega)),trivial⟩ (by (iterate 44 refine aB rfl ?_);exact aK) ⟨?_,?_⟩
    ·exact ⟨by omega,by omega,hS9,aS hG0 hG,hP.trans (.swap (by omega) (by omega) (by omega)),SM.mvr_succ hR (by omega) hkm (by omega)⟩
    ·show k-1-i<k-i;omega
  refine aZ (aC (aC (aT (ae (aA (aF (kp rfl ?_)))))));obtain rfl:k=i:=by omega
  exact ⟨ys,hoy,hG0,hP,SM.mrg_last iK (by omega) s1 ⟨h3,by omega⟩ hlo (by rw [show k=j by omega];exact hhi) hR⟩
 refine au (ae (ag (aa (mvi rfl (mvi rfl (ab (aI rfl rfl (by omega)) ?_))))));obtain ⟨mid,hmid⟩:∃ mid,mid=(a+b)/2 ^ 1:=⟨_,rfl⟩;refine ab (fB dZ fG rfl (by omega)) (ab (fa (b:=1) rfl rfl (by decide)) (ab (eN gP eZ rfl (by omega)) (dx (t:=134) (v:=.int _ _) (v':=.int .i64 (mid:Nat)) rfl (by rw [hmid]) ?_)));refine asi rfl (ah (ae (ag (aa (mvi rfl (mvi rfl (ab (aI rfl rfl (by omega)) (asi rfl (ah (ae (ag (aa (asi rfl (asi rfl ?_))))))))))))));refine ah (ae (eY (G:=Nat×Nat) [138,139,140,141,142,143,144,145,146] (fun (lo,hi)=>[(20,.int .i64 (lo:Nat)),(21,.int .i64 (hi:Nat))]) (fun (lo,hi) w'=>((lo=a∧hi=m∧m≤mid)∨(lo+b=mid+m∧hi=mid∧mid<m))∧w=w') ?_ ?_))
 ·refine ag (aa (mvi rfl (mvi rfl (ab (bX rfl rfl) (ah (ae (K8 rfl (fun Q44=>?_) (fun Q44=>?_))))))))
  ·refine ag (aa (mvi rfl (mvi rfl (ab (cg rfl rfl (by omega)) (asi rfl (ah (ae (aa (mvi rfl (asi rfl (ah ?_)))))))))));refine aO ((mid+m-b,mid)) ⟨(by first | rfl | (refine aM ?_;omega)),(by first | rfl | (refine aM ?_;omega)),trivial⟩ (by (iterate 9 refine aB rfl ?_);exact aK) ?_;exact ⟨.inr ⟨by omega,rfl,by omega⟩,rfl⟩
  refine ag (aa (mvi rfl (asi rfl (ah (ae (aa (mvi rfl (asi rfl (ah ?_)))))))));refine aO ((a,m)) ⟨(by first | rfl | (refine aM ?_;omega)),(by first | rfl | (refine aM ?_;omega)),trivial⟩ (by (iterate 7 refine aB rfl ?_);exact aK) ?_;exact ⟨.inl ⟨rfl,rfl,by omega⟩,rfl⟩
 rintro ⟨lo,hi⟩ ρ45 w45 ⟨hlh,rfl⟩;refine ag (aa (mvi rfl (ab (cg (b:=1) rfl rfl (by omega)) (asi rfl (ah (ae (ag (az (bg (G:=Nat×Nat) [23,149,150,151,152,153,154,155,156,157,158,159,160,161,162,163,164,165,166,167,168,169,170,171,172,173,174] (fun (s,r)=>[(20,.int .i64 (s:Nat)),(21,.int .i64 (r:Nat))]) (fun (s,r) w'=>lo≤s∧s≤r∧r≤hi∧(s=lo∨¬ ltD (SM.G Dz xs (mid+m-1-(s-1))) (SM.G Dz xs (s-1)))∧(r=hi∨ltD (SM.G Dz xs (mid+m-1-r)) (SM.G Dz xs r))∧w'.ownsRow base 37 2 (.slice (some ⟨g,0,none⟩) n c) n (List.flatMap dV xs)∧w.grownBy w' (some g)) (fun (s,r)=>r-s) ((lo,hi)) ⟨rfl,rfl,trivial⟩ ?_ ?_)))))))))
 ·exact ⟨Nat.le_refl _,by omega,Nat.le_refl _,.inl rfl,.inl rfl,ho,World.grownBy.refl _ _⟩
 rintro ⟨s,r⟩ ρ46 w46 ⟨h3,h4,h5,hlo,hhi,hoy,hG0⟩;refine ag (ag (aa (mvi rfl (mvi rfl (ab (aY rfl rfl) (ah (ae (K8 rfl (fun Q47=>?_) (fun Q47=>?_)))))))))
 ·refine au (ae (az (ag (aa (mvi rfl (mvi rfl (ab (aI rfl rfl (by omega)) ?_)))))));obtain ⟨h,hh⟩:∃ h,h=(s+r)/2 ^ 1:=⟨_,rfl⟩;refine ab (fB dZ fG rfl (by omega)) (ab (fa (b:=1) rfl rfl (by decide)) (ab (eN gP eZ rfl (by omega)) (dx (t:=157) (v:=.int _ _) (v':=.int .i64 (h:Nat)) rfl (by rw [hh]) ?_)));refine asi rfl (ah (ae (ag ?_)));apply bI 14 [(158,eqp _),(159,eqp _),(160,eqp _),(161,eqp _),(162,eqp _),(163,eqp _),(164,eqp (.agg (dV (SM.G Dz xs (mid+m-1-h))).toArray)),(165,eqp _),(166,eqp _),(167,eqp _),(168,eqp (.agg (dV (SM.G Dz xs h)).toArray)),(169,eqp _),(170,eqp _),(171,eqp _)] (by repeat first | exact bW | refine bT ?_ | refine bG ?_) (by kernel_rfl) (by kernel_rfl) ⟨af _,af _,af _,af _,af _,af _,af _,af _,af _,af _,af _,af _,af _,af _,trivial⟩
  case hop=>
   constructor
   ·rintro-w49 D49;exact ai (ar (v:=.func _ _ _) rfl) rfl
   constructor
   ·rintro-w50 D50;exact ai (ar (v:=.slice _ _ _) rfl) rfl
   constructor
   ·rintro-w51 D51;exact ai (ar (v:=.int _ _) rfl) rfl
   constructor
   ·rintro-w52 D52;exact ai (ar (v:=.int _ _) rfl) rfl
   constructor
   ·rintro-w53 D53;rintro _ rfl _ rfl;exact ai (cg rfl rfl (by omega)) rfl
   constructor
   ·rintro-w54 D54;rintro _ rfl _ rfl;exact ai (aG aP rfl rfl (by omega)) rfl
   constructor
   ·rintro-w55 D55;rintro _ rfl;exact ai (bk (cs:=dV (SM.G Dz xs (mid+m-1-h))) bJ bh rfl (fC bH Dz (hoy.kept_from D55) (by omega))) rfl
   constructor
   ·rintro-w56 D56;exact ai (ar (v:=.slice _ _ _) rfl) rfl
   constructor
   ·rintro-w57 D57;exact ai (ar (v:=.int _ _) rfl) rfl
   constructor
   ·rintro-w58 D58;rintro _ rfl _ rfl;exact ai (aG aP rfl rfl (by omega)) rfl
   constructor
   ·rintro-w59 D59;rintro _ rfl;exact ai (bk (cs:=dV (SM.G Dz xs h)) bJ bh rfl (fC bH Dz (hoy.kept_from D59) (by omega))) rfl
   constructor
   ·rintro-w60 D60;rintro _ rfl v60_164 rfl v60_168 rfl;exact sR (caps:=[]) rfl kY ((rX (SM.G Dz xs (mid+m-1-h)) (SM.G Dz xs h) _).mono fun v w2 h=>⟨h.2,h.1⟩)
   constructor
   ·rintro-w61 D61;rintro _ rfl;exact ai (aY rfl rfl) rfl
   constructor
   ·rintro-w62 D62;rintro _ rfl;exact ai (ff rfl) rfl
   exact trivial
  case hend=>
   intro w63 D63;rintro _ rfl _ rfl _ rfl _ rfl _ rfl _ rfl v164 rfl _ rfl _ rfl _ rfl v168 rfl _ rfl _ rfl _ rfl;show St ..;replace hG0:=aS hG0 (D63.grown _);replace hoy:=hoy.kept_from D63;refine ah (ae (av rfl (fun Q64=>?_) (fun Q64=>?_)))
   ·with_reducible (replace Q64:=eo Q64;replace Q64:=dF_ Q64)
    have hnl:¬ ltD (SM.G Dz xs (mid+m-1-h)) (SM.G Dz xs h):=fun h9=>by
     have h8:=ra.2 h9;exact absurd h8 (by omega)
    refine aa (mvi rfl (ab (aI (b:=1) rfl rfl (by omega)) (asi rfl (ah (aL ?_)))));refine aO ((h+1,r)) ⟨(by first | rfl | (refine aM ?_;omega)),(by first | rfl | (refine aM ?_;omega)),trivial⟩ (by (iterate 57 refine aB rfl ?_);exact aK) ⟨?_,?_⟩
    ·exact ⟨by omega,by omega,h5,.inr (by rw [show h+1-1=h by omega];exact hnl),hhi,hoy,hG0⟩
    ·show r-(h+1)<r-s;omega
   with_reducible (replace Q64:=ep Q64;replace Q64:=dT_ Q64)
   have hlt:=ra.1 (show jG (SM.G Dz xs (mid+m-1-h)).1 (SM.G Dz xs h).1<0 by simpa using Q64);refine aa (mvi rfl (asi rfl (ah (aL ?_))));refine aO ((s,h)) ⟨(by first | rfl | (refine aM ?_;omega)),(by first | rfl | (refine aM ?_;omega)),trivial⟩ (by (iterate 56 refine aB rfl ?_);exact aK) ⟨?_,?_⟩
   ·exact ⟨h3,by omega,by omega,hlo,.inr hlt,hoy,hG0⟩
   ·show h-s<r-s;omega
 obtain rfl:s=r:=by omega
 have hcut:SM.Cut Dz ltD a m b mid s xs:=by
  refine ⟨⟨by omega,by omega,by omega⟩,⟨by omega,by omega⟩,?_,?_⟩
  ·rcases hlo with e | e
   ·exact .inl (by omega)
   ·by_cases e2:s=a
    ·exact .inl (.inl e2)
    ·exact .inr ⟨by rw [show mid+m-s=mid+m-1-(s-1) by omega];exact e,by omega⟩
  ·rcases hhi with e | e
   ·exact .inl (by omega)
   ·by_cases e2:s=m∨s=mid
    ·exact .inl e2
    ·exact .inr ⟨e,by omega,by omega⟩
 refine aZ (aC (aC (aT (ae (ag (aa (mvi rfl (mvi rfl (ab (cg rfl rfl (by omega)) (asi rfl (ah (ae (eY (G:=List Dc) [178,179,180,181,182,183,184,185,186,187,188,189,190,191] (fun _=>[]) (fun ys w'=>w'.ownsRow base 37 2 (.slice (some ⟨g,0,none⟩) n c) n (List.flatMap dV ys)∧w.grownBy w' (some g)∧SM.PW Dz a b xs ys∧∀ k,SM.G Dz ys k=SM.rot s m (mid+m-s) (SM.G Dz xs) k) ?_ ?_)))))))))))))
 ·refine ag (aa (mvi rfl (mvi rfl (ab (aY rfl rfl) (mvb rfl (KB (t:=181) rfl (fun Q65=>?_) (fun Q65=>?_)))))))
  ·refine al rfl (mvi rfl (al rfl (mvi rfl (al rfl (ab (aY rfl rfl) (ab (a_ (v:=.bool _) rfl rfl) (ah (ae (K8 rfl (fun Q66=>?_) (fun Q66=>?_))))))))))
   ·refine aa (mvs rfl (mvi rfl (mvi rfl (mvi rfl (ab (ar (v:=.func _ _ _) rfl) (ax Ad (Cq base _ c n xs _ hoy (Nat.le_trans hbs hG0.size) hl s m (mid+m-s) (by omega) (by omega) (by omega)) ?_))))));rintro v191 w67 ⟨zs,hoz,hGz,hPz,hRz⟩;refine ah ?_;refine aO (zs) trivial (by (iterate 15 refine aB rfl ?_);exact aK) ?_;exact ⟨hoz,aS hG0 hGz,hPz.wide (by omega) (by omega),hRz⟩
   refine au ?_;refine aO (xs) trivial (by (iterate 9 refine aB rfl ?_);exact aK) ?_;exact ⟨hoy,hG0,.rfl_,fun k=>(SM.rot_none (by omega) k).symm⟩
  refine aD rfl rfl (aD rfl rfl (aD rfl rfl (ab (aR (v:=.bool _) rfl rfl) (ah (ae (cm rfl (au ?_)))))));refine aO (xs) trivial (by (iterate 9 refine aB rfl ?_);exact aK) ?_;exact ⟨hoy,hG0,.rfl_,fun k=>(SM.rot_none (by omega) k).symm⟩
 rintro ys ρ68 w68 ⟨hoy,hG0,hP,hR⟩;obtain ⟨t1,t2,t3,t4,hx⟩:=SM.cut_all iK s1 s2 hcut ⟨by omega,by omega⟩ ⟨by omega,by omega⟩ hR;refine eY (G:=List Dc) [192,193,194,195,196,197,198,199,200,201,202,203,204,205] (fun _=>[]) (fun zs w'=>w'.ownsRow base 37 2 (.slice (some ⟨g,0,none⟩) n c) n (List.flatMap dV zs)∧w.grownBy w' (some g)∧SM.PW Dz a mid ys zs∧SM.Srt Dz ltD a mid zs) ?_ ?_
 ·refine ag (aa (mvi rfl (mvi rfl (ab (aY rfl rfl) (mvb rfl (KB (t:=195) rfl (fun Q69=>?_) (fun Q69=>?_)))))))
  ·refine al rfl (mvi rfl (al rfl (mvi rfl (al rfl (ab (aY rfl rfl) (ab (a_ (v:=.bool _) rfl rfl) (ah (ae (K8 rfl (fun Q70=>?_) (fun Q70=>?_))))))))))
   ·refine aa (mvs rfl (mvi rfl (mvi rfl (mvi rfl (ab (ar (v:=.func _ _ _) rfl) (ax l_ (IH ys _ a s mid hoy (Nat.le_trans hbs hG0.size) (by omega) (by omega) (by omega) (by omega) t1 t2) ?_))))));rintro v205 w71 ⟨vs,hov,hGv,hPv,hSv⟩;refine ah ?_;refine aO (vs) trivial (by (iterate 15 refine aB rfl ?_);exact aK) ?_;exact ⟨hov,aS hG0 hGv,hPv,hSv⟩
   refine au ?_;refine aO (ys) trivial (by (iterate 9 refine aB rfl ?_);exact aK) ?_
   exact ⟨hoy,hG0,.rfl_,by
    first
     |exact (show s=a by omega) ▸ t2
     |exact (show s=mid by omega) ▸ t1⟩
  refine aD rfl rfl (aD rfl rfl (aD rfl rfl (ab (aR (v:=.bool _) rfl rfl) (ah (ae (cm rfl (au ?_)))))));refine aO (ys) trivial (by (iterate 9 refine aB rfl ?_);exact aK) ?_
  exact ⟨hoy,hG0,.rfl_,by
   first
    |exact (show s=a by omega) ▸ t2
    |exact (show s=mid by omega) ▸ t1⟩
 rintro zs ρ72 w72 ⟨hoz,hGz,hPz,hSz⟩;refine ag (aa (mvi rfl (mvi rfl (ab (aY rfl rfl) (mvb rfl (KB (t:=209) rfl (fun Q73=>?_) (fun Q73=>?_)))))))
 ·refine al rfl (mvi rfl (al rfl (mvi rfl (al rfl (ab (aY rfl rfl) (ab (a_ (v:=.bool _) rfl rfl) (ah (ae (K8 rfl (fun Q74=>?_) (fun Q74=>?_))))))))))
  ·refine aa (mvs rfl (mvi rfl (mvi rfl (mvi rfl (ab (ar (v:=.func _ _ _) rfl) (ax l_ (IH zs _ mid (mid+m-s) b hoz (Nat.le_trans hbs hGz.size) (by omega) (by omega) (by omega) (by omega) (t3.off hPz (by omega)) (t4.off hPz (by omega))) ?_))))));rintro v219 w75 ⟨vs,hov,hGv,hPv,hSv⟩;refine ah (gm (kp rfl (⟨vs,hov,aS hGz hGv,hP.trans ((hPz.wide (Nat.le_refl _) (by omega)).trans (hPv.wide (by omega) (Nat.le_refl _))),SM.half_half hx hPz hSz hPv hSv⟩)))
  refine au (gm (kp rfl ?_))
  have hlast:SM.Srt Dz ltD mid b zs:=by
   first
    |exact (show mid+m-s=mid by omega) ▸ t4.off hPz (by omega)
    |exact (show mid+m-s=b by omega) ▸ t3.off hPz (by omega)
  exact ⟨zs,hoz,hGz,hP.trans (hPz.wide (Nat.le_refl _) (by omega)),SM.half_half hx hPz hSz .rfl_ hlast⟩
 refine aD rfl rfl (aD rfl rfl (aD rfl rfl (ab (aR (v:=.bool _) rfl rfl) (ah (ae (cm rfl (au (gm (kp rfl ?_)))))))))
 have hlast:SM.Srt Dz ltD mid b zs:=by
  first
   |exact (show mid+m-s=mid by omega) ▸ t4.off hPz (by omega)
   |exact (show mid+m-s=b by omega) ▸ t3.off hPz (by omega)
 exact ⟨zs,hoz,hGz,hP.trans (hPz.wide (Nat.le_refl _) (by omega)),SM.half_half hx hPz hSz .rfl_ hlast⟩
theorem AV (base:Nat) (A:Option Addr) (c n:Nat) (hl:n≤100000000):∀ (N:Nat) (xs:List Dc) (w:World) (a m b:Nat),w.ownsRow base 37 2 (.slice A n c) n (xs.flatMap dV)→base≤w.heap.size→a<m→m<b→b≤n→b-a≤N→SM.Srt Dz ltD a m xs→SM.Srt Dz ltD m b xs→
 Rt prog 180 [.slice A n c,.int .i64 (a:Nat),.int .i64 (m:Nat),.int .i64 (b:Nat),.func (.func 119) #[] #[]] w (fun _ w'=>∃ ys,w'.ownsRow base 37 2 (.slice A n c) n (List.flatMap dV ys)∧w.grownBy w' (A.map (·.block))∧SM.PW Dz a b xs ys∧SM.Srt Dz ltD a b ys)
 |0,xs,w,a,m,b=>fun _ _ h1 h2 _ h3=>by omega
 |N+1,xs,w,a,m,b=>fun ho hbs h1 h2 hbn hN s1 s2=>DI base A c n xs w ho hbs hl a m b h1 h2 hbn s1 s2 fun ys w' a' m' b' k1 k2 k3 k4 k5 k6 k7 k8=>AV base A c n hl N ys w' a' m' b' k1 k2 k3 k4 k5 (by omega) k7 k8
theorem DJ (base:Nat) (A:Option Addr) (c n:Nat) (xs:List Dc) (w:World) (ho:w.ownsRow base 37 2 (.slice A n c) n (xs.flatMap dV)) (hbs:base≤w.heap.size) (hl:n≤100000000) (a m b:Nat) (h1:a<m) (h2:m<b) (hbn:b≤n) (s1:SM.Srt Dz ltD a m xs) (s2:SM.Srt Dz ltD m b xs) :
 Rt prog 180 [.slice A n c,.int .i64 (a:Nat),.int .i64 (m:Nat),.int .i64 (b:Nat),.func (.func 119) #[] #[]] w (fun _ w'=>∃ ys,w'.ownsRow base 37 2 (.slice A n c) n (List.flatMap dV ys)∧w.grownBy w' (A.map (·.block))∧SM.PW Dz a b xs ys∧SM.Srt Dz ltD a b ys):=AV base A c n hl (b-a) xs w a m b ho hbs h1 h2 hbn (Nat.le_refl _) s1 s2
theorem nW:aH prog 122=true:=by kernel_rfl
theorem uA:aH prog 155=true:=by kernel_rfl
theorem nb {s a:Nat} (h:s∣a):s∣a+s:=(Nat.dvd_add_iff_right h).1 (Nat.dvd_refl s)
theorem th {s a:Nat} (h:2*s∣a):s∣a:=Nat.dvd_trans (Nat.dvd_mul_left ..) h
theorem Cf (base:Nat) (A:Option Addr) (c n:Nat) (xs:List Dc) (w:World) (ho:w.ownsRow base 37 2 (.slice A n c) n (xs.flatMap dV)) (hbs:base≤w.heap.size) (hl:n≤100000000) (hxn:xs.length=n) :
 Rt prog 155 [.slice A n c,.int .i64 (n:Nat),.func (.func 119) #[] #[]] w (fun _ w'=>∃ ys,w'.ownsRow base 37 2 (.slice A n c) n (List.flatMap dV ys)∧w.grownBy w' (A.map (·.block))∧SM.PW Dz 0 n xs ys∧SM.Srt Dz ltD 0 n ys):=by
 refine enter (n:=63) Tryz.func155 rfl rfl rfl (ag (aa (asi rfl (ah (ae (ag (aa (mvi rfl (asi rfl (asi rfl (ah (ae (ag (az (bg (G:=Nat×List Dc) [11,12,13,14,15,16,17,18,19,20,21,22] (fun (a,_)=>[(7,.int .i64 (a:Nat)),(8,.int .i64 ((a+20:Nat):Int))]) (fun (a,ys) w'=>20∣a∧a≤n∧w'.ownsRow base 37 2 (.slice A n c) n (List.flatMap dV ys)∧w.grownBy w' (A.map (·.block))∧SM.PW Dz 0 n xs ys∧SM.Blks Dz ltD 20 n a ys) (fun (a,_)=>n-a) ((0,xs)) ⟨rfl,rfl,trivial⟩ ?_ ?_)))))))))))))))
 ·exact ⟨Nat.dvd_zero _,Nat.zero_le _,ho,World.grownBy.refl _ _,.rfl_,fun k _ h=>absurd h (by omega)⟩
 rintro ⟨a,ys⟩ ρ1 w1 ⟨hd,han,hoy,hG0,hP,hR⟩;refine ag (ag (aa (mvi rfl (mvi rfl (ab (mP rfl rfl) (ah (ae (K8 rfl (fun Q2=>?_) (fun Q2=>?_)))))))))
 ·refine au (ae (az (ag (aa (mvs rfl (mvi rfl (mvi rfl (ab (ar (v:=.func _ _ _) rfl) (ax nW (uX base A c n ys _ hoy (Nat.le_trans hbs hG0.size) hl a (a+20) (by omega) (by omega)) ?_)))))))));rintro v18 w3 ⟨zs,hoz,hGz,hPz,hSz⟩;refine ah (ae (ag (aa (mvi rfl (asi rfl (ah (ae (aa (mvi rfl (mvi rfl (ab (aI (a:=a+20) (b:=20) rfl rfl (by omega)) (asi rfl (ah (aL ?_))))))))))))));refine aO ((a+20,zs)) ⟨rfl,rfl,trivial⟩ (by (iterate 28 refine aB rfl ?_);exact aK) ⟨?_,?_⟩
  ·exact ⟨nb hd,by omega,hoz,aS hG0 hGz,hP.trans (hPz.wide (Nat.zero_le _) (by omega)),hR.step (by decide) hd (by omega) hPz hSz⟩
  ·show n-(a+20)<n-a;omega
 refine aZ (aC (aC (aT (ae (ag (aa (mvs rfl (mvi rfl (mvi rfl (ab (ar (v:=.func _ _ _) rfl) (ax nW (uX base A c n ys _ hoy (Nat.le_trans hbs hG0.size) hl a n (by omega) (by omega)) ?_)))))))))));rintro v27 w4 ⟨zs,hoz,hGz,hPz,hSz⟩;refine ah (ae (az (bg (G:=Nat×List Dc) [7,8,9,28,29,30,31,32,33,34,35,36,37,38,39,40,41,42,43,44,45,46,47,48,49,50,51,52,53,54,55,56,57,58,59,60,61,62] (fun (s,_)=>[(6,.int .i64 (s:Nat))]) (fun (s,ys) w'=>0<s∧s≤2*n+20∧w'.ownsRow base 37 2 (.slice A n c) n (List.flatMap dV ys)∧w.grownBy w' (A.map (·.block))∧SM.PW Dz 0 n xs ys∧SM.Runs Dz ltD s n ys) (fun (s,_)=>n-s) ((20,zs)) ⟨rfl,trivial⟩ ?_ ?_)))
 ·exact ⟨by decide,by omega,hoz,aS hG0 hGz,hP.trans (hPz.wide (Nat.zero_le _) (Nat.le_refl _)),(hR.step (by decide) hd (by omega) hPz hSz).end_ (by omega)⟩
 rintro ⟨s,ys⟩ ρ5 w5 ⟨hs0,hsn,hoy,hG0,hP,hR⟩;refine ag (ag (aa (mvi rfl (mvi rfl (ab (aY rfl rfl) (ah (ae (K8 rfl (fun Q6=>?_) (fun Q6=>?_)))))))))
 ·refine au (ae (az (ag (aa (mvi rfl (ab (ph (a:=2) (b:=s) rfl rfl (by omega)) (asi rfl (asi rfl (ah (ae (ag (az (bg (G:=Nat×List Dc) [33,34,35,36,37,38,39,40,41,42,43,44,45,46,47,48] (fun (a,_)=>[(7,.int .i64 (a:Nat)),(8,.int .i64 ((a+2*s:Nat):Int))]) (fun (a,ys) w'=>2*s∣a∧a≤n∧w'.ownsRow base 37 2 (.slice A n c) n (List.flatMap dV ys)∧w.grownBy w' (A.map (·.block))∧SM.PW Dz 0 n xs ys∧SM.Runs2 Dz ltD s n a ys) (fun (a,_)=>n-a) ((0,ys)) ⟨rfl,(aM (by omega)),trivial⟩ ?_ ?_)))))))))))))
  ·exact ⟨Nat.dvd_zero _,Nat.zero_le _,hoy,hG0,hP,.start hR⟩
  rintro ⟨a,ys⟩ ρ7 w7 ⟨hd,han,hoy,hG0,hP,hR⟩;have r1:=fun (h:a+2*s≤n)=>hR.2 a (th hd) (Nat.le_refl _)
  have r2:=hR.2 (a+s) (nb (th hd)) (by omega);have r3:=hR.2 a (th hd) (Nat.le_refl _);refine ag (ag (aa (mvi rfl (mvi rfl (ab (mP rfl rfl) (ah (ae (K8 rfl (fun Q8=>?_) (fun Q8=>?_)))))))))
  ·refine au (ae (az (ag (aa (mvs rfl (mvi rfl (mvi rfl (mvi rfl (ab (aI rfl rfl (by omega)) (mvi rfl (ab (ar (v:=.func _ _ _) rfl) (ax l_ (DJ base A c n ys _ hoy (Nat.le_trans hbs hG0.size) hl a (a+s) (a+2*s) (by omega) (by omega) (by omega) (r3.sub (Nat.le_refl _) (by omega)) (r2.sub (Nat.le_refl _) (by omega))) ?_))))))))))));rintro v43 w9 ⟨zs,hoz,hGz,hPz,hSz⟩;refine ah (ae (ag (aa (mvi rfl (asi rfl (ah (ae (aa (mvi rfl (mvi rfl (ab (ph (a:=2) (b:=s) rfl rfl (by omega)) (ab (aI rfl rfl (by omega)) (asi rfl ?_)))))))))))));refine ah (aL ?_);refine aO ((a+2*s,zs)) ⟨rfl,rfl,trivial⟩ (by (iterate 36 refine aB rfl ?_);exact aK) ⟨?_,?_⟩
   ·exact ⟨nb hd,by omega,hoz,aS hG0 hGz,hP.trans (hPz.wide (Nat.zero_le _) (by omega)),hR.step hs0 hd (by omega) hPz hSz⟩
   ·show n-(a+2*s)<n-a;omega
  refine aZ (aC (aC (aT (ae (eY (G:=List Dc) [9,49,50,51,52,53,54,55,56,57,58,59,60] (fun _=>[]) (fun ys w'=>w'.ownsRow base 37 2 (.slice A n c) n (List.flatMap dV ys)∧w.grownBy w' (A.map (·.block))∧SM.PW Dz 0 n xs ys∧SM.Runs Dz ltD (2*s) n ys) ?_ ?_)))))
  ·refine ag (aa (mvi rfl (mvi rfl (ab (aI rfl rfl (by omega)) (asi rfl (ah (ae (ag (aa (mvi rfl (mvi rfl (ab (aY rfl rfl) ?_))))))))))));refine ah (ae (K8 rfl (fun Q10=>?_) (fun Q10=>?_)))
   ·refine aa (mvs rfl (mvi rfl (mvi rfl (mvi rfl (ab (ar (v:=.func _ _ _) rfl) (ax l_ (DJ base A c n ys _ hoy (Nat.le_trans hbs hG0.size) hl a (a+s) n (by omega) (by omega) (by omega) (r3.sub (Nat.le_refl _) (by omega)) (r2.sub (Nat.le_refl _) (by omega))) ?_))))));rintro v60 w11 ⟨zs,hoz,hGz,hPz,hSz⟩;refine ah ?_;refine aO (zs) trivial (by (iterate 13 refine aB rfl ?_);exact aK) ?_;exact ⟨hoz,aS hG0 hGz,hP.trans (hPz.wide (Nat.zero_le _) (Nat.le_refl _)),(hR.step hs0 hd (by omega) hPz hSz).end_ hs0 (nb hd) (by omega)⟩
   refine au ?_;refine aO (ys) trivial (by (iterate 7 refine aB rfl ?_);exact aK) ?_;exact ⟨hoy,hG0,hP,(hR.last hs0 hd (by omega)).end_ hs0 (nb hd) (by omega)⟩
  rintro ys ρ12 w12 ⟨hoy,hG0,hP,hR⟩;refine aa (mvi rfl (ab (ph (a:=s) (b:=2) rfl rfl (by omega)) (asi rfl (ah (aL ?_)))));refine aO ((s*2,ys)) ⟨rfl,trivial⟩ (by (iterate 83 refine aB rfl ?_);exact aK) ⟨?_,?_⟩
  ·exact ⟨by omega,by omega,hoy,hG0,hP,by rw [Nat.mul_comm];exact hR⟩
  ·show n-s*2<n-s;omega
 refine aZ (aC (aC (aT (gm (kp rfl (⟨ys,hoy,hG0,hP,hR.all (by omega)⟩))))))
theorem DU (base:Nat) (A:Option Addr) (c n:Nat) (xs:List Dc) (w:World) (ho:w.ownsRow base 37 2 (.slice A n c) n (xs.flatMap dV)) (hbs:base≤w.heap.size) (hl:n≤100000000) (hxn:xs.length=n) :
 Rt prog 118 [.slice A n c,.func (.func 119) #[] #[]] w (fun _ w'=>∃ ys,w'.ownsRow base 37 2 (.slice A n c) n (List.flatMap dV ys)∧w.grownBy w' (A.map (·.block))∧SM.PW Dz 0 n xs ys∧SM.Srt Dz ltD 0 n ys):=by
 refine enter (n:=9) Tryz.func118 rfl rfl rfl (aa (mvs rfl (mvs rfl (ab (aU bx rfl) (ab (ar (v:=.func _ _ _) rfl) (ax uA (Cf base A c n xs _ ho hbs hl hxn) ?_))))));rintro v8 w1 ⟨ys,hoy,hG0,hP,hR⟩;refine ah (gm (kp rfl (⟨ys,hoy,hG0,hP,hR⟩)))
theorem ma:(dm prog 119).isSome=true:=by kernel_rfl
theorem mb:dm prog 119=some (22,1):=by kernel_rfl
theorem wC:aH prog 154=true:=by kernel_rfl
theorem wE:aH prog 117=true:=by kernel_rfl
theorem wD:aH prog 118=true:=by kernel_rfl
def vg (w:World) (A:Option Addr) (Ls:List (List Dc)):Prop:=0<Ls.length→∃ b o,A=some ⟨b,o,none⟩∧∀ i (h:i<Ls.length),∃ Ai ci,w.cell? ⟨b,o+i,none⟩=some (.slice Ai Ls[i].length ci)∧cN 2 dV w Ai Ls[i]∧(Ai=none→ci=0)
theorem vg.from_ {w w':World} {A:Option Addr} {Ls:List (List Dc)} (h:vg w A Ls) (hF:aj w w'):vg w' A Ls:=fun h0=>by
 obtain ⟨b,o,e,hc⟩:=h h0;refine ⟨b,o,e,fun i hi=>?_⟩;obtain ⟨Ai,ci,h1,h2,h3⟩:=hc i hi;exact ⟨Ai,ci,bu hF h1,h2.from_ hF,h3⟩
theorem BJ {α:Type} {Ls:List (List α)} {i:Nat} (h:i<Ls.length):(Ls.take (i+1)).flatten=(Ls.take i).flatten++Ls[i]:=by
 rw [List.take_succ_eq_append_getElem h,List.flatten_append,List.flatten_cons,List.flatten_nil,List.append_nil]
theorem zM {α:Type} {Ls:List (List α)} {i:Nat} (h:i<Ls.length):(Ls.take (i+1)).flatten.length=(Ls.take i).flatten.length+Ls[i].length:=by rw [BJ h,List.length_append]
theorem FN {α:Type} {Ls:List (List α)} (i:Nat):(Ls.take i).flatten.length≤Ls.flatten.length:=by
 have e:Ls.flatten=(Ls.take i).flatten++(Ls.drop i).flatten:=by rw [←List.flatten_append,List.take_append_drop]
 rw [e,List.length_append];omega
theorem Ii (m:Nat) (w:World) (hm:m≤100000000) :
 Rt prog 154 [.slice none 0 0,.int .i64 (m:Nat)] w (fun v w'=>(∃ A' c',v=.slice A' 0 c'∧w'.ownsRow w.heap.size 37 2 (.slice A' 0 c') 0 [])∧aj w w'):=by
 refine enter (n:=27) Tryz.func154 rfl rfl rfl (ag (aa (ass rfl (ah (ae (ag (ag (aa (mvi rfl (ab (aY rfl rfl) (ah (ae (K8 rfl (fun Q1=>?_) (fun Q1=>?_))))))))))))))
 ·exfalso;omega
 refine au (ae (ag (ag (aa (mvi rfl (mvs rfl (ab (sB bx rfl) (mvs rfl (ab (aU bx rfl) (ab (cg (a:=0) (b:=0) rfl rfl (by omega)) (ab (cg (a:=m) (b:=0-0) rfl rfl (by omega)) (asi rfl ?_))))))))))));refine ah (ae (ag (aa (mvi rfl (ab (bX rfl rfl) (ah (ae (K8 rfl (fun Q6=>?_) (fun Q6=>?_)))))))))
 ·refine aa (mvs rfl (mvs rfl (ab (sB bx rfl) (ab (eE (v':=.slice none 0 0) (bw (l:=0) (h:=0) aP rfl (.inl ⟨rfl,rfl⟩) (.inr ⟨_,_,_,rfl,rfl,rfl⟩) (by omega) (by omega)) (by simp [ik])) ?_))));refine mvi rfl (n9 (kn:=.i64) (olds:=[]) de (by kernel_rfl) rfl (by decide) rfl rfl rfl (fun h=>absurd h (by simp)) (by omega) (by omega) (by unfold maxLen;omega) (by omega) (Nat.le_refl _) ?_);intro g22 c22 w7 cur22 hg22 E22 hb22 hc22 hc22m hcl22 hct22;have hgw:w.heap.size≤g22:=by rw [hg22];exact (aj.rfl_).size
  refine mvs rfl (ab (aU bx rfl) (ab (eE (v':=.slice (some ⟨g22,0,none⟩) 0 c22) (bw (l:=0) (h:=0) aP rfl (.inl ⟨rfl,rfl⟩) (.inr ⟨_,_,_,rfl,rfl,rfl⟩) (by omega) (by omega)) (by rw [cP,Nat.sub_zero,Nat.sub_zero])) ?_));refine ass rfl (ah (ae (ag (aa (mvs rfl (ass rfl (ah (ae (aA (bE (v:=.slice _ _ _) rfl rfl ?_))))))))))
  first
   |exact ⟨⟨some ⟨g22,0,none⟩,c22,rfl,il hgw hb22 (Nat.zero_le _) hc22m hcl22 rfl⟩,(aj.rfl_.next E22)⟩
   |exact ⟨⟨none,0,rfl,World.ownsRow_nil _ _ _ _⟩,(aj.rfl_.next E22)⟩
 refine au (ae (ag (aa (mvs rfl (ass rfl (ah (ae (aA (bE (v:=.slice _ _ _) rfl rfl ?_)))))))))
 first
  |exact ⟨⟨some ⟨g22,0,none⟩,c22,rfl,il hgw hb22 (Nat.zero_le _) hc22m hcl22 rfl⟩,aj.rfl_⟩
  |exact ⟨⟨none,0,rfl,World.ownsRow_nil _ _ _ _⟩,aj.rfl_⟩
theorem Da (A:Option Addr) (c n:Nat) (Ls:List (List Dc)) (w:World) (hr:vg w A Ls) (hn:n=Ls.length) (hl:n≤100000000) (hf:Ls.flatten.length≤100000000) :
 Rt prog 117 [.slice A n c] w (fun v w'=>(∃ A' c',v=.slice A' Ls.flatten.length c'∧w'.ownsRow w.heap.size 37 2 (.slice A' Ls.flatten.length c') Ls.flatten.length (Ls.flatten.flatMap dV))∧aj w w'):=by
 refine enter (n:=36) Tryz.func117 rfl rfl rfl (ag (aa (ass rfl (ah (ae (ag (aa (asi rfl (ah (ae (ag (ag (aa (mvs rfl (ab (aU ma rfl) (mvi rfl ?_))))))))))))))));refine ah (ae (az (bg (G:=Nat) [5,12,13,14,15,16,17,18,19,20,21,22] (fun i=>[(3,.int .i64 (((Ls.take i).flatten.length:Nat):Int)),(11,.int .i64 (i:Nat))]) (fun i w'=>i≤n∧aj w w') (fun i=>n-i) (0) ⟨rfl,rfl,trivial⟩ ?_ ?_)))
 ·exact ⟨Nat.zero_le _,aj.rfl_⟩
 rintro i ρ1 w1 ⟨hi,hB⟩;refine ag (aa (ab (aY rfl rfl) (ah (ae (ag (K8 rfl (fun Q2=>?_) (fun Q2=>?_)))))))
 ·obtain ⟨b,o,rfl,hcs⟩:=hr (by omega);have hil:i<Ls.length:=by omega
  obtain ⟨Ai,ci,hci,hri,hni⟩:=hcs i hil;have hfl:=zM hil;have hfm:=FN (Ls:=Ls) (i+1);refine au (ae (ag (az (ag (aa (ab (bm mb rfl rfl (by omega)) (ab (aq cC rfl (by exact bu hB hci)) ?_)))))));refine ass rfl (ah (ae (ag (aa (mvi rfl (mvs rfl (ab (aU bx rfl) (ab (aI rfl rfl (by omega)) (asi rfl (ah (ae (ag (aa (mvi rfl ?_))))))))))))));refine ab (aY rfl rfl) (ah (ae (K8 rfl (fun Q3=>?_) (fun Q3=>?_))))
  ·exfalso;omega
  refine au (aL (ae (aa (ab (aI (b:=1) rfl rfl (by omega)) (mvi rfl (ah ?_))))));refine aO (i+1) ⟨(aM (by rw [hfl])),rfl,trivial⟩ (by (iterate 27 refine aB rfl ?_);exact aK) ⟨?_,?_⟩
  ·exact ⟨by omega,hB⟩
  ·show n-(i+1)<n-i;omega
 obtain rfl:i=Ls.length:=by omega
 rw [List.take_length];refine aZ (aC (aC (aT (ae (ag (aa (mvi rfl ?_)))))));have hz24:=(hB).size;refine ax wC (Ii Ls.flatten.length _ (by omega)) ?_;rintro v24 w6 ⟨⟨A24,c24,rfl,ho24⟩,E24⟩;refine ass rfl (ah (ae (ag (ag (aa (mvs rfl (ab (aU ma rfl) (mvi rfl (ah (ae (az (bg (G:=Nat×Option Addr×Nat) [8,28,29,30,31,32,33,34] (fun (i,A6,c6)=>[(6,.slice A6 (Ls.take i).flatten.length c6),(27,.int .i64 (i:Nat))]) (fun (i,A6,c6) w'=>i≤n∧w'.ownsRow w.heap.size 37 2 (.slice A6 (Ls.take i).flatten.length c6) (Ls.take i).flatten.length (List.flatMap dV (Ls.take i).flatten)∧aj w w') (fun (i,_,_)=>n-i) ((0,A24,c24)) ⟨rfl,rfl,trivial⟩ ?_ ?_))))))))))))
 ·exact ⟨Nat.zero_le _,fD ho24 hz24,(hB.next E24)⟩
 rintro ⟨i,A6,c6⟩ ρ7 w7 ⟨hi,ho6,hB⟩;refine ag (aa (ab (aY rfl rfl) (ah (ae (ag (K8 rfl (fun Q8=>?_) (fun Q8=>?_)))))))
 ·obtain ⟨b,o,rfl,hcs⟩:=hr (by omega);have hil:i<Ls.length:=by omega
  obtain ⟨Ai,ci,hci,hri,hni⟩:=hcs i hil;have hfl:=zM hil;have hfm:=FN (Ls:=Ls) (i+1);refine au (ae (ag (az (ag (aa (ab (bm mb rfl rfl (by omega)) (ab (aq cC rfl (by exact bu hB hci)) ?_)))))));refine ass rfl (ah (ae (aa (mvs rfl (mvs rfl (cR de rfl (by decide) rfl (A:=A6) (xs:=List.flatMap dV (Ls.take i).flatten) (news:=List.flatMap dV Ls[i]) (ho6.kept_from aj.rfl_) (hB.size) rfl (dW bH _) (fun h=>(hri.from_ hB).flat bH h) hni (nc _) (by omega) (by omega) ?_))))));intro A33 c33 w9 ho33 hg33;have HF33:=(hB).grew hg33 (fun k hk=>(bM (ho6.kept_from aj.rfl_) k hk).1);refine ass rfl (ah (aL (ae (aa (ab (aI (b:=1) rfl rfl (by omega)) (mvi rfl (ah ?_)))))));refine aO ((i+1,A33,c33)) ⟨(by rw [hfl];rfl),rfl,trivial⟩ (by (iterate 20 refine aB rfl ?_);exact aK) ⟨?_,?_⟩
  ·exact ⟨by omega,by rw [hfl,BJ hil,List.flatMap_append];exact ho33,HF33⟩
  ·show n-(i+1)<n-i;omega
 refine aZ (aC (aC (aT (ae (ag (aa (mvs rfl (ass rfl (ah (ae (aA (bE (v:=.slice _ _ _) rfl rfl ?_))))))))))));obtain rfl:i=Ls.length:=by omega
 rw [List.take_length] at ho6;rw [List.take_length];exact ⟨⟨A6,c6,rfl,ho6⟩,hB⟩
theorem Fg (A:Option Addr) (c n:Nat) (Ls:List (List Dc)) (w:World) (hr:vg w A Ls) (hn:n=Ls.length) (hl:n≤100000000) (hf:Ls.flatten.length≤100000000) :
 Rt prog 84 [.slice A n c] w (fun v w'=>(∃ A' c',v=.tuple #[.slice A' (mD Ls).length c',.int .i64 (mE Ls)]∧w'.ownsRow w.heap.size 37 2 (.slice A' (mD Ls).length c') (mD Ls).length (List.flatMap dV (mD Ls)))∧aj w w'):=by
 refine enter (n:=57) Tryz.func84 rfl rfl rfl (ag (aa (ass rfl (asi rfl (ah (ae (ag (ag (aa (mvs rfl (ab (aU ma rfl) (mvi rfl (ah (ae (az ?_)))))))))))))));refine bg (G:=Nat) [2,3,5,6,12,13,14,15,16,17,18,19,20,21,22,23,24,25,26,27,28,29,30,31,32,33] (fun i=>[(11,.int .i64 (i:Nat))]) (fun i w'=>i≤n∧(∀ l∈Ls.take i,SD l)∧aj w w') (fun i=>n-i) (0) ⟨rfl,trivial⟩ ?_ ?_
 ·exact ⟨Nat.zero_le _,fun l h=>by simp at h,aj.rfl_⟩
 rintro i ρ1 w1 ⟨hi,hsd,hB⟩;refine ag (aa (ab (aY rfl rfl) (ah (ae (ag (K8 rfl (fun Q2=>?_) (fun Q2=>?_)))))))
 ·obtain ⟨b,o,rfl,hcs⟩:=hr (by omega);have hil:i<Ls.length:=by omega
  obtain ⟨Ai,ci,hci,hri,hni⟩:=hcs i hil;have hfl:=zM hil;have hfm:=FN (Ls:=Ls) (i+1);have hsd0:=hsd;obtain ⟨ds,hds⟩:∃ ds,Ls[i]=ds:=⟨_,rfl⟩;rw [hds] at hci hri hfl;refine au (ae (ag (az (ag (aa (ab (bm mb rfl rfl (by omega)) (ab (aq cC rfl (by exact bu hB hci)) ?_)))))));refine ass rfl (ah (ae (ag (aa (asi rfl (ah (ae (az (bg (G:=Nat) [2,3,15,16,17,18,19,20,21,22,23,24,25,26,27,28,29,30,31,32] (fun k=>[(6,.int .i64 (k:Nat))]) (fun k w'=>1≤k∧(∀ x,0<x→x<k→x<ds.length→sLt (SM.G Dz ds (x-1)).1 (SM.G Dz ds x).1)∧aj w w') (fun k=>ds.length-k) (1) ⟨rfl,trivial⟩ ?_ ?_)))))))))
  ·exact ⟨Nat.le_refl _,fun x h1 h2=>absurd h1 (by omega),hB⟩
  rintro k ρ3 w3 ⟨hk1,hok,hB⟩;refine ag (ag (aa (mvi rfl (mvs rfl (ab (aU bx rfl) (ab (aY rfl rfl) (ah (ae (K8 rfl (fun Q4=>?_) (fun Q4=>?_))))))))))
  ·obtain ⟨bd,od,rfl,hcd⟩:=hri (by omega);have hcG:∀ x,x<ds.length→w.rangeAt bd (od+x*2) (dV (SM.G Dz ds x)):=fun x hx=>by rw [pX hx];exact hcd x hx
   refine au (ae (ag (az (ag ?_))));apply bI 12 [(21,eqp _),(22,eqp _),(23,eqp _),(24,eqp _),(25,eqp _),(26,eqp (.string (SM.G Dz ds (k-1)).1)),(27,eqp _),(28,eqp _),(29,eqp _),(30,eqp _),(31,eqp (.string (SM.G Dz ds k).1)),(32,eqp _)] (by repeat first | exact bW | refine bT ?_ | refine bG ?_) (by kernel_rfl) (by kernel_rfl) ⟨af _,af _,af _,af _,af _,af _,af _,af _,af _,af _,af _,af _,trivial⟩
   case hop=>
    constructor
    ·rintro-w6 D6;exact ai (ar (v:=.slice _ _ _) rfl) rfl
    constructor
    ·rintro-w7 D7;exact ai (ar (v:=.int _ _) rfl) rfl
    constructor
    ·rintro-w8 D8;rintro _ rfl;exact ai (cg (b:=1) rfl rfl (by omega)) rfl
    constructor
    ·rintro-w9 D9;rintro _ rfl _ rfl;exact ai (aG aP rfl rfl (by omega)) rfl
    constructor
    ·rintro-w10 D10;rintro _ rfl;exact ai (ak aW rfl) rfl
    constructor
    ·rintro-w11 D11;rintro _ rfl;exact ai (aq (v:=.string (SM.G Dz ds (k-1)).1) aX rfl (bu (hB.next D11) (hcG (k-1) (by omega) 0 _ rfl))) rfl
    constructor
    ·rintro-w12 D12;exact ai (ar (v:=.slice _ _ _) rfl) rfl
    constructor
    ·rintro-w13 D13;exact ai (ar (v:=.int _ _) rfl) rfl
    constructor
    ·rintro-w14 D14;rintro _ rfl _ rfl;exact ai (aG aP rfl rfl (by omega)) rfl
    constructor
    ·rintro-w15 D15;rintro _ rfl;exact ai (ak aW rfl) rfl
    constructor
    ·rintro-w16 D16;rintro _ rfl;exact ai (aq (v:=.string (SM.G Dz ds k).1) aX rfl (bu (hB.next D16) (hcG k (by omega) 0 _ rfl))) rfl
    constructor
    ·rintro-w17 D17;rintro v17_26 rfl v17_31 rfl;exact ai (vw rfl rfl) rfl
    exact trivial
   case hend=>
    intro w18 D18;rintro _ rfl _ rfl _ rfl _ rfl _ rfl v26 rfl _ rfl _ rfl _ rfl _ rfl v31 rfl _ rfl;show St ..;refine ah (ae (Ma rfl (fun Q19=>?_) (fun Q19=>?_)))
    ·have hnl:¬ sLt (SM.G Dz ds (k-1)).1 (SM.G Dz ds k).1:=fun h=>by
      have h9:=(jv _ _).2 h
      simp_all
     refine ag (aa (ass rfl (asi rfl (ah (ae (aA (bq (aF (aF (bq (bq (aF (aF (bq (aF (cZ (v:=.slice _ _ _) (v':=.int _ _) rfl rfl rfl ?_))))))))))))))));have he:mE Ls=1:=Lz (List.getElem_mem hil) (by rw [hds];exact fun h=>hnl (h.get (i:=k-1) (j:=k) (by omega) (by omega)));rw [IW (by rw [he];decide),he];exact ⟨⟨none,0,rfl,World.ownsRow_nil _ _ _ _⟩,(hB.next D18)⟩
    have hlt:sLt (SM.G Dz ds (k-1)).1 (SM.G Dz ds k).1:=(jv _ _).1 (by simpa using Q19);refine au (aL (ae (aa (mvi rfl (ab (aI (b:=1) rfl rfl (by omega)) (asi rfl (ah ?_)))))));refine aO (k+1) ⟨(by first | rfl | (refine aM ?_;omega)),trivial⟩ (by (iterate 40 refine aB rfl ?_);exact aK) ⟨?_,?_⟩
    ·exact ⟨by omega,fun x h1 h2 h3=>by
      rcases Nat.eq_or_lt_of_le (Nat.le_of_lt_succ h2) with e | e
      ·subst e;exact hlt
      ·exact hok x h1 e h3,(hB.next D18)⟩
    ·show ds.length-(k+1)<ds.length-k;omega
  have hsd:SD ds:=SD.near fun x h1 h2=>hok x h1 (by omega) h2
  refine aZ (aC (aC (aT (aL (ae (aa (ab (aI (b:=1) rfl rfl (by omega)) (mvi rfl (ah ?_)))))))));refine aO (i+1) ⟨(by first | rfl | (refine aM ?_;omega)),trivial⟩ (by (iterate 59 refine aB rfl ?_);exact aK) ⟨?_,?_⟩
  ·exact ⟨by omega,fun l hl=>by
    rw [List.take_succ_eq_append_getElem hil,List.mem_append,List.mem_singleton,hds] at hl;rcases hl with e | e
    ·exact hsd0 l e
    ·rw [e];exact hsd,hB⟩
  ·show n-(i+1)<n-i;omega
 have hall:∀ l∈Ls,SD l:=fun l hl=>hsd l (by rw [List.take_of_length_le (by omega)];exact hl)
 refine aZ (aC (aC (aT (ae (ag (aa (mvs rfl ?_)))))));have hz35:=(hB).size;obtain ⟨b5,hb5⟩:∃ b,b=(w1).heap.size:=⟨_,rfl⟩;refine ax wE (Da A c n Ls _ (hr.from_ hB) hn hl hf) ?_;rintro v35 w20 ⟨⟨A35,c35,rfl,ho35⟩,E35⟩;have hz35b:=E35.size;rw [←hb5] at ho35 hz35 hz35b;refine ass rfl (ah (ae (ag (aa (mvs rfl (ax wD (DU _ A35 c35 Ls.flatten.length Ls.flatten _ ho35 hz35b hf rfl) ?_))))));rintro v37 w21 ⟨zs,hoz,hGz,hPz,hSz⟩;have hzl:=hPz.len;refine ah (ae (ag (ag (aa (asi rfl (ah (ae (az (bg (G:=Nat) [2,3,38,39,40,41,42,43,44,45,46,47,48,49,50,51,52,53,54,55] (fun k=>[(8,.int .i64 (k:Nat))]) (fun k w'=>1≤k∧(∀ x,0<x→x<k→x<zs.length→(SM.G Dz zs (x-1)).1≠(SM.G Dz zs x).1)∧w'.ownsRow b5 37 2 (.slice A35 Ls.flatten.length c35) Ls.flatten.length (List.flatMap dV zs)∧aj w w') (fun k=>Ls.flatten.length-k) (1) ⟨rfl,trivial⟩ ?_ ?_)))))))))
 ·exact ⟨Nat.le_refl _,fun x h1 h2=>absurd h1 (by omega),hoz,(((hB.next E35)).grew hGz (fun k hk=>Nat.le_trans hz35 (bM ho35 k hk).1))⟩
 rintro k ρ22 w22 ⟨hk1,hok,hoz,hB⟩;refine ag (ag (aa (mvi rfl (mvs rfl (ab (aU bx rfl) (ab (aY rfl rfl) (ah (ae (K8 rfl (fun Q23=>?_) (fun Q23=>?_))))))))))
 ·obtain ⟨g,rfl⟩:=dy hoz (by omega);refine au (ae (ag (az (ag ?_))));apply bI 12 [(44,eqp _),(45,eqp _),(46,eqp _),(47,eqp _),(48,eqp _),(49,eqp (.string (SM.G Dz zs (k-1)).1)),(50,eqp _),(51,eqp _),(52,eqp _),(53,eqp _),(54,eqp (.string (SM.G Dz zs k).1)),(55,eqp _)] (by repeat first | exact bW | refine bT ?_ | refine bG ?_) (by kernel_rfl) (by kernel_rfl) ⟨af _,af _,af _,af _,af _,af _,af _,af _,af _,af _,af _,af _,trivial⟩
  case hop=>
   constructor
   ·rintro-w25 D25;exact ai (ar (v:=.slice _ _ _) rfl) rfl
   constructor
   ·rintro-w26 D26;exact ai (ar (v:=.int _ _) rfl) rfl
   constructor
   ·rintro-w27 D27;rintro _ rfl;exact ai (cg (b:=1) rfl rfl (by omega)) rfl
   constructor
   ·rintro-w28 D28;rintro _ rfl _ rfl;exact ai (aG aP rfl rfl (by omega)) rfl
   constructor
   ·rintro-w29 D29;rintro _ rfl;exact ai (ak aW rfl) rfl
   constructor
   ·rintro-w30 D30;rintro _ rfl;exact ai (aq (v:=.string (SM.G Dz zs (k-1)).1) aX rfl (fC bH Dz (hoz.kept_from D30) (i:=k-1) (by omega) 0 _ rfl)) rfl
   constructor
   ·rintro-w31 D31;exact ai (ar (v:=.slice _ _ _) rfl) rfl
   constructor
   ·rintro-w32 D32;exact ai (ar (v:=.int _ _) rfl) rfl
   constructor
   ·rintro-w33 D33;rintro _ rfl _ rfl;exact ai (aG aP rfl rfl (by omega)) rfl
   constructor
   ·rintro-w34 D34;rintro _ rfl;exact ai (ak aW rfl) rfl
   constructor
   ·rintro-w35 D35;rintro _ rfl;exact ai (aq (v:=.string (SM.G Dz zs k).1) aX rfl (fC bH Dz (hoz.kept_from D35) (i:=k) (by omega) 0 _ rfl)) rfl
   constructor
   ·rintro-w36 D36;rintro v36_49 rfl v36_54 rfl;exact ai (fP rfl rfl) rfl
   exact trivial
  case hend=>
   intro w37 D37;rintro _ rfl _ rfl _ rfl _ rfl _ rfl v49 rfl _ rfl _ rfl _ rfl _ rfl v54 rfl _ rfl;show St ..;replace hoz:=hoz.kept_from D37;refine ah (ae (Mb rfl (fun Q38=>?_) (fun Q38=>?_)))
   ·have heq:(SM.G Dz zs (k-1)).1=(SM.G Dz zs k).1:=by first | exact lS Q38 | exact fL.1 Q38
    refine ag (aa (ass rfl (asi rfl (ah (ae (aA (bq (aF (aF (bq (aF (cZ (v:=.slice _ _ _) (v':=.int _ _) rfl rfl rfl ?_))))))))))));have he:mE Ls=4:=Ly hall (fun h=>Dif.not (i:=k-1) (j:=k) (by omega) (by rw [hzl];omega) heq (h.perm hPz.perm.symm));rw [IW (by rw [he];decide),he];exact ⟨⟨none,0,rfl,World.ownsRow_nil _ _ _ _⟩,(hB.next D37)⟩
   have hne:(SM.G Dz zs (k-1)).1≠(SM.G Dz zs k).1:=fun e=>by have:=fL.2 e;simp_all
   refine au (aL (ae (aa (mvi rfl (ab (aI (b:=1) rfl rfl (by omega)) (asi rfl (ah ?_)))))));refine aO (k+1) ⟨(by first | rfl | (refine aM ?_;omega)),trivial⟩ (by (iterate 40 refine aB rfl ?_);exact aK) ⟨?_,?_⟩
   ·exact ⟨by omega,fun x h1 h2 h3=>by
     rcases Nat.eq_or_lt_of_le (Nat.le_of_lt_succ h2) with e | e
     ·subst e;exact hne
     ·exact hok x h1 e h3,hoz,(hB.next D37)⟩
   ·show Ls.flatten.length-(k+1)<Ls.flatten.length-k;omega
 refine aZ (aC (aC (aT (ae (ag (aa (mvs rfl (ass rfl (asi rfl (ah (ae (aA (cZ (v:=.slice _ _ _) (v':=.int _ _) rfl rfl rfl ?_)))))))))))));obtain ⟨e1,e2⟩:=KS hall (SD.of_srt (by rw [hzl];exact hSz) (fun x h1 h2=>hok x h1 (by omega) h2)) hPz.perm;rw [e1,e2];exact ⟨⟨A35,c35,by rw [hzl],by rw [hzl];exact fD hoz hz35⟩,hB⟩
end Go.Proofs.YtcbakncjacnnjaaGreat
namespace Go.Proofs.YtcbakncjacnnjaaGreat
open Go.Proofs.Tryz (prog)
open Go.RowKit
def GH (i:Int):Value:=.int .i64 i
def cls (n:Int):Nat:=if n<1 then 0 else Lib.bitLen n.toNat
theorem qN (n:Int) (w:World) (h:n≤9223372036854775807) :
 Calls prog 83 #[.int .i64 n] w fun e w'=>e=.returned (.int .i64 (cls n:Nat))∧w=w':=by
 by_cases h1:n<1
 ·go_enter Tryz.func83,Tryz.ntmps83
  go_wp2
  go_ret
  exact ⟨by unfold cls;rw [if_pos h1];rfl,rfl⟩
 ·have h0:1≤n:=by omega
  go_enter Tryz.func83,Tryz.ntmps83
  go_wp2_with (go_at_call 80;(with_reducible refine (Go.Proofs.Tryz.bits_Len _ _ (by omega) (by omega)).mono ?_);rintro e w1 ⟨rfl,rfl⟩)
  go_ret
  exact ⟨by unfold cls;rw [if_neg (by omega)];rfl,rfl⟩
def win (cs:List Nat) (i:Nat):Bool:=decide (i+4≤cs.length)&&(cs.getD (i+1) 0==cs.getD i 0)&&(cs.getD (i+2) 0==cs.getD i 0)&&(cs.getD (i+3) 0==cs.getD i 0)
def jS (cs:List Nat):Nat→Nat→Nat×Bool
 |0,_=>(0,false)
 |f+1,i=>if win cs i then (i,true) else jS cs f (i+1)
def xJ (cs:List Nat):Nat×Bool:=jS cs cs.length 0
theorem DA {cs:List Nat} {i:Nat} (h:win cs i=true):i+4≤cs.length:=by
 simp only [win,Bool.and_eq_true,decide_eq_true_eq] at h;exact h.1.1.1
theorem q5 {cs:List Nat} {k:Nat} (hk:win cs k=true):∀ f i,i≤k→k<i+f→(∀ j,i≤j→j<k→win cs j=false)→jS cs f i=(k,true)
 |0,i,h1,h2,_=>by omega
 |f+1,i,h1,h2,hn=>by
  simp only [jS];by_cases e:i=k
  ·subst e;rw [if_pos hk]
  ·rw [if_neg (by rw [hn i (Nat.le_refl _) (by omega)];decide)];exact q5 hk f (i+1) (by omega) (by omega) fun j h3 h4=>hn j (by omega) h4
theorem ER {cs:List Nat} {k:Nat} (hk:win cs k=true) (hn:∀ j,j<k→win cs j=false):xJ cs=(k,true):=
 q5 hk _ 0 (Nat.zero_le _) (by have:=DA hk;omega) fun j _ h=>hn j h
theorem sI {cs:List Nat}:∀ f i,(∀ j,i≤j→win cs j=false)→jS cs f i=(0,false)
 |0,_,_=>rfl
 |f+1,i,hn=>by
  simp only [jS];rw [if_neg (by rw [hn i (Nat.le_refl _)];decide)];exact sI f (i+1) fun j h=>hn j (by omega)
theorem HD {cs:List Nat} (hn:∀ j,j+4≤cs.length→win cs j=false):xJ cs=(0,false):=
 sI _ 0 fun j _=>by
  by_cases h:j+4≤cs.length
  ·exact hn j h
  ·simp [win,h]
def Run (cs:List Nat) (j s:Nat):Prop:=
 s≤3∧s≤j∧(0<j→0<s)∧(∀ t,t<s→cs.getD (j-1-t) 0=cs.getD (j-1) 0)∧(s<j→cs.getD (j-1-s) 0≠cs.getD (j-1) 0)∧∀ i,i+4≤j→win cs i=false
theorem Eh (cs:List Nat):Run cs 0 0:=⟨by omega,by omega,by omega,fun t h=>by omega,by omega,fun i h=>by omega⟩
theorem G8 {cs:List Nat} {j s:Nat} (h:Run cs j s) (hj:0<j) (hne:cs.getD j 0≠cs.getD (j-1) 0):Run cs (j+1) 1:=by
 obtain ⟨h1,h2,h3,h4,h5,h6⟩:=h;refine ⟨by omega,by omega,by omega,fun t ht=>?_,fun _=>?_,fun i hi=>?_⟩
 ·obtain rfl:t=0:=by omega
  rfl
 ·simpa using Ne.symm hne
 ·by_cases e:i+4≤j
  ·exact h6 i e
  ·obtain rfl:j=i+3:=by omega
   have:i+3-1=i+2:=by omega
   rw [this] at hne;simp only [win,Bool.and_eq_false_iff,beq_eq_false_iff_ne];by_cases e2:cs.getD (i+2) 0=cs.getD i 0
   ·right;rw [←e2];exact hne
   ·left;right;exact e2
theorem xx {cs:List Nat} {j s:Nat} (h:Run cs j s) (hj:j=0∨cs.getD j 0=cs.getD (j-1) 0) (hs:s+1≤3):Run cs (j+1) (s+1):=by
 obtain ⟨h1,h2,h3,h4,h5,h6⟩:=h;have e0:j+1-1=j:=by omega
 refine ⟨by omega,by omega,by omega,fun t ht=>?_,fun hlt=>?_,fun i hi=>?_⟩
 ·rw [e0];cases t with
  |zero=>rfl
  |succ t=>
   have:=h4 t (by omega);have e1:j-(t+1)=j-1-t:=by omega
   rw [e1,this];rcases hj with rfl | hj
   ·omega
   ·exact hj.symm
 ·rw [e0];have e1:j-(s+1)=j-1-s:=by omega
  rw [e1];rcases hj with rfl | hj
  ·omega
  ·rw [hj];exact h5 (by omega)
 ·by_cases e:i+4≤j
  ·exact h6 i e
  ·obtain rfl:j=i+3:=by omega
   have hs':s<i+3:=by omega
   have hne:=h5 hs';rcases hj with hj | hj
   ·omega
   ·refine Bool.eq_false_iff.2 fun hw=>?_
    simp only [win,Bool.and_eq_true,beq_iff_eq] at hw;obtain ⟨⟨⟨_,w1⟩,w2⟩,w3⟩:=hw;have hs2:s=0∨s=1∨s=2:=by omega
    have f1:i+3-1-0=i+2:=by omega
    have f2:i+3-1-1=i+1:=by omega
    have f3:i+3-1-2=i:=by omega
    have f4:i+3-1=i+2:=by omega
    rcases hs2 with rfl | rfl | rfl
    ·have:=h3 (by omega);omega
    ·rw [f2,f4] at hne;exact hne (by rw [w1,w2])
    ·rw [f3,f4] at hne;exact hne (by rw [w2])
theorem Ei {cs:List Nat} {j:Nat} (h:Run cs j 3) (hj:cs.getD j 0=cs.getD (j-1) 0) (hlt:j<cs.length):xJ cs=(j-3,true):=by
 obtain ⟨h1,h2,h3,h4,h5,h6⟩:=h;refine ER ?_ fun i hi=>h6 i (by omega)
 have a0:=h4 0 (by omega);have a1:=h4 1 (by omega);have a2:=h4 2 (by omega);have e1:j-3+1=j-1-1:=by omega
 have e2:j-3+2=j-1-0:=by omega
 have e3:j-3+3=j:=by omega
 have e4:j-3=j-1-2:=by omega
 simp only [win,Bool.and_eq_true,beq_iff_eq,decide_eq_true_eq];refine ⟨⟨⟨by omega,?_⟩,?_⟩,?_⟩
 ·rw [e1,a1,e4,a2]
 ·rw [e2,a0,e4,a2]
 ·rw [e3,hj,e4,a2]
theorem G9 {cs:List Nat} {s:Nat} (h:Run cs cs.length s):xJ cs=(0,false):=HD h.2.2.2.2.2
def Dx (xs:List Int):Prop:=∀ x∈xs,-9223372036854775808≤x∧x≤9223372036854775807
theorem x9 (xs:List Int) (j:Nat) (h:j<xs.length):(xs.map cls).getD j 0=cls (xs[j]):=by
 simp [List.getD,List.getElem?_eq_getElem h]
theorem El {w:World} {v:Value} {xs:List Int} (hr:Row w v (xs.map GH)):∃ A cap,v=.slice A xs.length cap∧
 (0<xs.length→∃ b o,A=some ⟨b,o,none⟩∧b<w.heap.size∧∀ i (h:i<xs.length),w.cell? ⟨b,o+i,none⟩=some (.int .i64 xs[i])):=by
 obtain ⟨A,cap,rfl,hp⟩:=hr;rw [List.length_map] at hp ⊢;refine ⟨A,cap,rfl,fun h0=>?_⟩;obtain ⟨b,o,hA,hb,hc⟩:=hp h0;refine ⟨b,o,hA,hb,fun i hi=>hc i _ ?_⟩;rw [List.getElem?_map,List.getElem?_eq_getElem hi];rfl
theorem JA {a b:Int} {c:Bool} (h:a=b):Ending.returned (.tuple #[.int .i64 a,.bool c])=.returned (.tuple #[.int .i64 b,.bool c]):=by rw [h]
def IG (w:World) (xs:List Int) (s i:Value) (wr:World):Prop:=
 ∃ (j m:Nat),j≤xs.length∧i=.int .i64 j∧s=.int .i64 m∧Run (xs.map cls) j m∧aj w wr
theorem ES (v:Value) (xs:List Int) (w:World) (hr:Row w v (xs.map GH)) (hf:Dx xs) (hlen:xs.length≤1000000000000) :
 Calls prog 52 #[v] w fun e w'=>e=.returned (.tuple #[.int .i64 ((xJ (xs.map cls)).1:Nat),.bool (xJ (xs.map cls)).2])∧aj w w':=by
 obtain ⟨A,cap,rfl,hrow⟩:=El hr
 go_enter Tryz.func52,Tryz.ntmps52
 go_wp2
 go_loopw [4,9] (IG w xs) (fun _ i _=>xs.length-(intOf i).toNat)
 case atStart=>exact ⟨0,0,by omega,rfl,rfl,Eh _,aj.rfl_⟩
 case round=>
  obtain ⟨j,m,hj,rfl,rfl,hrun,hw⟩:=hrel;have hm3:=hrun.1;have hmj:=hrun.2.1;by_cases hlt:j<xs.length
  ·obtain ⟨b,o,rfl,hb,hc⟩:=hrow (by omega);have d1:∀ w',aj w w'→w'.cell? ⟨b,o+j,none⟩=some (.int .i64 xs[j]):=fun w' h=>(h.cells b (o+j) hb).trans (hc j hlt)
   have f1:=(hf _ (List.getElem_mem hlt)).2;have g1:=x9 xs j hlt;by_cases hz:j=0
   ·have hm0:m=0:=by omega
    have hnew:=xx hrun (.inl hz) (by omega);have HN:=Lib.hid hnew;have hd:decide (0<j)=false:=by simp;omega
    have hm1:(m:Int)+1≤3:=by omega
    have i1:(0:Int)≤(j:Int):=by omega
    have i2:(j:Int)<(xs.length:Int):=by omega
    have h4:((m:Int)+1==4)=false:=by simp;omega
    clear hrun hc hrow hnew g1 hr hf hz hm0
    generalize xs[j]=x1 at*
    go_wp2_with fail
    go_quiet (fail)
    go_wp2
    go_roundw
    case rel=>exact ⟨j+1,m+1,by omega,by go_num,by go_num,HN.out,aj.dn (by assumption) _⟩
    case measure=>simp [intOf];omega
   ·obtain ⟨q,hq1⟩:∃ q,j=q+1:=⟨j-1,by omega⟩;have hq:q<xs.length:=by omega
    have d2:∀ w',aj w w'→w'.cell? ⟨b,o+q,none⟩=some (.int .i64 xs[q]):=fun w' h=>(h.cells b (o+q) hb).trans (hc q hq)
    have f2:=(hf _ (List.getElem_mem hq)).2;have g2:=x9 xs q hq;have eq1:j-1=q:=by omega
    have HQ:=Lib.hid hq1;have hs1:IntKind.i64.wrap ((j:Int)-1)=(q:Int):=by rw [IntKind.wrap_i64];omega
    have i1:(0:Int)≤(q:Int):=by omega
    have i2:(q:Int)<(xs.length:Int):=by omega
    have i3:decide (0<j)=true:=by simp;omega
    clear hz;by_cases hsame:cls (xs[j])=cls (xs[q])
    ·have hne:((cls (xs[j]):Int) != (cls (xs[q]):Int))=false:=by simp;omega
     by_cases h3:m=3
     ·subst h3;have hpl:=Ei hrun (by rw [eq1,g1,g2];exact hsame) (by simpa using hlt);have HP:=Lib.hid hpl;clear hrun hc hrow hpl g1 g2 hr hf hsame eq1 hq1
      generalize xs[j]=x1 at*
      generalize xs[q]=x2 at*
      go_wp2_with fail
      go_region_held3 (fun w'=>aj w w')
       (first | assumption | exact aj.d1 (by assumption) | exact aj.dn (by assumption) _ | exact aj.next (by assumption) (by assumption))
       (first | (go_at_call 83;refine (qN _ _ (by omega)).mono ?_;rintro e w1 ⟨rfl,rfl⟩))
      go_wp2
      go_ret2
      exact ⟨by rw [HP.out];exact JA (show (j:Int)+1-4=((j-3:Nat):Int) by omega),by assumption⟩
     ·have hnew:=xx hrun (.inr (by rw [eq1,g1,g2];exact hsame)) (by omega);have HN:=Lib.hid hnew;have h4:((m:Int)+1==4)=false:=by simp;omega
      have hm1:(m:Int)+1≤3:=by omega
      clear hrun hc hrow hnew g1 g2 hr hf hsame eq1 hq1
      generalize xs[j]=x1 at*
      generalize xs[q]=x2 at*
      go_wp2_with fail
      go_region_held3 (fun w'=>aj w w')
       (first | assumption | exact aj.d1 (by assumption) | exact aj.dn (by assumption) _ | exact aj.next (by assumption) (by assumption))
       (first | (go_at_call 83;refine (qN _ _ (by omega)).mono ?_;rintro e w1 ⟨rfl,rfl⟩))
      go_wp2
      go_roundw
      case rel=>exact ⟨j+1,m+1,by omega,by go_num,by go_num,HN.out,by assumption⟩
      case measure=>simp [intOf];omega
    ·have hnew:=G8 hrun (by omega) (by rw [eq1,g1,g2];exact hsame);have HN:=Lib.hid hnew;have hne:((cls (xs[j]):Int) != (cls (xs[q]):Int))=true:=by simp;omega
     clear hrun hc hrow hnew g1 g2 hr hf hsame eq1 hq1
     generalize xs[j]=x1 at*
     generalize xs[q]=x2 at*
     go_wp2_with fail
     go_region_held3 (fun w'=>aj w w')
      (first | assumption | exact aj.d1 (by assumption) | exact aj.dn (by assumption) _ | exact aj.next (by assumption) (by assumption))
      (first | (go_at_call 83;refine (qN _ _ (by omega)).mono ?_;rintro e w1 ⟨rfl,rfl⟩))
     go_wp2
     go_roundw
     case rel=>exact ⟨j+1,1,by omega,by go_num,by go_num,HN.out,by assumption⟩
     case measure=>simp [intOf];omega
  ·obtain rfl:j=xs.length:=by omega
   have hpl:=G9 (cs:=xs.map cls) (by simpa using hrun);have HP:=Lib.hid hpl;clear hpl hrun
   go_wp2
   go_ret2
   exact ⟨by rw [HP.out];rfl,hw⟩
def sm (cs:List Nat) (i:Nat):Nat→Bool
 |0=>true
 |t+1=>sm cs i t&&(cs.getD (i+(t+1)) 0==cs.getD i 0)
def LG (w:World) (xs:List Int) (i:Value) (wr:World):Prop:=
 ∃ j:Nat,j≤xs.length∧i=.int .i64 j∧(∀ q,q<j→win (xs.map cls) q=false)∧aj w wr
def Lu (w:World) (cs:List Nat) (i:Nat) (s k:Value) (wr:World):Prop:=
 ∃ t:Nat,t≤3∧k=.int .i64 ((t:Int)+1)∧s=.bool (sm cs i t)∧aj w wr
end Go.Proofs.YtcbakncjacnnjaaGreat
namespace Go.Proofs.YtcbakncjacnnjaaGreat
open Go.Proofs.Tryz (prog)
open Go.RowKit
open Go.ChangeShapes Go.WideShapes Go.ChangeAt
open Go.Proofs.YtcbakncjacnnjaaGreat.SA
theorem rf:gy prog 119=some (22,1,24,(.slice none 0 0)):=by kernel_rfl
theorem Ag:aH prog 84=true:=by kernel_rfl
def LL (w:World) (base:Nat) (vs:List Value) (qs:List Pt):Prop:=vs.length=qs.length∧∀ j (h:j<qs.length),∃ Aj cj,vs[j]? =some (.slice Aj qs[j].live.length cj)∧w.ownsRow base 37 2 (.slice Aj qs[j].live.length cj) qs[j].live.length (qs[j].live.flatMap dV)
theorem LL.from_ {w w':World} {base:Nat} {vs:List Value} {qs:List Pt} (h:LL w base vs qs) (hF:aj w w'):LL w' base vs qs:=⟨h.1,fun j hj=>by
 obtain ⟨A,c,h1,h2⟩:=h.2 j hj;exact ⟨A,c,h1,h2.kept_from hF⟩⟩
theorem LL.grown {w w':World} {base b2 e n c:Nat} {vs xs:List Value} {qs:List Pt} {A:Option Addr} (h:LL w base vs qs) (ho:w.ownsRow b2 e 1 (.slice A n c) n xs) (hne:37≠e) (hg:w.grownBy w' (A.map (·.block))):LL w' base vs qs:=⟨h.1,fun j hj=>by
 obtain ⟨B,c2,h1,h2⟩:=h.2 j hj;exact ⟨B,c2,h1,lA h2 hg (gh h2 ho hne).symm⟩⟩
theorem LL.snoc {w:World} {base:Nat} {vs:List Value} {qs:List Pt} {i:Nat} {A:Option Addr} {c:Nat} (hi:i<qs.length) (h:LL w base vs (qs.take i)) (ho:w.ownsRow base 37 2 (.slice A qs[i].live.length c) qs[i].live.length (qs[i].live.flatMap dV)):LL w base (vs++[.slice A qs[i].live.length c]) (qs.take (i+1)):=by
 have hvl:=h.1;rw [List.length_take] at hvl;refine ⟨by rw [List.length_append,List.length_take,List.length_singleton];omega,fun j hj=>?_⟩;rw [List.length_take] at hj;have hg:(qs.take (i+1))[j]'(by rw [List.length_take];omega)=qs[j]:=List.getElem_take ..;rw [hg];rcases Nat.lt_or_ge j i with e | e
 ·obtain ⟨A2,c2,h1,h2⟩:=h.2 j (by rw [List.length_take];omega);have hg2:(qs.take i)[j]'(by rw [List.length_take];omega)=qs[j]:=List.getElem_take ..;rw [hg2] at h1 h2;exact ⟨A2,c2,by rw [List.getElem?_append_left (by omega)];exact h1,h2⟩
 ·obtain rfl:j=i:=by omega
  exact ⟨A,c,by rw [List.getElem?_append_right (by omega),show j-vs.length=0 by omega];rfl,ho⟩
theorem LL.row {w:World} {base b2 n c:Nat} {vs:List Value} {qs:List Pt} {A:Option Addr} (h:LL w base vs qs) (ho:w.ownsRow b2 22 1 (.slice A n c) n vs):vg w A (qs.map Pt.live):=fun h0=>by
 rw [List.length_map] at h0;have hvl:=h.1;have hnl:vs.length=n*1:=ho.1;obtain ⟨g,rfl⟩:=dy ho (by omega);refine ⟨g,0,rfl,fun i hi=>?_⟩;rw [List.length_map] at hi;obtain ⟨B,c2,h1,h2⟩:=h.2 i hi;rw [List.getElem_map];refine ⟨B,c2,?_,(cN.own bH (by decide) h2).2,fun e=>by subst e;exact jC h2⟩;rw [ho.cellAt (0+i) (by omega),Nat.zero_add];exact h1
theorem lk (qs:List Pt):(qs.map Pt.live).flatten=qs.flatMap Pt.live:=(List.flatMap_def ..).symm
theorem By {ls:List (List Dc)} (h:mE ls=0):(mD ls).Perm ls.flatten:=by
 unfold mD;rw [if_pos h];exact (pb (IV h).2).2
theorem Hr {w:World} {base m c g:Nat} {ps:List Pt} (h:w.ownsRow base 66 2 (.slice (some ⟨g,0,none⟩) m c) m (ps.flatMap ptV)) (hP:∀ p∈ps,PtIn w p) (i k:Nat):∀ j (hj:j<((ps.drop i).take k).length),nw w g (0+i*2+j*2) ((ps.drop i).take k)[j]:=fun j hj=>by
 have hj2:=hj;rw [List.length_take,List.length_drop] at hj2;have e:((ps.drop i).take k)[j]=ps[i+j]'(by omega):=by rw [List.getElem_take,List.getElem_drop]
 rw [e,show 0+i*2+j*2=0+(i+j)*2 by omega];exact sF h hP _
theorem CA {cs:List Nat} (h:(xJ cs).2=true):(xJ cs).1+4≤cs.length:=by
 have key:∀ f i,(jS cs f i).2=true→(jS cs f i).1+4≤cs.length:=by
  intro f
  induction f with
  |zero=>intro i h;cases h
  |succ f ih=>
   intro i h;unfold jS at h ⊢;by_cases hw:win cs i=true
   ·rw [if_pos hw];exact DA hw
   ·rw [if_neg hw] at h ⊢;exact ih _ h
 exact key _ _ h
theorem vu {w:World} {B:Option Addr} {is:List Int} {c:Nat} (h:bU iV w B is):Row w (.slice B is.length c) (is.map GH):=by
 refine ⟨B,c,by rw [List.length_map],fun h0=>?_⟩;rw [List.length_map] at h0;obtain ⟨b,o,e,hc⟩:=h h0;refine ⟨b,o,e,World.block_lt_of_cell? w ⟨b,o+0,none⟩ (hc 0 h0),fun i u hu=>?_⟩;rw [List.getElem?_map] at hu
 obtain ⟨hi,he⟩:∃ hi:i<is.length,GH is[i]=u:=by
  rcases Nat.lt_or_ge i is.length with hlt | hge
  ·rw [List.getElem?_eq_getElem hlt] at hu;exact ⟨hlt,by simpa using hu⟩
  ·rw [List.getElem?_eq_none hge] at hu;cases hu
 rw [←he];exact hc i hi
theorem ET (B:Option Addr) (c n:Nat) (is:List Int) (w:World) (hr:bU iV w B is) (hn:n=is.length) (hf:Dx is) (hl:is.length≤1000000000000):Rt prog 52 [.slice B n c] w fun v w'=>(∃ (i:Nat) (ok:Bool),v=.tuple #[.int .i64 (i:Nat),.bool ok]∧(ok=true→i+4≤is.length))∧aj w w':=by
 subst hn;exact (Rt.of (ES _ is w (vu hr) hf hl)).mono fun v w' h=>⟨⟨_,_,h.1,fun hk=>by have:=CA hk;rwa [List.length_map] at this⟩,h.2⟩
theorem zc (c n g o:Nat) (qs:List Pt) (w:World) (hn:n=qs.length) (hq:∀ i (hi:i<qs.length),nw w g (o+i*2) qs[i]) (hf:(qs.flatMap Pt.live).length≤64) (hl:n≤64) :
 Rt prog 53 [.slice (some ⟨g,o,none⟩) n c] w (fun v w'=>((∃ e:Int,e≠0∧v=.tuple #[.pointer none,.int .i64 e])∨∃ lo s0 M,w.heap.size≤lo∧v=.tuple #[.pointer (some ⟨s0,0,none⟩),.int .i64 0]∧jc w' lo s0 M∧M.Perm (qs.flatMap Pt.live))∧aj w w'):=by
 refine enter (n:=33) Tryz.func53 rfl rfl rfl (ag (aa (asp rfl (asi rfl (ah (ae (ag (aa (ass rfl (ah (ae (ag (ag (aa (mvs rfl (ab (aU dw rfl) ?_))))))))))))))));refine mvi rfl (ah (ae (az (bg (G:=Nat×Option Addr×Nat×List Value) [5,11,12,13,14,15,16,17,18,19,20] (fun (i,A4,c4,_)=>[(4,.slice A4 i c4),(10,.int .i64 (i:Nat))]) (fun (i,A4,c4,vs) w'=>i≤n∧w'.ownsRow w.heap.size 22 1 (.slice A4 i c4) i vs∧LL w' w.heap.size vs (qs.take i)∧aj w w') (fun (i,_,_,_)=>n-i) ((0,none,0,[])) ⟨rfl,rfl,trivial⟩ ?_ ?_))))
 ·exact ⟨Nat.zero_le _,World.ownsRow_nil _ _ _ _,⟨rfl,fun j hj=>absurd hj (by simp)⟩,aj.rfl_⟩
 rintro ⟨i,A4,c4,vs⟩ ρ1 w1 ⟨hi,ho4,hLL,hB⟩;refine ag (aa (ab (aY rfl rfl) (ah (ae (ag (K8 rfl (fun Q2=>?_) (fun Q2=>?_)))))))
 ·have hil:i<qs.length:=by omega
  refine au (ae (ag (az (ag (aa (mvi rfl (asi rfl (ah (ae (aa (mvs rfl (mvs rfl (mvi rfl (ab (aG cM rfl rfl (by omega)) ?_))))))))))))));have hz17:=(hB).size;refine ax mn (rQ g (o+i*2) qs[i] _ ((hq i hil).from_ hB)) ?_;rintro v17 w3 ⟨⟨A17,c17,rfl,ho17⟩,E17⟩;refine gk (v:=.slice _ _ _) rf rfl rfl rfl ?_;intro b18 w4 E18 hb18 hk18;refine cR rf rfl (by decide) rfl (A:=A4) (xs:=vs) (news:=[.slice A17 qs[i].live.length c17]) (ho4.kept_from ((aj.rfl_.next E17).next E18)) (((hB.next E17).next E18).size) rfl rfl (fun _=>⟨b18,0,rfl,hk18.whole⟩) (fun h=>by cases h) (by simp [Value.oneCell']) (by omega) (by omega) ?_;intro A19 c19 w5 ho19 hg19;have HF19:=(((hB.next E17).next E18)).grew hg19 (fun k hk=>(bM (ho4.kept_from ((aj.rfl_.next E17).next E18)) k hk).1);have hLL19:=((hLL.from_ ((aj.rfl_.next E17).next E18)).snoc hil (fD (ho17.kept_from E18) hz17)).grown (ho4.kept_from ((aj.rfl_.next E17).next E18)) (by decide) hg19;refine ass rfl (ah (aL (ae (aa (ab (aI (b:=1) rfl rfl (by omega)) (mvi rfl (ah ?_)))))));refine aO ((i+1,A19,c19,vs++[.slice A17 qs[i].live.length c17])) ⟨(by first | rfl | (refine aM ?_;omega)),(by first | rfl | (refine aM ?_;omega)),trivial⟩ (by (iterate 26 refine aB rfl ?_);exact aK) ⟨?_,?_⟩
  ·exact ⟨by omega,ho19,hLL19,HF19⟩
  ·show n-(i+1)<n-i;omega
 obtain rfl:i=n:=by omega
 rw [List.take_of_length_le (by omega)] at hLL;have hfl:((qs.map Pt.live).flatten).length≤64:=by rw [lk];exact hf
 have hml:=JL hfl;refine aZ (aC (aC (aT (ae (ag (aa (mvs rfl (ax Ag (Fg A4 c4 i (qs.map Pt.live) _ (hLL.row ho4) (by rw [List.length_map];exact hn) (by omega) (by omega)) ?_))))))));rintro v23 w6 ⟨⟨A23,c23,rfl,ho23⟩,E23⟩;refine mvt rfl (ab (aw rfl rfl) (ab (aw rfl rfl) (ass rfl (asi rfl (ah (ae (ag (ag (aa (mvi rfl (ab (bP rfl rfl) (ah (ae ?_)))))))))))));refine L_ rfl (fun Q7=>?_) (fun Q7=>?_)
 ·have hee:mE (qs.map Pt.live)≠0:=by simpa using Q7
  refine ag (aa (mvi rfl (asp rfl (asi rfl (ah (ae (aA (aF (cZ (v:=.pointer _) (v':=.int _ _) rfl rfl rfl (⟨.inl ⟨_,hee,rfl⟩,(hB.next E23)⟩))))))))))
 have hee:mE (qs.map Pt.live)=0:=by simpa using Q7
 refine au (ae (ag (aa (mvs rfl ?_))));have hz30:=((hB.next E23)).size;refine ax qR (Fb A23 c23 (mD (qs.map Pt.live)).length (mD (qs.map Pt.live)) _ (cN.own bH (by decide) ho23).2 rfl (by omega) (sO ho23)) ?_;rintro v30 w8 ⟨hs30,E30⟩;rcases hs30 with ⟨hck,rfl⟩ | ⟨hck,s0,rfl,hsg⟩
 ·refine ab (aw rfl rfl) (ab (aw rfl rfl) (asp rfl (asi rfl (ah (ae (aA (cZ (v:=.pointer _) (v':=.int _ _) rfl rfl rfl ?_)))))))
  first
   |exact ⟨.inl ⟨_,hck,rfl⟩,((hB.next E23).next E30)⟩
   |exact ⟨.inr ⟨_,s0,_,hz30,rfl,hsg,by rw [←lk];exact By hee⟩,((hB.next E23).next E30)⟩
 refine ab (aw rfl rfl) (ab (aw rfl rfl) (asp rfl (asi rfl (ah (ae (aA (cZ (v:=.pointer _) (v':=.int _ _) rfl rfl rfl ?_)))))))
 first
  |exact ⟨.inl ⟨_,hck,rfl⟩,((hB.next E23).next E30)⟩
  |exact ⟨.inr ⟨_,s0,_,hz30,rfl,hsg,by rw [←lk];exact By hee⟩,((hB.next E23).next E30)⟩
end Go.Proofs.YtcbakncjacnnjaaGreat
