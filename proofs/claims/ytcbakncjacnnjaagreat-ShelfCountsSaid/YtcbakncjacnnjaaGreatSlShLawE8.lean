/- The law ShelfCounts. -/
import Derived.Test.YtcbakncjacnnjaaGreatSlShLawE7
import Derived.HandedShaped
set_option maxRecDepth 100000
set_option maxHeartbeats 4000000
namespace Go.Proofs.YtcbakncjacnnjaaGreat
open Go.Proofs.Tryz (prog)
open Go.RowKit
open Go.ChangeShapes Go.WideShapes Go.ChangeAt
open Go.Proofs.YtcbakncjacnnjaaGreat.SA
theorem yD:aH prog 52=true:=by kernel_rfl
theorem yC:aH prog 53=true:=by kernel_rfl
theorem nX:∀ (a0:Option Addr),prog.built 66 [(0,.pointer a0)]=some #[.pointer a0,.slice none 0 0]:=by intros;kernel_rfl
theorem rh:aH prog 54=true:=by kernel_rfl
theorem vH {U:Nat→Prop} {w w' w2:World} {k:Nat} (h:w'.heap.size≤w2.heap.size) (hk:Nx U w w' k):Nx U w w2 k:=hk.imp id fun h2=>⟨h2.1,by omega⟩
theorem nD {ps:List Pt} {i:Nat} (hi:i+4≤ps.length) (q:Pt):(ps.take i++q::ps.drop (i+4)).length=ps.length-3:=by
 rw [List.length_append,List.length_take,List.length_cons,List.length_drop];omega
theorem xD {ps:List Pt} {i:Nat} (lo hi s0:Nat) (M:List Dc):(ps.flatMap ptV).take (i*2)++[.pointer (some ⟨s0,0,none⟩),.slice none 0 0]++(ps.flatMap ptV).drop ((i+4)*2)=(ps.take i++Pt.of lo hi s0 M::ps.drop (i+4)).flatMap ptV:=by
 rw [iC kQ,jl kQ,List.flatMap_append,List.flatMap_cons,List.append_assoc];rfl
theorem uQ {ps:List Pt} {i:Nat} (q:Pt) (hq:q.A=none) (h:ps.Pairwise fun a b=>fy a.A b.A):(ps.take i++q::ps.drop (i+4)).Pairwise fun a b=>fy a.A b.A:=by
 have hx:ps.take i++ps.drop (i+4)=ps.take i++(ps.drop i).drop 4:=by rw [List.drop_drop]
 have h2:(ps.take i++ps.drop (i+4)).Pairwise fun a b=>fy a.A b.A:=by
  rw [hx];exact List.Pairwise.sublist (List.Sublist.append (List.Sublist.refl _) (List.drop_sublist ..)) (by rw [List.take_append_drop];exact h)
 rw [List.pairwise_append] at h2 ⊢;refine ⟨h2.1,List.pairwise_cons.2 ⟨fun b _=>by rw [hq];exact fy.none_,h2.2.1⟩,fun a ha b hb=>?_⟩;rcases List.mem_cons.1 hb with rfl | hb
 ·rw [hq];exact fy.none_.symm
 ·exact h2.2.2 a ha b hb
theorem Bm {ps:List Pt} {i:Nat} {q p:Pt} (h:p∈ps.take i++q::ps.drop (i+4)):p∈ps∨p=q:=by
 rcases List.mem_append.1 h with h | h
 ·exact .inl (List.mem_of_mem_take h)
 ·rcases List.mem_cons.1 h with h | h
  ·exact .inr h
  ·exact .inl (List.mem_of_mem_drop h)
theorem u4 {ps:List Pt} {L D:List Dc} (hG:ShG ps L D) {i:Nat} (hi:i+4≤ps.length) {M:List Dc} (hM:M.Perm (((ps.drop i).take 4).flatMap Pt.live)):M≠[]:=fun e=>by
 have h1:=ow (ps:=(ps.drop i).take 4) fun p hp=>(hG.part p (List.mem_of_mem_drop (List.mem_of_mem_take hp))).2.2
 have h2:=hM.length_eq;rw [e] at h2;rw [List.length_take,List.length_drop] at h1;simp only [List.length_nil] at h2;omega
theorem Il {ps:List Pt} {L D:List Dc} (hG:ShG ps L D) (i:Nat):(((ps.drop i).take 4).flatMap Pt.live).length≤64:=by
 have h1:=hG.len;have e:ps.flatMap Pt.live=(ps.take i).flatMap Pt.live++(((ps.drop i).take 4).flatMap Pt.live++((ps.drop i).drop 4).flatMap Pt.live):=by rw [←List.flatMap_append,List.take_append_drop,←List.flatMap_append,List.take_append_drop]
 rw [e,List.length_append,List.length_append] at h1;omega
theorem Io {is:List Int} {k:Nat} {x:Int} (h:Dx is) (h0:-9223372036854775808≤x) (h1:x≤9223372036854775807):Dx (is.set k x):=fun y hy=>by
 rcases List.mem_or_eq_of_mem_set hy with e | e
 ·exact h y e
 ·rw [e];exact ⟨h0,h1⟩
theorem FO (n:Nat):Dx (List.replicate n 0):=fun x hx=>by rw [(List.mem_replicate.1 hx).2];omega
theorem JZ (is:List Int) (k:Nat) (x:Int):(is.map iV).toArray.setIfInBounds (0+k) (.int .i64 x)=((is.set k x).map iV).toArray:=by
 rw [Nat.zero_add,List.setIfInBounds_toArray,List.map_set]
theorem J0 (n:Nat):(List.replicate n (Value.int .i64 0)).toArray=((List.replicate n (0:Int)).map iV).toArray:=by rw [List.map_replicate]
theorem Em {w:World} {g:Nat} {t:TypeId} {is:List Int} (h:Blk w g t (is.map iV).toArray):bU iV w (some ⟨g,0,none⟩) is:=fun _=>⟨g,0,rfl,fun i hi=>by
 have:=h.rd i (v:=iV is[i]) (by simp [hi]);rw [Nat.zero_add];exact this⟩
theorem iF (U:Nat→Prop) (s:Nat) (D:List Dc) (w:World) (hs:eC w U s D) :
 Rt prog 25 [.pointer (some ⟨s,0,none⟩)] w (fun _ w'=>eC w' (Nx U w w') s D∧Chg U w w'):=by
 have hs0:=hs;obtain ⟨ps0,L0,Ap0,cp0,Al0,cl0,hG0,h0,hU0⟩:=hs;refine enter (n:=69) Tryz.func25 rfl rfl rfl (az (bg (G:=Nat) (2::3::4::5::6::7::8::9::10::11::12::13::14::15::16::17::18::19::20::21::22::23::24::25::26::27::28::29::30::31::32::33::34::35::36::37::38::39::40::41::42::43::44::45::46::47::48::49::50::51::52::53::54::55::56::57::58::59::60::61::62::63::64::65::66::67::68::[]) (fun _=>[]) (fun m w'=>(∃ ps L Ap cp Al cl,ShG ps L D∧ShH w' ps L s Ap cp Al cl∧(∀ k,qU s Ap Al ps k→Nx U w w' k)∧ps.length=m)∧Chg U w w') (fun m=>m) (ps0.length) trivial ?_ ?_))
 ·exact ⟨⟨ps0,L0,Ap0,cp0,Al0,cl0,hG0,h0,fun k hk=>.inl (hU0 k hk),rfl⟩,Chg.rfl_⟩
 rintro m ρ1 w1 ⟨⟨ps,L,Ap,cp,Al,cl,hG,h,hU,hm⟩,hC⟩;have hpl:=hG.parts;subst hm;refine az (ag (aa (mvp rfl (ab (ay rfl) (ab (ak cB rfl) (ab (aq ee rfl (by exact (h.blk.from_ (aj.rfl_ (a:=w1))).rd 0 rfl)) ?_))))));refine ab (aU dw rfl) (hZ er rfl rfl rfl (by omega) (by omega) ?_);intro b13 w2 E13 hb13 hk13;have hg13:=Nat.le_trans ((aj.rfl_ (a:=w1))).size (Nat.le_of_eq hb13.symm);refine ass rfl (ah (ae (ag (ag (aa (mvp rfl (ab (ay rfl) (ab (ak cB rfl) (ab (aq ee rfl (by exact (h.blk.from_ ((aj.rfl_ (a:=w1)).next E13)).rd 0 rfl)) ?_)))))))));refine ab (aU dw rfl) (mvi rfl (ah (ae (az (bg (G:=Nat×List Int) [3,20,21,22,23,24,25,26,27,28,29,30,31,32,33] (fun (k,_)=>[(19,.int .i64 (k:Nat))]) (fun (k,is) w'=>k≤ps.length∧is.length=ps.length∧Dx is∧Blk w' b13 3 (is.map iV).toArray∧aj w1 w') (fun (k,_)=>ps.length-k) ((0,List.replicate ps.length 0)) ⟨rfl,trivial⟩ ?_ ?_)))))
 ·exact ⟨Nat.zero_le _,List.length_replicate,FO _,by rw [←J0];exact hk13,((aj.rfl_ (a:=w1)).next E13)⟩
 rintro ⟨k,is⟩ ρ3 w3 ⟨hkn,hil,hfit,hI,hB⟩;refine ag (aa (ab (aY rfl rfl) (ah (ae (ag (K8 rfl (fun Q4=>?_) (fun Q4=>?_)))))))
 ·have hkl:k<ps.length:=by omega
  obtain ⟨g,rfl⟩:=dy h.rowP (by omega);have hlf:=hG.liveFit (List.getElem_mem hkl);have hlf1:=hlf.1;have hlf2:=hlf.2.2;refine au (ae (ag (az (ag (aa (mvi rfl (asi rfl (ah (ae (aa (mvs rfl (mvi rfl (mvp rfl (ab (ay rfl) (ab (ak cB rfl) ?_)))))))))))))));refine ab (aq ee rfl (by exact (h.blk.from_ hB).rd 0 rfl)) ?_;refine mvi rfl (ab (aG cM rfl rfl (by omega)) (ax mn (rQ g (0+k*2) ps[k] _ ((sF h.rowP (fun p hp=>h.ptIn hG hp) hkl).from_ hB)) ?_));rintro v30 w5 ⟨⟨A30,c30,rfl,ho30⟩,E30⟩;refine ax oX (lQ A30 c30 ps[k].live.length ps[k].live _ (cN.own bH (by decide) ho30).2 rfl (by omega) (by omega)) ?_;rintro v31 w6 ⟨rfl,E31⟩;refine ab (bm cf rfl rfl (by omega)) ?_;refine b_ (v:=.int _ _) cE rfl rfl rfl (hI.from_ ((aj.rfl_.next E30).next E31)) (by show 0+k<((is.map iV).toArray).size;simp;omega) ?_;intro w7 O4 P4;refine ah (aL (ae (aa (ab (aI (b:=1) rfl rfl (by omega)) (mvi rfl (ah ?_))))));refine aO ((k+1,is.set k ((dsz ps[k].live:Nat):Int))) ⟨(by first | rfl | (refine aM ?_;omega)),trivial⟩ (by (iterate 32 refine aB rfl ?_);exact aK) ⟨?_,?_⟩
  ·exact ⟨by omega,by rw [List.length_set];exact hil,Io hfit (by omega) (by omega),by rw [←JZ];exact P4,(((hB.next E30).next E31).only O4 (hg13))⟩
  ·show ps.length-(k+1)<ps.length-k;omega
 refine aZ (aC (aC (aT (ae (ag (aa (mvs rfl (ax yD (ET (some ⟨b13,0,none⟩) ps.length ps.length is _ (Em (hI.from_ aj.rfl_)) hil.symm hfit (by omega)) ?_))))))));rintro v36 w8 ⟨⟨i,ok,rfl,hroom⟩,E36⟩;refine mvt rfl (ab (aw rfl rfl) (ab (aw rfl rfl) (asi rfl (asb rfl (ah (ae (ag (ag (aa (mvb rfl (ab (ff rfl) (ah (ae ?_)))))))))))));refine Ma rfl (fun Q9=>?_) (fun Q9=>?_)
 ·refine aA (aF (bq (aF (bq (kp rfl (⟨⟨ps,L,_,cp,Al,cl,hG,h.from_ (hB.next E36),fun k hk=>vH ((hB.next E36)).size (hU k hk)⟩,hC.next ((hB.next E36)).toChg⟩))))))
 have hi4:i+4≤ps.length:=by have:=hroom (by simpa using Q9);omega
 obtain ⟨g,rfl⟩:=dy h.rowP (by omega);have hcap:=l3 h.rowP;refine au (ae (ag (aa (mvp rfl (ab (ay rfl) (ab (ak cB rfl) (ab (aq ee rfl (by exact (h.blk.from_ (hB.next E36)).rd 0 rfl)) ?_)))))));refine mvi rfl (mvi rfl (ab (aI (b:=4) rfl rfl (by omega)) (ab (eE (v':=.slice (some ⟨g,0+i*2,none⟩) 4 (cp-i)) (bw (l:=i) (h:=i+4) cM rfl (.inr ⟨_,_,_,rfl,rfl,rfl⟩) (.inr ⟨_,_,_,rfl,rfl,rfl⟩) (by omega) (by omega)) (by rw [cw (by omega),show i+4-i=4 by omega])) ?_)));have hz50:=((hB.next E36)).size;obtain ⟨qs,hqs⟩:∃ qs,qs=(ps.drop i).take 4:=⟨_,rfl⟩;have hq4:4=qs.length:=by rw [hqs,List.length_take,List.length_drop];omega
 have hqp:∀ j (hj:j<qs.length),nw w8 g (0+i*2+j*2) qs[j]:=by
  intro j hj;subst hqs;exact (Hr h.rowP (fun p hp=>h.ptIn hG hp) i 4 j hj).from_ (hB.next E36)
 have hqf:(qs.flatMap Pt.live).length≤64:=by rw [hqs];exact Il hG i
 refine ax yC (zc (cp-i) 4 g (0+i*2) qs _ hq4 hqp hqf (by decide)) ?_;rintro v50 w10 ⟨hs50,E50⟩;rcases hs50 with ⟨e50,hne50,rfl⟩ | ⟨lo0,s0,M,hlo0,rfl,hsg,hM⟩
 ·have hb33:(e50 != 0)=true:=by simpa using hne50
  refine mvt rfl (ab (aw rfl rfl) (ab (aw rfl rfl) (asp rfl (asi rfl (ah (ae (ag (ag (aa (mvi rfl (ab (bP rfl rfl) (ah (ae ?_)))))))))))));refine L_ rfl (fun Q11=>?_) (fun Q11=>?_)
  ·refine aA (aF (bq (aF (bq (kp rfl (⟨⟨ps,L,_,cp,Al,cl,hG,h.from_ ((hB.next E36).next E50),fun k hk=>vH (((hB.next E36).next E50)).size (hU k hk)⟩,hC.next (((hB.next E36).next E50)).toChg⟩))))))
  first
   |(exfalso; first | (first | omega | (simp [hb33] at *; done); trace "@MK D iF:c20-.c40-.f50.0.c54- 1") | (contradiction; trace "@MK D iF:c20-.c40-.f50.0.c54- 2") | ((cases Q11; done); trace "@MK D iF:c20-.c40-.f50.0.c54- 3"))
   |(trace "@MK D iF:c20-.c40-.f50.0.c54- 0")
    refine au (ae (aa (mvp rfl (mvp rfl (ab (ay rfl) (ab (ak cB rfl) (ab (aq ee rfl (by exact (h.blk.from_ ((hB.next E36).next E50)).rd 0 rfl)) ?_)))))));refine mvi rfl (mvi rfl (ab (aI (b:=4) rfl rfl (by omega)) (mvp rfl (ab (cS (l:=[(0,.tmp 63)]) (nX _)) ?_))));have hs65:=(((hB.next E36).next E50)).size;refine fA fF rfl rfl rfl ?_;intro b65 w12 E65 hb65 hk65;have hF66:=(((hB.next E36).next E50).next E65);have hsk2:=hsk.from_ ((aj.rfl_.next E65));refine ax rh (qZ 0 (some ⟨g,0,none⟩) cp ps.length i b65 1 (ps.flatMap ptV) [.pointer (some ⟨s0,0,none⟩),.slice none 0 0] _ _ _ (h.rowP.kept_from (((hB.next E36).next E50).next E65)) hi4 rfl hk65.whole hk65 (fun k hk=>by have:=(bM h.rowP k hk).2;omega) (vB ps) (by simp [Value.oneCell']) (by omega)) ?_;rintro v66 w13 ⟨⟨A66,c66,rfl,ho66,hA66⟩,hg66⟩;have hb66:=(h.blk.from_ hF66).grown hg66 (dB (h.rowP.kept_from hF66) (h.blk.from_ hF66) (by decide));refine ab (ay rfl) (ab (ak cB rfl) (b_ (v:=.slice _ _ _) jq rfl rfl rfl (hb66) (by show 0<2;decide) ?_));intro w14 O10 P10;refine ah (aL ?_);refine aO (ps.length-3) trivial (by (iterate 136 refine aB rfl ?_);exact aK) ⟨?_,?_⟩
    ·obtain ⟨q1,q2,q3⟩:=qk (ps':=ps.take i++Pt.of lo hi s0 M::ps.drop (i+4)) (L':=L) h hU hF66 ((Chg.of_grown hg66 (fun k e=>.inr e)).only O10 (.inl rfl)) (by rw [nD hi4];exact P10) (by rw [nD hi4,←xD];exact cG ho66 O10 (dB ho66 hb66 (by decide))) (fun k hk=>.inl (hA66 k hk)) (.inl ⟨rfl,rfl,rfl⟩) (fun p hp=>(Bm hp).imp id fun e=>by rw [e];exact ⟨rfl,rfl,rfl,hsk2,hlo⟩) (uQ _ rfl h.apart);exact ⟨⟨_,L,A66,c66,Al,cl,hG.tidy hi4 lo hi s0 hM (u4 hG hi4 hM),q1,fun k hk=>Nx.trans hC.size q3.size (q2 k hk),nD hi4 _⟩,hC.trans q3 fun k hk=>hk.imp id fun h=>h.1⟩
    ·show ps.length-3<ps.length;omega
 rw [hqs] at hM;obtain ⟨lo,hi,hlo,hhi,hsk⟩:=kF.ex hsg (Nat.le_trans hz50 hlo0);refine mvt rfl (ab (aw rfl rfl) (ab (aw rfl rfl) (asp rfl (asi rfl (ah (ae (ag (ag (aa (mvi rfl (ab (bP rfl rfl) (ah (ae ?_)))))))))))));refine L_ rfl (fun Q15=>?_) (fun Q15=>?_)
 ·first
   |(exfalso; first | (first | omega | (simp [hb33] at *; done); trace "@MK D iF:c20-.c40-.f50.1.c54+ 1") | (contradiction; trace "@MK D iF:c20-.c40-.f50.1.c54+ 2") | ((cases Q15; done); trace "@MK D iF:c20-.c40-.f50.1.c54+ 3"))
   |(trace "@MK D iF:c20-.c40-.f50.1.c54+ 0")
    refine aA (aF (bq (aF (bq (kp rfl (⟨⟨ps,L,_,cp,Al,cl,hG,h.from_ ((hB.next E36).next E50),fun k hk=>vH (((hB.next E36).next E50)).size (hU k hk)⟩,hC.next (((hB.next E36).next E50)).toChg⟩))))))
 refine au (ae (aa (mvp rfl (mvp rfl (ab (ay rfl) (ab (ak cB rfl) (ab (aq ee rfl (by exact (h.blk.from_ ((hB.next E36).next E50)).rd 0 rfl)) ?_)))))));refine mvi rfl (mvi rfl (ab (aI (b:=4) rfl rfl (by omega)) (mvp rfl (ab (cS (l:=[(0,.tmp 63)]) (nX _)) ?_))));have hs65:=(((hB.next E36).next E50)).size;refine fA fF rfl rfl rfl ?_;intro b65 w16 E65 hb65 hk65;have hF66:=(((hB.next E36).next E50).next E65);have hsk2:=hsk.from_ ((aj.rfl_.next E65));refine ax rh (qZ 0 (some ⟨g,0,none⟩) cp ps.length i b65 1 (ps.flatMap ptV) [.pointer (some ⟨s0,0,none⟩),.slice none 0 0] _ _ _ (h.rowP.kept_from (((hB.next E36).next E50).next E65)) hi4 rfl hk65.whole hk65 (fun k hk=>by have:=(bM h.rowP k hk).2;omega) (vB ps) (by simp [Value.oneCell']) (by omega)) ?_;rintro v66 w17 ⟨⟨A66,c66,rfl,ho66,hA66⟩,hg66⟩;have hb66:=(h.blk.from_ hF66).grown hg66 (dB (h.rowP.kept_from hF66) (h.blk.from_ hF66) (by decide));refine ab (ay rfl) (ab (ak cB rfl) (b_ (v:=.slice _ _ _) jq rfl rfl rfl (hb66) (by show 0<2;decide) ?_));intro w18 O10 P10;refine ah (aL ?_);refine aO (ps.length-3) trivial (by (iterate 136 refine aB rfl ?_);exact aK) ⟨?_,?_⟩
 ·obtain ⟨q1,q2,q3⟩:=qk (ps':=ps.take i++Pt.of lo hi s0 M::ps.drop (i+4)) (L':=L) h hU hF66 ((Chg.of_grown hg66 (fun k e=>.inr e)).only O10 (.inl rfl)) (by rw [nD hi4];exact P10) (by rw [nD hi4,←xD];exact cG ho66 O10 (dB ho66 hb66 (by decide))) (fun k hk=>.inl (hA66 k hk)) (.inl ⟨rfl,rfl,rfl⟩) (fun p hp=>(Bm hp).imp id fun e=>by rw [e];exact ⟨rfl,rfl,rfl,hsk2,hlo⟩) (uQ _ rfl h.apart);exact ⟨⟨_,L,A66,c66,Al,cl,hG.tidy hi4 lo hi s0 hM (u4 hG hi4 hM),q1,fun k hk=>Nx.trans hC.size q3.size (q2 k hk),nD hi4 _⟩,hC.trans q3 fun k hk=>hk.imp id fun h=>h.1⟩
 ·show ps.length-3<ps.length;omega
end Go.Proofs.YtcbakncjacnnjaaGreat
namespace Go.Proofs.YtcbakncjacnnjaaGreat
open Go.Proofs.Tryz (prog)
open Go.ChangeShapes Go.WideShapes Go.ChangeAt Go.RowKit
theorem jL {H:Type} {enc:TypeId×Value→H} (F:FuncId) (f:Func) (T Tb:TypeId) (s:ChangeSpec) (hp:f.params=#[T]) (hr:f.resultTypes=#[Tb]) (hTb:prog.underlying Tb=some .bool)
 (hvars:s.vars=[]) (hfn:∀ d:DataW H,s.fn H [d]={ results:=[.lit (.bool true)],args:=[d] }) (hrec:prog.readableRec T=true) (hrow:T<prog.types.size)
 (walk:∀ (W:World) (base:Nat) (v:Value) (d:DataW H) (p:List MemPlace),W.ShapedOpen prog→Value.okWide prog W .any base T v→DataW.Trod enc prog W 0 (fun _=>true) true T v d p→(∀ n∈d.weights prog T,n≤140737488351232)→
  Calls prog F #[v] W fun e W'=>e=.returned (.bool true)∧aj W W')
 (W:World) (base:Nat) (args:Array Value) (ds gs:List (DataW H)) (before:List MemPlace)
 (hval0:∀ (j:Nat) t v,f.params[j]? =some t→args[j]? =some v→Value.okWide prog W .any base t v)
 (hW:DataW.Whole enc prog f.params.toList s.vars false W args.toList ds gs before)
 (hsz:(DataW.weightsEach prog (f.params.toList++s.plain.varTypes prog) (ds++gs)).all (·≤reachBytes)=true) (hS:W.ShapedOpen prog) :
 Calls prog F args W fun e W'=>∃ v,e=.returned v∧s.post enc prog f false true false false W args v W':=by
 have hlt:∀ x∈before,x.block<W.heap.size:=fun x hx=>hW.lt x hx
 have hW':=hW;obtain ⟨p,q,hA,hV,rfl,hfz,hnd⟩:=hW;rw [hp] at hA hval0 hsz;rw [hvars] at hV;obtain ⟨v0,d0,rfl,rfl,h0⟩:=trodAll_one hA;obtain ⟨rfl,rfl⟩:=trodVars_none hV;simp only [List.append_nil] at hW' hlt;refine (walk W base v0 d0 p hS (hval0 0 T v0 rfl rfl) h0 (fun n hn=>Nat.le_trans (by simpa using List.all_eq_true.1 hsz n (DataW.weights_mem_each (j:=0) (t:=T) (d:=d0) rfl rfl n hn)) (show reachBytes≤140737488351232 by decide))).mono fun e W' ⟨he,hb⟩=>?_
 subst he;refine ⟨_,rfl,uv (pa:=p) (pv:=[]) hW' ?_ ?_ ?_ (by simp) hb ?_⟩
 ·intro b sp hd;rw [List.append_nil,hfn,hr];exact trodAll_mk1 (shut_bool hTb _)
 ·intro sp hsp;rw [List.append_nil,hfn,hp];exact trodAll_mk1 (WideElems.Trod_stays Tryz.laidOut hrec hrow h0 (fun x hx=>hb.same (hlt x hx)) hsp)
 ·intro sp hsp;rw [List.append_nil,hfn,hvars];simp [DataW.TrodVars]
 ·exact ok_one hr rfl (okWide_bool_mk hTb _)
theorem ic {H:Type} {enc:TypeId×Value→H} {F:FuncId} {T:TypeId} (t u:Ty) (hf:(Ty.pr t u).fits prog (.inl T)=true)
 (h:∀ (cs:Array Value) (x:(Ty.pr t u).den) (w:World),w.ShapedOpen prog→cs.size=(Ty.pr t u).size→(Ty.pr t u).At w (fun j=>cs[j]?) x→Rt prog F [.agg cs] w fun v w'=>v=.bool true∧aj w w')
 (W:World) (base:Nat) (v:Value) (d:DataW H) (p:List MemPlace) (hS:W.ShapedOpen prog) (hok:Value.okWide prog W .any base T v) (ht:DataW.Trod enc prog W 0 (fun _=>true) true T v d p) (hsz:∀ n∈d.weights prog T,n≤140737488351232) :
 Calls prog F #[v] W fun e W'=>e=.returned (.bool true)∧aj W W':=by
 obtain ⟨cs,x,rfl,hs,ha⟩:=Kr t u hf hok ht hsz;exact Rt.to (h cs x W hS hs ha)
end Go.Proofs.YtcbakncjacnnjaaGreat
namespace Go.Proofs.YtcbakncjacnnjaaGreat
open Go.Proofs.Tryz (prog)
open Go.RowKit
open Go.ChangeShapes Go.WideShapes Go.ChangeAt
open Go.Proofs.YtcbakncjacnnjaaGreat.SA
theorem db:cU prog 25 1=some 1:=by kernel_rfl
theorem dI:fJ prog 23=some false:=by kernel_rfl
theorem fV:(dm prog 23).isSome=true:=by kernel_rfl
theorem jt:dm prog 23=some (39,5):=by kernel_rfl
theorem cL:cU prog 39 1=some 1:=by kernel_rfl
theorem cQ:cU prog 39 2=some 3:=by kernel_rfl
theorem fq:cU prog 25 0=some 0:=by kernel_rfl
theorem oW:aH prog 30=true:=by kernel_rfl
theorem mm:aH prog 12=true:=by kernel_rfl
theorem bY:aH prog 15=true:=by kernel_rfl
theorem gW:prog.built 37 [(0,.string ⟨#[97]⟩),(1,.string ⟨#[120,120]⟩)]=some #[.string ⟨#[97]⟩,.string ⟨#[120,120]⟩]:=by kernel_rfl
theorem iq:aH prog 27=true:=by kernel_rfl
theorem eM:aH prog 20=true:=by kernel_rfl
theorem mI:prog.built 57 [(0,.string ⟨#[97]⟩)]=some #[.string ⟨#[97]⟩,.int .i64 0]:=by kernel_rfl
theorem tW:aH prog 22=true:=by kernel_rfl
abbrev Ac:=Int×Dc×ByteArray×Int
def acV (a:Ac):List Value:=[.int .i64 a.1,.string a.2.1.1,.string a.2.1.2,.string a.2.2.1,.int .i64 a.2.2.2]
def Az:Ac:=(0,(⟨#[]⟩,⟨#[]⟩),⟨#[]⟩,0)
abbrev oH:Ty:=.pr (.int .i64) (.pr nP (.pr .str (.pr (.int .i64) .unit)))
def toA (x:Int×(ByteArray×ByteArray×Unit)×ByteArray×Int×Unit):Ac:=(x.1,(x.2.1.1,x.2.1.2.1),x.2.2.1,x.2.2.2.1)
structure OkA (a:Ac):Prop where
 do_:-9223372036854775808≤a.1∧a.1≤9223372036854775807
 id:Small a.2.1.1
 text:Small a.2.1.2
 pat:Small a.2.2.1
 lim:-9223372036854775808≤a.2.2.2∧a.2.2.2≤9223372036854775807
theorem IB {w:World} {c:Nat→Option Value} {xs:List (Int×(ByteArray×ByteArray×Unit)×ByteArray×Int×Unit)} (h:(Ty.sl oH).At w c xs):∃ (A:Option Addr) (cap:Nat) (acs:List Ac),c 0=some (.slice A acs.length cap)∧cN 5 acV w A acs∧(∀ a∈acs,OkA a)∧acs.length≤140737488351232:=by
 obtain ⟨A,cap,h0,h1,h2,h3⟩:=h;have hl:(List.map toA xs).length=List.length xs:=List.length_map _;refine ⟨A,cap,List.map toA xs,by rw [hl];exact h0,fun hp=>?_,fun d hd=>?_,by rw [hl];exact Nat.le_trans (Nat.le_mul_of_pos_right _ (by decide)) h1⟩
 ·rw [hl] at hp;obtain ⟨b,o,hA,_,hi⟩:=h3 hp;refine ⟨b,o,hA,fun i hlt=>?_⟩;have hlt2:i<List.length xs:=by rwa [hl] at hlt
  obtain ⟨⟨c1,_⟩,⟨⟨c2,_⟩,⟨c3,_⟩,_⟩,⟨c4,_⟩,⟨c5,_⟩,_⟩:=hi i _ (List.getElem?_eq_getElem hlt2);rw [List.getElem_map];intro j v hv
  match j,hv with
  |0,hv=>simp [acV,toA] at hv;subst hv;simpa [Ty.size] using c1
  |1,hv=>simp [acV,toA] at hv;subst hv;simpa [Ty.size] using c2
  |2,hv=>simp [acV,toA] at hv;subst hv;simpa [Ty.size] using c3
  |3,hv=>simp [acV,toA] at hv;subst hv;simpa [Ty.size] using c4
  |4,hv=>simp [acV,toA] at hv;subst hv;simpa [Ty.size] using c5
  |j+5,hv=>simp [acV] at hv
 ·obtain ⟨x,hx,rfl⟩:=List.mem_map.1 hd;obtain ⟨i,hi,rfl⟩:=List.getElem_of_mem hx;obtain ⟨b,o,hA,_,hh⟩:=h3 (Nat.lt_of_le_of_lt (Nat.zero_le _) hi);obtain ⟨⟨_,c1⟩,⟨⟨_,c2⟩,⟨_,c3⟩,_⟩,⟨_,c4⟩,⟨_,c5⟩,_⟩:=hh i _ (List.getElem?_eq_getElem hi);exact ⟨DB c1,c2,c3,c4,DB c5⟩
structure y4 (w:World) (A B:Option Addr) (ca:Nat) (ds:List Dc) (acs:List Ac):Prop where
 row:cN 2 dV w A ds
 sm:∀ d∈ds,Small d.1∧Small d.2
 len:ds.length*32≤140737488351232
 cap:ds.length≤ca
 nil:A=none→ca=0
 rowA:cN 5 acV w B acs
 smA:∀ a∈acs,OkA a
 lenA:acs.length≤140737488351232
theorem y4.from_ {w w':World} {A B:Option Addr} {ca:Nat} {ds:List Dc} {acs:List Ac} (h:y4 w A B ca ds acs) (hF:aj w w'):y4 w' A B ca ds acs:=⟨h.row.from_ hF,h.sm,h.len,h.cap,h.nil,h.rowA.from_ hF,h.smA,h.lenA⟩
theorem tC {w:World} {cs:Array Value} {x:(Ty.pr (.sl nP) (.pr (.sl oH) .unit)).den} (hs:cs.size=2) (h:(Ty.pr (.sl nP) (.pr (.sl oH) .unit)).At w (fun j=>cs[j]?) x) :
 ∃ (A B:Option Addr) (ca cb:Nat) (ds:List Dc) (acs:List Ac),cs=#[.slice A ds.length ca,.slice B acs.length cb]∧y4 w A B ca ds acs:=by
 obtain ⟨h1,h2,_⟩:=h;obtain ⟨A,ca,ds,a0,a1,a2,a3,a4,a5⟩:=IA h1;obtain ⟨B,cb,acs,b0,b1,b2,b3⟩:=IB h2;have e0:cs[0]? =some _:=a0;have e1:cs[1]? =some _:=b0;refine ⟨A,B,ca,cb,ds,acs,?_,⟨a1,a2,a3,a4,a5,b1,b2,b3⟩⟩;obtain ⟨l⟩:=cs
 match l,hs with
 |[a,b],_=>
  simp only [List.getElem?_toArray,List.getElem?_cons_zero,List.getElem?_cons_succ,Option.some.injEq] at e0 e1;rw [e0,e1]
theorem qj {w:World} (h:w.ShapedOpen prog):∃ m,w.cell? ⟨0,0,none⟩=some (.int .i64 m):=Tryz.laysM143.s1_3 w h
theorem Gx:jZ [] (⟨#[97]⟩,⟨#[120,120]⟩)=0∧gn [] (⟨#[97]⟩,⟨#[120,120]⟩)=[(⟨#[97]⟩,⟨#[120,120]⟩)]:=by
 have h0:jZ [] (⟨#[97]⟩,⟨#[120,120]⟩)=0:=tH (by decide) (by decide) (by rintro ⟨e,he,_⟩;cases he) (by decide);refine ⟨h0,?_⟩;rw [nM h0];exact Ch (List.pairwise_singleton ..)
theorem GU:sH [(⟨#[97]⟩,⟨#[120,120]⟩)] ⟨#[120]⟩ 1=[(⟨#[97]⟩,0)]∧sN [(⟨#[97]⟩,⟨#[120,120]⟩)] ⟨#[120]⟩ 1=2∧gM ⟨#[120]⟩ 1=0:=by
 have e0:gM ⟨#[120]⟩ 1=0:=by decide
 have e1:=Ic;unfold lV at e1;rw [show oq ⟨#[120]⟩=0 by decide,if_pos rfl] at e1;refine ⟨?_,?_,e0⟩
 ·unfold sH;rw [if_pos e0,e1];rfl
 ·unfold sN;rw [if_pos e0,e1];rfl
theorem KF {w:World} {g:Nat} {a:ByteArray} {x:Int} (h:Blk w g 57 #[.string a,.int .i64 x]):cN 2 hV w (some ⟨g,0,none⟩) [(a,x)]:=fun _=>⟨g,0,rfl,fun i hi=>by
 match i,hi with
 |0,_=>exact h.whole⟩
theorem uM (w:World):Rt prog 12 [.slice none 0 0] w fun v w'=>(∃ s,v=.tuple #[.pointer (some ⟨s,0,none⟩),.int .i64 0]∧eC w' (fun k=>w.heap.size≤k) s [])∧aj w w':=
 (cd none 0 0 [] w cN.nil rfl (by omega) (fun _=>⟨rfl,rfl⟩)).mono fun v w' h=>by
  obtain ⟨h,hF⟩:=h;rcases h with ⟨h,_⟩ | ⟨_,h⟩
  ·exact absurd (F1 (fun i hi=>absurd hi (by simp)) ⟨by simp,fun d hd=>(by cases hd),by simp [dsz]⟩) h
  ·exact ⟨h,hF⟩
theorem B6 (i:Int) (n:Nat) (w:World) (hn:0<n∧n≤1000) :
 Rt prog 17 [.int .i64 i,.int .i64 (n:Nat)] w (fun v w'=>(∃ m:Nat,m<n∧v=.int .i64 (m:Nat))∧w=w'):=by
 obtain ⟨a,ha,ha2⟩:∃ a:Nat,IntKind.u64.wrap i=(a:Int)∧a<18446744073709551616:=⟨(IntKind.u64.wrap i).toNat,by rw [IntKind.wrap_u64];omega,by rw [IntKind.wrap_u64];omega⟩;have hm:a%n<n:=Nat.mod_lt _ hn.1;refine enter (n:=11) Tryz.func17 rfl rfl rfl (ag (aa (asi rfl (ah (ae (ag (aa (mvi rfl (ab (Bk dZ fG rfl) (dx (t:=6) (v:=.int _ _) (v':=.int .u64 (a:Nat)) rfl (by rw [ha]) ?_))))))))));refine mvi rfl (ab (fB dZ fG rfl (by omega)) (ab (Et rfl rfl (by omega)) ?_));refine dx (t:=9) (v:=.int _ _) (v':=.int .u64 ((a%n:Nat):Int)) rfl (by rw [Int.tmod_eq_emod_of_nonneg (by omega)];rfl) ?_;refine ab (eN gP eZ rfl (by omega)) (asi rfl (ah (ae (aA (bE (v:=.int _ _) rfl rfl (⟨⟨a%n,hm,rfl⟩,rfl⟩))))))
theorem s9 (A B:Option Addr) (ca cb:Nat) (ds:List Dc) (acs:List Ac) (w:World) (ha:y4 w A B ca ds acs) :
 Rt prog 10 [.agg #[.slice A ds.length ca,.slice B acs.length cb]] w (fun v w'=>(∃ hv:Bool,v=.bool hv∧(hv=false→ds.length≤60000∧acs.length≤200))∧aj w w'):=by
 have hlen:=ha.len;have hlen2:=ha.lenA;refine enter (n:=67) Tryz.func10 rfl rfl rfl (ag (aa (c0 (v:=.agg _) rfl ?_)));intro b1 w1 E1 hb1 hk1;refine asb rfl (ah (ae (ag (aa (asi rfl (ah (ae (ag (ag (aa (asi rfl (ah (ae (az (bg (G:=Nat×Nat) [6,7,8,9,10,11,12,13,14,15,16,17,18,19,20,21,22,23,24,25,26,27,28,29,30,31,32,33,34,35,36,37,38,39,40,41,42,43] (fun (m,i)=>[(3,.int .i64 (m:Nat)),(4,.int .i64 (i:Nat))]) (fun (m,i) w'=>i≤acs.length∧m≤1000000000000000∧Blk w' b1 25 #[.slice A ds.length ca,.slice B acs.length cb]∧aj w w') (fun (_,i)=>acs.length-i) ((0,0)) ⟨rfl,rfl,trivial⟩ ?_ ?_)))))))))))))))
 ·exact ⟨Nat.zero_le _,by omega,hk1.from_ aj.rfl_,(aj.rfl_.next E1)⟩
 rintro ⟨m,i⟩ ρ2 w2 ⟨hi,hm,hP,hB⟩;refine ag (ag (aa (mvi rfl (ab (ak db rfl) (ab (aq dI rfl (by exact (hP.from_ aj.rfl_).rd 1 rfl)) ?_)))));refine ab (aU fV rfl) (ab (aY rfl rfl) (mvb rfl (KB (t:=11) rfl (fun Q3=>?_) (fun Q3=>?_))))
 ·refine al rfl (mvi rfl (al rfl (ab (aY rfl rfl) (ab (a_ (v:=.bool _) rfl rfl) (ah (ae (K8 rfl (fun Q4=>?_) (fun Q4=>?_))))))))
  ·obtain ⟨bA,oA,rfl,hcA⟩:=ha.rowA (by omega);have hil:i<acs.length:=by omega
   obtain ⟨a,haa⟩:∃ a,a=acs[i]:=⟨_,rfl⟩;have hce:=hcA i hil;rw [←haa] at hce;obtain ⟨_,hs1,hs2,hs3,_⟩:=ha.smA a (by rw [haa];exact List.getElem_mem hil);unfold Small at hs1 hs2 hs3;refine au (ae (ag (az ?_)));apply bI 28 [(17,eqp _),(18,eqp _),(19,eqp _),(20,eqp _),(21,eqp _),(22,eqp _),(23,eqp _),(24,eqp (.string a.2.1.2)),(25,eqp _),(26,eqp _),(27,eqp _),(28,eqp _),(29,eqp _),(30,eqp _),(31,eqp _),(32,eqp _),(33,eqp (.string a.2.1.1)),(34,eqp _),(35,eqp _),(36,eqp _),(37,eqp _),(38,eqp _),(39,eqp _),(40,eqp _),(41,eqp (.string a.2.2.1)),(42,eqp _),(43,eqp _),(3,eqp _)] (by repeat first | exact bW | refine bT ?_ | refine bG ?_) (by kernel_rfl) (by kernel_rfl) ⟨af _,af _,af _,af _,af _,af _,af _,af _,af _,af _,af _,af _,af _,af _,af _,af _,af _,af _,af _,af _,af _,af _,af _,af _,af _,af _,af _,af _,trivial⟩
   case hop=>
    constructor
    ·rintro-w6 D6;exact ai (ar (v:=.int _ _) rfl) rfl
    constructor
    ·rintro-w7 D7;exact ai (ak db rfl) rfl
    constructor
    ·rintro-w8 D8;rintro _ rfl;exact ai (aq dI rfl (by exact (hP.from_ (aj.rfl_.next D8)).rd 1 rfl)) rfl
    constructor
    ·rintro-w9 D9;exact ai (ar (v:=.int _ _) rfl) rfl
    constructor
    ·rintro-w10 D10;rintro _ rfl _ rfl;exact ai (aG jt rfl rfl (by omega)) rfl
    constructor
    ·rintro-w11 D11;rintro _ rfl;exact ai (ak cL rfl) rfl
    constructor
    ·rintro-w12 D12;rintro _ rfl;exact ai (ak bR rfl) rfl
    constructor
    ·rintro-w13 D13;rintro _ rfl;exact ai (aq (v:=.string a.2.1.2) aX rfl (bu (hB.next D13) (hce 2 _ rfl))) rfl
    constructor
    ·rintro-w14 D14;rintro v14_24 rfl;exact ai (ck (by kernel_rfl) rfl) rfl
    constructor
    ·rintro-w15 D15;rintro _ rfl _ rfl;exact ai (aI rfl rfl (by omega)) rfl
    constructor
    ·rintro-w16 D16;exact ai (ak db rfl) rfl
    constructor
    ·rintro-w17 D17;rintro _ rfl;exact ai (aq dI rfl (by exact (hP.from_ (aj.rfl_.next D17)).rd 1 rfl)) rfl
    constructor
    ·rintro-w18 D18;exact ai (ar (v:=.int _ _) rfl) rfl
    constructor
    ·rintro-w19 D19;rintro _ rfl _ rfl;exact ai (aG jt rfl rfl (by omega)) rfl
    constructor
    ·rintro-w20 D20;rintro _ rfl;exact ai (ak cL rfl) rfl
    constructor
    ·rintro-w21 D21;rintro _ rfl;exact ai (ak aW rfl) rfl
    constructor
    ·rintro-w22 D22;rintro _ rfl;exact ai (aq (v:=.string a.2.1.1) aX rfl (bu (hB.next D22) (hce 1 _ rfl))) rfl
    constructor
    ·rintro-w23 D23;rintro v23_33 rfl;exact ai (ck (by kernel_rfl) rfl) rfl
    constructor
    ·rintro-w24 D24;rintro _ rfl _ rfl;exact ai (aI rfl rfl (by omega)) rfl
    constructor
    ·rintro-w25 D25;exact ai (ak db rfl) rfl
    constructor
    ·rintro-w26 D26;rintro _ rfl;exact ai (aq dI rfl (by exact (hP.from_ (aj.rfl_.next D26)).rd 1 rfl)) rfl
    constructor
    ·rintro-w27 D27;exact ai (ar (v:=.int _ _) rfl) rfl
    constructor
    ·rintro-w28 D28;rintro _ rfl _ rfl;exact ai (aG jt rfl rfl (by omega)) rfl
    constructor
    ·rintro-w29 D29;rintro _ rfl;exact ai (ak cQ rfl) rfl
    constructor
    ·rintro-w30 D30;rintro _ rfl;exact ai (aq (v:=.string a.2.2.1) aX rfl (bu (hB.next D30) (hce 3 _ rfl))) rfl
    constructor
    ·rintro-w31 D31;rintro v31_41 rfl;exact ai (ck (by kernel_rfl) rfl) rfl
    constructor
    ·rintro-w32 D32;rintro _ rfl _ rfl;exact ai (aI rfl rfl (by omega)) rfl
    constructor
    ·rintro-w33 D33;rintro _ rfl;exact ai (cq (v:=.int _ _) rfl) rfl
    exact trivial
   case hend=>
    intro w34 D34;rintro _ rfl _ rfl _ rfl _ rfl _ rfl _ rfl _ rfl v24 rfl _ rfl _ rfl _ rfl _ rfl _ rfl _ rfl _ rfl _ rfl v33 rfl _ rfl _ rfl _ rfl _ rfl _ rfl _ rfl _ rfl v41 rfl _ rfl _ rfl _ rfl;show St ..;refine ah (aL (ae (aa (mvi rfl (ab (aI (b:=1) rfl rfl (by omega)) (asi rfl (ah ?_)))))));refine aO ((m+a.2.1.2.size+a.2.1.1.size+a.2.2.1.size,i+1)) ⟨(by first | rfl | (refine aM ?_;omega)),(by first | rfl | (refine aM ?_;omega)),trivial⟩ (by (iterate 81 refine aB rfl ?_);exact aK) ⟨?_,?_⟩
    ·exact ⟨by omega,by omega,hP.from_ (aj.rfl_.next D34),(hB.next D34)⟩
    ·show acs.length-(i+1)<acs.length-i;omega
  refine aZ (aC (aC (aT (ae (ag (aa (ab (ak fq rfl) (ab (aq cC rfl (by exact (hP.from_ aj.rfl_).rd 0 rfl)) ?_))))))));refine ax oW (vT A ca ds.length ds _ (ha.row.from_ hB) rfl (by omega) ha.sm) ?_;rintro v46 w35 ⟨⟨m46,rfl,hm46⟩,E46⟩;refine asi rfl (ah (ae (ag (aa (mvi rfl (ab (bX rfl rfl) (mvb rfl (KB (t:=49) rfl (fun Q36=>?_) (fun Q36=>?_)))))))))
  ·refine aD rfl rfl (aD rfl rfl (aD rfl rfl (fM rfl (fM rfl (aD rfl rfl (ab (a_ (v:=.bool _) rfl rfl) (mvb rfl (aD rfl rfl ?_))))))));refine aD rfl rfl (ab (a_ (v:=.bool _) rfl rfl) (mvb rfl (aD rfl rfl (aD rfl rfl (aD rfl rfl (aD rfl rfl (ab (a_ (v:=.bool _) rfl rfl) (asb rfl ?_))))))));refine ah (ae (aA (bE (v:=.bool _) rfl rfl (⟨⟨_,rfl,fun h=>?_⟩,(hB.next E46)⟩))))
   first
    |(cases h;done)
    |omega
    |(have hq:=dF_ h;omega)
  refine al rfl (mvi rfl (al rfl (ab (bX rfl rfl) (al rfl (mvb rfl (KB (t:=52) rfl (fun Q37=>?_) (fun Q37=>?_)))))))
  ·refine al rfl (mvi rfl (al rfl (ab (aY rfl rfl) (al rfl (ab (a_ (v:=.bool _) rfl rfl) (ab (aR (v:=.bool _) rfl rfl) (mvb rfl (KB (t:=57) rfl (fun Q38=>?_) (fun Q38=>?_)))))))))
   ·refine aD rfl rfl (aD rfl rfl (ab (a_ (v:=.bool _) rfl rfl) (mvb rfl (aD rfl rfl (aD rfl rfl (aD rfl rfl (aD rfl rfl (ab (a_ (v:=.bool _) rfl rfl) ?_))))))));refine asb rfl (ah (ae (aA (bE (v:=.bool _) rfl rfl (⟨⟨_,rfl,fun h=>?_⟩,(hB.next E46)⟩)))))
    first
     |(cases h;done)
     |omega
     |(have hq:=dF_ h;omega)
   refine al rfl (mvi rfl (al rfl (ab (bX rfl rfl) (ab (aR (v:=.bool _) rfl rfl) (mvb rfl (KB (t:=61) rfl (fun Q39=>?_) (fun Q39=>?_)))))))
   ·refine aD rfl rfl (aD rfl rfl (aD rfl rfl (aD rfl rfl (ab (a_ (v:=.bool _) rfl rfl) (asb rfl (ah (ae (aA (bE (v:=.bool _) rfl rfl (⟨⟨_,rfl,fun h=>?_⟩,(hB.next E46)⟩))))))))))
    first
     |(cases h;done)
     |omega
     |(have hq:=dF_ h;omega)
   refine al rfl (ab (ak db rfl) (al rfl (ab (aq dI rfl (by exact (hP.from_ (aj.rfl_.next E46)).rd 1 rfl)) ?_)));refine al rfl (ab (aU fV rfl) (al rfl (ab (bX rfl rfl) (ab (aR (v:=.bool _) rfl rfl) (asb rfl (ah (ae (aA (bE (v:=.bool _) rfl rfl (⟨⟨_,rfl,fun h=>?_⟩,(hB.next E46)⟩))))))))))
   first
    |(cases h;done)
    |omega
    |(have hq:=dF_ h;omega)
  refine aD rfl rfl (aD rfl rfl (al rfl (ab (aR (v:=.bool _) rfl rfl) (ab (aR (v:=.bool _) rfl rfl) (mvb rfl (al rfl (mvi rfl (al rfl ?_))))))));refine ab (bX rfl rfl) (ab (aR (v:=.bool _) rfl rfl) (mvb rfl (KB (t:=61) rfl (fun Q40=>?_) (fun Q40=>?_))))
  ·refine aD rfl rfl (aD rfl rfl (aD rfl rfl (aD rfl rfl (ab (a_ (v:=.bool _) rfl rfl) (asb rfl (ah (ae (aA (bE (v:=.bool _) rfl rfl (⟨⟨_,rfl,fun h=>?_⟩,(hB.next E46)⟩))))))))))
   first
    |(cases h;done)
    |omega
    |(have hq:=dF_ h;omega)
  refine al rfl (ab (ak db rfl) (al rfl (ab (aq dI rfl (by exact (hP.from_ (aj.rfl_.next E46)).rd 1 rfl)) ?_)));refine al rfl (ab (aU fV rfl) (al rfl (ab (bX rfl rfl) (ab (aR (v:=.bool _) rfl rfl) (asb rfl (ah (ae (aA (bE (v:=.bool _) rfl rfl (⟨⟨_,rfl,fun h=>?_⟩,(hB.next E46)⟩))))))))))
  first
   |(cases h;done)
   |omega
   |(have hq:=dF_ h;omega)
 refine aD rfl rfl (aD rfl rfl (ab (aR (v:=.bool _) rfl rfl) (ah (ae (cm rfl (aZ (aC (aC (aT (ae (ag (aa (ab (ak fq rfl) (ab (aq cC rfl (by exact (hP.from_ aj.rfl_).rd 0 rfl)) ?_))))))))))))));refine ax oW (vT A ca ds.length ds _ (ha.row.from_ hB) rfl (by omega) ha.sm) ?_;rintro v46 w41 ⟨⟨m46,rfl,hm46⟩,E46⟩;refine asi rfl (ah (ae (ag (aa (mvi rfl (ab (bX rfl rfl) (mvb rfl (KB (t:=49) rfl (fun Q42=>?_) (fun Q42=>?_)))))))))
 ·refine aD rfl rfl (aD rfl rfl (aD rfl rfl (fM rfl (fM rfl (aD rfl rfl (ab (a_ (v:=.bool _) rfl rfl) (mvb rfl (aD rfl rfl ?_))))))));refine aD rfl rfl (ab (a_ (v:=.bool _) rfl rfl) (mvb rfl (aD rfl rfl (aD rfl rfl (aD rfl rfl (aD rfl rfl (ab (a_ (v:=.bool _) rfl rfl) (asb rfl ?_))))))));refine ah (ae (aA (bE (v:=.bool _) rfl rfl (⟨⟨_,rfl,fun h=>?_⟩,(hB.next E46)⟩))))
  first
   |(cases h;done)
   |omega
   |(have hq:=dF_ h;omega)
 refine al rfl (mvi rfl (al rfl (ab (bX rfl rfl) (al rfl (mvb rfl (KB (t:=52) rfl (fun Q43=>?_) (fun Q43=>?_)))))))
 ·refine al rfl (mvi rfl (al rfl (ab (aY rfl rfl) (al rfl (ab (a_ (v:=.bool _) rfl rfl) (ab (aR (v:=.bool _) rfl rfl) (mvb rfl (KB (t:=57) rfl (fun Q44=>?_) (fun Q44=>?_)))))))))
  ·refine aD rfl rfl (aD rfl rfl (ab (a_ (v:=.bool _) rfl rfl) (mvb rfl (aD rfl rfl (aD rfl rfl (aD rfl rfl (aD rfl rfl (ab (a_ (v:=.bool _) rfl rfl) ?_))))))));refine asb rfl (ah (ae (aA (bE (v:=.bool _) rfl rfl (⟨⟨_,rfl,fun h=>?_⟩,(hB.next E46)⟩)))))
   first
    |(cases h;done)
    |omega
    |(have hq:=dF_ h;omega)
  refine al rfl (mvi rfl (al rfl (ab (bX rfl rfl) (ab (aR (v:=.bool _) rfl rfl) (mvb rfl (KB (t:=61) rfl (fun Q45=>?_) (fun Q45=>?_)))))))
  ·refine aD rfl rfl (aD rfl rfl (aD rfl rfl (aD rfl rfl (ab (a_ (v:=.bool _) rfl rfl) (asb rfl (ah (ae (aA (bE (v:=.bool _) rfl rfl (⟨⟨_,rfl,fun h=>?_⟩,(hB.next E46)⟩))))))))))
   first
    |(cases h;done)
    |omega
    |(have hq:=dF_ h;omega)
  refine al rfl (ab (ak db rfl) (al rfl (ab (aq dI rfl (by exact (hP.from_ (aj.rfl_.next E46)).rd 1 rfl)) ?_)));refine al rfl (ab (aU fV rfl) (al rfl (ab (bX rfl rfl) (ab (aR (v:=.bool _) rfl rfl) (asb rfl (ah (ae (aA (bE (v:=.bool _) rfl rfl (⟨⟨_,rfl,fun h=>?_⟩,(hB.next E46)⟩))))))))))
  first
   |(cases h;done)
   |omega
   |(have hq:=dF_ h;omega)
 refine aD rfl rfl (aD rfl rfl (al rfl (ab (aR (v:=.bool _) rfl rfl) (ab (aR (v:=.bool _) rfl rfl) (mvb rfl (al rfl (mvi rfl (al rfl ?_))))))));refine ab (bX rfl rfl) (ab (aR (v:=.bool _) rfl rfl) (mvb rfl (KB (t:=61) rfl (fun Q46=>?_) (fun Q46=>?_))))
 ·refine aD rfl rfl (aD rfl rfl (aD rfl rfl (aD rfl rfl (ab (a_ (v:=.bool _) rfl rfl) (asb rfl (ah (ae (aA (bE (v:=.bool _) rfl rfl (⟨⟨_,rfl,fun h=>?_⟩,(hB.next E46)⟩))))))))))
  first
   |(cases h;done)
   |omega
   |(have hq:=dF_ h;omega)
 refine al rfl (ab (ak db rfl) (al rfl (ab (aq dI rfl (by exact (hP.from_ (aj.rfl_.next E46)).rd 1 rfl)) ?_)));refine al rfl (ab (aU fV rfl) (al rfl (ab (bX rfl rfl) (ab (aR (v:=.bool _) rfl rfl) (asb rfl (ah (ae (aA (bE (v:=.bool _) rfl rfl (⟨⟨_,rfl,fun h=>?_⟩,(hB.next E46)⟩))))))))))
 first
  |(cases h;done)
  |omega
  |(have hq:=dF_ h;omega)
theorem ft (w:World) (m:Int) (hm:w.cell? ⟨0,0,none⟩=some (.int .i64 m)) :
 Rt prog 16 [] w (fun v w'=>v=.bool true∧aj w w'):=by
 refine enter (n:=43) Tryz.func16 rfl rfl rfl (ag (aa (asb rfl (ah (ae (ag (aa (ax mm (uM _) ?_))))))));rintro v7 w1 ⟨⟨s,rfl,hs7⟩,E7⟩;refine mvt rfl (ab (aw rfl rfl) (ab (aw rfl rfl) (asp rfl (asi rfl (ah (ae (ag (ag (aa (mvi rfl (ax bY (cK _ _) ?_)))))))))));rintro v11 w2 ⟨rfl,rfl⟩;refine ab (cF (bP rfl rfl) (bne_self_eq_false _)) (mvb rfl (al rfl (mvp rfl (al rfl (ab (cF (gK (by kernel_rfl) rfl rfl) rfl) (ab (aR (v:=.bool _) rfl rfl) (mvb rfl (al rfl ?_))))))));refine mvp rfl (al rfl (ab (cS (l:=[(0,.const (.string ⟨#[97]⟩)),(1,.const (.string ⟨#[120,120]⟩))]) (gW)) (al rfl (ax iq (oC _ s [] _ hs7 (⟨#[97]⟩,⟨#[120,120]⟩) (by decide) (by decide)) ?_))));rintro v20 w3 ⟨rfl,hs20,hC20⟩;rw [Gx.1];refine al rfl (ax bY (cK _ _) ?_);rintro v21 w4 ⟨rfl,rfl⟩;refine al rfl (ab (cF (bP rfl rfl) (bne_self_eq_false _)) (ab (aR (v:=.bool _) rfl rfl) (ah (ae (cm rfl (au (ae (ag (aa (mvp rfl (ax eM (eg _ s [(⟨#[97]⟩,⟨#[120,120]⟩)] _ (Gx.2 ▸ hs20) ⟨#[120]⟩ 1 m (bu (((aj.rfl_.next E7)).chg hC20 (fun k hk=>hk)) hm) (by decide)) ?_)))))))))));rintro v26 w5 ⟨⟨A26,c26,rfl,ho26⟩,E26⟩;obtain ⟨x1,x2,x3⟩:=GU;rw [x1] at ho26 ⊢;rw [x2,x3];refine mvt rfl (ab (aw rfl rfl) (ab (aw rfl rfl) (ab (aw rfl rfl) (ass rfl (asi rfl (asi rfl (ah (ae (ag (aa (mvi rfl ?_)))))))))));refine ax bY (cK _ _) ?_;rintro v31 w6 ⟨rfl,rfl⟩;refine ab (gx (cy rfl rfl) rfl) (mvb rfl (al rfl (mvi rfl (al rfl (ab (gx (cy rfl rfl) rfl) (ab (a_ (v:=.bool _) rfl rfl) (mvb rfl (al rfl ?_))))))));refine mvs rfl (al rfl (ab (cS (l:=[(0,.const (.string ⟨#[97]⟩))]) (mI)) (al rfl (fA en rfl rfl rfl ?_))));intro b40 w7 E40 hb40 hk40;refine al rfl (ax tW (u6 A26 (some ⟨b40,0,none⟩) c26 1 1 1 [(⟨#[97]⟩,0)] [(⟨#[97]⟩,0)] _ ((cN.own eP (by decide) ho26).2.from_ E40) (KF hk40) rfl rfl (by omega)) ?_);rintro v41 w8 ⟨rfl,E41⟩;refine ab (a_ (v:=.bool _) rfl rfl) (asb rfl (ah (ae (aA (bE (v:=.bool _) rfl rfl (⟨congrArg Value.bool (decide_eq_true rfl),((((((aj.rfl_.next E7)).chg hC20 (fun k hk=>hk)).next E26).next E40).next E41)⟩))))))
theorem Eb {D:List Dc} (hf:jJ D) (q:ByteArray) (lim:Int):(sH D q lim).length≤100000000:=by
 unfold sH;split
 ·have:=s8 q (.refl D) hf;rw [List.length_take];omega
 ·simp
def LX (w:World) (D:List Dc) (q:ByteArray) (lim:Int) (v:Value):Prop:=∃ A c,v=.tuple #[.slice A (sH D q lim).length c,.int .i64 (sN D q lim:Nat),.int .i64 (gM q lim)]∧cN 2 hV w A (sH D q lim)
def LY (w:World) (D:List Dc) (q:ByteArray) (lim:Int) (v:Value):Prop:=∃ A c,v=.slice A (sH D q lim).length c∧cN 2 hV w A (sH D q lim)
def LZ (w:World) (U:Nat→Prop) (D:List Dc) (e:Int) (v:Value):Prop:=∃ A c,v=.tuple #[.slice A D.length c,.int .i64 e]∧kO w U A c D
def L3 (w:World) (U:Nat→Prop) (D:List Dc) (v:Value):Prop:=∃ A c,v=.slice A D.length c∧kO w U A c D
def ShU (w:World) (N:Nat) (s:Nat) (D:List Dc):Prop:=∃ U,eC w U s D∧∀ k,U k→N≤k∧k<w.heap.size
theorem ShU.of {w:World} {N s:Nat} {D:List Dc} (h:eC w (fun k=>N≤k) s D):ShU w N s D:=⟨_,h.wide (V:=fun k=>N≤k∧k<w.heap.size) fun _ h1 h2=>⟨h1,h2⟩,fun _ h=>h⟩
theorem ShU.from_ {w w':World} {N s:Nat} {D:List Dc} (h:ShU w N s D) (hF:aj w w'):ShU w' N s D:=by
 obtain ⟨U,h1,h2⟩:=h;exact ⟨U,h1.from_ hF,fun k hk=>⟨(h2 k hk).1,Nat.lt_of_lt_of_le (h2 k hk).2 hF.size⟩⟩
theorem JI {U:Nat→Prop} {w w':World} {N:Nat} (hU:∀ k,U k→N≤k∧k<w.heap.size) (hN:N≤w.heap.size) (hC:Chg U w w'):∀ k,Nx U w w' k→N≤k∧k<w'.heap.size:=fun k hk=>by
 have:=hC.size;rcases hk with h | h
 ·have:=hU k h;omega
 ·omega
def XS (w:World) (N s:Nat) (D:List Dc) (A:Option Addr) (c:Nat):Prop:=∃ U,eC w U s D∧kO w U A c D∧∀ k,U k→N≤k∧k<w.heap.size
theorem XS.from_ {w w':World} {N s c:Nat} {D:List Dc} {A:Option Addr} (h:XS w N s D A c) (hF:aj w w'):XS w' N s D A c:=by
 obtain ⟨U,h1,h2,h3⟩:=h;exact ⟨U,h1.from_ hF,h2.from_ hF,fun k hk=>⟨(h3 k hk).1,Nat.lt_of_lt_of_le (h3 k hk).2 hF.size⟩⟩
theorem XS.low {w:World} {N s:Nat} {U:Nat→Prop} {D:List Dc} (h:eC w U s D) (hU:∀ k,U k→N≤k∧k<w.heap.size):N≤w.heap.size:=by
 obtain ⟨ps,L,Ap,cp,Al,cl,hG,h,h3⟩:=h;have:=hU s (h3 s (.inl (.inl rfl)));omega
theorem XS.step {w0 w w':World} {N s c:Nat} {U:Nat→Prop} {D D':List Dc} {A:Option Addr} (h0:eC w0 U s D) (hU:∀ k,U k→N≤k∧k<w0.heap.size) (hF:aj w0 w) (h:eC w' (Nx U w w') s D'∧Chg U w w') (hX:kO w U A c D'):XS w' N s D' A c:=
 ⟨_,h.1,hX.chg h.2 (fun _ h=>h),JI (fun k hk=>⟨(hU k hk).1,Nat.lt_of_lt_of_le (hU k hk).2 hF.size⟩) (Nat.le_trans (XS.low h0 hU) hF.size) h.2⟩
theorem nL {w:World} {g:Nat} {a:Ac} (h:Blk w g 39 #[.int .i64 a.1,.string a.2.1.1,.string a.2.1.2,.string a.2.2.1,.int .i64 a.2.2.2]):w.rangeAt g 1 (dV a.2.1):=h.range 1 _ (fun j v hv=>by
 match j,hv with
 |0,hv=>exact hv
 |1,hv=>exact hv
 |j+2,hv=>simp [dV] at hv)
theorem tV:fJ prog 25=some true:=by kernel_rfl
theorem tQ:ef prog 25=some 2:=by kernel_rfl
theorem tU:aH prog 10=true:=by kernel_rfl
theorem oU:aH prog 13=true:=by kernel_rfl
theorem tT:aH prog 14=true:=by kernel_rfl
theorem mj:prog.underlying 28=some (.pointer (prog.pointee 28)):=by kernel_rfl
theorem fx:aH prog 16=true:=by kernel_rfl
theorem oV:fJ prog 39=some true:=by kernel_rfl
theorem jr:ef prog 39=some 5:=by kernel_rfl
theorem oQ:mz prog 39=some (.agg #[.int .i64 0,.string ⟨#[]⟩,.string ⟨#[]⟩,.string ⟨#[]⟩,.int .i64 0]):=by kernel_rfl
theorem wL:cU prog 39 0=some 0:=by kernel_rfl
theorem AA:aH prog 17=true:=by kernel_rfl
theorem Ay:aH prog 18=true:=by kernel_rfl
theorem js:aH prog 19=true:=by kernel_rfl
theorem pT:cU prog 39 3=some 4:=by kernel_rfl
theorem Ax:aH prog 21=true:=by kernel_rfl
theorem Aw:aH prog 23=true:=by kernel_rfl
theorem ml:aH prog 24=true:=by kernel_rfl
theorem oT:aH prog 25=true:=by kernel_rfl
theorem Av:aH prog 26=true:=by kernel_rfl
theorem oR:aH prog 29=true:=by kernel_rfl
theorem fo (A B:Option Addr) (ca cb:Nat) (ds:List Dc) (acs:List Ac) (w:World) (hS:w.ShapedOpen prog) (ha:y4 w A B ca ds acs) :
 Rt prog 3 [.agg #[.slice A ds.length ca,.slice B acs.length cb]] w (fun v w'=>v=.bool true∧aj w w'):=by
 obtain ⟨m,hm⟩:=qj hS;have hlen:=ha.len;have hlenA:=ha.lenA;refine enter (n:=171) Tryz.func3 rfl rfl rfl (ag (aa (c0 (v:=.agg _) rfl ?_)));intro b1 w1 E1 hb1 hk1;refine asb rfl (ah (ae (ag (ag (aa (ab (bk (cs:=[_,_]) tV tQ rfl (by exact (hk1.from_ aj.rfl_).whole)) ?_))))));refine ax tU (s9 A B ca cb ds acs _ (ha.from_ (aj.rfl_.next E1))) ?_;rintro v22 w2 ⟨⟨hv,rfl,hli⟩,E22⟩;refine ah (ae (av rfl (fun Q3=>?_) (fun Q3=>?_)))
 ·refine ag (aa (asb rfl (ah (ae (aA (aF (bE (v:=.bool _) rfl rfl (⟨rfl,((aj.rfl_.next E1).next E22)⟩))))))))
 have hlh:=(hli (by first | assumption | simp_all)).1;refine au (ae (ag (aa (ab (ak fq rfl) (ab (aq cC rfl (by exact (hk1.from_ (aj.rfl_.next E22)).rd 0 rfl)) ?_)))));have hB25:=((aj.rfl_.next E1).next E22);have hl25:=(hk1.from_ (aj.rfl_.next E22)).lt;refine ax lN (jF A ca ds.length ds _ (ha.row.from_ ((aj.rfl_.next E1).next E22)) rfl (by omega)) ?_;rintro v25 w4 ⟨⟨A25,c25,rfl,ho25⟩,E25⟩;refine ass rfl (ah (ae (ag (aa (mvs rfl ?_)))));obtain ⟨N,hN⟩:∃ N,N=(w4).heap.size:=⟨_,rfl⟩;have hNw:w.heap.size≤N:=by rw [hN];exact ((((aj.rfl_.next E1).next E22).next E25)).size
 have hk128:=hk1.from_ (((aj.rfl_.next E22).next E25));have hNb:b1<N:=by rw [hN];exact hk128.lt
 refine ax mm (cd A25 c25 ds.length ds _ (cN.own bH (by decide) ho25).2 rfl (by omega) (HI ho25)) ?_;rintro v28 w5 ⟨hs28,E28⟩;replace hk1:=hk128.from_ E28;rcases hs28 with ⟨hck,rfl⟩ | ⟨hck,s,rfl,hsh⟩
 ·have hb33:(l7 ds != 0)=true:=by simpa using hck
  refine mvt rfl (ab (aw rfl rfl) (ab (aw rfl rfl) (asp rfl (asi rfl (ah (ae (ag (aa (mvs rfl ?_)))))))));have hk132:=hk1.from_ (aj.rfl_);refine ax oU (lU _ A25 c25 ds.length ds _ (ho25.kept_from E28) (by omega) (by have:=E25.size;have:=E28.size;omega)) ?_;rintro v32 w6 hg32;replace hk1:=hk132.grown hg32 (fun k hk=>by have:=bM ho25 k hk;omega)
  (try replace hsh:=(hsh.from_ aj.rfl_).chg (Chg.of_grown (U:=fun k=>k<N) hg32 (fun k hk=>by have h9:=(bM ho25 k hk).2;omega)) (fun k h1 h2=>by have h8:N≤k:=h1;have h9:k<N:=h2;omega))
  refine ah (ae (ag (aa (ab (ak fq rfl) (ab (aq cC rfl (by exact (hk1.from_ aj.rfl_).rd 0 rfl)) ?_)))));refine ax tT (sC A ca ds.length ds _ (ha.row.from_ (((((aj.rfl_.next E1).next E22).next E25).next E28).grew hg32 (fun k hk=>Nat.le_trans hB25.size (bM ho25 k hk).1))) rfl (by have h9:=hli (by first | assumption | simp_all);omega)) ?_;rintro v35 w7 ⟨rfl,E35⟩;refine asi rfl (ah (ae (ag (ag (aa (mvi rfl (ax bY (cK _ _) ?_)))))));rintro v37 w8 ⟨rfl,rfl⟩;refine mvi rfl (ab (bP rfl rfl) (mvb rfl (L6 (t:=40) rfl (fun Q9=>?_) (fun Q9=>?_))))
  ·first
    |(exfalso; first | (first | omega | (simp [hb33] at *; done); trace "@MK D fo:c22-.f28.0.g40+ 1") | (contradiction; trace "@MK D fo:c22-.f28.0.g40+ 2") | ((cases Q9; done); trace "@MK D fo:c22-.f28.0.g40+ 3"))
    |(trace "@MK D fo:c22-.f28.0.g40+ 0")
     refine aD rfl rfl (aD rfl rfl (aD rfl rfl (aD rfl rfl (aD rfl rfl (ab (a_ (v:=.bool _) rfl rfl) (ah (ae (cA rfl (ag (aa ?_))))))))));refine asb rfl (ah (ae (aA (aF (bE (v:=.bool _) rfl rfl ?_)))));exfalso;simp_all
  refine al rfl (mvp rfl (al rfl (ab (gK mj rfl rfl) (al rfl (mvi rfl (al rfl (ab (bP rfl rfl) (al rfl ?_))))))));refine ab (Bh (by kernel_rfl) rfl rfl) (ab (aR (v:=.bool _) rfl rfl) (ah (ae (av rfl (fun Q10=>?_) (fun Q10=>?_)))))
  ·with_reducible (replace Q10:=eo Q10;replace Q10:=dF_ Q10)
   exfalso;first | omega | (simp [hb33] at*;done)
  with_reducible (replace Q10:=ep Q10;replace Q10:=dT_ Q10)
  refine au (ae (ag (ag (aa (mvp rfl (ab (gK mj rfl rfl) (ah (ae (av rfl (fun Q11=>?_) (fun Q11=>?_))))))))));rotate_left
  ·exfalso;first | omega | (simp [hb33] at*;done)
  refine ag (aa (ax fx (ft _ m (bu ((((((aj.rfl_.next E1).next E22).next E25).next E28).grew hg32 (fun k hk=>Nat.le_trans hB25.size (bM ho25 k hk).1)).next E35) hm)) ?_));rintro v49 w51 ⟨rfl,E49⟩;refine asb rfl (ah (ae (aA (aF (bE (v:=.bool _) rfl rfl (⟨rfl,(((((((aj.rfl_.next E1).next E22).next E25).next E28).grew hg32 (fun k hk=>Nat.le_trans hB25.size (bM ho25 k hk).1)).next E35).next E49)⟩))))))
 have hb33:(l7 ds != 0)=false:=by rw [hck];rfl
 rw [←hN] at hsh;refine mvt rfl (ab (aw rfl rfl) (ab (aw rfl rfl) (asp rfl (asi rfl (ah (ae (ag (aa (mvs rfl ?_)))))))));have hk132:=hk1.from_ (aj.rfl_);refine ax oU (lU _ A25 c25 ds.length ds _ (ho25.kept_from E28) (by omega) (by have:=E25.size;have:=E28.size;omega)) ?_;rintro v32 w52 hg32;replace hk1:=hk132.grown hg32 (fun k hk=>by have:=bM ho25 k hk;omega)
 (try replace hsh:=(hsh.from_ aj.rfl_).chg (Chg.of_grown (U:=fun k=>k<N) hg32 (fun k hk=>by have h9:=(bM ho25 k hk).2;omega)) (fun k h1 h2=>by have h8:N≤k:=h1;have h9:k<N:=h2;omega))
 refine ah (ae (ag (aa (ab (ak fq rfl) (ab (aq cC rfl (by exact (hk1.from_ aj.rfl_).rd 0 rfl)) ?_)))));refine ax tT (sC A ca ds.length ds _ (ha.row.from_ (((((aj.rfl_.next E1).next E22).next E25).next E28).grew hg32 (fun k hk=>Nat.le_trans hB25.size (bM ho25 k hk).1))) rfl (by have h9:=hli (by first | assumption | simp_all);omega)) ?_;rintro v35 w53 ⟨rfl,E35⟩;refine asi rfl (ah (ae (ag (ag (aa (mvi rfl (ax bY (cK _ _) ?_)))))));rintro v37 w54 ⟨rfl,rfl⟩;refine mvi rfl (ab (bP rfl rfl) (mvb rfl (L6 (t:=40) rfl (fun Q55=>?_) (fun Q55=>?_))))
 ·first
   |(exfalso; first | (first | omega | (simp [hb33] at *; done); trace "@MK D fo:c22-.f28.1.g40+ 1") | (contradiction; trace "@MK D fo:c22-.f28.1.g40+ 2") | ((cases Q55; done); trace "@MK D fo:c22-.f28.1.g40+ 3"))
   |(trace "@MK D fo:c22-.f28.1.g40+ 0")
    refine aD rfl rfl (aD rfl rfl (aD rfl rfl (aD rfl rfl (aD rfl rfl (ab (a_ (v:=.bool _) rfl rfl) (ah (ae (cA rfl (ag (aa ?_))))))))));refine asb rfl (ah (ae (aA (aF (bE (v:=.bool _) rfl rfl ?_)))));exfalso;simp_all
 refine al rfl (mvp rfl (al rfl (ab (gK mj rfl rfl) (al rfl (mvi rfl (al rfl (ab (bP rfl rfl) (al rfl ?_))))))));refine ab (Bh (by kernel_rfl) rfl rfl) (ab (aR (v:=.bool _) rfl rfl) (ah (ae (av rfl (fun Q56=>?_) (fun Q56=>?_)))))
 ·with_reducible (replace Q56:=eo Q56;replace Q56:=dF_ Q56)
  exfalso;first | omega | (simp [hb33] at*;done)
 with_reducible (replace Q56:=ep Q56;replace Q56:=dT_ Q56)
 refine au (ae (ag (ag (aa (mvp rfl (ab (gK mj rfl rfl) (ah (ae (av rfl (fun Q57=>?_) (fun Q57=>?_))))))))))
 ·exfalso;first | omega | (simp [hb33] at*;done)
 refine au (ae (ag (aa (ab (ak fq rfl) (ab (aq cC rfl (by exact (hk1.from_ (aj.rfl_.next E35)).rd 0 rfl)) ?_)))));obtain ⟨U0,hsh52,hUd0⟩:=ShU.of (hsh.from_ ((aj.rfl_.next E35)));refine ax lN (jF A ca ds.length ds _ (ha.row.from_ ((((((aj.rfl_.next E1).next E22).next E25).next E28).grew hg32 (fun k hk=>Nat.le_trans hB25.size (bM ho25 k hk).1)).next E35)) rfl (by omega)) ?_;rintro v52 w59 ⟨⟨A52,c52,rfl,ho52⟩,E52⟩;have hxs:XS w59 N s ds A52 c52:=⟨U0,hsh52.from_ E52,kO.own ho52 (fun q hq=>(hUd0 q hq).2),fun k hk=>⟨(hUd0 k hk).1,Nat.lt_of_lt_of_le (hUd0 k hk).2 E52.size⟩⟩;replace hk1:=hk1.from_ (((aj.rfl_.next E35).next E52));refine ass rfl (ah (ae (ag (ag (aa (asi rfl (ah (ae (az (bg (G:=Nat×List Dc×Option Addr×Nat) (2::9::10::11::12::13::14::15::16::17::18::19::20::53::54::55::56::57::58::59::60::61::62::63::64::65::66::67::68::69::70::71::72::73::74::75::76::77::78::79::80::81::82::83::84::85::86::87::88::89::90::91::92::93::94::95::96::97::98::99::100::101::102::103::104::105::106::107::108::109::110::111::112::113::114::115::116::117::118::119::120::121::122::123::124::125::126::127::128::129::130::131::132::133::134::135::136::137::138::139::140::141::142::143::144::145::146::147::148::149::150::151::152::153::154::155::156::157::158::159::160::161::162::163::[]) (fun (i,D,A7,c7)=>[(7,.slice A7 D.length c7),(8,.int .i64 (i:Nat))]) (fun (i,D,A7,c7) w'=>i≤acs.length∧XS w' N s D A7 c7∧Blk w' b1 25 #[.slice A ds.length ca,.slice B acs.length cb]∧aj w w') (fun (i,_)=>acs.length-i) ((0,ds,A52,c52)) ⟨rfl,rfl,trivial⟩ ?_ ?_))))))))))
 ·exact ⟨Nat.zero_le _,hxs.from_ aj.rfl_,hk1.from_ aj.rfl_,(((((((aj.rfl_.next E1).next E22).next E25).next E28).grew hg32 (fun k hk=>Nat.le_trans hB25.size (bM ho25 k hk).1)).next E35).next E52)⟩
 rintro ⟨i,D,A7,c7⟩ ρ60 w60 ⟨hi,hxs,hP,hB⟩;refine ag (ag (aa (mvi rfl (ab (ak db rfl) (ab (aq dI rfl (by exact (hP.from_ aj.rfl_).rd 1 rfl)) ?_)))));refine ab (aU fV rfl) (ab (aY rfl rfl) (mvb rfl (KB (t:=58) rfl (fun Q61=>?_) (fun Q61=>?_))))
 ·refine al rfl (mvi rfl (al rfl (ab (aY rfl rfl) (ab (a_ (v:=.bool _) rfl rfl) (ah (ae (K8 rfl (fun Q62=>?_) (fun Q62=>?_))))))))
  ·obtain ⟨bA,oA,rfl,hcA⟩:=ha.rowA (by omega);have hil:i<acs.length:=by omega
   obtain ⟨a,haa⟩:∃ a,a=acs[i]:=⟨_,rfl⟩;have hce:=hcA i hil;rw [←haa] at hce;obtain ⟨hs0,hs1,hs2,hs3,hs4⟩:=ha.smA a (by rw [haa];exact List.getElem_mem hil);unfold Small at hs1 hs2 hs3;refine au (ae (ag (az (ag (aa (ab (ak db rfl) (ab (aq dI rfl (by exact (hP.from_ aj.rfl_).rd 1 rfl)) ?_)))))));refine mvi rfl (ab (aG jt rfl rfl (by omega)) (ab (bk (cs:=[_,_,_,_,_]) oV jr rfl (by exact da hB hce)) ?_));refine dE oQ ?_;intro b9 w63 E9 hb9 hk9;have hg9:w.heap.size≤b9:=by rw [hb9];exact (hB).size
   refine fz (vs:=[_,_,_,_,_]) jr rfl rfl (by simp [Value.oneCell']) (hk9) rfl ?_;intro w64 O15 P15;have F15:aj _ w64:=E9.only O15 (by rw [hb9];exact Nat.le_refl _);replace hxs:=hxs.from_ F15;replace hP:=hP.from_ F15;have hxs0:=hxs;obtain ⟨U,hsh,hX,hUd⟩:=hxs0;obtain ⟨hordD,hfitD⟩:=hsh.docs;have hDl:=hfitD.1;have hDz:=hfitD.2.2;refine ah (ae (eY (G:=List Dc×Option Addr×Nat) [2,10,11,12,13,14,15,16,17,18,19,69,70,71,72,73,74,75,76,77,78,79,80,81,82,83,84,85,86,87,88,89,90,91,92,93,94,95,96,97,98,99,100,101,102,103,104,105,106,107,108,109,110,111,112,113,114,115,116,117,118,119,120,121,122,123,124,125,126,127,128,129,130,131,132,133,134,135,136,137,138,139,140,141,142,143,144,145,146,147,148,149,150,151,152,153,154,155] (fun (D',A',c')=>[(7,.slice A' D'.length c')]) (fun (D',A',c') w'=>XS w' N s D' A' c'∧Blk w' b1 25 #[.slice A ds.length ca,.slice (some ⟨bA,oA,none⟩) acs.length cb]∧aj w w') ?_ ?_))
   ·refine ag (aa (ab (ak wL rfl) (ab (aq bc rfl (by exact P15.rd 0 rfl)) ?_)));refine ax AA (B6 a.1 11 _ (by decide)) ?_;rintro v71 w65 ⟨⟨m71,hm71,rfl⟩,rfl⟩;refine ah (ae (az (eY (G:=Bool) [88,89] (fun x=>[(87,.bool x)]) (fun _ w'=>w64=w') ?_ ?_)))
    ·refine ag (aa (ab (cy rfl rfl) (asb rfl (ah (ae (K8 rfl (fun Q66=>?_) (fun Q66=>?_)))))))
     ·refine au ?_;refine aO (_) ⟨rfl,trivial⟩ (by (iterate 2 refine aB rfl ?_);exact aK) ?_;rfl
     refine aa (ab (cy rfl rfl) (asb rfl (ah ?_)));refine aO (_) ⟨rfl,trivial⟩ (by (iterate 4 refine aB rfl ?_);exact aK) ?_;rfl
    rintro x87 ρ67 w67 rfl;refine av rfl (fun Q68=>?_) (fun Q68=>?_)
    ·refine ag (aa (mvs rfl (ab (ak cL rfl) (ab (ak aW rfl) (ab (aq aX rfl (by exact (P15.from_ aj.rfl_).rd 1 rfl)) ?_)))));refine ax Ay (vz U A7 c7 D.length D _ (hX.from_ aj.rfl_) (fun k hk=>Nat.lt_of_lt_of_le (hUd k hk).2 (aj.rfl_).size) rfl (by omega) (sj hordD) a.2.1.1 hs1 hordD) ?_;rintro v95 w69 ⟨⟨A95,c95,rfl,hX95⟩,E95⟩;refine mvt rfl (ab (aw rfl rfl) (ab (aw rfl rfl) (ass rfl (asi rfl (ah (ae (ag (ag (aa (mvp rfl (ab (ak cL rfl) (ab (ak aW rfl) ?_))))))))))));refine ab (aq aX rfl (by exact (P15.from_ (aj.rfl_.next E95)).rd 1 rfl)) ?_;have hM102:=(show aj _ w69 from (aj.rfl_.next E95));have hP102:=hP.from_ ((aj.rfl_.next E95));have hX102:=hX95.from_ aj.rfl_;refine ax js (kj U s D _ (hsh.from_ (aj.rfl_.next E95)) a.2.1.1 hs1) ?_;rintro v102 w70 ⟨rfl,hs102,hC102⟩;replace hxs:=XS.step hsh hUd hM102 ⟨hs102,hC102⟩ hX102;replace hP:=hP102.chg hC102 (fun h=>by have:=(hUd _ h).1;omega);refine ax bY (cK _ _) ?_;rintro v103 w71 ⟨rfl,rfl⟩;refine mvi rfl (ab (cF (bP rfl rfl) (bne_self_eq_false _)) (ah (ae (cm rfl (au (ae (aa (mvs rfl (ass rfl (ah (aL ?_)))))))))));refine aO ((fc D a.2.1.1,A95,c95)) ⟨(by first | rfl | (refine aM ?_;omega)),trivial⟩ (by (iterate 26 refine aB rfl ?_);exact aK) ?_;exact ⟨hxs.from_ aj.rfl_,hP.from_ aj.rfl_,(((((hB.next E9).only O15 (hg9)).next E95)).chg hC102 (fun k hk=>Nat.le_trans hNw (hUd k hk).1))⟩
    refine eY (G:=Bool) [108,109,110] (fun x=>[(107,.bool x)]) (fun _ w'=>w64=w') ?_ ?_
    ·refine ag (aa (ab (cy rfl rfl) (asb rfl (ah (ae (K8 rfl (fun Q72=>?_) (fun Q72=>?_)))))))
     ·refine au ?_;refine aO (_) ⟨rfl,trivial⟩ (by (iterate 2 refine aB rfl ?_);exact aK) ?_;rfl
     refine ag (aa (ab (cy rfl rfl) (asb rfl (ah (ae (K8 rfl (fun Q73=>?_) (fun Q73=>?_)))))))
     ·refine au ?_;refine aO (_) ⟨rfl,trivial⟩ (by (iterate 4 refine aB rfl ?_);exact aK) ?_;rfl
     refine aa (ab (cy rfl rfl) (asb rfl (ah ?_)));refine aO (_) ⟨rfl,trivial⟩ (by (iterate 6 refine aB rfl ?_);exact aK) ?_;rfl
    rintro x107 ρ74 w74 rfl;refine av rfl (fun Q75=>?_) (fun Q75=>?_)
    ·refine ag (aa (mvp rfl (ab (ak cQ rfl) (ab (aq aX rfl (by exact (P15.from_ aj.rfl_).rd 3 rfl)) ?_))));refine ab (ak pT rfl) (ab (aq bc rfl (by exact (P15.from_ aj.rfl_).rd 4 rfl)) ?_);have hz117:=Nat.le_refl (w64).heap.size;have hzB117:=(((hB.next E9).only O15 (hg9))).size;refine ax eM (eg U s D _ (hsh.from_ aj.rfl_) a.2.2.1 a.2.2.2 m (bu ((hB.next E9).only O15 (hg9)) hm) hs3) ?_;rintro v117 w76 ⟨⟨A117,c117,rfl,ho117⟩,E117⟩;refine mvt rfl (ab (aw rfl rfl) (ab (aw rfl rfl) (ab (aw rfl rfl) (ass rfl (asi rfl (asi rfl (ah (ae (ag (aa (mvs rfl ?_)))))))))));refine ab (ak cQ rfl) (ab (aq aX rfl (by exact (P15.from_ (aj.rfl_.next E117)).rd 3 rfl)) ?_);refine ab (ak pT rfl) (ab (aq bc rfl (by exact (P15.from_ (aj.rfl_.next E117)).rd 4 rfl)) ?_);refine ax Ax (vy A7 c7 D.length D _ (hX.row.from_ (aj.rfl_.next E117)) rfl (by omega) a.2.2.1 a.2.2.2 hs3 (by omega)) ?_;rintro v127 w77 ⟨⟨A127,c127,rfl,hr127⟩,E127⟩;refine mvt rfl (ab (aw rfl rfl) (ab (aw rfl rfl) (ab (aw rfl rfl) (ass rfl (asi rfl (asi rfl (ah (ae (ag (ag (aa (mvi rfl ?_))))))))))));refine ax bY (cK _ _) ?_;rintro v132 w78 ⟨rfl,rfl⟩;refine mvi rfl (ab (cF (bP rfl rfl) (bne_self_eq_false _)) (mvb rfl (al rfl (mvi rfl (al rfl (mvi rfl (al rfl (ab (cF (bP rfl rfl) (bne_self_eq_false _)) ?_))))))));refine ab (aR (v:=.bool _) rfl rfl) (mvb rfl (al rfl (mvs rfl (al rfl (mvs rfl (al rfl (ax tW (u6 A117 A127 c117 c127 (sH D a.2.2.1 a.2.2.2).length (sH D a.2.2.1 a.2.2.2).length (sH D a.2.2.1 a.2.2.2) (sH D a.2.2.1 a.2.2.2) _ ((cN.own eP (by decide) ho117).2.from_ E127) (hr127.from_ aj.rfl_) rfl rfl (Eb hfitD _ _)) ?_)))))));rintro v143 w79 ⟨rfl,E143⟩;refine al rfl (ab (cF (ff rfl) (by rw [decide_eq_true rfl];rfl)) ?_);refine ab (aR (v:=.bool _) rfl rfl) (ah (ae (cm rfl (au (ae (aa (mvs rfl ?_)))))));have hM147:=(show aj _ w79 from (((aj.rfl_.next E117).next E127).next E143));have hP147:=hP.from_ ((((aj.rfl_.next E117).next E127).next E143));refine ax Aw (vr _ A117 c117 (sH D a.2.2.1 a.2.2.2).length (sH D a.2.2.1 a.2.2.2) _ (ho117.kept_from (E127.next E143)) (Eb hfitD _ _) (by have:=E117.size;have:=E127.size;have:=E143.size;omega)) ?_;rintro v147 w80 hg147;replace hxs:=hxs.from_ (hM147.grew hg147 (fun k hk=>Nat.le_trans hz117 (bM ho117 k hk).1));replace hP:=hP.from_ (hM147.grew hg147 (fun k hk=>Nat.le_trans hz117 (bM ho117 k hk).1));refine ah (aL ?_);refine aO ((D,A7,c7)) ⟨(by first | rfl | (refine aM ?_;omega)),trivial⟩ (by (iterate 53 refine aB rfl ?_);exact aK) ?_;exact ⟨hxs.from_ aj.rfl_,hP.from_ aj.rfl_,(((((((hB.next E9).only O15 (hg9)).next E117).next E127).next E143)).grew hg147 (fun k hk=>Nat.le_trans hzB117 (bM ho117 k hk).1))⟩
    refine ag (aa (ab (cy rfl rfl) (asb rfl (ah (ae (K8 rfl (fun Q81=>?_) (fun Q81=>?_)))))))
    ·refine aa (mvp rfl ?_);have hM151:=(show aj _ w64 from aj.rfl_);have hP151:=hP.from_ (aj.rfl_);have hX151:=hX.from_ (aj.rfl_);refine ax ml (h_ U s D _ (hsh.from_ aj.rfl_)) ?_;rintro v151 w82 ⟨hs151,hC151⟩;replace hxs:=XS.step hsh hUd hM151 ⟨hs151,hC151⟩ hX151;replace hP:=hP151.chg hC151 (fun h=>by have:=(hUd _ h).1;omega);refine ah (aL ?_);refine aO ((D,A7,c7)) ⟨(by first | rfl | (refine aM ?_;omega)),trivial⟩ (by (iterate 14 refine aB rfl ?_);exact aK) ?_;exact ⟨hxs.from_ aj.rfl_,hP.from_ aj.rfl_,((((hB.next E9).only O15 (hg9))).chg hC151 (fun k hk=>Nat.le_trans hNw (hUd k hk).1))⟩
    refine ag (aa (ab (cy rfl rfl) (asb rfl (ah (ae (K8 rfl (fun Q83=>?_) (fun Q83=>?_)))))))
    ·refine aa (mvp rfl ?_);have hM155:=(show aj _ w64 from aj.rfl_);have hP155:=hP.from_ (aj.rfl_);have hX155:=hX.from_ (aj.rfl_);refine ax oT (iF U s D _ (hsh.from_ aj.rfl_)) ?_;rintro v155 w84 ⟨hs155,hC155⟩;replace hxs:=XS.step hsh hUd hM155 ⟨hs155,hC155⟩ hX155;replace hP:=hP155.chg hC155 (fun h=>by have:=(hUd _ h).1;omega);refine ah (aL ?_);refine aO ((D,A7,c7)) ⟨(by first | rfl | (refine aM ?_;omega)),trivial⟩ (by (iterate 16 refine aB rfl ?_);exact aK) ?_;exact ⟨hxs.from_ aj.rfl_,hP.from_ aj.rfl_,((((hB.next E9).only O15 (hg9))).chg hC155 (fun k hk=>Nat.le_trans hNw (hUd k hk).1))⟩
    refine ag (aa (mvs rfl (ab (ak cL rfl) (ab (bk (cs:=[_,_]) bJ bh rfl (by exact nL (P15.from_ aj.rfl_))) ?_))));refine ax Av (Cx U A7 c7 D.length D _ (hX.from_ aj.rfl_) (fun k hk=>Nat.lt_of_lt_of_le (hUd k hk).2 (aj.rfl_).size) rfl (by omega) (sj hordD) a.2.1 hs1 hs2 hfitD) ?_;rintro v76 w85 ⟨⟨A76,c76,rfl,hX76⟩,E76⟩;refine mvt rfl (ab (aw rfl rfl) (ab (aw rfl rfl) (ass rfl (asi rfl (ah (ae (ag (ag (aa (mvp rfl (ab (ak cL rfl) (ab (bk (cs:=[_,_]) bJ bh rfl (by exact nL (P15.from_ (aj.rfl_.next E76)))) ?_))))))))))));have hM82:=(show aj _ w85 from (aj.rfl_.next E76));have hP82:=hP.from_ ((aj.rfl_.next E76));have hX82:=hX76.from_ aj.rfl_;refine ax iq (oC U s D _ (hsh.from_ (aj.rfl_.next E76)) a.2.1 hs1 hs2) ?_;rintro v82 w86 ⟨rfl,hs82,hC82⟩;replace hxs:=XS.step hsh hUd hM82 ⟨hs82,hC82⟩ hX82;replace hP:=hP82.chg hC82 (fun h=>by have:=(hUd _ h).1;omega);refine ax bY (cK _ _) ?_;rintro v83 w87 ⟨rfl,rfl⟩;refine mvi rfl (ab (cF (bP rfl rfl) (bne_self_eq_false _)) (ah (ae (cm rfl (au (ae (aa (mvs rfl (ass rfl (ah (aL ?_)))))))))));refine aO ((gn D a.2.1,A76,c76)) ⟨(by first | rfl | (refine aM ?_;omega)),trivial⟩ (by (iterate 32 refine aB rfl ?_);exact aK) ?_;exact ⟨hxs.from_ aj.rfl_,hP.from_ aj.rfl_,(((((hB.next E9).only O15 (hg9)).next E76)).chg hC82 (fun k hk=>Nat.le_trans hNw (hUd k hk).1))⟩
   rintro ⟨D',A',c'⟩ ρ88 w88 ⟨hxs,hP,hB⟩;have hxs0:=hxs;obtain ⟨U2,hsh2,hX2,hUd2⟩:=hxs0;have hfit2:=hsh2.docs.2;have hDl2:=hfit2.1;refine ag (aa (mvp rfl ?_));have hz157:=Nat.le_refl (w88).heap.size;have hzB157:=(hB).size;refine ax mo (nA U2 s D' _ (hsh2.from_ aj.rfl_)) ?_;rintro v157 w89 ⟨⟨A157,c157,rfl,ho157⟩,E157⟩;refine ass rfl (ah (ae (ag (ag (aa (mvs rfl (mvs rfl (ax oR (na A157 A' c157 c' D'.length D'.length D' _ (cN.own bH (by decide) ho157).2 (hX2.row.from_ (aj.rfl_.next E157)) rfl rfl (by omega)) ?_))))))));rintro v160 w90 ⟨rfl,E160⟩;refine ab (cF (ff rfl) rfl) (ah (ae (cm rfl (au (ae (aa (mvs rfl ?_)))))));have hM163:=(show aj _ w90 from ((aj.rfl_.next E157).next E160));have hP163:=hP.from_ (((aj.rfl_.next E157).next E160));refine ax oU (lU _ A157 c157 D'.length D' _ (ho157.kept_from E160) (by omega) (by have:=E157.size;have:=E160.size;omega)) ?_;rintro v163 w91 hg163;replace hxs:=hxs.from_ (hM163.grew hg163 (fun k hk=>Nat.le_trans hz157 (bM ho157 k hk).1));replace hP:=hP.from_ (hM163.grew hg163 (fun k hk=>Nat.le_trans hz157 (bM ho157 k hk).1));refine ah (aL (ae (aa (mvi rfl (ab (eh rfl rfl (by omega)) (asi rfl (ah ?_)))))));refine aO ((i+1,D',A',c')) ⟨(by first | rfl | (refine aM ?_;omega)),(by first | rfl | (refine aM ?_;omega)),trivial⟩ (by (iterate 253 refine aB rfl ?_);exact aK) ⟨?_,?_⟩
   ·exact ⟨by omega,hxs.from_ aj.rfl_,hP.from_ aj.rfl_,((((hB.next E157).next E160)).grew hg163 (fun k hk=>Nat.le_trans hzB157 (bM ho157 k hk).1))⟩
   ·show acs.length-(i+1)<acs.length-i;omega
  refine aZ (aC (aC (aT (ae (ag (aa (mvp rfl ?_)))))));have hxs0:=hxs;obtain ⟨U,hsh,hX,hUd⟩:=hxs0;obtain ⟨hordD,hfitD⟩:=hsh.docs;have hDl:=hfitD.1;have hDz:=hfitD.2.2;refine ax mo (nA U s D _ (hsh.from_ aj.rfl_)) ?_;rintro v165 w92 ⟨⟨A165,c165,rfl,ho165⟩,E165⟩;refine mvs rfl (ax oR (na A165 A7 c165 c7 D.length D.length D _ (cN.own bH (by decide) ho165).2 (hX.row.from_ (aj.rfl_.next E165)) rfl rfl (by omega)) ?_);rintro v167 w93 ⟨rfl,E167⟩;refine mvb rfl (al rfl (ax fx (ft _ m (bu ((hB.next E165).next E167) hm)) ?_));rintro v169 w94 ⟨rfl,E169⟩;refine ab (a_ (v:=.bool _) rfl rfl) (asb rfl (ah (ae (aA (bE (v:=.bool _) rfl rfl (⟨rfl,(((hB.next E165).next E167).next E169)⟩))))))
 refine aD rfl rfl (aD rfl rfl (ab (aR (v:=.bool _) rfl rfl) (ah (ae (cm rfl (aZ (aC (aC (aT (ae (ag (aa (mvp rfl ?_)))))))))))));have hxs0:=hxs;obtain ⟨U,hsh,hX,hUd⟩:=hxs0;obtain ⟨hordD,hfitD⟩:=hsh.docs;have hDl:=hfitD.1;have hDz:=hfitD.2.2;refine ax mo (nA U s D _ (hsh.from_ aj.rfl_)) ?_;rintro v165 w95 ⟨⟨A165,c165,rfl,ho165⟩,E165⟩;refine mvs rfl (ax oR (na A165 A7 c165 c7 D.length D.length D _ (cN.own bH (by decide) ho165).2 (hX.row.from_ (aj.rfl_.next E165)) rfl rfl (by omega)) ?_);rintro v167 w96 ⟨rfl,E167⟩;refine mvb rfl (al rfl (ax fx (ft _ m (bu ((hB.next E165).next E167) hm)) ?_));rintro v169 w97 ⟨rfl,E169⟩;refine ab (a_ (v:=.bool _) rfl rfl) (asb rfl (ah (ae (aA (bE (v:=.bool _) rfl rfl (⟨rfl,(((hB.next E165).next E167).next E169)⟩))))))
theorem yc (cs:Array Value) (x:(Ty.pr (.sl nP) (.pr (.sl oH) .unit)).den) (w:World) (hS:w.ShapedOpen prog) (hs:cs.size=(Ty.pr (.sl nP) (.pr (.sl oH) .unit)).size) (h:(Ty.pr (.sl nP) (.pr (.sl oH) .unit)).At w (fun j=>cs[j]?) x) :
 Rt prog 3 [.agg cs] w fun v w'=>v=.bool true∧aj w w':=by
 obtain ⟨A,B,ca,cb,ds,acs,rfl,ha⟩:=tC hs h;exact fo A B ca cb ds acs w hS ha
theorem pS (os:Os) (started:os.Started) (H:Type) (enc:TypeId×Value→H) :
 ReturnsInHanded {} Tryz.checked os 3 .any (Rows.shelfExactSpec.pre6 enc prog Tryz.f3 Rows.shelfExactRow.domain false) (Rows.shelfExactSpec.post enc prog Tryz.f3 false true false false):=by
 refine returnsInHanded_of_change_shaped (C:=Tryz.checked) Tryz.own started (by kernel_rfl) Tryz.func3
  (ChangeSpec.witness6 (enc:=enc) (C:=Tryz.checked) false ⟨#[],#[.agg #[.slice none 0 0,.slice none 0 0]],[]⟩ 8 (by kernel_rfl) (by kernel_rfl) (by kernel_rfl) (by kernel_rfl)) ?_
 intro W base args ds gs before hval hW _ hsz hS _;exact jL 3 Tryz.f3 25 4 Rows.shelfExactSpec Tryz.params3 (by kernel_rfl) Tryz.underlying4 rfl (fun _=>rfl) (by kernel_rfl) (dT_ (by kernel_rfl)) (ic (Ty.sl nP) (.pr (.sl oH) .unit) (by kernel_rfl) yc) W base args ds gs before hval hW hsz hS
theorem ShelfExact_holds:Rows.ShelfExactSaid:=
 OpenClaim.holds_of_wide 3 Tryz.f3 rfl rfl rfl rfl rfl rfl rfl ⟨rfl,rfl,rfl,rfl,rfl⟩ rfl rfl rfl rfl rfl (by kernel_rfl) Tryz.func3 (by kernel_rfl)
  (dT_ (by kernel_rfl)) (by unfold Func.isWrapper;first | (rw [if_pos (by decide+kernel)];kernel_rfl) | (rw [if_neg (by decide+kernel)];exact ⟨rfl,rfl⟩))
  (fun os started H enc _=>pS os started H enc)
def ShV (w:World) (N s:Nat) (D:List Dc) (b:Nat):Prop:=∃ U,eC w U s D∧∀ k,U k→N≤k∧k<w.heap.size∧k≠b
theorem ShV.from_ {w w':World} {N s b:Nat} {D:List Dc} (h:ShV w N s D b) (hF:aj w w'):ShV w' N s D b:=by
 obtain ⟨U,h1,h2⟩:=h;exact ⟨U,h1.from_ hF,fun k hk=>⟨(h2 k hk).1,Nat.lt_of_lt_of_le (h2 k hk).2.1 hF.size,(h2 k hk).2.2⟩⟩
theorem ShV.u {w:World} {N s b:Nat} {D:List Dc} (h:ShV w N s D b):ShU w N s D:=by
 obtain ⟨U,h1,h2⟩:=h;exact ⟨U,h1,fun k hk=>⟨(h2 k hk).1,(h2 k hk).2.1⟩⟩
theorem ShU.v {w w':World} {N s b:Nat} {D:List Dc} (h:ShU w N s D) (hF:aj w w') (hb:w.heap.size≤b):ShV w' N s D b:=by
 obtain ⟨U,h1,h2⟩:=h;exact ⟨U,h1.from_ hF,fun k hk=>⟨(h2 k hk).1,Nat.lt_of_lt_of_le (h2 k hk).2 hF.size,by have:=(h2 k hk).2;omega⟩⟩
theorem ShV.step {w w':World} {N s b:Nat} {U:Nat→Prop} {D D':List Dc} (h0:eC w U s D) (hU:∀ k,U k→N≤k∧k<w.heap.size∧k≠b) (h:eC w' (Nx U w w') s D'∧Chg U w w') (hb:b<w.heap.size):ShV w' N s D' b:=by
 have hN:=XS.low h0 (fun k hk=>⟨(hU k hk).1,(hU k hk).2.1⟩);have hz:=h.2.size;refine ⟨_,h.1,fun k hk=>?_⟩;rcases hk with e | e
 ·have:=hU k e;omega
 ·omega
theorem ShU.docs {w:World} {N s:Nat} {D:List Dc} (h:ShU w N s D):jb D∧jJ D:=by
 obtain ⟨U,h1,_⟩:=h;exact h1.docs
theorem vd {D:List Dc} {d:Dc} {q:ByteArray} (hs:SD D) (h:jZ D d=0) (hq:gM q 5=0):sN (gn D d) q 5=sN D q 5+(ks (txt d.2) (txt q)).length∧jZ (gn D d) d=4∧gn (gn D d) d=gn D d∧tm (gn D d) d.1=0∧fc (gn D d) d.1=D∧tm D d.1=3∧fc D d.1=D∧d.2.size≤2048:=by
 by_cases h1:1≤d.1.size∧d.1.size≤64
 case neg=>rw [oG h1] at h;cases h
 by_cases h2:2048<d.2.size
 ·rw [wt h1 h2] at h;cases h
 by_cases h3:∃ e∈D,e.1=d.1
 ·rw [oE h1 h2 h3] at h;cases h
 have hdif:Dif (D++[d]):=by
  unfold Dif;rw [List.pairwise_append];refine ⟨hs.dif,List.pairwise_singleton ..,fun a ha b hb e=>?_⟩;rw [List.mem_singleton.1 hb] at e;exact h3 ⟨a,ha,e⟩
 obtain ⟨hsd,hp⟩:=pb hdif;have he:gn D d=uq (D++[d]):=nM h;have hm:∃ e∈gn D d,e.1=d.1:=⟨d,by rw [he];exact hp.mem_iff.2 (by simp),rfl⟩;have h4:=oE (D:=gn D d) h1 h2 hm;have hn:fc D d.1=D:=tl h3;refine ⟨?_,h4,gO (by rw [h4];decide),qM h1 hm,?_,zT h1 h3,hn,by omega⟩
 ·unfold sN;rw [if_pos hq,if_pos hq,he,(uZ hp q).length_eq,jE,List.length_append];show _+(hOf d q++[]).length=_;rw [List.append_nil];unfold hOf;rw [List.length_map]
 ·rw [he];refine SD.uniq (vW hsd) hs ((u_ hp d.1).trans ?_);rw [lL,hn,show fc [d] d.1=[] by unfold fc;simp,List.append_nil]
theorem IL {D:List Dc} (hf:jJ D) (q:ByteArray):sN D q 5≤16448:=by
 unfold sN;split
 ·exact s8 q (.refl D) hf
 ·omega
theorem ao (A B:Option Addr) (ca cb:Nat) (ds:List Dc) (acs:List Ac) (w:World) (hS:w.ShapedOpen prog) (ha:y4 w A B ca ds acs) :
 Rt prog 5 [.agg #[.slice A ds.length ca,.slice B acs.length cb]] w (fun v w'=>v=.bool true∧aj w w'):=by
 obtain ⟨m,hm⟩:=qj hS;have hlen:=ha.len;have hlenA:=ha.lenA;refine enter (n:=191) Tryz.func5 rfl rfl rfl (ag (aa (c0 (v:=.agg _) rfl ?_)));intro b1 w1 E1 hb1 hk1;refine asb rfl (ah (ae (ag (ag (aa (ab (bk (cs:=[_,_]) tV tQ rfl (by exact (hk1.from_ aj.rfl_).whole)) ?_))))));refine ax tU (s9 A B ca cb ds acs _ (ha.from_ (aj.rfl_.next E1))) ?_;rintro v23 w2 ⟨⟨hv,rfl,hli⟩,E23⟩;refine mvb rfl (bC (t:=24) rfl (fun Q3=>?_) (fun Q3=>?_))
 ·refine aD rfl rfl (aD rfl rfl (aD rfl rfl (aD rfl rfl (ab (a_ (v:=.bool _) rfl rfl) (ah (ae (cA rfl (ag (aa (asb rfl ?_))))))))));refine ah (ae (aA (aF (bE (v:=.bool _) rfl rfl (⟨rfl,((aj.rfl_.next E1).next E23)⟩)))))
 refine al rfl (ab (ak fq rfl) (al rfl (ab (aq cC rfl (by exact (hk1.from_ (aj.rfl_.next E23)).rd 0 rfl)) ?_)));refine al rfl ?_;refine ax oW (vT A ca ds.length ds _ (ha.row.from_ ((aj.rfl_.next E1).next E23)) rfl (by have h9:=hli (by first | assumption | simp_all);omega) ha.sm) ?_;rintro v27 w4 ⟨⟨m27,rfl,hm27⟩,E27⟩;refine al rfl (ab (bX rfl rfl) (ab (aR (v:=.bool _) rfl rfl) (ah (ae (K8 rfl (fun Q5=>?_) (fun Q5=>?_))))))
 ·refine ag (aa (asb rfl (ah (ae (aA (aF (bE (v:=.bool _) rfl rfl (⟨rfl,(((aj.rfl_.next E1).next E23).next E27)⟩))))))))
 refine au (ae (ag (aa (ab (ak fq rfl) (ab (aq cC rfl (by exact (hk1.from_ ((aj.rfl_.next E23).next E27)).rd 0 rfl)) ?_)))));obtain ⟨N,hN⟩:∃ N,N=(w4).heap.size:=⟨_,rfl⟩;have hNw:w.heap.size≤N:=by rw [hN];exact ((((aj.rfl_.next E1).next E23).next E27)).size
 have hk133:=hk1.from_ (((aj.rfl_.next E23).next E27));have hNb:b1<N:=by rw [hN];exact hk133.lt
 refine ax mm (cd A ca ds.length ds _ (ha.row.from_ (((aj.rfl_.next E1).next E23).next E27)) rfl (by have h9:=hli (by first | assumption | simp_all);omega) (fun e=>by have:=ha.nil e;have:=ha.cap;omega)) ?_;rintro v33 w6 ⟨hs33,E33⟩;replace hk1:=hk133.from_ E33;rcases hs33 with ⟨hck,rfl⟩ | ⟨hck,s,rfl,hsh⟩
 ·have hb33:(l7 ds != 0)=true:=by simpa using hck
  refine mvt rfl (ab (aw rfl rfl) (ab (aw rfl rfl) (asp rfl (asi rfl (ah (ae (ag (ag (aa (mvi rfl (ax bY (cK _ _) ?_)))))))))));rintro v37 w7 ⟨rfl,rfl⟩;refine ab (bP rfl rfl) (ah (ae (L_ rfl (fun Q8=>?_) (fun Q8=>?_))))
  ·refine ag (aa (mvp rfl (ab (gx (gK (by kernel_rfl) rfl rfl) rfl) (mvb rfl (al rfl (ax fx (ft _ m (bu ((((aj.rfl_.next E1).next E23).next E27).next E33) hm)) ?_))))));rintro v42 w9 ⟨rfl,E42⟩;refine ab (a_ (v:=.bool _) rfl rfl) (asb rfl (ah (ae (aA (aF (bE (v:=.bool _) rfl rfl (⟨rfl,(((((aj.rfl_.next E1).next E23).next E27).next E33).next E42)⟩)))))))
  first
   |(exfalso; first | (first | omega | (simp [hb33] at *; done); trace "@MK D ao:g24-.c29-.f33.0.c38- 1") | (contradiction; trace "@MK D ao:g24-.c29-.f33.0.c38- 2") | ((cases Q8; done); trace "@MK D ao:g24-.c29-.f33.0.c38- 3"))
   |(trace "@MK D ao:g24-.c29-.f33.0.c38- 0")
    refine au (ae (ag (ag (aa (asi rfl (ah (ae (az (bg (G:=Nat) (2::6::7::8::9::10::11::12::13::14::15::16::17::18::19::20::21::44::45::46::47::48::49::50::51::52::53::54::55::56::57::58::59::60::61::62::63::64::65::66::67::68::69::70::71::72::73::74::75::76::77::78::79::80::81::82::83::84::85::86::87::88::89::90::91::92::93::94::95::96::97::98::99::100::101::102::103::104::105::106::107::108::109::110::111::112::113::114::115::116::117::118::119::120::121::122::123::124::125::126::127::128::129::130::131::132::133::134::135::136::137::138::139::140::141::142::143::144::145::146::147::148::149::150::151::152::153::154::155::156::157::158::159::160::161::162::163::164::165::166::167::168::169::170::171::172::173::174::175::176::177::178::179::180::181::182::183::184::185::186::187::188::189::[]) (fun i=>[(5,.int .i64 (i:Nat))]) (fun i w'=>i≤acs.length∧(∃ D,ShU w' N s D)∧Blk w' b1 25 #[.slice A ds.length ca,.slice B acs.length cb]∧aj w w') (fun i=>acs.length-i) (0) ⟨rfl,trivial⟩ ?_ ?_)))))))))
    ·exact ⟨Nat.zero_le _,⟨ds,(ShU.of hsh).from_ aj.rfl_⟩,hk1.from_ aj.rfl_,((((aj.rfl_.next E1).next E23).next E27).next E33)⟩
    rintro i ρ10 w10 ⟨hi,⟨D,hsu⟩,hP,hB⟩;refine ag (ag (aa (mvi rfl (ab (ak db rfl) (ab (aq dI rfl (by exact (hP.from_ aj.rfl_).rd 1 rfl)) ?_)))));refine ab (aU fV rfl) (ab (aY rfl rfl) (mvb rfl (bC (t:=49) rfl (fun Q11=>?_) (fun Q11=>?_))))
    ·(try with_reducible first | (replace Q11 := dT_ Q11; trace "@MK N ao:g24-.c29-.f33.0.c38-.g49+ 1.1") | (replace Q11 := dF_ Q11; trace "@MK N ao:g24-.c29-.f33.0.c38-.g49+ 1.2") | (replace Q11 := eo Q11; trace "@MK N ao:g24-.c29-.f33.0.c38-.g49+ 1.3") | (replace Q11 := ep Q11; trace "@MK N ao:g24-.c29-.f33.0.c38-.g49+ 1.4"))
     (try with_reducible first | (replace Q11 := dT_ Q11; trace "@MK N ao:g24-.c29-.f33.0.c38-.g49+ 2.1") | (replace Q11 := dF_ Q11; trace "@MK N ao:g24-.c29-.f33.0.c38-.g49+ 2.2") | (replace Q11 := dG Q11; trace "@MK N ao:g24-.c29-.f33.0.c38-.g49+ 2.3") | (replace Q11 := dH Q11; trace "@MK N ao:g24-.c29-.f33.0.c38-.g49+ 2.4") | (replace Q11 := eJ Q11; trace "@MK N ao:g24-.c29-.f33.0.c38-.g49+ 2.5") | (replace Q11 := eK Q11; trace "@MK N ao:g24-.c29-.f33.0.c38-.g49+ 2.6"))
     first
      |(exfalso; first | (first | omega | (simp [hb33] at *; done); trace "@MK D ao:g24-.c29-.f33.0.c38-.g49+ 1") | (contradiction; trace "@MK D ao:g24-.c29-.f33.0.c38-.g49+ 2") | ((cases Q11; done); trace "@MK D ao:g24-.c29-.f33.0.c38-.g49+ 3"))
      |(trace "@MK D ao:g24-.c29-.f33.0.c38-.g49+ 0")
       refine al rfl (mvi rfl (al rfl (ab (aY rfl rfl) (ab (a_ (v:=.bool _) rfl rfl) (ah (ae (av rfl (fun Q12=>?_) (fun Q12=>?_))))))))
       ·(try with_reducible first | (replace Q12 := dT_ Q12; trace "@MK N ao:g24-.c29-.f33.0.c38-.g49+.c52+ 1.1") | (replace Q12 := dF_ Q12; trace "@MK N ao:g24-.c29-.f33.0.c38-.g49+.c52+ 1.2") | (replace Q12 := eo Q12; trace "@MK N ao:g24-.c29-.f33.0.c38-.g49+.c52+ 1.3") | (replace Q12 := ep Q12; trace "@MK N ao:g24-.c29-.f33.0.c38-.g49+.c52+ 1.4"))
        (try with_reducible first | (replace Q12 := dT_ Q12; trace "@MK N ao:g24-.c29-.f33.0.c38-.g49+.c52+ 2.1") | (replace Q12 := dF_ Q12; trace "@MK N ao:g24-.c29-.f33.0.c38-.g49+.c52+ 2.2") | (replace Q12 := dG Q12; trace "@MK N ao:g24-.c29-.f33.0.c38-.g49+.c52+ 2.3") | (replace Q12 := dH Q12; trace "@MK N ao:g24-.c29-.f33.0.c38-.g49+.c52+ 2.4") | (replace Q12 := eJ Q12; trace "@MK N ao:g24-.c29-.f33.0.c38-.g49+.c52+ 2.5") | (replace Q12 := eK Q12; trace "@MK N ao:g24-.c29-.f33.0.c38-.g49+.c52+ 2.6"))
        obtain ⟨bA,oA,rfl,hcA⟩:=ha.rowA (by omega);have hil:i<acs.length:=by omega
        obtain ⟨a,haa⟩:∃ a,a=acs[i]:=⟨_,rfl⟩;have hce:=hcA i hil;rw [←haa] at hce;obtain ⟨hs0,hs1,hs2,hs3,hs4⟩:=ha.smA a (by rw [haa];exact List.getElem_mem hil);unfold Small at hs1 hs2 hs3
        first
         |(exfalso; first | (first | omega | (simp [hb33] at *; done); trace "@MK D ao:g24-.c29-.f33.0.c38-.g49+.c52+ 1") | (contradiction; trace "@MK D ao:g24-.c29-.f33.0.c38-.g49+.c52+ 2") | ((cases Q12; done); trace "@MK D ao:g24-.c29-.f33.0.c38-.g49+.c52+ 3"))
         |(trace "@MK D ao:g24-.c29-.f33.0.c38-.g49+.c52+ 0")
          refine au (ae (ag (az (ag (aa (ab (ak db rfl) (ab (aq dI rfl (by exact (hP.from_ aj.rfl_).rd 1 rfl)) ?_)))))));refine mvi rfl (ab (aG jt rfl rfl (by omega)) (ab (bk (cs:=[_,_,_,_,_]) oV jr rfl (by exact da hB hce)) ?_));refine dE oQ ?_;intro b6 w13 E6 hb6 hk6;have hg6:w.heap.size≤b6:=by rw [hb6];exact (hB).size
          refine fz (vs:=[_,_,_,_,_]) jr rfl rfl (by simp [Value.oneCell']) (hk6) rfl ?_;intro w14 O9 P9;have F9:aj _ w14:=E6.only O9 (by rw [hb6];exact Nat.le_refl _);have hsv:=hsu.v (b:=b6) F9 (by rw [hb6];exact Nat.le_refl _);replace hP:=hP.from_ F9;have hdD:=hsu.docs;have hsd:=sj hdD.1;have hnl:=IL hdD.2 a.2.2.1;refine ah (ae (ag (aa (mvp rfl (ab (ak cQ rfl) (ab (aq aX rfl (by exact (P9.from_ aj.rfl_).rd 3 rfl)) ?_))))));obtain ⟨U64,hu64,hU64⟩:=hsv.from_ (aj.rfl_);refine ax eM (eg U64 s D _ hu64 a.2.2.1 5 m (bu ((hB.next E6).only O9 (hg6)) hm) hs3) ?_;rintro v64 w15 ⟨⟨A64,c64,rfl,ho64⟩,E64⟩;refine mvt rfl (ab (aw rfl rfl) (ab (aw rfl rfl) (ab (aw rfl rfl) (ass rfl (asi rfl (asi rfl (ah (ae (ag (ag (aa (mvi rfl ?_))))))))))));refine ax bY (cK _ _) ?_;rintro v69 w16 ⟨rfl,rfl⟩;refine ab (bP rfl rfl) (mvb rfl (bC (t:=71) rfl (fun Q17=>?_) (fun Q17=>?_)))
          ·(try with_reducible first | (replace Q17 := dT_ Q17; trace "@MK N ao:g24-.c29-.f33.0.c38-.g49+.c52+.g71+ 1.1") | (replace Q17 := dF_ Q17; trace "@MK N ao:g24-.c29-.f33.0.c38-.g49+.c52+.g71+ 1.2") | (replace Q17 := eo Q17; trace "@MK N ao:g24-.c29-.f33.0.c38-.g49+.c52+.g71+ 1.3") | (replace Q17 := ep Q17; trace "@MK N ao:g24-.c29-.f33.0.c38-.g49+.c52+.g71+ 1.4"))
           (try with_reducible first | (replace Q17 := dT_ Q17; trace "@MK N ao:g24-.c29-.f33.0.c38-.g49+.c52+.g71+ 2.1") | (replace Q17 := dF_ Q17; trace "@MK N ao:g24-.c29-.f33.0.c38-.g49+.c52+.g71+ 2.2") | (replace Q17 := dG Q17; trace "@MK N ao:g24-.c29-.f33.0.c38-.g49+.c52+.g71+ 2.3") | (replace Q17 := dH Q17; trace "@MK N ao:g24-.c29-.f33.0.c38-.g49+.c52+.g71+ 2.4") | (replace Q17 := eJ Q17; trace "@MK N ao:g24-.c29-.f33.0.c38-.g49+.c52+.g71+ 2.5") | (replace Q17 := eK Q17; trace "@MK N ao:g24-.c29-.f33.0.c38-.g49+.c52+.g71+ 2.6"))
           first
            |(exfalso; first | (first | omega | (simp [hb33] at *; done); trace "@MK D ao:g24-.c29-.f33.0.c38-.g49+.c52+.g71+ 1") | (contradiction; trace "@MK D ao:g24-.c29-.f33.0.c38-.g49+.c52+.g71+ 2") | ((cases Q17; done); trace "@MK D ao:g24-.c29-.f33.0.c38-.g49+.c52+.g71+ 3"))
            |(trace "@MK D ao:g24-.c29-.f33.0.c38-.g49+.c52+.g71+ 0")
             refine aD rfl rfl (aD rfl rfl (aD rfl rfl (aD rfl rfl (aD rfl rfl (aD rfl rfl (ab (a_ (v:=.bool _) rfl rfl) (ah (ae (cA rfl ?_)))))))));refine aZ (aC (aT (ae (aa (mvi rfl (ab (eh rfl rfl (by omega)) (asi rfl (ah ?_))))))));refine aO (i+1) ⟨(by first | rfl | (refine aM ?_;omega)),trivial⟩ (by (iterate 206 refine aB rfl ?_);exact aK) ⟨?_,?_⟩
             ·exact ⟨by omega,⟨_,(hsv.from_ (aj.rfl_.next E64)).u⟩,hP.from_ (aj.rfl_.next E64),(((hB.next E6).only O9 (hg6)).next E64)⟩
             ·show acs.length-(i+1)<acs.length-i;omega
          (try with_reducible first | (replace Q17 := dT_ Q17; trace "@MK N ao:g24-.c29-.f33.0.c38-.g49+.c52+.g71- 1.1") | (replace Q17 := dF_ Q17; trace "@MK N ao:g24-.c29-.f33.0.c38-.g49+.c52+.g71- 1.2") | (replace Q17 := eo Q17; trace "@MK N ao:g24-.c29-.f33.0.c38-.g49+.c52+.g71- 1.3") | (replace Q17 := ep Q17; trace "@MK N ao:g24-.c29-.f33.0.c38-.g49+.c52+.g71- 1.4"))
          (try with_reducible first | (replace Q17 := dT_ Q17; trace "@MK N ao:g24-.c29-.f33.0.c38-.g49+.c52+.g71- 2.1") | (replace Q17 := dF_ Q17; trace "@MK N ao:g24-.c29-.f33.0.c38-.g49+.c52+.g71- 2.2") | (replace Q17 := dG Q17; trace "@MK N ao:g24-.c29-.f33.0.c38-.g49+.c52+.g71- 2.3") | (replace Q17 := dH Q17; trace "@MK N ao:g24-.c29-.f33.0.c38-.g49+.c52+.g71- 2.4") | (replace Q17 := eJ Q17; trace "@MK N ao:g24-.c29-.f33.0.c38-.g49+.c52+.g71- 2.5") | (replace Q17 := eK Q17; trace "@MK N ao:g24-.c29-.f33.0.c38-.g49+.c52+.g71- 2.6"))
          have hak:gM a.2.2.1 5=0:=by simpa using Q17
          have hq0:=(pL hak).2.1
          first
           |(exfalso; first | (first | omega | (simp [hb33] at *; done); trace "@MK D ao:g24-.c29-.f33.0.c38-.g49+.c52+.g71- 1") | (contradiction; trace "@MK D ao:g24-.c29-.f33.0.c38-.g49+.c52+.g71- 2") | ((cases Q17; done); trace "@MK D ao:g24-.c29-.f33.0.c38-.g49+.c52+.g71- 3"))
           |(trace "@MK D ao:g24-.c29-.f33.0.c38-.g49+.c52+.g71- 0")
            refine al rfl (mvp rfl (al rfl (ab (ak cL rfl) (al rfl (ab (bk (cs:=[_,_]) bJ bh rfl (by exact nL (P9.from_ (aj.rfl_.next E64)))) ?_)))));refine al rfl ?_;obtain ⟨U75,hu75,hU75⟩:=hsv.from_ ((aj.rfl_.next E64));have hP75:=hP.from_ ((aj.rfl_.next E64));have hQ75:=P9.from_ ((aj.rfl_.next E64));refine ax iq (oC U75 s D _ hu75 a.2.1 hs1 hs2) ?_;rintro v75 w18 ⟨rfl,hs75,hC75⟩;replace hP:=hP75.chg hC75 (fun h=>by have:=(hU75 _ h).1;omega);replace P9:=hQ75.chg hC75 (fun h=>(hU75 _ h).2.2 rfl);replace hsv:=ShV.step hu75 hU75 ⟨hs75,hC75⟩ hQ75.lt;refine al rfl (ax bY (cK _ _) ?_);rintro v76 w19 ⟨rfl,rfl⟩;refine al rfl (ab (bP rfl rfl) (ab (aR (v:=.bool _) rfl rfl) (ah (ae (av rfl (fun Q20=>?_) (fun Q20=>?_))))))
            ·(try with_reducible first | (replace Q20 := dT_ Q20; trace "@MK N ao:g24-.c29-.f33.0.c38-.g49+.c52+.g71-.c78+ 1.1") | (replace Q20 := dF_ Q20; trace "@MK N ao:g24-.c29-.f33.0.c38-.g49+.c52+.g71-.c78+ 1.2") | (replace Q20 := eo Q20; trace "@MK N ao:g24-.c29-.f33.0.c38-.g49+.c52+.g71-.c78+ 1.3") | (replace Q20 := ep Q20; trace "@MK N ao:g24-.c29-.f33.0.c38-.g49+.c52+.g71-.c78+ 1.4"))
             (try with_reducible first | (replace Q20 := dT_ Q20; trace "@MK N ao:g24-.c29-.f33.0.c38-.g49+.c52+.g71-.c78+ 2.1") | (replace Q20 := dF_ Q20; trace "@MK N ao:g24-.c29-.f33.0.c38-.g49+.c52+.g71-.c78+ 2.2") | (replace Q20 := dG Q20; trace "@MK N ao:g24-.c29-.f33.0.c38-.g49+.c52+.g71-.c78+ 2.3") | (replace Q20 := dH Q20; trace "@MK N ao:g24-.c29-.f33.0.c38-.g49+.c52+.g71-.c78+ 2.4") | (replace Q20 := eJ Q20; trace "@MK N ao:g24-.c29-.f33.0.c38-.g49+.c52+.g71-.c78+ 2.5") | (replace Q20 := eK Q20; trace "@MK N ao:g24-.c29-.f33.0.c38-.g49+.c52+.g71-.c78+ 2.6"))
             first
              |(exfalso; first | (first | omega | (simp [hb33] at *; done); trace "@MK D ao:g24-.c29-.f33.0.c38-.g49+.c52+.g71-.c78+ 1") | (contradiction; trace "@MK D ao:g24-.c29-.f33.0.c38-.g49+.c52+.g71-.c78+ 2") | ((cases Q20; done); trace "@MK D ao:g24-.c29-.f33.0.c38-.g49+.c52+.g71-.c78+ 3"))
              |(trace "@MK D ao:g24-.c29-.f33.0.c38-.g49+.c52+.g71-.c78+ 0")
               refine aZ (aC (aT (ae (aa (mvi rfl (ab (eh rfl rfl (by omega)) (asi rfl (ah ?_))))))));refine aO (i+1) ⟨(by first | rfl | (refine aM ?_;omega)),trivial⟩ (by (iterate 206 refine aB rfl ?_);exact aK) ⟨?_,?_⟩
               ·exact ⟨by omega,⟨_,(hsv.from_ aj.rfl_).u⟩,hP.from_ aj.rfl_,(((((hB.next E6).only O9 (hg6)).next E64)).chg hC75 (fun k hk=>Nat.le_trans hNw (hU75 k hk).1))⟩
               ·show acs.length-(i+1)<acs.length-i;omega
            (try with_reducible first | (replace Q20 := dT_ Q20; trace "@MK N ao:g24-.c29-.f33.0.c38-.g49+.c52+.g71-.c78- 1.1") | (replace Q20 := dF_ Q20; trace "@MK N ao:g24-.c29-.f33.0.c38-.g49+.c52+.g71-.c78- 1.2") | (replace Q20 := eo Q20; trace "@MK N ao:g24-.c29-.f33.0.c38-.g49+.c52+.g71-.c78- 1.3") | (replace Q20 := ep Q20; trace "@MK N ao:g24-.c29-.f33.0.c38-.g49+.c52+.g71-.c78- 1.4"))
            (try with_reducible first | (replace Q20 := dT_ Q20; trace "@MK N ao:g24-.c29-.f33.0.c38-.g49+.c52+.g71-.c78- 2.1") | (replace Q20 := dF_ Q20; trace "@MK N ao:g24-.c29-.f33.0.c38-.g49+.c52+.g71-.c78- 2.2") | (replace Q20 := dG Q20; trace "@MK N ao:g24-.c29-.f33.0.c38-.g49+.c52+.g71-.c78- 2.3") | (replace Q20 := dH Q20; trace "@MK N ao:g24-.c29-.f33.0.c38-.g49+.c52+.g71-.c78- 2.4") | (replace Q20 := eJ Q20; trace "@MK N ao:g24-.c29-.f33.0.c38-.g49+.c52+.g71-.c78- 2.5") | (replace Q20 := eK Q20; trace "@MK N ao:g24-.c29-.f33.0.c38-.g49+.c52+.g71-.c78- 2.6"))
            have hae:jZ D a.2.1=0:=by simpa using Q20
            obtain ⟨hc1,hc2,hc3,hc4,hc5,hc6,hc7,hc8⟩:=vd (q:=a.2.2.1) hsd hae hak
            first
             |(exfalso; first | (first | omega | (simp [hb33] at *; done); trace "@MK D ao:g24-.c29-.f33.0.c38-.g49+.c52+.g71-.c78- 1") | (contradiction; trace "@MK D ao:g24-.c29-.f33.0.c38-.g49+.c52+.g71-.c78- 2") | ((cases Q20; done); trace "@MK D ao:g24-.c29-.f33.0.c38-.g49+.c52+.g71-.c78- 3"))
             |(trace "@MK D ao:g24-.c29-.f33.0.c38-.g49+.c52+.g71-.c78- 0")
              refine au (ae (eY (G:=Unit) [79,80,81,82,83] (fun _=>[]) (fun _ w'=>ShV w' N s (gn D a.2.1) b6∧Blk w' b1 25 #[.slice A ds.length ca,.slice (some ⟨bA,oA,none⟩) acs.length cb]∧Blk w' b6 39 (acV a).toArray∧aj w w') ?_ ?_))
              ·refine ag (aa (mvi rfl (ab (kP (b:=2) rfl rfl (by decide)) (ab (cy rfl rfl) (ah (ae (av rfl (fun Q21=>?_) (fun Q21=>?_))))))))
               ·(try with_reducible first | (replace Q21 := dT_ Q21; trace "@MK N ao:g24-.c29-.f33.0.c38-.g49+.c52+.g71-.c78-.c81+ 1.1") | (replace Q21 := dF_ Q21; trace "@MK N ao:g24-.c29-.f33.0.c38-.g49+.c52+.g71-.c78-.c81+ 1.2") | (replace Q21 := eo Q21; trace "@MK N ao:g24-.c29-.f33.0.c38-.g49+.c52+.g71-.c78-.c81+ 1.3") | (replace Q21 := ep Q21; trace "@MK N ao:g24-.c29-.f33.0.c38-.g49+.c52+.g71-.c78-.c81+ 1.4"))
                (try with_reducible first | (replace Q21 := dT_ Q21; trace "@MK N ao:g24-.c29-.f33.0.c38-.g49+.c52+.g71-.c78-.c81+ 2.1") | (replace Q21 := dF_ Q21; trace "@MK N ao:g24-.c29-.f33.0.c38-.g49+.c52+.g71-.c78-.c81+ 2.2") | (replace Q21 := dG Q21; trace "@MK N ao:g24-.c29-.f33.0.c38-.g49+.c52+.g71-.c78-.c81+ 2.3") | (replace Q21 := dH Q21; trace "@MK N ao:g24-.c29-.f33.0.c38-.g49+.c52+.g71-.c78-.c81+ 2.4") | (replace Q21 := eJ Q21; trace "@MK N ao:g24-.c29-.f33.0.c38-.g49+.c52+.g71-.c78-.c81+ 2.5") | (replace Q21 := eK Q21; trace "@MK N ao:g24-.c29-.f33.0.c38-.g49+.c52+.g71-.c78-.c81+ 2.6"))
                first
                 |(exfalso; first | (first | omega | (simp [hb33] at *; done); trace "@MK D ao:g24-.c29-.f33.0.c38-.g49+.c52+.g71-.c78-.c81+ 1") | (contradiction; trace "@MK D ao:g24-.c29-.f33.0.c38-.g49+.c52+.g71-.c78-.c81+ 2") | ((cases Q21; done); trace "@MK D ao:g24-.c29-.f33.0.c38-.g49+.c52+.g71-.c78-.c81+ 3"))
                 |(trace "@MK D ao:g24-.c29-.f33.0.c38-.g49+.c52+.g71-.c78-.c81+ 0")
                  refine aa (mvp rfl ?_);obtain ⟨U83,hu83,hU83⟩:=hsv.from_ (aj.rfl_);have hP83:=hP.from_ (aj.rfl_);have hQ83:=P9.from_ (aj.rfl_);refine ax ml (h_ U83 s (gn D a.2.1) _ hu83) ?_;rintro v83 w22 ⟨hs83,hC83⟩;replace hP:=hP83.chg hC83 (fun h=>by have:=(hU83 _ h).1;omega);replace P9:=hQ83.chg hC83 (fun h=>(hU83 _ h).2.2 rfl);replace hsv:=ShV.step hu83 hU83 ⟨hs83,hC83⟩ hQ83.lt;refine ah ?_;refine aO (()) trivial (by (iterate 5 refine aB rfl ?_);exact aK) ?_;exact ⟨hsv.from_ aj.rfl_,hP.from_ aj.rfl_,P9.from_ aj.rfl_,(((((((hB.next E6).only O9 (hg6)).next E64)).chg hC75 (fun k hk=>Nat.le_trans hNw (hU75 k hk).1))).chg hC83 (fun k hk=>Nat.le_trans hNw (hU83 k hk).1))⟩
               (try with_reducible first | (replace Q21 := dT_ Q21; trace "@MK N ao:g24-.c29-.f33.0.c38-.g49+.c52+.g71-.c78-.c81- 1.1") | (replace Q21 := dF_ Q21; trace "@MK N ao:g24-.c29-.f33.0.c38-.g49+.c52+.g71-.c78-.c81- 1.2") | (replace Q21 := eo Q21; trace "@MK N ao:g24-.c29-.f33.0.c38-.g49+.c52+.g71-.c78-.c81- 1.3") | (replace Q21 := ep Q21; trace "@MK N ao:g24-.c29-.f33.0.c38-.g49+.c52+.g71-.c78-.c81- 1.4"))
               (try with_reducible first | (replace Q21 := dT_ Q21; trace "@MK N ao:g24-.c29-.f33.0.c38-.g49+.c52+.g71-.c78-.c81- 2.1") | (replace Q21 := dF_ Q21; trace "@MK N ao:g24-.c29-.f33.0.c38-.g49+.c52+.g71-.c78-.c81- 2.2") | (replace Q21 := dG Q21; trace "@MK N ao:g24-.c29-.f33.0.c38-.g49+.c52+.g71-.c78-.c81- 2.3") | (replace Q21 := dH Q21; trace "@MK N ao:g24-.c29-.f33.0.c38-.g49+.c52+.g71-.c78-.c81- 2.4") | (replace Q21 := eJ Q21; trace "@MK N ao:g24-.c29-.f33.0.c38-.g49+.c52+.g71-.c78-.c81- 2.5") | (replace Q21 := eK Q21; trace "@MK N ao:g24-.c29-.f33.0.c38-.g49+.c52+.g71-.c78-.c81- 2.6"))
               first
                |(exfalso; first | (first | omega | (simp [hb33] at *; done); trace "@MK D ao:g24-.c29-.f33.0.c38-.g49+.c52+.g71-.c78-.c81- 1") | (contradiction; trace "@MK D ao:g24-.c29-.f33.0.c38-.g49+.c52+.g71-.c78-.c81- 2") | ((cases Q21; done); trace "@MK D ao:g24-.c29-.f33.0.c38-.g49+.c52+.g71-.c78-.c81- 3"))
                |(trace "@MK D ao:g24-.c29-.f33.0.c38-.g49+.c52+.g71-.c78-.c81- 0")
                 refine au ?_;refine aO (()) trivial (by (iterate 3 refine aB rfl ?_);exact aK) ?_;exact ⟨hsv.from_ aj.rfl_,hP.from_ aj.rfl_,P9.from_ aj.rfl_,(((((hB.next E6).only O9 (hg6)).next E64)).chg hC75 (fun k hk=>Nat.le_trans hNw (hU75 k hk).1))⟩
              rintro _ ρ23 w23 ⟨hsv,hP,P9,hB⟩;refine ag (aa (asi rfl (ah (ae (ag (ag (aa (asi rfl (ah (ae (az (bg (G:=Nat) [84,85,86,87,88,89,90,91,92,93,94,95,96,97,98,99,100,101,102,103,104,105,106,107,108,109,110] (fun j=>[(10,.int .i64 ((gj (txt a.2.1.2) (txt a.2.2.1) j).length:Nat)),(11,.int .i64 (j:Nat))]) (fun j w'=>j≤a.2.1.2.size+1∧(j=0∨j+a.2.2.1.size≤a.2.1.2.size+1)∧ShV w' N s (gn D a.2.1) b6∧Blk w' b1 25 #[.slice A ds.length ca,.slice (some ⟨bA,oA,none⟩) acs.length cb]∧Blk w' b6 39 (acV a).toArray∧aj w w') (fun j=>a.2.1.2.size+1-j) (0) ⟨rfl,rfl,trivial⟩ ?_ ?_))))))))))))
              ·exact ⟨Nat.zero_le _,.inl rfl,hsv.from_ aj.rfl_,hP.from_ aj.rfl_,P9.from_ aj.rfl_,hB⟩
              rintro j ρ24 w24 ⟨hj,hj2,hsv,hP,P9,hB⟩;have hkb:=pF (t:=txt a.2.1.2) (q:=txt a.2.2.1) (k:=j);refine ag (ag (aa (mvi rfl (ab (ak cL rfl) (ab (ak bR rfl) (ab (aq aX rfl (by exact (P9.from_ aj.rfl_).rd 2 rfl)) ?_))))));refine ab (ck (by kernel_rfl) rfl) (ab (ak cQ rfl) (ab (aq aX rfl (by exact (P9.from_ aj.rfl_).rd 3 rfl)) ?_));refine ab (ck (by kernel_rfl) rfl) (ab (et rfl rfl (by omega)) (ab (mP rfl rfl) (ah (ae (av rfl (fun Q25=>?_) (fun Q25=>?_))))))
              ·(try with_reducible first | (replace Q25 := dT_ Q25; trace "@MK N ao:g24-.c29-.f33.0.c38-.g49+.c52+.g71-.c78-.c93+ 1.1") | (replace Q25 := dF_ Q25; trace "@MK N ao:g24-.c29-.f33.0.c38-.g49+.c52+.g71-.c78-.c93+ 1.2") | (replace Q25 := eo Q25; trace "@MK N ao:g24-.c29-.f33.0.c38-.g49+.c52+.g71-.c78-.c93+ 1.3") | (replace Q25 := ep Q25; trace "@MK N ao:g24-.c29-.f33.0.c38-.g49+.c52+.g71-.c78-.c93+ 1.4"))
               (try with_reducible first | (replace Q25 := dT_ Q25; trace "@MK N ao:g24-.c29-.f33.0.c38-.g49+.c52+.g71-.c78-.c93+ 2.1") | (replace Q25 := dF_ Q25; trace "@MK N ao:g24-.c29-.f33.0.c38-.g49+.c52+.g71-.c78-.c93+ 2.2") | (replace Q25 := dG Q25; trace "@MK N ao:g24-.c29-.f33.0.c38-.g49+.c52+.g71-.c78-.c93+ 2.3") | (replace Q25 := dH Q25; trace "@MK N ao:g24-.c29-.f33.0.c38-.g49+.c52+.g71-.c78-.c93+ 2.4") | (replace Q25 := eJ Q25; trace "@MK N ao:g24-.c29-.f33.0.c38-.g49+.c52+.g71-.c78-.c93+ 2.5") | (replace Q25 := eK Q25; trace "@MK N ao:g24-.c29-.f33.0.c38-.g49+.c52+.g71-.c78-.c93+ 2.6"))
               first
                |(exfalso; first | (first | omega | (simp [hb33] at *; done); trace "@MK D ao:g24-.c29-.f33.0.c38-.g49+.c52+.g71-.c78-.c93+ 1") | (contradiction; trace "@MK D ao:g24-.c29-.f33.0.c38-.g49+.c52+.g71-.c78-.c93+ 2") | ((cases Q25; done); trace "@MK D ao:g24-.c29-.f33.0.c38-.g49+.c52+.g71-.c78-.c93+ 3"))
                |(trace "@MK D ao:g24-.c29-.f33.0.c38-.g49+.c52+.g71-.c78-.c93+ 0")
                 refine au (ae (eY (G:=Unit) [96,97,98,99,100,101,102,103,104,105,106,107,108,109,110] (fun _=>[(10,.int .i64 ((gj (txt a.2.1.2) (txt a.2.2.1) (j+1)).length:Nat))]) (fun _ w'=>ShV w' N s (gn D a.2.1) b6∧Blk w' b1 25 #[.slice A ds.length ca,.slice (some ⟨bA,oA,none⟩) acs.length cb]∧Blk w' b6 39 (acV a).toArray∧aj w w') ?_ ?_))
                 ·refine az (ag ?_);apply bI 13 [(96,eqp _),(97,eqp _),(98,eqp _),(99,eqp _),(100,eqp _),(101,eqp _),(102,eqp _),(103,eqp _),(104,eqp _),(105,eqp _),(106,eqp _),(107,eqp _),(108,eqp _)] (by repeat first | exact bW | refine bT ?_ | refine bG ?_) (by kernel_rfl) (by kernel_rfl) ⟨af _,af _,af _,af _,af _,af _,af _,af _,af _,af _,af _,af _,af _,trivial⟩
                  case hop=>
                   constructor
                   ·rintro-w27 D27;exact ai (ak cL rfl) rfl
                   constructor
                   ·rintro-w28 D28;rintro _ rfl;exact ai (ak bR rfl) rfl
                   constructor
                   ·rintro-w29 D29;rintro _ rfl;exact ai (aq aX rfl (by exact (P9.from_ (aj.rfl_.next D29)).rd 2 rfl)) rfl
                   constructor
                   ·rintro-w30 D30;exact ai (ar (v:=.int _ _) rfl) rfl
                   constructor
                   ·rintro-w31 D31;exact ai (ar (v:=.int _ _) rfl) rfl
                   constructor
                   ·rintro-w32 D32;exact ai (ak cQ rfl) rfl
                   constructor
                   ·rintro-w33 D33;rintro _ rfl;exact ai (aq aX rfl (by exact (P9.from_ (aj.rfl_.next D33)).rd 3 rfl)) rfl
                   constructor
                   ·rintro-w34 D34;rintro _ rfl;exact ai (ck (by kernel_rfl) rfl) rfl
                   constructor
                   ·rintro-w35 D35;rintro _ rfl _ rfl;exact ai (aI rfl rfl (by omega)) rfl
                   constructor
                   ·rintro-w36 D36;rintro _ rfl _ rfl _ rfl;exact ai (rM (l:=j) (h:=j+a.2.2.1.size) (by kernel_rfl) rfl (.inr ⟨_,_,_,rfl,rfl,rfl⟩) (.inr ⟨_,_,_,rfl,rfl,rfl⟩) (by omega) (by omega)) rfl
                   constructor
                   ·rintro-w37 D37;exact ai (ak cQ rfl) rfl
                   constructor
                   ·rintro-w38 D38;rintro _ rfl;exact ai (aq aX rfl (by exact (P9.from_ (aj.rfl_.next D38)).rd 3 rfl)) rfl
                   constructor
                   ·rintro-w39 D39;rintro _ rfl _ rfl;exact ai (fP rfl rfl) rfl
                   exact trivial
                  case hend=>
                   intro w40 D40;rintro _ rfl _ rfl _ rfl _ rfl _ rfl _ rfl _ rfl _ rfl _ rfl _ rfl _ rfl _ rfl _ rfl;show St ..;refine ah (ae (av rfl (fun Q41=>?_) (fun Q41=>?_)))
                   ·(try with_reducible first | (replace Q41 := dT_ Q41; trace "@MK N ao:g24-.c29-.f33.0.c38-.g49+.c52+.g71-.c78-.c93+.c108+ 1.1") | (replace Q41 := dF_ Q41; trace "@MK N ao:g24-.c29-.f33.0.c38-.g49+.c52+.g71-.c78-.c93+.c108+ 1.2") | (replace Q41 := eo Q41; trace "@MK N ao:g24-.c29-.f33.0.c38-.g49+.c52+.g71-.c78-.c93+.c108+ 1.3") | (replace Q41 := ep Q41; trace "@MK N ao:g24-.c29-.f33.0.c38-.g49+.c52+.g71-.c78-.c93+.c108+ 1.4"))
                    (try with_reducible first | (replace Q41 := dT_ Q41; trace "@MK N ao:g24-.c29-.f33.0.c38-.g49+.c52+.g71-.c78-.c93+.c108+ 2.1") | (replace Q41 := dF_ Q41; trace "@MK N ao:g24-.c29-.f33.0.c38-.g49+.c52+.g71-.c78-.c93+.c108+ 2.2") | (replace Q41 := dG Q41; trace "@MK N ao:g24-.c29-.f33.0.c38-.g49+.c52+.g71-.c78-.c93+.c108+ 2.3") | (replace Q41 := dH Q41; trace "@MK N ao:g24-.c29-.f33.0.c38-.g49+.c52+.g71-.c78-.c93+.c108+ 2.4") | (replace Q41 := eJ Q41; trace "@MK N ao:g24-.c29-.f33.0.c38-.g49+.c52+.g71-.c78-.c93+.c108+ 2.5") | (replace Q41 := eK Q41; trace "@MK N ao:g24-.c29-.f33.0.c38-.g49+.c52+.g71-.c78-.c93+.c108+ 2.6"))
                    have hpre:(txt a.2.2.1).isPrefixOf ((txt a.2.1.2).drop j)=true:=by rw [←l8];exact beq_iff_eq.2 Q41
                    have hks:=pD hpre
                    first
                     |(exfalso; first | (first | omega | (simp [hb33] at *; done); trace "@MK D ao:g24-.c29-.f33.0.c38-.g49+.c52+.g71-.c78-.c93+.c108+ 1") | (contradiction; trace "@MK D ao:g24-.c29-.f33.0.c38-.g49+.c52+.g71-.c78-.c93+.c108+ 2") | ((cases Q41; done); trace "@MK D ao:g24-.c29-.f33.0.c38-.g49+.c52+.g71-.c78-.c93+.c108+ 3"))
                     |(trace "@MK D ao:g24-.c29-.f33.0.c38-.g49+.c52+.g71-.c78-.c93+.c108+ 0")
                      refine aa (mvi rfl (ab (aI (b:=1) rfl rfl (by omega)) (asi rfl (ah (aL ?_)))));refine aO (()) ⟨(by rw [hks,List.length_append];rfl),trivial⟩ (by (iterate 16 refine aB rfl ?_);exact aK) ?_;exact ⟨hsv.from_ (aj.rfl_.next D40),hP.from_ (aj.rfl_.next D40),P9.from_ (aj.rfl_.next D40),(hB.next D40)⟩
                   (try with_reducible first | (replace Q41 := dT_ Q41; trace "@MK N ao:g24-.c29-.f33.0.c38-.g49+.c52+.g71-.c78-.c93+.c108- 1.1") | (replace Q41 := dF_ Q41; trace "@MK N ao:g24-.c29-.f33.0.c38-.g49+.c52+.g71-.c78-.c93+.c108- 1.2") | (replace Q41 := eo Q41; trace "@MK N ao:g24-.c29-.f33.0.c38-.g49+.c52+.g71-.c78-.c93+.c108- 1.3") | (replace Q41 := ep Q41; trace "@MK N ao:g24-.c29-.f33.0.c38-.g49+.c52+.g71-.c78-.c93+.c108- 1.4"))
                   (try with_reducible first | (replace Q41 := dT_ Q41; trace "@MK N ao:g24-.c29-.f33.0.c38-.g49+.c52+.g71-.c78-.c93+.c108- 2.1") | (replace Q41 := dF_ Q41; trace "@MK N ao:g24-.c29-.f33.0.c38-.g49+.c52+.g71-.c78-.c93+.c108- 2.2") | (replace Q41 := dG Q41; trace "@MK N ao:g24-.c29-.f33.0.c38-.g49+.c52+.g71-.c78-.c93+.c108- 2.3") | (replace Q41 := dH Q41; trace "@MK N ao:g24-.c29-.f33.0.c38-.g49+.c52+.g71-.c78-.c93+.c108- 2.4") | (replace Q41 := eJ Q41; trace "@MK N ao:g24-.c29-.f33.0.c38-.g49+.c52+.g71-.c78-.c93+.c108- 2.5") | (replace Q41 := eK Q41; trace "@MK N ao:g24-.c29-.f33.0.c38-.g49+.c52+.g71-.c78-.c93+.c108- 2.6"))
                   have hpre:(txt a.2.2.1).isPrefixOf ((txt a.2.1.2).drop j)=false:=by rw [←l8];exact beq_eq_false_iff_ne.2 Q41
                   have hks:=pE hpre
                   first
                    |(exfalso; first | (first | omega | (simp [hb33] at *; done); trace "@MK D ao:g24-.c29-.f33.0.c38-.g49+.c52+.g71-.c78-.c93+.c108- 1") | (contradiction; trace "@MK D ao:g24-.c29-.f33.0.c38-.g49+.c52+.g71-.c78-.c93+.c108- 2") | ((cases Q41; done); trace "@MK D ao:g24-.c29-.f33.0.c38-.g49+.c52+.g71-.c78-.c93+.c108- 3"))
                    |(trace "@MK D ao:g24-.c29-.f33.0.c38-.g49+.c52+.g71-.c78-.c93+.c108- 0")
                     refine au (aL ?_);refine aO (()) ⟨(by rw [hks];rfl),trivial⟩ (by (iterate 13 refine aB rfl ?_);exact aK) ?_;exact ⟨hsv.from_ (aj.rfl_.next D40),hP.from_ (aj.rfl_.next D40),P9.from_ (aj.rfl_.next D40),(hB.next D40)⟩
                 rintro _ ρ42 w42 ⟨hsv,hP,P9,hB⟩;refine aa (mvi rfl (ab (aI (b:=1) rfl rfl (by omega)) (asi rfl (ah ?_))));refine aO (j+1) ⟨(by first | rfl | (refine aM ?_;omega)),(by first | rfl | (refine aM ?_;omega)),trivial⟩ (by (iterate 58 refine aB rfl ?_);exact aK) ⟨?_,?_⟩
                 ·exact ⟨by omega,by omega,hsv.from_ aj.rfl_,hP.from_ aj.rfl_,P9.from_ aj.rfl_,hB⟩
                 ·show a.2.1.2.size+1-(j+1)<a.2.1.2.size+1-j;omega
              (try with_reducible first | (replace Q25 := dT_ Q25; trace "@MK N ao:g24-.c29-.f33.0.c38-.g49+.c52+.g71-.c78-.c93- 1.1") | (replace Q25 := dF_ Q25; trace "@MK N ao:g24-.c29-.f33.0.c38-.g49+.c52+.g71-.c78-.c93- 1.2") | (replace Q25 := eo Q25; trace "@MK N ao:g24-.c29-.f33.0.c38-.g49+.c52+.g71-.c78-.c93- 1.3") | (replace Q25 := ep Q25; trace "@MK N ao:g24-.c29-.f33.0.c38-.g49+.c52+.g71-.c78-.c93- 1.4"))
              (try with_reducible first | (replace Q25 := dT_ Q25; trace "@MK N ao:g24-.c29-.f33.0.c38-.g49+.c52+.g71-.c78-.c93- 2.1") | (replace Q25 := dF_ Q25; trace "@MK N ao:g24-.c29-.f33.0.c38-.g49+.c52+.g71-.c78-.c93- 2.2") | (replace Q25 := dG Q25; trace "@MK N ao:g24-.c29-.f33.0.c38-.g49+.c52+.g71-.c78-.c93- 2.3") | (replace Q25 := dH Q25; trace "@MK N ao:g24-.c29-.f33.0.c38-.g49+.c52+.g71-.c78-.c93- 2.4") | (replace Q25 := eJ Q25; trace "@MK N ao:g24-.c29-.f33.0.c38-.g49+.c52+.g71-.c78-.c93- 2.5") | (replace Q25 := eK Q25; trace "@MK N ao:g24-.c29-.f33.0.c38-.g49+.c52+.g71-.c78-.c93- 2.6"))
              have hkn:ks (txt a.2.1.2) (txt a.2.2.1)=gj (txt a.2.1.2) (txt a.2.2.1) j:=BA (r4 hq0) (by rw [dr,dr];omega) (by rw [dr];omega)
              first
               |(exfalso; first | (first | omega | (simp [hb33] at *; done); trace "@MK D ao:g24-.c29-.f33.0.c38-.g49+.c52+.g71-.c78-.c93- 1") | (contradiction; trace "@MK D ao:g24-.c29-.f33.0.c38-.g49+.c52+.g71-.c78-.c93- 2") | ((cases Q25; done); trace "@MK D ao:g24-.c29-.f33.0.c38-.g49+.c52+.g71-.c78-.c93- 3"))
               |(trace "@MK D ao:g24-.c29-.f33.0.c38-.g49+.c52+.g71-.c78-.c93- 0")
                refine aZ (aC (aC (aT (ae (ag (aa (mvp rfl (ab (ak cQ rfl) (ab (aq aX rfl (by exact (P9.from_ aj.rfl_).rd 3 rfl)) ?_)))))))));obtain ⟨U115,hu115,hU115⟩:=hsv.from_ (aj.rfl_);refine ax eM (eg U115 s (gn D a.2.1) _ hu115 a.2.2.1 5 m (bu hB hm) hs3) ?_;rintro v115 w43 ⟨⟨A115,c115,rfl,ho115⟩,E115⟩;rw [hc1,hak];refine mvt rfl (ab (aw rfl rfl) (ab (aw rfl rfl) (ab (aw rfl rfl) (ass rfl (asi rfl (asi rfl (ah (ae (ag (aa (mvp rfl ?_)))))))))));refine ab (ak cL rfl) (ab (bk (cs:=[_,_]) bJ bh rfl (by exact nL (P9.from_ (aj.rfl_.next E115)))) ?_);obtain ⟨U122,hu122,hU122⟩:=hsv.from_ ((aj.rfl_.next E115));have hP122:=hP.from_ ((aj.rfl_.next E115));have hQ122:=P9.from_ ((aj.rfl_.next E115));refine ax iq (oC U122 s (gn D a.2.1) _ hu122 a.2.1 hs1 hs2) ?_;rintro v122 w44 ⟨rfl,hs122,hC122⟩;rw [hc2];rw [hc3] at hs122;replace hP:=hP122.chg hC122 (fun h=>by have:=(hU122 _ h).1;omega);replace P9:=hQ122.chg hC122 (fun h=>(hU122 _ h).2.2 rfl);replace hsv:=ShV.step hu122 hU122 ⟨hs122,hC122⟩ hQ122.lt;refine ax bY (cK _ _) ?_;rintro v123 w45 ⟨rfl,rfl⟩;refine asi rfl (ah (ae (ag (aa (mvp rfl (ab (ak cQ rfl) (ab (aq aX rfl (by exact (P9.from_ aj.rfl_).rd 3 rfl)) ?_)))))));obtain ⟨U128,hu128,hU128⟩:=hsv.from_ (aj.rfl_);refine ax eM (eg U128 s (gn D a.2.1) _ hu128 a.2.2.1 5 m (bu (((hB.next E115)).chg hC122 (fun k hk=>Nat.le_trans hNw (hU122 k hk).1)) hm) hs3) ?_;rintro v128 w46 ⟨⟨A128,c128,rfl,ho128⟩,E128⟩;rw [hc1,hak];refine mvt rfl (ab (aw rfl rfl) (ab (aw rfl rfl) (ab (aw rfl rfl) (ass rfl (asi rfl (asi rfl (ah (ae (ag (ag (aa (mvi rfl ?_))))))))))));refine ax bY (cK _ _) ?_;rintro v133 w47 ⟨rfl,rfl⟩;refine ab (cF (bP rfl rfl) (bne_self_eq_false _)) (mvb rfl (al rfl (mvi rfl (al rfl (ax bY (cK _ _) ?_)))));rintro v137 w48 ⟨rfl,rfl⟩;refine al rfl (ab (cF (bP rfl rfl) (bne_self_eq_false _)) (ab (aR (v:=.bool _) rfl rfl) (mvb rfl (al rfl (mvi rfl (al rfl (mvi rfl (al rfl ?_))))))));refine mvi rfl (al rfl (ab (aI rfl rfl (by omega)) (al rfl (ab (cF (bP rfl rfl) (by rw [hkn];exact bne_self_eq_false _)) ?_))));refine ab (aR (v:=.bool _) rfl rfl) (mvb rfl (al rfl (mvi rfl (al rfl (ab (cF (bP rfl rfl) (bne_self_eq_false _)) (ab (aR (v:=.bool _) rfl rfl) (mvb rfl (al rfl ?_))))))));refine mvi rfl (al rfl (mvi rfl (al rfl (ab (cF (bP rfl rfl) (bne_self_eq_false _)) (ab (aR (v:=.bool _) rfl rfl) (mvb rfl (al rfl (mvp rfl ?_))))))));refine al rfl (ab (ak cL rfl) (al rfl (ab (ak aW rfl) (al rfl (ab (aq aX rfl (by exact (P9.from_ (aj.rfl_.next E128)).rd 1 rfl)) ?_)))));refine al rfl ?_;obtain ⟨U161,hu161,hU161⟩:=hsv.from_ ((aj.rfl_.next E128));have hP161:=hP.from_ ((aj.rfl_.next E128));have hQ161:=P9.from_ ((aj.rfl_.next E128));refine ax js (kj U161 s (gn D a.2.1) _ hu161 a.2.1.1 hs1) ?_;rintro v161 w49 ⟨rfl,hs161,hC161⟩;rw [hc4];rw [hc5] at hs161;replace hP:=hP161.chg hC161 (fun h=>by have:=(hU161 _ h).1;omega);replace P9:=hQ161.chg hC161 (fun h=>(hU161 _ h).2.2 rfl);replace hsv:=ShV.step hu161 hU161 ⟨hs161,hC161⟩ hQ161.lt;refine al rfl (ax bY (cK _ _) ?_);rintro v162 w50 ⟨rfl,rfl⟩;refine al rfl (ab (cF (bP rfl rfl) (bne_self_eq_false _)) (ab (aR (v:=.bool _) rfl rfl) (mvb rfl (al rfl (mvp rfl (al rfl (ab (ak cL rfl) (al rfl ?_))))))));refine ab (ak aW rfl) (al rfl (ab (aq aX rfl (by exact (P9.from_ aj.rfl_).rd 1 rfl)) ?_));refine al rfl ?_;obtain ⟨U170,hu170,hU170⟩:=hsv.from_ (aj.rfl_);have hP170:=hP.from_ (aj.rfl_);have hQ170:=P9.from_ (aj.rfl_);refine ax js (kj U170 s D _ hu170 a.2.1.1 hs1) ?_;rintro v170 w51 ⟨rfl,hs170,hC170⟩;rw [hc6];rw [hc7] at hs170;replace hP:=hP170.chg hC170 (fun h=>by have:=(hU170 _ h).1;omega);replace P9:=hQ170.chg hC170 (fun h=>(hU170 _ h).2.2 rfl);replace hsv:=ShV.step hu170 hU170 ⟨hs170,hC170⟩ hQ170.lt;refine al rfl (ax bY (cK _ _) ?_);rintro v171 w52 ⟨rfl,rfl⟩;refine al rfl (ab (cF (bP rfl rfl) (bne_self_eq_false _)) (ab (aR (v:=.bool _) rfl rfl) (ah (ae (cm rfl (au (ae (ag (aa (mvp rfl (ab (ak cQ rfl) (ab (aq aX rfl (by exact (P9.from_ aj.rfl_).rd 3 rfl)) ?_))))))))))));obtain ⟨U178,hu178,hU178⟩:=hsv.from_ (aj.rfl_);refine ax eM (eg U178 s D _ hu178 a.2.2.1 5 m (bu ((((((((hB.next E115)).chg hC122 (fun k hk=>Nat.le_trans hNw (hU122 k hk).1)).next E128)).chg hC161 (fun k hk=>Nat.le_trans hNw (hU161 k hk).1))).chg hC170 (fun k hk=>Nat.le_trans hNw (hU170 k hk).1)) hm) hs3) ?_;rintro v178 w53 ⟨⟨A178,c178,rfl,ho178⟩,E178⟩;rw [hak];refine mvt rfl (ab (aw rfl rfl) (ab (aw rfl rfl) (ab (aw rfl rfl) (ass rfl (asi rfl (asi rfl (ah (ae (ag (aa (mvi rfl ?_)))))))))));refine ax bY (cK _ _) ?_;rintro v183 w54 ⟨rfl,rfl⟩;refine ab (cF (bP rfl rfl) (bne_self_eq_false _)) (mvb rfl (al rfl (mvi rfl (al rfl (mvi rfl (al rfl (ab (cF (bP rfl rfl) (bne_self_eq_false _)) (ab (aR (v:=.bool _) rfl rfl) ?_))))))));refine ah (ae (cm rfl (au (aL (ae (aa (mvi rfl (ab (eh rfl rfl (by omega)) (asi rfl (ah ?_))))))))));refine aO (i+1) ⟨(by first | rfl | (refine aM ?_;omega)),trivial⟩ (by (iterate 341 refine aB rfl ?_);exact aK) ⟨?_,?_⟩
                ·exact ⟨by omega,⟨_,(hsv.from_ (aj.rfl_.next E178)).u⟩,hP.from_ (aj.rfl_.next E178),(((((((((hB.next E115)).chg hC122 (fun k hk=>Nat.le_trans hNw (hU122 k hk).1)).next E128)).chg hC161 (fun k hk=>Nat.le_trans hNw (hU161 k hk).1))).chg hC170 (fun k hk=>Nat.le_trans hNw (hU170 k hk).1)).next E178)⟩
                ·show acs.length-(i+1)<acs.length-i;omega
       (try with_reducible first | (replace Q12 := dT_ Q12; trace "@MK N ao:g24-.c29-.f33.0.c38-.g49+.c52- 1.1") | (replace Q12 := dF_ Q12; trace "@MK N ao:g24-.c29-.f33.0.c38-.g49+.c52- 1.2") | (replace Q12 := eo Q12; trace "@MK N ao:g24-.c29-.f33.0.c38-.g49+.c52- 1.3") | (replace Q12 := ep Q12; trace "@MK N ao:g24-.c29-.f33.0.c38-.g49+.c52- 1.4"))
       (try with_reducible first | (replace Q12 := dT_ Q12; trace "@MK N ao:g24-.c29-.f33.0.c38-.g49+.c52- 2.1") | (replace Q12 := dF_ Q12; trace "@MK N ao:g24-.c29-.f33.0.c38-.g49+.c52- 2.2") | (replace Q12 := dG Q12; trace "@MK N ao:g24-.c29-.f33.0.c38-.g49+.c52- 2.3") | (replace Q12 := dH Q12; trace "@MK N ao:g24-.c29-.f33.0.c38-.g49+.c52- 2.4") | (replace Q12 := eJ Q12; trace "@MK N ao:g24-.c29-.f33.0.c38-.g49+.c52- 2.5") | (replace Q12 := eK Q12; trace "@MK N ao:g24-.c29-.f33.0.c38-.g49+.c52- 2.6"))
       first
        |(exfalso; first | (first | omega | (simp [hb33] at *; done); trace "@MK D ao:g24-.c29-.f33.0.c38-.g49+.c52- 1") | (contradiction; trace "@MK D ao:g24-.c29-.f33.0.c38-.g49+.c52- 2") | ((cases Q12; done); trace "@MK D ao:g24-.c29-.f33.0.c38-.g49+.c52- 3"))
        |(trace "@MK D ao:g24-.c29-.f33.0.c38-.g49+.c52- 0")
         refine aZ (aC (aC (aT (ae (ag (aa (ax fx (ft _ m (bu hB hm)) ?_)))))));rintro v190 w55 ⟨rfl,E190⟩;refine asb rfl (ah (ae (aA (bE (v:=.bool _) rfl rfl (⟨rfl,(hB.next E190)⟩)))))
    (try with_reducible first | (replace Q11 := dT_ Q11; trace "@MK N ao:g24-.c29-.f33.0.c38-.g49- 1.1") | (replace Q11 := dF_ Q11; trace "@MK N ao:g24-.c29-.f33.0.c38-.g49- 1.2") | (replace Q11 := eo Q11; trace "@MK N ao:g24-.c29-.f33.0.c38-.g49- 1.3") | (replace Q11 := ep Q11; trace "@MK N ao:g24-.c29-.f33.0.c38-.g49- 1.4"))
    (try with_reducible first | (replace Q11 := dT_ Q11; trace "@MK N ao:g24-.c29-.f33.0.c38-.g49- 2.1") | (replace Q11 := dF_ Q11; trace "@MK N ao:g24-.c29-.f33.0.c38-.g49- 2.2") | (replace Q11 := dG Q11; trace "@MK N ao:g24-.c29-.f33.0.c38-.g49- 2.3") | (replace Q11 := dH Q11; trace "@MK N ao:g24-.c29-.f33.0.c38-.g49- 2.4") | (replace Q11 := eJ Q11; trace "@MK N ao:g24-.c29-.f33.0.c38-.g49- 2.5") | (replace Q11 := eK Q11; trace "@MK N ao:g24-.c29-.f33.0.c38-.g49- 2.6"))
    first
     |(exfalso; first | (first | omega | (simp [hb33] at *; done); trace "@MK D ao:g24-.c29-.f33.0.c38-.g49- 1") | (contradiction; trace "@MK D ao:g24-.c29-.f33.0.c38-.g49- 2") | ((cases Q11; done); trace "@MK D ao:g24-.c29-.f33.0.c38-.g49- 3"))
     |(trace "@MK D ao:g24-.c29-.f33.0.c38-.g49- 0")
      refine aD rfl rfl (aD rfl rfl (ab (aR (v:=.bool _) rfl rfl) (ah (ae (cm rfl (aZ (aC (aC (aT (ae (ag (aa (ax fx (ft _ m (bu hB hm)) ?_)))))))))))));rintro v190 w56 ⟨rfl,E190⟩;refine asb rfl (ah (ae (aA (bE (v:=.bool _) rfl rfl (⟨rfl,(hB.next E190)⟩)))))
 have hb33:(l7 ds != 0)=false:=by rw [hck];rfl
 rw [←hN] at hsh;refine mvt rfl (ab (aw rfl rfl) (ab (aw rfl rfl) (asp rfl (asi rfl (ah (ae (ag (ag (aa (mvi rfl (ax bY (cK _ _) ?_)))))))))));rintro v37 w57 ⟨rfl,rfl⟩;refine ab (bP rfl rfl) (ah (ae (L_ rfl (fun Q58=>?_) (fun Q58=>?_))))
 ·first
   |(exfalso; first | (first | omega | (simp [hb33] at *; done); trace "@MK D ao:g24-.c29-.f33.1.c38+ 1") | (contradiction; trace "@MK D ao:g24-.c29-.f33.1.c38+ 2") | ((cases Q58; done); trace "@MK D ao:g24-.c29-.f33.1.c38+ 3"))
   |(trace "@MK D ao:g24-.c29-.f33.1.c38+ 0")
    refine ag (aa (mvp rfl (ab (gx (gK (by kernel_rfl) rfl rfl) rfl) (mvb rfl (al rfl (ax fx (ft _ m (bu ((((aj.rfl_.next E1).next E23).next E27).next E33) hm)) ?_))))));rintro v42 w59 ⟨rfl,E42⟩;refine ab (a_ (v:=.bool _) rfl rfl) (asb rfl (ah (ae (aA (aF (bE (v:=.bool _) rfl rfl (⟨rfl,(((((aj.rfl_.next E1).next E23).next E27).next E33).next E42)⟩)))))))
 refine au (ae (ag (ag (aa (asi rfl (ah (ae (az (bg (G:=Nat) (2::6::7::8::9::10::11::12::13::14::15::16::17::18::19::20::21::44::45::46::47::48::49::50::51::52::53::54::55::56::57::58::59::60::61::62::63::64::65::66::67::68::69::70::71::72::73::74::75::76::77::78::79::80::81::82::83::84::85::86::87::88::89::90::91::92::93::94::95::96::97::98::99::100::101::102::103::104::105::106::107::108::109::110::111::112::113::114::115::116::117::118::119::120::121::122::123::124::125::126::127::128::129::130::131::132::133::134::135::136::137::138::139::140::141::142::143::144::145::146::147::148::149::150::151::152::153::154::155::156::157::158::159::160::161::162::163::164::165::166::167::168::169::170::171::172::173::174::175::176::177::178::179::180::181::182::183::184::185::186::187::188::189::[]) (fun i=>[(5,.int .i64 (i:Nat))]) (fun i w'=>i≤acs.length∧(∃ D,ShU w' N s D)∧Blk w' b1 25 #[.slice A ds.length ca,.slice B acs.length cb]∧aj w w') (fun i=>acs.length-i) (0) ⟨rfl,trivial⟩ ?_ ?_)))))))))
 ·exact ⟨Nat.zero_le _,⟨ds,(ShU.of hsh).from_ aj.rfl_⟩,hk1.from_ aj.rfl_,((((aj.rfl_.next E1).next E23).next E27).next E33)⟩
 rintro i ρ60 w60 ⟨hi,⟨D,hsu⟩,hP,hB⟩;refine ag (ag (aa (mvi rfl (ab (ak db rfl) (ab (aq dI rfl (by exact (hP.from_ aj.rfl_).rd 1 rfl)) ?_)))));refine ab (aU fV rfl) (ab (aY rfl rfl) (mvb rfl (KB (t:=49) rfl (fun Q61=>?_) (fun Q61=>?_))))
 ·refine al rfl (mvi rfl (al rfl (ab (aY rfl rfl) (ab (a_ (v:=.bool _) rfl rfl) (ah (ae (K8 rfl (fun Q62=>?_) (fun Q62=>?_))))))))
  ·obtain ⟨bA,oA,rfl,hcA⟩:=ha.rowA (by omega);have hil:i<acs.length:=by omega
   obtain ⟨a,haa⟩:∃ a,a=acs[i]:=⟨_,rfl⟩;have hce:=hcA i hil;rw [←haa] at hce;obtain ⟨hs0,hs1,hs2,hs3,hs4⟩:=ha.smA a (by rw [haa];exact List.getElem_mem hil);unfold Small at hs1 hs2 hs3;refine au (ae (ag (az (ag (aa (ab (ak db rfl) (ab (aq dI rfl (by exact (hP.from_ aj.rfl_).rd 1 rfl)) ?_)))))));refine mvi rfl (ab (aG jt rfl rfl (by omega)) (ab (bk (cs:=[_,_,_,_,_]) oV jr rfl (by exact da hB hce)) ?_));refine dE oQ ?_;intro b6 w63 E6 hb6 hk6;have hg6:w.heap.size≤b6:=by rw [hb6];exact (hB).size
   refine fz (vs:=[_,_,_,_,_]) jr rfl rfl (by simp [Value.oneCell']) (hk6) rfl ?_;intro w64 O9 P9;have F9:aj _ w64:=E6.only O9 (by rw [hb6];exact Nat.le_refl _);have hsv:=hsu.v (b:=b6) F9 (by rw [hb6];exact Nat.le_refl _);replace hP:=hP.from_ F9;have hdD:=hsu.docs;have hsd:=sj hdD.1;have hnl:=IL hdD.2 a.2.2.1;refine ah (ae (ag (aa (mvp rfl (ab (ak cQ rfl) (ab (aq aX rfl (by exact (P9.from_ aj.rfl_).rd 3 rfl)) ?_))))));obtain ⟨U64,hu64,hU64⟩:=hsv.from_ (aj.rfl_);refine ax eM (eg U64 s D _ hu64 a.2.2.1 5 m (bu ((hB.next E6).only O9 (hg6)) hm) hs3) ?_;rintro v64 w65 ⟨⟨A64,c64,rfl,ho64⟩,E64⟩;refine mvt rfl (ab (aw rfl rfl) (ab (aw rfl rfl) (ab (aw rfl rfl) (ass rfl (asi rfl (asi rfl (ah (ae (ag (ag (aa (mvi rfl ?_))))))))))));refine ax bY (cK _ _) ?_;rintro v69 w66 ⟨rfl,rfl⟩;refine ab (bP rfl rfl) (mvb rfl (L6 (t:=71) rfl (fun Q67=>?_) (fun Q67=>?_)))
   ·refine aD rfl rfl (aD rfl rfl (aD rfl rfl (aD rfl rfl (aD rfl rfl (aD rfl rfl (ab (a_ (v:=.bool _) rfl rfl) (ah (ae (cA rfl ?_)))))))));refine aZ (aC (aT (ae (aa (mvi rfl (ab (eh rfl rfl (by omega)) (asi rfl (ah ?_))))))));refine aO (i+1) ⟨(by first | rfl | (refine aM ?_;omega)),trivial⟩ (by (iterate 206 refine aB rfl ?_);exact aK) ⟨?_,?_⟩
    ·exact ⟨by omega,⟨_,(hsv.from_ (aj.rfl_.next E64)).u⟩,hP.from_ (aj.rfl_.next E64),(((hB.next E6).only O9 (hg6)).next E64)⟩
    ·show acs.length-(i+1)<acs.length-i;omega
   have hak:gM a.2.2.1 5=0:=by simpa using Q67
   have hq0:=(pL hak).2.1;refine al rfl (mvp rfl (al rfl (ab (ak cL rfl) (al rfl (ab (bk (cs:=[_,_]) bJ bh rfl (by exact nL (P9.from_ (aj.rfl_.next E64)))) ?_)))));refine al rfl ?_;obtain ⟨U75,hu75,hU75⟩:=hsv.from_ ((aj.rfl_.next E64));have hP75:=hP.from_ ((aj.rfl_.next E64));have hQ75:=P9.from_ ((aj.rfl_.next E64));refine ax iq (oC U75 s D _ hu75 a.2.1 hs1 hs2) ?_;rintro v75 w68 ⟨rfl,hs75,hC75⟩;replace hP:=hP75.chg hC75 (fun h=>by have:=(hU75 _ h).1;omega);replace P9:=hQ75.chg hC75 (fun h=>(hU75 _ h).2.2 rfl);replace hsv:=ShV.step hu75 hU75 ⟨hs75,hC75⟩ hQ75.lt;refine al rfl (ax bY (cK _ _) ?_);rintro v76 w69 ⟨rfl,rfl⟩;refine al rfl (ab (bP rfl rfl) (ab (aR (v:=.bool _) rfl rfl) (ah (ae (L_ rfl (fun Q70=>?_) (fun Q70=>?_))))))
   ·refine aZ (aC (aT (ae (aa (mvi rfl (ab (eh rfl rfl (by omega)) (asi rfl (ah ?_))))))));refine aO (i+1) ⟨(by first | rfl | (refine aM ?_;omega)),trivial⟩ (by (iterate 206 refine aB rfl ?_);exact aK) ⟨?_,?_⟩
    ·exact ⟨by omega,⟨_,(hsv.from_ aj.rfl_).u⟩,hP.from_ aj.rfl_,(((((hB.next E6).only O9 (hg6)).next E64)).chg hC75 (fun k hk=>Nat.le_trans hNw (hU75 k hk).1))⟩
    ·show acs.length-(i+1)<acs.length-i;omega
   have hae:jZ D a.2.1=0:=by simpa using Q70
   obtain ⟨hc1,hc2,hc3,hc4,hc5,hc6,hc7,hc8⟩:=vd (q:=a.2.2.1) hsd hae hak;refine au (ae (eY (G:=Unit) [79,80,81,82,83] (fun _=>[]) (fun _ w'=>ShV w' N s (gn D a.2.1) b6∧Blk w' b1 25 #[.slice A ds.length ca,.slice (some ⟨bA,oA,none⟩) acs.length cb]∧Blk w' b6 39 (acV a).toArray∧aj w w') ?_ ?_))
   ·refine ag (aa (mvi rfl (ab (kP (b:=2) rfl rfl (by decide)) (ab (cy rfl rfl) (ah (ae (K8 rfl (fun Q71=>?_) (fun Q71=>?_))))))))
    ·refine aa (mvp rfl ?_);obtain ⟨U83,hu83,hU83⟩:=hsv.from_ (aj.rfl_);have hP83:=hP.from_ (aj.rfl_);have hQ83:=P9.from_ (aj.rfl_);refine ax ml (h_ U83 s (gn D a.2.1) _ hu83) ?_;rintro v83 w72 ⟨hs83,hC83⟩;replace hP:=hP83.chg hC83 (fun h=>by have:=(hU83 _ h).1;omega);replace P9:=hQ83.chg hC83 (fun h=>(hU83 _ h).2.2 rfl);replace hsv:=ShV.step hu83 hU83 ⟨hs83,hC83⟩ hQ83.lt;refine ah ?_;refine aO (()) trivial (by (iterate 5 refine aB rfl ?_);exact aK) ?_;exact ⟨hsv.from_ aj.rfl_,hP.from_ aj.rfl_,P9.from_ aj.rfl_,(((((((hB.next E6).only O9 (hg6)).next E64)).chg hC75 (fun k hk=>Nat.le_trans hNw (hU75 k hk).1))).chg hC83 (fun k hk=>Nat.le_trans hNw (hU83 k hk).1))⟩
    refine au ?_;refine aO (()) trivial (by (iterate 3 refine aB rfl ?_);exact aK) ?_;exact ⟨hsv.from_ aj.rfl_,hP.from_ aj.rfl_,P9.from_ aj.rfl_,(((((hB.next E6).only O9 (hg6)).next E64)).chg hC75 (fun k hk=>Nat.le_trans hNw (hU75 k hk).1))⟩
   rintro _ ρ73 w73 ⟨hsv,hP,P9,hB⟩;refine ag (aa (asi rfl (ah (ae (ag (ag (aa (asi rfl (ah (ae (az (bg (G:=Nat) [84,85,86,87,88,89,90,91,92,93,94,95,96,97,98,99,100,101,102,103,104,105,106,107,108,109,110] (fun j=>[(10,.int .i64 ((gj (txt a.2.1.2) (txt a.2.2.1) j).length:Nat)),(11,.int .i64 (j:Nat))]) (fun j w'=>j≤a.2.1.2.size+1∧(j=0∨j+a.2.2.1.size≤a.2.1.2.size+1)∧ShV w' N s (gn D a.2.1) b6∧Blk w' b1 25 #[.slice A ds.length ca,.slice (some ⟨bA,oA,none⟩) acs.length cb]∧Blk w' b6 39 (acV a).toArray∧aj w w') (fun j=>a.2.1.2.size+1-j) (0) ⟨rfl,rfl,trivial⟩ ?_ ?_))))))))))))
   ·exact ⟨Nat.zero_le _,.inl rfl,hsv.from_ aj.rfl_,hP.from_ aj.rfl_,P9.from_ aj.rfl_,hB⟩
   rintro j ρ74 w74 ⟨hj,hj2,hsv,hP,P9,hB⟩;have hkb:=pF (t:=txt a.2.1.2) (q:=txt a.2.2.1) (k:=j);refine ag (ag (aa (mvi rfl (ab (ak cL rfl) (ab (ak bR rfl) (ab (aq aX rfl (by exact (P9.from_ aj.rfl_).rd 2 rfl)) ?_))))));refine ab (ck (by kernel_rfl) rfl) (ab (ak cQ rfl) (ab (aq aX rfl (by exact (P9.from_ aj.rfl_).rd 3 rfl)) ?_));refine ab (ck (by kernel_rfl) rfl) (ab (et rfl rfl (by omega)) (ab (mP rfl rfl) (ah (ae (K8 rfl (fun Q75=>?_) (fun Q75=>?_))))))
   ·refine au (ae (eY (G:=Unit) [96,97,98,99,100,101,102,103,104,105,106,107,108,109,110] (fun _=>[(10,.int .i64 ((gj (txt a.2.1.2) (txt a.2.2.1) (j+1)).length:Nat))]) (fun _ w'=>ShV w' N s (gn D a.2.1) b6∧Blk w' b1 25 #[.slice A ds.length ca,.slice (some ⟨bA,oA,none⟩) acs.length cb]∧Blk w' b6 39 (acV a).toArray∧aj w w') ?_ ?_))
    ·refine az (ag ?_);apply bI 13 [(96,eqp _),(97,eqp _),(98,eqp _),(99,eqp _),(100,eqp _),(101,eqp _),(102,eqp _),(103,eqp _),(104,eqp _),(105,eqp _),(106,eqp _),(107,eqp _),(108,eqp _)] (by repeat first | exact bW | refine bT ?_ | refine bG ?_) (by kernel_rfl) (by kernel_rfl) ⟨af _,af _,af _,af _,af _,af _,af _,af _,af _,af _,af _,af _,af _,trivial⟩
     case hop=>
      constructor
      ·rintro-w77 D77;exact ai (ak cL rfl) rfl
      constructor
      ·rintro-w78 D78;rintro _ rfl;exact ai (ak bR rfl) rfl
      constructor
      ·rintro-w79 D79;rintro _ rfl;exact ai (aq aX rfl (by exact (P9.from_ (aj.rfl_.next D79)).rd 2 rfl)) rfl
      constructor
      ·rintro-w80 D80;exact ai (ar (v:=.int _ _) rfl) rfl
      constructor
      ·rintro-w81 D81;exact ai (ar (v:=.int _ _) rfl) rfl
      constructor
      ·rintro-w82 D82;exact ai (ak cQ rfl) rfl
      constructor
      ·rintro-w83 D83;rintro _ rfl;exact ai (aq aX rfl (by exact (P9.from_ (aj.rfl_.next D83)).rd 3 rfl)) rfl
      constructor
      ·rintro-w84 D84;rintro _ rfl;exact ai (ck (by kernel_rfl) rfl) rfl
      constructor
      ·rintro-w85 D85;rintro _ rfl _ rfl;exact ai (aI rfl rfl (by omega)) rfl
      constructor
      ·rintro-w86 D86;rintro _ rfl _ rfl _ rfl;exact ai (rM (l:=j) (h:=j+a.2.2.1.size) (by kernel_rfl) rfl (.inr ⟨_,_,_,rfl,rfl,rfl⟩) (.inr ⟨_,_,_,rfl,rfl,rfl⟩) (by omega) (by omega)) rfl
      constructor
      ·rintro-w87 D87;exact ai (ak cQ rfl) rfl
      constructor
      ·rintro-w88 D88;rintro _ rfl;exact ai (aq aX rfl (by exact (P9.from_ (aj.rfl_.next D88)).rd 3 rfl)) rfl
      constructor
      ·rintro-w89 D89;rintro _ rfl _ rfl;exact ai (fP rfl rfl) rfl
      exact trivial
     case hend=>
      intro w90 D90;rintro _ rfl _ rfl _ rfl _ rfl _ rfl _ rfl _ rfl _ rfl _ rfl _ rfl _ rfl _ rfl _ rfl;show St ..;refine ah (ae (Mb rfl (fun Q91=>?_) (fun Q91=>?_)))
      ·have hpre:(txt a.2.2.1).isPrefixOf ((txt a.2.1.2).drop j)=true:=by rw [←l8];exact beq_iff_eq.2 Q91
       have hks:=pD hpre;refine aa (mvi rfl (ab (aI (b:=1) rfl rfl (by omega)) (asi rfl (ah (aL ?_)))));refine aO (()) ⟨(by rw [hks,List.length_append];rfl),trivial⟩ (by (iterate 16 refine aB rfl ?_);exact aK) ?_;exact ⟨hsv.from_ (aj.rfl_.next D90),hP.from_ (aj.rfl_.next D90),P9.from_ (aj.rfl_.next D90),(hB.next D90)⟩
      have hpre:(txt a.2.2.1).isPrefixOf ((txt a.2.1.2).drop j)=false:=by rw [←l8];exact beq_eq_false_iff_ne.2 Q91
      have hks:=pE hpre;refine au (aL ?_);refine aO (()) ⟨(by rw [hks];rfl),trivial⟩ (by (iterate 13 refine aB rfl ?_);exact aK) ?_;exact ⟨hsv.from_ (aj.rfl_.next D90),hP.from_ (aj.rfl_.next D90),P9.from_ (aj.rfl_.next D90),(hB.next D90)⟩
    rintro _ ρ92 w92 ⟨hsv,hP,P9,hB⟩;refine aa (mvi rfl (ab (aI (b:=1) rfl rfl (by omega)) (asi rfl (ah ?_))));refine aO (j+1) ⟨(by first | rfl | (refine aM ?_;omega)),(by first | rfl | (refine aM ?_;omega)),trivial⟩ (by (iterate 58 refine aB rfl ?_);exact aK) ⟨?_,?_⟩
    ·exact ⟨by omega,by omega,hsv.from_ aj.rfl_,hP.from_ aj.rfl_,P9.from_ aj.rfl_,hB⟩
    ·show a.2.1.2.size+1-(j+1)<a.2.1.2.size+1-j;omega
   have hkn:ks (txt a.2.1.2) (txt a.2.2.1)=gj (txt a.2.1.2) (txt a.2.2.1) j:=BA (r4 hq0) (by rw [dr,dr];omega) (by rw [dr];omega);refine aZ (aC (aC (aT (ae (ag (aa (mvp rfl (ab (ak cQ rfl) (ab (aq aX rfl (by exact (P9.from_ aj.rfl_).rd 3 rfl)) ?_)))))))));obtain ⟨U115,hu115,hU115⟩:=hsv.from_ (aj.rfl_);refine ax eM (eg U115 s (gn D a.2.1) _ hu115 a.2.2.1 5 m (bu hB hm) hs3) ?_;rintro v115 w93 ⟨⟨A115,c115,rfl,ho115⟩,E115⟩;rw [hc1,hak];refine mvt rfl (ab (aw rfl rfl) (ab (aw rfl rfl) (ab (aw rfl rfl) (ass rfl (asi rfl (asi rfl (ah (ae (ag (aa (mvp rfl ?_)))))))))));refine ab (ak cL rfl) (ab (bk (cs:=[_,_]) bJ bh rfl (by exact nL (P9.from_ (aj.rfl_.next E115)))) ?_);obtain ⟨U122,hu122,hU122⟩:=hsv.from_ ((aj.rfl_.next E115));have hP122:=hP.from_ ((aj.rfl_.next E115));have hQ122:=P9.from_ ((aj.rfl_.next E115));refine ax iq (oC U122 s (gn D a.2.1) _ hu122 a.2.1 hs1 hs2) ?_;rintro v122 w94 ⟨rfl,hs122,hC122⟩;rw [hc2];rw [hc3] at hs122;replace hP:=hP122.chg hC122 (fun h=>by have:=(hU122 _ h).1;omega);replace P9:=hQ122.chg hC122 (fun h=>(hU122 _ h).2.2 rfl);replace hsv:=ShV.step hu122 hU122 ⟨hs122,hC122⟩ hQ122.lt;refine ax bY (cK _ _) ?_;rintro v123 w95 ⟨rfl,rfl⟩;refine asi rfl (ah (ae (ag (aa (mvp rfl (ab (ak cQ rfl) (ab (aq aX rfl (by exact (P9.from_ aj.rfl_).rd 3 rfl)) ?_)))))));obtain ⟨U128,hu128,hU128⟩:=hsv.from_ (aj.rfl_);refine ax eM (eg U128 s (gn D a.2.1) _ hu128 a.2.2.1 5 m (bu (((hB.next E115)).chg hC122 (fun k hk=>Nat.le_trans hNw (hU122 k hk).1)) hm) hs3) ?_;rintro v128 w96 ⟨⟨A128,c128,rfl,ho128⟩,E128⟩;rw [hc1,hak];refine mvt rfl (ab (aw rfl rfl) (ab (aw rfl rfl) (ab (aw rfl rfl) (ass rfl (asi rfl (asi rfl (ah (ae (ag (ag (aa (mvi rfl ?_))))))))))));refine ax bY (cK _ _) ?_;rintro v133 w97 ⟨rfl,rfl⟩;refine ab (cF (bP rfl rfl) (bne_self_eq_false _)) (mvb rfl (al rfl (mvi rfl (al rfl (ax bY (cK _ _) ?_)))));rintro v137 w98 ⟨rfl,rfl⟩;refine al rfl (ab (cF (bP rfl rfl) (bne_self_eq_false _)) (ab (aR (v:=.bool _) rfl rfl) (mvb rfl (al rfl (mvi rfl (al rfl (mvi rfl (al rfl ?_))))))));refine mvi rfl (al rfl (ab (aI rfl rfl (by omega)) (al rfl (ab (cF (bP rfl rfl) (by rw [hkn];exact bne_self_eq_false _)) ?_))));refine ab (aR (v:=.bool _) rfl rfl) (mvb rfl (al rfl (mvi rfl (al rfl (ab (cF (bP rfl rfl) (bne_self_eq_false _)) (ab (aR (v:=.bool _) rfl rfl) (mvb rfl (al rfl ?_))))))));refine mvi rfl (al rfl (mvi rfl (al rfl (ab (cF (bP rfl rfl) (bne_self_eq_false _)) (ab (aR (v:=.bool _) rfl rfl) (mvb rfl (al rfl (mvp rfl ?_))))))));refine al rfl (ab (ak cL rfl) (al rfl (ab (ak aW rfl) (al rfl (ab (aq aX rfl (by exact (P9.from_ (aj.rfl_.next E128)).rd 1 rfl)) ?_)))));refine al rfl ?_;obtain ⟨U161,hu161,hU161⟩:=hsv.from_ ((aj.rfl_.next E128));have hP161:=hP.from_ ((aj.rfl_.next E128));have hQ161:=P9.from_ ((aj.rfl_.next E128));refine ax js (kj U161 s (gn D a.2.1) _ hu161 a.2.1.1 hs1) ?_;rintro v161 w99 ⟨rfl,hs161,hC161⟩;rw [hc4];rw [hc5] at hs161;replace hP:=hP161.chg hC161 (fun h=>by have:=(hU161 _ h).1;omega);replace P9:=hQ161.chg hC161 (fun h=>(hU161 _ h).2.2 rfl);replace hsv:=ShV.step hu161 hU161 ⟨hs161,hC161⟩ hQ161.lt;refine al rfl (ax bY (cK _ _) ?_);rintro v162 w100 ⟨rfl,rfl⟩;refine al rfl (ab (cF (bP rfl rfl) (bne_self_eq_false _)) (ab (aR (v:=.bool _) rfl rfl) (mvb rfl (al rfl (mvp rfl (al rfl (ab (ak cL rfl) (al rfl ?_))))))));refine ab (ak aW rfl) (al rfl (ab (aq aX rfl (by exact (P9.from_ aj.rfl_).rd 1 rfl)) ?_));refine al rfl ?_;obtain ⟨U170,hu170,hU170⟩:=hsv.from_ (aj.rfl_);have hP170:=hP.from_ (aj.rfl_);have hQ170:=P9.from_ (aj.rfl_);refine ax js (kj U170 s D _ hu170 a.2.1.1 hs1) ?_;rintro v170 w101 ⟨rfl,hs170,hC170⟩;rw [hc6];rw [hc7] at hs170;replace hP:=hP170.chg hC170 (fun h=>by have:=(hU170 _ h).1;omega);replace P9:=hQ170.chg hC170 (fun h=>(hU170 _ h).2.2 rfl);replace hsv:=ShV.step hu170 hU170 ⟨hs170,hC170⟩ hQ170.lt;refine al rfl (ax bY (cK _ _) ?_);rintro v171 w102 ⟨rfl,rfl⟩;refine al rfl (ab (cF (bP rfl rfl) (bne_self_eq_false _)) (ab (aR (v:=.bool _) rfl rfl) (ah (ae (cm rfl (au (ae (ag (aa (mvp rfl (ab (ak cQ rfl) (ab (aq aX rfl (by exact (P9.from_ aj.rfl_).rd 3 rfl)) ?_))))))))))));obtain ⟨U178,hu178,hU178⟩:=hsv.from_ (aj.rfl_);refine ax eM (eg U178 s D _ hu178 a.2.2.1 5 m (bu ((((((((hB.next E115)).chg hC122 (fun k hk=>Nat.le_trans hNw (hU122 k hk).1)).next E128)).chg hC161 (fun k hk=>Nat.le_trans hNw (hU161 k hk).1))).chg hC170 (fun k hk=>Nat.le_trans hNw (hU170 k hk).1)) hm) hs3) ?_;rintro v178 w103 ⟨⟨A178,c178,rfl,ho178⟩,E178⟩;rw [hak];refine mvt rfl (ab (aw rfl rfl) (ab (aw rfl rfl) (ab (aw rfl rfl) (ass rfl (asi rfl (asi rfl (ah (ae (ag (aa (mvi rfl ?_)))))))))));refine ax bY (cK _ _) ?_;rintro v183 w104 ⟨rfl,rfl⟩;refine ab (cF (bP rfl rfl) (bne_self_eq_false _)) (mvb rfl (al rfl (mvi rfl (al rfl (mvi rfl (al rfl (ab (cF (bP rfl rfl) (bne_self_eq_false _)) (ab (aR (v:=.bool _) rfl rfl) ?_))))))));refine ah (ae (cm rfl (au (aL (ae (aa (mvi rfl (ab (eh rfl rfl (by omega)) (asi rfl (ah ?_))))))))));refine aO (i+1) ⟨(by first | rfl | (refine aM ?_;omega)),trivial⟩ (by (iterate 341 refine aB rfl ?_);exact aK) ⟨?_,?_⟩
   ·exact ⟨by omega,⟨_,(hsv.from_ (aj.rfl_.next E178)).u⟩,hP.from_ (aj.rfl_.next E178),(((((((((hB.next E115)).chg hC122 (fun k hk=>Nat.le_trans hNw (hU122 k hk).1)).next E128)).chg hC161 (fun k hk=>Nat.le_trans hNw (hU161 k hk).1))).chg hC170 (fun k hk=>Nat.le_trans hNw (hU170 k hk).1)).next E178)⟩
   ·show acs.length-(i+1)<acs.length-i;omega
  refine aZ (aC (aC (aT (ae (ag (aa (ax fx (ft _ m (bu hB hm)) ?_)))))));rintro v190 w105 ⟨rfl,E190⟩;refine asb rfl (ah (ae (aA (bE (v:=.bool _) rfl rfl (⟨rfl,(hB.next E190)⟩)))))
 refine aD rfl rfl (aD rfl rfl (ab (aR (v:=.bool _) rfl rfl) (ah (ae (cm rfl (aZ (aC (aC (aT (ae (ag (aa (ax fx (ft _ m (bu hB hm)) ?_)))))))))))));rintro v190 w106 ⟨rfl,E190⟩;refine asb rfl (ah (ae (aA (bE (v:=.bool _) rfl rfl (⟨rfl,(hB.next E190)⟩)))))
theorem vZ (cs:Array Value) (x:(Ty.pr (.sl nP) (.pr (.sl oH) .unit)).den) (w:World) (hS:w.ShapedOpen prog) (hs:cs.size=(Ty.pr (.sl nP) (.pr (.sl oH) .unit)).size) (h:(Ty.pr (.sl nP) (.pr (.sl oH) .unit)).At w (fun j=>cs[j]?) x) :
 Rt prog 5 [.agg cs] w fun v w'=>v=.bool true∧aj w w':=by
 obtain ⟨A,B,ca,cb,ds,acs,rfl,ha⟩:=tC hs h;exact ao A B ca cb ds acs w hS ha
theorem oJ (os:Os) (started:os.Started) (H:Type) (enc:TypeId×Value→H) :
 ReturnsInHanded {} Tryz.checked os 5 .any (Rows.shelfCountsSpec.pre6 enc prog Tryz.f5 Rows.shelfCountsRow.domain false) (Rows.shelfCountsSpec.post enc prog Tryz.f5 false true false false):=by
 refine returnsInHanded_of_change_shaped (C:=Tryz.checked) Tryz.own started (by kernel_rfl) Tryz.func5
  (ChangeSpec.witness6 (enc:=enc) (C:=Tryz.checked) false ⟨#[],#[.agg #[.slice none 0 0,.slice none 0 0]],[]⟩ 8 (by kernel_rfl) (by kernel_rfl) (by kernel_rfl) (by kernel_rfl)) ?_
 intro W base args ds gs before hval hW _ hsz hS _;exact jL 5 Tryz.f5 25 4 Rows.shelfCountsSpec Tryz.params5 (by kernel_rfl) Tryz.underlying4 rfl (fun _=>rfl) (by kernel_rfl) (dT_ (by kernel_rfl)) (ic (Ty.sl nP) (.pr (.sl oH) .unit) (by kernel_rfl) vZ) W base args ds gs before hval hW hsz hS
theorem ShelfCounts_holds:Rows.ShelfCountsSaid:=
 OpenClaim.holds_of_wide 5 Tryz.f5 rfl rfl rfl rfl rfl rfl rfl ⟨rfl,rfl,rfl,rfl,rfl⟩ rfl rfl rfl rfl rfl (by kernel_rfl) Tryz.func5 (by kernel_rfl)
  (dT_ (by kernel_rfl)) (by unfold Func.isWrapper;first | (rw [if_pos (by decide+kernel)];kernel_rfl) | (rw [if_neg (by decide+kernel)];exact ⟨rfl,rfl⟩))
  (fun os started H enc _=>oJ os started H enc)
end Go.Proofs.YtcbakncjacnnjaaGreat
