/- texts that the claim stands on. -/
import Derived.Test.YtkpooenofjdpmaaGreatSlRfLawX4

set_option maxRecDepth 100000
set_option maxHeartbeats 4000000
namespace Go.Proofs.YtkpooenofjdpmaaGreat
open Go.Proofs.Tryz (prog)
open Go.RowKit
open Go.ChangeShapes Go.WideShapes Go.ChangeAt
theorem oh:iJ prog 99=some true:=by kernel_rfl
theorem jS:dr prog 99=some 3:=by kernel_rfl
theorem og:aN prog 98=true:=by kernel_rfl
theorem bJ:cd prog 39 0=some 0:=by kernel_rfl
theorem oe:jq prog 99=some (.agg #[.int .i64 0,.int .i64 0,.string ⟨#[]⟩]):=by kernel_rfl
theorem lG:cd prog 99 1=some 1:=by kernel_rfl
def OkM (m:Msg):Prop:=OkR m.k m.f m.t m.tm m.ix m.lt m.cm m.rd m.ok m.es m.a m.d m.dn
instance (m:Msg):Decidable (OkM m):=by unfold OkM;exact inferInstance
def lQ (s:Rf) (m:Msg):Prop:=OkM m∧uT s m=true
instance (s:Rf) (m:Msg):Decidable (lQ s m):=by unfold lQ;exact inferInstance
def Em (w:World) (m:Msg):Prop:=cQ w (.slice m.E m.es.length m.c) m.es
theorem Em.from_ {w w':World} {m:Msg} (h:Em w m) (hF:ai w w'):Em w' m:=cQ.from_ h hF
def o6 (m:Msg):Prop:=∀ w:World,Em w m→Rt prog 98 [.agg (bT m).toArray] w fun v w'=>v=.int .i64 (if OkM m then 0 else 1)∧ai w w'
def zE (m:Msg):Prop:=∀ w:World,Em w m→Rt prog 88 [.agg (bT m).toArray] w fun v w'=>v=.bool (decide (OkM m))∧ai w w'
def Ez (Z:Nat→Prop) (m:Msg):Prop:=0<m.es.length→∀ k,m.E.map (·.block)=some k→Z k
theorem Em.ez {w:World} {m:Msg} (h:Em w m) {Z:Nat→Prop} (hZ:∀ k,k<w.heap.size→Z k):Ez Z m:=fun h0 k hk=>by
 obtain ⟨A',c',hv,_,_,_,hp⟩:=h;obtain ⟨b,o,hA,hb,_⟩:=hp h0;simp only [Value.slice.injEq] at hv;rw [hv.1,hA] at hk;cases hk;exact hZ b hb
theorem o6.is {m:Msg} (hck:o6 m) {w:World} (he:Em w m) {e:Int} (h:(if OkM m then (0:Int) else 1)=e):Rt prog 98 [.agg (bT m).toArray] w fun v w'=>v=.int .i64 e∧ai w w':=by
 subst h;exact hck w he
theorem eR (s:Rf) (m:Msg):uT s m=true↔m.t=s.id∧m.f≠s.id∧m.f≤s.nodes∧((m.k=3∨m.k=5)→m.lt≤m.tm∧∀ e∈m.es,e.t≤m.tm):=by
 unfold uT;simp only [Bool.and_eq_true,Bool.or_eq_true,decide_eq_true_eq,List.all_eq_true,Bool.not_eq_true',Bool.or_eq_false_iff,decide_eq_false_iff_not];constructor
 ·rintro ⟨⟨⟨h1,h2⟩,h3⟩,h4⟩;exact ⟨h1,h2,h3,fun hk=>h4.elim (fun e=>by omega) (fun e=>e)⟩
 ·rintro ⟨h1,h2,h3,h4⟩;refine ⟨⟨⟨h1,h2⟩,h3⟩,?_⟩;by_cases hk:m.k=3∨m.k=5
  ·exact .inr (h4 hk)
  ·exact .inl (by omega)
theorem OkM.num {m:Msg} (h:OkM m):jk m.k m.f m.t m.tm m.ix m.lt m.cm m.rd m.a:=h.1
theorem uY {w:World} {A:Option Addr} {n c:Nat} {es:List Ent} (h:cQ w (.slice A n c) es) (hn:0<es.length):∃ b o,A=some ⟨b,o,none⟩∧∀ i (hi:i<es.length),w.rangeAt b (o+i*3) [.int .i64 es[i].i,.int .i64 es[i].t,.string es[i].d]:=tp h hn
theorem rY (s:Rf) (a:Ra) (m:Msg) (w:World) (he:Em w m) (_:m.es.length≤1000000) (hck:o6 m) (hok:¬ OkM m) :
 Rt prog 57 [.agg (rfV s a).toArray,.agg (bT m).toArray] w (fun v w'=>v=.bool false∧ai w w'):=by
 refine enter (n:=57) Tryz.func57 rfl rfl rfl (ao (ag (cj (v:=.agg _) rfl ?_)));intro b2 w1 E2 hb2 hk2;refine cj (v:=.agg _) rfl ?_;intro b3 w2 E3 hb3 hk3;replace hk2:=hk2.from_ E3;refine asb rfl (aq (ah (ao (ao (ag (ab (aR (cs:=bT m) bp bg rfl ((hk3.from_ ai.rfl_).whole)) (aE og (hck.is (he.from_ ((ai.rfl_.next E2).next E3)) (if_neg hok)) ?_)))))));rintro v8 w3 ⟨rfl,E8⟩;refine ab (dX (cz rfl rfl) rfl) (mvb rfl (ar rfl rfl (ar rfl rfl (ar rfl rfl (ar rfl rfl (ar rfl rfl (ab (aJ (v:=.bool _) rfl rfl) (mvb rfl ?_))))))));refine ar rfl rfl (ar rfl rfl (ar rfl rfl (ar rfl rfl (ar rfl rfl (ab (aJ (v:=.bool _) rfl rfl) (mvb rfl (ar rfl rfl (ar rfl rfl ?_))))))));refine ar rfl rfl (ar rfl rfl (ar rfl rfl (ab (aJ (v:=.bool _) rfl rfl) (aq (ah (aW rfl (ao (ag (asb rfl (aq (ah (aG (aH ?_)))))))))))));refine bF (v:=.bool _) rfl rfl (⟨rfl,(((ai.rfl_.next E2).next E3).next E8)⟩)
theorem rX (s:Rf) (a:Ra) (m:Msg) (w:World) (he:Em w m) (hl:m.es.length≤1000000) (hck:o6 m) (hok:OkM m) :
 Rt prog 57 [.agg (rfV s a).toArray,.agg (bT m).toArray] w (fun v w'=>v=.bool (uT s m)∧ai w w'):=by
 obtain ⟨Ee,hEe⟩:∃ x,x=m.E:=⟨_,rfl⟩;refine enter (n:=57) Tryz.func57 rfl rfl rfl (ao (ag (cj (v:=.agg _) rfl ?_)));intro b2 w1 E2 hb2 hk2;refine cj (v:=.agg _) rfl ?_;intro b3 w2 E3 hb3 hk3;replace hk2:=hk2.from_ E3;refine asb rfl (aq (ah (ao (ao (ag (ab (aR (cs:=bT m) bp bg rfl ((hk3.from_ ai.rfl_).whole)) (aE og (hck.is (he.from_ ((ai.rfl_.next E2).next E3)) (if_pos hok)) ?_)))))));rintro v8 w3 ⟨rfl,E8⟩;refine ab (bL (cz rfl rfl) rfl) (mvb rfl (aj rfl (ab (aa bx rfl) (aj rfl (ab (au ak rfl (by exact (show _=some (Value.int .i64 m.f) from (hk3.from_ (ai.rfl_.next E8)).rd 1 rfl))) ?_)))));refine aj rfl (ab (aa cN rfl) (aj rfl (ab (au ak rfl (by exact (show _=some (Value.int .i64 s.nodes) from (hk2.from_ (ai.rfl_.next E8)).rd 1 rfl))) ?_)));refine aj rfl (ab (ct rfl rfl) (ab (aB (v:=.bool _) rfl rfl) (mvb rfl (ym (t:=17) rfl (fun Q4=>?_) (fun Q4=>?_)))))
 ·refine dh rfl (aq (ah (aW rfl (ao (ag (asb rfl (aq (ah (aG (aH (bF (v:=.bool _) rfl rfl (⟨congrArg Value.bool ?_,(((ai.rfl_.next E2).next E3).next E8)⟩))))))))))));rw [eq_comm,←Bool.not_eq_true,eR];rintro ⟨h1,h2,h3,-⟩;omega
 refine aj rfl (ab (aa ft rfl) (aj rfl (ab (au ak rfl (by exact (show _=some (Value.int .i64 m.t) from (hk3.from_ (ai.rfl_.next E8)).rd 2 rfl))) ?_)));refine aj rfl (ab (aa dK rfl) (aj rfl (ab (au ak rfl (by exact (show _=some (Value.int .i64 s.id) from (hk2.from_ (ai.rfl_.next E8)).rd 0 rfl))) ?_)));refine aj rfl (ab (cz rfl rfl) (ab (aB (v:=.bool _) rfl rfl) (mvb rfl (yj (t:=24) rfl (fun Q5=>?_) (fun Q5=>?_)))))
 ·refine dh rfl (aq (ah (aW rfl (ao (ag (asb rfl (aq (ah (aG (aH (bF (v:=.bool _) rfl rfl (⟨congrArg Value.bool ?_,(((ai.rfl_.next E2).next E3).next E8)⟩))))))))))));rw [eq_comm,←Bool.not_eq_true,eR];rintro ⟨h1,h2,h3,-⟩;omega
 refine aj rfl (ab (aa bx rfl) (aj rfl (ab (au ak rfl (by exact (show _=some (Value.int .i64 m.f) from (hk3.from_ (ai.rfl_.next E8)).rd 1 rfl))) ?_)));refine aj rfl (ab (aa dK rfl) (aj rfl (ab (au ak rfl (by exact (show _=some (Value.int .i64 s.id) from (hk2.from_ (ai.rfl_.next E8)).rd 0 rfl))) ?_)));refine aj rfl (ab (bo rfl rfl) (ab (aB (v:=.bool _) rfl rfl) (aq (ah (yS rfl (fun Q6=>?_) (fun Q6=>?_))))))
 ·refine ao (ag (asb rfl (aq (ah (aG (aH (bF (v:=.bool _) rfl rfl (⟨congrArg Value.bool ?_,(((ai.rfl_.next E2).next E3).next E8)⟩))))))));rw [eq_comm,←Bool.not_eq_true,eR];rintro ⟨h1,h2,h3,-⟩;omega
 refine aI (ah (ao (ao (ag (ab (aa bJ rfl) (ab (au ak rfl (by exact (show _=some (Value.int .i64 m.k) from (hk3.from_ (ai.rfl_.next E8)).rd 0 rfl))) ?_))))));refine ab (cz rfl rfl) (mvb rfl (yj (t:=34) rfl (fun Q7=>?_) (fun Q7=>?_)))
 ·refine aj rfl (ab (aa bJ rfl) (aj rfl (ab (au ak rfl (by exact (show _=some (Value.int .i64 m.k) from (hk3.from_ (ai.rfl_.next E8)).rd 0 rfl))) ?_)));refine aj rfl (ab (cz rfl rfl) (ab (aJ (v:=.bool _) rfl rfl) (aq (ah (yP rfl (fun Q8=>?_) (fun Q8=>?_))))))
  ·refine ao (ag (asb rfl (aq (ah (aG (aH (bF (v:=.bool _) rfl rfl (⟨congrArg Value.bool ?_,(((ai.rfl_.next E2).next E3).next E8)⟩))))))));rw [eq_comm,eR];exact ⟨by omega,by omega,by omega,fun h=>by omega⟩
  refine aI (ah (ao (ao (ag (ab (aa gy rfl) ?_)))));refine ab (au cD rfl (by exact (show _=some (Value.slice Ee m.es.length m.c) from by rw [hEe];exact (hk3.from_ (ai.rfl_.next E8)).rd 9 rfl))) ?_;refine ab (b0 dG rfl) (mvi rfl (aq (ah (bk (dC (G:=Nat) [4,6,43,44,45,46,47,48,49,50,51] (fun i=>[(42,.int .i64 (i:Nat))]) (fun i w'=>i≤m.es.length∧(∀ j (h:j<m.es.length),j<i→m.es[j].t≤m.tm)∧Blk w' b3 39 (bT m).toArray∧ai w w') (fun i=>m.es.length-i) (0) ⟨rfl,trivial⟩ ?_ ?_)))))
  ·exact ⟨Nat.zero_le _,fun j _ h=>absurd h (Nat.not_lt_zero _),hk3.from_ (ai.rfl_.next E8),(((ai.rfl_.next E2).next E3).next E8)⟩
  rintro i ρ9 w9 ⟨hi,hj,hk3L,hB⟩;refine ao (ag (ab (cA rfl rfl) (aq (ah (ao (yS rfl (fun Q10=>?_) (fun Q10=>?_)))))))
  ·have hkX:i<m.es.length:=by omega
   obtain ⟨ba,oa,hE2,hca⟩:=uY he (by omega);obtain rfl:Ee=some ⟨ba,oa,none⟩:=hEe.trans hE2;refine aI (ah (ao (bk (ao (ag (ab (cq fT rfl rfl (by omega)) (ab (aR (cs:=[.int .i64 m.es[i].i,.int .i64 m.es[i].t,.string m.es[i].d]) oh jS rfl (fL hB (hca i hkX))) ?_)))))));have hM6:ai _ w9:=ai.rfl_;have hlt6:=(hk3L.from_ hM6).lt;refine dq oe ?_;intro b6 w11 E6 hb6 hk6;have hg6:w.heap.size≤b6:=by rw [hb6];exact (hB).size
   have h36:b3≠b6:=by omega
   have hk3p:=hk3L.from_ (hM6.next E6);refine cZ (vs:=[_,_,_]) jS rfl rfl (by simp [Value.oneCell']) (hk6) rfl ?_;intro w12 O7 P7;replace hk3p:=hk3p.only O7 h36;refine aq (ah (ao (ag (ab (aa lG rfl) (ab (au ak rfl (by exact (show _=some (Value.int .i64 m.es[i].t) from (P7.from_ ai.rfl_).rd 1 rfl))) ?_)))));refine ab (aa bG rfl) (ab (au ak rfl (by exact (show _=some (Value.int .i64 m.tm) from (hk3p.from_ ai.rfl_).rd 3 rfl))) ?_);refine ab (ct rfl rfl) (aq (ah (yS rfl (fun Q13=>?_) (fun Q13=>?_))))
   ·refine ao (ag (asb rfl (aq (ah (aG (cI (aH (aH (cI (aH (bF (v:=.bool _) rfl rfl (⟨congrArg Value.bool ?_,((hB.next E6).only O7 (hg6))⟩))))))))))));rw [eq_comm,←Bool.not_eq_true,eR];rintro ⟨h1,h2,h3,h4⟩;have h5:=(h4 (by omega)).2 _ (List.getElem_mem hkX);omega
   refine aI (bI (ah (ag (ab (cl rfl rfl (by omega)) (mvi rfl (aq ?_))))));refine cu (i+1) ⟨(by first | rfl | (refine aZ ?_;omega)),trivial⟩ (by (iterate 23 refine bC rfl ?_);exact bP) ⟨?_,?_⟩
   ·refine ⟨by omega,fun j h hj2=>?_,hk3p.from_ ai.rfl_,((hB.next E6).only O7 (hg6))⟩;rcases Nat.lt_or_ge j i with e | e
    ·exact hj j h e
    ·obtain rfl:j=i:=by omega
     omega
   ·omega
  refine cL (bw (bw (cr (ah (ao (ag (ab (aa ee rfl) (ab (au ak rfl (by exact (show _=some (Value.int .i64 m.lt) from (hk3L.from_ ai.rfl_).rd 5 rfl))) ?_))))))));refine ab (aa bG rfl) (ab (au ak rfl (by exact (show _=some (Value.int .i64 m.tm) from (hk3L.from_ ai.rfl_).rd 3 rfl))) ?_);refine ab (fx rfl rfl) (asb rfl (aq (ah (aG (bF (v:=.bool _) rfl rfl (⟨congrArg Value.bool ?_,hB⟩))))));obtain rfl:i=m.es.length:=by omega
  rw [eq_comm,Bool.eq_iff_iff,eR,decide_eq_true_eq]
  exact ⟨fun h=>(h.2.2.2 (by omega)).1,fun h=>⟨by omega,by omega,by omega,fun _=>⟨h,fun e hE=>by
   obtain ⟨j,hj9,rfl⟩:=List.getElem_of_mem hE;exact hj j hj9 hj9⟩⟩⟩
 refine dh rfl (aq (ah (aU rfl (aI (ah (ao (ao (ag (ab (aa gy rfl) ?_)))))))));refine ab (au cD rfl (by exact (show _=some (Value.slice Ee m.es.length m.c) from by rw [hEe];exact (hk3.from_ (ai.rfl_.next E8)).rd 9 rfl))) ?_;refine ab (b0 dG rfl) (mvi rfl (aq (ah (bk (dC (G:=Nat) [4,6,43,44,45,46,47,48,49,50,51] (fun i=>[(42,.int .i64 (i:Nat))]) (fun i w'=>i≤m.es.length∧(∀ j (h:j<m.es.length),j<i→m.es[j].t≤m.tm)∧Blk w' b3 39 (bT m).toArray∧ai w w') (fun i=>m.es.length-i) (0) ⟨rfl,trivial⟩ ?_ ?_)))))
 ·exact ⟨Nat.zero_le _,fun j _ h=>absurd h (Nat.not_lt_zero _),hk3.from_ (ai.rfl_.next E8),(((ai.rfl_.next E2).next E3).next E8)⟩
 rintro i ρ14 w14 ⟨hi,hj,hk3L,hB⟩;refine ao (ag (ab (cA rfl rfl) (aq (ah (ao (yS rfl (fun Q15=>?_) (fun Q15=>?_)))))))
 ·have hkX:i<m.es.length:=by omega
  obtain ⟨ba,oa,hE2,hca⟩:=uY he (by omega);obtain rfl:Ee=some ⟨ba,oa,none⟩:=hEe.trans hE2;refine aI (ah (ao (bk (ao (ag (ab (cq fT rfl rfl (by omega)) (ab (aR (cs:=[.int .i64 m.es[i].i,.int .i64 m.es[i].t,.string m.es[i].d]) oh jS rfl (fL hB (hca i hkX))) ?_)))))));have hM6:ai _ w14:=ai.rfl_;have hlt6:=(hk3L.from_ hM6).lt;refine dq oe ?_;intro b6 w16 E6 hb6 hk6;have hg6:w.heap.size≤b6:=by rw [hb6];exact (hB).size
  have h36:b3≠b6:=by omega
  have hk3p:=hk3L.from_ (hM6.next E6);refine cZ (vs:=[_,_,_]) jS rfl rfl (by simp [Value.oneCell']) (hk6) rfl ?_;intro w17 O7 P7;replace hk3p:=hk3p.only O7 h36;refine aq (ah (ao (ag (ab (aa lG rfl) (ab (au ak rfl (by exact (show _=some (Value.int .i64 m.es[i].t) from (P7.from_ ai.rfl_).rd 1 rfl))) ?_)))));refine ab (aa bG rfl) (ab (au ak rfl (by exact (show _=some (Value.int .i64 m.tm) from (hk3p.from_ ai.rfl_).rd 3 rfl))) ?_);refine ab (ct rfl rfl) (aq (ah (yS rfl (fun Q18=>?_) (fun Q18=>?_))))
  ·refine ao (ag (asb rfl (aq (ah (aG (cI (aH (aH (cI (aH (bF (v:=.bool _) rfl rfl (⟨congrArg Value.bool ?_,((hB.next E6).only O7 (hg6))⟩))))))))))));rw [eq_comm,←Bool.not_eq_true,eR];rintro ⟨h1,h2,h3,h4⟩;have h5:=(h4 (by omega)).2 _ (List.getElem_mem hkX);omega
  refine aI (bI (ah (ag (ab (cl rfl rfl (by omega)) (mvi rfl (aq ?_))))));refine cu (i+1) ⟨(by first | rfl | (refine aZ ?_;omega)),trivial⟩ (by (iterate 23 refine bC rfl ?_);exact bP) ⟨?_,?_⟩
  ·refine ⟨by omega,fun j h hj2=>?_,hk3p.from_ ai.rfl_,((hB.next E6).only O7 (hg6))⟩;rcases Nat.lt_or_ge j i with e | e
   ·exact hj j h e
   ·obtain rfl:j=i:=by omega
    omega
  ·omega
 refine cL (bw (bw (cr (ah (ao (ag (ab (aa ee rfl) (ab (au ak rfl (by exact (show _=some (Value.int .i64 m.lt) from (hk3L.from_ ai.rfl_).rd 5 rfl))) ?_))))))));refine ab (aa bG rfl) (ab (au ak rfl (by exact (show _=some (Value.int .i64 m.tm) from (hk3L.from_ ai.rfl_).rd 3 rfl))) ?_);refine ab (fx rfl rfl) (asb rfl (aq (ah (aG (bF (v:=.bool _) rfl rfl (⟨congrArg Value.bool ?_,hB⟩))))));obtain rfl:i=m.es.length:=by omega
 rw [eq_comm,Bool.eq_iff_iff,eR,decide_eq_true_eq]
 exact ⟨fun h=>(h.2.2.2 (by omega)).1,fun h=>⟨by omega,by omega,by omega,fun _=>⟨h,fun e hE=>by
  obtain ⟨j,hj9,rfl⟩:=List.getElem_of_mem hE;exact hj j hj9 hj9⟩⟩⟩
theorem rZ (s:Rf) (a:Ra) (m:Msg) (w:World) (he:Em w m) (hl:m.es.length≤1000000) (hck:o6 m) {b:Bool} (h:decide (lQ s m)=b):Rt prog 57 [.agg (rfV s a).toArray,.agg (bT m).toArray] w fun v w'=>v=.bool b∧ai w w':=by
 subst h;by_cases hok:OkM m
 ·refine (rX s a m w he hl hck hok).mono fun v w' h=>⟨h.1.trans (congrArg Value.bool ?_),h.2⟩
  rw [Bool.eq_iff_iff,decide_eq_true_eq];exact ⟨fun h=>⟨hok,h⟩,fun h=>h.2⟩
 ·exact (rY s a m w he hl hck hok).mono fun v w' h=>⟨h.1.trans (congrArg Value.bool (decide_eq_false (fun e=>hok e.1)).symm),h.2⟩
theorem ij:∀ (a0:Int) (a1:Int) (a2:Bool),prog.built 39 [(0,.int .i64 4),(8,.bool a2),(4,.int .i64 a0),(7,.int .i64 a1)]=some #[.int .i64 4,.int .i64 0,.int .i64 0,.int .i64 0,.int .i64 a0,.int .i64 0,.int .i64 0,.int .i64 a1,.bool a2,.slice none 0 0,.int .i64 0,.string ⟨#[]⟩,.bool false]:=by intros;kernel_rfl
theorem jB:prog.built 39 [(0,.int .i64 2)]=some #[.int .i64 2,.int .i64 0,.int .i64 0,.int .i64 0,.int .i64 0,.int .i64 0,.int .i64 0,.int .i64 0,.bool false,.slice none 0 0,.int .i64 0,.string ⟨#[]⟩,.bool false]:=by kernel_rfl
theorem gx:aN prog 144=true:=by kernel_rfl
theorem qj:aN prog 100=true:=by kernel_rfl
def aT (s:Rf) (m:Msg):Rf:=if s.term<m.tm then cF s m.tm else s
theorem kq {s:Rf} {m:Msg} (h:s.term<m.tm):cp s m=cp (cF s m.tm) m:=by
 have h1:=ec s m.tm;unfold cp;simp only;rw [if_pos h,if_neg (show ¬ (cF s m.tm).term<m.tm by omega)]
theorem tU {s:Rf} {m:Msg} (h:m.tm<s.term):cp s m=iZ s m:=by
 unfold cp;simp only;rw [if_neg (show ¬ s.term<m.tm by omega),if_pos h]
theorem eN.nilL {w:World} {Z:Nat→Prop} {T g oc:Nat} {tag:Nat→Nat} {s:Rf} {a:Ra} {O:Option Addr} {L:List Msg} (h:eN w Z T g tag ⟨s,[]⟩ a O oc L):L=[]:=List.map_eq_nil_iff.1 h.m.l
theorem kp (w0:World) (Z:Nat→Prop) (T g:Nat) (p:Sp) (m:Msg) (ok:Bool) (i:Int) (w:World) (h:aF w0 Z w T g p) (hl:p.out.length≤900) :
 Rt prog 144 [.pointer (some ⟨g,0,none⟩),.agg (bT m).toArray,.bool ok,.int .i64 i] w (fun v w'=>v=.tuple #[]∧aF w0 Z w' T g (iM p m ok i)):=by
 refine enter (n:=17) Tryz.func144 rfl rfl rfl (ao (ag (cj (v:=.agg _) rfl ?_)));intro b5 w1 E5 hb5 hk5;obtain ⟨wm,hwm⟩:∃ x,x=w1:=⟨_,rfl⟩
 have h3a:=h.at_ (Z':=fun k=>Z k∨k=b5) E5 (fun k hk=>by
  rcases hk with e | e
  ·exact ⟨Nat.lt_of_lt_of_le (h.zw k e) E5.size,.inl e⟩
  ·subst e;exact ⟨hk5.lt,.inr (by omega)⟩)
 obtain ⟨Z7,hZ7⟩:∃ Z7,Z7=fun k=>Z k∨k=b5:=⟨_,rfl⟩
 have h3:aF wm Z7 w1 T g p:=by
  rw [hZ7,hwm];exact h3a
 have hzi:∀ k,Z k→Z7 k:=fun k hk=>by rw [hZ7];exact .inl hk
 have hzb:Z7 b5:=by rw [hZ7];exact .inr rfl
 have hE3:ai w wm:=by rw [hwm];exact E5
 have hm9:Blk wm b5 39 (bT m).toArray:=by rw [hwm];exact hk5
 have hm3:=h3.kept hzb hm9;refine aq (ah (ag (mvp rfl (ab (aa bx rfl) (ab (au ak rfl (by exact (show _=some (Value.int .i64 m.f) from (hm3.from_ ai.rfl_).rd 1 rfl))) ?_)))));refine mvb rfl (mvi rfl (ab (aa dg rfl) (ab (au ak rfl (by exact (show _=some (Value.int .i64 m.rd) from (hm3.from_ ai.rfl_).rd 7 rfl))) ?_)));refine ab (dt (l:=[(0,.const (.int .i64 4)),(8,.tmp 11),(4,.tmp 12),(7,.tmp 14)]) (ij _ _ _)) (er (t:=15) (v:=.agg _) (v':=.agg (bT ({ zM with k:=4,ok:=ok,ix:=i,rd:=m.rd }:Msg)).toArray) rfl (by rfl) ?_);have h4:=h3.from_ ai.rfl_;obtain ⟨tgA,aA,OA,ocA,LA,hsA⟩:=h4.ex;have hlA:=hsA.m.len;refine aE fi (ka wm Z7 T g p _ h4 _ _ _ _ _ hsA (by omega) { zM with k:=4,ok:=ok,ix:=i,rd:=m.rd } m.f ⟨dB,Col.none⟩) ?_;rintro v16 w2 ⟨rfl,h6⟩;refine aq (cK (dU rfl (⟨rfl,h.back hE3 (h6.from_ ai.rfl_) hzi⟩)))
theorem ta (w0:World) (Z:Nat→Prop) (T g:Nat) (s:Rf) (m:Msg) (w:World) (h:aF w0 Z w T g ⟨s,[]⟩) :
 Rt prog 100 [.pointer (some ⟨g,0,none⟩),.agg (bT m).toArray] w (fun v w'=>v=.tuple #[]∧aF w0 Z w' T g (iZ s m)):=by
 refine enter (n:=19) Tryz.func100 rfl rfl rfl (ao (ag (cj (v:=.agg _) rfl ?_)));intro b3 w1 E3 hb3 hk3;obtain ⟨wm,hwm⟩:∃ x,x=w1:=⟨_,rfl⟩
 have h3a:=h.at_ (Z':=fun k=>Z k∨k=b3) E3 (fun k hk=>by
  rcases hk with e | e
  ·exact ⟨Nat.lt_of_lt_of_le (h.zw k e) E3.size,.inl e⟩
  ·subst e;exact ⟨hk3.lt,.inr (by omega)⟩)
 obtain ⟨Z7,hZ7⟩:∃ Z7,Z7=fun k=>Z k∨k=b3:=⟨_,rfl⟩
 have h3:aF wm Z7 w1 T g ⟨s,[]⟩:=by
  rw [hZ7,hwm];exact h3a
 have hzi:∀ k,Z k→Z7 k:=fun k hk=>by rw [hZ7];exact .inl hk
 have hzb:Z7 b3:=by rw [hZ7];exact .inr rfl
 have hE3:ai w wm:=by rw [hwm];exact E3
 have hm9:Blk wm b3 39 (bT m).toArray:=by rw [hwm];exact hk3
 have hm3:=h3.kept hzb hm9;refine aq (ah (ao (ag (ab (aa bJ rfl) (ab (au ak rfl (by exact (show _=some (Value.int .i64 m.k) from (hm3.from_ ai.rfl_).rd 0 rfl))) ?_)))));refine aq (ah (bk (ao (ag (ab (bo rfl rfl) (asb rfl (aq (ah (yR rfl (fun Q2=>?_) (fun Q2=>?_))))))))))
 ·refine ag (mvp rfl (ab (aa bx rfl) (ab (au ak rfl (by exact (show _=some (Value.int .i64 m.f) from (hm3.from_ ai.rfl_).rd 1 rfl))) ?_)));refine ab (dt (l:=[(0,.const (.int .i64 2))]) (jB)) (er (t:=11) (v:=.agg _) (v':=.agg (bT ({ zM with k:=2 }:Msg)).toArray) rfl (by rfl) ?_);have h4:=h3.from_ ai.rfl_;obtain ⟨tgA,aA,OA,ocA,LA,hsA⟩:=h4.ex;obtain rfl:=hsA.nilL;refine aE fi (ka wm Z7 T g ⟨s,[]⟩ _ h4 _ _ _ _ _ hsA (Nat.zero_le _) { zM with k:=2 } m.f ⟨dB,Col.none⟩) ?_;rintro v12 w3 ⟨rfl,h6⟩;refine aq (bI (cK (dU rfl ?_)));unfold iZ
  first
   |(rw [if_pos (show m.k=1 by omega)];exact ⟨rfl,h.back hE3 (h6.from_ ai.rfl_) hzi⟩)
   |(rw [if_neg (show ¬ m.k=1 by omega),if_pos (show m.k=3∨m.k=5 by omega)];exact ⟨rfl,h.back hE3 (h6.from_ ai.rfl_) hzi⟩)
   |(rw [if_neg (show ¬ m.k=1 by omega),if_neg (show ¬ (m.k=3∨m.k=5) by omega)];exact ⟨rfl,h.from_ (E3.next ai.rfl_)⟩)
 refine ao (ao (ag (ab (bo rfl rfl) (asb rfl (aq (ah (yR rfl (fun Q4=>?_) (fun Q4=>?_))))))))
 ·refine aI (ah (yR rfl (fun Q5=>?_) (fun Q5=>?_)));rotate_left
  ·exfalso;omega
  refine ag (mvp rfl (ab (aR (cs:=bT m) bp bg rfl ((hm3.from_ ai.rfl_).whole)) (aE gx (kp wm Z7 T g ⟨s,[]⟩ m false 0 _ (h3.from_ ai.rfl_) (Nat.zero_le _)) ?_)));rintro v18 w6 ⟨rfl,h6⟩;refine aq (bI (cK (dU rfl ?_)));unfold iZ
  first
   |(rw [if_pos (show m.k=1 by omega)];exact ⟨rfl,h.back hE3 (h6.from_ ai.rfl_) hzi⟩)
   |(rw [if_neg (show ¬ m.k=1 by omega),if_pos (show m.k=3∨m.k=5 by omega)];exact ⟨rfl,h.back hE3 (h6.from_ ai.rfl_) hzi⟩)
   |(rw [if_neg (show ¬ m.k=1 by omega),if_neg (show ¬ (m.k=3∨m.k=5) by omega)];exact ⟨rfl,h.from_ (E3.next ai.rfl_)⟩)
 refine ag (ab (bo rfl rfl) (asb rfl (aq (ah (yR rfl (fun Q7=>?_) (fun Q7=>?_))))))
 ·refine ag (mvp rfl (ab (aR (cs:=bT m) bp bg rfl ((hm3.from_ ai.rfl_).whole)) (aE gx (kp wm Z7 T g ⟨s,[]⟩ m false 0 _ (h3.from_ ai.rfl_) (Nat.zero_le _)) ?_)));rintro v18 w8 ⟨rfl,h6⟩;refine aq (bI (cK (dU rfl ?_)));unfold iZ
  first
   |(rw [if_pos (show m.k=1 by omega)];exact ⟨rfl,h.back hE3 (h6.from_ ai.rfl_) hzi⟩)
   |(rw [if_neg (show ¬ m.k=1 by omega),if_pos (show m.k=3∨m.k=5 by omega)];exact ⟨rfl,h.back hE3 (h6.from_ ai.rfl_) hzi⟩)
   |(rw [if_neg (show ¬ m.k=1 by omega),if_neg (show ¬ (m.k=3∨m.k=5) by omega)];exact ⟨rfl,h.from_ (E3.next ai.rfl_)⟩)
 refine aI (bI (cK (dU rfl ?_)));unfold iZ
 first
  |(rw [if_pos (show m.k=1 by omega)];exact ⟨rfl,h.back hE3 (h6.from_ ai.rfl_) hzi⟩)
  |(rw [if_neg (show ¬ m.k=1 by omega),if_pos (show m.k=3∨m.k=5 by omega)];exact ⟨rfl,h.back hE3 (h6.from_ ai.rfl_) hzi⟩)
  |(rw [if_neg (show ¬ m.k=1 by omega),if_neg (show ¬ (m.k=3∨m.k=5) by omega)];exact ⟨rfl,h.from_ (E3.next ai.rfl_)⟩)
theorem qY (w0:World) (Z:Nat→Prop) (T g:Nat) (s:Rf) (m:Msg) (w:World) (h:aF w0 Z w T g ⟨s,[]⟩) (hgt:m.tm<s.term) :
 Rt prog 58 [.pointer (some ⟨g,0,none⟩),.agg (bT m).toArray] w (fun v w'=>v=.tuple #[]∧aF w0 Z w' T g (cp s m)):=by
 refine enter (n:=55) Tryz.func58 rfl rfl rfl (ao (ag (cj (v:=.agg _) rfl ?_)));intro b3 w1 E3 hb3 hk3;obtain ⟨wm,hwm⟩:∃ x,x=w1:=⟨_,rfl⟩
 have h3a:=h.at_ (Z':=fun k=>Z k∨k=b3) E3 (fun k hk=>by
  rcases hk with e | e
  ·exact ⟨Nat.lt_of_lt_of_le (h.zw k e) E3.size,.inl e⟩
  ·subst e;exact ⟨hk3.lt,.inr (by omega)⟩)
 obtain ⟨Z7,hZ7⟩:∃ Z7,Z7=fun k=>Z k∨k=b3:=⟨_,rfl⟩
 have h3:aF wm Z7 w1 T g ⟨s,[]⟩:=by
  rw [hZ7,hwm];exact h3a
 have hzi:∀ k,Z k→Z7 k:=fun k hk=>by rw [hZ7];exact .inl hk
 have hzb:Z7 b3:=by rw [hZ7];exact .inr rfl
 have hE3:ai w wm:=by rw [hwm];exact E3
 have hm9:Blk wm b3 39 (bT m).toArray:=by rw [hwm];exact hk3
 have hm3:=h3.kept hzb hm9;refine aq (ah (ao (ao ?_)))
 skip
 apply br 9 [(4,eqp _),(5,eqp (.int .i64 m.tm)),(6,eqp _),(7,eqp _),(8,eqp _),(9,eqp _),(10,eqp _),(11,eqp (.int .i64 s.term)),(12,eqp _)] (by repeat first | exact bN | refine bM ?_ | refine bB ?_) (by kernel_rfl) (by kernel_rfl) ⟨ae _,ae _,ae _,ae _,ae _,ae _,ae _,ae _,ae _,trivial⟩
 case hop=>
  constructor
  ·rintro-w3 D3;exact an (aa bG rfl) rfl
  constructor
  ·rintro-w4 D4;rintro _ rfl;exact an (au ak rfl (by exact (show _=some (Value.int .i64 m.tm) from (hm3.from_ (ai.rfl_.next D4)).rd 3 rfl))) rfl
  constructor
  ·rintro-w5 D5;exact an (aC (v:=.pointer _) rfl) rfl
  constructor
  ·rintro-w6 D6;rintro _ rfl;exact an (av rfl) rfl
  constructor
  ·rintro-w7 D7;rintro _ rfl;exact an (aa ay rfl) rfl
  constructor
  ·rintro-w8 D8;rintro _ rfl;exact an (aa aw rfl) rfl
  constructor
  ·rintro-w9 D9;rintro _ rfl;exact an (aa bE rfl) rfl
  constructor
  ·rintro-w10 D10;rintro _ rfl;exact an (au ak rfl (by exact (show _=some (Value.int .i64 s.term) from (h3.from_ (ai.rfl_.next D10)).rd (fun _=>rfl)))) rfl
  constructor
  ·rintro-w11 D11;rintro v11_5 rfl v11_11 rfl;exact an (bL (ct rfl rfl) (decide_eq_false (by omega))) rfl
  exact trivial
 case hend=>
  intro w12 D12;rintro _ rfl v5 rfl _ rfl _ rfl _ rfl _ rfl _ rfl v11 rfl _ rfl;show St ..;refine aq (ah (aU rfl (aI (ah (ao (ao ?_))))))
  skip
  apply br 9 [(19,eqp _),(20,eqp (.int .i64 m.tm)),(21,eqp _),(22,eqp _),(23,eqp _),(24,eqp _),(25,eqp _),(26,eqp (.int .i64 s.term)),(27,eqp _)] (by repeat first | exact bN | refine bM ?_ | refine bB ?_) (by kernel_rfl) (by kernel_rfl) ⟨ae _,ae _,ae _,ae _,ae _,ae _,ae _,ae _,ae _,trivial⟩
  case hop=>
   constructor
   ·rintro-w14 D14;exact an (aa bG rfl) rfl
   constructor
   ·rintro-w15 D15;rintro _ rfl;exact an (au ak rfl (by exact (show _=some (Value.int .i64 m.tm) from ((h3.kept hzb hm9).from_ ((ai.rfl_.next D12).next D15)).rd 3 rfl))) rfl
   constructor
   ·rintro-w16 D16;exact an (aC (v:=.pointer _) rfl) rfl
   constructor
   ·rintro-w17 D17;rintro _ rfl;exact an (av rfl) rfl
   constructor
   ·rintro-w18 D18;rintro _ rfl;exact an (aa ay rfl) rfl
   constructor
   ·rintro-w19 D19;rintro _ rfl;exact an (aa aw rfl) rfl
   constructor
   ·rintro-w20 D20;rintro _ rfl;exact an (aa bE rfl) rfl
   constructor
   ·rintro-w21 D21;rintro _ rfl;exact an (au ak rfl (by exact (show _=some (Value.int .i64 s.term) from (h3.from_ ((ai.rfl_.next D12).next D21)).rd (fun _=>rfl)))) rfl
   constructor
   ·rintro-w22 D22;rintro v22_20 rfl v22_26 rfl;exact an (dX (cA rfl rfl) (decide_eq_true hgt)) rfl
   exact trivial
  case hend=>
   intro w23 D23;rintro _ rfl v20 rfl _ rfl _ rfl _ rfl _ rfl _ rfl v26 rfl _ rfl;show St ..;refine aq (ah (aW rfl (ao (ag (mvp rfl (ab (aR (cs:=bT m) bp bg rfl (((h3.kept hzb hm9).from_ ((ai.rfl_.next D12).next D23)).whole)) (aE qj (ta wm Z7 T g s m _ (h3.from_ ((ai.rfl_.next D12).next D23))) ?_)))))));rintro v30 w24 ⟨rfl,h6⟩;refine aq (ah (aG (aH (dU rfl ?_))));rw [tU hgt];exact ⟨rfl,h.back hE3 (h6.from_ ai.rfl_) hzi⟩
def yZ (s:Rf) (i:Int) (d:ByteArray):Prop:=(s.b<i∧i≤s.commit∧i≤1099511625728)∧d.size≤524288
instance (s:Rf) (i:Int) (d:ByteArray):Decidable (yZ s i d):=by unfold yZ;exact inferInstance
theorem nk:∀ (a0:Int) (a1:Int),prog.built 24 [(0,.int .i64 a0),(1,.int .i64 a1)]=some #[.int .i64 a0,.int .i64 a1,.slice none 0 0]:=by intros;kernel_rfl
theorem sf:aN prog 81=true:=by kernel_rfl
theorem fc:∀ (a0:Int) (a1:Int) (a2:Int),prog.built 39 [(0,.int .i64 6),(4,.int .i64 a0),(10,.int .i64 a2),(7,.int .i64 a1)]=some #[.int .i64 6,.int .i64 0,.int .i64 0,.int .i64 0,.int .i64 a0,.int .i64 0,.int .i64 0,.int .i64 a1,.bool false,.slice none 0 0,.int .i64 a2,.string ⟨#[]⟩,.bool false]:=by intros;kernel_rfl
theorem qC:aN prog 166=true:=by kernel_rfl
theorem qD:aN prog 148=true:=by kernel_rfl
def cR (s:Rf):Rf:=if s.role=1 then cF s s.term else s
def dR (s:Rf) (m:Msg):Rf:={ cR s with leader:=m.f,elapsed:=0 }
theorem zg {s:Rf} (h:RfF s):RfF (cR s):=by
 unfold cR;split
 ·exact h.falls h.te.2
 ·exact h
theorem x9 (s:Rf):(cR s).nodes=s.nodes∧(cR s).id=s.id:=by
 unfold cR;split
 ·exact ⟨(ia s s.term).2.2.2.2.1,(ia s s.term).2.2.2.1⟩
 ·exact ⟨rfl,rfl⟩
theorem ze {s:Rf} (h:RfF s) {m:Msg} (hf:1≤m.f∧m.f≤s.nodes):RfF (dR s m):=(zg h).hear ⟨by omega,by rw [(x9 s).1];exact hf.2⟩
theorem yT {s:Rf} (h:s.role≠1):cR s=s:=if_neg h
theorem yU {s:Rf} (h:s.role=1):cR s=cF s s.term:=if_pos h
theorem x6 {s:Rf} {m:Msg} (h:s.role=2):nY s m=⟨s,[]⟩:=if_pos h
theorem k_ {s:Rf} {m:Msg} (h:s.role≠2) (hk:m.k=5):nY s m=sx (dR s m) m:=by
 unfold nY;rw [if_neg h];simp only;rw [if_neg (by omega)];rfl
def pR (s:Rf) (m:Msg):Rf:=if s.partOf≠m.ix then { s with partOf:=m.ix,part:=⟨#[]⟩ } else s
theorem xP {s:Rf} {m:Msg} (h:s.partOf≠m.ix):pR s m={ s with partOf:=m.ix,part:=⟨#[]⟩ }:=if_pos h
theorem vW {s:Rf} {m:Msg} (h:s.partOf=m.ix):pR s m=s:=if_neg (fun e=>e h)
def fP (s:Rf) (m:Msg):Bool:=decide (m.a=s.part.size)&&decide (s.part.size+m.d.size≤524288)
def qR (s:Rf) (m:Msg) (b:Bool):Rf:=if b then { s with part:=s.part++m.d } else s
def pQ (s:Rf) (i t:Int):Bool:=decide (i≤aQ s∧dz s.b s.t s.es i=t)
def jY (s:Rf) (i t:Int):Rf:={ s with b:=i,t:=t,es:=if pQ s i t then s.es.drop (i-s.b).toNat else [],snap:=s.part,commit:=i,part:=⟨#[]⟩,partOf:=0 }
def jy (s:Rf) (m:Msg):Sp:=
 if fP (pR s m) m&&m.dn then iM ⟨jY (qR (pR s m) m (fP (pR s m) m)) m.ix m.lt,[]⟩ m true m.ix
 else Sp.tell ⟨qR (pR s m) m (fP (pR s m) m),[]⟩ { zM with k:=6,t:=m.f,ix:=m.ix,a:=(qR (pR s m) m (fP (pR s m) m)).part.size,rd:=m.rd }
theorem tb (x c l t:Int):x≤c∨(¬ x≤c∧l<t)∨(¬ x≤c∧¬ l<t):=by omega
theorem mH {s:Rf} {m:Msg} (h:m.ix≤s.commit∨m.lt<dz s.b s.t s.es s.commit):sx s m=iM ⟨s,[]⟩ m true s.commit:=if_pos h
theorem kW {s:Rf} {m:Msg} (h:¬ (m.ix≤s.commit∨m.lt<dz s.b s.t s.es s.commit)):sx s m=jy s m:=if_neg h
theorem xQ (s:Rf) (m:Msg):(pR s m).b=s.b∧(pR s m).t=s.t∧(pR s m).es=s.es∧(pR s m).commit=s.commit:=by
 unfold pR;split
 ·exact ⟨rfl,rfl,rfl,rfl⟩
 ·exact ⟨rfl,rfl,rfl,rfl⟩
theorem xO (s:Rf) (m:Msg) (b:Bool):(qR s m b).b=s.b∧(qR s m b).t=s.t∧(qR s m b).es=s.es∧(qR s m b).commit=s.commit:=by
 cases b
 ·exact ⟨rfl,rfl,rfl,rfl⟩
 ·exact ⟨rfl,rfl,rfl,rfl⟩
theorem sv {P:Program} {ρ:Operand→Value} {w:World} {t yt:TypeId} {x y:Operand} {a b:ByteArray} (hx:ρ x=.string a) (hy:ρ y=.string b) (h:a.size+b.size≤9223372036854775807):RO P ρ (.binOp .add t x y yt) w (.string (a++b)) w:=
 kU hx hy (by unfold eqGuard;rfl) (by rw [binOp_string_add];exact run_string_add_sum w a b h)
theorem rI (s:Rf) (m:Msg):m.a≠(s.part.size:Int)∨(m.a=(s.part.size:Int)∧¬ s.part.size+m.d.size≤524288)∨(m.a=(s.part.size:Int)∧s.part.size+m.d.size≤524288):=by omega
theorem uW {s:Rf} {m:Msg} (h:m.a≠(s.part.size:Int)):fP s m=false:=by unfold fP;rw [decide_eq_false h];rfl
theorem x7 {s:Rf} {m:Msg} (h:¬ s.part.size+m.d.size≤524288):fP s m=false:=by unfold fP;rw [decide_eq_false h,Bool.and_false]
theorem rJ {s:Rf} {m:Msg} (h1:m.a=(s.part.size:Int)) (h2:s.part.size+m.d.size≤524288):fP s m=true:=by unfold fP;rw [decide_eq_true h1,decide_eq_true h2];rfl
theorem oR {s p u:Rf} {m:Msg} {b:Bool} (hp:p=pR s m) (hb:b=fP p m) (hu:u=qR p m b) (h:(b&&m.dn)=false):jy s m=Sp.tell ⟨u,[]⟩ { zM with k:=6,t:=m.f,ix:=m.ix,a:=u.part.size,rd:=m.rd }:=by
 subst hp hb hu;unfold jy;rw [if_neg (by rw [h];decide)]
theorem u6 {s p u:Rf} {m:Msg} {b:Bool} (hp:p=pR s m) (hb:b=fP p m) (hu:u=qR p m b) (h:(b&&m.dn)=true):jy s m=iM ⟨jY u m.ix m.lt,[]⟩ m true m.ix:=by
 subst hp hb hu;unfold jy;rw [if_pos h]
theorem oK {s:Rf} {i t:Int} (h1:i≤aQ s) (h2:dz s.b s.t s.es i=t):pQ s i t=true:=decide_eq_true ⟨h1,h2⟩
theorem l8 {s:Rf} {i t:Int} (h:¬ (i≤aQ s∧dz s.b s.t s.es i=t)):pQ s i t=false:=decide_eq_false h
theorem pk {P:Program} {n:Fr} {L:List (Nat×Value)} {w w0:World} {Z:Nat→Prop} {t:TypeId} {x y:Operand} {T g k:Nat} {v:Value} {p:Sp} {s':Rf} (ht:dr P t=some 1) (hx:ev n L x=.pointer (some ⟨g,k,none⟩)) (hy:ev n L y=v) (h1:v.oneCell'=true) (h:aF w0 Z w T g p) (e:∀ a,k<22∧(rfV p.s a).set k v=rfV s' a)
 (hr:s'.es=p.s.es∧s'.votes=p.s.votes∧s'.next=p.s.next∧s'.mtch=p.s.mtch∧s'.sent=p.s.sent∧s'.reads=p.s.reads):∃ w',RS P (ev n L) (.store t x y) w w'∧dw g w w'∧aF w0 Z w' T g ⟨s',p.out⟩:=by
 obtain ⟨tag,a,O,oc,L1,hs⟩:=h.ex;obtain ⟨w',hR,hO,hb⟩:=j9 (P:=P) (n:=n) (L:=L) ht hx hy h1 hs.b (by have:=(e a).1;simp [iA];omega);exact ⟨w',hR,hO,(h.set hs (hO.toChg rfl) (aY.same hs.f hr.1 hr.2.1 hr.2.2.1 hr.2.2.2.1 hr.2.2.2.2.1 hr.2.2.2.2.2) (um hb (e a))).2⟩
theorem rh {P:Program} {n:Fr} {L:List (Nat×Value)} {w wa w0:World} {Z:Nat→Prop} {t:TypeId} {x y:Operand} {T g:Nat} {p:Sp} {b t9:Int} {E:Option Addr} {c:Nat} {es:List Ent} (ht:dr P t=some 3) (hx:ev n L x=.pointer (some ⟨g,6,none⟩)) (hy:ev n L y=.agg #[.int .i64 b,.int .i64 t9,.slice E es.length c]) (h:aF w0 Z wa T g p) (hF:ai wa w) (ho:w.ownsRow wa.heap.size 99 3 (.slice E es.length c) es.length (dV es)) :
 ∃ w',RS P (ev n L) (.store t x y) w w'∧dw g w w'∧aF w0 Z w' T g ⟨{ p.s with b:=b,t:=t9,es:=es },p.out⟩:=by
 obtain ⟨tag,a,O,oc,L1,hs⟩:=h.ex;have hb:=hs.b.from_ hF;have hR:=kS (P:=P) (ρ:=ev n L) (cs:=[.int .i64 b,.int .i64 t9,.slice E es.length c]) ht hx hy (by simp [Value.oneCell']) (hb.there 6 3 (by simp [iA]));have hk:=Blk.sets [.int .i64 b,.int .i64 t9,.slice E es.length c] 6 hb (by simp [iA]);have e:gp (rfV p.s a++[Value.slice O L1.length oc]) 6 [.int .i64 b,.int .i64 t9,.slice E es.length c]=rfV { p.s with b:=b,t:=t9,es:=es } { a with E:=E,Ec:=c }++[Value.slice O L1.length oc]:=rfl;rw [e] at hk;exact ⟨_,hR,dw.sets _ 6 w,(h.put hs (ai.toChg hF) (.inl (by decide)) ((hs.f.but (c:=0) (ai.toChg hF)).log b t9 rfl (fE ho (Nat.zero_le _)) (fun q hq=>ef (fO ho q hq).1)) ((dw.sets _ 6 w).toChg rfl) hk).2⟩
def pS (s:Rf) (i t:Int) (es:List Ent) (k:Nat):Rf:={ s with b:=if 1≤k then i else s.b,t:=if 1≤k then t else s.t,es:=if 1≤k then es else s.es,snap:=if 2≤k then s.part else s.snap,commit:=if 3≤k then i else s.commit }
theorem yq (s:Rf) (i:Int) (E:Option Addr) (c:Nat) (w:World) (h:cQ w (.slice E s.es.length c) s.es) (hm:cn s.b s.t s.es=true) (hi:s.b≤i) (hl:cW s.b s.es=aQ s):Rt prog 121 [.agg #[.int .i64 s.b,.int .i64 s.t,.slice E s.es.length c],.int .i64 i] w fun v w'=>(∃ t e,v=.tuple #[.int .i64 t,.int .i64 e]∧((e=0∧t=dz s.b s.t s.es i∧i≤aQ s)∨(e=3∧¬ i≤aQ s)))∧ai w w':=
 (Rt.of (pg s.b s.t i _ s.es w h)).mono fun v w' h9=>⟨by
  have h1:=h9.1;unfold sk at h1;rw [if_pos hm] at h1;by_cases hc:s.b≤i∧i≤cW s.b s.es
  ·rw [if_pos hc] at h1;exact ⟨_,_,h1,.inl ⟨rfl,rfl,by omega⟩⟩
  ·rw [if_neg hc] at h1;exact ⟨_,_,h1,.inr ⟨rfl,by omega⟩⟩,h9.2⟩
theorem nD (T g:Nat) (s:Rf) (a:Ra) (R:List Value) (w:World) (hb:Blk w g T (rfV s a++R).toArray) (he:cQ w (.slice a.E s.es.length a.Ec) s.es) (hm:cn s.b s.t s.es=true) (i:Int) (hi:s.b≤i∧i≤aQ s) {t:Int} (ht:t=dz s.b s.t s.es i):Rt prog 83 [.pointer (some ⟨g,0,none⟩),.int .i64 i] w fun v w'=>v=.int .i64 t∧ai w w':=by
 subst ht;exact mi T g s a R w hb he hm i hi
theorem u5 (s:Rf) (i:Int) (hm:cn s.b s.t s.es=true) (hl:cW s.b s.es=aQ s) (hi:s.b<i∧i≤aQ s∧i≤1099511625728) (E:Option Addr) (c:Nat) (w:World) (h:cQ w (.slice E s.es.length c) s.es) :
 Rt prog 81 [.agg #[.int .i64 s.b,.int .i64 s.t,.slice E s.es.length c],.int .i64 i] w fun v w'=>(∃ A' c',v=.tuple #[.agg #[.int .i64 i,.int .i64 (dz s.b s.t s.es i),.slice A' (s.es.drop (i-s.b).toNat).length c'],.int .i64 0]∧w'.ownsRow w.heap.size 99 3 (.slice A' (s.es.drop (i-s.b).toNat).length c') (s.es.drop (i-s.b).toNat).length (dV (s.es.drop (i-s.b).toNat)))∧ai w w':=
 (rN s.b s.t i _ s.es w h).mono fun v w' ⟨L,hv,hg,hF'⟩=>by
  have h0:jZ s.b s.t s.es i=0:=by
   unfold jZ;rw [if_pos hm,if_pos];omega
  rw [h0] at hv hg;obtain ⟨A',c',rfl,ho⟩:=hg.2 rfl;exact ⟨⟨A',c',hv,ho⟩,hF'⟩
theorem rH (w0:World) (Z:Nat→Prop) (T g:Nat) (s:Rf) (i t:Int) (w:World) (h:aF w0 Z w T g ⟨s,[]⟩) (hm:cn s.b s.t s.es=true) (hl:cW s.b s.es=aQ s) (hi:s.b<i∧i≤1099511625728) :
 Rt prog 166 [.pointer (some ⟨g,0,none⟩),.int .i64 i,.int .i64 t] w (fun v w'=>v=.tuple #[]∧aF w0 Z w' T g ⟨jY s i t,[]⟩):=by
 obtain ⟨tgV,aV,OV,ocV,LV,hsV⟩:=h.ex;have heV:=(aY.rd hsV.f).e;refine enter (n:=74) Tryz.func166 rfl rfl rfl (ao (ag (mvi rfl (mvi rfl (ab (dt (l:=[(0,.tmp 9),(1,.tmp 10)]) (nk _ _)) (dq iq ?_))))));intro b6 w1 E6 hb6 hk6;have hg6:w.heap.size≤b6:=by rw [hb6];exact (ai.rfl_).size
 refine cZ (vs:=[_,_,_]) bD rfl rfl (by simp [Value.oneCell']) (hk6) rfl ?_;intro w2 O0 P0;have hk6q:Blk w2 b6 24 #[.int .i64 i,.int .i64 t,.slice none 0 0]:=P0;refine aq (ah (kf (G:=List Ent×Option Addr×Nat) [7,8,12,13,14,15,16,17,18,19,20,21,22,23,24,25,26,27,28,29,30,31,32,33,34,35,36,37,38,39,40] (fun _=>[]) (fun (es8,A8,c8) w'=>es8=(if pQ s i t then s.es.drop (i-s.b).toNat else [])∧Blk w' b6 24 #[.int .i64 i,.int .i64 t,.slice A8 es8.length c8]∧w'.ownsRow w.heap.size 99 3 (.slice A8 es8.length c8) es8.length (dV es8)∧ai w w') ?_ ?_))
 ·refine ao (ag (mvp rfl (ab (av rfl) (ab (aa ay rfl) (ab (aa aw rfl) (ab (aa bd rfl) (ab (aR (cs:=[.int .i64 s.b,.int .i64 s.t,.slice aV.E s.es.length aV.Ec]) cw bD rfl (kV (hsV.b.from_ ((ai.rfl_.next E6).only O0 (hg6))))) (mvi rfl (aE kK (yq s i aV.E aV.Ec _ (heV.from_ ((ai.rfl_.next E6).only O0 (hg6))) hm (by omega) hl) ?_)))))))));rintro v20 w3 ⟨⟨t9,e9,rfl,hte⟩,E20⟩;refine mvt rfl (ab (aK rfl rfl) (ab (aK rfl rfl) (asi rfl (asi rfl (aq (ah (ao (ag (mvi rfl (ab (bo rfl rfl) (mvb rfl ?_)))))))))));refine yl (t:=25) rfl (fun Q4=>?_) (fun Q4=>?_)
  ·refine aj rfl (mvi rfl (aj rfl (mvi rfl (aj rfl (ab (bo rfl rfl) (ab (aJ (v:=.bool _) rfl rfl) (aq (ah (yR rfl (fun Q5=>?_) (fun Q5=>?_))))))))))
   ·refine ag (mvp rfl (ab (av rfl) (ab (aa ay rfl) (ab (aa aw rfl) (ab (aa bd rfl) (ab (aR (cs:=[.int .i64 s.b,.int .i64 s.t,.slice aV.E s.es.length aV.Ec]) cw bD rfl (kV (hsV.b.from_ (((ai.rfl_.next E6).only O0 (hg6)).next E20)))) (mvi rfl ?_)))))));have hz38:=((((ai.rfl_.next E6).only O0 (hg6)).next E20)).size;have hM38:ai _ w3:=(ai.rfl_.next E20);replace hk6q:=hk6q.from_ hM38;refine aE sf (u5 s i hm hl (by omega) aV.E aV.Ec _ (heV.from_ (((ai.rfl_.next E6).only O0 (hg6)).next E20))) ?_;rintro v38 w6 ⟨⟨A38,c38,rfl,ho38⟩,E38⟩;replace hk6q:=hk6q.from_ E38;refine mvt rfl (ab (aK rfl rfl) (ab (aK rfl rfl) ?_));have hM3:ai _ w6:=ai.rfl_;refine cZ (vs:=[_,_,_]) bD rfl rfl (by simp [Value.oneCell']) ((hk6q.from_ ai.rfl_)) rfl ?_;intro w7 O3 P3;have hk6c:Blk w7 b6 24 #[.int .i64 i,.int .i64 (dz s.b s.t s.es i),.slice A38 (s.es.drop (i-s.b).toNat).length c38]:=P3;have ho6c:=fY (ho38.kept_from hM3) O3 (oE (ho38.kept_from hM3) (hk6q.from_ hM3) (by decide));refine aq ?_;refine cu ((s.es.drop (i-s.b).toNat,A38,c38)) trivial (by (iterate 32 refine bC rfl ?_);exact bP) ?_
    first
     |exact ⟨by rw [oK (by omega) (by omega)];rfl,by rw [show t=dz s.b s.t s.es i by omega];exact hk6c,fE ho6c hz38,(((((ai.rfl_.next E6).only O0 (hg6)).next E20).next E38).only O3 (hg6))⟩
     |exact ⟨by rw [l8 (by omega)];rfl,hk6q.from_ ai.rfl_,World.ownsRow_nil _ _ _ _,(((((ai.rfl_.next E6).only O0 (hg6)).next E20).next E38).only O3 (hg6))⟩
   refine aI ?_;refine cu (([],none,0)) trivial (by (iterate 21 refine bC rfl ?_);exact bP) ?_
   first
    |exact ⟨by rw [oK (by omega) (by omega)];rfl,by rw [show t=dz s.b s.t s.es i by omega];exact hk6c,fE ho6c hz38,(((ai.rfl_.next E6).only O0 (hg6)).next E20)⟩
    |exact ⟨by rw [l8 (by omega)];rfl,hk6q.from_ (ai.rfl_.next E20),World.ownsRow_nil _ _ _ _,(((ai.rfl_.next E6).only O0 (hg6)).next E20)⟩
  refine ar rfl rfl (ar rfl rfl (ar rfl rfl (ab (aB (v:=.bool _) rfl rfl) (aq (ah (aU rfl (aI ?_)))))));refine cu (([],none,0)) trivial (by (iterate 21 refine bC rfl ?_);exact bP) ?_
  first
   |exact ⟨by rw [oK (by omega) (by omega)];rfl,by rw [show t=dz s.b s.t s.es i by omega];exact hk6c,fE ho6c hz38,(((ai.rfl_.next E6).only O0 (hg6)).next E20)⟩
   |exact ⟨by rw [l8 (by omega)];rfl,hk6q.from_ (ai.rfl_.next E20),World.ownsRow_nil _ _ _ _,(((ai.rfl_.next E6).only O0 (hg6)).next E20)⟩
 rintro ⟨es8,A8,c8⟩ ρ8 w8 ⟨hes8,hk8,ho8,hB⟩;have hgb:=hsV.b.lt;have hn6:b6≠g:=by omega
 refine ao ?_;have hU9:kg [(0,41,.pointer (some ⟨g,0,none⟩)),(1,42,.pointer (some ⟨g,0,none⟩)),(2,43,.pointer (some ⟨g,0,none⟩)),(3,44,.agg #[.int .i64 i,.int .i64 t,.slice A8 es8.length c8]),(4,45,.pointer (some ⟨g,0,none⟩)),(5,46,.pointer (some ⟨g,0,none⟩)),(6,47,.pointer (some ⟨g,0+0,none⟩)),(7,48,.pointer (some ⟨g,0+0+0,none⟩)),(8,49,.pointer (some ⟨g,0+0+0+20,none⟩)),(9,50,.string s.part),(10,51,.int .i64 i),(11,52,.pointer (some ⟨g,0,none⟩)),(12,53,.pointer (some ⟨g,0+0,none⟩)),(13,54,.pointer (some ⟨g,0+0+0,none⟩)),(14,55,.pointer (some ⟨g,0+0+0+6,none⟩)),(16,56,.pointer (some ⟨g,0,none⟩)),(17,57,.pointer (some ⟨g,0+0,none⟩)),(18,58,.pointer (some ⟨g,0+0+0,none⟩)),(19,59,.pointer (some ⟨g,0+0+0+9,none⟩)),(21,60,.pointer (some ⟨g,0,none⟩)),(22,61,.pointer (some ⟨g,0+0,none⟩)),(23,62,.pointer (some ⟨g,0+0+0,none⟩)),(24,63,.pointer (some ⟨g,0+0+0+10,none⟩))]:=by simp [kg]
 refine l_ [(0,41,.pointer (some ⟨g,0,none⟩)),(1,42,.pointer (some ⟨g,0,none⟩)),(2,43,.pointer (some ⟨g,0,none⟩)),(3,44,.agg #[.int .i64 i,.int .i64 t,.slice A8 es8.length c8]),(4,45,.pointer (some ⟨g,0,none⟩)),(5,46,.pointer (some ⟨g,0,none⟩)),(6,47,.pointer (some ⟨g,0+0,none⟩)),(7,48,.pointer (some ⟨g,0+0+0,none⟩)),(8,49,.pointer (some ⟨g,0+0+0+20,none⟩)),(9,50,.string s.part),(10,51,.int .i64 i),(11,52,.pointer (some ⟨g,0,none⟩)),(12,53,.pointer (some ⟨g,0+0,none⟩)),(13,54,.pointer (some ⟨g,0+0+0,none⟩)),(14,55,.pointer (some ⟨g,0+0+0+6,none⟩)),(16,56,.pointer (some ⟨g,0,none⟩)),(17,57,.pointer (some ⟨g,0+0,none⟩)),(18,58,.pointer (some ⟨g,0+0+0,none⟩)),(19,59,.pointer (some ⟨g,0+0+0+9,none⟩)),(21,60,.pointer (some ⟨g,0,none⟩)),(22,61,.pointer (some ⟨g,0+0,none⟩)),(23,62,.pointer (some ⟨g,0+0+0,none⟩)),(24,63,.pointer (some ⟨g,0+0+0+10,none⟩))] (fun S w'=>(∃ k9:Nat,aF w0 Z w' T g ⟨pS s i t es8 k9,[]⟩∧(S 15=true↔1≤k9)∧(S 20=true↔2≤k9)∧(S 25=true↔3≤k9)∧(k9=0→ai w8 w'))∧Blk w' b6 24 #[.int .i64 i,.int .i64 t,.slice A8 es8.length c8]) (by kernel_rfl) (by kernel_rfl) hU9 (by simp) (⟨⟨0,(h.from_ hB).from_ ai.rfl_.d1,by simp,by simp,by simp,fun _=>ai.rfl_.d1⟩,hk8.from_ ai.rfl_.d1⟩) ?_ ?_
 ·constructor
  ·rintro S L' wS hI hM hS0 ⟨-⟩;have e0:=hI.1 0 (by simp);have hM':=hM;obtain ⟨⟨k9,hS9,hq1,hq2,hq3,hF9⟩,hk9⟩:=hM';exact bu (aC e0) ⟨hI.put hU9 (.head _),hM⟩
  constructor
  ·rintro S L' wS hI hM hS0 ⟨-,-⟩;have e0:=hI.1 0 (by simp);have hM':=hM;obtain ⟨⟨k9,hS9,hq1,hq2,hq3,hF9⟩,hk9⟩:=hM';exact bu (aC e0) ⟨hI.put hU9 (.tail _ (.head _)),hM⟩
  constructor
  ·rintro S L' wS hI hM hS0 ⟨-,-⟩;have e0:=hI.1 0 (by simp);have hM':=hM;obtain ⟨⟨k9,hS9,hq1,hq2,hq3,hF9⟩,hk9⟩:=hM';exact bu (aC e0) ⟨hI.put hU9 (gM 2 rfl),hM⟩
  constructor
  ·rintro S L' wS hI hM hS0 ⟨-⟩;have e6:=hI.1 6 (by simp);have hM':=hM;obtain ⟨⟨k9,hS9,hq1,hq2,hq3,hF9⟩,hk9⟩:=hM';exact bu (aR (cs:=[.int .i64 i,.int .i64 t,.slice A8 es8.length c8]) cw bD e6 hk9.whole) ⟨hI.put hU9 (gM 3 rfl),hM⟩
  constructor
  ·rintro S L' wS hI hM hS0 ⟨-⟩;have e0:=hI.1 0 (by simp);have hM':=hM;obtain ⟨⟨k9,hS9,hq1,hq2,hq3,hF9⟩,hk9⟩:=hM';exact bu (aC e0) ⟨hI.put hU9 (gM 4 rfl),hM⟩
  constructor
  ·rintro S L' wS hI hM hS0 ⟨d4,-⟩;have e45:bc L' 45=.pointer (some ⟨g,0,none⟩):=hI.get (i:=4) (gM 4 rfl) d4;have hM':=hM;obtain ⟨⟨k9,hS9,hq1,hq2,hq3,hF9⟩,hk9⟩:=hM';exact bu (av e45) ⟨hI.put hU9 (gM 5 rfl),hM⟩
  constructor
  ·rintro S L' wS hI hM hS0 ⟨d5,-⟩;have e46:bc L' 46=.pointer (some ⟨g,0,none⟩):=hI.get (i:=5) (gM 5 rfl) d5;have hM':=hM;obtain ⟨⟨k9,hS9,hq1,hq2,hq3,hF9⟩,hk9⟩:=hM';exact bu (aa ay e46) ⟨hI.put hU9 (gM 6 rfl),hM⟩
  constructor
  ·rintro S L' wS hI hM hS0 ⟨d6,-⟩;have e47:bc L' 47=.pointer (some ⟨g,0+0,none⟩):=hI.get (i:=6) (gM 6 rfl) d6;have hM':=hM;obtain ⟨⟨k9,hS9,hq1,hq2,hq3,hF9⟩,hk9⟩:=hM';exact bu (aa aw e47) ⟨hI.put hU9 (gM 7 rfl),hM⟩
  constructor
  ·rintro S L' wS hI hM hS0 ⟨d7,-⟩;have e48:bc L' 48=.pointer (some ⟨g,0+0+0,none⟩):=hI.get (i:=7) (gM 7 rfl) d7;have hM':=hM;obtain ⟨⟨k9,hS9,hq1,hq2,hq3,hF9⟩,hk9⟩:=hM';exact bu (aa cg e48) ⟨hI.put hU9 (gM 8 rfl),hM⟩
  constructor
  ·rintro S L' wS hI hM hS0 ⟨d8,-⟩;have e49:bc L' 49=.pointer (some ⟨g,0+0+0+20,none⟩):=hI.get (i:=8) (gM 8 rfl) d8;have hM':=hM;obtain ⟨⟨k9,hS9,hq1,hq2,hq3,hF9⟩,hk9⟩:=hM';exact bu (au bQ e49 (by exact (show _=some (Value.string s.part) from hS9.rd (fun _=>rfl)))) ⟨hI.put hU9 (gM 9 rfl),hM⟩
  constructor
  ·rintro S L' wS hI hM hS0 ⟨-,-⟩;have e1:=hI.1 1 (by simp);have hM':=hM;obtain ⟨⟨k9,hS9,hq1,hq2,hq3,hF9⟩,hk9⟩:=hM';exact bu (aC e1) ⟨hI.put hU9 (gM 10 rfl),hM⟩
  constructor
  ·rintro S L' wS hI hM hS0 ⟨d0,d0,-,-,d3,-,-,-,-,-,d9,-,-⟩;have e41:bc L' 41=.pointer (some ⟨g,0,none⟩):=hI.get (i:=0) (.head _) d0;have hM':=hM;obtain ⟨⟨k9,hS9,hq1,hq2,hq3,hF9⟩,hk9⟩:=hM';exact bu (av e41) ⟨hI.put hU9 (gM 11 rfl),hM⟩
  constructor
  ·rintro S L' wS hI hM hS0 ⟨d11,d0,-,-,d3,-,-,-,-,-,d9,-,-⟩;have e52:bc L' 52=.pointer (some ⟨g,0,none⟩):=hI.get (i:=11) (gM 11 rfl) d11;have hM':=hM;obtain ⟨⟨k9,hS9,hq1,hq2,hq3,hF9⟩,hk9⟩:=hM';exact bu (aa ay e52) ⟨hI.put hU9 (gM 12 rfl),hM⟩
  constructor
  ·rintro S L' wS hI hM hS0 ⟨d12,d0,-,-,d3,-,-,-,-,-,d9,-,-⟩;have e53:bc L' 53=.pointer (some ⟨g,0+0,none⟩):=hI.get (i:=12) (gM 12 rfl) d12;have hM':=hM;obtain ⟨⟨k9,hS9,hq1,hq2,hq3,hF9⟩,hk9⟩:=hM';exact bu (aa aw e53) ⟨hI.put hU9 (gM 13 rfl),hM⟩
  constructor
  ·rintro S L' wS hI hM hS0 ⟨d13,d0,-,-,d3,-,-,-,-,-,d9,-,-⟩;have e54:bc L' 54=.pointer (some ⟨g,0+0+0,none⟩):=hI.get (i:=13) (gM 13 rfl) d13;have hM':=hM;obtain ⟨⟨k9,hS9,hq1,hq2,hq3,hF9⟩,hk9⟩:=hM';exact bu (aa bd e54) ⟨hI.put hU9 (gM 14 rfl),hM⟩
  constructor
  ·rintro S L' wS hI hM hS0 ⟨d14,d3,d0,-,-,d3,-,-,-,-,-,d9,-,-⟩;have e44:bc L' 44=.agg #[.int .i64 i,.int .i64 t,.slice A8 es8.length c8]:=hI.get (i:=3) (gM 3 rfl) d3;have e55:bc L' 55=.pointer (some ⟨g,0+0+0+6,none⟩):=hI.get (i:=14) (gM 14 rfl) d14;have hM':=hM;obtain ⟨⟨k9,hS9,hq1,hq2,hq3,hF9⟩,hk9⟩:=hM'
   have e0:k9=0:=by
    rcases Nat.eq_zero_or_pos k9 with e | e
    ·exact e
    ·exact absurd (hq1.2 e) (by rw [hS0];decide)
   subst e0;obtain ⟨w2,hR,hO,hS2⟩:=rh (n:=74) (L:=L') (x:=.tmp 55) (y:=.tmp 44) (b:=i) (t9:=t) (es:=es8) bD e55 e44 h (hB.next (hF9 rfl)) (ho8.kept_from (hF9 rfl));exact iy hR ⟨hI.skip (by simp),⟨1,hS2,⟨fun _=>Nat.le_refl _,fun _=>dS _ _⟩,by rw [ek (by decide),hq2];omega,by rw [ek (by decide),hq3];omega,fun h0=>by omega⟩,hk9.only hO hn6⟩
  constructor
  ·rintro S L' wS hI hM hS0 ⟨d1,d0,d1,-,d3,d4,d5,d6,d7,d8,d9,-,d11,d12,d13,d14,d15,-⟩;have e42:bc L' 42=.pointer (some ⟨g,0,none⟩):=hI.get (i:=1) (.tail _ (.head _)) d1;have hM':=hM;obtain ⟨⟨k9,hS9,hq1,hq2,hq3,hF9⟩,hk9⟩:=hM';exact bu (av e42) ⟨hI.put hU9 (gM 15 rfl),hM⟩
  constructor
  ·rintro S L' wS hI hM hS0 ⟨d16,d0,d1,-,d3,d4,d5,d6,d7,d8,d9,-,d11,d12,d13,d14,d15,-⟩;have e56:bc L' 56=.pointer (some ⟨g,0,none⟩):=hI.get (i:=16) (gM 15 rfl) d16;have hM':=hM;obtain ⟨⟨k9,hS9,hq1,hq2,hq3,hF9⟩,hk9⟩:=hM';exact bu (aa ay e56) ⟨hI.put hU9 (gM 16 rfl),hM⟩
  constructor
  ·rintro S L' wS hI hM hS0 ⟨d17,d0,d1,-,d3,d4,d5,d6,d7,d8,d9,-,d11,d12,d13,d14,d15,-⟩;have e57:bc L' 57=.pointer (some ⟨g,0+0,none⟩):=hI.get (i:=17) (gM 16 rfl) d17;have hM':=hM;obtain ⟨⟨k9,hS9,hq1,hq2,hq3,hF9⟩,hk9⟩:=hM';exact bu (aa aw e57) ⟨hI.put hU9 (gM 17 rfl),hM⟩
  constructor
  ·rintro S L' wS hI hM hS0 ⟨d18,d0,d1,-,d3,d4,d5,d6,d7,d8,d9,-,d11,d12,d13,d14,d15,-⟩;have e58:bc L' 58=.pointer (some ⟨g,0+0+0,none⟩):=hI.get (i:=18) (gM 17 rfl) d18;have hM':=hM;obtain ⟨⟨k9,hS9,hq1,hq2,hq3,hF9⟩,hk9⟩:=hM';exact bu (aa dD e58) ⟨hI.put hU9 (gM 18 rfl),hM⟩
  constructor
  ·rintro S L' wS hI hM hS0 ⟨d19,d9,d15,d0,d1,-,d3,d4,d5,d6,d7,d8,d9,-,d11,d12,d13,d14,d15,-⟩;have e50:bc L' 50=.string s.part:=hI.get (i:=9) (gM 9 rfl) d9;have e59:bc L' 59=.pointer (some ⟨g,0+0+0+9,none⟩):=hI.get (i:=19) (gM 18 rfl) d19;have hM':=hM;obtain ⟨⟨k9,hS9,hq1,hq2,hq3,hF9⟩,hk9⟩:=hM'
   have e0:k9=1:=by
    have e1:=hq1.1 d15;rcases Nat.lt_or_ge k9 2 with e | e
    ·omega
    ·exact absurd (hq2.2 e) (by rw [hS0];decide)
   subst e0;obtain ⟨w2,hR,hO,hS2⟩:=pk (n:=74) (L:=L') (x:=.tmp 59) (y:=.tmp 50) (s':=pS s i t es8 2) gi e59 e50 rfl hS9 (fun _=>⟨by decide,rfl⟩) ⟨rfl,rfl,rfl,rfl,rfl,rfl⟩;exact iy hR ⟨hI.skip (by simp),⟨2,hS2,by rw [ek (by decide),hq1];omega,⟨fun _=>Nat.le_refl _,fun _=>dS _ _⟩,by rw [ek (by decide),hq3];omega,fun h0=>by omega⟩,hk9.only hO hn6⟩
  constructor
  ·rintro S L' wS hI hM hS0 ⟨d2,d0,d1,d2,d3,d4,d5,d6,d7,d8,d9,d10,d11,d12,d13,d14,d15,d16,d17,d18,d19,d20,-⟩;have e43:bc L' 43=.pointer (some ⟨g,0,none⟩):=hI.get (i:=2) (gM 2 rfl) d2;have hM':=hM;obtain ⟨⟨k9,hS9,hq1,hq2,hq3,hF9⟩,hk9⟩:=hM';exact bu (av e43) ⟨hI.put hU9 (gM 19 rfl),hM⟩
  constructor
  ·rintro S L' wS hI hM hS0 ⟨d21,d0,d1,d2,d3,d4,d5,d6,d7,d8,d9,d10,d11,d12,d13,d14,d15,d16,d17,d18,d19,d20,-⟩;have e60:bc L' 60=.pointer (some ⟨g,0,none⟩):=hI.get (i:=21) (gM 19 rfl) d21;have hM':=hM;obtain ⟨⟨k9,hS9,hq1,hq2,hq3,hF9⟩,hk9⟩:=hM';exact bu (aa ay e60) ⟨hI.put hU9 (gM 20 rfl),hM⟩
  constructor
  ·rintro S L' wS hI hM hS0 ⟨d22,d0,d1,d2,d3,d4,d5,d6,d7,d8,d9,d10,d11,d12,d13,d14,d15,d16,d17,d18,d19,d20,-⟩;have e61:bc L' 61=.pointer (some ⟨g,0+0,none⟩):=hI.get (i:=22) (gM 20 rfl) d22;have hM':=hM;obtain ⟨⟨k9,hS9,hq1,hq2,hq3,hF9⟩,hk9⟩:=hM';exact bu (aa aw e61) ⟨hI.put hU9 (gM 21 rfl),hM⟩
  constructor
  ·rintro S L' wS hI hM hS0 ⟨d23,d0,d1,d2,d3,d4,d5,d6,d7,d8,d9,d10,d11,d12,d13,d14,d15,d16,d17,d18,d19,d20,-⟩;have e62:bc L' 62=.pointer (some ⟨g,0+0+0,none⟩):=hI.get (i:=23) (gM 21 rfl) d23;have hM':=hM;obtain ⟨⟨k9,hS9,hq1,hq2,hq3,hF9⟩,hk9⟩:=hM';exact bu (aa cC e62) ⟨hI.put hU9 (gM 22 rfl),hM⟩
  constructor
  ·rintro S L' wS hI hM hS0 ⟨d24,d10,d20,d0,d1,d2,d3,d4,d5,d6,d7,d8,d9,d10,d11,d12,d13,d14,d15,d16,d17,d18,d19,d20,-⟩;have e51:bc L' 51=.int .i64 i:=hI.get (i:=10) (gM 10 rfl) d10;have e63:bc L' 63=.pointer (some ⟨g,0+0+0+10,none⟩):=hI.get (i:=24) (gM 22 rfl) d24;have hM':=hM;obtain ⟨⟨k9,hS9,hq1,hq2,hq3,hF9⟩,hk9⟩:=hM'
   have e0:k9=2:=by
    have e1:=hq2.1 d20;rcases Nat.lt_or_ge k9 3 with e | e
    ·omega
    ·exact absurd (hq3.2 e) (by rw [hS0];decide)
   subst e0;obtain ⟨w2,hR,hO,hS2⟩:=pk (n:=74) (L:=L') (x:=.tmp 63) (y:=.tmp 51) (s':=pS s i t es8 3) bh e63 e51 rfl hS9 (fun _=>⟨by decide,rfl⟩) ⟨rfl,rfl,rfl,rfl,rfl,rfl⟩;exact iy hR ⟨hI.skip (by simp),⟨3,hS2,by rw [ek (by decide),hq1];omega,by rw [ek (by decide),hq2];omega,⟨fun _=>Nat.le_refl _,fun _=>dS _ _⟩,fun h0=>by omega⟩,hk9.only hO hn6⟩
  exact trivial
 ·intro w10 hM;obtain ⟨⟨k9,hS9,hq1,hq2,hq3,hF9⟩,hk9⟩:=hM;have e3:3≤k9:=hq3.1 (by decide)
  have h13:aF w0 Z w10 T g ⟨({ s with b:=i,t:=t,es:=es8,snap:=s.part,commit:=i }:Rf),[]⟩:=by
   have e9:pS s i t es8 k9=({ s with b:=i,t:=t,es:=es8,snap:=s.part,commit:=i }:Rf):=by
    unfold pS;rw [if_pos (by omega),if_pos (by omega),if_pos (by omega),if_pos (by omega),if_pos (by omega)]
   rw [←e9];exact hS9
  refine ah (ag (mvp rfl (mvp rfl (ab (av rfl) (ab (aa ay rfl) (ab (aa aw rfl) (ab (aa cg rfl) (gU (s':=({ s with b:=i,t:=t,es:=es8,snap:=s.part,commit:=i,part:=⟨#[]⟩ }:Rf)) gi rfl rfl rfl (h13.from_ ai.rfl_) (fun _=>⟨by decide,rfl⟩) ⟨rfl,rfl,rfl,rfl,rfl,rfl⟩ ?_))))))));intro w11 h14;refine ab (av rfl) (ab (aa ay rfl) (ab (aa aw rfl) (ab (aa eA rfl) (gU (s':=({ s with b:=i,t:=t,es:=es8,snap:=s.part,commit:=i,part:=⟨#[]⟩,partOf:=0 }:Rf)) bh rfl rfl rfl (h14.from_ ai.rfl_) (fun _=>⟨by decide,rfl⟩) ⟨rfl,rfl,rfl,rfl,rfl,rfl⟩ ?_))));intro w12 h15;refine aq (cK (dU rfl ?_));have e9:jY s i t=({ s with b:=i,t:=t,es:=es8,snap:=s.part,commit:=i,part:=⟨#[]⟩,partOf:=0 }:Rf):=by unfold jY;rw [←hes8]
  rw [e9];exact ⟨rfl,h15.from_ ai.rfl_⟩
theorem pZ (w0:World) (Z:Nat→Prop) (T g:Nat) (s:Rf) (m:Msg) (w:World) (h:aF w0 Z w T g ⟨s,[]⟩) (hm:cn s.b s.t s.es=true) (_:cW s.b s.es=aQ s) (hi:s.b<m.ix∧m.ix≤1099511625728) (hpa:s.part.size≤524288) (hdz:m.d.size≤1024) :
 Rt prog 148 [.pointer (some ⟨g,0,none⟩),.agg (bT m).toArray] w (fun v w'=>v=.tuple #[]∧aF w0 Z w' T g (jy s m)):=by
 refine enter (n:=102) Tryz.func148 rfl rfl rfl (ao (ag (cj (v:=.agg _) rfl ?_)));intro b3 w1 E3 hb3 hk3;obtain ⟨wm,hwm⟩:∃ x,x=w1:=⟨_,rfl⟩
 have h3a:=h.at_ (Z':=fun k=>Z k∨k=b3) E3 (fun k hk=>by
  rcases hk with e | e
  ·exact ⟨Nat.lt_of_lt_of_le (h.zw k e) E3.size,.inl e⟩
  ·subst e;exact ⟨hk3.lt,.inr (by omega)⟩)
 obtain ⟨Z7,hZ7⟩:∃ Z7,Z7=fun k=>Z k∨k=b3:=⟨_,rfl⟩
 have h3:aF wm Z7 w1 T g ⟨s,[]⟩:=by
  rw [hZ7,hwm];exact h3a
 have hzi:∀ k,Z k→Z7 k:=fun k hk=>by rw [hZ7];exact .inl hk
 have hzb:Z7 b3:=by rw [hZ7];exact .inr rfl
 have hE3:ai w wm:=by rw [hwm];exact E3
 have hm9:Blk wm b3 39 (bT m).toArray:=by rw [hwm];exact hk3
 have hm3:=h3.kept hzb hm9;refine aq (ah (kf (G:=Rf) [5,6,7,8,9,10,11,12,13,14,15,16,17,18,19,20,21,22,23,24,25] (fun _=>[]) (fun p8 w'=>p8=pR s m∧p8.part.size≤524288∧aF wm Z7 w' T g ⟨p8,[]⟩) ?_ ?_))
 ·refine ao ?_;apply br 9 [(5,eqp _),(6,eqp _),(7,eqp _),(8,eqp _),(9,eqp _),(10,eqp (.int .i64 s.partOf)),(11,eqp _),(12,eqp (.int .i64 m.ix)),(13,eqp _)] (by repeat first | exact bN | refine bM ?_ | refine bB ?_) (by kernel_rfl) (by kernel_rfl) ⟨ae _,ae _,ae _,ae _,ae _,ae _,ae _,ae _,ae _,trivial⟩
  case hop=>
   constructor
   ·rintro-w3 D3;exact an (aC (v:=.pointer _) rfl) rfl
   constructor
   ·rintro-w4 D4;rintro _ rfl;exact an (av rfl) rfl
   constructor
   ·rintro-w5 D5;rintro _ rfl;exact an (aa ay rfl) rfl
   constructor
   ·rintro-w6 D6;rintro _ rfl;exact an (aa aw rfl) rfl
   constructor
   ·rintro-w7 D7;rintro _ rfl;exact an (aa eA rfl) rfl
   constructor
   ·rintro-w8 D8;rintro _ rfl;exact an (au ak rfl (by exact (show _=some (Value.int .i64 s.partOf) from (h3.from_ (ai.rfl_.next D8)).rd (fun _=>rfl)))) rfl
   constructor
   ·rintro-w9 D9;exact an (aa bW rfl) rfl
   constructor
   ·rintro-w10 D10;rintro _ rfl;exact an (au ak rfl (by exact (show _=some (Value.int .i64 m.ix) from (hm3.from_ (ai.rfl_.next D10)).rd 4 rfl))) rfl
   constructor
   ·rintro-w11 D11;rintro v11_10 rfl v11_12 rfl;exact an (cz rfl rfl) rfl
   exact trivial
  case hend=>
   intro w12 D12;rintro _ rfl _ rfl _ rfl _ rfl _ rfl v10 rfl _ rfl v12 rfl _ rfl;show St ..;refine aq (ah (aO rfl (fun Q13=>?_) (fun Q13=>?_)))
   ·replace Q13:=et Q13;replace Q13:=ea Q13;have hpm:s.partOf≠m.ix:=by simpa using Q13
    refine ag (mvp rfl (mvp rfl (ab (aa bW rfl) (ab (au ak rfl (by exact (show _=some (Value.int .i64 m.ix) from (hm3.from_ (ai.rfl_.next D12)).rd 4 rfl))) ?_))));refine ab (av rfl) (ab (aa ay rfl) (ab (aa aw rfl) (ab (aa eA rfl) (gU (s':=({ s with partOf:=m.ix }:Rf)) bh rfl rfl rfl (h3.from_ (ai.rfl_.next D12)) (fun _=>⟨by decide,rfl⟩) ⟨rfl,rfl,rfl,rfl,rfl,rfl⟩ ?_))));intro w14 h4;refine ab (av rfl) (ab (aa ay rfl) (ab (aa aw rfl) (ab (aa cg rfl) (gU (s':=({ s with partOf:=m.ix,part:=⟨#[]⟩ }:Rf)) gi rfl rfl rfl (h4.from_ ai.rfl_) (fun _=>⟨by decide,rfl⟩) ⟨rfl,rfl,rfl,rfl,rfl,rfl⟩ ?_))));intro w15 h5;refine aq ?_;refine cu ({ s with partOf:=m.ix,part:=⟨#[]⟩ }) trivial (by (iterate 21 refine bC rfl ?_);exact bP) ?_
    first
     |exact ⟨(xP hpm).symm,Nat.zero_le _,h5.from_ ai.rfl_⟩
     |exact ⟨(vW hpm).symm,hpa,h3.from_ ai.rfl_⟩
   replace Q13:=eu Q13;replace Q13:=d_ Q13;have hpm:s.partOf=m.ix:=by simpa using Q13
   refine aI ?_;refine cu (s) trivial (by (iterate 9 refine bC rfl ?_);exact bP) ?_
   first
    |exact ⟨(xP hpm).symm,Nat.zero_le _,h5.from_ (ai.rfl_.next D12)⟩
    |exact ⟨(vW hpm).symm,hpa,h3.from_ (ai.rfl_.next D12)⟩
 rintro p8 ρ16 w16 ⟨hp8,hpz,h6⟩;refine kf (G:=Bool) [26,27,28,29,30,31,32,33,34,35,36,37,38,39,40,41,42,43,44,45,46,47,48,49] (fun b=>[(4,.bool b)]) (fun b w'=>b=fP p8 m∧aF wm Z7 w' T g ⟨p8,[]⟩) ?_ ?_
 ·rcases rI p8 m with hf1 | ⟨hf1,hf2⟩ | ⟨hf1,hf2⟩
  ·have hfb:fP p8 m=false:=uW hf1;apply br 25 [(26,eqp _),(27,eqp (.int .i64 m.a)),(28,eqp _),(29,eqp _),(30,eqp _),(31,eqp _),(32,eqp _),(33,eqp (.string p8.part)),(34,eqp _),(35,eqp _),(36,eqp _),(37,eqp _),(38,eqp _),(39,eqp _),(40,eqp _),(41,eqp _),(42,eqp _),(43,eqp _),(44,eqp _),(45,eqp _),(46,eqp _),(47,eqp _),(48,eqp _),(49,eqp _),(4,eqp _)] (by repeat first | exact bN | refine bM ?_ | refine bB ?_) (by kernel_rfl) (by kernel_rfl) ⟨ae _,ae _,ae _,ae _,ae _,ae _,ae _,ae _,ae _,ae _,ae _,ae _,ae _,ae _,ae _,ae _,ae _,ae _,ae _,ae _,ae _,ae _,ae _,ae _,ae _,trivial⟩
   case hop=>
    constructor
    ·rintro-w18 D18;exact an (aa dd rfl) rfl
    constructor
    ·rintro-w19 D19;rintro _ rfl;exact an (au ak rfl (by exact (show _=some (Value.int .i64 m.a) from ((h6.kept hzb hm9).from_ (ai.rfl_.next D19)).rd 10 rfl))) rfl
    constructor
    ·rintro-w20 D20;exact an (aC (v:=.pointer _) rfl) rfl
    constructor
    ·rintro-w21 D21;rintro _ rfl;exact an (av rfl) rfl
    constructor
    ·rintro-w22 D22;rintro _ rfl;exact an (aa ay rfl) rfl
    constructor
    ·rintro-w23 D23;rintro _ rfl;exact an (aa aw rfl) rfl
    constructor
    ·rintro-w24 D24;rintro _ rfl;exact an (aa cg rfl) rfl
    constructor
    ·rintro-w25 D25;rintro _ rfl;exact an (au bQ rfl (by exact (show _=some (Value.string p8.part) from (h6.from_ (ai.rfl_.next D25)).rd (fun _=>rfl)))) rfl
    constructor
    ·rintro-w26 D26;rintro v26_33 rfl;exact an (dA (by kernel_rfl) rfl) rfl
    constructor
    ·rintro-w27 D27;rintro v27_27 rfl _ rfl;exact an (bL (bo rfl rfl) (beq_eq_false_iff_ne.2 hf1)) rfl
    constructor
    ·rintro-w28 D28;rintro _ rfl;exact an (aC (v:=.bool _) rfl) rfl
    constructor
    ·rintro-w29 D29;rintro _ rfl;exact bA rfl rfl rfl
    constructor
    ·rintro-w30 D30;rintro _ rfl _ rfl;exact bA rfl rfl rfl
    constructor
    ·rintro-w31 D31;rintro _ rfl _ rfl;exact bA rfl rfl rfl
    constructor
    ·rintro-w32 D32;rintro _ rfl _ rfl;exact bA rfl rfl rfl
    constructor
    ·rintro-w33 D33;rintro _ rfl _ rfl;exact bA rfl rfl rfl
    constructor
    ·rintro-w34 D34;rintro _ rfl _ rfl;exact bA rfl rfl rfl
    constructor
    ·rintro-w35 D35;rintro _ rfl _ rfl;exact bA rfl rfl rfl
    constructor
    ·rintro-w36 D36;rintro _ rfl;exact bA rfl rfl rfl
    constructor
    ·rintro-w37 D37;rintro _ rfl _ rfl;exact bA rfl rfl rfl
    constructor
    ·rintro-w38 D38;rintro _ rfl _ rfl;exact bA rfl rfl rfl
    constructor
    ·rintro-w39 D39;rintro _ rfl _ rfl _ rfl;exact bA rfl rfl rfl
    constructor
    ·rintro-w40 D40;rintro _ rfl _ rfl;exact bA rfl rfl rfl
    constructor
    ·rintro-w41 D41;rintro _ rfl _ rfl;exact an (aB (v:=.bool _) rfl rfl) rfl
    constructor
    ·rintro-w42 D42;rintro _ rfl;exact an (cS (v:=.bool _) rfl) rfl
    exact trivial
   case hend=>
    intro w43 D43;rintro _ rfl v27 rfl _ rfl _ rfl _ rfl _ rfl _ rfl v33 rfl _ rfl _ rfl _ rfl _ rfl _ rfl _ rfl _ rfl _ rfl _ rfl _ rfl _ rfl _ rfl _ rfl _ rfl _ rfl _ rfl _ rfl;show St ..;refine aq ?_;refine cu (_) ⟨rfl,trivial⟩ (by (iterate 25 refine bC rfl ?_);exact bP) ?_;exact ⟨hfb.symm,h6.from_ (ai.rfl_.next D43)⟩
  ·have hfb:fP p8 m=false:=x7 hf2;have hf3:¬ ((p8.part.size:Int)+(m.d.size:Int)≤524288):=by omega
   apply br 25 [(26,eqp _),(27,eqp (.int .i64 m.a)),(28,eqp _),(29,eqp _),(30,eqp _),(31,eqp _),(32,eqp _),(33,eqp (.string p8.part)),(34,eqp _),(35,eqp _),(36,eqp _),(37,eqp _),(38,eqp _),(39,eqp _),(40,eqp _),(41,eqp _),(42,eqp (.string p8.part)),(43,eqp _),(44,eqp _),(45,eqp (.string m.d)),(46,eqp _),(47,eqp (.int .i64 ((p8.part.size:Int)+(m.d.size:Int)))),(48,eqp _),(49,eqp _),(4,eqp _)] (by repeat first | exact bN | refine bM ?_ | refine bB ?_) (by kernel_rfl) (by kernel_rfl) ⟨ae _,ae _,ae _,ae _,ae _,ae _,ae _,ae _,ae _,ae _,ae _,ae _,ae _,ae _,ae _,ae _,ae _,ae _,ae _,ae _,ae _,ae _,ae _,ae _,ae _,trivial⟩
   case hop=>
    constructor
    ·rintro-w45 D45;exact an (aa dd rfl) rfl
    constructor
    ·rintro-w46 D46;rintro _ rfl;exact an (au ak rfl (by exact (show _=some (Value.int .i64 m.a) from ((h6.kept hzb hm9).from_ (ai.rfl_.next D46)).rd 10 rfl))) rfl
    constructor
    ·rintro-w47 D47;exact an (aC (v:=.pointer _) rfl) rfl
    constructor
    ·rintro-w48 D48;rintro _ rfl;exact an (av rfl) rfl
    constructor
    ·rintro-w49 D49;rintro _ rfl;exact an (aa ay rfl) rfl
    constructor
    ·rintro-w50 D50;rintro _ rfl;exact an (aa aw rfl) rfl
    constructor
    ·rintro-w51 D51;rintro _ rfl;exact an (aa cg rfl) rfl
    constructor
    ·rintro-w52 D52;rintro _ rfl;exact an (au bQ rfl (by exact (show _=some (Value.string p8.part) from (h6.from_ (ai.rfl_.next D52)).rd (fun _=>rfl)))) rfl
    constructor
    ·rintro-w53 D53;rintro v53_33 rfl;exact an (dA (by kernel_rfl) rfl) rfl
    constructor
    ·rintro-w54 D54;rintro v54_27 rfl _ rfl;exact an (dX (bo rfl rfl) (beq_iff_eq.2 hf1)) rfl
    constructor
    ·rintro-w55 D55;rintro _ rfl;exact an (aC (v:=.bool _) rfl) rfl
    constructor
    ·rintro-w56 D56;rintro _ rfl;exact aD rfl (aC (v:=.pointer _) rfl) rfl
    constructor
    ·rintro-w57 D57;rintro _ rfl _ rfl;exact aD rfl (av rfl) rfl
    constructor
    ·rintro-w58 D58;rintro _ rfl _ rfl;exact aD rfl (aa ay rfl) rfl
    constructor
    ·rintro-w59 D59;rintro _ rfl _ rfl;exact aD rfl (aa aw rfl) rfl
    constructor
    ·rintro-w60 D60;rintro _ rfl _ rfl;exact aD rfl (aa cg rfl) rfl
    constructor
    ·rintro-w61 D61;rintro _ rfl _ rfl;exact aD rfl (au bQ rfl (by exact (show _=some (Value.string p8.part) from (h6.from_ (ai.rfl_.next D61)).rd (fun _=>rfl)))) rfl
    constructor
    ·rintro-w62 D62;rintro _ rfl v62_42 rfl;exact aD rfl (dA (by kernel_rfl) rfl) rfl
    constructor
    ·rintro-w63 D63;rintro _ rfl;exact aD rfl (aa eO rfl) rfl
    constructor
    ·rintro-w64 D64;rintro _ rfl _ rfl;exact aD rfl (au bQ rfl (by exact (show _=some (Value.string m.d) from ((h6.kept hzb hm9).from_ (ai.rfl_.next D64)).rd 11 rfl))) rfl
    constructor
    ·rintro-w65 D65;rintro _ rfl v65_45 rfl;exact aD rfl (dA (by kernel_rfl) rfl) rfl
    constructor
    ·rintro-w66 D66;rintro _ rfl _ rfl _ rfl;exact aD rfl (cl rfl rfl (by omega)) rfl
    constructor
    ·rintro-w67 D67;rintro _ rfl v67_47 rfl;exact aD rfl (bL (fx rfl rfl) (decide_eq_false hf3)) rfl
    constructor
    ·rintro-w68 D68;rintro _ rfl _ rfl;exact an (aJ (v:=.bool _) rfl rfl) rfl
    constructor
    ·rintro-w69 D69;rintro _ rfl;exact an (cS (v:=.bool _) rfl) rfl
    exact trivial
   case hend=>
    intro w70 D70;rintro _ rfl v27 rfl _ rfl _ rfl _ rfl _ rfl _ rfl v33 rfl _ rfl _ rfl _ rfl _ rfl _ rfl _ rfl _ rfl _ rfl v42 rfl _ rfl _ rfl v45 rfl _ rfl v47 rfl _ rfl _ rfl _ rfl;show St ..;refine aq ?_;refine cu (_) ⟨rfl,trivial⟩ (by (iterate 25 refine bC rfl ?_);exact bP) ?_;exact ⟨hfb.symm,h6.from_ (ai.rfl_.next D70)⟩
  have hfb:fP p8 m=true:=rJ hf1 hf2;have hf3:(p8.part.size:Int)+(m.d.size:Int)≤524288:=by omega
  apply br 25 [(26,eqp _),(27,eqp (.int .i64 m.a)),(28,eqp _),(29,eqp _),(30,eqp _),(31,eqp _),(32,eqp _),(33,eqp (.string p8.part)),(34,eqp _),(35,eqp _),(36,eqp _),(37,eqp _),(38,eqp _),(39,eqp _),(40,eqp _),(41,eqp _),(42,eqp (.string p8.part)),(43,eqp _),(44,eqp _),(45,eqp (.string m.d)),(46,eqp _),(47,eqp (.int .i64 ((p8.part.size:Int)+(m.d.size:Int)))),(48,eqp _),(49,eqp _),(4,eqp _)] (by repeat first | exact bN | refine bM ?_ | refine bB ?_) (by kernel_rfl) (by kernel_rfl) ⟨ae _,ae _,ae _,ae _,ae _,ae _,ae _,ae _,ae _,ae _,ae _,ae _,ae _,ae _,ae _,ae _,ae _,ae _,ae _,ae _,ae _,ae _,ae _,ae _,ae _,trivial⟩
  case hop=>
   constructor
   ·rintro-w72 D72;exact an (aa dd rfl) rfl
   constructor
   ·rintro-w73 D73;rintro _ rfl;exact an (au ak rfl (by exact (show _=some (Value.int .i64 m.a) from ((h6.kept hzb hm9).from_ (ai.rfl_.next D73)).rd 10 rfl))) rfl
   constructor
   ·rintro-w74 D74;exact an (aC (v:=.pointer _) rfl) rfl
   constructor
   ·rintro-w75 D75;rintro _ rfl;exact an (av rfl) rfl
   constructor
   ·rintro-w76 D76;rintro _ rfl;exact an (aa ay rfl) rfl
   constructor
   ·rintro-w77 D77;rintro _ rfl;exact an (aa aw rfl) rfl
   constructor
   ·rintro-w78 D78;rintro _ rfl;exact an (aa cg rfl) rfl
   constructor
   ·rintro-w79 D79;rintro _ rfl;exact an (au bQ rfl (by exact (show _=some (Value.string p8.part) from (h6.from_ (ai.rfl_.next D79)).rd (fun _=>rfl)))) rfl
   constructor
   ·rintro-w80 D80;rintro v80_33 rfl;exact an (dA (by kernel_rfl) rfl) rfl
   constructor
   ·rintro-w81 D81;rintro v81_27 rfl _ rfl;exact an (dX (bo rfl rfl) (beq_iff_eq.2 hf1)) rfl
   constructor
   ·rintro-w82 D82;rintro _ rfl;exact an (aC (v:=.bool _) rfl) rfl
   constructor
   ·rintro-w83 D83;rintro _ rfl;exact aD rfl (aC (v:=.pointer _) rfl) rfl
   constructor
   ·rintro-w84 D84;rintro _ rfl _ rfl;exact aD rfl (av rfl) rfl
   constructor
   ·rintro-w85 D85;rintro _ rfl _ rfl;exact aD rfl (aa ay rfl) rfl
   constructor
   ·rintro-w86 D86;rintro _ rfl _ rfl;exact aD rfl (aa aw rfl) rfl
   constructor
   ·rintro-w87 D87;rintro _ rfl _ rfl;exact aD rfl (aa cg rfl) rfl
   constructor
   ·rintro-w88 D88;rintro _ rfl _ rfl;exact aD rfl (au bQ rfl (by exact (show _=some (Value.string p8.part) from (h6.from_ (ai.rfl_.next D88)).rd (fun _=>rfl)))) rfl
   constructor
   ·rintro-w89 D89;rintro _ rfl v89_42 rfl;exact aD rfl (dA (by kernel_rfl) rfl) rfl
   constructor
   ·rintro-w90 D90;rintro _ rfl;exact aD rfl (aa eO rfl) rfl
   constructor
   ·rintro-w91 D91;rintro _ rfl _ rfl;exact aD rfl (au bQ rfl (by exact (show _=some (Value.string m.d) from ((h6.kept hzb hm9).from_ (ai.rfl_.next D91)).rd 11 rfl))) rfl
   constructor
   ·rintro-w92 D92;rintro _ rfl v92_45 rfl;exact aD rfl (dA (by kernel_rfl) rfl) rfl
   constructor
   ·rintro-w93 D93;rintro _ rfl _ rfl _ rfl;exact aD rfl (cl rfl rfl (by omega)) rfl
   constructor
   ·rintro-w94 D94;rintro _ rfl v94_47 rfl;exact aD rfl (dX (fx rfl rfl) (decide_eq_true hf3)) rfl
   constructor
   ·rintro-w95 D95;rintro _ rfl _ rfl;exact an (aJ (v:=.bool _) rfl rfl) rfl
   constructor
   ·rintro-w96 D96;rintro _ rfl;exact an (cS (v:=.bool _) rfl) rfl
   exact trivial
  case hend=>
   intro w97 D97;rintro _ rfl v27 rfl _ rfl _ rfl _ rfl _ rfl _ rfl v33 rfl _ rfl _ rfl _ rfl _ rfl _ rfl _ rfl _ rfl _ rfl v42 rfl _ rfl _ rfl v45 rfl _ rfl v47 rfl _ rfl _ rfl _ rfl;show St ..;refine aq ?_;refine cu (_) ⟨rfl,trivial⟩ (by (iterate 25 refine bC rfl ?_);exact bP) ?_;exact ⟨hfb.symm,h6.from_ (ai.rfl_.next D97)⟩
 rintro fb ρ98 w98 ⟨hfb,h7⟩;refine kf (G:=Rf) [50,51,52,53,54,55,56,57,58,59,60,61,62,63] (fun _=>[(4,.bool fb)]) (fun u8 w'=>u8=qR p8 m fb∧aF wm Z7 w' T g ⟨u8,[]⟩) ?_ ?_
 ·refine ao (ag (mvb rfl (aq (ah (aO rfl (fun Q99=>?_) (fun Q99=>?_))))))
  ·apply br 9 [(51,eqp _),(52,eqp _),(53,eqp _),(54,eqp _),(55,eqp _),(56,eqp (.string p8.part)),(57,eqp _),(58,eqp (.string m.d)),(59,eqp (.string (p8.part++m.d)))] (by repeat first | exact bN | refine bM ?_ | refine bB ?_) (by kernel_rfl) (by kernel_rfl) ⟨ae _,ae _,ae _,ae _,ae _,ae _,ae _,ae _,ae _,trivial⟩
   case hop=>
    constructor
    ·rintro-w101 D101;exact an (aC (v:=.pointer _) rfl) rfl
    constructor
    ·rintro-w102 D102;rintro _ rfl;exact an (av rfl) rfl
    constructor
    ·rintro-w103 D103;rintro _ rfl;exact an (aa ay rfl) rfl
    constructor
    ·rintro-w104 D104;rintro _ rfl;exact an (aa aw rfl) rfl
    constructor
    ·rintro-w105 D105;rintro _ rfl;exact an (aa cg rfl) rfl
    constructor
    ·rintro-w106 D106;rintro _ rfl;exact an (au bQ rfl (by exact (show _=some (Value.string p8.part) from (h7.from_ (ai.rfl_.next D106)).rd (fun _=>rfl)))) rfl
    constructor
    ·rintro-w107 D107;exact an (aa eO rfl) rfl
    constructor
    ·rintro-w108 D108;rintro _ rfl;exact an (au bQ rfl (by exact (show _=some (Value.string m.d) from ((h7.kept hzb hm9).from_ (ai.rfl_.next D108)).rd 11 rfl))) rfl
    constructor
    ·rintro-w109 D109;rintro v109_56 rfl v109_58 rfl;exact an (sv rfl rfl (by omega)) rfl
    exact trivial
   case hend=>
    intro w110 D110;rintro _ rfl _ rfl _ rfl _ rfl _ rfl v56 rfl _ rfl v58 rfl v59 rfl;show St ..;refine ab (av rfl) (ab (aa ay rfl) (ab (aa aw rfl) (ab (aa cg rfl) (gU (s':=({ p8 with part:=p8.part++m.d }:Rf)) gi rfl rfl rfl (h7.from_ (ai.rfl_.next D110)) (fun _=>⟨by decide,rfl⟩) ⟨rfl,rfl,rfl,rfl,rfl,rfl⟩ ?_))));intro w111 h8;refine aq ?_;refine cu ({ p8 with part:=p8.part++m.d }) ⟨rfl,trivial⟩ (by (iterate 14 refine bC rfl ?_);exact bP) ?_
    first
     |(subst_vars;exact ⟨by simp_all [qR],h8.from_ ai.rfl_⟩)
     |(subst_vars;exact ⟨by simp_all [qR],h7.from_ ai.rfl_⟩)
  refine aI ?_;refine cu (p8) ⟨rfl,trivial⟩ (by (iterate 1 refine bC rfl ?_);exact bP) ?_
  first
   |(subst_vars;exact ⟨by simp_all [qR],h8.from_ ai.rfl_⟩)
   |(subst_vars;exact ⟨by simp_all [qR],h7.from_ ai.rfl_⟩)
 rintro u8 ρ112 w112 ⟨hu8,h9⟩;obtain ⟨tgA,aA,OA,ocA,LA,hsA⟩:=h9.ex;obtain rfl:=hsA.nilL;refine ao (ao (ag (mvb rfl (ab (cE rfl) (mvb rfl (yk (t:=66) rfl (fun Q113=>?_) (fun Q113=>?_)))))))
 ·refine ar rfl rfl (ar rfl rfl (ar rfl rfl (ab (aJ (v:=.bool _) rfl rfl) (aq (ah (aW rfl (ao ?_)))))));apply eE [(0,71,fun _ v _=>v=_),(1,72,fun _ v _=>v=_),(2,73,fun S v w9=>S 15=false→(eqp (.int .i64 m.f)) v w9),(3,74,fun _ v _=>v=_),(4,75,fun S v w9=>S 15=false→(eqp (.int .i64 m.ix)) v w9),(5,76,fun _ v _=>v=_),(6,77,fun _ v _=>v=_),(7,78,fun _ v _=>v=_),(8,79,fun _ v _=>v=_),(9,80,fun _ v _=>v=_),(10,81,fun S v w9=>S 15=false→(eqp (.string u8.part)) v w9),(11,82,fun _ v _=>v=_),(12,83,fun _ v _=>v=_),(13,84,fun S v w9=>S 15=false→(eqp (.int .i64 m.rd)) v w9),(14,85,fun S v w9=>S 15=false→(eqp (.agg (bT ({ zM with k:=6,ix:=m.ix,a:=(u8.part.size:Int),rd:=m.rd }:Msg)).toArray)) v w9),(15,86,fun _ v _=>v=_)] [15] (fun S w'=>(S 15=false→ai w112 w')∧(S 15=true→aF wm Z7 w' T g (Sp.tell ⟨u8,[]⟩ { ({ zM with k:=6,ix:=m.ix,a:=(u8.part.size:Int),rd:=m.rd }:Msg) with t:=m.f }))) (by kernel_rfl) (by kernel_rfl) rfl rfl ⟨fun _ _ _ _ _ _ _ h=>h,fun _ _ _ _ _ _ _ h=>h,fun S i v w1 w2 hq hF h h0=>(ae _) v w1 w2 hF (h (en h0)),fun _ _ _ _ _ _ _ h=>h,fun S i v w1 w2 hq hF h h0=>(ae _) v w1 w2 hF (h (en h0)),fun _ _ _ _ _ _ _ h=>h,fun _ _ _ _ _ _ _ h=>h,fun _ _ _ _ _ _ _ h=>h,fun _ _ _ _ _ _ _ h=>h,fun _ _ _ _ _ _ _ h=>h,fun S i v w1 w2 hq hF h h0=>(ae _) v w1 w2 hF (h (en h0)),fun _ _ _ _ _ _ _ h=>h,fun _ _ _ _ _ _ _ h=>h,fun S i v w1 w2 hq hF h h0=>(ae _) v w1 w2 hF (h (en h0)),fun S i v w1 w2 hq hF h h0=>(ae _) v w1 w2 hF (h (en h0)),fun _ _ _ _ _ _ _ h=>h,trivial⟩ (fun S i w1 w2 hq hF h=>⟨fun h0=>(h.1 (en h0)).next hF,fun h1=>(fun h=>h.from_ hF) (h.2 (jn (show 15≠i by rintro rfl;exact absurd hq (by decide)) h1))⟩) ⟨fun _=>ai.rfl_.d1,fun h=>by cases h⟩
  case hstep=>
   constructor
   ·rintro S L' w114 hU hmo hme hI hM hC hS ⟨-⟩;have hS0:S 15=false:=(af hC (j:=15) rfl (by kernel_rfl) hS);have hM114:=hM.1 hS0;have e0:=hI.1 0 (dy rfl);exact az [(0,_)] hU hmo hme hI hM (.head _) rfl rfl (by kernel_rfl) ⟨e0,trivial⟩ (aC (v:=.pointer _) rfl) ai.rfl_ (rfl)
   constructor
   ·rintro S L' w115 hU hmo hme hI hM hC hS ⟨-⟩;have hS0:S 15=false:=(af hC (j:=15) rfl (by kernel_rfl) (af hC (j:=2) rfl (by kernel_rfl) hS));have hM115:=hM.1 hS0;have e3:=hI.1 3 (dy rfl);exact az [(3,_)] hU hmo hme hI hM (.tail _ (.head _)) rfl rfl (by kernel_rfl) ⟨e3,trivial⟩ (aa bx rfl) ai.rfl_ (rfl)
   constructor
   ·rintro S L' w116 hU hmo hme hI hM hC hS ⟨d1,-⟩;have hS0:S 15=false:=(af hC (j:=15) rfl (by kernel_rfl) hS);have hM116:=hM.1 hS0;obtain ⟨v116_72,e72,h72⟩:=hI.get (i:=1) (.tail _ (.head _)) d1;obtain rfl:=h72;exact az [(72,_)] hU hmo hme hI hM (gM 2 rfl) rfl rfl (by kernel_rfl) ⟨e72,trivial⟩ (au ak rfl (by exact (show _=some (Value.int .i64 m.f) from ((h9.kept hzb hm9).from_ (ai.rfl_.next hM116)).rd 1 rfl))) ai.rfl_ (fun _=>rfl)
   constructor
   ·rintro S L' w117 hU hmo hme hI hM hC hS ⟨-⟩;have hS0:S 15=false:=(af hC (j:=15) rfl (by kernel_rfl) (af hC (j:=14) rfl (by kernel_rfl) (af hC (j:=4) rfl (by kernel_rfl) hS)));have hM117:=hM.1 hS0;have e3:=hI.1 3 (dy rfl);exact az [(3,_)] hU hmo hme hI hM (gM 3 rfl) rfl rfl (by kernel_rfl) ⟨e3,trivial⟩ (aa bW rfl) ai.rfl_ (rfl)
   constructor
   ·rintro S L' w118 hU hmo hme hI hM hC hS ⟨d3,-⟩;have hS0:S 15=false:=(af hC (j:=15) rfl (by kernel_rfl) (af hC (j:=14) rfl (by kernel_rfl) hS));have hM118:=hM.1 hS0;obtain ⟨v118_74,e74,h74⟩:=hI.get (i:=3) (gM 3 rfl) d3;obtain rfl:=h74;exact az [(74,_)] hU hmo hme hI hM (gM 4 rfl) rfl rfl (by kernel_rfl) ⟨e74,trivial⟩ (au ak rfl (by exact (show _=some (Value.int .i64 m.ix) from ((h9.kept hzb hm9).from_ (ai.rfl_.next hM118)).rd 4 rfl))) ai.rfl_ (fun _=>rfl)
   constructor
   ·rintro S L' w119 hU hmo hme hI hM hC hS ⟨-⟩;have hS0:S 15=false:=(af hC (j:=15) rfl (by kernel_rfl) (af hC (j:=14) rfl (by kernel_rfl) (af hC (j:=11) rfl (by kernel_rfl) (af hC (j:=10) rfl (by kernel_rfl) (af hC (j:=9) rfl (by kernel_rfl) (af hC (j:=8) rfl (by kernel_rfl) (af hC (j:=7) rfl (by kernel_rfl) (af hC (j:=6) rfl (by kernel_rfl) hS))))))));have hM119:=hM.1 hS0;have e0:=hI.1 0 (dy rfl);exact az [(0,_)] hU hmo hme hI hM (gM 5 rfl) rfl rfl (by kernel_rfl) ⟨e0,trivial⟩ (aC (v:=.pointer _) rfl) ai.rfl_ (rfl)
   constructor
   ·rintro S L' w120 hU hmo hme hI hM hC hS ⟨d5,-⟩;have hS0:S 15=false:=(af hC (j:=15) rfl (by kernel_rfl) (af hC (j:=14) rfl (by kernel_rfl) (af hC (j:=11) rfl (by kernel_rfl) (af hC (j:=10) rfl (by kernel_rfl) (af hC (j:=9) rfl (by kernel_rfl) (af hC (j:=8) rfl (by kernel_rfl) (af hC (j:=7) rfl (by kernel_rfl) hS)))))));have hM120:=hM.1 hS0;obtain ⟨v120_76,e76,h76⟩:=hI.get (i:=5) (gM 5 rfl) d5;obtain rfl:=h76;exact az [(76,_)] hU hmo hme hI hM (gM 6 rfl) rfl rfl (by kernel_rfl) ⟨e76,trivial⟩ (av rfl) ai.rfl_ (rfl)
   constructor
   ·rintro S L' w121 hU hmo hme hI hM hC hS ⟨d6,-⟩;have hS0:S 15=false:=(af hC (j:=15) rfl (by kernel_rfl) (af hC (j:=14) rfl (by kernel_rfl) (af hC (j:=11) rfl (by kernel_rfl) (af hC (j:=10) rfl (by kernel_rfl) (af hC (j:=9) rfl (by kernel_rfl) (af hC (j:=8) rfl (by kernel_rfl) hS))))));have hM121:=hM.1 hS0;obtain ⟨v121_77,e77,h77⟩:=hI.get (i:=6) (gM 6 rfl) d6;obtain rfl:=h77;exact az [(77,_)] hU hmo hme hI hM (gM 7 rfl) rfl rfl (by kernel_rfl) ⟨e77,trivial⟩ (aa ay rfl) ai.rfl_ (rfl)
   constructor
   ·rintro S L' w122 hU hmo hme hI hM hC hS ⟨d7,-⟩;have hS0:S 15=false:=(af hC (j:=15) rfl (by kernel_rfl) (af hC (j:=14) rfl (by kernel_rfl) (af hC (j:=11) rfl (by kernel_rfl) (af hC (j:=10) rfl (by kernel_rfl) (af hC (j:=9) rfl (by kernel_rfl) hS)))));have hM122:=hM.1 hS0;obtain ⟨v122_78,e78,h78⟩:=hI.get (i:=7) (gM 7 rfl) d7;obtain rfl:=h78;exact az [(78,_)] hU hmo hme hI hM (gM 8 rfl) rfl rfl (by kernel_rfl) ⟨e78,trivial⟩ (aa aw rfl) ai.rfl_ (rfl)
   constructor
   ·rintro S L' w123 hU hmo hme hI hM hC hS ⟨d8,-⟩;have hS0:S 15=false:=(af hC (j:=15) rfl (by kernel_rfl) (af hC (j:=14) rfl (by kernel_rfl) (af hC (j:=11) rfl (by kernel_rfl) (af hC (j:=10) rfl (by kernel_rfl) hS))));have hM123:=hM.1 hS0;obtain ⟨v123_79,e79,h79⟩:=hI.get (i:=8) (gM 8 rfl) d8;obtain rfl:=h79;exact az [(79,_)] hU hmo hme hI hM (gM 9 rfl) rfl rfl (by kernel_rfl) ⟨e79,trivial⟩ (aa cg rfl) ai.rfl_ (rfl)
   constructor
   ·rintro S L' w124 hU hmo hme hI hM hC hS ⟨d9,-⟩;have hS0:S 15=false:=(af hC (j:=15) rfl (by kernel_rfl) (af hC (j:=14) rfl (by kernel_rfl) (af hC (j:=11) rfl (by kernel_rfl) hS)));have hM124:=hM.1 hS0;obtain ⟨v124_80,e80,h80⟩:=hI.get (i:=9) (gM 9 rfl) d9;obtain rfl:=h80;exact az [(80,_)] hU hmo hme hI hM (gM 10 rfl) rfl rfl (by kernel_rfl) ⟨e80,trivial⟩ (au bQ rfl (by exact (show _=some (Value.string u8.part) from (h9.from_ (ai.rfl_.next hM124)).rd (fun _=>rfl)))) ai.rfl_ (fun _=>rfl)
   constructor
   ·rintro S L' w125 hU hmo hme hI hM hC hS ⟨d10,-⟩;have hS0:S 15=false:=(af hC (j:=15) rfl (by kernel_rfl) (af hC (j:=14) rfl (by kernel_rfl) hS));have hM125:=hM.1 hS0;obtain ⟨v125_81,e81,h81⟩:=hI.get (i:=10) (gM 10 rfl) d10;obtain rfl:=h81 hS0;exact az [(81,_)] hU hmo hme hI hM (gM 11 rfl) rfl rfl (by kernel_rfl) ⟨e81,trivial⟩ (dA (by kernel_rfl) rfl) ai.rfl_ (rfl)
   constructor
   ·rintro S L' w126 hU hmo hme hI hM hC hS ⟨-⟩;have hS0:S 15=false:=(af hC (j:=15) rfl (by kernel_rfl) (af hC (j:=14) rfl (by kernel_rfl) (af hC (j:=13) rfl (by kernel_rfl) hS)));have hM126:=hM.1 hS0;have e3:=hI.1 3 (dy rfl);exact az [(3,_)] hU hmo hme hI hM (gM 12 rfl) rfl rfl (by kernel_rfl) ⟨e3,trivial⟩ (aa dg rfl) ai.rfl_ (rfl)
   constructor
   ·rintro S L' w127 hU hmo hme hI hM hC hS ⟨d12,-⟩;have hS0:S 15=false:=(af hC (j:=15) rfl (by kernel_rfl) (af hC (j:=14) rfl (by kernel_rfl) hS));have hM127:=hM.1 hS0;obtain ⟨v127_83,e83,h83⟩:=hI.get (i:=12) (gM 12 rfl) d12;obtain rfl:=h83;exact az [(83,_)] hU hmo hme hI hM (gM 13 rfl) rfl rfl (by kernel_rfl) ⟨e83,trivial⟩ (au ak rfl (by exact (show _=some (Value.int .i64 m.rd) from ((h9.kept hzb hm9).from_ (ai.rfl_.next hM127)).rd 7 rfl))) ai.rfl_ (fun _=>rfl)
   constructor
   ·rintro S L' w128 hU hmo hme hI hM hC hS ⟨d4,d11,d13,-⟩;have hS0:S 15=false:=(af hC (j:=15) rfl (by kernel_rfl) hS);have hM128:=hM.1 hS0;obtain ⟨v128_75,e75,h75⟩:=hI.get (i:=4) (gM 4 rfl) d4;obtain rfl:=h75 hS0;obtain ⟨v128_82,e82,h82⟩:=hI.get (i:=11) (gM 11 rfl) d11;obtain rfl:=h82;obtain ⟨v128_84,e84,h84⟩:=hI.get (i:=13) (gM 13 rfl) d13;obtain rfl:=h84 hS0;exact az [(75,_),(82,_),(84,_)] hU hmo hme hI hM (gM 14 rfl) rfl rfl (by kernel_rfl) ⟨e75,e82,e84,trivial⟩ (dt (l:=[(0,.const (.int .i64 6)),(4,.tmp 75),(10,.tmp 82),(7,.tmp 84)]) (fc _ _ _)) ai.rfl_ (fun _=>rfl)
   constructor
   ·rintro S L' w129 hU hmo hme hI hM hC hS ⟨d0,d2,d14,-⟩;have hS0:S 15=false:=hS;have hM129:=hM.1 hS0;obtain ⟨v129_71,e71,h71⟩:=hI.get (i:=0) (.head _) d0;obtain rfl:=h71;obtain ⟨v129_73,e73,h73⟩:=hI.get (i:=2) (gM 2 rfl) d2;obtain rfl:=h73 hS0;obtain ⟨v129_85,e85,h85⟩:=hI.get (i:=14) (gM 14 rfl) d14;obtain rfl:=h85 hS0;refine df (al:=[.tmp 71,.tmp 73,.tmp 85]) [(71,_),(73,_),(85,_)] hU hI (gM 15 rfl) (by kernel_rfl) ⟨e71,e73,e85,trivial⟩ fi ((ka wm Z7 T g ⟨u8,[]⟩ _ (h9.from_ (ai.rfl_.next hM129)) _ _ _ _ _ (hsA.from_ (ai.rfl_.next hM129)) (Nat.zero_le _) ({ zM with k:=6,ix:=m.ix,a:=(u8.part.size:Int),rd:=m.rd }:Msg) m.f ⟨dB,Col.none⟩).mono ?_);rintro v9 w2 ⟨rfl,hS2⟩;exact ⟨⟨fun h0=>(by rw [dS] at h0;cases h0),fun _=>hS2⟩,rfl,⟨fun _ _ _ h=>h,fun _ _ _ h=>h,fun _ _ _ _ h0=>(by rw [dS] at h0;cases h0),fun _ _ _ h=>h,fun _ _ _ _ h0=>(by rw [dS] at h0;cases h0),fun _ _ _ h=>h,fun _ _ _ h=>h,fun _ _ _ h=>h,fun _ _ _ h=>h,fun _ _ _ h=>h,fun _ _ _ _ h0=>(by rw [dS] at h0;cases h0),fun _ _ _ h=>h,fun _ _ _ h=>h,fun _ _ _ _ h0=>(by rw [dS] at h0;cases h0),fun _ _ _ _ h0=>(by rw [dS] at h0;cases h0),fun _ _ _ h=>h,trivial⟩⟩
   exact trivial
  case hend=>
   intro w130 hM;obtain hS9:=hM.2 rfl;rintro v130_71 rfl v130_72 rfl v130_73-v130_74 rfl v130_75-v130_76 rfl v130_77 rfl v130_78 rfl v130_79 rfl v130_80 rfl v130_81-v130_82 rfl v130_83 rfl v130_84-v130_85-v130_86 rfl;refine dY (ah (aG (aH (dU rfl ?_))));rw [oR hp8 hfb hu8 (by cases fb <;> simp_all)];exact ⟨rfl,h.back hE3 (hS9.from_ ai.rfl_) hzi⟩
 refine aj rfl (ab (aa jh rfl) (aj rfl (ab (au im rfl (by exact (show _=some (Value.bool m.dn) from ((h9.kept hzb hm9).from_ ai.rfl_).rd 12 rfl))) ?_)));refine aj rfl (ab (cE rfl) (ab (aB (v:=.bool _) rfl rfl) (aq (ah (yQ rfl (fun Q131=>?_) (fun Q131=>?_))))))
 ·refine ao ?_;apply eE [(0,71,fun _ v _=>v=_),(1,72,fun _ v _=>v=_),(2,73,fun S v w9=>S 15=false→(eqp (.int .i64 m.f)) v w9),(3,74,fun _ v _=>v=_),(4,75,fun S v w9=>S 15=false→(eqp (.int .i64 m.ix)) v w9),(5,76,fun _ v _=>v=_),(6,77,fun _ v _=>v=_),(7,78,fun _ v _=>v=_),(8,79,fun _ v _=>v=_),(9,80,fun _ v _=>v=_),(10,81,fun S v w9=>S 15=false→(eqp (.string u8.part)) v w9),(11,82,fun _ v _=>v=_),(12,83,fun _ v _=>v=_),(13,84,fun S v w9=>S 15=false→(eqp (.int .i64 m.rd)) v w9),(14,85,fun S v w9=>S 15=false→(eqp (.agg (bT ({ zM with k:=6,ix:=m.ix,a:=(u8.part.size:Int),rd:=m.rd }:Msg)).toArray)) v w9),(15,86,fun _ v _=>v=_)] [15] (fun S w'=>(S 15=false→ai w112 w')∧(S 15=true→aF wm Z7 w' T g (Sp.tell ⟨u8,[]⟩ { ({ zM with k:=6,ix:=m.ix,a:=(u8.part.size:Int),rd:=m.rd }:Msg) with t:=m.f }))) (by kernel_rfl) (by kernel_rfl) rfl rfl ⟨fun _ _ _ _ _ _ _ h=>h,fun _ _ _ _ _ _ _ h=>h,fun S i v w1 w2 hq hF h h0=>(ae _) v w1 w2 hF (h (en h0)),fun _ _ _ _ _ _ _ h=>h,fun S i v w1 w2 hq hF h h0=>(ae _) v w1 w2 hF (h (en h0)),fun _ _ _ _ _ _ _ h=>h,fun _ _ _ _ _ _ _ h=>h,fun _ _ _ _ _ _ _ h=>h,fun _ _ _ _ _ _ _ h=>h,fun _ _ _ _ _ _ _ h=>h,fun S i v w1 w2 hq hF h h0=>(ae _) v w1 w2 hF (h (en h0)),fun _ _ _ _ _ _ _ h=>h,fun _ _ _ _ _ _ _ h=>h,fun S i v w1 w2 hq hF h h0=>(ae _) v w1 w2 hF (h (en h0)),fun S i v w1 w2 hq hF h h0=>(ae _) v w1 w2 hF (h (en h0)),fun _ _ _ _ _ _ _ h=>h,trivial⟩ (fun S i w1 w2 hq hF h=>⟨fun h0=>(h.1 (en h0)).next hF,fun h1=>(fun h=>h.from_ hF) (h.2 (jn (show 15≠i by rintro rfl;exact absurd hq (by decide)) h1))⟩) ⟨fun _=>ai.rfl_.d1,fun h=>by cases h⟩
  case hstep=>
   constructor
   ·rintro S L' w132 hU hmo hme hI hM hC hS ⟨-⟩;have hS0:S 15=false:=(af hC (j:=15) rfl (by kernel_rfl) hS);have hM132:=hM.1 hS0;have e0:=hI.1 0 (dy rfl);exact az [(0,_)] hU hmo hme hI hM (.head _) rfl rfl (by kernel_rfl) ⟨e0,trivial⟩ (aC (v:=.pointer _) rfl) ai.rfl_ (rfl)
   constructor
   ·rintro S L' w133 hU hmo hme hI hM hC hS ⟨-⟩;have hS0:S 15=false:=(af hC (j:=15) rfl (by kernel_rfl) (af hC (j:=2) rfl (by kernel_rfl) hS));have hM133:=hM.1 hS0;have e3:=hI.1 3 (dy rfl);exact az [(3,_)] hU hmo hme hI hM (.tail _ (.head _)) rfl rfl (by kernel_rfl) ⟨e3,trivial⟩ (aa bx rfl) ai.rfl_ (rfl)
   constructor
   ·rintro S L' w134 hU hmo hme hI hM hC hS ⟨d1,-⟩;have hS0:S 15=false:=(af hC (j:=15) rfl (by kernel_rfl) hS);have hM134:=hM.1 hS0;obtain ⟨v134_72,e72,h72⟩:=hI.get (i:=1) (.tail _ (.head _)) d1;obtain rfl:=h72;exact az [(72,_)] hU hmo hme hI hM (gM 2 rfl) rfl rfl (by kernel_rfl) ⟨e72,trivial⟩ (au ak rfl (by exact (show _=some (Value.int .i64 m.f) from ((h9.kept hzb hm9).from_ (ai.rfl_.next hM134)).rd 1 rfl))) ai.rfl_ (fun _=>rfl)
   constructor
   ·rintro S L' w135 hU hmo hme hI hM hC hS ⟨-⟩;have hS0:S 15=false:=(af hC (j:=15) rfl (by kernel_rfl) (af hC (j:=14) rfl (by kernel_rfl) (af hC (j:=4) rfl (by kernel_rfl) hS)));have hM135:=hM.1 hS0;have e3:=hI.1 3 (dy rfl);exact az [(3,_)] hU hmo hme hI hM (gM 3 rfl) rfl rfl (by kernel_rfl) ⟨e3,trivial⟩ (aa bW rfl) ai.rfl_ (rfl)
   constructor
   ·rintro S L' w136 hU hmo hme hI hM hC hS ⟨d3,-⟩;have hS0:S 15=false:=(af hC (j:=15) rfl (by kernel_rfl) (af hC (j:=14) rfl (by kernel_rfl) hS));have hM136:=hM.1 hS0;obtain ⟨v136_74,e74,h74⟩:=hI.get (i:=3) (gM 3 rfl) d3;obtain rfl:=h74;exact az [(74,_)] hU hmo hme hI hM (gM 4 rfl) rfl rfl (by kernel_rfl) ⟨e74,trivial⟩ (au ak rfl (by exact (show _=some (Value.int .i64 m.ix) from ((h9.kept hzb hm9).from_ (ai.rfl_.next hM136)).rd 4 rfl))) ai.rfl_ (fun _=>rfl)
   constructor
   ·rintro S L' w137 hU hmo hme hI hM hC hS ⟨-⟩;have hS0:S 15=false:=(af hC (j:=15) rfl (by kernel_rfl) (af hC (j:=14) rfl (by kernel_rfl) (af hC (j:=11) rfl (by kernel_rfl) (af hC (j:=10) rfl (by kernel_rfl) (af hC (j:=9) rfl (by kernel_rfl) (af hC (j:=8) rfl (by kernel_rfl) (af hC (j:=7) rfl (by kernel_rfl) (af hC (j:=6) rfl (by kernel_rfl) hS))))))));have hM137:=hM.1 hS0;have e0:=hI.1 0 (dy rfl);exact az [(0,_)] hU hmo hme hI hM (gM 5 rfl) rfl rfl (by kernel_rfl) ⟨e0,trivial⟩ (aC (v:=.pointer _) rfl) ai.rfl_ (rfl)
   constructor
   ·rintro S L' w138 hU hmo hme hI hM hC hS ⟨d5,-⟩;have hS0:S 15=false:=(af hC (j:=15) rfl (by kernel_rfl) (af hC (j:=14) rfl (by kernel_rfl) (af hC (j:=11) rfl (by kernel_rfl) (af hC (j:=10) rfl (by kernel_rfl) (af hC (j:=9) rfl (by kernel_rfl) (af hC (j:=8) rfl (by kernel_rfl) (af hC (j:=7) rfl (by kernel_rfl) hS)))))));have hM138:=hM.1 hS0;obtain ⟨v138_76,e76,h76⟩:=hI.get (i:=5) (gM 5 rfl) d5;obtain rfl:=h76;exact az [(76,_)] hU hmo hme hI hM (gM 6 rfl) rfl rfl (by kernel_rfl) ⟨e76,trivial⟩ (av rfl) ai.rfl_ (rfl)
   constructor
   ·rintro S L' w139 hU hmo hme hI hM hC hS ⟨d6,-⟩;have hS0:S 15=false:=(af hC (j:=15) rfl (by kernel_rfl) (af hC (j:=14) rfl (by kernel_rfl) (af hC (j:=11) rfl (by kernel_rfl) (af hC (j:=10) rfl (by kernel_rfl) (af hC (j:=9) rfl (by kernel_rfl) (af hC (j:=8) rfl (by kernel_rfl) hS))))));have hM139:=hM.1 hS0;obtain ⟨v139_77,e77,h77⟩:=hI.get (i:=6) (gM 6 rfl) d6;obtain rfl:=h77;exact az [(77,_)] hU hmo hme hI hM (gM 7 rfl) rfl rfl (by kernel_rfl) ⟨e77,trivial⟩ (aa ay rfl) ai.rfl_ (rfl)
   constructor
   ·rintro S L' w140 hU hmo hme hI hM hC hS ⟨d7,-⟩;have hS0:S 15=false:=(af hC (j:=15) rfl (by kernel_rfl) (af hC (j:=14) rfl (by kernel_rfl) (af hC (j:=11) rfl (by kernel_rfl) (af hC (j:=10) rfl (by kernel_rfl) (af hC (j:=9) rfl (by kernel_rfl) hS)))));have hM140:=hM.1 hS0;obtain ⟨v140_78,e78,h78⟩:=hI.get (i:=7) (gM 7 rfl) d7;obtain rfl:=h78;exact az [(78,_)] hU hmo hme hI hM (gM 8 rfl) rfl rfl (by kernel_rfl) ⟨e78,trivial⟩ (aa aw rfl) ai.rfl_ (rfl)
   constructor
   ·rintro S L' w141 hU hmo hme hI hM hC hS ⟨d8,-⟩;have hS0:S 15=false:=(af hC (j:=15) rfl (by kernel_rfl) (af hC (j:=14) rfl (by kernel_rfl) (af hC (j:=11) rfl (by kernel_rfl) (af hC (j:=10) rfl (by kernel_rfl) hS))));have hM141:=hM.1 hS0;obtain ⟨v141_79,e79,h79⟩:=hI.get (i:=8) (gM 8 rfl) d8;obtain rfl:=h79;exact az [(79,_)] hU hmo hme hI hM (gM 9 rfl) rfl rfl (by kernel_rfl) ⟨e79,trivial⟩ (aa cg rfl) ai.rfl_ (rfl)
   constructor
   ·rintro S L' w142 hU hmo hme hI hM hC hS ⟨d9,-⟩;have hS0:S 15=false:=(af hC (j:=15) rfl (by kernel_rfl) (af hC (j:=14) rfl (by kernel_rfl) (af hC (j:=11) rfl (by kernel_rfl) hS)));have hM142:=hM.1 hS0;obtain ⟨v142_80,e80,h80⟩:=hI.get (i:=9) (gM 9 rfl) d9;obtain rfl:=h80;exact az [(80,_)] hU hmo hme hI hM (gM 10 rfl) rfl rfl (by kernel_rfl) ⟨e80,trivial⟩ (au bQ rfl (by exact (show _=some (Value.string u8.part) from (h9.from_ (ai.rfl_.next hM142)).rd (fun _=>rfl)))) ai.rfl_ (fun _=>rfl)
   constructor
   ·rintro S L' w143 hU hmo hme hI hM hC hS ⟨d10,-⟩;have hS0:S 15=false:=(af hC (j:=15) rfl (by kernel_rfl) (af hC (j:=14) rfl (by kernel_rfl) hS));have hM143:=hM.1 hS0;obtain ⟨v143_81,e81,h81⟩:=hI.get (i:=10) (gM 10 rfl) d10;obtain rfl:=h81 hS0;exact az [(81,_)] hU hmo hme hI hM (gM 11 rfl) rfl rfl (by kernel_rfl) ⟨e81,trivial⟩ (dA (by kernel_rfl) rfl) ai.rfl_ (rfl)
   constructor
   ·rintro S L' w144 hU hmo hme hI hM hC hS ⟨-⟩;have hS0:S 15=false:=(af hC (j:=15) rfl (by kernel_rfl) (af hC (j:=14) rfl (by kernel_rfl) (af hC (j:=13) rfl (by kernel_rfl) hS)));have hM144:=hM.1 hS0;have e3:=hI.1 3 (dy rfl);exact az [(3,_)] hU hmo hme hI hM (gM 12 rfl) rfl rfl (by kernel_rfl) ⟨e3,trivial⟩ (aa dg rfl) ai.rfl_ (rfl)
   constructor
   ·rintro S L' w145 hU hmo hme hI hM hC hS ⟨d12,-⟩;have hS0:S 15=false:=(af hC (j:=15) rfl (by kernel_rfl) (af hC (j:=14) rfl (by kernel_rfl) hS));have hM145:=hM.1 hS0;obtain ⟨v145_83,e83,h83⟩:=hI.get (i:=12) (gM 12 rfl) d12;obtain rfl:=h83;exact az [(83,_)] hU hmo hme hI hM (gM 13 rfl) rfl rfl (by kernel_rfl) ⟨e83,trivial⟩ (au ak rfl (by exact (show _=some (Value.int .i64 m.rd) from ((h9.kept hzb hm9).from_ (ai.rfl_.next hM145)).rd 7 rfl))) ai.rfl_ (fun _=>rfl)
   constructor
   ·rintro S L' w146 hU hmo hme hI hM hC hS ⟨d4,d11,d13,-⟩;have hS0:S 15=false:=(af hC (j:=15) rfl (by kernel_rfl) hS);have hM146:=hM.1 hS0;obtain ⟨v146_75,e75,h75⟩:=hI.get (i:=4) (gM 4 rfl) d4;obtain rfl:=h75 hS0;obtain ⟨v146_82,e82,h82⟩:=hI.get (i:=11) (gM 11 rfl) d11;obtain rfl:=h82;obtain ⟨v146_84,e84,h84⟩:=hI.get (i:=13) (gM 13 rfl) d13;obtain rfl:=h84 hS0;exact az [(75,_),(82,_),(84,_)] hU hmo hme hI hM (gM 14 rfl) rfl rfl (by kernel_rfl) ⟨e75,e82,e84,trivial⟩ (dt (l:=[(0,.const (.int .i64 6)),(4,.tmp 75),(10,.tmp 82),(7,.tmp 84)]) (fc _ _ _)) ai.rfl_ (fun _=>rfl)
   constructor
   ·rintro S L' w147 hU hmo hme hI hM hC hS ⟨d0,d2,d14,-⟩;have hS0:S 15=false:=hS;have hM147:=hM.1 hS0;obtain ⟨v147_71,e71,h71⟩:=hI.get (i:=0) (.head _) d0;obtain rfl:=h71;obtain ⟨v147_73,e73,h73⟩:=hI.get (i:=2) (gM 2 rfl) d2;obtain rfl:=h73 hS0;obtain ⟨v147_85,e85,h85⟩:=hI.get (i:=14) (gM 14 rfl) d14;obtain rfl:=h85 hS0;refine df (al:=[.tmp 71,.tmp 73,.tmp 85]) [(71,_),(73,_),(85,_)] hU hI (gM 15 rfl) (by kernel_rfl) ⟨e71,e73,e85,trivial⟩ fi ((ka wm Z7 T g ⟨u8,[]⟩ _ (h9.from_ (ai.rfl_.next hM147)) _ _ _ _ _ (hsA.from_ (ai.rfl_.next hM147)) (Nat.zero_le _) ({ zM with k:=6,ix:=m.ix,a:=(u8.part.size:Int),rd:=m.rd }:Msg) m.f ⟨dB,Col.none⟩).mono ?_);rintro v9 w2 ⟨rfl,hS2⟩;exact ⟨⟨fun h0=>(by rw [dS] at h0;cases h0),fun _=>hS2⟩,rfl,⟨fun _ _ _ h=>h,fun _ _ _ h=>h,fun _ _ _ _ h0=>(by rw [dS] at h0;cases h0),fun _ _ _ h=>h,fun _ _ _ _ h0=>(by rw [dS] at h0;cases h0),fun _ _ _ h=>h,fun _ _ _ h=>h,fun _ _ _ h=>h,fun _ _ _ h=>h,fun _ _ _ h=>h,fun _ _ _ _ h0=>(by rw [dS] at h0;cases h0),fun _ _ _ h=>h,fun _ _ _ h=>h,fun _ _ _ _ h0=>(by rw [dS] at h0;cases h0),fun _ _ _ _ h0=>(by rw [dS] at h0;cases h0),fun _ _ _ h=>h,trivial⟩⟩
   exact trivial
  case hend=>
   intro w148 hM;obtain hS9:=hM.2 rfl;rintro v148_71 rfl v148_72 rfl v148_73-v148_74 rfl v148_75-v148_76 rfl v148_77 rfl v148_78 rfl v148_79 rfl v148_80 rfl v148_81-v148_82 rfl v148_83 rfl v148_84-v148_85-v148_86 rfl;refine dY (ah (aG (aH (dU rfl ?_))));rw [oR hp8 hfb hu8 (by cases fb <;> simp_all)];exact ⟨rfl,h.back hE3 (hS9.from_ ai.rfl_) hzi⟩
 refine aI (ah (ao (ag (mvp rfl (ab (aa bW rfl) (ab (au ak rfl (by exact (show _=some (Value.int .i64 m.ix) from ((h9.kept hzb hm9).from_ ai.rfl_).rd 4 rfl))) ?_))))));refine ab (aa ee rfl) (ab (au ak rfl (by exact (show _=some (Value.int .i64 m.lt) from ((h9.kept hzb hm9).from_ ai.rfl_).rd 5 rfl))) ?_);have hq8:=xO p8 m fb;have hp9:=xQ s m;rw [←hu8] at hq8;rw [←hp8] at hp9;have hmU:cn u8.b u8.t u8.es=true:=by rw [hq8.1,hq8.2.1,hq8.2.2.1,hp9.1,hp9.2.1,hp9.2.2.1];exact hm
 have hlU:cW u8.b u8.es=aQ u8:=rfl;have hiU:u8.b<m.ix∧m.ix≤1099511625728:=by rw [hq8.1,hp9.1];exact hi
 refine aE qC (rH wm Z7 T g u8 m.ix m.lt _ (h9.from_ ai.rfl_) hmU hlU hiU) ?_;rintro v92 w149 ⟨rfl,h10⟩;refine aq (ah ?_);apply eE [(0,93,fun _ v _=>v=_),(1,94,fun S v w9=>S 8=false→(eqp (.agg (bT m).toArray)) v w9),(2,95,fun _ v _=>v=_),(3,96,fun _ v _=>v=_),(4,97,fun _ v _=>v=_),(5,98,fun _ v _=>v=_),(6,99,fun _ v _=>v=_),(7,100,fun S v w9=>S 8=false→(eqp (.int .i64 m.ix)) v w9),(8,101,fun _ v _=>v=_)] [8] (fun S w'=>(S 8=false→ai w149 w')∧(S 8=true→aF wm Z7 w' T g (iM ⟨jY u8 m.ix m.lt,[]⟩ m true m.ix))) (by kernel_rfl) (by kernel_rfl) rfl rfl ⟨fun _ _ _ _ _ _ _ h=>h,fun S i v w1 w2 hq hF h h0=>(ae _) v w1 w2 hF (h (en h0)),fun _ _ _ _ _ _ _ h=>h,fun _ _ _ _ _ _ _ h=>h,fun _ _ _ _ _ _ _ h=>h,fun _ _ _ _ _ _ _ h=>h,fun _ _ _ _ _ _ _ h=>h,fun S i v w1 w2 hq hF h h0=>(ae _) v w1 w2 hF (h (en h0)),fun _ _ _ _ _ _ _ h=>h,trivial⟩ (fun S i w1 w2 hq hF h=>⟨fun h0=>(h.1 (en h0)).next hF,fun h1=>(fun h=>h.from_ hF) (h.2 (jn (show 8≠i by rintro rfl;exact absurd hq (by decide)) h1))⟩) ⟨fun _=>ai.rfl_.d1,fun h=>by cases h⟩
 case hstep=>
  constructor
  ·rintro S L' w150 hU hmo hme hI hM hC hS ⟨-⟩;have hS0:S 8=false:=(af hC (j:=8) rfl (by kernel_rfl) hS);have hM150:=hM.1 hS0;have e0:=hI.1 0 (dy rfl);exact az [(0,_)] hU hmo hme hI hM (.head _) rfl rfl (by kernel_rfl) ⟨e0,trivial⟩ (aC (v:=.pointer _) rfl) ai.rfl_ (rfl)
  constructor
  ·rintro S L' w151 hU hmo hme hI hM hC hS ⟨-⟩;have hS0:S 8=false:=(af hC (j:=8) rfl (by kernel_rfl) hS);have hM151:=hM.1 hS0;have e3:=hI.1 3 (dy rfl);exact az [(3,_)] hU hmo hme hI hM (.tail _ (.head _)) rfl rfl (by kernel_rfl) ⟨e3,trivial⟩ ((aR (cs:=bT m) bp bg rfl (((h10.kept hzb hm9).from_ (ai.rfl_.next hM151)).whole))) (ai.rfl_) (fun _=>rfl)
  constructor
  ·rintro S L' w152 hU hmo hme hI hM hC hS ⟨-⟩;have hS0:S 8=false:=(af hC (j:=8) rfl (by kernel_rfl) (af hC (j:=7) rfl (by kernel_rfl) (af hC (j:=6) rfl (by kernel_rfl) (af hC (j:=5) rfl (by kernel_rfl) (af hC (j:=4) rfl (by kernel_rfl) (af hC (j:=3) rfl (by kernel_rfl) hS))))));have hM152:=hM.1 hS0;have e0:=hI.1 0 (dy rfl);exact az [(0,_)] hU hmo hme hI hM (gM 2 rfl) rfl rfl (by kernel_rfl) ⟨e0,trivial⟩ (aC (v:=.pointer _) rfl) ai.rfl_ (rfl)
  constructor
  ·rintro S L' w153 hU hmo hme hI hM hC hS ⟨d2,-⟩;have hS0:S 8=false:=(af hC (j:=8) rfl (by kernel_rfl) (af hC (j:=7) rfl (by kernel_rfl) (af hC (j:=6) rfl (by kernel_rfl) (af hC (j:=5) rfl (by kernel_rfl) (af hC (j:=4) rfl (by kernel_rfl) hS)))));have hM153:=hM.1 hS0;obtain ⟨v153_95,e95,h95⟩:=hI.get (i:=2) (gM 2 rfl) d2;obtain rfl:=h95;exact az [(95,_)] hU hmo hme hI hM (gM 3 rfl) rfl rfl (by kernel_rfl) ⟨e95,trivial⟩ (av rfl) ai.rfl_ (rfl)
  constructor
  ·rintro S L' w154 hU hmo hme hI hM hC hS ⟨d3,-⟩;have hS0:S 8=false:=(af hC (j:=8) rfl (by kernel_rfl) (af hC (j:=7) rfl (by kernel_rfl) (af hC (j:=6) rfl (by kernel_rfl) (af hC (j:=5) rfl (by kernel_rfl) hS))));have hM154:=hM.1 hS0;obtain ⟨v154_96,e96,h96⟩:=hI.get (i:=3) (gM 3 rfl) d3;obtain rfl:=h96;exact az [(96,_)] hU hmo hme hI hM (gM 4 rfl) rfl rfl (by kernel_rfl) ⟨e96,trivial⟩ (aa ay rfl) ai.rfl_ (rfl)
  constructor
  ·rintro S L' w155 hU hmo hme hI hM hC hS ⟨d4,-⟩;have hS0:S 8=false:=(af hC (j:=8) rfl (by kernel_rfl) (af hC (j:=7) rfl (by kernel_rfl) (af hC (j:=6) rfl (by kernel_rfl) hS)));have hM155:=hM.1 hS0;obtain ⟨v155_97,e97,h97⟩:=hI.get (i:=4) (gM 4 rfl) d4;obtain rfl:=h97;exact az [(97,_)] hU hmo hme hI hM (gM 5 rfl) rfl rfl (by kernel_rfl) ⟨e97,trivial⟩ (aa aw rfl) ai.rfl_ (rfl)
  constructor
  ·rintro S L' w156 hU hmo hme hI hM hC hS ⟨d5,-⟩;have hS0:S 8=false:=(af hC (j:=8) rfl (by kernel_rfl) (af hC (j:=7) rfl (by kernel_rfl) hS));have hM156:=hM.1 hS0;obtain ⟨v156_98,e98,h98⟩:=hI.get (i:=5) (gM 5 rfl) d5;obtain rfl:=h98;exact az [(98,_)] hU hmo hme hI hM (gM 6 rfl) rfl rfl (by kernel_rfl) ⟨e98,trivial⟩ (aa cC rfl) ai.rfl_ (rfl)
  constructor
  ·rintro S L' w157 hU hmo hme hI hM hC hS ⟨d6,-⟩;have hS0:S 8=false:=(af hC (j:=8) rfl (by kernel_rfl) hS);have hM157:=hM.1 hS0;obtain ⟨v157_99,e99,h99⟩:=hI.get (i:=6) (gM 6 rfl) d6;obtain rfl:=h99;exact az [(99,_)] hU hmo hme hI hM (gM 7 rfl) rfl rfl (by kernel_rfl) ⟨e99,trivial⟩ (au ak rfl (by exact (show _=some (Value.int .i64 m.ix) from (h10.from_ (ai.rfl_.next hM157)).rd (fun _=>rfl)))) ai.rfl_ (fun _=>rfl)
  constructor
  ·rintro S L' w158 hU hmo hme hI hM hC hS ⟨d0,d1,d7,-⟩;have hS0:S 8=false:=hS;have hM158:=hM.1 hS0;obtain ⟨v158_93,e93,h93⟩:=hI.get (i:=0) (.head _) d0;obtain rfl:=h93;obtain ⟨v158_94,e94,h94⟩:=hI.get (i:=1) (.tail _ (.head _)) d1;obtain rfl:=h94 hS0;obtain ⟨v158_100,e100,h100⟩:=hI.get (i:=7) (gM 7 rfl) d7;obtain rfl:=h100 hS0;refine df (al:=[.tmp 93,.tmp 94,.const (.bool true),.tmp 100]) [(93,_),(94,_),(100,_)] hU hI (gM 8 rfl) (by kernel_rfl) ⟨e93,e94,e100,trivial⟩ gx ((kp wm Z7 T g ⟨jY u8 m.ix m.lt,[]⟩ m true m.ix _ (h10.from_ (ai.rfl_.next hM158)) (Nat.zero_le _)).mono ?_);rintro v9 w2 ⟨rfl,hS2⟩;exact ⟨⟨fun h0=>(by rw [dS] at h0;cases h0),fun _=>hS2⟩,rfl,⟨fun _ _ _ h=>h,fun _ _ _ _ h0=>(by rw [dS] at h0;cases h0),fun _ _ _ h=>h,fun _ _ _ h=>h,fun _ _ _ h=>h,fun _ _ _ h=>h,fun _ _ _ h=>h,fun _ _ _ _ h0=>(by rw [dS] at h0;cases h0),fun _ _ _ h=>h,trivial⟩⟩
  exact trivial
 case hend=>
  intro w159 hM;obtain hS9:=hM.2 rfl;rintro v159_93 rfl v159_94-v159_95 rfl v159_96 rfl v159_97 rfl v159_98 rfl v159_99 rfl v159_100-v159_101 rfl;refine dY (cK (dU rfl ?_));rw [u6 hp8 hfb hu8 (by cases fb <;> simp_all)];exact ⟨rfl,h.back hE3 (hS9.from_ ai.rfl_) hzi⟩
theorem sE (w0:World) (Z:Nat→Prop) (T g:Nat) (s:Rf) (m:Msg) (w:World) (h:aF w0 Z w T g ⟨s,[]⟩) (hF:RfF s) (hf:1≤m.f∧m.f≤s.nodes) (hk:m.k=5) (hix:m.ix≤1099511625728) (hdz:m.d.size≤1024) :
 Rt prog 103 [.pointer (some ⟨g,0,none⟩),.agg (bT m).toArray] w (fun v w'=>v=.tuple #[]∧aF w0 Z w' T g (nY s m)):=by
 have hFd:=ze hF hf;obtain ⟨tC,htC⟩:∃ x,x=dz (dR s m).b (dR s m).t (dR s m).es (dR s m).commit:=⟨_,rfl⟩;refine enter (n:=82) Tryz.func103 rfl rfl rfl (ao (ag (cj (v:=.agg _) rfl ?_)));intro b3 w1 E3 hb3 hk3;obtain ⟨wm,hwm⟩:∃ x,x=w1:=⟨_,rfl⟩
 have h3a:=h.at_ (Z':=fun k=>Z k∨k=b3) E3 (fun k hk=>by
  rcases hk with e | e
  ·exact ⟨Nat.lt_of_lt_of_le (h.zw k e) E3.size,.inl e⟩
  ·subst e;exact ⟨hk3.lt,.inr (by omega)⟩)
 obtain ⟨Z7,hZ7⟩:∃ Z7,Z7=fun k=>Z k∨k=b3:=⟨_,rfl⟩
 have h3:aF wm Z7 w1 T g ⟨s,[]⟩:=by
  rw [hZ7,hwm];exact h3a
 have hzi:∀ k,Z k→Z7 k:=fun k hk=>by rw [hZ7];exact .inl hk
 have hzb:Z7 b3:=by rw [hZ7];exact .inr rfl
 have hE3:ai w wm:=by rw [hwm];exact E3
 have hm9:Blk wm b3 39 (bT m).toArray:=by rw [hwm];exact hk3
 have hm3:=h3.kept hzb hm9;refine aq (ah (ao (ao (ag (mvp rfl (ab (av rfl) (ab (aa ay rfl) (ab (aa aw rfl) (ab (aa c6 rfl) (ab (au ak rfl (by exact (show _=some (Value.int .i64 s.role) from (h3.from_ ai.rfl_).rd (fun _=>rfl)))) ?_))))))))));refine ab (bo rfl rfl) (aq (ah (yR rfl (fun Q2=>?_) (fun Q2=>?_))))
 ·refine aG (aH (dU rfl ?_));rw [x6 (by omega)];exact ⟨rfl,h.back hE3 (h3.from_ ai.rfl_) hzi⟩
 refine aI (ah (kf (G:=Unit) [11,12,13,14,15,16,17,18,19,20,21,22,23,24,25,26,27] (fun _=>[]) (fun _ w'=>aF wm Z7 w' T g ⟨cR s,[]⟩) ?_ ?_))
 ·refine ao (ag (mvp rfl (ab (av rfl) (ab (aa ay rfl) (ab (aa aw rfl) (ab (aa c6 rfl) (ab (au ak rfl (by exact (show _=some (Value.int .i64 s.role) from (h3.from_ ai.rfl_).rd (fun _=>rfl)))) ?_)))))));refine ab (bo rfl rfl) (aq (ah (yR rfl (fun Q3=>?_) (fun Q3=>?_))))
  ·apply eE [(0,18,fun _ v _=>v=_),(1,19,fun _ v _=>v=_),(2,20,fun _ v _=>v=_),(3,21,fun _ v _=>v=_),(4,22,fun _ v _=>v=_),(5,23,fun _ v _=>v=_),(6,24,fun _ v _=>v=_),(7,25,fun _ v _=>v=_),(8,26,fun S v w9=>S 9=false→(eqp (.int .i64 s.term)) v w9),(9,27,fun _ v _=>v=_)] [9] (fun S w'=>(S 9=false→ai w1 w')∧(S 9=true→aF wm Z7 w' T g ⟨cF s s.term,[]⟩)) (by kernel_rfl) (by kernel_rfl) rfl rfl ⟨fun _ _ _ _ _ _ _ h=>h,fun _ _ _ _ _ _ _ h=>h,fun _ _ _ _ _ _ _ h=>h,fun _ _ _ _ _ _ _ h=>h,fun _ _ _ _ _ _ _ h=>h,fun _ _ _ _ _ _ _ h=>h,fun _ _ _ _ _ _ _ h=>h,fun _ _ _ _ _ _ _ h=>h,fun S i v w1 w2 hq hF h h0=>(ae _) v w1 w2 hF (h (en h0)),fun _ _ _ _ _ _ _ h=>h,trivial⟩ (fun S i w1 w2 hq hF h=>⟨fun h0=>(h.1 (en h0)).next hF,fun h1=>(fun h=>h.from_ hF) (h.2 (jn (show 9≠i by rintro rfl;exact absurd hq (by decide)) h1))⟩) ⟨fun _=>ai.rfl_.d1,fun h=>by cases h⟩
   case hstep=>
    constructor
    ·rintro S L' w4 hU hmo hme hI hM hC hS ⟨-⟩;have hS0:S 9=false:=(af hC (j:=9) rfl (by kernel_rfl) (af hC (j:=2) rfl (by kernel_rfl) (af hC (j:=1) rfl (by kernel_rfl) hS)));have hM4:=hM.1 hS0;have e0:=hI.1 0 (dy rfl);exact az [(0,_)] hU hmo hme hI hM (.head _) rfl rfl (by kernel_rfl) ⟨e0,trivial⟩ (aC (v:=.pointer _) rfl) ai.rfl_ (rfl)
    constructor
    ·rintro S L' w5 hU hmo hme hI hM hC hS ⟨d0,-⟩;have hS0:S 9=false:=(af hC (j:=9) rfl (by kernel_rfl) (af hC (j:=2) rfl (by kernel_rfl) hS));have hM5:=hM.1 hS0;obtain ⟨v5_18,e18,h18⟩:=hI.get (i:=0) (.head _) d0;obtain rfl:=h18;exact az [(18,_)] hU hmo hme hI hM (.tail _ (.head _)) rfl rfl (by kernel_rfl) ⟨e18,trivial⟩ (av rfl) ai.rfl_ (rfl)
    constructor
    ·rintro S L' w6 hU hmo hme hI hM hC hS ⟨d1,-⟩;have hS0:S 9=false:=(af hC (j:=9) rfl (by kernel_rfl) hS);have hM6:=hM.1 hS0;obtain ⟨v6_19,e19,h19⟩:=hI.get (i:=1) (.tail _ (.head _)) d1;obtain rfl:=h19;exact az [(19,_)] hU hmo hme hI hM (gM 2 rfl) rfl rfl (by kernel_rfl) ⟨e19,trivial⟩ (aa ay rfl) ai.rfl_ (rfl)
    constructor
    ·rintro S L' w7 hU hmo hme hI hM hC hS ⟨-⟩;have hS0:S 9=false:=(af hC (j:=9) rfl (by kernel_rfl) (af hC (j:=8) rfl (by kernel_rfl) (af hC (j:=7) rfl (by kernel_rfl) (af hC (j:=6) rfl (by kernel_rfl) (af hC (j:=5) rfl (by kernel_rfl) (af hC (j:=4) rfl (by kernel_rfl) hS))))));have hM7:=hM.1 hS0;have e0:=hI.1 0 (dy rfl);exact az [(0,_)] hU hmo hme hI hM (gM 3 rfl) rfl rfl (by kernel_rfl) ⟨e0,trivial⟩ (aC (v:=.pointer _) rfl) ai.rfl_ (rfl)
    constructor
    ·rintro S L' w8 hU hmo hme hI hM hC hS ⟨d3,-⟩;have hS0:S 9=false:=(af hC (j:=9) rfl (by kernel_rfl) (af hC (j:=8) rfl (by kernel_rfl) (af hC (j:=7) rfl (by kernel_rfl) (af hC (j:=6) rfl (by kernel_rfl) (af hC (j:=5) rfl (by kernel_rfl) hS)))));have hM8:=hM.1 hS0;obtain ⟨v8_21,e21,h21⟩:=hI.get (i:=3) (gM 3 rfl) d3;obtain rfl:=h21;exact az [(21,_)] hU hmo hme hI hM (gM 4 rfl) rfl rfl (by kernel_rfl) ⟨e21,trivial⟩ (av rfl) ai.rfl_ (rfl)
    constructor
    ·rintro S L' w9 hU hmo hme hI hM hC hS ⟨d4,-⟩;have hS0:S 9=false:=(af hC (j:=9) rfl (by kernel_rfl) (af hC (j:=8) rfl (by kernel_rfl) (af hC (j:=7) rfl (by kernel_rfl) (af hC (j:=6) rfl (by kernel_rfl) hS))));have hM9:=hM.1 hS0;obtain ⟨v9_22,e22,h22⟩:=hI.get (i:=4) (gM 4 rfl) d4;obtain rfl:=h22;exact az [(22,_)] hU hmo hme hI hM (gM 5 rfl) rfl rfl (by kernel_rfl) ⟨e22,trivial⟩ (aa ay rfl) ai.rfl_ (rfl)
    constructor
    ·rintro S L' w10 hU hmo hme hI hM hC hS ⟨d5,-⟩;have hS0:S 9=false:=(af hC (j:=9) rfl (by kernel_rfl) (af hC (j:=8) rfl (by kernel_rfl) (af hC (j:=7) rfl (by kernel_rfl) hS)));have hM10:=hM.1 hS0;obtain ⟨v10_23,e23,h23⟩:=hI.get (i:=5) (gM 5 rfl) d5;obtain rfl:=h23;exact az [(23,_)] hU hmo hme hI hM (gM 6 rfl) rfl rfl (by kernel_rfl) ⟨e23,trivial⟩ (aa aw rfl) ai.rfl_ (rfl)
    constructor
    ·rintro S L' w11 hU hmo hme hI hM hC hS ⟨d6,-⟩;have hS0:S 9=false:=(af hC (j:=9) rfl (by kernel_rfl) (af hC (j:=8) rfl (by kernel_rfl) hS));have hM11:=hM.1 hS0;obtain ⟨v11_24,e24,h24⟩:=hI.get (i:=6) (gM 6 rfl) d6;obtain rfl:=h24;exact az [(24,_)] hU hmo hme hI hM (gM 7 rfl) rfl rfl (by kernel_rfl) ⟨e24,trivial⟩ (aa bE rfl) ai.rfl_ (rfl)
    constructor
    ·rintro S L' w12 hU hmo hme hI hM hC hS ⟨d7,-⟩;have hS0:S 9=false:=(af hC (j:=9) rfl (by kernel_rfl) hS);have hM12:=hM.1 hS0;obtain ⟨v12_25,e25,h25⟩:=hI.get (i:=7) (gM 7 rfl) d7;obtain rfl:=h25;exact az [(25,_)] hU hmo hme hI hM (gM 8 rfl) rfl rfl (by kernel_rfl) ⟨e25,trivial⟩ (au ak rfl (by exact (show _=some (Value.int .i64 s.term) from (h3.from_ (ai.rfl_.next hM12)).rd (fun _=>rfl)))) ai.rfl_ (fun _=>rfl)
    constructor
    ·rintro S L' w13 hU hmo hme hI hM hC hS ⟨d2,d8,-⟩;have hS0:S 9=false:=hS;have hM13:=hM.1 hS0;obtain ⟨v13_20,e20,h20⟩:=hI.get (i:=2) (gM 2 rfl) d2;obtain rfl:=h20;obtain ⟨v13_26,e26,h26⟩:=hI.get (i:=8) (gM 8 rfl) d8;obtain rfl:=h26 hS0;refine df (al:=[.tmp 20,.tmp 26]) [(20,_),(26,_)] hU hI (gM 9 rfl) (by kernel_rfl) ⟨e20,e26,trivial⟩ il ((iR wm Z7 T g ⟨s,[]⟩ _ (h3.from_ (ai.rfl_.next hM13)) s.term).mono ?_);rintro v9 w2 ⟨rfl,hS2⟩;exact ⟨⟨fun h0=>(by rw [dS] at h0;cases h0),fun _=>hS2⟩,rfl,⟨fun _ _ _ h=>h,fun _ _ _ h=>h,fun _ _ _ h=>h,fun _ _ _ h=>h,fun _ _ _ h=>h,fun _ _ _ h=>h,fun _ _ _ h=>h,fun _ _ _ h=>h,fun _ _ _ _ h0=>(by rw [dS] at h0;cases h0),fun _ _ _ h=>h,trivial⟩⟩
    exact trivial
   case hend=>
    intro w14 hM;obtain hS9:=hM.2 rfl;rintro v14_18 rfl v14_19 rfl v14_20 rfl v14_21 rfl v14_22 rfl v14_23 rfl v14_24 rfl v14_25 rfl v14_26-v14_27 rfl;refine dY ?_;refine cu (()) trivial (by (iterate 17 refine bC rfl ?_);exact bP) ?_
    first
     |(rw [yU (by omega)];exact hS9.from_ ai.rfl_)
     |(rw [yT (by omega)];exact h3.from_ ai.rfl_)
  refine aI ?_;refine cu (()) trivial (by (iterate 7 refine bC rfl ?_);exact bP) ?_
  first
   |(rw [yU (by omega)];exact hS9.from_ ai.rfl_)
   |(rw [yT (by omega)];exact h3.from_ ai.rfl_)
 rintro _ ρ15 w15 h5;refine ao (ag (mvp rfl (mvp rfl (ab (aa bx rfl) (ab (au ak rfl (by exact (show _=some (Value.int .i64 m.f) from ((h5.kept hzb hm9).from_ ai.rfl_).rd 1 rfl))) ?_)))));refine ab (av rfl) (ab (aa ay rfl) (ab (aa aw rfl) (ab (aa fR rfl) (gU (s':=({ cR s with leader:=m.f }:Rf)) bh rfl rfl rfl (h5.from_ ai.rfl_) (fun _=>⟨by decide,rfl⟩) ⟨rfl,rfl,rfl,rfl,rfl,rfl⟩ ?_))));intro w16 h6;refine ab (av rfl) (ab (aa ay rfl) (ab (aa aw rfl) (ab (aa dJ rfl) (gU (s':=(dR s m)) bh rfl rfl rfl (h6.from_ ai.rfl_) (fun _=>⟨by decide,rfl⟩) ⟨rfl,rfl,rfl,rfl,rfl,rfl⟩ ?_))));intro w17 h7;obtain ⟨tgV,aV,OV,ocV,LV,hsV⟩:=h7.ex;have heV:=(aY.rd hsV.f).e;refine aq (ah (ao (ao (ag (ab (aa bJ rfl) (ab (au ak rfl (by exact (show _=some (Value.int .i64 m.k) from ((h7.kept hzb hm9).from_ ai.rfl_).rd 0 rfl))) ?_))))));refine ab (bL (bo rfl rfl) (beq_eq_false_iff_ne.2 (by omega))) (aq (ah (aU rfl (aI (ah (ao (ao ?_)))))));rcases tb m.ix (dR s m).commit m.lt tC with ho1 | ⟨ho1,ho2⟩ | ⟨ho1,ho2⟩
 ·have hold:m.ix≤(dR s m).commit∨m.lt<tC:=.inl ho1;apply br 24 [(46,eqp _),(47,eqp (.int .i64 m.ix)),(48,eqp _),(49,eqp _),(50,eqp _),(51,eqp _),(52,eqp _),(53,eqp (.int .i64 (dR s m).commit)),(54,eqp _),(55,eqp _),(56,eqp _),(57,eqp _),(58,eqp _),(59,eqp _),(60,eqp _),(61,eqp _),(62,eqp _),(63,eqp _),(64,eqp _),(65,eqp _),(66,eqp _),(67,eqp _),(68,eqp _),(69,eqp _)] (by repeat first | exact bN | refine bM ?_ | refine bB ?_) (by kernel_rfl) (by kernel_rfl) ⟨ae _,ae _,ae _,ae _,ae _,ae _,ae _,ae _,ae _,ae _,ae _,ae _,ae _,ae _,ae _,ae _,ae _,ae _,ae _,ae _,ae _,ae _,ae _,ae _,trivial⟩
  case hop=>
   constructor
   ·rintro-w19 D19;exact an (aa bW rfl) rfl
   constructor
   ·rintro-w20 D20;rintro _ rfl;exact an (au ak rfl (by exact (show _=some (Value.int .i64 m.ix) from ((h7.kept hzb hm9).from_ (ai.rfl_.next D20)).rd 4 rfl))) rfl
   constructor
   ·rintro-w21 D21;exact an (aC (v:=.pointer _) rfl) rfl
   constructor
   ·rintro-w22 D22;rintro _ rfl;exact an (av rfl) rfl
   constructor
   ·rintro-w23 D23;rintro _ rfl;exact an (aa ay rfl) rfl
   constructor
   ·rintro-w24 D24;rintro _ rfl;exact an (aa aw rfl) rfl
   constructor
   ·rintro-w25 D25;rintro _ rfl;exact an (aa cC rfl) rfl
   constructor
   ·rintro-w26 D26;rintro _ rfl;exact an (au ak rfl (by exact (show _=some (Value.int .i64 (dR s m).commit) from (h7.from_ (ai.rfl_.next D26)).rd (fun _=>rfl)))) rfl
   constructor
   ·rintro-w27 D27;rintro v27_47 rfl v27_53 rfl;exact an (dX (fx rfl rfl) (decide_eq_true ho1)) rfl
   constructor
   ·rintro-w28 D28;rintro _ rfl;exact an (aC (v:=.bool _) rfl) rfl
   constructor
   ·rintro-w29 D29;rintro _ rfl;exact bA rfl rfl rfl
   constructor
   ·rintro-w30 D30;rintro _ rfl _ rfl;exact bA rfl rfl rfl
   constructor
   ·rintro-w31 D31;rintro _ rfl;exact bA rfl rfl rfl
   constructor
   ·rintro-w32 D32;rintro _ rfl _ rfl;exact bA rfl rfl rfl
   constructor
   ·rintro-w33 D33;rintro _ rfl _ rfl;exact bA rfl rfl rfl
   constructor
   ·rintro-w34 D34;rintro _ rfl;exact bA rfl rfl rfl
   constructor
   ·rintro-w35 D35;rintro _ rfl _ rfl;exact bA rfl rfl rfl
   constructor
   ·rintro-w36 D36;rintro _ rfl _ rfl;exact bA rfl rfl rfl
   constructor
   ·rintro-w37 D37;rintro _ rfl _ rfl;exact bA rfl rfl rfl
   constructor
   ·rintro-w38 D38;rintro _ rfl _ rfl;exact bA rfl rfl rfl
   constructor
   ·rintro-w39 D39;rintro _ rfl _ rfl;exact bA rfl rfl rfl
   constructor
   ·rintro-w40 D40;rintro _ rfl _ rfl _ rfl;exact bA rfl rfl rfl
   constructor
   ·rintro-w41 D41;rintro _ rfl _ rfl _ rfl;exact bA rfl rfl rfl
   constructor
   ·rintro-w42 D42;rintro _ rfl _ rfl;exact an (aJ (v:=.bool _) rfl rfl) rfl
   exact trivial
  case hend=>
   intro w43 D43;rintro _ rfl v47 rfl _ rfl _ rfl _ rfl _ rfl _ rfl v53 rfl _ rfl _ rfl _ rfl _ rfl _ rfl _ rfl _ rfl _ rfl _ rfl _ rfl _ rfl _ rfl _ rfl _ rfl _ rfl _ rfl;show St ..;refine aq (ah (aW rfl (ao ?_)));apply eE [(0,70,fun _ v _=>v=_),(1,71,fun S v w9=>S 8=false→(eqp (.agg (bT m).toArray)) v w9),(2,72,fun _ v _=>v=_),(3,73,fun _ v _=>v=_),(4,74,fun _ v _=>v=_),(5,75,fun _ v _=>v=_),(6,76,fun _ v _=>v=_),(7,77,fun S v w9=>S 8=false→(eqp (.int .i64 (dR s m).commit)) v w9),(8,78,fun _ v _=>v=_)] [8] (fun S w'=>(S 8=false→ai w43 w')∧(S 8=true→aF wm Z7 w' T g (iM ⟨dR s m,[]⟩ m true (dR s m).commit))) (by kernel_rfl) (by kernel_rfl) rfl rfl ⟨fun _ _ _ _ _ _ _ h=>h,fun S i v w1 w2 hq hF h h0=>(ae _) v w1 w2 hF (h (en h0)),fun _ _ _ _ _ _ _ h=>h,fun _ _ _ _ _ _ _ h=>h,fun _ _ _ _ _ _ _ h=>h,fun _ _ _ _ _ _ _ h=>h,fun _ _ _ _ _ _ _ h=>h,fun S i v w1 w2 hq hF h h0=>(ae _) v w1 w2 hF (h (en h0)),fun _ _ _ _ _ _ _ h=>h,trivial⟩ (fun S i w1 w2 hq hF h=>⟨fun h0=>(h.1 (en h0)).next hF,fun h1=>(fun h=>h.from_ hF) (h.2 (jn (show 8≠i by rintro rfl;exact absurd hq (by decide)) h1))⟩) ⟨fun _=>ai.rfl_.d1,fun h=>by cases h⟩
   case hstep=>
    constructor
    ·rintro S L' w44 hU hmo hme hI hM hC hS ⟨-⟩;have hS0:S 8=false:=(af hC (j:=8) rfl (by kernel_rfl) hS);have hM44:=hM.1 hS0;have e0:=hI.1 0 (dy rfl);exact az [(0,_)] hU hmo hme hI hM (.head _) rfl rfl (by kernel_rfl) ⟨e0,trivial⟩ (aC (v:=.pointer _) rfl) ai.rfl_ (rfl)
    constructor
    ·rintro S L' w45 hU hmo hme hI hM hC hS ⟨-⟩;have hS0:S 8=false:=(af hC (j:=8) rfl (by kernel_rfl) hS);have hM45:=hM.1 hS0;have e3:=hI.1 3 (dy rfl);exact az [(3,_)] hU hmo hme hI hM (.tail _ (.head _)) rfl rfl (by kernel_rfl) ⟨e3,trivial⟩ ((aR (cs:=bT m) bp bg rfl (((h7.kept hzb hm9).from_ ((ai.rfl_.next D43).next hM45)).whole))) (ai.rfl_) (fun _=>rfl)
    constructor
    ·rintro S L' w46 hU hmo hme hI hM hC hS ⟨-⟩;have hS0:S 8=false:=(af hC (j:=8) rfl (by kernel_rfl) (af hC (j:=7) rfl (by kernel_rfl) (af hC (j:=6) rfl (by kernel_rfl) (af hC (j:=5) rfl (by kernel_rfl) (af hC (j:=4) rfl (by kernel_rfl) (af hC (j:=3) rfl (by kernel_rfl) hS))))));have hM46:=hM.1 hS0;have e0:=hI.1 0 (dy rfl);exact az [(0,_)] hU hmo hme hI hM (gM 2 rfl) rfl rfl (by kernel_rfl) ⟨e0,trivial⟩ (aC (v:=.pointer _) rfl) ai.rfl_ (rfl)
    constructor
    ·rintro S L' w47 hU hmo hme hI hM hC hS ⟨d2,-⟩;have hS0:S 8=false:=(af hC (j:=8) rfl (by kernel_rfl) (af hC (j:=7) rfl (by kernel_rfl) (af hC (j:=6) rfl (by kernel_rfl) (af hC (j:=5) rfl (by kernel_rfl) (af hC (j:=4) rfl (by kernel_rfl) hS)))));have hM47:=hM.1 hS0;obtain ⟨v47_72,e72,h72⟩:=hI.get (i:=2) (gM 2 rfl) d2;obtain rfl:=h72;exact az [(72,_)] hU hmo hme hI hM (gM 3 rfl) rfl rfl (by kernel_rfl) ⟨e72,trivial⟩ (av rfl) ai.rfl_ (rfl)
    constructor
    ·rintro S L' w48 hU hmo hme hI hM hC hS ⟨d3,-⟩;have hS0:S 8=false:=(af hC (j:=8) rfl (by kernel_rfl) (af hC (j:=7) rfl (by kernel_rfl) (af hC (j:=6) rfl (by kernel_rfl) (af hC (j:=5) rfl (by kernel_rfl) hS))));have hM48:=hM.1 hS0;obtain ⟨v48_73,e73,h73⟩:=hI.get (i:=3) (gM 3 rfl) d3;obtain rfl:=h73;exact az [(73,_)] hU hmo hme hI hM (gM 4 rfl) rfl rfl (by kernel_rfl) ⟨e73,trivial⟩ (aa ay rfl) ai.rfl_ (rfl)
    constructor
    ·rintro S L' w49 hU hmo hme hI hM hC hS ⟨d4,-⟩;have hS0:S 8=false:=(af hC (j:=8) rfl (by kernel_rfl) (af hC (j:=7) rfl (by kernel_rfl) (af hC (j:=6) rfl (by kernel_rfl) hS)));have hM49:=hM.1 hS0;obtain ⟨v49_74,e74,h74⟩:=hI.get (i:=4) (gM 4 rfl) d4;obtain rfl:=h74;exact az [(74,_)] hU hmo hme hI hM (gM 5 rfl) rfl rfl (by kernel_rfl) ⟨e74,trivial⟩ (aa aw rfl) ai.rfl_ (rfl)
    constructor
    ·rintro S L' w50 hU hmo hme hI hM hC hS ⟨d5,-⟩;have hS0:S 8=false:=(af hC (j:=8) rfl (by kernel_rfl) (af hC (j:=7) rfl (by kernel_rfl) hS));have hM50:=hM.1 hS0;obtain ⟨v50_75,e75,h75⟩:=hI.get (i:=5) (gM 5 rfl) d5;obtain rfl:=h75;exact az [(75,_)] hU hmo hme hI hM (gM 6 rfl) rfl rfl (by kernel_rfl) ⟨e75,trivial⟩ (aa cC rfl) ai.rfl_ (rfl)
    constructor
    ·rintro S L' w51 hU hmo hme hI hM hC hS ⟨d6,-⟩;have hS0:S 8=false:=(af hC (j:=8) rfl (by kernel_rfl) hS);have hM51:=hM.1 hS0;obtain ⟨v51_76,e76,h76⟩:=hI.get (i:=6) (gM 6 rfl) d6;obtain rfl:=h76;exact az [(76,_)] hU hmo hme hI hM (gM 7 rfl) rfl rfl (by kernel_rfl) ⟨e76,trivial⟩ (au ak rfl (by exact (show _=some (Value.int .i64 (dR s m).commit) from (h7.from_ ((ai.rfl_.next D43).next hM51)).rd (fun _=>rfl)))) ai.rfl_ (fun _=>rfl)
    constructor
    ·rintro S L' w52 hU hmo hme hI hM hC hS ⟨d0,d1,d7,-⟩;have hS0:S 8=false:=hS;have hM52:=hM.1 hS0;obtain ⟨v52_70,e70,h70⟩:=hI.get (i:=0) (.head _) d0;obtain rfl:=h70;obtain ⟨v52_71,e71,h71⟩:=hI.get (i:=1) (.tail _ (.head _)) d1;obtain rfl:=h71 hS0;obtain ⟨v52_77,e77,h77⟩:=hI.get (i:=7) (gM 7 rfl) d7;obtain rfl:=h77 hS0;refine df (al:=[.tmp 70,.tmp 71,.const (.bool true),.tmp 77]) [(70,_),(71,_),(77,_)] hU hI (gM 8 rfl) (by kernel_rfl) ⟨e70,e71,e77,trivial⟩ gx ((kp wm Z7 T g ⟨dR s m,[]⟩ m true (dR s m).commit _ (h7.from_ ((ai.rfl_.next D43).next hM52)) (Nat.zero_le _)).mono ?_);rintro v9 w2 ⟨rfl,hS2⟩;exact ⟨⟨fun h0=>(by rw [dS] at h0;cases h0),fun _=>hS2⟩,rfl,⟨fun _ _ _ h=>h,fun _ _ _ _ h0=>(by rw [dS] at h0;cases h0),fun _ _ _ h=>h,fun _ _ _ h=>h,fun _ _ _ h=>h,fun _ _ _ h=>h,fun _ _ _ h=>h,fun _ _ _ _ h0=>(by rw [dS] at h0;cases h0),fun _ _ _ h=>h,trivial⟩⟩
    exact trivial
   case hend=>
    intro w53 hM;obtain hS9:=hM.2 rfl;rintro v53_70 rfl v53_71-v53_72 rfl v53_73 rfl v53_74 rfl v53_75 rfl v53_76 rfl v53_77-v53_78 rfl;refine dY (ah (aG (aH (dU rfl ?_))));rw [htC] at hold;rw [k_ (by omega) hk,mH hold];exact ⟨rfl,h.back hE3 (hS9.from_ ai.rfl_) hzi⟩
 ·have hold:m.ix≤(dR s m).commit∨m.lt<tC:=.inr ho2;apply br 24 [(46,eqp _),(47,eqp (.int .i64 m.ix)),(48,eqp _),(49,eqp _),(50,eqp _),(51,eqp _),(52,eqp _),(53,eqp (.int .i64 (dR s m).commit)),(54,eqp _),(55,eqp _),(56,eqp _),(57,eqp (.int .i64 m.lt)),(58,eqp _),(59,eqp _),(60,eqp _),(61,eqp _),(62,eqp _),(63,eqp _),(64,eqp _),(65,eqp _),(66,eqp (.int .i64 (dR s m).commit)),(67,eqp (.int .i64 tC)),(68,eqp _),(69,eqp _)] (by repeat first | exact bN | refine bM ?_ | refine bB ?_) (by kernel_rfl) (by kernel_rfl) ⟨ae _,ae _,ae _,ae _,ae _,ae _,ae _,ae _,ae _,ae _,ae _,ae _,ae _,ae _,ae _,ae _,ae _,ae _,ae _,ae _,ae _,ae _,ae _,ae _,trivial⟩
  case hop=>
   constructor
   ·rintro-w55 D55;exact an (aa bW rfl) rfl
   constructor
   ·rintro-w56 D56;rintro _ rfl;exact an (au ak rfl (by exact (show _=some (Value.int .i64 m.ix) from ((h7.kept hzb hm9).from_ (ai.rfl_.next D56)).rd 4 rfl))) rfl
   constructor
   ·rintro-w57 D57;exact an (aC (v:=.pointer _) rfl) rfl
   constructor
   ·rintro-w58 D58;rintro _ rfl;exact an (av rfl) rfl
   constructor
   ·rintro-w59 D59;rintro _ rfl;exact an (aa ay rfl) rfl
   constructor
   ·rintro-w60 D60;rintro _ rfl;exact an (aa aw rfl) rfl
   constructor
   ·rintro-w61 D61;rintro _ rfl;exact an (aa cC rfl) rfl
   constructor
   ·rintro-w62 D62;rintro _ rfl;exact an (au ak rfl (by exact (show _=some (Value.int .i64 (dR s m).commit) from (h7.from_ (ai.rfl_.next D62)).rd (fun _=>rfl)))) rfl
   constructor
   ·rintro-w63 D63;rintro v63_47 rfl v63_53 rfl;exact an (bL (fx rfl rfl) (decide_eq_false ho1)) rfl
   constructor
   ·rintro-w64 D64;rintro _ rfl;exact an (aC (v:=.bool _) rfl) rfl
   constructor
   ·rintro-w65 D65;rintro _ rfl;exact aD rfl (aa ee rfl) rfl
   constructor
   ·rintro-w66 D66;rintro _ rfl _ rfl;exact aD rfl (au ak rfl (by exact (show _=some (Value.int .i64 m.lt) from ((h7.kept hzb hm9).from_ (ai.rfl_.next D66)).rd 5 rfl))) rfl
   constructor
   ·rintro-w67 D67;rintro _ rfl;exact aD rfl (aC (v:=.pointer _) rfl) rfl
   constructor
   ·rintro-w68 D68;rintro _ rfl _ rfl;exact aD rfl (av rfl) rfl
   constructor
   ·rintro-w69 D69;rintro _ rfl _ rfl;exact aD rfl (aa ay rfl) rfl
   constructor
   ·rintro-w70 D70;rintro _ rfl;exact aD rfl (aC (v:=.pointer _) rfl) rfl
   constructor
   ·rintro-w71 D71;rintro _ rfl _ rfl;exact aD rfl (av rfl) rfl
   constructor
   ·rintro-w72 D72;rintro _ rfl _ rfl;exact aD rfl (aa ay rfl) rfl
   constructor
   ·rintro-w73 D73;rintro _ rfl _ rfl;exact aD rfl (aa aw rfl) rfl
   constructor
   ·rintro-w74 D74;rintro _ rfl _ rfl;exact aD rfl (aa cC rfl) rfl
   constructor
   ·rintro-w75 D75;rintro _ rfl _ rfl;exact aD rfl (au ak rfl (by exact (show _=some (Value.int .i64 (dR s m).commit) from (h7.from_ (ai.rfl_.next D75)).rd (fun _=>rfl)))) rfl
   constructor
   ·rintro-w76 D76;rintro _ rfl _ rfl v76_66 rfl;refine mL rfl jg ((nD T g (dR s m) aV _ _ (hsV.b.from_ (ai.rfl_.next D76)) (heV.from_ (ai.rfl_.next D76)) hFd.lg (dR s m).commit hFd.co htC).mono ?_);rintro v w9 ⟨rfl,hF9⟩;exact ⟨hF9,rfl⟩
   constructor
   ·rintro-w77 D77;rintro _ rfl v77_57 rfl v77_67 rfl;exact aD rfl (dX (cA rfl rfl) (decide_eq_true ho2)) rfl
   constructor
   ·rintro-w78 D78;rintro _ rfl _ rfl;exact an (aB (v:=.bool _) rfl rfl) rfl
   exact trivial
  case hend=>
   intro w79 D79;rintro _ rfl v47 rfl _ rfl _ rfl _ rfl _ rfl _ rfl v53 rfl _ rfl _ rfl _ rfl v57 rfl _ rfl _ rfl _ rfl _ rfl _ rfl _ rfl _ rfl _ rfl v66 rfl v67 rfl _ rfl _ rfl;show St ..;refine aq (ah (aW rfl (ao ?_)));apply eE [(0,70,fun _ v _=>v=_),(1,71,fun S v w9=>S 8=false→(eqp (.agg (bT m).toArray)) v w9),(2,72,fun _ v _=>v=_),(3,73,fun _ v _=>v=_),(4,74,fun _ v _=>v=_),(5,75,fun _ v _=>v=_),(6,76,fun _ v _=>v=_),(7,77,fun S v w9=>S 8=false→(eqp (.int .i64 (dR s m).commit)) v w9),(8,78,fun _ v _=>v=_)] [8] (fun S w'=>(S 8=false→ai w79 w')∧(S 8=true→aF wm Z7 w' T g (iM ⟨dR s m,[]⟩ m true (dR s m).commit))) (by kernel_rfl) (by kernel_rfl) rfl rfl ⟨fun _ _ _ _ _ _ _ h=>h,fun S i v w1 w2 hq hF h h0=>(ae _) v w1 w2 hF (h (en h0)),fun _ _ _ _ _ _ _ h=>h,fun _ _ _ _ _ _ _ h=>h,fun _ _ _ _ _ _ _ h=>h,fun _ _ _ _ _ _ _ h=>h,fun _ _ _ _ _ _ _ h=>h,fun S i v w1 w2 hq hF h h0=>(ae _) v w1 w2 hF (h (en h0)),fun _ _ _ _ _ _ _ h=>h,trivial⟩ (fun S i w1 w2 hq hF h=>⟨fun h0=>(h.1 (en h0)).next hF,fun h1=>(fun h=>h.from_ hF) (h.2 (jn (show 8≠i by rintro rfl;exact absurd hq (by decide)) h1))⟩) ⟨fun _=>ai.rfl_.d1,fun h=>by cases h⟩
   case hstep=>
    constructor
    ·rintro S L' w80 hU hmo hme hI hM hC hS ⟨-⟩;have hS0:S 8=false:=(af hC (j:=8) rfl (by kernel_rfl) hS);have hM80:=hM.1 hS0;have e0:=hI.1 0 (dy rfl);exact az [(0,_)] hU hmo hme hI hM (.head _) rfl rfl (by kernel_rfl) ⟨e0,trivial⟩ (aC (v:=.pointer _) rfl) ai.rfl_ (rfl)
    constructor
    ·rintro S L' w81 hU hmo hme hI hM hC hS ⟨-⟩;have hS0:S 8=false:=(af hC (j:=8) rfl (by kernel_rfl) hS);have hM81:=hM.1 hS0;have e3:=hI.1 3 (dy rfl);exact az [(3,_)] hU hmo hme hI hM (.tail _ (.head _)) rfl rfl (by kernel_rfl) ⟨e3,trivial⟩ ((aR (cs:=bT m) bp bg rfl (((h7.kept hzb hm9).from_ ((ai.rfl_.next D79).next hM81)).whole))) (ai.rfl_) (fun _=>rfl)
    constructor
    ·rintro S L' w82 hU hmo hme hI hM hC hS ⟨-⟩;have hS0:S 8=false:=(af hC (j:=8) rfl (by kernel_rfl) (af hC (j:=7) rfl (by kernel_rfl) (af hC (j:=6) rfl (by kernel_rfl) (af hC (j:=5) rfl (by kernel_rfl) (af hC (j:=4) rfl (by kernel_rfl) (af hC (j:=3) rfl (by kernel_rfl) hS))))));have hM82:=hM.1 hS0;have e0:=hI.1 0 (dy rfl);exact az [(0,_)] hU hmo hme hI hM (gM 2 rfl) rfl rfl (by kernel_rfl) ⟨e0,trivial⟩ (aC (v:=.pointer _) rfl) ai.rfl_ (rfl)
    constructor
    ·rintro S L' w83 hU hmo hme hI hM hC hS ⟨d2,-⟩;have hS0:S 8=false:=(af hC (j:=8) rfl (by kernel_rfl) (af hC (j:=7) rfl (by kernel_rfl) (af hC (j:=6) rfl (by kernel_rfl) (af hC (j:=5) rfl (by kernel_rfl) (af hC (j:=4) rfl (by kernel_rfl) hS)))));have hM83:=hM.1 hS0;obtain ⟨v83_72,e72,h72⟩:=hI.get (i:=2) (gM 2 rfl) d2;obtain rfl:=h72;exact az [(72,_)] hU hmo hme hI hM (gM 3 rfl) rfl rfl (by kernel_rfl) ⟨e72,trivial⟩ (av rfl) ai.rfl_ (rfl)
    constructor
    ·rintro S L' w84 hU hmo hme hI hM hC hS ⟨d3,-⟩;have hS0:S 8=false:=(af hC (j:=8) rfl (by kernel_rfl) (af hC (j:=7) rfl (by kernel_rfl) (af hC (j:=6) rfl (by kernel_rfl) (af hC (j:=5) rfl (by kernel_rfl) hS))));have hM84:=hM.1 hS0;obtain ⟨v84_73,e73,h73⟩:=hI.get (i:=3) (gM 3 rfl) d3;obtain rfl:=h73;exact az [(73,_)] hU hmo hme hI hM (gM 4 rfl) rfl rfl (by kernel_rfl) ⟨e73,trivial⟩ (aa ay rfl) ai.rfl_ (rfl)
    constructor
    ·rintro S L' w85 hU hmo hme hI hM hC hS ⟨d4,-⟩;have hS0:S 8=false:=(af hC (j:=8) rfl (by kernel_rfl) (af hC (j:=7) rfl (by kernel_rfl) (af hC (j:=6) rfl (by kernel_rfl) hS)));have hM85:=hM.1 hS0;obtain ⟨v85_74,e74,h74⟩:=hI.get (i:=4) (gM 4 rfl) d4;obtain rfl:=h74;exact az [(74,_)] hU hmo hme hI hM (gM 5 rfl) rfl rfl (by kernel_rfl) ⟨e74,trivial⟩ (aa aw rfl) ai.rfl_ (rfl)
    constructor
    ·rintro S L' w86 hU hmo hme hI hM hC hS ⟨d5,-⟩;have hS0:S 8=false:=(af hC (j:=8) rfl (by kernel_rfl) (af hC (j:=7) rfl (by kernel_rfl) hS));have hM86:=hM.1 hS0;obtain ⟨v86_75,e75,h75⟩:=hI.get (i:=5) (gM 5 rfl) d5;obtain rfl:=h75;exact az [(75,_)] hU hmo hme hI hM (gM 6 rfl) rfl rfl (by kernel_rfl) ⟨e75,trivial⟩ (aa cC rfl) ai.rfl_ (rfl)
    constructor
    ·rintro S L' w87 hU hmo hme hI hM hC hS ⟨d6,-⟩;have hS0:S 8=false:=(af hC (j:=8) rfl (by kernel_rfl) hS);have hM87:=hM.1 hS0;obtain ⟨v87_76,e76,h76⟩:=hI.get (i:=6) (gM 6 rfl) d6;obtain rfl:=h76;exact az [(76,_)] hU hmo hme hI hM (gM 7 rfl) rfl rfl (by kernel_rfl) ⟨e76,trivial⟩ (au ak rfl (by exact (show _=some (Value.int .i64 (dR s m).commit) from (h7.from_ ((ai.rfl_.next D79).next hM87)).rd (fun _=>rfl)))) ai.rfl_ (fun _=>rfl)
    constructor
    ·rintro S L' w88 hU hmo hme hI hM hC hS ⟨d0,d1,d7,-⟩;have hS0:S 8=false:=hS;have hM88:=hM.1 hS0;obtain ⟨v88_70,e70,h70⟩:=hI.get (i:=0) (.head _) d0;obtain rfl:=h70;obtain ⟨v88_71,e71,h71⟩:=hI.get (i:=1) (.tail _ (.head _)) d1;obtain rfl:=h71 hS0;obtain ⟨v88_77,e77,h77⟩:=hI.get (i:=7) (gM 7 rfl) d7;obtain rfl:=h77 hS0;refine df (al:=[.tmp 70,.tmp 71,.const (.bool true),.tmp 77]) [(70,_),(71,_),(77,_)] hU hI (gM 8 rfl) (by kernel_rfl) ⟨e70,e71,e77,trivial⟩ gx ((kp wm Z7 T g ⟨dR s m,[]⟩ m true (dR s m).commit _ (h7.from_ ((ai.rfl_.next D79).next hM88)) (Nat.zero_le _)).mono ?_);rintro v9 w2 ⟨rfl,hS2⟩;exact ⟨⟨fun h0=>(by rw [dS] at h0;cases h0),fun _=>hS2⟩,rfl,⟨fun _ _ _ h=>h,fun _ _ _ _ h0=>(by rw [dS] at h0;cases h0),fun _ _ _ h=>h,fun _ _ _ h=>h,fun _ _ _ h=>h,fun _ _ _ h=>h,fun _ _ _ h=>h,fun _ _ _ _ h0=>(by rw [dS] at h0;cases h0),fun _ _ _ h=>h,trivial⟩⟩
    exact trivial
   case hend=>
    intro w89 hM;obtain hS9:=hM.2 rfl;rintro v89_70 rfl v89_71-v89_72 rfl v89_73 rfl v89_74 rfl v89_75 rfl v89_76 rfl v89_77-v89_78 rfl;refine dY (ah (aG (aH (dU rfl ?_))));rw [htC] at hold;rw [k_ (by omega) hk,mH hold];exact ⟨rfl,h.back hE3 (hS9.from_ ai.rfl_) hzi⟩
 have hnew:¬ (m.ix≤(dR s m).commit∨m.lt<tC):=fun e=>e.elim ho1 ho2
 apply br 24 [(46,eqp _),(47,eqp (.int .i64 m.ix)),(48,eqp _),(49,eqp _),(50,eqp _),(51,eqp _),(52,eqp _),(53,eqp (.int .i64 (dR s m).commit)),(54,eqp _),(55,eqp _),(56,eqp _),(57,eqp (.int .i64 m.lt)),(58,eqp _),(59,eqp _),(60,eqp _),(61,eqp _),(62,eqp _),(63,eqp _),(64,eqp _),(65,eqp _),(66,eqp (.int .i64 (dR s m).commit)),(67,eqp (.int .i64 tC)),(68,eqp _),(69,eqp _)] (by repeat first | exact bN | refine bM ?_ | refine bB ?_) (by kernel_rfl) (by kernel_rfl) ⟨ae _,ae _,ae _,ae _,ae _,ae _,ae _,ae _,ae _,ae _,ae _,ae _,ae _,ae _,ae _,ae _,ae _,ae _,ae _,ae _,ae _,ae _,ae _,ae _,trivial⟩
 case hop=>
  constructor
  ·rintro-w91 D91;exact an (aa bW rfl) rfl
  constructor
  ·rintro-w92 D92;rintro _ rfl;exact an (au ak rfl (by exact (show _=some (Value.int .i64 m.ix) from ((h7.kept hzb hm9).from_ (ai.rfl_.next D92)).rd 4 rfl))) rfl
  constructor
  ·rintro-w93 D93;exact an (aC (v:=.pointer _) rfl) rfl
  constructor
  ·rintro-w94 D94;rintro _ rfl;exact an (av rfl) rfl
  constructor
  ·rintro-w95 D95;rintro _ rfl;exact an (aa ay rfl) rfl
  constructor
  ·rintro-w96 D96;rintro _ rfl;exact an (aa aw rfl) rfl
  constructor
  ·rintro-w97 D97;rintro _ rfl;exact an (aa cC rfl) rfl
  constructor
  ·rintro-w98 D98;rintro _ rfl;exact an (au ak rfl (by exact (show _=some (Value.int .i64 (dR s m).commit) from (h7.from_ (ai.rfl_.next D98)).rd (fun _=>rfl)))) rfl
  constructor
  ·rintro-w99 D99;rintro v99_47 rfl v99_53 rfl;exact an (bL (fx rfl rfl) (decide_eq_false ho1)) rfl
  constructor
  ·rintro-w100 D100;rintro _ rfl;exact an (aC (v:=.bool _) rfl) rfl
  constructor
  ·rintro-w101 D101;rintro _ rfl;exact aD rfl (aa ee rfl) rfl
  constructor
  ·rintro-w102 D102;rintro _ rfl _ rfl;exact aD rfl (au ak rfl (by exact (show _=some (Value.int .i64 m.lt) from ((h7.kept hzb hm9).from_ (ai.rfl_.next D102)).rd 5 rfl))) rfl
  constructor
  ·rintro-w103 D103;rintro _ rfl;exact aD rfl (aC (v:=.pointer _) rfl) rfl
  constructor
  ·rintro-w104 D104;rintro _ rfl _ rfl;exact aD rfl (av rfl) rfl
  constructor
  ·rintro-w105 D105;rintro _ rfl _ rfl;exact aD rfl (aa ay rfl) rfl
  constructor
  ·rintro-w106 D106;rintro _ rfl;exact aD rfl (aC (v:=.pointer _) rfl) rfl
  constructor
  ·rintro-w107 D107;rintro _ rfl _ rfl;exact aD rfl (av rfl) rfl
  constructor
  ·rintro-w108 D108;rintro _ rfl _ rfl;exact aD rfl (aa ay rfl) rfl
  constructor
  ·rintro-w109 D109;rintro _ rfl _ rfl;exact aD rfl (aa aw rfl) rfl
  constructor
  ·rintro-w110 D110;rintro _ rfl _ rfl;exact aD rfl (aa cC rfl) rfl
  constructor
  ·rintro-w111 D111;rintro _ rfl _ rfl;exact aD rfl (au ak rfl (by exact (show _=some (Value.int .i64 (dR s m).commit) from (h7.from_ (ai.rfl_.next D111)).rd (fun _=>rfl)))) rfl
  constructor
  ·rintro-w112 D112;rintro _ rfl _ rfl v112_66 rfl;refine mL rfl jg ((nD T g (dR s m) aV _ _ (hsV.b.from_ (ai.rfl_.next D112)) (heV.from_ (ai.rfl_.next D112)) hFd.lg (dR s m).commit hFd.co htC).mono ?_);rintro v w9 ⟨rfl,hF9⟩;exact ⟨hF9,rfl⟩
  constructor
  ·rintro-w113 D113;rintro _ rfl v113_57 rfl v113_67 rfl;exact aD rfl (bL (cA rfl rfl) (decide_eq_false ho2)) rfl
  constructor
  ·rintro-w114 D114;rintro _ rfl _ rfl;exact an (aB (v:=.bool _) rfl rfl) rfl
  exact trivial
 case hend=>
  intro w115 D115;rintro _ rfl v47 rfl _ rfl _ rfl _ rfl _ rfl _ rfl v53 rfl _ rfl _ rfl _ rfl v57 rfl _ rfl _ rfl _ rfl _ rfl _ rfl _ rfl _ rfl _ rfl v66 rfl v67 rfl _ rfl _ rfl;show St ..;refine aq (ah (aU rfl (aI (ah (ag (mvp rfl (ab (aR (cs:=bT m) bp bg rfl (((h7.kept hzb hm9).from_ (ai.rfl_.next D115)).whole)) (aE qD (pZ wm Z7 T g (dR s m) m _ (h7.from_ (ai.rfl_.next D115)) hFd.lg rfl (by have:=hFd.co;omega) hFd.pa hdz) ?_))))))));rintro v81 w116 ⟨rfl,h8⟩;refine aq (cK (dU rfl ?_));rw [htC] at hnew;rw [k_ (by omega) hk,kW hnew];exact ⟨rfl,h.back hE3 (h8.from_ ai.rfl_) hzi⟩
def zC (s:Rf) (i tt:Int) (bb:Bool):Prop:=(bb=true∧s.b≤i∧i≤aQ s∧tt=dz s.b s.t s.es i)∨(bb=false∧¬ i≤aQ s∧tt=0)
theorem kH:aN prog 103=true:=by kernel_rfl
theorem kr {s:Rf} {m:Msg} (h:s.term=m.tm) (hk:m.k=3∨m.k=5):cp s m=nY s m:=by
 unfold cp;simp only;rw [if_neg (show ¬ s.term<m.tm by omega),if_neg (show ¬ m.tm<s.term by omega),if_neg (by omega),if_neg (by omega),if_pos hk]
theorem vI (w0:World) (Z:Nat→Prop) (T g:Nat) (s:Rf) (m:Msg) (w:World) (h:aF w0 Z w T g ⟨s,[]⟩) (hF:RfF s) (_:m.tm≤1099511627775) (hk:m.k=5) (hf:1≤m.f∧m.f≤s.nodes) (hix:m.ix≤1099511625728) (hdz:m.d.size≤1024) (hgt:s.term=m.tm) :
 Rt prog 58 [.pointer (some ⟨g,0,none⟩),.agg (bT m).toArray] w (fun v w'=>v=.tuple #[]∧aF w0 Z w' T g (cp s m)):=by
 refine enter (n:=55) Tryz.func58 rfl rfl rfl (ao (ag (cj (v:=.agg _) rfl ?_)));intro b3 w1 E3 hb3 hk3;obtain ⟨wm,hwm⟩:∃ x,x=w1:=⟨_,rfl⟩
 have h3a:=h.at_ (Z':=fun k=>Z k∨k=b3) E3 (fun k hk=>by
  rcases hk with e | e
  ·exact ⟨Nat.lt_of_lt_of_le (h.zw k e) E3.size,.inl e⟩
  ·subst e;exact ⟨hk3.lt,.inr (by omega)⟩)
 obtain ⟨Z7,hZ7⟩:∃ Z7,Z7=fun k=>Z k∨k=b3:=⟨_,rfl⟩
 have h3:aF wm Z7 w1 T g ⟨s,[]⟩:=by
  rw [hZ7,hwm];exact h3a
 have hzi:∀ k,Z k→Z7 k:=fun k hk=>by rw [hZ7];exact .inl hk
 have hzb:Z7 b3:=by rw [hZ7];exact .inr rfl
 have hE3:ai w wm:=by rw [hwm];exact E3
 have hm9:Blk wm b3 39 (bT m).toArray:=by rw [hwm];exact hk3
 have hm3:=h3.kept hzb hm9;refine aq (ah (ao (ao ?_)))
 skip
 apply br 9 [(4,eqp _),(5,eqp (.int .i64 m.tm)),(6,eqp _),(7,eqp _),(8,eqp _),(9,eqp _),(10,eqp _),(11,eqp (.int .i64 s.term)),(12,eqp _)] (by repeat first | exact bN | refine bM ?_ | refine bB ?_) (by kernel_rfl) (by kernel_rfl) ⟨ae _,ae _,ae _,ae _,ae _,ae _,ae _,ae _,ae _,trivial⟩
 case hop=>
  constructor
  ·rintro-w3 D3;exact an (aa bG rfl) rfl
  constructor
  ·rintro-w4 D4;rintro _ rfl;exact an (au ak rfl (by exact (show _=some (Value.int .i64 m.tm) from (hm3.from_ (ai.rfl_.next D4)).rd 3 rfl))) rfl
  constructor
  ·rintro-w5 D5;exact an (aC (v:=.pointer _) rfl) rfl
  constructor
  ·rintro-w6 D6;rintro _ rfl;exact an (av rfl) rfl
  constructor
  ·rintro-w7 D7;rintro _ rfl;exact an (aa ay rfl) rfl
  constructor
  ·rintro-w8 D8;rintro _ rfl;exact an (aa aw rfl) rfl
  constructor
  ·rintro-w9 D9;rintro _ rfl;exact an (aa bE rfl) rfl
  constructor
  ·rintro-w10 D10;rintro _ rfl;exact an (au ak rfl (by exact (show _=some (Value.int .i64 s.term) from (h3.from_ (ai.rfl_.next D10)).rd (fun _=>rfl)))) rfl
  constructor
  ·rintro-w11 D11;rintro v11_5 rfl v11_11 rfl;exact an (bL (ct rfl rfl) (decide_eq_false (by omega))) rfl
  exact trivial
 case hend=>
  intro w12 D12;rintro _ rfl v5 rfl _ rfl _ rfl _ rfl _ rfl _ rfl v11 rfl _ rfl;show St ..;refine aq (ah (aU rfl (aI (ah (ao (ao ?_))))))
  skip
  apply br 9 [(19,eqp _),(20,eqp (.int .i64 m.tm)),(21,eqp _),(22,eqp _),(23,eqp _),(24,eqp _),(25,eqp _),(26,eqp (.int .i64 s.term)),(27,eqp _)] (by repeat first | exact bN | refine bM ?_ | refine bB ?_) (by kernel_rfl) (by kernel_rfl) ⟨ae _,ae _,ae _,ae _,ae _,ae _,ae _,ae _,ae _,trivial⟩
  case hop=>
   constructor
   ·rintro-w14 D14;exact an (aa bG rfl) rfl
   constructor
   ·rintro-w15 D15;rintro _ rfl;exact an (au ak rfl (by exact (show _=some (Value.int .i64 m.tm) from ((h3.kept hzb hm9).from_ ((ai.rfl_.next D12).next D15)).rd 3 rfl))) rfl
   constructor
   ·rintro-w16 D16;exact an (aC (v:=.pointer _) rfl) rfl
   constructor
   ·rintro-w17 D17;rintro _ rfl;exact an (av rfl) rfl
   constructor
   ·rintro-w18 D18;rintro _ rfl;exact an (aa ay rfl) rfl
   constructor
   ·rintro-w19 D19;rintro _ rfl;exact an (aa aw rfl) rfl
   constructor
   ·rintro-w20 D20;rintro _ rfl;exact an (aa bE rfl) rfl
   constructor
   ·rintro-w21 D21;rintro _ rfl;exact an (au ak rfl (by exact (show _=some (Value.int .i64 s.term) from (h3.from_ ((ai.rfl_.next D12).next D21)).rd (fun _=>rfl)))) rfl
   constructor
   ·rintro-w22 D22;rintro v22_20 rfl v22_26 rfl;exact an (bL (cA rfl rfl) (decide_eq_false (by have:=ec s m.tm;omega))) rfl
   exact trivial
  case hend=>
   intro w23 D23;rintro _ rfl v20 rfl _ rfl _ rfl _ rfl _ rfl _ rfl v26 rfl _ rfl;show St ..;refine aq (ah (aU rfl (aI (ah (ao (ag (ab (aa bJ rfl) (ab (au ak rfl (by exact (show _=some (Value.int .i64 m.k) from ((h3.kept hzb hm9).from_ ((ai.rfl_.next D12).next D23)).rd 0 rfl))) ?_))))))));refine aq (ah (bk (ao (ag (ab (bL (bo rfl rfl) (beq_eq_false_iff_ne.2 (by omega))) (asb rfl (aq (ah (aU rfl (ao (ag (ab (bL (bo rfl rfl) (beq_eq_false_iff_ne.2 (by omega))) (asb rfl (aq (ah ?_)))))))))))))));refine aU rfl (ao (ao (ag (ab (bL (bo rfl rfl) (beq_eq_false_iff_ne.2 (by omega))) (asb rfl (aq (ah (aU rfl (ag (ab (dX (bo rfl rfl) (beq_iff_eq.2 hk)) (asb rfl ?_)))))))))));refine aq (ah (aW rfl (ag (mvp rfl (ab (aR (cs:=bT m) bp bg rfl (((h3.kept hzb hm9).from_ ((ai.rfl_.next D12).next D23)).whole)) (aE kH (sE wm Z7 T g s m _ (h3.from_ ((ai.rfl_.next D12).next D23)) hF hf hk hix hdz) ?_))))));rintro v48 w24 ⟨rfl,h6⟩;refine aq (bI (cK (dU rfl ?_)));rw [kr (by omega) (by omega)];exact ⟨rfl,h.back hE3 (h6.from_ ai.rfl_) hzi⟩
theorem vC (w0:World) (Z:Nat→Prop) (T g:Nat) (s:Rf) (m:Msg) (w:World) (h:aF w0 Z w T g ⟨s,[]⟩) (hF:RfF s) (ht:m.tm≤1099511627775) (hk:m.k=5) (hf:1≤m.f∧m.f≤s.nodes) (hix:m.ix≤1099511625728) (hdz:m.d.size≤1024) (hgt:s.term<m.tm) :
 Rt prog 58 [.pointer (some ⟨g,0,none⟩),.agg (bT m).toArray] w (fun v w'=>v=.tuple #[]∧aF w0 Z w' T g (cp s m)):=by
 have hFf:RfF (cF s m.tm):=hF.falls ht;have hf9:1≤m.f∧m.f≤(cF s m.tm).nodes:=by rw [(ia s m.tm).2.2.2.2.1];exact hf
 refine enter (n:=55) Tryz.func58 rfl rfl rfl (ao (ag (cj (v:=.agg _) rfl ?_)));intro b3 w1 E3 hb3 hk3;obtain ⟨wm,hwm⟩:∃ x,x=w1:=⟨_,rfl⟩
 have h3a:=h.at_ (Z':=fun k=>Z k∨k=b3) E3 (fun k hk=>by
  rcases hk with e | e
  ·exact ⟨Nat.lt_of_lt_of_le (h.zw k e) E3.size,.inl e⟩
  ·subst e;exact ⟨hk3.lt,.inr (by omega)⟩)
 obtain ⟨Z7,hZ7⟩:∃ Z7,Z7=fun k=>Z k∨k=b3:=⟨_,rfl⟩
 have h3:aF wm Z7 w1 T g ⟨s,[]⟩:=by
  rw [hZ7,hwm];exact h3a
 have hzi:∀ k,Z k→Z7 k:=fun k hk=>by rw [hZ7];exact .inl hk
 have hzb:Z7 b3:=by rw [hZ7];exact .inr rfl
 have hE3:ai w wm:=by rw [hwm];exact E3
 have hm9:Blk wm b3 39 (bT m).toArray:=by rw [hwm];exact hk3
 have hm3:=h3.kept hzb hm9;refine aq (ah (ao (ao ?_)))
 skip
 apply br 9 [(4,eqp _),(5,eqp (.int .i64 m.tm)),(6,eqp _),(7,eqp _),(8,eqp _),(9,eqp _),(10,eqp _),(11,eqp (.int .i64 s.term)),(12,eqp _)] (by repeat first | exact bN | refine bM ?_ | refine bB ?_) (by kernel_rfl) (by kernel_rfl) ⟨ae _,ae _,ae _,ae _,ae _,ae _,ae _,ae _,ae _,trivial⟩
 case hop=>
  constructor
  ·rintro-w3 D3;exact an (aa bG rfl) rfl
  constructor
  ·rintro-w4 D4;rintro _ rfl;exact an (au ak rfl (by exact (show _=some (Value.int .i64 m.tm) from (hm3.from_ (ai.rfl_.next D4)).rd 3 rfl))) rfl
  constructor
  ·rintro-w5 D5;exact an (aC (v:=.pointer _) rfl) rfl
  constructor
  ·rintro-w6 D6;rintro _ rfl;exact an (av rfl) rfl
  constructor
  ·rintro-w7 D7;rintro _ rfl;exact an (aa ay rfl) rfl
  constructor
  ·rintro-w8 D8;rintro _ rfl;exact an (aa aw rfl) rfl
  constructor
  ·rintro-w9 D9;rintro _ rfl;exact an (aa bE rfl) rfl
  constructor
  ·rintro-w10 D10;rintro _ rfl;exact an (au ak rfl (by exact (show _=some (Value.int .i64 s.term) from (h3.from_ (ai.rfl_.next D10)).rd (fun _=>rfl)))) rfl
  constructor
  ·rintro-w11 D11;rintro v11_5 rfl v11_11 rfl;exact an (dX (ct rfl rfl) (decide_eq_true hgt)) rfl
  exact trivial
 case hend=>
  intro w12 D12;rintro _ rfl v5 rfl _ rfl _ rfl _ rfl _ rfl _ rfl v11 rfl _ rfl;show St ..;refine aq (ah (aW rfl ?_));apply eE [(0,13,fun _ v _=>v=_),(1,14,fun _ v _=>v=_),(2,15,fun _ v _=>v=_),(3,16,fun _ v _=>v=_),(4,17,fun S v w9=>S 5=false→(eqp (.int .i64 m.tm)) v w9),(5,18,fun _ v _=>v=_)] [5] (fun S w'=>(S 5=false→ai w12 w')∧(S 5=true→aF wm Z7 w' T g ⟨cF s m.tm,[]⟩)) (by kernel_rfl) (by kernel_rfl) rfl rfl ⟨fun _ _ _ _ _ _ _ h=>h,fun _ _ _ _ _ _ _ h=>h,fun _ _ _ _ _ _ _ h=>h,fun _ _ _ _ _ _ _ h=>h,fun S i v w1 w2 hq hF h h0=>(ae _) v w1 w2 hF (h (en h0)),fun _ _ _ _ _ _ _ h=>h,trivial⟩ (fun S i w1 w2 hq hF h=>⟨fun h0=>(h.1 (en h0)).next hF,fun h1=>(fun h=>h.from_ hF) (h.2 (jn (show 5≠i by rintro rfl;exact absurd hq (by decide)) h1))⟩) ⟨fun _=>ai.rfl_.d1,fun h=>by cases h⟩
  case hstep=>
   constructor
   ·rintro S L' w13 hU hmo hme hI hM hC hS ⟨-⟩;have hS0:S 5=false:=(af hC (j:=5) rfl (by kernel_rfl) (af hC (j:=2) rfl (by kernel_rfl) (af hC (j:=1) rfl (by kernel_rfl) hS)));have hM13:=hM.1 hS0;have e0:=hI.1 0 (dy rfl);exact az [(0,_)] hU hmo hme hI hM (.head _) rfl rfl (by kernel_rfl) ⟨e0,trivial⟩ (aC (v:=.pointer _) rfl) ai.rfl_ (rfl)
   constructor
   ·rintro S L' w14 hU hmo hme hI hM hC hS ⟨d0,-⟩;have hS0:S 5=false:=(af hC (j:=5) rfl (by kernel_rfl) (af hC (j:=2) rfl (by kernel_rfl) hS));have hM14:=hM.1 hS0;obtain ⟨v14_13,e13,h13⟩:=hI.get (i:=0) (.head _) d0;obtain rfl:=h13;exact az [(13,_)] hU hmo hme hI hM (.tail _ (.head _)) rfl rfl (by kernel_rfl) ⟨e13,trivial⟩ (av rfl) ai.rfl_ (rfl)
   constructor
   ·rintro S L' w15 hU hmo hme hI hM hC hS ⟨d1,-⟩;have hS0:S 5=false:=(af hC (j:=5) rfl (by kernel_rfl) hS);have hM15:=hM.1 hS0;obtain ⟨v15_14,e14,h14⟩:=hI.get (i:=1) (.tail _ (.head _)) d1;obtain rfl:=h14;exact az [(14,_)] hU hmo hme hI hM (gM 2 rfl) rfl rfl (by kernel_rfl) ⟨e14,trivial⟩ (aa ay rfl) ai.rfl_ (rfl)
   constructor
   ·rintro S L' w16 hU hmo hme hI hM hC hS ⟨-⟩;have hS0:S 5=false:=(af hC (j:=5) rfl (by kernel_rfl) (af hC (j:=4) rfl (by kernel_rfl) hS));have hM16:=hM.1 hS0;have e3:=hI.1 3 (dy rfl);exact az [(3,_)] hU hmo hme hI hM (gM 3 rfl) rfl rfl (by kernel_rfl) ⟨e3,trivial⟩ (aa bG rfl) ai.rfl_ (rfl)
   constructor
   ·rintro S L' w17 hU hmo hme hI hM hC hS ⟨d3,-⟩;have hS0:S 5=false:=(af hC (j:=5) rfl (by kernel_rfl) hS);have hM17:=hM.1 hS0;obtain ⟨v17_16,e16,h16⟩:=hI.get (i:=3) (gM 3 rfl) d3;obtain rfl:=h16;exact az [(16,_)] hU hmo hme hI hM (gM 4 rfl) rfl rfl (by kernel_rfl) ⟨e16,trivial⟩ (au ak rfl (by exact (show _=some (Value.int .i64 m.tm) from (hm3.from_ ((ai.rfl_.next D12).next hM17)).rd 3 rfl))) ai.rfl_ (fun _=>rfl)
   constructor
   ·rintro S L' w18 hU hmo hme hI hM hC hS ⟨d2,d4,-⟩;have hS0:S 5=false:=hS;have hM18:=hM.1 hS0;obtain ⟨v18_15,e15,h15⟩:=hI.get (i:=2) (gM 2 rfl) d2;obtain rfl:=h15;obtain ⟨v18_17,e17,h17⟩:=hI.get (i:=4) (gM 4 rfl) d4;obtain rfl:=h17 hS0;refine df (al:=[.tmp 15,.tmp 17]) [(15,_),(17,_)] hU hI (gM 5 rfl) (by kernel_rfl) ⟨e15,e17,trivial⟩ il ((iR wm Z7 T g ⟨s,[]⟩ _ (h3.from_ ((ai.rfl_.next D12).next hM18)) m.tm).mono ?_);rintro v9 w2 ⟨rfl,hS2⟩;exact ⟨⟨fun h0=>(by rw [dS] at h0;cases h0),fun _=>hS2⟩,rfl,⟨fun _ _ _ h=>h,fun _ _ _ h=>h,fun _ _ _ h=>h,fun _ _ _ h=>h,fun _ _ _ _ h0=>(by rw [dS] at h0;cases h0),fun _ _ _ h=>h,trivial⟩⟩
   exact trivial
  case hend=>
   intro w19 hM;obtain hS9:=hM.2 rfl;rintro v19_13 rfl v19_14 rfl v19_15 rfl v19_16 rfl v19_17-v19_18 rfl;refine dY (ah (ao (ao ?_)))
   skip
   apply br 9 [(19,eqp _),(20,eqp (.int .i64 m.tm)),(21,eqp _),(22,eqp _),(23,eqp _),(24,eqp _),(25,eqp _),(26,eqp (.int .i64 (cF s m.tm).term)),(27,eqp _)] (by repeat first | exact bN | refine bM ?_ | refine bB ?_) (by kernel_rfl) (by kernel_rfl) ⟨ae _,ae _,ae _,ae _,ae _,ae _,ae _,ae _,ae _,trivial⟩
   case hop=>
    constructor
    ·rintro-w21 D21;exact an (aa bG rfl) rfl
    constructor
    ·rintro-w22 D22;rintro _ rfl;exact an (au ak rfl (by exact (show _=some (Value.int .i64 m.tm) from ((hS9.kept hzb hm9).from_ (ai.rfl_.next D22)).rd 3 rfl))) rfl
    constructor
    ·rintro-w23 D23;exact an (aC (v:=.pointer _) rfl) rfl
    constructor
    ·rintro-w24 D24;rintro _ rfl;exact an (av rfl) rfl
    constructor
    ·rintro-w25 D25;rintro _ rfl;exact an (aa ay rfl) rfl
    constructor
    ·rintro-w26 D26;rintro _ rfl;exact an (aa aw rfl) rfl
    constructor
    ·rintro-w27 D27;rintro _ rfl;exact an (aa bE rfl) rfl
    constructor
    ·rintro-w28 D28;rintro _ rfl;exact an (au ak rfl (by exact (show _=some (Value.int .i64 (cF s m.tm).term) from (hS9.from_ (ai.rfl_.next D28)).rd (fun _=>rfl)))) rfl
    constructor
    ·rintro-w29 D29;rintro v29_20 rfl v29_26 rfl;exact an (bL (cA rfl rfl) (decide_eq_false (by have:=ec s m.tm;omega))) rfl
    exact trivial
   case hend=>
    intro w30 D30;rintro _ rfl v20 rfl _ rfl _ rfl _ rfl _ rfl _ rfl v26 rfl _ rfl;show St ..;refine aq (ah (aU rfl (aI (ah (ao (ag (ab (aa bJ rfl) (ab (au ak rfl (by exact (show _=some (Value.int .i64 m.k) from ((hS9.kept hzb hm9).from_ (ai.rfl_.next D30)).rd 0 rfl))) ?_))))))));refine aq (ah (bk (ao (ag (ab (bL (bo rfl rfl) (beq_eq_false_iff_ne.2 (by omega))) (asb rfl (aq (ah (aU rfl (ao (ag (ab (bL (bo rfl rfl) (beq_eq_false_iff_ne.2 (by omega))) (asb rfl (aq (ah ?_)))))))))))))));refine aU rfl (ao (ao (ag (ab (bL (bo rfl rfl) (beq_eq_false_iff_ne.2 (by omega))) (asb rfl (aq (ah (aU rfl (ag (ab (dX (bo rfl rfl) (beq_iff_eq.2 hk)) (asb rfl ?_)))))))))));refine aq (ah (aW rfl (ag (mvp rfl (ab (aR (cs:=bT m) bp bg rfl (((hS9.kept hzb hm9).from_ (ai.rfl_.next D30)).whole)) (aE kH (sE wm Z7 T g (cF s m.tm) m _ (hS9.from_ (ai.rfl_.next D30)) hFf hf9 hk hix hdz) ?_))))));rintro v48 w31 ⟨rfl,h6⟩;refine aq (bI (cK (dU rfl ?_)));rw [kq hgt,kr (by have:=ec s m.tm;omega) (by omega)];exact ⟨rfl,h.back hE3 (h6.from_ ai.rfl_) hzi⟩
theorem vF (w0:World) (Z:Nat→Prop) (T g:Nat) (s:Rf) (m:Msg) (w:World) (h:aF w0 Z w T g ⟨s,[]⟩) (hF:RfF s) (ht:m.tm≤1099511627775) (hk:m.k=5) (hf:1≤m.f∧m.f≤s.nodes) (hix:m.ix≤1099511625728) (hdz:m.d.size≤1024):Rt prog 58 [.pointer (some ⟨g,0,none⟩),.agg (bT m).toArray] w fun v w'=>v=.tuple #[]∧aF w0 Z w' T g (cp s m):=by
 rcases Int.lt_trichotomy m.tm s.term with h1 | h1 | h1
 ·exact qY w0 Z T g s m w h h1
 ·exact vI w0 Z T g s m w h hF ht hk hf hix hdz h1.symm
 ·exact vC w0 Z T g s m w h hF ht hk hf hix hdz h1
theorem qd:aN prog 182=true:=by kernel_rfl
theorem n_:(prog.underlying 3).isSome=true:=by kernel_rfl
theorem qi:prog.underlying 108=some (.int .u64):=by kernel_rfl
theorem qb:(prog.underlying 108).isSome=true:=by kernel_rfl
theorem tB:prog.underlying 3=some (.int .i64):=by kernel_rfl
theorem qf:aN prog 174=true:=by kernel_rfl
theorem qe:aN prog 175=true:=by kernel_rfl
theorem qh:aN prog 163=true:=by kernel_rfl
theorem qg:aN prog 164=true:=by kernel_rfl
theorem xY (base:Nat) (A:Option Addr) (c n i m b vo vc:Nat) (xs vs:List Value) (tv:TypeId) (csv:Array Value) (w:World) (ho:w.ownsRow base 3 1 (.slice A n c) n xs) (hbs:base≤w.heap.size) (hi:i≤n) (hm:0<m) (hvl:vs.length=m*1) (hvr:w.rangeAt b vo vs) (hvb:Blk w b tv csv) (hne:∀ k,A.map (·.block)=some k→k≠b) (h1:∀ u∈xs,u.oneCell'=true) (h1v:∀ u∈vs,u.oneCell'=true) (hl:n+m≤100000000000) :
 Rt prog 164 [.slice A n c,.int .i64 (i:Nat),.slice (some ⟨b,vo,none⟩) m vc] w (fun v w'=>(∃ A' c',v=.slice A' (n+m) c'∧w'.ownsRow base 3 1 (.slice A' (n+m) c') (n+m) (xs.take (i*1)++vs++xs.drop (i*1))∧∀ q,A'.map (·.block)=some q→A.map (·.block)=some q∨w.heap.size≤q)∧w.grownBy w' (A.map (·.block))):=by
 have hxl:xs.length=n*1:=ho.1;have hdl:(xs.drop (i*1)).length=(n-i)*1:=by rw [List.length_drop,hxl];omega
 have hcap:=vY ho;refine enter (n:=95) Tryz.func164 rfl rfl rfl (ao (ag (ass rfl (aq (ah (ao (ag (mvs rfl (mvi rfl (ab (ep (l:=i) (h:=n) a_ rfl (.inr ⟨_,_,_,rfl,rfl,rfl⟩) (.inl ⟨rfl,rfl⟩) (by omega) (by omega)) (aq (ah (ao (ag (mvs rfl ?_)))))))))))))));refine ab (b0 bX rfl) (asi rfl (aq (ah (ao (ao (ag (mvi rfl (ab (bo rfl rfl) (aq (ah (yR rfl (fun Q1=>?_) (fun Q1=>?_))))))))))))
 ·exfalso;omega
 refine aI (ah (ao (ag (mvs rfl (ab (b0 bX rfl) (asi rfl (aq (ah (ao (ao (ag (mvi rfl (mvi rfl (ab (bo rfl rfl) (aq (ah ?_))))))))))))))));refine yR rfl (fun Q2=>?_) (fun Q2=>?_)
 ·obtain rfl:i=n:=by omega
  refine ao (ag (mvs rfl (mvs rfl ?_)));have hs25:=Nat.le_refl (w).heap.size;refine ra aS rfl (by decide) rfl ho hbs rfl hvl ⟨b,vo,rfl,hvr⟩ h1v (by omega) (by omega) ?_;intro A25 c25 w3 ho25 hg25 hL25;refine ass rfl (aq (ah (aG (aH (bF (v:=.slice _ _ _) rfl rfl ?_)))));exact ⟨⟨A25,c25,rfl,by rw [List.take_of_length_le (by omega),List.drop_of_length_le (by omega),List.append_nil];exact ho25,fun q hq=>hL25.elim (fun e=>.inl (e ▸ hq)) (fun e=>.inr (by rw [e] at hq;cases hq;exact hs25))⟩,hg25⟩
 obtain ⟨g,cur,rfl,hg,hbk,hnc,hcm,hcl,hct⟩:=vZ ho (by omega);have hgb:g≠b:=hne g rfl;have hbz:w.grownBy w (some g):=World.grownBy.refl _ _;refine aI (ah (ao (ao (ag (mvi rfl (mvi rfl (ab (cx rfl rfl (by omega)) (mvs rfl (ab (xJ bX rfl) (ab (ct rfl rfl) (aq (ah (yS rfl (fun Q4=>?_) (fun Q4=>?_))))))))))))))
 ·refine ao (ag (mvs rfl (mvi rfl (ab (fg (v':=.slice (some ⟨g,0,none⟩) i c) (ep (l:=0) (h:=i) a_ rfl (.inl ⟨rfl,rfl⟩) (.inr ⟨_,_,_,rfl,rfl,rfl⟩) (by omega) (by omega)) (by rw [lx,Nat.sub_zero,Nat.sub_zero])) ?_))));refine mvi rfl (mvi rfl (ab (cx rfl rfl (by omega)) (mvi rfl (ab (sr rfl rfl (by omega)) (q9 (kn:=.i64) (olds:=xs.take (i*1)) aS (by kernel_rfl) rfl (by decide) rfl rfl (by rw [List.length_take,hxl];omega) (fun _=>⟨g,0,rfl,ud hbk hct⟩) (by omega) (by omega) (by unfold maxLen;omega) (by omega) (by omega) ?_)))));intro g2 c2 w5 cur2 hg2 E40 hb2 hc2 hc2m hcl2 hct2;obtain hc2:n+m≤c2:=by omega
  replace hbz:=eb hbz (ai.grown E40 _);replace hbk:=hbk.from_ E40;have hgg:g≠g2:=by have:=ho.lt g rfl;omega
  have hvr2:=fL E40 hvr;have hbg2:b≠g2:=by have:=hvb.lt;omega
  refine ass rfl (aq (ah (ao (ag (mvs rfl (mvi rfl (ab (ep (l:=i) (h:=i+(n+m-i)) a_ rfl (.inr ⟨_,_,_,rfl,rfl,rfl⟩) (.inl ⟨rfl,rfl⟩) (by omega) (by omega)) (mvs rfl (kt (news:=vs) (g:=g2) (o:=i*1) a_ rfl rfl (by rw [hvl];congr 1;omega) (fun h=>by rw [fC (by omega),Nat.zero_add]) (fun h=>⟨b,vo,rfl,hvr2⟩) hb2 (by rw [hvl,hcl2];omega) h1v ?_)))))))));intro w6 O45 P45;replace hbz:=nZ hbz O45 (by have:=hbk.lt;have:=ho.lt g rfl;omega);replace hbk:=hbk.only O45 hgg;refine aq (ah (ao ?_));apply br 8 [(46,eqp _),(47,eqp _),(48,eqp _),(49,eqp _),(50,eqp _),(51,eqp _),(52,eqp _),(53,eqp _)] (by repeat first | exact bN | refine bM ?_ | refine bB ?_) (by kernel_rfl) (by kernel_rfl) ⟨ae _,ae _,ae _,ae _,ae _,ae _,ae _,ae _,trivial⟩
  case hop=>
   constructor
   ·rintro-w8 D8;exact an (aC (v:=.slice _ _ _) rfl) rfl
   constructor
   ·rintro-w9 D9;exact an (aC (v:=.int _ _) rfl) rfl
   constructor
   ·rintro-w10 D10;exact an (aC (v:=.int _ _) rfl) rfl
   constructor
   ·rintro-w11 D11;rintro _ rfl _ rfl;exact an (cx rfl rfl (by omega)) rfl
   constructor
   ·rintro-w12 D12;rintro _ rfl _ rfl;exact an (ep (l:=i+m) (h:=i+(n+m-i)) a_ rfl (.inr ⟨_,_,_,rfl,rfl,rfl⟩) (.inl ⟨rfl,rfl⟩) (by omega) (by omega)) rfl
   constructor
   ·rintro-w13 D13;exact an (aC (v:=.slice _ _ _) rfl) rfl
   constructor
   ·rintro-w14 D14;exact an (aC (v:=.int _ _) rfl) rfl
   constructor
   ·rintro-w15 D15;rintro _ rfl _ rfl;exact an (ep (l:=i) (h:=n) a_ rfl (.inr ⟨_,_,_,rfl,rfl,rfl⟩) (.inl ⟨rfl,rfl⟩) (by omega) (by omega)) rfl
   exact trivial
  case hend=>
   intro w16 D16;rintro _ rfl _ rfl _ rfl _ rfl _ rfl _ rfl _ rfl _ rfl;show St ..;replace hbz:=eb hbz (ai.grown D16 _);replace hbk:=hbk.from_ D16;replace P45:=P45.from_ D16;refine kt (news:=xs.drop (i*1)) (g:=g2) (o:=(i+m)*1) a_ rfl rfl (by rw [hdl];congr 1;omega) (fun h=>by rw [fC (by rw [hdl] at h;omega),Nat.zero_add]) (fun h=>⟨g,i*1,by rw [fC (by omega),Nat.zero_add],pn hbk hct⟩) P45 (by rw [hdl,eQ _ _ _ (by rw [hvl,hcl2];omega),hcl2];omega) (fun v hv=>h1 v (List.mem_of_mem_drop hv)) ?_;intro w17 O54 P54;replace hbz:=nZ hbz O54 (by have:=ho.lt g rfl;omega);refine aq (ah (ao (ag (mvs rfl (ass rfl (aq (ah (aG (aH (bF (v:=.slice _ _ _) rfl rfl ?_))))))))));have hnm:i+(n+m-i)=n+m:=by omega
   rw [hnm];have hbg:base≤g2:=by omega
   exact ⟨⟨_,_,rfl,oF hbg P54 hc2 hc2m (by rw [eQ _ _ _ (by rw [hdl,eQ _ _ _ (by rw [hvl,hcl2];omega),hcl2];omega),eQ _ _ _ (by rw [hvl,hcl2];omega),hcl2]) (pT hi hc2 hcl2 hxl hct2 hvl).2,fun q hq=>.inr (by cases hq;show w.heap.size≤g2;omega)⟩,hbz⟩
 refine aI (ah (ao (ag (mvs rfl (mvi rfl (mvi rfl (ab (cx rfl rfl (by omega)) (ab (fg (v':=.slice (some ⟨g,0,none⟩) (n+m) c) (ep (l:=0) (h:=n+m) a_ rfl (.inl ⟨rfl,rfl⟩) (.inr ⟨_,_,_,rfl,rfl,rfl⟩) (by omega) (by omega)) (by rw [lx,Nat.sub_zero,Nat.sub_zero])) ?_))))))));refine ass rfl (aq (ah (ao (ao (ag (mvs rfl (mvs rfl (mvi rfl (mvi rfl (ab (cx rfl rfl (by omega)) (ab (ep (l:=i+m) (h:=n+m) a_ rfl (.inr ⟨_,_,_,rfl,rfl,rfl⟩) (.inl ⟨rfl,rfl⟩) (by omega) (by omega)) ?_)))))))))));refine ab (ps (tS:=26) (tR:=4) (g1:=b) (o1:=vo) (g2:=g) (o2:=(i+m)*1) Tryz.func176 (by kernel_rfl) (by kernel_rfl) (by kernel_rfl) (by kernel_rfl) a_ rfl (by show Value.slice _ _ _=_;rw [fC (by omega),Nat.zero_add]) hgb.symm hvb hbk (by simp only [List.size_toArray,hcl];omega)) ?_;refine ab (dX (cE rfl) rfl) (aq (ah (aW rfl (ao ?_))));apply br 8 [(69,eqp _),(70,eqp _),(71,eqp _),(72,eqp _),(73,eqp _),(74,eqp _),(75,eqp _),(76,eqp _)] (by repeat first | exact bN | refine bM ?_ | refine bB ?_) (by kernel_rfl) (by kernel_rfl) ⟨ae _,ae _,ae _,ae _,ae _,ae _,ae _,ae _,trivial⟩
 case hop=>
  constructor
  ·rintro-w19 D19;exact an (aC (v:=.slice _ _ _) rfl) rfl
  constructor
  ·rintro-w20 D20;exact an (aC (v:=.int _ _) rfl) rfl
  constructor
  ·rintro-w21 D21;exact an (aC (v:=.int _ _) rfl) rfl
  constructor
  ·rintro-w22 D22;rintro _ rfl _ rfl;exact an (cx rfl rfl (by omega)) rfl
  constructor
  ·rintro-w23 D23;rintro _ rfl _ rfl;exact an (ep (l:=i+m) (h:=n+m) a_ rfl (.inr ⟨_,_,_,rfl,rfl,rfl⟩) (.inl ⟨rfl,rfl⟩) (by omega) (by omega)) rfl
  constructor
  ·rintro-w24 D24;exact an (aC (v:=.slice _ _ _) rfl) rfl
  constructor
  ·rintro-w25 D25;exact an (aC (v:=.int _ _) rfl) rfl
  constructor
  ·rintro-w26 D26;rintro _ rfl _ rfl;exact an (ep (l:=i) (h:=n+m) a_ rfl (.inr ⟨_,_,_,rfl,rfl,rfl⟩) (.inl ⟨rfl,rfl⟩) (by omega) (by omega)) rfl
  exact trivial
 case hend=>
  intro w27 D27;rintro _ rfl _ rfl _ rfl _ rfl _ rfl _ rfl _ rfl _ rfl;show St ..;replace hbz:=eb hbz (ai.grown D27 _);replace hbk:=hbk.from_ D27;have hvr2:=fL D27 hvr;refine kt (news:=xs.drop (i*1)) (g:=g) (o:=(i+m)*1) a_ rfl rfl (by rw [hdl];congr 1;omega) (fun h=>by rw [fC (by rw [hdl] at h;omega),Nat.zero_add]) (fun h=>⟨g,i*1,by rw [fC (by omega),Nat.zero_add],pn hbk hct⟩) hbk (by rw [hdl,hcl];omega) (fun v hv=>h1 v (List.mem_of_mem_drop hv)) ?_;intro w28 O77 P77;replace hbz:=eb hbz (dw.grown O77);refine aq (ah (ao (ag (mvs rfl (mvi rfl (ab (ep (l:=i) (h:=n+m) a_ rfl (.inr ⟨_,_,_,rfl,rfl,rfl⟩) (.inl ⟨rfl,rfl⟩) (by omega) (by omega)) (mvs rfl ?_)))))));refine kt (news:=vs) (g:=g) (o:=i*1) a_ rfl rfl (by rw [hvl];congr 1;omega) (fun h=>by rw [fC (by omega),Nat.zero_add]) (fun h=>⟨b,vo,rfl,fun j v hv=>(O77.cell (Ne.symm hgb)).trans (hvr2 j v hv)⟩) P77 (by rw [hvl,eQ _ _ _ (by rw [hdl,hcl];omega),hcl];omega) h1v ?_;intro w29 O82 P82;replace hbz:=eb hbz (dw.grown O82);refine aq (ah (ao (ag (mvs rfl (ass rfl (aq (ah (aG (aH (bF (v:=.slice _ _ _) rfl rfl ?_))))))))));have hct3:cur.take (i*1)=xs.take (i*1):=by rw [←hct,List.take_take,Nat.min_eq_left (by omega)]
  exact ⟨⟨_,_,rfl,oF hg P82 (by omega) hcm (by rw [eQ _ _ _ (by rw [hvl,eQ _ _ _ (by rw [hdl,hcl];omega),hcl];omega),eQ _ _ _ (by rw [hdl,hcl];omega),hcl]) (pT hi (by omega) hcl hxl hct3 hvl).1,fun q hq=>.inl hq⟩,hbz⟩
theorem yC (x:Int) (w:World) :
 Rt prog 182 [.int .i64 x] w (fun v w'=>v=.bool false∧w=w'):=by
 refine enter (n:=6) Tryz.func182 rfl rfl rfl (ao (ag (asb rfl (aq (ah (ao (ag (mvi rfl (mvi rfl (ab (bL (cz rfl rfl) (bne_self_eq_false _)) (asb rfl (aq (ah (aG ?_))))))))))))));refine bF (v:=.bool _) rfl rfl (⟨rfl,rfl⟩)
theorem yB (x:Int) (w:World) :
 Rt prog 175 [.int .i64 x] w (fun v w'=>v=.bool false∧w=w'):=by
 refine enter (n:=6) Tryz.func175 rfl rfl rfl (ao (ag (asb rfl (aq (ah (ao (ag (mvi rfl (mvi rfl (ab (bL (cz rfl rfl) (bne_self_eq_false _)) (asb rfl (aq (ah (aG ?_))))))))))))));refine bF (v:=.bool _) rfl rfl (⟨rfl,rfl⟩)
theorem uN (x y:Int) (w:World) :
 Rt prog 174 [.int .i64 x,.int .i64 y] w (fun v w'=>v=.bool (decide (x<y))∧w=w'):=by
 refine enter (n:=17) Tryz.func174 rfl rfl rfl (ao (ag (asb rfl (aq (ah (ao (ag (mvi rfl (aE qd (yC _ _) ?_)))))))));rintro v6 w1 ⟨rfl,rfl⟩;refine mvb rfl (ar rfl rfl (ar rfl rfl (ar rfl rfl (ab (aB (v:=.bool _) rfl rfl) (mvb rfl (aj rfl (mvi rfl (aj rfl ?_))))))));refine mvi rfl (aj rfl (ab (cA rfl rfl) (ab (aB (v:=.bool _) rfl rfl) (asb rfl (aq (ah (aG (bF (v:=.bool _) rfl rfl (⟨rfl,rfl⟩)))))))))
theorem vj {l:List Int} {x:Int} {i:Nat} (hs:∀ (i j:Nat) (_hi:i<l.length) (_hj:j<l.length),i<j→l[i]<l[j]) (hlo:∀ k (h:k<l.length),k<i→l[k]<x) (hhi:∀ k (h:k<l.length),i≤k→x≤l[k]) (hne:∀ h:i<l.length,l[i]≠x):x ∉ l:=by
 intro hm;obtain ⟨k,hk,he⟩:=List.getElem_of_mem hm;rcases Nat.lt_trichotomy k i with e | e | e
 ·have:=hlo k hk e;omega
 ·subst e;exact hne hk he
 ·have h1:=hhi i (by omega) (Nat.le_refl _);have h2:=hs i k (by omega) hk e;omega
theorem rS {l:List Int} {x:Int} {i:Nat} (h:i<l.length) (he:l[i]=x):x∈l:=he ▸ List.getElem_mem h
theorem rR (A:Option Addr) (c:Nat) (l:List Int) (x:Int) (w:World) (hr:ew iV w A l) (hl:l.length≤1000000) (hs:l.Pairwise (·<·)) :
 Rt prog 163 [.slice A l.length c,.int .i64 x] w (fun v w'=>(∃ (i:Nat) (b:Bool),v=.tuple #[.int .i64 (i:Nat),.bool b]∧i≤l.length∧(∀ j (h:j<l.length),j<i→l[j]<x)∧(∀ j (h:j<l.length),i≤j→x≤l[j])∧(b=true→x∈l)∧(b=false→x ∉ l))∧ai w w'):=by
 have hs9:=List.pairwise_iff_getElem.1 hs;refine enter (n:=54) Tryz.func163 rfl rfl rfl (ao (ag (asi rfl (asb rfl (aq (ah (ao (ag (mvs rfl (ab (b0 bX rfl) (asi rfl (aq (ah (ao (ag ?_)))))))))))))));refine mvi rfl (asi rfl (asi rfl (aq (ah (ao (bk (dC (G:=Nat×Nat) [9,13,14,15,16,17,18,19,20,21,22,23,24,25,26,27,28,29,30] (fun (i,j)=>[(7,.int .i64 (i:Nat)),(8,.int .i64 (j:Nat))]) (fun (i,j) w'=>i≤j∧j≤l.length∧(∀ k (h:k<l.length),k<i→l[k]<x)∧(∀ k (h:k<l.length),j≤k→x≤l[k])∧ai w w') (fun (i,j)=>j-i) ((0,l.length)) ⟨rfl,rfl,trivial⟩ ?_ ?_)))))))
 ·exact ⟨Nat.zero_le _,Nat.le_refl _,fun x _ h=>absurd h (by omega),fun x h1 h2=>absurd h1 (by omega),ai.rfl_⟩
 rintro ⟨i,j⟩ ρ1 w1 ⟨hij,hjn,hlo,hhi,hB⟩;refine ao (ao (ag (mvi rfl (mvi rfl (ab (cA rfl rfl) (aq (ah (yS rfl (fun Q2=>?_) (fun Q2=>?_)))))))))
 ·obtain ⟨ba,oa,rfl,hcs⟩:=hr (by omega);refine aI (ah (bk (ao (ag (mvi rfl (mvi rfl (ab (cx rfl rfl (by omega)) ?_)))))));obtain ⟨h,hh⟩:∃ h,h=(i+j)/2 ^ 1:=⟨_,rfl⟩;refine ab (s9 n_ qi rfl (by omega)) (ab (vQ (b:=1) rfl rfl (by decide)) (ab (uk qb tB rfl (by omega)) (er (t:=21) (v:=.int _ _) (v':=.int .i64 (h:Nat)) rfl (by rw [hh]) ?_)));refine asi rfl (aq (ah (ao (ag (mvs rfl (mvi rfl (ab (db a_ rfl rfl (by omega)) (ab (au ak rfl (by exact eH hB (hcs h (by omega)))) ?_))))))));refine mvi rfl (aE qf (uN l[h] x _) ?_);rintro v27 w3 ⟨rfl,rfl⟩;refine aq (ah (yS rfl (fun Q4=>?_) (fun Q4=>?_)))
  ·refine ag (mvi rfl (ab (cx (b:=1) rfl rfl (by omega)) (asi rfl (aq (bI ?_)))));refine cu ((h+1,j)) ⟨(by first | rfl | (refine aZ ?_;omega)),(by first | rfl | (refine aZ ?_;omega)),trivial⟩ (by (iterate 41 refine bC rfl ?_);exact bP) ⟨?_,?_⟩
   ·refine ⟨by omega,hjn,fun k hk hki=>?_,hhi,hB⟩;rcases Nat.lt_or_ge k h with e | e
    ·have:=hs9 k h hk (by omega) e;omega
    ·obtain rfl:k=h:=by omega
     omega
   ·show j-(h+1)<j-i;omega
  refine ag (mvi rfl (asi rfl (aq (bI ?_))));refine cu ((i,h)) ⟨(by first | rfl | (refine aZ ?_;omega)),(by first | rfl | (refine aZ ?_;omega)),trivial⟩ (by (iterate 40 refine bC rfl ?_);exact bP) ⟨?_,?_⟩
  ·refine ⟨by omega,by omega,hlo,fun k hk hki=>?_,hB⟩;rcases Nat.lt_or_ge h k with e | e
   ·have:=hs9 h k (by omega) hk e;omega
   ·obtain rfl:k=h:=by omega
    omega
  ·show h-i<j-i;omega
 refine cL (bw (bw (cr (ah (ao (ag (mvi rfl (mvi rfl (mvi rfl (ab (cA rfl rfl) (mvb rfl (ym (t:=35) rfl (fun Q5=>?_) (fun Q5=>?_)))))))))))))
 ·obtain ⟨ba,oa,rfl,hcs⟩:=hr (by omega);refine aj rfl (mvs rfl (aj rfl (mvi rfl (aj rfl (ab (db a_ rfl rfl (by omega)) (aj rfl (ab (au ak rfl (by exact eH hB (hcs i (by omega)))) ?_)))))));refine aj rfl (mvi rfl (aj rfl (ab (bo rfl rfl) (aj rfl (mvb rfl (yl (t:=42) rfl (fun Q6=>?_) (fun Q6=>?_)))))))
  ·refine ar rfl rfl (ar rfl rfl (ar rfl rfl (ar rfl rfl (ar rfl rfl (ar rfl rfl (bU rfl (bU rfl (ar rfl rfl ?_))))))));refine aj rfl (ab (aJ (v:=.bool _) rfl rfl) (ab (aJ (v:=.bool _) rfl rfl) (asi rfl (asb rfl (aq (ah (aG (lO (v:=.int _ _) (v':=.bool _) rfl rfl rfl ?_))))))));obtain rfl:i=j:=by omega
   first
    |exact ⟨⟨i,false,rfl,hjn,hlo,hhi,fun hb=>(by cases hb),fun _=>vj hs9 hlo hhi (fun h9=>by omega)⟩,hB⟩
    |exact ⟨⟨i,true,rfl,hjn,hlo,hhi,fun _=>rS (i:=i) (by omega) (by omega),fun hb=>(by cases hb)⟩,hB⟩
  refine aj rfl (mvs rfl (aj rfl (mvi rfl (aj rfl (ab (db a_ rfl rfl (by omega)) (aj rfl (ab (au ak rfl (by exact eH hB (hcs i (by omega)))) ?_)))))));refine aj rfl (aE qe (yB _ _) ?_);rintro v47 w7 ⟨rfl,rfl⟩;refine aj rfl (mvb rfl (ar rfl rfl (ar rfl rfl (aj rfl (ab (aB (v:=.bool _) rfl rfl) (aj rfl (ab (aB (v:=.bool _) rfl rfl) (ab (aJ (v:=.bool _) rfl rfl) ?_))))))));refine asi rfl (asb rfl (aq (ah (aG (lO (v:=.int _ _) (v':=.bool _) rfl rfl rfl ?_)))));obtain rfl:i=j:=by omega
  first
   |exact ⟨⟨i,false,rfl,hjn,hlo,hhi,fun hb=>(by cases hb),fun _=>vj hs9 hlo hhi (fun h9=>by omega)⟩,hB⟩
   |exact ⟨⟨i,true,rfl,hjn,hlo,hhi,fun _=>rS (i:=i) (by omega) (by omega),fun hb=>(by cases hb)⟩,hB⟩
 refine ar rfl rfl (ar rfl rfl (ar rfl rfl (ar rfl rfl (ar rfl rfl (ar rfl rfl (ar rfl rfl (bU rfl (bU rfl ?_))))))));refine bU rfl (bU rfl (bU rfl (bU rfl (bU rfl (bU rfl (bU rfl (ar rfl rfl (ab (aB (v:=.bool _) rfl rfl) ?_))))))));refine asi rfl (asb rfl (aq (ah (aG (lO (v:=.int _ _) (v':=.bool _) rfl rfl rfl ?_)))));obtain rfl:i=j:=by omega
 first
  |exact ⟨⟨i,false,rfl,hjn,hlo,hhi,fun hb=>(by cases hb),fun _=>vj hs9 hlo hhi (fun h9=>by omega)⟩,hB⟩
  |exact ⟨⟨i,true,rfl,hjn,hlo,hhi,fun _=>rS (i:=i) (by omega) (by omega),fun hb=>(by cases hb)⟩,hB⟩
theorem tK {l:List Int} {x:Int} {i:Nat} (h:eB l x=l.take i++x::l.drop i) (hi:i≤l.length):(eB l x).length=l.length+1:=by
 rw [h,List.length_append,List.length_take,List.length_cons,List.length_drop];omega
theorem tJ {l:List Int} {x:Int} {i:Nat} (h:eB l x=l.take i++x::l.drop i):(eB l x).map iV=(l.map iV).take (i*1)++[iV x]++(l.map iV).drop (i*1):=by
 rw [h,List.map_append,List.map_cons,List.map_take,List.map_drop,Nat.mul_one,List.append_assoc];rfl
theorem vy (A:Option Addr) (c:Nat) (l:List Int) (x:Int) (w:World) (ho:w.ownsRow 0 3 1 (.slice A l.length c) l.length (l.map iV)) (hs:l.Pairwise (·<·)) (hl:l.length≤1000) :
 Rt prog 146 [.slice A l.length c,.int .i64 x] w (fun v w'=>(∃ A' c',v=.slice A' (eB l x).length c'∧w'.ownsRow 0 3 1 (.slice A' (eB l x).length c') (eB l x).length ((eB l x).map iV)∧∀ q,A'.map (·.block)=some q→A.map (·.block)=some q∨w.heap.size≤q)∧w.grownBy w' (A.map (·.block))):=by
 refine enter (n:=20) Tryz.func146 rfl rfl rfl (ao (ag (ass rfl (aq (ah (ao (ag (mvs rfl (mvi rfl (aE qh (rR A c l x _ (((ew.own ho).2).from_ ai.rfl_) (by omega) hs) ?_))))))))));rintro v10 w1 ⟨⟨i,b,rfl,hi,hlo,hhi,hbt,hbf⟩,E10⟩;refine mvt rfl (ab (aK rfl rfl) (ab (aK rfl rfl) (asi rfl (asb rfl (aq (ah (ao (ao (ag (mvb rfl (aq (ah (aO rfl (fun Q2=>?_) (fun Q2=>?_))))))))))))))
 ·refine ao (ag (mvs rfl (ass rfl (aq (ah (aG (aH (bF (v:=.slice _ _ _) rfl rfl ?_))))))));have hin:x∈l:=hbt (by first | rfl | assumption | simp_all);exact ⟨⟨A,c,by rw [o7 hin],by rw [o7 hin];exact ho.kept_from (ai.rfl_.next E10),fun q hq=>.inl hq⟩,((ai.rfl_.next E10)).grown _⟩
 refine aI (ah (ao (ag (mvs rfl (mvi rfl (mvi rfl ?_))))));have hB18:ai w w1:=(ai.rfl_.next E10);refine q8 (l:=[(0,.tmp 17)]) (cells:=#[iV x]) aS rfl rfl (by first | rfl | kernel_rfl) ?_;intro b18 w3 E18 hb18 hk18;refine aE qg (xY 0 A c l.length i 1 b18 0 1 (l.map iV) [iV x] _ _ _ (ho.kept_from ((ai.rfl_.next E10).next E18)) (Nat.zero_le _) hi (by decide) rfl hk18.whole hk18 (fun k hk e=>by have:=dI ho k hk;have:=hB18.size;omega) (fun u hu=>by obtain ⟨y,_,rfl⟩:=List.mem_map.1 hu;rfl) (fun u hu=>by cases List.mem_singleton.1 hu;rfl) (by omega)) ?_;rintro v19 w4 ⟨⟨A19,c19,rfl,ho19,hL19⟩,hg19⟩;refine ass rfl (aq (ah (aG (bF (v:=.slice _ _ _) rfl rfl ?_))));have hni:x ∉ l:=hbf (by first | rfl | assumption | simp_all);have hw:=sS hni i hi hlo hhi;rw [tK hw hi,tJ hw];exact ⟨⟨A19,c19,rfl,ho19,fun q hq=>(hL19 q hq).imp id fun e=>Nat.le_trans (hB18.next E18).size e⟩,eb ((hB18.next E18).grown _) hg19⟩
end Go.Proofs.YtkpooenofjdpmaaGreat
