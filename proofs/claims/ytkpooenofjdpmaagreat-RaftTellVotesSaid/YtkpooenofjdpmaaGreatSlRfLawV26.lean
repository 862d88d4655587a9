/- texts that the claim stands on. -/
import Derived.Test.YtkpooenofjdpmaaGreatSlRfLawV25

set_option maxRecDepth 100000
set_option maxHeartbeats 4000000
namespace Go.Proofs.YtkpooenofjdpmaaGreat
open Go.Proofs.Tryz (prog)
open Go.RowKit
open Go.ChangeShapes Go.WideShapes Go.ChangeAt
theorem ga:aO prog 28=true:=by kernel_rfl
theorem uB:aO prog 60=true:=by kernel_rfl
theorem cZ:j4 prog 29=some (.agg #[.int .i64 0,.int .i64 0,.int .i64 0,.int .i64 0,.int .i64 0,.int .i64 0,.int .i64 0,.int .i64 0,.slice none 0 0,.string ⟨#[]⟩,.int .i64 0,.int .i64 0,.int .i64 0,.int .u64 0,.slice none 0 0,.slice none 0 0,.slice none 0 0,.slice none 0 0,.int .i64 0,.slice none 0 0,.string ⟨#[]⟩,.int .i64 0]):=by kernel_rfl
theorem uD:aO prog 27=true:=by kernel_rfl
theorem uC:aO prog 29=true:=by kernel_rfl
theorem zp (A:Option Addr) (c:Nat) (l:List Int) (w:World) (hr:dE iV w A l) (hl:l.length*8≤140737488351232) :
 Rt prog 28 [.slice A l.length c] w (fun v w'=>∃ A' c',v=.slice A' l.length c'∧w'.ownsRow w.heap.size 3 1 v l.length (l.map iV)∧ah w w'):=by
 refine enter (n:=19) Tryz.func28 rfl rfl rfl (ak (af (ass rfl (aj (ag (ak (af (ass rfl (aj (ag (ak (ak (af (asi rfl (aj (ag (aU (cM (G:=Nat×Option Addr×Nat) [5,6,7,8,9,10,11,12,13,14,15,16,17] (fun g=>[(3,.slice g.2.1 g.1 g.2.2),(4,.int .i64 (g.1:Nat))]) (fun g w'=>g.1≤l.length∧w'.ownsRow w.heap.size 3 1 (.slice g.2.1 g.1 g.2.2) g.1 ((l.take g.1).map iV)∧ah w w') (fun g=>l.length-g.1) ((0,none,0)) ⟨rfl,rfl,trivial⟩ ?_ ?_))))))))))))))))))
 ·exact ⟨Nat.zero_le _,World.ownsRow_nil _ _ _ _,ah.rfl_⟩
 rintro ⟨k,A3,c3⟩ ρ1 w1 ⟨hk,ho,hB⟩;simp only at hk ho;refine ak (ak (af (mvi rfl (mvs rfl (aa (bH bI rfl) (aa (bM rfl rfl) (aj (ag (Bk rfl (fun Q2=>?_) (fun Q2=>?_))))))))))
 ·obtain ⟨ba,oa,rfl,ca⟩:=hr (by omega);refine aM (ag (ak (aU (af (mvs rfl (mvs rfl (mvi rfl (aa (bX bj rfl rfl (by omega)) (aa (ar ao rfl (by first | (exact dP hB (ca k (by omega))))) ?_)))))))));refine eO (v:=.int _ _) bB rfl rfl rfl ?_;intro b16 w3 E16 hb16 hk16;refine rC (a0:=w) bB rfl rfl (ho.kept_from E16) (hB.next E16) rfl hk16 rfl (by omega) (by omega) ?_;intro A17 c17 w4 ho17 B17 hg17;refine ass rfl (aj (bo (ag (af (mvi rfl (aa (b0 rfl rfl (by omega)) (asi rfl (aj ?_))))))));refine cp ((k+1,A17,c17)) ⟨(by first | rfl | (refine br ?_;omega)),(by first | rfl | (refine br ?_;omega)),trivial⟩ (by (iterate 30 refine bA rfl ?_);exact bN) ⟨?_,?_⟩
  ·exact ⟨by simp only;omega,by rw [pk iV (by omega)];exact ho17,B17⟩
  ·simp only;omega
 refine b_ (bf (bf (bL (ag (ak (af (mvs rfl (ass rfl (aj (ag (aB (bn (v:=.slice _ _ _) rfl rfl ?_))))))))))));obtain rfl:k=l.length:=by omega
 exact ⟨A3,c3,rfl,by rwa [List.take_length] at ho,hB⟩
theorem iT (A:Option Addr) (c:Nat) (l:List Int) (w:World) (h:IR w A c l) (hl:l.length≤1000000):Rt prog 28 [.slice A l.length c] w fun v w'=>(∃ A' c',v=.slice A' l.length c'∧w'.ownsRow w.heap.size 3 1 (.slice A' l.length c') l.length (l.map iV))∧ah w w':=
 (zp A c l w h.1 (by omega)).mono fun v w' ⟨A',c',hv,ho,hF⟩=>⟨⟨A',c',hv,hv ▸ ho⟩,hF⟩
theorem cD.grow5 {w w':World} {tag:Nat→Nat} {s:Rf} {a:Ra} (h:cD 5 w tag s a) (hC:Chg (fun k=>tag k=5) w w'):cD 5 w' (fv w.heap.size 5 tag) s a:=
 ⟨fun _=>eg hC (by decide) (h.e (by decide)),fun _=>eg hC (by decide) (h.v (by decide)),fun _=>eg hC (by decide) (h.x (by decide)),fun _=>eg hC (by decide) (h.m (by decide)),fun _=>eg hC (by decide) (h.n (by decide)),fun e=>absurd rfl e,fun e=>absurd rfl e,fun i hi _=>eg hC (by omega) (h.k i hi (by omega))⟩
theorem sg (q:Rd) (A:Option Addr) (c:Nat) (w:World) (h:IR w A c q.acks) (hl:q.acks.length≤1000000) :
 Rt prog 60 [.agg (rdV (q,A,c)).toArray] w (fun v w'=>(∃ A' c',v=.agg (rdV (q,A',c')).toArray∧w'.ownsRow w.heap.size 3 1 (.slice A' q.acks.length c') q.acks.length (q.acks.map iV))∧ah w w'):=by
 refine enter (n:=10) Tryz.func60 rfl rfl rfl (ak (af (bK (v:=.agg _) rfl ?_)));intro b1 w1 E1 hb1 hk1;refine bP jn ?_;intro b2 w2 E2 hb2 hk2;have hg2:w.heap.size≤b2:=by rw [hb2];exact ((ah.rfl_.next E1)).size
 have h12:b1≠b2:=by have:=hk1.lt;omega
 replace hk1:=hk1.from_ E2;refine aj (ag (ak (af (aa (aG (cs:=rdV (q,A,c)) il fm rfl ((hk1.from_ ah.rfl_).whole)) ?_))));have hM3a:ah _ w2:=ah.rfl_;have hk1p:=hk1.from_ hM3a;have hk2p:=hk2.from_ hM3a;refine bP jn ?_;intro b3 w3 E3 hb3 hk3;have hg3:w.heap.size≤b3:=by rw [hb3];exact (((ah.rfl_.next E1).next E2)).size
 have hM3:=hM3a.next E3;replace hk1:=hk1.from_ hM3;replace hk2:=hk2.from_ hM3;have h13:b1≠b3:=fun e=>by have h9:=hk1p.lt;omega
 have h23:b2≠b3:=fun e=>by have h9:=hk2p.lt;omega
 refine cg (vs:=[_,_,_,_]) fm rfl rfl (by simp [Value.oneCell']) (hk3) rfl ?_;intro w4 O1 P1;replace hk1:=hk1.only O1 h13;replace hk2:=hk2.only O1 h23;refine aj (ag (ak (af (aa (ab eX rfl) (aa (ar bc rfl (by exact (show _=some (Value.slice A q.acks.length c) from (hk1.from_ ah.rfl_).rd 3 rfl))) ?_)))));have hz7:=(((((ah.rfl_.next E1).next E2).next E3).only O1 (hg3))).size;refine ay ga (iT A c q.acks _ (h.from_ ((((ah.rfl_.next E1).next E2).next E3).only O1 (hg3))) hl) ?_;rintro v7 w5 ⟨⟨A7,c7,rfl,ho7⟩,E7⟩;refine aa (ab eX rfl) ?_;have hM8:ah _ w5:=(ah.rfl_.next E7);refine fR (v:=.slice _ _ _) cy rfl rfl rfl ((P1.from_ (ah.rfl_.next E7))) (by show _<4;decide) ?_;intro w6 O2 P2;replace hk2:=(hk2.from_ hM8).only O2 h23;replace ho7:=gi ho7 O2 (kU ho7 (P1.from_ hM8) (by decide));refine aj (ag (ak (af (aa (aG (cs:=rdV (q,A7,c7)) il fm rfl ((P2.from_ ah.rfl_).whole)) ?_))));have hM9:ah _ w6:=ah.rfl_;refine cg (vs:=[_,_,_,_]) fm rfl rfl (by simp [Value.oneCell']) ((hk2.from_ ah.rfl_)) rfl ?_;intro w7 O3 P3;replace ho7:=gi (ho7.kept_from hM9) O3 (kU (ho7.kept_from hM9) (hk2.from_ hM9) (by decide));refine aj (ag (aB (lR rfl (dM (cs:=[_,_,_,_]) il fm rfl (by exact P3.whole)) ?_)));exact ⟨⟨A7,c7,rfl,ei ho7 hz7⟩,(((((((ah.rfl_.next E1).next E2).next E3).only O1 (hg3)).next E7).only O2 (hg3)).only O3 (hg2))⟩
theorem By {A A':Option Addr} {n:Nat} (hL:A'.map (·.block)=A.map (·.block)∨A'.map (·.block)=some n):∀ k,A'.map (·.block)=some k→A.map (·.block)=some k∨n≤k:=fun k hk=>by
 rcases hL with e | e
 ·exact .inl (e ▸ hk)
 ·rw [e] at hk;cases hk;exact .inr (Nat.le_refl _)
theorem qF (x:Rd×Option Addr×Nat) (w:World) (h:IR w x.2.1 x.2.2 x.1.acks) (hl:x.1.acks.length≤1000000):Rt prog 60 [.agg (rdV x).toArray] w fun v w'=>(∃ A' c',v=.agg (rdV (x.1,A',c')).toArray∧w'.ownsRow w.heap.size 3 1 (.slice A' x.1.acks.length c') x.1.acks.length (x.1.acks.map iV))∧ah w w':=
 sg x.1 x.2.1 x.2.2 w h hl
theorem qE (s:Rf) (a:Ra) (tag:Nat→Nat) (Q:Option Addr) (Qc:Nat) (LL:List (Rd×Option Addr×Nat)) (w:World) (hg:cD 5 w tag s a) (ha:a.L=[]) (hq:g_ 4 rdV w Q LL) (hk:∀ x∈LL,IR w x.2.1 x.2.2 x.1.acks) (hle:∀ x∈LL,x.1.acks.length≤1000000) (hn:LL.length≤1000000) :
 Rt prog 29 [.slice Q LL.length Qc] w (fun v w'=>(∃ tag' Q' c' N,v=.slice Q' LL.length c'∧N.map (fun q=>q.1)=LL.map (fun q=>q.1)∧cD 5 w' tag' s { a with L:=N }∧(∀ k,k<w.heap.size→tag' k=tag k)∧Col tag' 5 Q'∧w'.ownsRow 0 54 4 (.slice Q' LL.length c') LL.length (N.flatMap rdV))∧ah w w'):=by
 refine enter (n:=20) Tryz.func29 rfl rfl rfl (ak (af (ass rfl (aj (ag (ak (af (ass rfl (aj (ag (ak (ak (af (asi rfl (aj (ag (aU (cM (G:=List (Rd×Option Addr×Nat)×(Nat→Nat)×Option Addr×Nat) [5,6,7,8,9,10,11,12,13,14,15,16,17,18] (fun (N,tg,A3,c3)=>[(3,.slice A3 N.length c3),(4,.int .i64 (N.length:Nat))]) (fun (N,tg,A3,c3) w'=>N.length≤LL.length∧(∀ i (h:i<N.length) (h2:i<LL.length),N[i].1=LL[i].1)∧cD 5 w' tg s { a with L:=N }∧(∀ k,k<w.heap.size→tg k=tag k)∧Col tg 5 A3∧w'.ownsRow w.heap.size 54 4 (.slice A3 N.length c3) N.length (N.flatMap rdV)∧ah w w') (fun (N,_)=>LL.length-N.length) (([],tag,none,0)) ⟨rfl,rfl,trivial⟩ ?_ ?_))))))))))))))))))
 ·exact ⟨Nat.zero_le _,fun i h=>absurd h (Nat.not_lt_zero _),(by rw [←ha];exact hg.from_ ah.rfl_),fun _ _=>rfl,Col.none,World.ownsRow_nil _ _ _ _,ah.rfl_⟩
 rintro ⟨N,tg,A3,c3⟩ ρ1 w1 ⟨hNl,hNe,hgN,htN,hcN,hrN,hBN⟩;refine ak (ak (af (mvi rfl (mvs rfl (aa (bH eS rfl) (aa (bM rfl rfl) (aj (ag (Bk rfl (fun Q2=>?_) (fun Q2=>?_))))))))))
 ·have hNL:N.length<LL.length:=by omega
  obtain ⟨ba,oa,rfl,hca⟩:=hq (by omega);have hkN:=hk _ (List.getElem_mem hNL);have hlN:=hle _ (List.getElem_mem hNL);refine aM (ag (ak (aU (af (mvs rfl (mvs rfl (mvi rfl (aa (iz fV rfl rfl (by omega)) (aa (aG (cs:=rdV LL[N.length]) il fm rfl (eZ hBN (hca N.length hNL))) ?_)))))))));have hgN9:=hgN.from_ ah.rfl_;have hz16:=(hBN).size;have hrN9:=hrN.kept_from ah.rfl_;refine ay uB (qF LL[N.length] _ (hkN.from_ hBN) hlN) ?_;rintro v16 w3 ⟨⟨A16,c16,rfl,ho16⟩,E16⟩;obtain ⟨t16,hg16,ht16,hc16⟩:∃ t,cD 5 w3 t s { a with L:=(N++[(LL[N.length].1,A16,c16)]) }∧(∀ k,k<w.heap.size→t k=tag k)∧Col t 5 A3:=⟨_,hgN9.ack E16 (q:=LL[N.length].1) ho16,fun k hk=>(cQ (Nat.lt_of_lt_of_le hk hz16)).trans (htN k hk),hcN.re (fun k hk=>(d_ hrN9 k hk).2)⟩;refine jq (l:=[(0,.tmp 16)]) (cells:=(rdV (LL[N.length].1,A16,c16)).toArray) jo rfl rfl (by show Instr.fill _ _ [(0,Value.agg (rdV (LL[N.length].1,A16,c16)).toArray)]=_;kernel_rfl) ?_;intro b17 w4 E17 hb17 hk17;have hM18:ah _ w4:=((ah.rfl_.next E16).next E17);have hB18:ah w w4:=((hBN.next E16).next E17);have hM18:ah _ w4:=((ah.rfl_.next E16).next E17);have hB18:ah w w4:=((hBN.next E16).next E17);have hr18:=hrN.kept_from hM18;refine fW (news:=rdV (LL[N.length].1,A16,c16)) jo rfl (by decide) rfl hr18 hB18.size rfl rfl ⟨b17,0,rfl,hk17.whole⟩ (by simp [rdV,Value.oneCell']) (by omega) (by omega) ?_;intro A18 c18 w5 ho18 hgr18 hL18;obtain ⟨t18,hg18,ht18,hc18⟩:∃ t,cD 5 w5 t s { a with L:=(N++[(LL[N.length].1,A16,c16)]) }∧(∀ k,k<w.heap.size→t k=tag k)∧Col t 5 A18:=⟨_,(hg16.from_ (ah.rfl_.next E17)).grow5 (Chg.of_grown hgr18 (fun q hq=>hc16 q hq)),fun k hk=>(cQ (Nat.lt_of_lt_of_le hk hB18.size)).trans (ht16 k hk),hc16.new (fun k hk=>(d_ hr18 k hk).2) (By hL18)⟩;have hF18:ah w w5:=hB18.grew hgr18 (fun k hk=>(d_ hr18 k hk).1);refine ass rfl (aj (bo (ag (af (mvi rfl (aa (b0 rfl rfl (by omega)) (asi rfl (aj ?_))))))));refine cp (((N++[(LL[N.length].1,A16,c16)]),t18,A18,c18)) ⟨(show Value.slice A18 (N.length+1) c18=Value.slice A18 (N++[(LL[N.length].1,A16,c16)]).length c18 by rw [List.length_append];rfl),br (by rw [List.length_append,List.length_singleton];omega),trivial⟩ (by (iterate 32 refine bA rfl ?_);exact bN) ⟨?_,?_⟩
  ·have e18:(N++[(LL[N.length].1,A16,c16)]).length=N.length+1:=by rw [List.length_append];rfl
   refine ⟨by omega,fun i h h2=>?_,hg18.from_ ah.rfl_,ht18,hc18,?_,hF18⟩
   ·rcases Nat.lt_or_ge i N.length with e | e
    ·rw [List.getElem_append_left e];exact hNe i e h2
    ·obtain rfl:i=N.length:=by omega
     simp only [List.getElem_append_right (Nat.le_refl _),Nat.sub_self,List.getElem_singleton]
   ·have h9:=ho18.kept_from ah.rfl_;show World.ownsRow _ _ _ _ (.slice A18 (N++[(LL[N.length].1,A16,c16)]).length c18) (N++[(LL[N.length].1,A16,c16)]).length ((N++[(LL[N.length].1,A16,c16)]).flatMap rdV);rw [e18,List.flatMap_append,show [(LL[N.length].1,A16,c16)].flatMap rdV=rdV (LL[N.length].1,A16,c16) from List.append_nil _];exact h9
  ·show LL.length-(N++[_]).length<LL.length-N.length;rw [List.length_append,List.length_singleton];omega
 refine b_ (bf (bf (bL (ag (ak (af (mvs rfl (ass rfl (aj (ag (aB (bn (v:=.slice _ _ _) rfl rfl ?_))))))))))));have hNf:N.length=LL.length:=by omega
 rw [hNf] at hrN;refine ⟨⟨tg,A3,c3,N,by rw [hNf],?_,hgN.from_ ah.rfl_,htN,hcN,ei (hrN.kept_from ah.rfl_) (Nat.zero_le _)⟩,hBN⟩;refine List.ext_getElem (by simp [hNf]) fun i h1 h2=>?_
 simp only [List.getElem_map];exact hNe i (by simpa using h1) (by simpa using h2)
theorem jk (s:Rf) (a:Ra) (w:World) (hrd:eM w s a) (hl:s.votes.length≤1000000∧s.next.length≤1000000∧s.mtch.length≤1000000∧s.sent.length≤1000000∧s.reads.length≤1000000∧∀ q∈s.reads,q.acks.length≤1000000) (hel:s.es.length≤1000000) :
 Rt prog 16 [.agg (rfV s a).toArray] w (fun v w'=>(∃ tag a',v=.agg (rfV s a').toArray∧bh w' tag s a'∧∀ k,k<w.heap.size→tag k=8)∧ah w w'):=by
 obtain ⟨E,Ec,V,Vc,X,Xc,M,Mc,Sn,Sc,Q,Qc,LL⟩:=a;obtain ⟨hl1,hl2,hl3,hl4,hl5,hl6⟩:=hl;have hrL:LL.map (fun q=>q.1)=s.reads:=hrd.r;have hrk:∀ q∈LL,IR w q.2.1 q.2.2 q.1.acks:=hrd.k;have hrq:g_ 4 rdV w Q LL:=hrd.q;have hLl:LL.length=s.reads.length:=by rw [←hrL,List.length_map]
 have hqm:LL.length≤1000000:=by omega
 refine enter (n:=30) Tryz.func16 rfl rfl rfl (ak (af (bK (v:=.agg _) rfl ?_)));intro b1 w1 E1 hb1 hk1;refine bP cZ ?_;intro b2 w2 E2 hb2 hk2;have hg2:w.heap.size≤b2:=by rw [hb2];exact ((ah.rfl_.next E1)).size
 have hlt1:=hk1.lt;replace hk1:=hk1.from_ E2;refine aj (ag (ak (af (aa (aG (cs:=rfV s (⟨E,Ec,V,Vc,X,Xc,M,Mc,Sn,Sc,Q,Qc,LL⟩:Ra)) aP aF rfl (hk1.whole)) (bP cZ ?_)))));intro b3 w3 E3 hb3 hk3;have hg3:w.heap.size≤b3:=by rw [hb3];exact (((ah.rfl_.next E1).next E2)).size
 have hlt2:=hk2.lt;have hlt1b:=hk1.lt;replace hk1:=hk1.from_ E3;replace hk2:=hk2.from_ E3;have h13:b1≠b3:=by omega
 have h23:b2≠b3:=by omega
 have ht0:∀ k,k≤b3→(fun _:Nat=>8) k=8:=fun _ _=>rfl
 refine cg (vs:=[_,_,_,_,_,_,_,_,_,_,_,_,_,_,_,_,_,_,_,_,_,_]) aF rfl rfl (by simp [Value.oneCell']) (hk3) rfl ?_;intro w4 O1 P1;replace hk1:=hk1.only O1 h13;replace hk2:=hk2.only O1 h23;have hx1:Blk w4 b3 29 (rfV s (⟨E,Ec,V,Vc,X,Xc,M,Mc,Sn,Sc,Q,Qc,LL⟩:Ra)++[]).toArray:=P1;refine aj (ag (ak (af (aa (ab bq rfl) (aa (aG (cs:=[.int .i64 s.b,.int .i64 s.t,.slice E s.es.length Ec]) dd cT rfl (js (show Blk _ b1 29 (rfV s (⟨E,Ec,V,Vc,X,Xc,M,Mc,Sn,Sc,Q,Qc,LL⟩:Ra)++[]).toArray from hk1.from_ ah.rfl_))) ?_)))));have hN7:ah _ w4:=ah.rfl_;have hx1n:=hx1.from_ hN7;have hlt7:=hx1n.lt;replace hk1:=hk1.from_ ah.rfl_;replace hk2:=hk2.from_ ah.rfl_;have hf0n:bh w4 (fun _=>8) ({ s with es:=[],votes:=[],next:=[],mtch:=[],sent:=[],reads:=[] }:Rf) a0:=bh.same bh.zero rfl rfl rfl rfl rfl rfl;refine ay uD (tX s.b s.t E s.es.length Ec s.es _ (hrd.e.from_ ((((ah.rfl_.next E1).next E2).next E3).only O1 (hg3))) (by omega)) ?_;rintro v7 w5 ⟨A7,c7,rfl,ho7,_,E7⟩;obtain ⟨tag1,hf1,ht1⟩:∃ t,bh w5 t ({ s with es:=s.es,votes:=[],next:=[],mtch:=[],sent:=[],reads:=[] }:Rf) (⟨A7,c7,none,0,none,0,none,0,none,0,none,0,[]⟩:Ra)∧(∀ k,k≤b3→t k=8):=⟨_,cD.log (bh.but (c:=0) hf0n (ah.toChg E7)) s.b s.t rfl (ei ho7 (Nat.zero_le _)) (fun k hk=>dB (d_ ho7 k hk).1),fun k hk=>(cQ (by omega)).trans (ht0 k hk)⟩;replace hx1n:=hx1n.from_ E7;replace hk1:=hk1.from_ E7;replace hk2:=hk2.from_ E7;refine aa (ab bq rfl) ?_;have hS1:ah _ w5:=ah.rfl_;have hB1:ah w w5:=(((((ah.rfl_.next E1).next E2).next E3).only O1 (hg3)).next E7);refine pD (s:=s) (a:=(⟨E,Ec,V,Vc,X,Xc,M,Mc,Sn,Sc,Q,Qc,LL⟩:Ra)) (R:=[]) (b:=s.b) (t9:=s.t) (es:=s.es) rfl cT rfl rfl (hx1n.from_ hS1) ?_;intro w6 O1_0 P1_0;have hx2:Blk w6 b3 29 (rfV s (⟨A7,c7,V,Vc,X,Xc,M,Mc,Sn,Sc,Q,Qc,LL⟩:Ra)++[]).toArray:=P1_0;replace hf1:=(hf1.from_ hS1).chg8 (O1_0.toChg rfl) (ht1 b3 (Nat.le_refl _));replace hk1:=(hk1.from_ hS1).only O1_0 h13;replace hk2:=(hk2.from_ hS1).only O1_0 h23;refine aj (ag (ak (af (aa (ab cf rfl) (aa (ar bc rfl (by exact (show _=some (Value.slice V s.votes.length Vc) from (hk1.from_ ah.rfl_).rd 14 rfl))) ?_)))));have hN11:ah _ w6:=ah.rfl_;have hx2n:=hx2.from_ hN11;have hlt11:=hx2n.lt;replace hk1:=hk1.from_ ah.rfl_;replace hk2:=hk2.from_ ah.rfl_;have hf1n:=hf1.from_ hN11;refine ay ga (iT V Vc s.votes _ (IR.from_ hrd.v (hB1.only O1_0 hg3)) hl1) ?_;rintro v11 w7 ⟨⟨A11,c11,rfl,ho11⟩,E11⟩;obtain ⟨tag2,hf2,ht2⟩:∃ t,bh w7 t ({ s with es:=s.es,votes:=s.votes,next:=[],mtch:=[],sent:=[],reads:=[] }:Rf) (⟨A7,c7,A11,c11,none,0,none,0,none,0,none,0,[]⟩:Ra)∧(∀ k,k≤b3→t k=8):=⟨_,cD.votes (bh.but (c:=1) hf1n (ah.toChg E11)) rfl (ei ho11 (Nat.zero_le _)) (fun k hk=>dB (d_ ho11 k hk).1),fun k hk=>(cQ (by omega)).trans (ht1 k hk)⟩;replace hx2n:=hx2n.from_ E11;replace hk1:=hk1.from_ E11;replace hk2:=hk2.from_ E11;refine aa (ab cf rfl) ?_;have hS2:ah _ w7:=ah.rfl_;refine cj (s':=s) (a':=(⟨A7,c7,A11,c11,X,Xc,M,Mc,Sn,Sc,Q,Qc,LL⟩:Ra)) (v:=.slice _ _ _) cy rfl rfl rfl ((hx2n.from_ hS2)) (by exact ⟨by decide,rfl⟩) ?_;intro w8 O2_0 P2_0;have hx3:Blk w8 b3 29 (rfV s (⟨A7,c7,A11,c11,X,Xc,M,Mc,Sn,Sc,Q,Qc,LL⟩:Ra)++[]).toArray:=P2_0;replace hf2:=(hf2.from_ hS2).chg8 (O2_0.toChg rfl) (ht2 b3 (Nat.le_refl _));replace hk1:=(hk1.from_ hS2).only O2_0 h13;replace hk2:=(hk2.from_ hS2).only O2_0 h23;refine aj (ag (ak (af (aa (ab bY rfl) (aa (ar bc rfl (by exact (show _=some (Value.slice X s.next.length Xc) from (hk1.from_ ah.rfl_).rd 15 rfl))) ?_)))));have hN15:ah _ w8:=ah.rfl_;have hx3n:=hx3.from_ hN15;have hlt15:=hx3n.lt;replace hk1:=hk1.from_ ah.rfl_;replace hk2:=hk2.from_ ah.rfl_;have hf2n:=hf2.from_ hN15;refine ay ga (iT X Xc s.next _ (IR.from_ hrd.x (((hB1.only O1_0 hg3).next E11).only O2_0 (hg3))) hl2) ?_;rintro v15 w9 ⟨⟨A15,c15,rfl,ho15⟩,E15⟩;obtain ⟨tag3,hf3,ht3⟩:∃ t,bh w9 t ({ s with es:=s.es,votes:=s.votes,next:=s.next,mtch:=[],sent:=[],reads:=[] }:Rf) (⟨A7,c7,A11,c11,A15,c15,none,0,none,0,none,0,[]⟩:Ra)∧(∀ k,k≤b3→t k=8):=⟨_,cD.next (bh.but (c:=2) hf2n (ah.toChg E15)) rfl (ei ho15 (Nat.zero_le _)) (fun k hk=>dB (d_ ho15 k hk).1),fun k hk=>(cQ (by omega)).trans (ht2 k hk)⟩;replace hx3n:=hx3n.from_ E15;replace hk1:=hk1.from_ E15;replace hk2:=hk2.from_ E15;refine aa (ab bY rfl) ?_;have hS3:ah _ w9:=ah.rfl_;refine cj (s':=s) (a':=(⟨A7,c7,A11,c11,A15,c15,M,Mc,Sn,Sc,Q,Qc,LL⟩:Ra)) (v:=.slice _ _ _) cy rfl rfl rfl ((hx3n.from_ hS3)) (by exact ⟨by decide,rfl⟩) ?_;intro w10 O3_0 P3_0;have hx4:Blk w10 b3 29 (rfV s (⟨A7,c7,A11,c11,A15,c15,M,Mc,Sn,Sc,Q,Qc,LL⟩:Ra)++[]).toArray:=P3_0;replace hf3:=(hf3.from_ hS3).chg8 (O3_0.toChg rfl) (ht3 b3 (Nat.le_refl _));replace hk1:=(hk1.from_ hS3).only O3_0 h13;replace hk2:=(hk2.from_ hS3).only O3_0 h23;refine aj (ag (ak (af (aa (ab cu rfl) (aa (ar bc rfl (by exact (show _=some (Value.slice M s.mtch.length Mc) from (hk1.from_ ah.rfl_).rd 16 rfl))) ?_)))));have hN19:ah _ w10:=ah.rfl_;have hx4n:=hx4.from_ hN19;have hlt19:=hx4n.lt;replace hk1:=hk1.from_ ah.rfl_;replace hk2:=hk2.from_ ah.rfl_;have hf3n:=hf3.from_ hN19;refine ay ga (iT M Mc s.mtch _ (IR.from_ hrd.m (((((hB1.only O1_0 hg3).next E11).only O2_0 (hg3)).next E15).only O3_0 (hg3))) hl3) ?_;rintro v19 w11 ⟨⟨A19,c19,rfl,ho19⟩,E19⟩;obtain ⟨tag4,hf4,ht4⟩:∃ t,bh w11 t ({ s with es:=s.es,votes:=s.votes,next:=s.next,mtch:=s.mtch,sent:=[],reads:=[] }:Rf) (⟨A7,c7,A11,c11,A15,c15,A19,c19,none,0,none,0,[]⟩:Ra)∧(∀ k,k≤b3→t k=8):=⟨_,cD.mtch (bh.but (c:=3) hf3n (ah.toChg E19)) rfl (ei ho19 (Nat.zero_le _)) (fun k hk=>dB (d_ ho19 k hk).1),fun k hk=>(cQ (by omega)).trans (ht3 k hk)⟩;replace hx4n:=hx4n.from_ E19;replace hk1:=hk1.from_ E19;replace hk2:=hk2.from_ E19;refine aa (ab cu rfl) ?_;have hS4:ah _ w11:=ah.rfl_;refine cj (s':=s) (a':=(⟨A7,c7,A11,c11,A15,c15,A19,c19,Sn,Sc,Q,Qc,LL⟩:Ra)) (v:=.slice _ _ _) cy rfl rfl rfl ((hx4n.from_ hS4)) (by exact ⟨by decide,rfl⟩) ?_;intro w12 O4_0 P4_0;have hx5:Blk w12 b3 29 (rfV s (⟨A7,c7,A11,c11,A15,c15,A19,c19,Sn,Sc,Q,Qc,LL⟩:Ra)++[]).toArray:=P4_0;replace hf4:=(hf4.from_ hS4).chg8 (O4_0.toChg rfl) (ht4 b3 (Nat.le_refl _));replace hk1:=(hk1.from_ hS4).only O4_0 h13;replace hk2:=(hk2.from_ hS4).only O4_0 h23;refine aj (ag (ak (af (aa (ab cN rfl) (aa (ar bc rfl (by exact (show _=some (Value.slice Sn s.sent.length Sc) from (hk1.from_ ah.rfl_).rd 17 rfl))) ?_)))));have hN23:ah _ w12:=ah.rfl_;have hx5n:=hx5.from_ hN23;have hlt23:=hx5n.lt;replace hk1:=hk1.from_ ah.rfl_;replace hk2:=hk2.from_ ah.rfl_;have hf4n:=hf4.from_ hN23;refine ay ga (iT Sn Sc s.sent _ (IR.from_ hrd.n (((((((hB1.only O1_0 hg3).next E11).only O2_0 (hg3)).next E15).only O3_0 (hg3)).next E19).only O4_0 (hg3))) hl4) ?_;rintro v23 w13 ⟨⟨A23,c23,rfl,ho23⟩,E23⟩;obtain ⟨tag5,hf5,ht5⟩:∃ t,bh w13 t ({ s with es:=s.es,votes:=s.votes,next:=s.next,mtch:=s.mtch,sent:=s.sent,reads:=[] }:Rf) (⟨A7,c7,A11,c11,A15,c15,A19,c19,A23,c23,none,0,[]⟩:Ra)∧(∀ k,k≤b3→t k=8):=⟨_,cD.sent (bh.but (c:=4) hf4n (ah.toChg E23)) rfl (ei ho23 (Nat.zero_le _)) (fun k hk=>dB (d_ ho23 k hk).1),fun k hk=>(cQ (by omega)).trans (ht4 k hk)⟩;replace hx5n:=hx5n.from_ E23;replace hk1:=hk1.from_ E23;replace hk2:=hk2.from_ E23;refine aa (ab cN rfl) ?_;have hS5:ah _ w13:=ah.rfl_;refine cj (s':=s) (a':=(⟨A7,c7,A11,c11,A15,c15,A19,c19,A23,c23,Q,Qc,LL⟩:Ra)) (v:=.slice _ _ _) cy rfl rfl rfl ((hx5n.from_ hS5)) (by exact ⟨by decide,rfl⟩) ?_;intro w14 O5_0 P5_0;have hx6:Blk w14 b3 29 (rfV s (⟨A7,c7,A11,c11,A15,c15,A19,c19,A23,c23,Q,Qc,LL⟩:Ra)++[]).toArray:=P5_0;replace hf5:=(hf5.from_ hS5).chg8 (O5_0.toChg rfl) (ht5 b3 (Nat.le_refl _));replace hk1:=(hk1.from_ hS5).only O5_0 h13;replace hk2:=(hk2.from_ hS5).only O5_0 h23;refine aj (ag (ak (af (aa (ab bU rfl) (aa (ar dR rfl (by exact (show _=some (Value.slice Q LL.length Qc) from (hk1.from_ ah.rfl_).rd 19 rfl))) ?_)))));have hN27:ah _ w14:=ah.rfl_;have hx6n:=hx6.from_ hN27;have hlt27:=hx6n.lt;replace hk1:=hk1.from_ ah.rfl_;replace hk2:=hk2.from_ ah.rfl_;have hf5n:=bh.but (c:=5) (hf5.from_ hN27) ah.rfl_.toChg;refine ay uC (qE ({ s with es:=s.es,votes:=s.votes,next:=s.next,mtch:=s.mtch,sent:=s.sent,reads:=[] }:Rf) (⟨A7,c7,A11,c11,A15,c15,A19,c19,A23,c23,none,0,[]⟩:Ra) _ Q Qc LL _ hf5n rfl (hrq.from_ (((((((((hB1.only O1_0 hg3).next E11).only O2_0 (hg3)).next E15).only O3_0 (hg3)).next E19).only O4_0 (hg3)).next E23).only O5_0 (hg3))) (fun x hx=>(hrk x hx).from_ (((((((((hB1.only O1_0 hg3).next E11).only O2_0 (hg3)).next E15).only O3_0 (hg3)).next E19).only O4_0 (hg3)).next E23).only O5_0 (hg3))) (fun x hx=>hl6 _ (by rw [←hrL];exact List.mem_map_of_mem hx)) hqm) ?_;rintro v27 w15 ⟨⟨tag6,A27,c27,N,rfl,hNe,hg6,ht6a,hc6,hr6⟩,E27⟩;have ht6:∀ k,k≤b3→tag6 k=8:=fun k hk=>(ht6a k (by omega)).trans ((cQ (by omega)).trans (ht5 k hk))
 replace hx6n:=hx6n.from_ E27;replace hk2:=hk2.from_ E27;have hfin:=cD.reads hg6 (A:=A27) (c:=c27) (n:=LL.length) (by have h9:=congrArg List.length hNe;rw [List.length_map,List.length_map] at h9;exact h9.symm) hr6 hc6;rw [show ({ (⟨A7,c7,A11,c11,A15,c15,A19,c19,A23,c23,none,0,[]⟩:Ra) with L:=N }:Ra).L=N from rfl,hNe,hrL] at hfin;refine aa (ab bU rfl) ?_;have hS6:ah _ w15:=ah.rfl_;refine cj (s':=s) (a':=(⟨A7,c7,A11,c11,A15,c15,A19,c19,A23,c23,A27,c27,LL⟩:Ra)) (v:=.slice _ _ _) iW rfl rfl rfl ((hx6n.from_ hS6)) (by exact ⟨by decide,rfl⟩) ?_;intro w16 O6_0 P6_0;have hx7:Blk w16 b3 29 (rfV s (⟨A7,c7,A11,c11,A15,c15,A19,c19,A23,c23,A27,c27,LL⟩:Ra)++[]).toArray:=P6_0;replace hfin:=(hfin.from_ hS6).chg8 (O6_0.toChg rfl) (ht6 b3 (Nat.le_refl _));replace hk2:=(hk2.from_ hS6).only O6_0 h23;refine aj (ag (ak (af (aa (aG (cs:=rfV s (⟨A7,c7,A11,c11,A15,c15,A19,c19,A23,c23,A27,c27,LL⟩:Ra)) aP aF rfl (mF (hx7.from_ ah.rfl_))) ?_))));have hM8:ah _ w16:=ah.rfl_;refine cg (vs:=[_,_,_,_,_,_,_,_,_,_,_,_,_,_,_,_,_,_,_,_,_,_]) aF rfl rfl (by simp [Value.oneCell']) ((hk2.from_ ah.rfl_)) rfl ?_;intro w17 O8 P8;refine aj (ag (aB (lR rfl (dM (cs:=[_,_,_,_,_,_,_,_,_,_,_,_,_,_,_,_,_,_,_,_,_,_]) aP aF rfl (by exact P8.whole)) ?_)));refine ⟨⟨tag6,(⟨A7,c7,A11,c11,A15,c15,A19,c19,A23,c23,A27,c27,N⟩:Ra),?_,(hfin.from_ hM8).chg8 (O8.toChg rfl) (ht6 b2 (by omega)),fun k hk=>ht6 k (by omega)⟩,((((((((((((hB1.only O1_0 hg3).next E11).only O2_0 (hg3)).next E15).only O3_0 (hg3)).next E19).only O4_0 (hg3)).next E23).only O5_0 (hg3)).next E27).only O6_0 (hg3)).only O8 (hg2))⟩;show Value.agg (rfV s (⟨A7,c7,A11,c11,A15,c15,A19,c19,A23,c23,A27,c27,LL⟩:Ra)).toArray=Value.agg (rfV s (⟨A7,c7,A11,c11,A15,c15,A19,c19,A23,c23,A27,c27,N⟩:Ra)).toArray;have h9:=congrArg List.length hNe;rw [List.length_map,List.length_map] at h9;unfold rfV;simp only [h9]
theorem fu:prog.built 29 []=some #[.int .i64 0,.int .i64 0,.int .i64 0,.int .i64 0,.int .i64 0,.int .i64 0,.int .i64 0,.int .i64 0,.slice none 0 0,.string ⟨#[]⟩,.int .i64 0,.int .i64 0,.int .i64 0,.int .u64 0,.slice none 0 0,.slice none 0 0,.slice none 0 0,.slice none 0 0,.int .i64 0,.slice none 0 0,.string ⟨#[]⟩,.int .i64 0]:=by kernel_rfl
theorem mR:∀ (a0:Int) (a1:Int) (a2:Int),prog.built 29 [(0,.int .i64 a0),(1,.int .i64 a1),(11,.int .u64 a2)]=some #[.int .i64 a0,.int .i64 a1,.int .i64 0,.int .i64 0,.int .i64 0,.int .i64 0,.int .i64 0,.int .i64 0,.slice none 0 0,.string ⟨#[]⟩,.int .i64 0,.int .i64 0,.int .i64 0,.int .u64 a2,.slice none 0 0,.slice none 0 0,.slice none 0 0,.slice none 0 0,.int .i64 0,.slice none 0 0,.string ⟨#[]⟩,.int .i64 0]:=by intros;kernel_rfl
theorem sC:∀ (a0:Int) (a1:Int) (a2:Int) (a3:Int) (a4:Int) (a5:Int) (a6:Int) (a7:Int) (a8:Option Addr) (a9 a10:Nat) (a11:ByteArray) (a12:Int) (a13:Int) (a14:Int) (a15:Int) (a16:Option Addr) (a17 a18:Nat) (a19:Option Addr) (a20 a21:Nat) (a22:Option Addr) (a23 a24:Nat) (a25:Option Addr) (a26 a27:Nat) (a28:Int) (a29:Option Addr) (a30 a31:Nat) (a32:ByteArray) (a33:Int),prog.built 91 [(0,.agg #[.int .i64 a0,.int .i64 a1,.int .i64 a2,.int .i64 a3,.int .i64 a4,.int .i64 a5,.int .i64 a6,.int .i64 a7,.slice a8 a9 a10,.string a11,.int .i64 a12,.int .i64 a13,.int .i64 a14,.int .u64 a15,.slice a16 a17 a18,.slice a19 a20 a21,.slice a22 a23 a24,.slice a25 a26 a27,.int .i64 a28,.slice a29 a30 a31,.string a32,.int .i64 a33])]=some #[.int .i64 a0,.int .i64 a1,.int .i64 a2,.int .i64 a3,.int .i64 a4,.int .i64 a5,.int .i64 a6,.int .i64 a7,.slice a8 a9 a10,.string a11,.int .i64 a12,.int .i64 a13,.int .i64 a14,.int .u64 a15,.slice a16 a17 a18,.slice a19 a20 a21,.slice a22 a23 a24,.slice a25 a26 a27,.int .i64 a28,.slice a29 a30 a31,.string a32,.int .i64 a33]:=by intros;kernel_rfl
theorem k8:aO prog 55=true:=by kernel_rfl
theorem we:aO prog 56=true:=by kernel_rfl
theorem kR {P:Program} {n:Fr} {L:List (Nat×Value)} {w:World} {t:TypeId} {x y:Operand} {g:Nat} {u:TypeId} {cs:Array Value} {vs:List Value} (ht:dZ P t=some vs.length) (hx:ev n L x=.pointer (some ⟨g,0,none⟩)) (hy:ev n L y=.agg vs.toArray) (h1:∀ v∈vs,v.oneCell'=true) (hb:Blk w g u cs) (hi:vs.length=cs.size) :
 ∃ w',RS P (ev n L) (.store t x y) w w'∧ep g w w'∧Blk w' g u vs.toArray:=by
 have hb':Blk w g u cs.toList.toArray:=by simpa using hb
 refine ⟨_,mB ht hx hy h1 (hb'.there 0 vs.length (by simp;omega)),ep.sets vs 0 w,?_⟩;have:=Blk.sets vs 0 hb' (by simp;omega)
 rwa [rU cs.toList vs (by simp;omega)] at this
theorem jy {w w':World} {T g:Nat} {p:Sp} (h:aQ w (fun k=>k<w.heap.size) w' T g p):ah w w':=
 ⟨h.fr.os,h.fr.tape,h.fr.output,h.fr.size,fun k hk=>h.fr.block k hk fun e=>e hk⟩
def zE (w w':World) (p:Sp) (v:Value):Prop:=∃ tag a O oc L,v=.tuple #[.agg (rfV p.s a).toArray,.slice O L.length oc,.int .i64 0]∧bh w' tag p.s a∧eu w' tag p.out O oc L∧∀ k,k<w.heap.size→tag k=8
theorem zE.mk_ {w w1 w':World} {T g oc:Nat} {tag:Nat→Nat} {p:Sp} {a:Ra} {O:Option Addr} {L:List Msg} {Z:Nat→Prop} (hs:gn w1 Z T g tag p a O oc L) (hz:∀ k,k<w.heap.size→Z k) (hC:Chg (fun k=>Z k) w1 w'):zE w w' p (.tuple #[.agg (rfV p.s a).toArray,.slice O L.length oc,.int .i64 0]):=by
 have ne:∀ {d:Nat} {A:Option Addr},d≠8→Col tag d A→∀ k,A.map (·.block)=some k→¬ Z k:=fun hd hc k hk e=>hd ((hc k hk).symm.trans (hs.z k e))
 have mv:∀ {d e s n cc:Nat} {A:Option Addr} {xs:List Value},d≠8→w1.ownsRow 0 e s (.slice A n cc) n xs∧Col tag d A→w'.ownsRow 0 e s (.slice A n cc) n xs∧Col tag d A:=fun hd h=>⟨ew h.1 hC (ne hd h.2),h.2⟩
 refine ⟨tag,a,O,oc,L,rfl,⟨fun hx=>mv (by decide) (hs.f.e hx),fun hx=>mv (by decide) (hs.f.v hx),fun hx=>mv (by decide) (hs.f.x hx),fun hx=>mv (by decide) (hs.f.m hx),fun hx=>mv (by decide) (hs.f.n hx),hs.f.r,fun hx=>mv (by decide) (hs.f.q hx),fun i hi hx=>mv (by omega) (hs.f.k i hi hx)⟩,⟨(mv (d:=6) (by decide) ⟨hs.m.o,hs.m.c⟩).1,hs.m.l,fun j hj=>mv (by omega) (hs.m.e j hj),hs.m.c⟩,fun k hk=>hs.z k (hz k hk)⟩
def nA (id n:Int):Prop:=(1≤n∧n≤7)∧(1≤id∧id≤n)
instance (id n:Int):Decidable (nA id n):=by unfold nA;exact inferInstance
theorem y3 (id n seed:Int) (w:World) :
 Rt prog 21 [.int .i64 id,.int .i64 n,.int .u64 seed] w (fun v w'=>((nA id n∧v=.tuple #[.agg (rfV (rW id n seed) a0).toArray,.int .i64 0])∨(¬ nA id n∧v=.tuple #[.agg (rfV zR a0).toArray,.int .i64 1]))∧ah w w'):=by
 refine enter (n:=29) Tryz.func21 rfl rfl rfl (ak (af (bP cZ ?_)));intro b6 w1 E6 hb6 hk6;have hg6:w.heap.size≤b6:=Nat.le_of_eq hb6.symm;refine asi rfl (aj (ag (ak (ak (af (mvi rfl (eO (v:=.int _ _) bB rfl rfl rfl ?_)))))));intro b10 w2 E10 hb10 hk10;refine ay dr (eB 1 7 (some ⟨b10,0,none⟩) 1 [n] _ (fG hk10) (by simp)) ?_;rintro v11 w3 ⟨rfl,rfl⟩;refine aa (cd rfl) (mvb rfl (aK (t:=13) rfl (fun Q4=>?_) (fun Q4=>?_)))
 ·with_reducible (replace Q4:=dK Q4;replace Q4:=dF_ Q4)
  (try simp only [bp,bu,and_true] at Q4)
  refine an rfl rfl (an rfl rfl (an rfl rfl (an rfl rfl (an rfl rfl (aa (aL (v:=.bool _) rfl rfl) (aj (ag (aS rfl (ak (af ?_))))))))));refine aa (cV (l:=[]) (fu)) (cg (vs:=[_,_,_,_,_,_,_,_,_,_,_,_,_,_,_,_,_,_,_,_,_,_]) aF rfl rfl (by simp [Value.oneCell']) ((hk6.from_ (ah.rfl_.next E10))) rfl ?_);intro w5 O2 P2;refine asi rfl (aj (ag (aB (aD (oi rfl (dM (cs:=[_,_,_,_,_,_,_,_,_,_,_,_,_,_,_,_,_,_,_,_,_,_]) aP aF rfl (by first | exact P5.whole | exact P2.whole)) (fY (v:=.int _ _) rfl) ?_)))));exact ⟨.inr ⟨by unfold nA;omega,rfl⟩,(((ah.rfl_.next E6).next E10).only O2 (hg6))⟩
 with_reducible (replace Q4:=dL Q4;replace Q4:=dT_ Q4)
 (try simp only [bp,bu,and_true] at Q4)
 refine ae rfl (mvi rfl (ae rfl (mvi rfl (ae rfl (eO (v:=.int _ _) bB rfl rfl rfl ?_)))));intro b16 w6 E16 hb16 hk16;refine ae rfl (ay dr (eB 1 n (some ⟨b16,0,none⟩) 1 [id] _ (fG hk16) (by simp)) ?_);rintro v17 w7 ⟨rfl,rfl⟩;refine ae rfl (aa (cd rfl) (aa (aw (v:=.bool _) rfl rfl) (aj (ag (aR rfl (fun Q8=>?_) (fun Q8=>?_))))))
 ·with_reducible (replace Q8:=dK Q8;replace Q8:=dF_ Q8)
  (try simp only [bp,bu,and_true] at Q8)
  refine ak (af (aa (cV (l:=[]) (fu)) (cg (vs:=[_,_,_,_,_,_,_,_,_,_,_,_,_,_,_,_,_,_,_,_,_,_]) aF rfl rfl (by simp [Value.oneCell']) ((hk6.from_ ((ah.rfl_.next E10).next E16))) rfl ?_)));intro w9 O2 P2;refine asi rfl (aj (ag (aB (aD (oi rfl (dM (cs:=[_,_,_,_,_,_,_,_,_,_,_,_,_,_,_,_,_,_,_,_,_,_]) aP aF rfl (by first | exact P5.whole | exact P2.whole)) (fY (v:=.int _ _) rfl) ?_)))));exact ⟨.inr ⟨by unfold nA;omega,rfl⟩,((((ah.rfl_.next E6).next E10).next E16).only O2 (hg6))⟩
 with_reducible (replace Q8:=dL Q8;replace Q8:=dT_ Q8)
 (try simp only [bp,bu,and_true] at Q8)
 refine aM (ag (ak (af (mvi rfl (mvi rfl (mvi rfl (aa (cV (l:=[(0,.tmp 21),(1,.tmp 22),(11,.tmp 23)]) (mR _ _ _)) (aa (cV (l:=[(0,.tmp 24)]) (sC _ _ _ _ _ _ _ _ _ _ _ _ _ _ _ _ _ _ _ _ _ _ _ _ _ _ _ _ _ _ _ _ _ _)) ?_))))))));have hM8:ah _ w6:=((ah.rfl_.next E10).next E16);have hz8:=((((ah.rfl_.next E6).next E10).next E16)).size;refine bP ny ?_;intro b8 w10 E8 hb8 hk8;have hg8:w.heap.size≤b8:=by omega
 have hk6b:=hk6.from_ (hM8.next E8);have h68:b6≠b8:=by have:=(hk6.from_ hM8).lt;omega
 refine cg (vs:=[_,_,_,_,_,_,_,_,_,_,_,_,_,_,_,_,_,_,_,_,_,_]) kK rfl rfl (by simp [Value.oneCell']) (hk8) rfl ?_;intro w11 O3 P3;have hb8:Blk w11 b8 91 (rfV ({ zR with id:=id,nodes:=n,seed:=seed }:Rf) a0++[]).toArray:=P3;have hk6c:=hk6b.only O3 h68;refine aj (ag (ak (af ?_)));have hB8:ah w w11:=(((((ah.rfl_.next E6).next E10).next E16).next E8).only O3 (hg8));refine ay kJ (qC 91 b8 { zR with id:=id,nodes:=n,seed:=seed } a0 [] _ hb8) ?_;rintro v26 w12 ⟨rfl,hb26,hC26⟩;have hk6d:=hk6c.chg hC26 h68;refine aj (ag (ak (af (aa (ab aC rfl) (aa (aG (cs:=rfV (rW id n seed) a0) aP aF rfl (mF (hb26.from_ ah.rfl_))) (cg (vs:=[_,_,_,_,_,_,_,_,_,_,_,_,_,_,_,_,_,_,_,_,_,_]) aF rfl rfl (by simp [Value.oneCell']) ((hk6d.from_ ah.rfl_)) rfl ?_))))));intro w13 O5 P5;refine asi rfl (aj (ag (aB (oi rfl (dM (cs:=[_,_,_,_,_,_,_,_,_,_,_,_,_,_,_,_,_,_,_,_,_,_]) aP aF rfl (by first | exact P5.whole | exact P2.whole)) (fY (v:=.int _ _) rfl) ?_))));exact ⟨.inl ⟨by unfold nA;omega,rfl⟩,((hB8.chg hC26 (fun k hk=>by rw [show k=b8 from hk];exact hg8)).only O5 (hg6))⟩
theorem wD (s:Rf) (a:Ra) (w:World) (hrd:eM w s a) (hl:s.votes.length≤1000000∧s.next.length≤1000000∧s.mtch.length≤1000000∧s.sent.length≤1000000∧s.reads.length≤1000000∧∀ q∈s.reads,q.acks.length≤1000000) (hel:s.es.length≤1000000) (hm:gZ s=true) :
 Rt prog 23 [.agg (rfV s a).toArray] w (fun v w'=>zE w w' (iw s) v∧ah w w'):=by
 refine enter (n:=27) Tryz.func23 rfl rfl rfl (ak (af (bK (v:=.agg _) rfl ?_)));intro b1 w1 E1 hb1 hk1;refine bP cZ ?_;intro b2 w2 E2 hb2 hk2;have hg2:w.heap.size≤b2:=by rw [hb2];exact ((ah.rfl_.next E1)).size
 refine ass rfl (asi rfl (aj (ag (ak (af (aa (aG (cs:=rfV s a) aP aF rfl (((hk1.from_ E2).from_ ah.rfl_).whole)) ?_))))));have hB9:ah w w2:=((ah.rfl_.next E1).next E2);have hk2b:=hk2.from_ ah.rfl_;have hlt2:=hk2b.lt;refine ay k8 (oQ s a _ (hrd.from_ ((ah.rfl_.next E1).next E2)) hl hel hm) ?_;rintro v9 w3 ⟨g,rfl,h9⟩;refine mvt rfl (aa (aZ rfl rfl) (aa (aZ rfl rfl) (asp rfl (asi rfl (aj (ag (ak (ak (af (mvi rfl (aa (ch (dk rfl rfl) rfl) (aj (ag ?_)))))))))))));refine bd rfl (aM (ag (ak (af (mvp rfl (ay we (yG _ _ 96 g s _ (h9.from_ ah.rfl_) (mM hm)) ?_))))));rintro v17 w4 ⟨rfl,h17⟩;obtain ⟨tag9,a9,O9,oc9,L9,hs9⟩:=h17.ex;have hF17:=jy h17;have hk2c:=hk2b.from_ hF17;have hz9:=hB9.size;have hBq:ah w w4:=(hB9.next (jy h17));have hn2:b2≠g:=fun e=>by have h1:=hs9.z b2 hlt2;rw [e,hs9.gc] at h1;cases h1
 replace hn2:=hn2.symm;refine aj (ag (ak ?_));have hU5:ly [(0,18,.pointer (some ⟨g,0,none⟩)),(1,19,.pointer (some ⟨g,0,none⟩)),(2,20,.pointer (some ⟨g,0+0,none⟩)),(3,21,.pointer (some ⟨g,0+0+0,none⟩)),(4,22,.agg (rfV (iw s).s a9).toArray),(5,23,.pointer (some ⟨g,0,none⟩)),(6,24,.pointer (some ⟨g,0,none⟩)),(7,25,.pointer (some ⟨g,0+22,none⟩)),(8,26,.slice O9 L9.length oc9),(10,3,.slice O9 L9.length oc9),(11,4,.int .i64 0)]:=by simp [ly]
 refine nK [(0,18,.pointer (some ⟨g,0,none⟩)),(1,19,.pointer (some ⟨g,0,none⟩)),(2,20,.pointer (some ⟨g,0+0,none⟩)),(3,21,.pointer (some ⟨g,0+0+0,none⟩)),(4,22,.agg (rfV (iw s).s a9).toArray),(5,23,.pointer (some ⟨g,0,none⟩)),(6,24,.pointer (some ⟨g,0,none⟩)),(7,25,.pointer (some ⟨g,0+22,none⟩)),(8,26,.slice O9 L9.length oc9),(10,3,.slice O9 L9.length oc9),(11,4,.int .i64 0)] (fun S w'=>Blk w' g 96 ((rfV (iw s).s a9)++[Value.slice O9 L9.length oc9]).toArray∧(∃ cs:Array Value,cs.size=22∧Blk w' b2 29 cs∧(S 9=true→cs=(rfV (iw s).s a9).toArray))∧Chg (fun k=>k=b2) w4 w') (by kernel_rfl) (by kernel_rfl) hU5 (by simp) (⟨(hs9.b.from_ ah.rfl_).from_ ah.rfl_.d1,⟨_,rfl,(hk2c.from_ ah.rfl_).from_ ah.rfl_.d1,fun h=>(by cases h)⟩,ah.rfl_.d1.toChg⟩) ?_ ?_
 ·constructor
  ·rintro S L' wS hI hM hS0 ⟨-⟩;have e5:=hI.1 5 (by simp);have hM':=hM;obtain ⟨hgB,⟨cs9,hs9z,hq9,hqe⟩,hC9⟩:=hM';exact cw (aH e5) ⟨hI.put hU5 (.head _),hM⟩
  constructor
  ·rintro S L' wS hI hM hS0 ⟨d0,-⟩;have e18:bE L' 18=.pointer (some ⟨g,0,none⟩):=hI.get (i:=0) (.head _) d0;have hM':=hM;obtain ⟨hgB,⟨cs9,hs9z,hq9,hqe⟩,hC9⟩:=hM';exact cw (av e18) ⟨hI.put hU5 (.tail _ (.head _)),hM⟩
  constructor
  ·rintro S L' wS hI hM hS0 ⟨d1,-⟩;have e19:bE L' 19=.pointer (some ⟨g,0,none⟩):=hI.get (i:=1) (.tail _ (.head _)) d1;have hM':=hM;obtain ⟨hgB,⟨cs9,hs9z,hq9,hqe⟩,hC9⟩:=hM';exact cw (ab aN e19) ⟨hI.put hU5 (gM 2 rfl),hM⟩
  constructor
  ·rintro S L' wS hI hM hS0 ⟨d2,-⟩;have e20:bE L' 20=.pointer (some ⟨g,0+0,none⟩):=hI.get (i:=2) (gM 2 rfl) d2;have hM':=hM;obtain ⟨hgB,⟨cs9,hs9z,hq9,hqe⟩,hC9⟩:=hM';exact cw (ab aC e20) ⟨hI.put hU5 (gM 3 rfl),hM⟩
  constructor
  ·rintro S L' wS hI hM hS0 ⟨d3,-⟩;have e21:bE L' 21=.pointer (some ⟨g,0+0+0,none⟩):=hI.get (i:=3) (gM 3 rfl) d3;have hM':=hM;obtain ⟨hgB,⟨cs9,hs9z,hq9,hqe⟩,hC9⟩:=hM';exact cw (aG (cs:=(rfV (iw s).s a9)) aP aF e21 (mF hgB)) ⟨hI.put hU5 (gM 4 rfl),hM⟩
  constructor
  ·rintro S L' wS hI hM hS0 ⟨-,-⟩;have e5:=hI.1 5 (by simp);have hM':=hM;obtain ⟨hgB,⟨cs9,hs9z,hq9,hqe⟩,hC9⟩:=hM';exact cw (aH e5) ⟨hI.put hU5 (gM 5 rfl),hM⟩
  constructor
  ·rintro S L' wS hI hM hS0 ⟨d5,-,-⟩;have e23:bE L' 23=.pointer (some ⟨g,0,none⟩):=hI.get (i:=5) (gM 5 rfl) d5;have hM':=hM;obtain ⟨hgB,⟨cs9,hs9z,hq9,hqe⟩,hC9⟩:=hM';exact cw (av e23) ⟨hI.put hU5 (gM 6 rfl),hM⟩
  constructor
  ·rintro S L' wS hI hM hS0 ⟨d6,-,-⟩;have e24:bE L' 24=.pointer (some ⟨g,0,none⟩):=hI.get (i:=6) (gM 6 rfl) d6;have hM':=hM;obtain ⟨hgB,⟨cs9,hs9z,hq9,hqe⟩,hC9⟩:=hM';exact cw (ab iD e24) ⟨hI.put hU5 (gM 7 rfl),hM⟩
  constructor
  ·rintro S L' wS hI hM hS0 ⟨d7,-,-⟩;have e25:bE L' 25=.pointer (some ⟨g,0+22,none⟩):=hI.get (i:=7) (gM 7 rfl) d7;have hM':=hM;obtain ⟨hgB,⟨cs9,hs9z,hq9,hqe⟩,hC9⟩:=hM';exact cw (ar iX e25 (by exact (show _=some (Value.slice O9 L9.length oc9) from hgB.rd 22 rfl))) ⟨hI.put hU5 (gM 8 rfl),hM⟩
  constructor
  ·rintro S L' wS hI hM hS0 ⟨d4,d0,d1,d2,d3,d4,-,-,-,-,-⟩;have e2:=hI.1 2 (by simp);have e22:bE L' 22=.agg (rfV (iw s).s a9).toArray:=hI.get (i:=4) (gM 4 rfl) d4;have hM':=hM;obtain ⟨hgB,⟨cs9,hs9z,hq9,hqe⟩,hC9⟩:=hM';obtain ⟨w2,hR,hO,hb⟩:=kR (n:=27) (L:=L') (x:=.tmp 2) (y:=.tmp 22) (vs:=(rfV (iw s).s a9)) aF e2 e22 (by simp [rfV,Value.oneCell']) hq9 (by rw [hs9z];rfl);exact kO hR ⟨hI.skip (by simp),hgB.only hO hn2,⟨_,rfl,hb,fun _=>rfl⟩,hC9.next (hO.toChg rfl)⟩
  constructor
  ·rintro S L' wS hI hM hS0 ⟨d8,d9,d0,d1,d2,d3,d4,d5,d6,d7,d8,d9,-⟩;have e26:bE L' 26=.slice O9 L9.length oc9:=hI.get (i:=8) (gM 8 rfl) d8;have hM':=hM;obtain ⟨hgB,⟨cs9,hs9z,hq9,hqe⟩,hC9⟩:=hM';exact cw (dN e26) ⟨hI.put hU5 (gM 9 rfl),hM⟩
  constructor
  ·rintro S L' wS hI hM hS0 ⟨d10,d0,d1,d2,d3,d4,d5,d6,d7,d8,d9,d10,-⟩;have hM':=hM;obtain ⟨hgB,⟨cs9,hs9z,hq9,hqe⟩,hC9⟩:=hM';exact cw (dN rfl) ⟨hI.put hU5 (gM 10 rfl),hM⟩
  exact trivial
 ·intro w6 hM;obtain ⟨hgB,⟨cs9,hs9z,hq9,hqe⟩,hC9⟩:=hM;have hqe:=hqe rfl;subst hqe;refine ag (aB (uS rfl (dM (cs:=[_,_,_,_,_,_,_,_,_,_,_,_,_,_,_,_,_,_,_,_,_,_]) aP aF rfl (by exact hq9.whole)) (fY (v:=.slice _ _ _) rfl) (fY (v:=.int _ _) rfl) ?_));exact ⟨zE.mk_ hs9 (fun k hk=>Nat.lt_of_lt_of_le hk hz9) (hC9.wide (fun k hk=>.inl (by rw [show k=b2 from hk];exact hlt2))),(hBq.chg hC9 (fun k hk=>by rw [show k=b2 from hk];exact hg2))⟩
theorem ur:aO prog 85=true:=by kernel_rfl
theorem sO:aO prog 108=true:=by kernel_rfl
section
variable {P:Program} {ops:Array Oper} {Q:Exit→Act→World→Prop} {rest:List Oper} {n:Fr} {L:List (Nat×Value)} {w0 w:World} {Z:Nat→Prop} {ty:TypeId} {pos:String} {after:Array Edge} {t:TypeId} {x y:Operand} {T g:Nat} {p:Sp} {s':Rf}
theorem aQ.rd {k:Nat} {v:Value} (h:aQ w0 Z w T g p) (hv:∀ a,(rfV p.s a)[k]? =some v):w.cell? ⟨g,k,none⟩=some v:=by
 obtain ⟨tag,a,O,oc,L,hs⟩:=h.ex;exact ct hs.b k (hv a)
end
def vd (w w':World) (p:Sp) (tag:Nat→Nat) (a:Ra) (O:Option Addr) (oc:Nat) (L:List Msg):Prop:=bh w' tag p.s a∧eu w' tag p.out O oc L∧∀ k,k<w.heap.size→tag k=8
theorem vd.mk_ {w w1 w':World} {T g oc:Nat} {tag:Nat→Nat} {p:Sp} {a:Ra} {O:Option Addr} {L:List Msg} {Z:Nat→Prop} (hs:gn w1 Z T g tag p a O oc L) (hz:∀ k,k<w.heap.size→Z k) (hC:Chg (fun k=>Z k) w1 w'):vd w w' p tag a O oc L:=by
 have ne:∀ {d:Nat} {A:Option Addr},d≠8→Col tag d A→∀ k,A.map (·.block)=some k→¬ Z k:=fun hd hc k hk e=>hd ((hc k hk).symm.trans (hs.z k e))
 have mv:∀ {d e s n cc:Nat} {A:Option Addr} {xs:List Value},d≠8→w1.ownsRow 0 e s (.slice A n cc) n xs∧Col tag d A→w'.ownsRow 0 e s (.slice A n cc) n xs∧Col tag d A:=fun hd h=>⟨ew h.1 hC (ne hd h.2),h.2⟩
 exact ⟨⟨fun hx=>mv (by decide) (hs.f.e hx),fun hx=>mv (by decide) (hs.f.v hx),fun hx=>mv (by decide) (hs.f.x hx),fun hx=>mv (by decide) (hs.f.m hx),fun hx=>mv (by decide) (hs.f.n hx),hs.f.r,fun hx=>mv (by decide) (hs.f.q hx),fun i hi hx=>mv (by omega) (hs.f.k i hi hx)⟩,⟨(mv (d:=6) (by decide) ⟨hs.m.o,hs.m.c⟩).1,hs.m.l,fun j hj=>mv (by omega) (hs.m.e j hj),hs.m.c⟩,fun k hk=>hs.z k (hz k hk)⟩
def BG (p:Sp) (a:Ra) (O:Option Addr) (oc:Nat) (L:List Msg):List Value:=[.agg (rfV p.s a).toArray,.slice O L.length oc]
theorem tx (A:Option Addr) (c:Nat) (n:Int) (L:List Int) (w:World) (hr:dE iV w A L) (hl:L.length≤1000000) (h:1≤n∧n≤7):Rt prog 85 [.int .i64 n,.slice A L.length c] w fun v w'=>v=.bool (dU n L)∧ah w w':=by
 obtain ⟨N,rfl⟩:∃ N:Nat,n=N:=⟨n.toNat,by omega⟩;refine (qs A c N L w hr hl (by omega)).mono fun v w' h9=>⟨h9.1.trans (congrArg Value.bool ?_),h9.2 ▸ ah.rfl_⟩
 unfold dU;exact decide_eq_decide.2 (by rw [Int.toNat_natCast];omega)
theorem rF (w0:World) (Z:Nat→Prop) (T g:Nat) (p:Sp) (w:World) (h:aQ w0 Z w T g p) (hF:RfF p.s) (hl:p.out.length≤700) :
 Rt prog 72 [.pointer (some ⟨g,0,none⟩)] w (fun v w'=>v=.tuple #[]∧aQ w0 Z w' T g (iv p)):=by
 obtain ⟨s,out⟩:=p;obtain ⟨tag,a,O,oc,L,hs⟩:=h.ex;obtain ⟨E,Ec,V,Vc,X,Xc,M,Mc,Sn,Sc,Q,Qc,LL⟩:=a;have hb:Blk w g T (rfV s (⟨E,Ec,V,Vc,X,Xc,M,Mc,Sn,Sc,Q,Qc,LL⟩:Ra)++[Value.slice O L.length oc]).toArray:=hs.b
 have hll:L.length=out.length:=by
  have h9:=congrArg List.length hs.m.l;rw [List.length_map] at h9;exact h9
 have hF:RfF s:=hF;have hl:out.length≤700:=hl;have hvr:IR w V Vc s.votes:=ko (hs.f.v (by decide)).1;have hvl:=hF.vl;have hnn:=hF.n;refine enter (n:=15) Tryz.func72 rfl rfl rfl (ak ?_);apply bQ 11 [(2,eqp _),(3,eqp _),(4,eqp _),(5,eqp _),(6,eqp (.int .i64 s.nodes)),(7,eqp _),(8,eqp _),(9,eqp _),(10,eqp _),(11,eqp (.slice V s.votes.length Vc)),(12,eqp _)] (by repeat first | exact cB | refine cA ?_ | refine bW ?_) (by kernel_rfl) (by kernel_rfl) ⟨aq _,aq _,aq _,aq _,aq _,aq _,aq _,aq _,aq _,aq _,aq _,trivial⟩
 case hop=>
  constructor
  ·rintro-w2 D2;exact au (aH (v:=.pointer _) rfl) rfl
  constructor
  ·rintro-w3 D3;rintro _ rfl;exact au (av rfl) rfl
  constructor
  ·rintro-w4 D4;rintro _ rfl;exact au (ab aJ rfl) rfl
  constructor
  ·rintro-w5 D5;rintro _ rfl;exact au (ab bJ rfl) rfl
  constructor
  ·rintro-w6 D6;rintro _ rfl;exact au (ar ao rfl (by exact (show _=some (Value.int .i64 s.nodes) from ct (hb.from_ (ah.rfl_.next D6)) 1 rfl))) rfl
  constructor
  ·rintro-w7 D7;exact au (aH (v:=.pointer _) rfl) rfl
  constructor
  ·rintro-w8 D8;rintro _ rfl;exact au (av rfl) rfl
  constructor
  ·rintro-w9 D9;rintro _ rfl;exact au (ab aJ rfl) rfl
  constructor
  ·rintro-w10 D10;rintro _ rfl;exact au (ab cf rfl) rfl
  constructor
  ·rintro-w11 D11;rintro _ rfl;exact au (ar bc rfl (by exact (show _=some (Value.slice V s.votes.length Vc) from ct (hb.from_ (ah.rfl_.next D11)) 14 rfl))) rfl
  constructor
  ·rintro-w12 D12;rintro v12_6 rfl v12_11 rfl;refine fJ ur ((tx V Vc s.nodes s.votes _ (hvr.1.from_ (ah.rfl_.next D12)) (by omega) hnn).mono ?_);rintro v _ ⟨rfl,E12'⟩;exact ⟨E12',rfl⟩
  exact trivial
 case hend=>
  intro w13 D13;rintro _ rfl _ rfl _ rfl _ rfl v6 rfl _ rfl _ rfl _ rfl _ rfl v11 rfl _ rfl;show St ..;refine aj (ag (Bk rfl (fun Q14=>?_) (fun Q14=>?_)))
  ·have h11t:dU s.nodes s.votes=true:=by
    unfold dU;exact decide_eq_true Q14
   refine af (mvp rfl (ay sO (vH w0 Z T g ⟨s,out⟩ _ (h.from_ (ah.rfl_.next D13)) hF hl) ?_));rintro v14 w15 ⟨rfl,h13⟩;refine aj (cC (dV rfl ?_));unfold iv
   first
    |(rw [if_pos h11t];exact ⟨rfl,h13.from_ (ah.rfl_ (a:=w15))⟩)
    |(rw [if_neg (by show ¬ dU s.nodes s.votes=true;rw [h11f];decide)];exact ⟨rfl,h.from_ (ah.rfl_ (a:=w15))⟩)
  have h11f:dU s.nodes s.votes=false:=by
   unfold dU;exact decide_eq_false Q14
  refine aM (cC (dV rfl ?_));unfold iv
  first
   |(rw [if_pos h11t];exact ⟨rfl,h13.from_ (ah.rfl_.next D13)⟩)
   |(rw [if_neg (by show ¬ dU s.nodes s.votes=true;rw [h11f];decide)];exact ⟨rfl,h.from_ (ah.rfl_.next D13)⟩)
end Go.Proofs.YtkpooenofjdpmaaGreat
namespace Go.Proofs.YtkpooenofjdpmaaGreat
open Go.Proofs.Tryz (prog)
open Go.RowKit
open Go.ChangeShapes Go.WideShapes Go.ChangeAt
theorem j8:prog.built 99 [(0,.int .i64 (-9))]=some #[.int .i64 (-9),.int .i64 0,.string ⟨#[]⟩]:=by kernel_rfl
theorem qR:prog.built 99 []=some #[.int .i64 0,.int .i64 0,.string ⟨#[]⟩]:=by kernel_rfl
theorem nu:aO prog 93=true:=by kernel_rfl
theorem ib:aO prog 43=true:=by kernel_rfl
theorem j9:prog.built 54 [(0,.int .i64 (-9))]=some #[.int .i64 (-9),.int .i64 0,.int .i64 0,.slice none 0 0]:=by kernel_rfl
theorem j_:prog.built 39 [(0,.int .i64 (-9))]=some #[.int .i64 (-9),.int .i64 0,.int .i64 0,.int .i64 0,.int .i64 0,.int .i64 0,.int .i64 0,.int .i64 0,.bool false,.slice none 0 0,.int .i64 0,.string ⟨#[]⟩,.bool false]:=by kernel_rfl
theorem qS:prog.built 39 []=some #[.int .i64 0,.int .i64 0,.int .i64 0,.int .i64 0,.int .i64 0,.int .i64 0,.int .i64 0,.int .i64 0,.bool false,.slice none 0 0,.int .i64 0,.string ⟨#[]⟩,.bool false]:=by kernel_rfl
theorem pE (base:Nat) (A:Option Addr) (c n:Nat) (xs:List Value) (w:World) (ho:w.ownsRow base 99 3 (.slice A n c) n xs) (hb:base≤w.heap.size) (hl:n≤1000000000) :
 Rt prog 93 [.slice A n c] w (fun v w'=>v=.tuple #[]∧w.grownBy w' (A.map (·.block))):=by
 refine enter (n:=17) Tryz.func93 rfl rfl rfl (ak (ak (af (asi rfl (aj (ag (aU (cM (G:=Nat×List Value) [3,4,5,6,7,8,9,10,11,12] (fun (k,_)=>[(2,.int .i64 (k:Nat))]) (fun (k,ys) w'=>k≤n∧w'.ownsRow base 99 3 (.slice A n c) n ys∧w.grownBy w' (A.map (·.block))) (fun (k,_)=>n-k) ((0,xs)) ⟨rfl,trivial⟩ ?_ ?_))))))))
 ·exact ⟨Nat.zero_le _,ho,World.grownBy.refl _ _⟩
 rintro ⟨k,ys⟩ ρ1 w1 ⟨hk,ho2,hG⟩;refine ak (ak (af (mvi rfl (mvs rfl (aa (bH cU rfl) (aa (bM rfl rfl) (aj (ag (Bk rfl (fun Q2=>?_) (fun Q2=>?_))))))))))
 ·obtain ⟨g,rfl⟩:=eK ho2 (by omega);refine aM (ag (ak (aU (af (mvs rfl (mvi rfl (aa (cV (l:=[(0,.const (.int .i64 (-9)))]) (j8)) (aa (iz eT rfl rfl (by omega)) ?_))))))));refine ln (size:=3) (o:=k*3) (vs:=[.int .i64 (-9),.int .i64 0,.string ⟨#[]⟩]) gm (by show Value.pointer (some ⟨g,0+k*3,none⟩)=_;rw [Nat.zero_add]) rfl (by simp [Value.oneCell']) ho2 (by omega) (by show k*3+3≤n*3;omega) ?_;intro w3 O3 P3;refine aj (bo (ag (af (mvi rfl (aa (b0 rfl rfl (by omega)) (asi rfl (aj ?_)))))));refine cp ((k+1,fI ys (k*3) [.int .i64 (-9),.int .i64 0,.string ⟨#[]⟩])) ⟨(by first | rfl | (refine br ?_;omega)),trivial⟩ (by (iterate 22 refine bA rfl ?_);exact bN) ⟨?_,?_⟩
  ·exact ⟨by omega,P3,cY hG (ep.grown O3)⟩
  ·show n-(k+1)<n-k;omega
 refine b_ (bf (bf (bL (ag (af (mvs rfl (aa (cV (l:=[]) (qR)) (jq (l:=[(0,.tmp 14)]) (cells:=#[.int .i64 0,.int .i64 0,.string ⟨#[]⟩]) f_ rfl rfl (by first | rfl | kernel_rfl) ?_))))))));intro bx w4 Ex hbx hkx;refine gJ (news:=[.int .i64 0,.int .i64 0,.string ⟨#[]⟩]) f_ rfl (by decide) rfl (ho2.kept_from Ex) (Nat.le_trans hb (Nat.le_trans hG.size Ex.size)) rfl rfl (fun _=>⟨bx,0,rfl,hkx.whole⟩) (fun h=>by cases h) (by simp [Value.oneCell']) (by omega) (by omega) ?_;intro Ax cx w5 hox hgx;refine ass rfl (aj (cC (dV rfl (⟨rfl,cY (cY hG (Ex.grown _)) hgx⟩))))
theorem jz (base:Nat) (A:Option Addr) (c n:Nat) (xs:List Value) (w:World) (ho:w.ownsRow base 3 1 (.slice A n c) n xs) (hb:base≤w.heap.size) (hl:n≤1000000000) :
 Rt prog 43 [.slice A n c] w (fun v w'=>v=.tuple #[]∧w.grownBy w' (A.map (·.block))):=by
 refine enter (n:=15) Tryz.func43 rfl rfl rfl (ak (ak (af (asi rfl (aj (ag (aU (cM (G:=Nat×List Value) [3,4,5,6,7,8,9,10,11] (fun (k,_)=>[(2,.int .i64 (k:Nat))]) (fun (k,ys) w'=>k≤n∧w'.ownsRow base 3 1 (.slice A n c) n ys∧w.grownBy w' (A.map (·.block))) (fun (k,_)=>n-k) ((0,xs)) ⟨rfl,trivial⟩ ?_ ?_))))))))
 ·exact ⟨Nat.zero_le _,ho,World.grownBy.refl _ _⟩
 rintro ⟨k,ys⟩ ρ1 w1 ⟨hk,ho2,hG⟩;refine ak (ak (af (mvi rfl (mvs rfl (aa (bH bI rfl) (aa (bM rfl rfl) (aj (ag (Bk rfl (fun Q2=>?_) (fun Q2=>?_))))))))))
 ·obtain ⟨g,rfl⟩:=eK ho2 (by omega);refine aM (ag (ak (aU (af (mvs rfl (mvi rfl (aa (da bj rfl rfl (by omega)) (kP (i:=k) (v:=.int .i64 (-99)) bF rfl rfl rfl ho2 (by omega) ?_))))))));intro w3 O3 P3;refine aj (bo (ag (af (mvi rfl (aa (b0 rfl rfl (by omega)) (asi rfl (aj ?_)))))));refine cp ((k+1,ys.set k (.int .i64 (-99)))) ⟨(by first | rfl | (refine br ?_;omega)),trivial⟩ (by (iterate 20 refine bA rfl ?_);exact bN) ⟨?_,?_⟩
  ·exact ⟨by omega,P3,cY hG (ep.grown O3)⟩
  ·show n-(k+1)<n-k;omega
 refine b_ (bf (bf (bL (ag (af (mvs rfl (jq (l:=[(0,.const (.int .i64 5))]) (cells:=#[.int .i64 5]) bB rfl rfl (by first | rfl | kernel_rfl) ?_)))))));intro bx w4 Ex hbx hkx;refine gJ (news:=[.int .i64 5]) bB rfl (by decide) rfl (ho2.kept_from Ex) (Nat.le_trans hb (Nat.le_trans hG.size Ex.size)) rfl rfl (fun _=>⟨bx,0,rfl,hkx.whole⟩) (fun h=>by cases h) (by simp [Value.oneCell']) (by omega) (by omega) ?_;intro Ax cx w5 hox hgx;refine ass rfl (aj (cC (dV rfl (⟨rfl,cY (cY hG (Ex.grown _)) hgx⟩))))
def mZ (k:Int):Msg:={ zM with k:=k }
def qZ:Rd×Option Addr×Nat:=(⟨-9,0,0,[]⟩,none,0)
section
variable {α:Type}
def spX (z:α) (X:List α) (k:Nat):List α:=List.replicate k z++X.drop k
theorem jN {z:α} {X:List α} {k:Nat} (h:k≤X.length):(spX z X k).length=X.length:=by simp [spX];omega
theorem wJ {z:α} {X:List α} {k:Nat} (h:k<X.length):(spX z X k)[k]'(by rw [jN (by omega)];exact h)=X[k]:=by
 simp [spX,List.getElem_append_right]
theorem uM {z:α} {X:List α} {k:Nat} (h:k<X.length):(spX z X k).set k z=spX z X (k+1):=by
 unfold spX;rw [List.set_append_right _ _ (by simp),List.length_replicate,Nat.sub_self,List.drop_eq_getElem_cons h,List.set_cons_zero,List.replicate_succ',List.append_assoc];rfl
end
theorem Bb (k:Int):Instr.fill (fun i=>some (i*13,13)) ((Array.range (1*13)).map ((.agg (bD (mZ 0)).toArray:Value).cells[·%(.agg (bD (mZ 0)).toArray:Value).cells.size]!)) [(0,.agg (bD (mZ k)).toArray)]=some (bD (mZ k)).toArray:=by
 first
  |kernel_rfl
  |rfl
def U5 (Z:Nat) (tag:Nat→Nat) (j:Nat):Nat→Prop:=fun q=>q<Z∧tag q<j
def UA (Z:Nat) (tag:Nat→Nat) (k:Nat):Nat→Prop:=fun q=>q<Z∧(tag q≤5∨∃ i,i<k∧tag q=1001+2*i)
def UM (Z:Nat) (tag:Nat→Nat) (k:Nat):Nat→Prop:=fun q=>q<Z∧(tag q=6∨∃ i,i<k∧tag q=1000+2*i)
theorem U5.up {Z j:Nat} {tag:Nat→Nat} {w w':World} (h:Chg (U5 Z tag j) w w'):Chg (U5 Z tag (j+1)) w w':=h.wide fun _ h=>.inl ⟨h.1,Nat.lt_succ_of_lt h.2⟩
theorem UA.up {Z k:Nat} {tag:Nat→Nat} {w w':World} (h:Chg (UA Z tag k) w w'):Chg (UA Z tag (k+1)) w w':=h.wide fun _ h=>.inl ⟨h.1,h.2.imp id fun ⟨i,a,b⟩=>⟨i,Nat.lt_succ_of_lt a,b⟩⟩
theorem UM.up {Z k:Nat} {tag:Nat→Nat} {w w':World} (h:Chg (UM Z tag k) w w'):Chg (UM Z tag (k+1)) w w':=h.wide fun _ h=>.inl ⟨h.1,h.2.imp id fun ⟨i,a,b⟩=>⟨i,Nat.lt_succ_of_lt a,b⟩⟩
theorem nV {w0 w1 w2 w3:World} {tag:Nat→Nat} {d e s n c:Nat} {A:Option Addr} {xs:List Value} (h:w0.ownsRow 0 e s (.slice A n c) n xs∧Col tag d A) (hg:w2.grownBy w3 (A.map (·.block))) (hC:Chg (U5 w0.heap.size tag d) w1 w2):Chg (U5 w0.heap.size tag (d+1)) w1 w3:=
 (U5.up hC).next (Chg.of_grown hg fun q hq=>⟨dt h.1 q hq,by rw [h.2 q hq];exact Nat.lt_succ_self _⟩)
theorem jM (tag:Nat→Nat) (s:Rf) (a:Ra) (w:World) (h:bh w tag s a) (hl:s.votes.length≤1000000∧s.next.length≤1000000∧s.mtch.length≤1000000∧s.sent.length≤1000000∧s.reads.length≤1000000∧∀ q∈s.reads,q.acks.length≤1000000) (hel:s.es.length≤1000000) :
 Rt prog 51 [.agg (rfV s a).toArray] w (fun v w'=>v=.tuple #[]∧Chg (fun q=>StC (tag q)) w w'):=by
 obtain ⟨hl1,hl2,hl3,hl4,hl5,hl6⟩:=id hl;have hLl:a.L.length=s.reads.length:=by rw [←h.r (by decide),List.length_map]
 refine enter (n:=38) Tryz.func51 rfl rfl rfl (ak (af (bK (v:=.agg _) rfl ?_)));intro b1 w1 E1 hb1 hk1;refine aj (ag (ak (af (aa (ab bq rfl) (aa (ab cW rfl) (aa (ar cI rfl (by exact (show _=some (Value.slice a.E s.es.length a.Ec) from (hk1.from_ ah.rfl_).rd 8 rfl))) ?_))))));have hz0:=E1.size;have hB1:ah w w1:=(ah.rfl_.next E1);have hC0:Chg (U5 w.heap.size tag 0) w1 w1:=Chg.rfl_;have hkb0:=hk1.from_ ah.rfl_;have hn1:∀ j,¬ U5 w.heap.size tag j b1:=fun j e=>absurd e.1 (by omega)
 have hnA:∀ j,¬ UA w.heap.size tag j b1:=fun j e=>absurd e.1 (by omega)
 obtain ⟨wb,hwb⟩:∃ x,x=w1:=⟨_,rfl⟩;rw [←hwb] at hB1 hC0 hkb0;have hr0:=ew ((h.e (by decide)).1.kept_from hB1) hC0 (fun k hk e=>absurd e.2 (by rw [(h.e (by decide)).2 k hk];omega));refine ay nu (pE 0 a.E a.Ec s.es.length (dF s.es) _ (by rw [←hwb];exact hr0) (Nat.zero_le _) (by omega)) ?_;rintro v6 w2 ⟨rfl,hg0⟩;rw [←hwb] at hg0;have hC1:=nV (h.e (by decide)) hg0 hC0;have hkb1:=hkb0.chg hC1 (hn1 _);refine aj (ag (ak (af (aa (ab cf rfl) (aa (ar bc rfl (by exact (show _=some (Value.slice a.V s.votes.length a.Vc) from (hkb1.from_ ah.rfl_).rd 14 rfl))) ?_)))));have hM1:ah _ w2:=ah.rfl_;have hr1:=ew ((h.v (by decide)).1.kept_from hB1) (hC1.next hM1.toChg) (fun k hk e=>absurd e.2 (by rw [(h.v (by decide)).2 k hk];omega));refine ay ib (jz 0 a.V a.Vc s.votes.length (s.votes.map iV) _ hr1 (Nat.zero_le _) (by omega)) ?_;rintro v9 w3 ⟨rfl,hg1⟩;have hC2:=nV (h.v (by decide)) hg1 (hC1.next hM1.toChg);have hkb2:=hkb0.chg hC2 (hn1 _);refine aj (ag (ak (af (aa (ab bY rfl) (aa (ar bc rfl (by exact (show _=some (Value.slice a.X s.next.length a.Xc) from (hkb2.from_ ah.rfl_).rd 15 rfl))) ?_)))));have hM2:ah _ w3:=ah.rfl_;have hr2:=ew ((h.x (by decide)).1.kept_from hB1) (hC2.next hM2.toChg) (fun k hk e=>absurd e.2 (by rw [(h.x (by decide)).2 k hk];omega));refine ay ib (jz 0 a.X a.Xc s.next.length (s.next.map iV) _ hr2 (Nat.zero_le _) (by omega)) ?_;rintro v12 w4 ⟨rfl,hg2⟩;have hC3:=nV (h.x (by decide)) hg2 (hC2.next hM2.toChg);have hkb3:=hkb0.chg hC3 (hn1 _);refine aj (ag (ak (af (aa (ab cu rfl) (aa (ar bc rfl (by exact (show _=some (Value.slice a.M s.mtch.length a.Mc) from (hkb3.from_ ah.rfl_).rd 16 rfl))) ?_)))));have hM3:ah _ w4:=ah.rfl_;have hr3:=ew ((h.m (by decide)).1.kept_from hB1) (hC3.next hM3.toChg) (fun k hk e=>absurd e.2 (by rw [(h.m (by decide)).2 k hk];omega));refine ay ib (jz 0 a.M a.Mc s.mtch.length (s.mtch.map iV) _ hr3 (Nat.zero_le _) (by omega)) ?_;rintro v15 w5 ⟨rfl,hg3⟩;have hC4:=nV (h.m (by decide)) hg3 (hC3.next hM3.toChg);have hkb4:=hkb0.chg hC4 (hn1 _);refine aj (ag (ak (af (aa (ab cN rfl) (aa (ar bc rfl (by exact (show _=some (Value.slice a.S s.sent.length a.Sc) from (hkb4.from_ ah.rfl_).rd 17 rfl))) ?_)))));have hM4:ah _ w5:=ah.rfl_;have hr4:=ew ((h.n (by decide)).1.kept_from hB1) (hC4.next hM4.toChg) (fun k hk e=>absurd e.2 (by rw [(h.n (by decide)).2 k hk];omega));refine ay ib (jz 0 a.S a.Sc s.sent.length (s.sent.map iV) _ hr4 (Nat.zero_le _) (by omega)) ?_;rintro v18 w6 ⟨rfl,hg4⟩;have hC5:=nV (h.n (by decide)) hg4 (hC4.next hM4.toChg);have hkb5:=hkb0.chg hC5 (hn1 _);refine aj (ag (ak (af (asi rfl (aj (ag (aU (cM (G:=Nat) [19,20,21,22,23,24,25,26,27,28,29,30,31,32,33,34,35,36,37] (fun k=>[(2,.int .i64 (k:Nat))]) (fun k w'=>k≤a.L.length∧w'.ownsRow 0 54 4 (.slice a.Q a.L.length a.Qc) a.L.length ((spX qZ a.L k).flatMap rdV)∧Chg (UA w.heap.size tag k) wb w') (fun k=>a.L.length-k) (0) ⟨rfl,trivial⟩ ?_ ?_))))))))
 ·exact ⟨Nat.zero_le _,ew ((h.q (by decide)).1.kept_from hB1) (hC5.next (ah.rfl_:ah _ w6).toChg) (fun k hk e=>absurd e.2 (by rw [(h.q (by decide)).2 k hk];omega)),(hC5.next (ah.rfl_:ah _ w6).toChg).wide fun q e=>.inl ⟨e.1,.inl (by have:=e.2;omega)⟩⟩
 rintro k ρ7 w7 ⟨hk,hoQ,hCk⟩;refine ak (ak (af (mvi rfl (aa (ab bU rfl) (aa (ar dR rfl (by exact (show _=some (Value.slice a.Q a.L.length a.Qc) from ((hkb0.chg hCk (hnA _)).from_ ah.rfl_).rd 19 rfl))) ?_)))));refine aa (bH eS rfl) (aa (bM rfl rfl) (aj (ag (Bk rfl (fun Q8=>?_) (fun Q8=>?_)))))
 ·have hkL:k<a.L.length:=by omega
  have hqk:a.L[k].1∈s.reads:=by rw [←h.r (by decide)];exact List.mem_map_of_mem (List.getElem_mem hkL)
  obtain ⟨gq,hgq⟩:∃ g,a.Q=some ⟨g,0,none⟩:=eK hoQ (by omega);have hcq:∀ q,a.Q.map (·.block)=some q→tag q=5:=fun q hq=>(h.q (by decide)).2 q hq
  have hlq:=dt (h.q (by decide)).1;rw [hgq] at hoQ hcq hlq;have hkq:Blk w7 b1 29 (rfV s { a with Q:=some ⟨gq,0,none⟩ }).toArray:=by rw [←hgq];exact (hkb0.chg hCk (hnA _)).from_ ah.rfl_
  obtain ⟨bx,ox,hAx,hcx⟩:=(g_.own jj (by decide) hoQ).2 (by rw [jN (by omega)];omega);cases hAx;have hvx:=hcx k (by rw [jN (by omega)];exact hkL);rw [wJ hkL] at hvx;have hc31:(w7).cell? ⟨gq,0+k*4+3,none⟩=some (.slice a.L[k].2.1 a.L[k].1.acks.length a.L[k].2.2):=dP ah.rfl_ (hvx 3 _ rfl);refine aM (ag (ak (aU (ak (af (aa (ab bU rfl) (aa (ar dR rfl (by exact (show _=some (Value.slice (some ⟨gq,0,none⟩) a.L.length a.Qc) from (hkq.from_ ah.rfl_).rd 19 rfl))) ?_)))))));refine mvi rfl (aa (bT fV rfl rfl (by omega)) (aa (ab eX rfl) (aa (ar bc rfl (by exact dP ah.rfl_ hc31)) ?_)));have hM32:ah _ w7:=ah.rfl_;have hrk:=ew ((h.k k hkL (by omega)).1.kept_from hB1) (hCk.next hM32.toChg) (fun q hq e=>by rcases e.2 with e2 | ⟨i,hi,e2⟩ <;> rw [(h.k k hkL (by omega)).2 q hq] at e2 <;> omega);refine ay ib (jz 0 a.L[k].2.1 a.L[k].2.2 a.L[k].1.acks.length (a.L[k].1.acks.map iV) _ hrk (Nat.zero_le _) (by have:=hl.2.2.2.2.2 _ hqk;omega)) ?_;rintro v32 w9 ⟨rfl,hg32⟩;have hC9:Chg (UA w.heap.size tag (k+1)) wb w9:=(UA.up (hCk.next hM32.toChg)).next (Chg.of_grown hg32 fun q hq=>⟨dt (h.k k hkL (by omega)).1 q hq,.inr ⟨k,Nat.lt_succ_self _,(h.k k hkL (by omega)).2 q hq⟩⟩);have hoQ9:=ew (hoQ.kept_from hM32) (Chg.of_grown (U:=fun q=>tag q=1001+2*k) hg32 fun q hq=>(h.k k hkL (by omega)).2 q hq) (fun q hq e=>by have:=hcq q hq;omega);refine aj (ag (af (aa (ab bU rfl) ?_)));refine aa (ar dR rfl (by exact (show _=some (Value.slice (some ⟨gq,0,none⟩) a.L.length a.Qc) from by rw [←hgq];exact ((hkb0.chg hC9 (hnA _)).from_ ah.rfl_).rd 19 rfl))) ?_;refine mvi rfl (aa (cV (l:=[(0,.const (.int .i64 (-9)))]) (j9)) (aa (bT fV rfl rfl (by omega)) ?_));have hM10:ah _ w9:=ah.rfl_;have hoQ8:=hoQ9.kept_from hM10;obtain ⟨g',cur,hgA,_,hbk,_⟩:=lY hoQ8 (by omega);cases hgA;refine ln (size:=4) (o:=k*4) (vs:=rdV qZ) fm (by show Value.pointer (some ⟨gq,0+k*4,none⟩)=_;rw [Nat.zero_add]) rfl (by simp [rdV,qZ,Value.oneCell']) hoQ8 (by omega) (by show k*4+4≤a.L.length*4;omega) ?_;intro w10 O10 P10;rw [pQ jj _ k (by rw [jN (by omega)];exact hkL),uM hkL] at P10;have hC10:Chg (UA w.heap.size tag (k+1)) wb w10:=(hC9.next hM10.toChg).next (O10.toChg ⟨hlq gq rfl,.inl (by have:=hcq gq rfl;omega)⟩);rw [←hgq] at P10;refine aj (bo (ag (af (mvi rfl (aa (b0 rfl rfl (by omega)) (asi rfl (aj ?_)))))));refine cp (k+1) ⟨(by first | rfl | (refine br ?_;omega)),trivial⟩ (by (iterate 40 refine bA rfl ?_);exact bN) ⟨?_,?_⟩
  ·exact ⟨by omega,P10.kept_from ah.rfl_,(hC10.next (ah.rfl_:ah _ w10).toChg)⟩
  ·omega
 refine b_ (bf (bf (bL (cC (dV rfl (⟨rfl,(hB1.toChg.next ((hCk.next (ah.rfl_:ah _ w7).toChg).wide fun q e=>.inl ?_))⟩))))));rcases e.2 with e2 | ⟨i,_,e2⟩
 ·exact .inl e2
 ·exact .inr ⟨i,e2⟩
theorem lN (tag:Nat→Nat) (out:List Msg) (A:Option Addr) (c:Nat) (L:List Msg) (w:World) (h:eu w tag out A c L) (hl:L.length≤100000) (hle:∀ x∈L,x.es.length≤1000000) :
 Rt prog 52 [.slice A L.length c] w (fun v w'=>v=.tuple #[]∧Chg (fun q=>tag q=6∨∃ i,tag q=1000+2*i) w w'):=by
 refine enter (n:=23) Tryz.func52 rfl rfl rfl (ak (ak (af (asi rfl (aj (ag (aU (cM (G:=Nat) [3,4,5,6,7,8,9,10,11,12,13,14,15,16,17,18] (fun k=>[(2,.int .i64 (k:Nat))]) (fun k w'=>k≤L.length∧w'.ownsRow 0 39 13 (.slice A L.length c) L.length ((spX (mZ (-9)) L k).flatMap bD)∧Chg (UM w.heap.size tag k) w w') (fun k=>L.length-k) (0) ⟨rfl,trivial⟩ ?_ ?_))))))))
 ·exact ⟨Nat.zero_le _,h.o.kept_from ah.rfl_,(ah.rfl_:ah _ w).toChg⟩
 rintro k ρ1 w1 ⟨hk,hoQ,hCk⟩;refine ak (ak (af (mvi rfl (mvs rfl (aa (bH k9 rfl) (aa (bM rfl rfl) (aj (ag (Bk rfl (fun Q2=>?_) (fun Q2=>?_))))))))))
 ·have hkX:k<L.length:=by omega
  obtain ⟨g,hgq⟩:∃ g,A=some ⟨g,0,none⟩:=eK hoQ (by omega);subst hgq;have hcq:∀ q,(some (⟨g,0,none⟩:Addr)).map (·.block)=some q→tag q=6:=fun q hq=>h.c q hq
  have hlq:=dt h.o;have hEk:=hle _ (List.getElem_mem hkX);obtain ⟨bx,ox,hAx,hcx⟩:=(g_.own nF (by decide) hoQ).2 (by rw [jN (by omega)];omega);cases hAx;have hvx:=hcx k (by rw [jN (by omega)];exact hkX);rw [wJ hkX] at hvx;refine aM (ag (ak (aU (ak (af (mvs rfl (mvi rfl (aa (bT k_ rfl rfl (by omega)) (aa (ab eI rfl) (aa (ar cI rfl (by exact dP ah.rfl_ (hvx 9 _ rfl))) ?_))))))))));have hM14:ah _ w1:=ah.rfl_;have hrk:=ew (h.e k hkX).1 (hCk.next hM14.toChg) (fun q hq e=>by rcases e.2 with e2 | ⟨i,hi,e2⟩ <;> rw [(h.e k hkX).2 q hq] at e2 <;> omega);refine ay nu (pE 0 L[k].E L[k].c L[k].es.length (dF L[k].es) _ hrk (Nat.zero_le _) (by omega)) ?_;rintro v14 w3 ⟨rfl,hg14⟩;have hC9:Chg (UM w.heap.size tag (k+1)) w w3:=(UM.up (hCk.next hM14.toChg)).next (Chg.of_grown hg14 fun q hq=>⟨dt (h.e k hkX).1 q hq,.inr ⟨k,Nat.lt_succ_self _,(h.e k hkX).2 q hq⟩⟩);have hoQ9:=ew (hoQ.kept_from hM14) (Chg.of_grown (U:=fun q=>tag q=1000+2*k) hg14 fun q hq=>(h.e k hkX).2 q hq) (fun q hq e=>by have:=hcq q hq;omega);refine aj (ag (af (mvs rfl (mvi rfl (aa (cV (l:=[(0,.const (.int .i64 (-9)))]) (j_)) (aa (bT k_ rfl rfl (by omega)) ?_))))));have hM10:ah _ w3:=ah.rfl_;have hoQ8:=hoQ9.kept_from hM10;obtain ⟨g',cur,hgA,_,hbk,_⟩:=lY hoQ8 (by omega);cases hgA;refine ln (size:=13) (o:=k*13) (vs:=bD (mZ (-9))) aY (by show Value.pointer (some ⟨g,0+k*13,none⟩)=_;rw [Nat.zero_add]) rfl (by simp [bD,mZ,zM,Value.oneCell']) hoQ8 (by omega) (by show k*13+13≤L.length*13;omega) ?_;intro w4 O10 P10;rw [pQ nF _ k (by rw [jN (by omega)];exact hkX),uM hkX] at P10;have hC10:Chg (UM w.heap.size tag (k+1)) w w4:=(hC9.next hM10.toChg).next (O10.toChg ⟨hlq g rfl,.inl (by have:=hcq g rfl;omega)⟩);refine aj (bo (ag (af (mvi rfl (aa (b0 rfl rfl (by omega)) (asi rfl (aj ?_)))))));refine cp (k+1) ⟨(by first | rfl | (refine br ?_;omega)),trivial⟩ (by (iterate 34 refine bA rfl ?_);exact bN) ⟨?_,?_⟩
  ·exact ⟨by omega,P10.kept_from ah.rfl_,hC10.next (ah.rfl_:ah _ w4).toChg⟩
  ·omega
 refine b_ (bf (bf (bL (ag (af (mvs rfl (aa (cV (l:=[]) (qS)) ?_)))))));have hM21:ah _ w1:=ah.rfl_;refine jq (l:=[(0,.tmp 20)]) (cells:=(bD (mZ 0)).toArray) gP rfl rfl (Bb 0) ?_;intro b21 w5 E21 hb21 hk21;have hM22:ah _ w5:=(hM21.next E21);have ho9:=hoQ.kept_from hM22;refine gJ (base:=0) (news:=bD (mZ 0)) gP rfl (by decide) rfl ho9 (Nat.zero_le _) rfl rfl (fun _=>⟨b21,0,rfl,hk21.whole⟩) (fun h=>by cases h) (by simp [bD,mZ,zM,Value.oneCell']) (by omega) (by omega) ?_;intro A22 c22 w6 ho22 hg22;have hC22:Chg (UM w.heap.size tag L.length) w w6:=((hCk.wide fun q e=>.inl ⟨e.1,e.2.imp id fun ⟨i,a,b⟩=>⟨i,by omega,b⟩⟩).next hM22.toChg).next (Chg.of_grown hg22 fun q hq=>⟨dt h.o q hq,.inl (h.c q hq)⟩);refine ass rfl (aj (cC (dV rfl (⟨rfl,(hC22.next (ah.rfl_:ah _ w6).toChg).wide fun q e=>.inl (e.2.imp id fun ⟨i,_,b⟩=>⟨i,b⟩)⟩))))
end Go.Proofs.YtkpooenofjdpmaaGreat
namespace Go.Proofs.YtkpooenofjdpmaaGreat
open Go.Proofs.Tryz (prog)
open Go.RowKit
abbrev ve:Ty:=.pr (.int .i64) (.pr (.int .i64) (.pr .str .unit))
theorem u4 {w:World} {c:Nat→Option Value} {xs:List ve.den} (h:(Ty.sl ve).At w c xs) :
 ∃ (v:Value) (es:List Ent),c 0=some v∧cz w v es∧(∀ e∈es,e.Ok)∧es.length*32≤140737488351232:=by
 obtain ⟨A,cap,h0,h1,h2,h3⟩:=h;refine ⟨_,xs.map fun x=>⟨x.1,x.2.1,x.2.2.1⟩,h0,⟨A,cap,by rw [List.length_map],by rw [List.length_map];exact h2.1,h2.2.1,h2.2.2,fun hp=>?_⟩,?_,by rw [List.length_map];exact h1⟩
 ·rw [List.length_map] at hp;obtain ⟨b,o,hA,hb,hi⟩:=h3 hp;refine ⟨b,o,hA,hb,fun i hil=>?_⟩;rw [List.length_map] at hil;obtain ⟨⟨c1,_⟩,⟨c2,_⟩,⟨c3,_⟩,_⟩:=hi i _ (List.getElem?_eq_getElem hil);rw [List.getElem_map];exact ⟨c1,c2,c3⟩
 ·intro e he;simp only [List.mem_map] at he;obtain ⟨x,hx,rfl⟩:=he;obtain ⟨i,hil,rfl⟩:=List.mem_iff_getElem.1 hx;obtain ⟨b,o,hA,hb,hi⟩:=h3 (Nat.lt_of_le_of_lt (Nat.zero_le _) hil);obtain ⟨⟨_,c1⟩,⟨_,c2⟩,⟨_,c3⟩,_⟩:=hi i _ (List.getElem?_eq_getElem hil);have b1:=bounds_i64 c1;have b2:=bounds_i64 c2;exact ⟨b1.1,b1.2,b2.1,b2.2,c3⟩
end Go.Proofs.YtkpooenofjdpmaaGreat
namespace Go.Proofs.YtkpooenofjdpmaaGreat
open Go.Proofs.Tryz (prog)
open Go.RowKit
open Go.ChangeShapes Go.WideShapes Go.ChangeAt
theorem s5:cK prog 99 2=some 2:=by kernel_rfl
theorem o8:(prog.underlying 3).isSome=true:=by kernel_rfl
theorem lC:prog.underlying 108=some (.int .u64):=by kernel_rfl
theorem o_:(prog.underlying 108).isSome=true:=by kernel_rfl
theorem s4:prog.underlying 3=some (.int .i64):=by kernel_rfl
theorem qg:aO prog 25=true:=by kernel_rfl
abbrev Br:Ty:=.pr (.int .i64) (.pr (.int .i64) (.pr (.int .i64) (.pr (.int .i64) (.pr (.int .i64) (.pr (.int .i64) (.pr (.int .i64) (.pr (.int .i64) (.pr .bool (.pr (.sl ve) (.pr (.int .i64) (.pr .str (.pr .bool .unit))))))))))))
abbrev uf:Ty:=.pr (.int .i64) (.pr Br (.pr .bool (.pr .str (.pr (.int .i64) .unit))))
abbrev xh:Ty:=.pr (.int .i64) (.pr (.int .i64) (.pr (.int .i64) (.pr (.sl (.int .i64)) .unit)))
abbrev Bx:Ty:=.pr (.int .i64) (.pr (.int .i64) (.pr (.sl ve) .unit))
abbrev oo:Ty:=.pr (.int .i64) (.pr (.int .i64) (.pr (.int .i64) (.pr (.int .i64) (.pr (.int .i64) (.pr (.int .i64) (.pr Bx (.pr .str (.pr (.int .i64) (.pr (.int .i64) (.pr (.int .i64) (.pr (.int .u64) (.pr (.sl (.int .i64)) (.pr (.sl (.int .i64)) (.pr (.sl (.int .i64)) (.pr (.sl (.int .i64)) (.pr (.int .i64) (.pr (.sl xh) (.pr .str (.pr (.int .i64) .unit)))))))))))))))))))
structure Ac where
 dx:Int
 m:Msg
 fit:Bool
 d:ByteArray
 i:Int
def acV (x:Ac):List Value:=.int .i64 x.dx::(bD x.m++[.bool x.fit,.string x.d,.int .i64 x.i])
theorem u7 {α:Type} {f:α→List Value} {t:Ty} {w:World} {P:α→Prop} (hg:∀ (c:Nat→Option Value) (x:t.den),t.At w c x→∃ y:α,(∀ j v,(f y)[j]? =some v→c j=some v)∧P y) {c:Nat→Option Value} {xs:List t.den} (h:(Ty.sl t).At w c xs) :
 ∃ (A:Option Addr) (cap:Nat) (L:List α),c 0=some (.slice A L.length cap)∧g_ t.size f w A L∧(∀ y∈L,P y)∧L.length*t.bytes≤140737488351232∧L.length≤cap∧cap≤9223372036854775807∧(A=none→L.length=0∧cap=0):=by
 obtain ⟨A,cap,h0,h1,h2,h3⟩:=h
 have hno:A=none→xs.length=0:=fun e=>by
  rcases Nat.eq_zero_or_pos xs.length with hz | hz
  ·exact hz
  ·obtain ⟨b,o,hA,_⟩:=h3 hz;rw [e] at hA;cases hA
 rcases Nat.eq_zero_or_pos xs.length with hz | hz
 ·refine ⟨A,cap,[],by rw [h0];rw [hz];rfl,fun h=>absurd h (Nat.lt_irrefl _),fun y hy=>(by cases hy),(by rw [List.length_nil,Nat.zero_mul];exact Nat.zero_le _),Nat.zero_le _,h2.2.1,fun e=>⟨rfl,h2.2.2 e⟩⟩
 ·obtain ⟨b,o,hA,hb,hi⟩:=h3 hz;have g:∀ i:Fin xs.length,∃ y:α,(∀ j v,(f y)[j]? =some v→w.cell? ⟨b,o+i*t.size+j,none⟩=some v)∧P y:=fun i=>hg _ _ (hi i.1 xs[i.1] (List.getElem?_eq_getElem i.2))
  refine ⟨A,cap,List.ofFn fun i=>Classical.choose (g i),by rw [List.length_ofFn];exact h0,fun _=>⟨b,o,hA,fun i hil=>?_⟩,fun y hy=>?_,by rw [List.length_ofFn];exact h1,by rw [List.length_ofFn];exact h2.1,h2.2.1,fun e=>⟨by rw [List.length_ofFn];exact hno e,h2.2.2 e⟩⟩
  ·rw [List.length_ofFn] at hil;intro j v hv;rw [List.getElem_ofFn] at hv;exact (Classical.choose_spec (g ⟨i,hil⟩)).1 j v hv
  ·obtain ⟨i,hil,rfl⟩:=List.getElem_of_mem hy;rw [List.length_ofFn] at hil;rw [List.getElem_ofFn];exact (Classical.choose_spec (g ⟨i,hil⟩)).2
theorem sq {w:World} {c:Nat→Option Value} {xs:List Int} (h:(Ty.sl (.int .i64)).At w c xs):∃ (A:Option Addr) (cap:Nat),c 0=some (.slice A xs.length cap)∧IR w A cap xs∧xs.length*8≤140737488351232:=by
 have h':=h;obtain ⟨A0,c0,g0,g1,g2,g3⟩:=h';obtain ⟨A,cap,h0,hr,_,hb,hc⟩:=zA h;rw [g0] at h0;cases h0;refine ⟨A0,c0,g0,⟨(dE.of_row hr).2,hc.1,hc.2,fun e=>⟨?_,g2.2.2 e⟩⟩,hb⟩;rcases Nat.eq_zero_or_pos xs.length with hz | hz
 ·exact hz
 ·obtain ⟨b,o,hA,_⟩:=g3 hz;rw [e] at hA;cases hA
def BD (w:World) (q:Rd×Option Addr×Nat):Prop:=IR w q.2.1 q.2.2 q.1.acks∧q.1.acks.length*8≤140737488351232
theorem zy {w:World} (c:Nat→Option Value) (x:xh.den) (h:xh.At w c x):∃ q:Rd×Option Addr×Nat,(∀ j v,(rdV q)[j]? =some v→c j=some v)∧BD w q:=by
 obtain ⟨x0,x1,x2,xl,_⟩:=x;obtain ⟨g0,g1,g2,gl,_⟩:=h;obtain ⟨A,cap,e0,e1,e2⟩:=sq gl;refine ⟨(⟨x0,x1,x2,xl⟩,A,cap),fun j v hv=>?_,e1,e2⟩
 match j,hv with
 |0,hv=>cases hv;exact g0.1
 |1,hv=>cases hv;exact g1.1
 |2,hv=>cases hv;exact g2.1
 |3,hv=>cases hv;exact e0
 |j+4,hv=>simp [rdV] at hv
def wo (w:World) (x:Ac):Prop:=cz w (.slice x.m.E x.m.es.length x.m.c) x.m.es∧(∀ e∈x.m.es,e.Ok)∧x.m.es.length*32≤140737488351232∧x.m.d.size≤140737488351232∧x.d.size≤140737488351232
theorem wo.from_ {w w':World} {x:Ac} (h:wo w x) (hF:ah w w'):wo w' x:=⟨h.1.from_ hF,h.2⟩
theorem AB {w:World} (c:Nat→Option Value) (x:uf.den) (h:uf.At w c x):∃ X:Ac,(∀ j v,(acV X)[j]? =some v→c j=some v)∧wo w X:=by
 obtain ⟨x0,⟨xk,xf,xt,xtm,xix,xlt,xcm,xrd,xok,xE,xa,xd,xdn,_⟩,xb,xs,xi,_⟩:=x;obtain ⟨g0,⟨g1,g2,g3,g4,g5,g6,g7,g8,g9,gE,g11,g12,g13,_⟩,g14,g15,g16,_⟩:=h;obtain ⟨v,es,e0,e1,e2,e3⟩:=u4 gE;have e1':=e1;obtain ⟨E,c9,rfl,_⟩:=e1';refine ⟨⟨x0,{ zM with k:=xk,f:=xf,t:=xt,tm:=xtm,ix:=xix,lt:=xlt,cm:=xcm,rd:=xrd,ok:=xok,a:=xa,d:=xd,dn:=xdn,E:=E,c:=c9,es:=es },xb,xs,xi⟩,fun j v hv=>?_,e1,e2,e3,g12.2,g15.2⟩
 match j,hv with
 |0,hv=>cases hv;exact g0.1
 |1,hv=>cases hv;exact g1.1
 |2,hv=>cases hv;exact g2.1
 |3,hv=>cases hv;exact g3.1
 |4,hv=>cases hv;exact g4.1
 |5,hv=>cases hv;exact g5.1
 |6,hv=>cases hv;exact g6.1
 |7,hv=>cases hv;exact g7.1
 |8,hv=>cases hv;exact g8.1
 |9,hv=>cases hv;exact g9
 |10,hv=>cases hv;exact e0
 |11,hv=>cases hv;exact g11.1
 |12,hv=>cases hv;exact g12.1
 |13,hv=>cases hv;exact g13
 |14,hv=>cases hv;exact g14
 |15,hv=>cases hv;exact g15.1
 |16,hv=>cases hv;exact g16.1
 |j+17,hv=>simp [acV,bD] at hv
structure Bp (s:Rf) (a:Ra):Prop where
 sn:s.snap.size≤140737488351232
 pa:s.part.size≤140737488351232
 es:s.es.length*32≤140737488351232
 eo:∀ e∈s.es,e.Ok
 v:s.votes.length*8≤140737488351232
 x:s.next.length*8≤140737488351232
 m:s.mtch.length*8≤140737488351232
 n:s.sent.length*8≤140737488351232
 q:a.L.length*48≤140737488351232
 k:∀ q∈a.L,q.1.acks.length*8≤140737488351232
theorem zz {w:World} {c:Nat→Option Value} {x:oo.den} (h:oo.At w c x):∃ (s:Rf) (a:Ra),(∀ j v,(rfV s a)[j]? =some v→c j=some v)∧eM w s a∧Bp s a:=by
 obtain ⟨x0,x1,x2,x3,x4,x5,⟨xb,xt,xe,_⟩,xsn,xco,xel,xti,xse,xv,xx,xm,xn,xro,xq,xpa,xpo,_⟩:=x;obtain ⟨g0,g1,g2,g3,g4,g5,⟨g6,g7,g8,_⟩,g9,g10,g11,g12,g13,g14,g15,g16,g17,g18,g19,g20,g21,_⟩:=h;obtain ⟨v,es,e0,e1,e2,e3⟩:=u4 g8;have e1':=e1;obtain ⟨E,Ec,rfl,_⟩:=e1';obtain ⟨V,Vc,v0,v1,v2⟩:=sq g14;obtain ⟨X,Xc,y0,y1,y2⟩:=sq g15;obtain ⟨M,Mc,m0,m1,m2⟩:=sq g16;obtain ⟨N,Nc,n0,n1,n2⟩:=sq g17;obtain ⟨Q,Qc,L,q0,q1,q2,q3,q4,q5,q6⟩:=u7 (f:=rdV) zy g19;refine ⟨{ id:=x0,nodes:=x1,role:=x2,term:=x3,vote:=x4,leader:=x5,b:=xb,t:=xt,es:=es,snap:=xsn,commit:=xco,elapsed:=xel,timeout:=xti,seed:=xse,votes:=xv,next:=xx,mtch:=xm,sent:=xn,round:=xro,reads:=L.map (fun q=>q.1),part:=xpa,partOf:=xpo },⟨E,Ec,V,Vc,X,Xc,M,Mc,N,Nc,Q,Qc,L⟩,fun j v hv=>?_,⟨e1,v1,y1,m1,n1,rfl,q1,⟨q4,q5,q6⟩,fun q hq=>(q2 q hq).1⟩,⟨g9.2,g20.2,e3,e2,v2,y2,m2,n2,q3,fun q hq=>(q2 q hq).2⟩⟩
 match j,hv with
 |0,hv=>cases hv;exact g0.1
 |1,hv=>cases hv;exact g1.1
 |2,hv=>cases hv;exact g2.1
 |3,hv=>cases hv;exact g3.1
 |4,hv=>cases hv;exact g4.1
 |5,hv=>cases hv;exact g5.1
 |6,hv=>cases hv;exact g6.1
 |7,hv=>cases hv;exact g7.1
 |8,hv=>cases hv;exact e0
 |9,hv=>cases hv;exact g9.1
 |10,hv=>cases hv;exact g10.1
 |11,hv=>cases hv;exact g11.1
 |12,hv=>cases hv;exact g12.1
 |13,hv=>cases hv;exact g13.1
 |14,hv=>cases hv;exact v0
 |15,hv=>cases hv;exact y0
 |16,hv=>cases hv;exact m0
 |17,hv=>cases hv;exact n0
 |18,hv=>cases hv;exact g18.1
 |19,hv=>cases hv;exact q0
 |20,hv=>cases hv;exact g20.1
 |21,hv=>cases hv;exact g21.1
 |j+22,hv=>simp [rfV] at hv
structure uk (w:World) (s:Rf) (a:Ra) (LA:Option Addr) (X:List Ac):Prop where
 r:eM w s a
 z:Bp s a
 x:g_ 17 acV w LA X
 o:∀ y∈X,wo w y
 n:X.length*147≤140737488351232
theorem uk.from_ {w w':World} {s:Rf} {a:Ra} {LA:Option Addr} {X:List Ac} (h:uk w s a LA X) (hF:ah w w'):uk w' s a LA X:=⟨h.r.from_ hF,h.z,h.x.from_ hF,fun y hy=>(h.o y hy).from_ hF,h.n⟩
def scV (s:Rf) (a:Ra) (LA:Option Addr) (n lc:Nat):List Value:=rfV s a++[.slice LA n lc]
theorem BC {cs:Array Value} {l:List Value} (hs:cs.size=l.length) (h:∀ (j:Nat) (v:Value),l[j]? =some v→cs[j]? =some v):cs=l.toArray:=by
 apply Array.ext_getElem?;intro i;rcases Nat.lt_or_ge i l.length with hi | hi
 ·rw [h i _ (List.getElem?_eq_getElem hi)];simp [hi]
 ·rw [Array.getElem?_eq_none (by omega)];simp [hi]
theorem vZ {w:World} {cs:Array Value} {x:(Ty.pr oo (.pr (.sl uf) .unit)).den} (hs:cs.size=23) (h:(Ty.pr oo (.pr (.sl uf) .unit)).At w (fun j=>cs[j]?) x):∃ s a LA lc X,cs=(scV s a LA (List.length X) lc).toArray∧uk w s a LA X:=by
 obtain ⟨h1,h2,_⟩:=h;obtain ⟨s,a,hc,hr,hz⟩:=zz h1;obtain ⟨LA,lc,X,q0,q1,q2,q3,q4,q5,q6⟩:=u7 (f:=acV) AB h2;refine ⟨s,a,LA,lc,X,BC hs fun j v hv=>?_,⟨hr,hz,q1,q2,q3⟩⟩;unfold scV at hv;rcases Nat.lt_or_ge j 22 with hj | hj
 ·rw [List.getElem?_append_left (show j<(rfV s a).length from hj)] at hv;exact hc j v hv
 ·rw [List.getElem?_append_right (show (rfV s a).length≤j from hj)] at hv
  obtain rfl:j=22:=by
   have:=(List.getElem?_eq_some_iff.1 hv).1;rw [lQ] at this;simp at this;omega
  simp [lQ] at hv;subst hv;exact q0
def Small (s:Rf) (X:List Ac):Prop:=(s.votes.length≤20000∧s.next.length≤20000∧s.mtch.length≤20000∧s.sent.length≤20000∧s.reads.length≤20000∧∀ q∈s.reads,q.acks.length≤20000)∧s.es.length≤600∧X.length≤100∧(s.snap.size≤20000∧s.part.size≤20000)∧∀ y∈X,y.m.es.length≤200∧y.m.d.size≤20000∧y.d.size≤20000
theorem x9 {w:World} {A:Option Addr} {n c:Nat} {es:List Ent} (h:cz w (.slice A n c) es) (hs:∀ e∈es,e.Ok) (h0:0<n):∃ b o,A=some ⟨b,o,none⟩∧∀ j,j<n→∃ s:ByteArray,w.cell? ⟨b,o+j*3+2,none⟩=some (.string s)∧s.size≤140737488351232:=by
 obtain ⟨A',c',hv,_,_,_,hp⟩:=h;simp only [Value.slice.injEq] at hv;obtain ⟨rfl,rfl,rfl⟩:=hv;obtain ⟨b,o,hA,_,hc⟩:=hp h0;exact ⟨b,o,hA,fun j hj=>⟨es[j].d,(hc j hj).2.2,(hs _ (List.getElem_mem hj)).2.2.2.2⟩⟩
theorem l_ (A:Option Addr) (c n:Nat) (es:List Ent) (w:World) (he:cz w (.slice A n c) es) (ho:∀ e∈es,e.Ok) (hl:n≤140737488351232) :
 Rt prog 25 [.slice A n c] w (fun v w'=>(∃ m:Nat,v=.int .i64 (m:Nat)∧n≤m∧m≤562949953421312)∧w=w'):=by
 refine enter (n:=26) Tryz.func25 rfl rfl rfl (ak (af (asi rfl (aj (ag (ak (af (mvs rfl (aa (bH cU rfl) (asi rfl (aj (ag (ak (ak (af (asi rfl ?_))))))))))))))));refine aj (ag (aU (cM (G:=Nat×Nat) [7,8,9,10,11,12,13,14,15,16,17,18,19,20,21,22,23,24] (fun (m,k)=>[(3,.int .i64 (m:Nat)),(4,.int .i64 (k:Nat))]) (fun (m,k) w'=>k≤n∧n≤m∧m≤562949953421312∧w=w') (fun (_,k)=>n-k) ((n,0)) ⟨rfl,rfl,trivial⟩ ?_ ?_)))
 ·exact ⟨Nat.zero_le _,Nat.le_refl _,by omega,rfl⟩
 rintro ⟨m,k⟩ ρ1 w1 ⟨hk,hnm,hm,rfl⟩;refine ak (ak (af (mvi rfl (mvs rfl (aa (bH cU rfl) (aa (bM rfl rfl) (mvb rfl (AL (t:=11) rfl (fun Q2=>?_) (fun Q2=>?_)))))))))
 ·refine ae rfl (mvi rfl (ae rfl (aa (bM rfl rfl) (aa (aL (v:=.bool _) rfl rfl) (aj (ag (Bk rfl (fun Q3=>?_) (fun Q3=>?_))))))))
  ·obtain ⟨ba,oa,hA,hcs⟩:=x9 he ho (by omega);subst hA;obtain ⟨s,hs1,hs2⟩:=hcs k (by omega);refine aM (ag (ak (aU (af (mvi rfl (mvs rfl (mvi rfl (aa (bT eT rfl rfl (by omega)) (aa (ab s5 rfl) (aa (ar cS rfl (by exact hs1)) ?_))))))))));refine aa (eY (by kernel_rfl) rfl) (aa (cl rfl rfl (by omega)) (asi rfl (aj (bo (ag (af (mvi rfl (aa (cl (b:=1) rfl rfl (by omega)) (asi rfl (aj ?_))))))))));refine cp ((m+s.size,k+1)) ⟨(by first | rfl | (refine br ?_;omega)),(by first | rfl | (refine br ?_;omega)),trivial⟩ (by (iterate 41 refine bA rfl ?_);exact bN) ⟨?_,?_⟩
   ·exact ⟨by omega,by omega,by omega,rfl⟩
   ·show n-(k+1)<n-k;omega
  refine b_ (bf (bf (bL (ag (ak (af (mvi rfl (asi rfl (aj (ag (aB (bn (v:=.int _ _) rfl rfl (⟨⟨_,rfl,hnm,hm⟩,rfl⟩)))))))))))))
 refine an rfl rfl (an rfl rfl (aa (aw (v:=.bool _) rfl rfl) (aj (ag (bd rfl (b_ (bf (bf (bL (ag (ak (af (mvi rfl (asi rfl ?_))))))))))))));refine aj (ag (aB (bn (v:=.int _ _) rfl rfl (⟨⟨_,rfl,hnm,hm⟩,rfl⟩))))
def wiN (i:Int) (n:Nat):Nat:=(IntKind.u64.wrap i).toNat%n
theorem nM (i:Int) (n:Nat) (w:World) (hn:0<n∧n≤1000) :
 Rt prog 31 [.int .i64 i,.int .i64 (n:Nat)] w (fun v w'=>v=.int .i64 (wiN i n:Nat)∧w=w'):=by
 obtain ⟨a,ha,ha2⟩:∃ a:Nat,IntKind.u64.wrap i=(a:Int)∧a<18446744073709551616:=⟨(IntKind.u64.wrap i).toNat,by rw [IntKind.wrap_u64];omega,by rw [IntKind.wrap_u64];omega⟩;have hm:a%n<n:=Nat.mod_lt _ hn.1;have hwi:wiN i n=a%n:=by unfold wiN;rw [ha];rfl
 refine enter (n:=11) Tryz.func31 rfl rfl rfl (ak (af (asi rfl (aj (ag (ak (af (mvi rfl (aa (uQ o8 lC rfl) (dY (t:=6) (v:=.int _ _) (v':=.int .u64 (a:Nat)) rfl (by rw [ha]) ?_))))))))));refine mvi rfl (aa (pM o8 lC rfl (by omega)) (aa (wW rfl rfl (by omega)) ?_));refine dY (t:=9) (v:=.int _ _) (v':=.int .u64 ((a%n:Nat):Int)) rfl (by rw [Int.tmod_eq_emod_of_nonneg (by omega)];rfl) ?_;refine aa (rK o_ s4 rfl (by omega)) (asi rfl (aj (ag (aB (bn (v:=.int _ _) rfl rfl ?_)))));rw [hwi];exact ⟨rfl,rfl⟩
theorem pY (m:Msg) (w:World) (he:cz w (.slice m.E m.es.length m.c) m.es) (ho:∀ e∈m.es,e.Ok) (hl:m.es.length≤140737488351232) (hd:m.d.size≤140737488351232) :
 Rt prog 26 [.agg (bD m).toArray] w (fun v w'=>(∃ b,v=.bool b∧(b=false→m.es.length≤200∧m.d.size≤20000))∧ah w w'):=by
 refine enter (n:=19) Tryz.func26 rfl rfl rfl (ak (af (bK (v:=.agg _) rfl ?_)));intro b1 w1 E1 hb1 hk1;refine asb rfl (aj (ag (ak (af (aa (ab iE rfl) (aa (ar cS rfl (by exact (show _=some (Value.string m.d) from (hk1.from_ ah.rfl_).rd 11 rfl))) ?_))))));refine aa (eY (by kernel_rfl) rfl) (aa (cn rfl rfl) (mvb rfl (AL (t:=7) rfl (fun Q2=>?_) (fun Q2=>?_))))
 ·refine an rfl rfl (an rfl rfl (an rfl rfl (an rfl rfl (aa (aL (v:=.bool _) rfl rfl) (mvb rfl (an rfl rfl (an rfl rfl (an rfl rfl ?_))))))));refine an rfl rfl (aa (aL (v:=.bool _) rfl rfl) (asb rfl (aj (ag (aB (bn (v:=.bool _) rfl rfl (⟨⟨_,rfl,fun h=>?_⟩,(ah.rfl_.next E1)⟩)))))))
  first
   |(exfalso;simp at h;done)
   |(have h9:=dF_ h;omega)
   |(simp only [decide_eq_false_iff_not] at h;omega)
   |(simp at h;omega)
 refine ae rfl (aa (ab eI rfl) (ae rfl (aa (ar cI rfl (by exact (show _=some (Value.slice m.E m.es.length m.c) from (hk1.from_ ah.rfl_).rd 9 rfl))) ?_)));refine ae rfl (ay qg (l_ m.E m.c m.es.length m.es _ (he.from_ (ah.rfl_.next E1)) ho hl) ?_);rintro v10 w3 ⟨⟨m10,rfl,hm1,hm2⟩,rfl⟩;refine ae rfl (aa (cn rfl rfl) (aa (aw (v:=.bool _) rfl rfl) (mvb rfl (AL (t:=13) rfl (fun Q4=>?_) (fun Q4=>?_)))))
 ·refine an rfl rfl (an rfl rfl (an rfl rfl (an rfl rfl (aa (aL (v:=.bool _) rfl rfl) (asb rfl (aj (ag (aB (bn (v:=.bool _) rfl rfl (⟨⟨_,rfl,fun h=>?_⟩,(ah.rfl_.next E1)⟩))))))))))
  first
   |(exfalso;simp at h;done)
   |(have h9:=dF_ h;omega)
   |(simp only [decide_eq_false_iff_not] at h;omega)
   |(simp at h;omega)
 refine ae rfl (aa (ab eI rfl) (ae rfl (aa (ar cI rfl (by exact (show _=some (Value.slice m.E m.es.length m.c) from (hk1.from_ ah.rfl_).rd 9 rfl))) ?_)));refine ae rfl (aa (bH cU rfl) (ae rfl (aa (cn rfl rfl) (aa (aw (v:=.bool _) rfl rfl) (asb rfl (aj (ag (aB (bn (v:=.bool _) rfl rfl (⟨⟨_,rfl,fun h=>?_⟩,(ah.rfl_.next E1)⟩))))))))))
 first
  |(exfalso;simp at h;done)
  |(have h9:=dF_ h;omega)
  |(simp only [decide_eq_false_iff_not] at h;omega)
  |(simp at h;omega)
theorem db:cK prog 32 0=some 0:=by kernel_rfl
theorem dz:cK prog 32 1=some 22:=by kernel_rfl
theorem ee:jc prog 30=some false:=by kernel_rfl
theorem fF:(fP prog 30).isSome=true:=by kernel_rfl
theorem ik:fP prog 30=some (41,17):=by kernel_rfl
theorem lk:cK prog 41 3=some 15:=by kernel_rfl
theorem eW:cK prog 41 1=some 1:=by kernel_rfl
theorem nw:aO prog 26=true:=by kernel_rfl
theorem k7 {w:World} {b a:Nat} {x:Ac} (h:w.rangeAt b a (acV x)):w.rangeAt b (a+1) (bD x.m):=fun j v hv=>by
 have hj:j<13:=(List.getElem?_eq_some_iff.1 hv).1
 have h1:(acV x)[j+1]? =some v:=by
  show (bD x.m++[Value.bool x.fit,.string x.d,.int .i64 x.i])[j]? =some v;rw [List.getElem?_append_left (show j<(bD x.m).length from hj)];exact hv
 have:=h (j+1) v h1
 rwa [show a+(j+1)=a+1+j by omega] at this
theorem cq (s:Rf) (a:Ra) (LA:Option Addr) (lc:Nat) (X:List Ac) (w:World) (h:uk w s a LA X) :
 Rt prog 15 [.agg (scV s a LA X.length lc).toArray] w (fun v w'=>(∃ b,v=.bool b∧(b=false→Small s X))∧ah w w'):=by
 have z1:=h.z.sn;have z2:=h.z.pa;have z3:=h.z.es;have z4:=h.z.v;have z5:=h.z.x;have z6:=h.z.m;have z7:=h.z.n;have z8:=h.z.q;have z9:=h.z.k;have z10:=h.n;have hLl:a.L.length=s.reads.length:=by rw [←h.r.r,List.length_map]
 refine enter (n:=111) Tryz.func15 rfl rfl rfl (ak (af (bK (v:=.agg _) rfl ?_)));intro b1 w1 E1 hb1 hk1;refine asb rfl (aj (ag (ak ?_)));apply bQ 41 [(6,eqp _),(7,eqp _),(8,eqp (.string s.snap)),(9,eqp _),(10,eqp _),(11,eqp _),(12,eqp (.string s.part)),(13,eqp _),(14,eqp (.int .i64 ((s.snap.size+s.part.size:Nat):Int))),(15,eqp _),(16,eqp _),(17,eqp _),(18,eqp (.slice a.E s.es.length a.Ec)),(19,fun v _=>∃ q:Nat,v=.int .i64 (q:Nat)∧s.es.length≤q∧q≤562949953421312),(20,fun v _=>∃ q:Nat,v=.int .i64 (q:Nat)∧s.snap.size+s.part.size+s.es.length≤q∧q≤844424930123776),(21,eqp _),(22,eqp _),(23,eqp (.slice a.V s.votes.length a.Vc)),(24,eqp _),(25,fun v _=>∃ q:Nat,v=.int .i64 (q:Nat)∧s.snap.size+s.part.size+s.es.length+s.votes.length≤q∧q≤985162418475008),(26,eqp _),(27,eqp _),(28,eqp (.slice a.X s.next.length a.Xc)),(29,eqp _),(30,fun v _=>∃ q:Nat,v=.int .i64 (q:Nat)∧s.snap.size+s.part.size+s.es.length+s.votes.length+s.next.length≤q∧q≤1125899906826240),(31,eqp _),(32,eqp _),(33,eqp (.slice a.M s.mtch.length a.Mc)),(34,eqp _),(35,fun v _=>∃ q:Nat,v=.int .i64 (q:Nat)∧s.snap.size+s.part.size+s.es.length+s.votes.length+s.next.length+s.mtch.length≤q∧q≤1266637395177472),(36,eqp _),(37,eqp _),(38,eqp (.slice a.S s.sent.length a.Sc)),(39,eqp _),(40,fun v _=>∃ q:Nat,v=.int .i64 (q:Nat)∧s.snap.size+s.part.size+s.es.length+s.votes.length+s.next.length+s.mtch.length+s.sent.length≤q∧q≤1407374883528704),(41,eqp _),(42,eqp _),(43,eqp (.slice a.Q a.L.length a.Qc)),(44,eqp _),(45,fun v _=>∃ q:Nat,v=.int .i64 (q:Nat)∧s.snap.size+s.part.size+s.es.length+s.votes.length+s.next.length+s.mtch.length+s.sent.length+a.L.length≤q∧q≤1548112371879936),(3,fun v _=>∃ q:Nat,v=.int .i64 (q:Nat)∧s.snap.size+s.part.size+s.es.length+s.votes.length+s.next.length+s.mtch.length+s.sent.length+a.L.length≤q∧q≤1548112371879936)] (by repeat first | exact cB | refine cA ?_ | refine bW ?_) (by kernel_rfl) (by kernel_rfl) ⟨aq _,aq _,aq _,aq _,aq _,aq _,aq _,aq _,aq _,aq _,aq _,aq _,aq _,(fun _ _ _ _ h=>h),(fun _ _ _ _ h=>h),aq _,aq _,aq _,aq _,(fun _ _ _ _ h=>h),aq _,aq _,aq _,aq _,(fun _ _ _ _ h=>h),aq _,aq _,aq _,aq _,(fun _ _ _ _ h=>h),aq _,aq _,aq _,aq _,(fun _ _ _ _ h=>h),aq _,aq _,aq _,aq _,(fun _ _ _ _ h=>h),(fun _ _ _ _ h=>h),trivial⟩
 case hop=>
  constructor
  ·rintro-w3 D3;exact au (ab db rfl) rfl
  constructor
  ·rintro-w4 D4;rintro _ rfl;exact au (ab di rfl) rfl
  constructor
  ·rintro-w5 D5;rintro _ rfl;exact au (ar cS rfl (by exact (show _=some (Value.string s.snap) from (hk1.from_ (ah.rfl_.next D5)).rd 9 rfl))) rfl
  constructor
  ·rintro-w6 D6;rintro v6_8 rfl;exact au (eY (by kernel_rfl) rfl) rfl
  constructor
  ·rintro-w7 D7;exact au (ab db rfl) rfl
  constructor
  ·rintro-w8 D8;rintro _ rfl;exact au (ab dX rfl) rfl
  constructor
  ·rintro-w9 D9;rintro _ rfl;exact au (ar cS rfl (by exact (show _=some (Value.string s.part) from (hk1.from_ (ah.rfl_.next D9)).rd 20 rfl))) rfl
  constructor
  ·rintro-w10 D10;rintro v10_12 rfl;exact au (eY (by kernel_rfl) rfl) rfl
  constructor
  ·rintro-w11 D11;rintro _ rfl _ rfl;exact au (cl rfl rfl (by omega)) rfl
  constructor
  ·rintro-w12 D12;exact au (ab db rfl) rfl
  constructor
  ·rintro-w13 D13;rintro _ rfl;exact au (ab bq rfl) rfl
  constructor
  ·rintro-w14 D14;rintro _ rfl;exact au (ab cW rfl) rfl
  constructor
  ·rintro-w15 D15;rintro _ rfl;exact au (ar cI rfl (by exact (show _=some (Value.slice a.E s.es.length a.Ec) from (hk1.from_ (ah.rfl_.next D15)).rd 8 rfl))) rfl
  constructor
  ·rintro-w16 D16;rintro v16_18 rfl;refine fJ qg ((l_ a.E a.Ec s.es.length s.es _ (h.r.e.from_ ((ah.rfl_.next E1).next D16)) h.z.eo (by omega)).mono ?_);rintro v w2 ⟨⟨q,rfl,hp,hq⟩,rfl⟩;exact ⟨ah.rfl_,q,rfl,hp,hq⟩
  constructor
  ·rintro-w17 D17;rintro v17_14 rfl v17_19 ⟨q17,rfl,hl17,hu17⟩;exact au (cl rfl rfl (by omega)) ⟨_,rfl,by omega,by omega⟩
  constructor
  ·rintro-w18 D18;exact au (ab db rfl) rfl
  constructor
  ·rintro-w19 D19;rintro _ rfl;exact au (ab cf rfl) rfl
  constructor
  ·rintro-w20 D20;rintro _ rfl;exact au (ar bc rfl (by exact (show _=some (Value.slice a.V s.votes.length a.Vc) from (hk1.from_ (ah.rfl_.next D20)).rd 14 rfl))) rfl
  constructor
  ·rintro-w21 D21;rintro v21_23 rfl;exact au (bH bI rfl) rfl
  constructor
  ·rintro-w22 D22;rintro v22_20 ⟨q22,rfl,hl22,hu22⟩ _ rfl;exact au (cl rfl rfl (by omega)) ⟨_,rfl,by omega,by omega⟩
  constructor
  ·rintro-w23 D23;exact au (ab db rfl) rfl
  constructor
  ·rintro-w24 D24;rintro _ rfl;exact au (ab bY rfl) rfl
  constructor
  ·rintro-w25 D25;rintro _ rfl;exact au (ar bc rfl (by exact (show _=some (Value.slice a.X s.next.length a.Xc) from (hk1.from_ (ah.rfl_.next D25)).rd 15 rfl))) rfl
  constructor
  ·rintro-w26 D26;rintro v26_28 rfl;exact au (bH bI rfl) rfl
  constructor
  ·rintro-w27 D27;rintro v27_25 ⟨q27,rfl,hl27,hu27⟩ _ rfl;exact au (cl rfl rfl (by omega)) ⟨_,rfl,by omega,by omega⟩
  constructor
  ·rintro-w28 D28;exact au (ab db rfl) rfl
  constructor
  ·rintro-w29 D29;rintro _ rfl;exact au (ab cu rfl) rfl
  constructor
  ·rintro-w30 D30;rintro _ rfl;exact au (ar bc rfl (by exact (show _=some (Value.slice a.M s.mtch.length a.Mc) from (hk1.from_ (ah.rfl_.next D30)).rd 16 rfl))) rfl
  constructor
  ·rintro-w31 D31;rintro v31_33 rfl;exact au (bH bI rfl) rfl
  constructor
  ·rintro-w32 D32;rintro v32_30 ⟨q32,rfl,hl32,hu32⟩ _ rfl;exact au (cl rfl rfl (by omega)) ⟨_,rfl,by omega,by omega⟩
  constructor
  ·rintro-w33 D33;exact au (ab db rfl) rfl
  constructor
  ·rintro-w34 D34;rintro _ rfl;exact au (ab cN rfl) rfl
  constructor
  ·rintro-w35 D35;rintro _ rfl;exact au (ar bc rfl (by exact (show _=some (Value.slice a.S s.sent.length a.Sc) from (hk1.from_ (ah.rfl_.next D35)).rd 17 rfl))) rfl
  constructor
  ·rintro-w36 D36;rintro v36_38 rfl;exact au (bH bI rfl) rfl
  constructor
  ·rintro-w37 D37;rintro v37_35 ⟨q37,rfl,hl37,hu37⟩ _ rfl;exact au (cl rfl rfl (by omega)) ⟨_,rfl,by omega,by omega⟩
  constructor
  ·rintro-w38 D38;exact au (ab db rfl) rfl
  constructor
  ·rintro-w39 D39;rintro _ rfl;exact au (ab bU rfl) rfl
  constructor
  ·rintro-w40 D40;rintro _ rfl;exact au (ar dR rfl (by exact (show _=some (Value.slice a.Q a.L.length a.Qc) from (hk1.from_ (ah.rfl_.next D40)).rd 19 rfl))) rfl
  constructor
  ·rintro-w41 D41;rintro v41_43 rfl;exact au (bH eS rfl) rfl
  constructor
  ·rintro-w42 D42;rintro v42_40 ⟨q42,rfl,hl42,hu42⟩ _ rfl;exact au (cl rfl rfl (by omega)) ⟨_,rfl,by omega,by omega⟩
  constructor
  ·rintro-w43 D43;rintro v43_45 ⟨q43,rfl,hl43,hu43⟩;exact au (dN rfl) ⟨_,rfl,by omega,by omega⟩
  exact trivial
 case hend=>
  intro w44 D44;rintro _ rfl _ rfl v8 rfl _ rfl _ rfl _ rfl v12 rfl _ rfl v14 rfl _ rfl _ rfl _ rfl v18 rfl v19 ⟨q44,rfl,hl44,hu44⟩ v20 ⟨q44,rfl,hl44,hu44⟩ _ rfl _ rfl v23 rfl _ rfl v25 ⟨q44,rfl,hl44,hu44⟩ _ rfl _ rfl v28 rfl _ rfl v30 ⟨q44,rfl,hl44,hu44⟩ _ rfl _ rfl v33 rfl _ rfl v35 ⟨q44,rfl,hl44,hu44⟩ _ rfl _ rfl v38 rfl _ rfl v40 ⟨q44,rfl,hl44,hu44⟩ _ rfl _ rfl v43 rfl _ rfl v45 ⟨q44,rfl,hl44,hu44⟩ v3 ⟨q3,rfl,hl3,hu3⟩;show St ..;refine aj (ag (ak (ak (af (asi rfl (aj (ag (aU (cM (G:=Nat×Nat) [46,47,48,49,50,51,52,53,54,55,56,57,58,59,60,61,62,63,64,65,66,67] (fun (m,k)=>[(3,.int .i64 (m:Nat)),(4,.int .i64 (k:Nat))]) (fun (m,k) w'=>k≤a.L.length∧s.snap.size+s.part.size+s.es.length+s.votes.length+s.next.length+s.mtch.length+s.sent.length+a.L.length≤m∧m≤2000000000000000∧(∀ j (h:j<a.L.length),j<k→a.L[j].1.acks.length≤m)∧Blk w' b1 32 (scV s a LA X.length lc).toArray∧ah w w') (fun (_,k)=>a.L.length-k) ((q3,0)) ⟨rfl,rfl,trivial⟩ ?_ ?_)))))))))
  ·exact ⟨Nat.zero_le _,hl3,by omega,fun j _ h=>absurd h (by omega),hk1.from_ (ah.rfl_.next D44),((ah.rfl_.next E1).next D44)⟩
  rintro ⟨m,k⟩ ρ45 w45 ⟨hk,hm1,hm2,hj1,hk1,hB⟩;refine ak (ak (af (mvi rfl (aa (ab db rfl) (aa (ab bU rfl) (aa (ar dR rfl (by exact (show _=some (Value.slice a.Q a.L.length a.Qc) from (hk1.from_ ah.rfl_).rd 19 rfl))) ?_))))));refine aa (bH eS rfl) (aa (bM rfl rfl) (mvb rfl (AL (t:=52) rfl (fun Q46=>?_) (fun Q46=>?_))))
  ·refine ae rfl (mvi rfl (ae rfl (aa (bM rfl rfl) (aa (aL (v:=.bool _) rfl rfl) (aj (ag (Bk rfl (fun Q47=>?_) (fun Q47=>?_))))))))
   ·have hkL:k<a.L.length:=by omega
    have zk:=z9 _ (List.getElem_mem hkL);obtain ⟨ba,oa,hQe,hcs⟩:=h.r.q (by omega);have hkq:Blk w45 b1 32 (scV s { a with Q:=some ⟨ba,oa,none⟩ } LA X.length lc).toArray:=by rw [←hQe];exact hk1.from_ ah.rfl_
    refine aM (ag (ak (aU (af (mvi rfl (aa (ab db rfl) (aa (ab bU rfl) (aa (ar dR rfl (by exact (show _=some (Value.slice (some ⟨ba,oa,none⟩) a.L.length a.Qc) from (hkq.from_ ah.rfl_).rd 19 rfl))) ?_))))))));refine mvi rfl (aa (bT fV rfl rfl (by omega)) (aa (ab eX rfl) (aa (ar bc rfl (by exact dP hB (hcs k hkL 3 _ rfl))) ?_)));refine aa (bH bI rfl) (aa (cl rfl rfl (by omega)) (asi rfl (aj (bo (ag (af (mvi rfl (aa (b0 rfl rfl (by omega)) (asi rfl (aj ?_))))))))));refine cp ((m+a.L[k].1.acks.length,k+1)) ⟨(by first | rfl | (refine br ?_;omega)),(by first | rfl | (refine br ?_;omega)),trivial⟩ (by (iterate 49 refine bA rfl ?_);exact bN) ⟨?_,?_⟩
    ·refine ⟨by omega,by omega,by omega,fun j h hj=>?_,hk1.from_ ah.rfl_,hB⟩;rcases Nat.lt_or_ge j k with e | e
     ·have:=hj1 j h e;omega
     ·obtain rfl:j=k:=by omega
      omega
    ·show a.L.length-(k+1)<a.L.length-k;omega
   refine b_ (bf (bf (bL (ag (ak (ak (af (asi rfl (aj (ag (aU (cM (G:=Nat×Nat) [2,68,69,70,71,72,73,74,75,76,77,78,79,80,81,82,83,84,85,86,87,88,89,90,91,92,93,94] (fun (m2,i)=>[(3,.int .i64 (m2:Nat)),(5,.int .i64 (i:Nat))]) (fun (m2,i) w'=>i≤X.length∧m≤m2∧m2≤2000000000000000∧(∀ j (h:j<X.length),j<i→X[j].m.es.length≤200∧X[j].m.d.size≤20000∧X[j].d.size≤m2)∧Blk w' b1 32 (scV s a LA X.length lc).toArray∧ah w w') (fun (_,i)=>X.length-i) ((m,0)) ⟨rfl,rfl,trivial⟩ ?_ ?_))))))))))))
   ·exact ⟨Nat.zero_le _,Nat.le_refl _,hm2,fun j _ h=>absurd h (by omega),hk1.from_ ah.rfl_,hB⟩
   rintro ⟨m2,i⟩ ρ48 w48 ⟨hk2,hn1,hn2,hj2,hk1,hB⟩;refine ak (ak (af (mvi rfl (aa (ab dz rfl) (aa (ar ee rfl (by exact (show _=some (Value.slice LA X.length lc) from (hk1.from_ ah.rfl_).rd 22 rfl))) ?_)))));refine aa (bH fF rfl) (aa (bM rfl rfl) (mvb rfl (AL (t:=73) rfl (fun Q49=>?_) (fun Q49=>?_))))
   ·refine ae rfl (mvi rfl (ae rfl (aa (bM rfl rfl) (aa (aL (v:=.bool _) rfl rfl) (aj (ag (Bk rfl (fun Q50=>?_) (fun Q50=>?_))))))))
    ·have hkX:i<X.length:=by omega
     have hox:=h.o _ (List.getElem_mem hkX);have zk:=hox.2.2.2.2;obtain ⟨ba,oa,hQe,hcs⟩:=h.x (by omega);have hkq:Blk w48 b1 32 (scV s a (some ⟨ba,oa,none⟩) X.length lc).toArray:=by rw [←hQe];exact hk1.from_ ah.rfl_
     refine aM (ag (ak (aU (ak (af (mvi rfl (aa (ab dz rfl) (aa (ar ee rfl (by exact (show _=some (Value.slice (some ⟨ba,oa,none⟩) X.length lc) from (hkq.from_ ah.rfl_).rd 22 rfl))) ?_))))))));refine mvi rfl (aa (bT ik rfl rfl (by omega)) (aa (ab lk rfl) (aa (ar cS rfl (by exact dP hB (hcs i hkX 15 _ rfl))) ?_)));refine aa (eY (by kernel_rfl) rfl) (aa (cl rfl rfl (by omega)) (asi rfl (aj (ag (ak (af (aa (ab dz rfl) (aa (ar ee rfl (by exact (show _=some (Value.slice (some ⟨ba,oa,none⟩) X.length lc) from (hkq.from_ ah.rfl_).rd 22 rfl))) ?_))))))));refine mvi rfl (aa (bT ik rfl rfl (by omega)) (aa (ab eW rfl) (aa (aG (cs:=bD X[i].m) bk aY rfl (k7 (eZ hB (hcs i hkX)))) (ay nw (pY X[i].m _ (hox.1.from_ hB) hox.2.1 (by have:=hox.2.2.1;omega) hox.2.2.2.1) ?_))));rintro v94 w51 ⟨⟨b94,rfl,hb94⟩,E94⟩;refine aj (ag (aR rfl (fun Q52=>?_) (fun Q52=>?_)))
     ·(try with_reducible first | (replace Q52 := dT_ Q52; trace "@MK N cq:g52+.c55-.g73+.c76+.c94+ 1.1") | (replace Q52 := dF_ Q52; trace "@MK N cq:g52+.c55-.g73+.c76+.c94+ 1.2") | (replace Q52 := dK Q52; trace "@MK N cq:g52+.c55-.g73+.c76+.c94+ 1.3") | (replace Q52 := dL Q52; trace "@MK N cq:g52+.c55-.g73+.c76+.c94+ 1.4"))
      (try with_reducible first | (replace Q52 := dT_ Q52; trace "@MK N cq:g52+.c55-.g73+.c76+.c94+ 2.1") | (replace Q52 := dF_ Q52; trace "@MK N cq:g52+.c55-.g73+.c76+.c94+ 2.2") | (replace Q52 := jt Q52; trace "@MK N cq:g52+.c55-.g73+.c76+.c94+ 2.3") | (replace Q52 := ju Q52; trace "@MK N cq:g52+.c55-.g73+.c76+.c94+ 2.4") | (replace Q52 := eG Q52; trace "@MK N cq:g52+.c55-.g73+.c76+.c94+ 2.5") | (replace Q52 := eH Q52; trace "@MK N cq:g52+.c55-.g73+.c76+.c94+ 2.6"))
      refine ak (af (asb rfl (aj (ag (aB (bC (aD (aD (bC (aD (bn (v:=.bool _) rfl rfl (⟨⟨_,rfl,fun h=>by cases h⟩,(hB.next E94)⟩))))))))))))
     (try with_reducible first | (replace Q52 := dT_ Q52; trace "@MK N cq:g52+.c55-.g73+.c76+.c94- 1.1") | (replace Q52 := dF_ Q52; trace "@MK N cq:g52+.c55-.g73+.c76+.c94- 1.2") | (replace Q52 := dK Q52; trace "@MK N cq:g52+.c55-.g73+.c76+.c94- 1.3") | (replace Q52 := dL Q52; trace "@MK N cq:g52+.c55-.g73+.c76+.c94- 1.4"))
     (try with_reducible first | (replace Q52 := dT_ Q52; trace "@MK N cq:g52+.c55-.g73+.c76+.c94- 2.1") | (replace Q52 := dF_ Q52; trace "@MK N cq:g52+.c55-.g73+.c76+.c94- 2.2") | (replace Q52 := jt Q52; trace "@MK N cq:g52+.c55-.g73+.c76+.c94- 2.3") | (replace Q52 := ju Q52; trace "@MK N cq:g52+.c55-.g73+.c76+.c94- 2.4") | (replace Q52 := eG Q52; trace "@MK N cq:g52+.c55-.g73+.c76+.c94- 2.5") | (replace Q52 := eH Q52; trace "@MK N cq:g52+.c55-.g73+.c76+.c94- 2.6"))
     refine aM (bo (ag (af (mvi rfl (aa (b0 rfl rfl (by omega)) (asi rfl (aj ?_)))))));refine cp ((m2+X[i].d.size,i+1)) ⟨(by first | rfl | (refine br ?_;omega)),(by first | rfl | (refine br ?_;omega)),trivial⟩ (by (iterate 60 refine bA rfl ?_);exact bN) ⟨?_,?_⟩
     ·refine ⟨by omega,by omega,by omega,fun j h hj=>?_,hk1.from_ (ah.rfl_.next E94),(hB.next E94)⟩;rcases Nat.lt_or_ge j i with e | e
      ·have:=hj2 j h e;omega
      ·obtain rfl:j=i:=by omega
       have:=hb94 (by first | rfl | assumption | simp_all);omega
     ·show X.length-(i+1)<X.length-i;omega
    refine b_ (bf (bf (bL (ag (ak (af (mvi rfl (aa (cn rfl rfl) (mvb rfl (AL (t:=97) rfl (fun Q53=>?_) (fun Q53=>?_)))))))))))
    ·refine an rfl rfl (an rfl rfl (an rfl rfl (an rfl rfl (an rfl rfl (an rfl rfl (aa (aL (v:=.bool _) rfl rfl) (mvb rfl (an rfl rfl ?_))))))));refine an rfl rfl (an rfl rfl (an rfl rfl (aa (aL (v:=.bool _) rfl rfl) (asb rfl (aj (ag (aB (bn (v:=.bool _) rfl rfl (⟨⟨_,rfl,fun h9=>?_⟩,hB⟩)))))))))
     have hh:m2≤20000∧s.es.length≤600∧X.length≤100:=by
      first
       |(exfalso;simp at h9;done)
       |(have h8:=dF_ h9;omega)
       |(simp only [decide_eq_false_iff_not] at h9;omega)
       |(simp at h9;omega)
     have hkl:k=a.L.length:=by omega
     refine ⟨⟨by omega,by omega,by omega,by omega,by omega,fun q hq=>?_⟩,hh.2.1,hh.2.2,⟨by omega,by omega⟩,fun y hy=>?_⟩
     ·rw [←h.r.r] at hq;obtain ⟨y,hy,rfl⟩:=List.mem_map.1 hq;obtain ⟨j,hj,rfl⟩:=List.getElem_of_mem hy;have:=hj1 j hj (by omega);omega
     ·obtain ⟨j,hj,rfl⟩:=List.getElem_of_mem hy;have:=hj2 j hj (by omega);omega
    refine ae rfl (aa (ab db rfl) (ae rfl (aa (ab bq rfl) (ae rfl (aa (ab cW rfl) (ae rfl (aa (ar cI rfl (by exact (show _=some (Value.slice a.E s.es.length a.Ec) from (hk1.from_ ah.rfl_).rd 8 rfl))) ?_)))))));refine ae rfl (aa (bH cU rfl) (ae rfl (aa (cn rfl rfl) (aa (aw (v:=.bool _) rfl rfl) (mvb rfl (AL (t:=105) rfl (fun Q54=>?_) (fun Q54=>?_)))))))
    ·refine an rfl rfl (an rfl rfl (an rfl rfl (an rfl rfl (aa (aL (v:=.bool _) rfl rfl) (asb rfl (aj (ag (aB (bn (v:=.bool _) rfl rfl (⟨⟨_,rfl,fun h9=>?_⟩,hB⟩))))))))))
     have hh:m2≤20000∧s.es.length≤600∧X.length≤100:=by
      first
       |(exfalso;simp at h9;done)
       |(have h8:=dF_ h9;omega)
       |(simp only [decide_eq_false_iff_not] at h9;omega)
       |(simp at h9;omega)
     have hkl:k=a.L.length:=by omega
     refine ⟨⟨by omega,by omega,by omega,by omega,by omega,fun q hq=>?_⟩,hh.2.1,hh.2.2,⟨by omega,by omega⟩,fun y hy=>?_⟩
     ·rw [←h.r.r] at hq;obtain ⟨y,hy,rfl⟩:=List.mem_map.1 hq;obtain ⟨j,hj,rfl⟩:=List.getElem_of_mem hy;have:=hj1 j hj (by omega);omega
     ·obtain ⟨j,hj,rfl⟩:=List.getElem_of_mem hy;have:=hj2 j hj (by omega);omega
    refine ae rfl (aa (ab dz rfl) (ae rfl (aa (ar ee rfl (by exact (show _=some (Value.slice LA X.length lc) from (hk1.from_ ah.rfl_).rd 22 rfl))) ?_)));refine ae rfl (aa (bH fF rfl) (ae rfl (aa (cn rfl rfl) (aa (aw (v:=.bool _) rfl rfl) (asb rfl (aj (ag (aB (bn (v:=.bool _) rfl rfl (⟨⟨_,rfl,fun h9=>?_⟩,hB⟩))))))))))
    have hh:m2≤20000∧s.es.length≤600∧X.length≤100:=by
     first
      |(exfalso;simp at h9;done)
      |(have h8:=dF_ h9;omega)
      |(simp only [decide_eq_false_iff_not] at h9;omega)
      |(simp at h9;omega)
    have hkl:k=a.L.length:=by omega
    refine ⟨⟨by omega,by omega,by omega,by omega,by omega,fun q hq=>?_⟩,hh.2.1,hh.2.2,⟨by omega,by omega⟩,fun y hy=>?_⟩
    ·rw [←h.r.r] at hq;obtain ⟨y,hy,rfl⟩:=List.mem_map.1 hq;obtain ⟨j,hj,rfl⟩:=List.getElem_of_mem hy;have:=hj1 j hj (by omega);omega
    ·obtain ⟨j,hj,rfl⟩:=List.getElem_of_mem hy;have:=hj2 j hj (by omega);omega
   refine bw rfl (aj (ag (bd rfl (b_ (bf (bf (bL (ag (ak (af (mvi rfl (aa (cn rfl rfl) (mvb rfl (AL (t:=97) rfl (fun Q55=>?_) (fun Q55=>?_)))))))))))))))
   ·refine an rfl rfl (an rfl rfl (an rfl rfl (an rfl rfl (an rfl rfl (an rfl rfl (aa (aL (v:=.bool _) rfl rfl) (mvb rfl (an rfl rfl ?_))))))));refine an rfl rfl (an rfl rfl (an rfl rfl (aa (aL (v:=.bool _) rfl rfl) (asb rfl (aj (ag (aB (bn (v:=.bool _) rfl rfl (⟨⟨_,rfl,fun h9=>?_⟩,hB⟩)))))))))
    have hh:m2≤20000∧s.es.length≤600∧X.length≤100:=by
     first
      |(exfalso;simp at h9;done)
      |(have h8:=dF_ h9;omega)
      |(simp only [decide_eq_false_iff_not] at h9;omega)
      |(simp at h9;omega)
    have hkl:k=a.L.length:=by omega
    refine ⟨⟨by omega,by omega,by omega,by omega,by omega,fun q hq=>?_⟩,hh.2.1,hh.2.2,⟨by omega,by omega⟩,fun y hy=>?_⟩
    ·rw [←h.r.r] at hq;obtain ⟨y,hy,rfl⟩:=List.mem_map.1 hq;obtain ⟨j,hj,rfl⟩:=List.getElem_of_mem hy;have:=hj1 j hj (by omega);omega
    ·obtain ⟨j,hj,rfl⟩:=List.getElem_of_mem hy;have:=hj2 j hj (by omega);omega
   refine ae rfl (aa (ab db rfl) (ae rfl (aa (ab bq rfl) (ae rfl (aa (ab cW rfl) (ae rfl (aa (ar cI rfl (by exact (show _=some (Value.slice a.E s.es.length a.Ec) from (hk1.from_ ah.rfl_).rd 8 rfl))) ?_)))))));refine ae rfl (aa (bH cU rfl) (ae rfl (aa (cn rfl rfl) (aa (aw (v:=.bool _) rfl rfl) (mvb rfl (AL (t:=105) rfl (fun Q56=>?_) (fun Q56=>?_)))))))
   ·refine an rfl rfl (an rfl rfl (an rfl rfl (an rfl rfl (aa (aL (v:=.bool _) rfl rfl) (asb rfl (aj (ag (aB (bn (v:=.bool _) rfl rfl (⟨⟨_,rfl,fun h9=>?_⟩,hB⟩))))))))))
    have hh:m2≤20000∧s.es.length≤600∧X.length≤100:=by
     first
      |(exfalso;simp at h9;done)
      |(have h8:=dF_ h9;omega)
      |(simp only [decide_eq_false_iff_not] at h9;omega)
      |(simp at h9;omega)
    have hkl:k=a.L.length:=by omega
    refine ⟨⟨by omega,by omega,by omega,by omega,by omega,fun q hq=>?_⟩,hh.2.1,hh.2.2,⟨by omega,by omega⟩,fun y hy=>?_⟩
    ·rw [←h.r.r] at hq;obtain ⟨y,hy,rfl⟩:=List.mem_map.1 hq;obtain ⟨j,hj,rfl⟩:=List.getElem_of_mem hy;have:=hj1 j hj (by omega);omega
    ·obtain ⟨j,hj,rfl⟩:=List.getElem_of_mem hy;have:=hj2 j hj (by omega);omega
   refine ae rfl (aa (ab dz rfl) (ae rfl (aa (ar ee rfl (by exact (show _=some (Value.slice LA X.length lc) from (hk1.from_ ah.rfl_).rd 22 rfl))) ?_)));refine ae rfl (aa (bH fF rfl) (ae rfl (aa (cn rfl rfl) (aa (aw (v:=.bool _) rfl rfl) (asb rfl (aj (ag (aB (bn (v:=.bool _) rfl rfl (⟨⟨_,rfl,fun h9=>?_⟩,hB⟩))))))))))
   have hh:m2≤20000∧s.es.length≤600∧X.length≤100:=by
    first
     |(exfalso;simp at h9;done)
     |(have h8:=dF_ h9;omega)
     |(simp only [decide_eq_false_iff_not] at h9;omega)
     |(simp at h9;omega)
   have hkl:k=a.L.length:=by omega
   refine ⟨⟨by omega,by omega,by omega,by omega,by omega,fun q hq=>?_⟩,hh.2.1,hh.2.2,⟨by omega,by omega⟩,fun y hy=>?_⟩
   ·rw [←h.r.r] at hq;obtain ⟨y,hy,rfl⟩:=List.mem_map.1 hq;obtain ⟨j,hj,rfl⟩:=List.getElem_of_mem hy;have:=hj1 j hj (by omega);omega
   ·obtain ⟨j,hj,rfl⟩:=List.getElem_of_mem hy;have:=hj2 j hj (by omega);omega
  refine bw rfl (aj (ag (bd rfl (b_ (bf (bf (bL (ag (ak (ak (af (asi rfl (aj (ag (aU (cM (G:=Nat×Nat) [2,68,69,70,71,72,73,74,75,76,77,78,79,80,81,82,83,84,85,86,87,88,89,90,91,92,93,94] (fun (m2,i)=>[(3,.int .i64 (m2:Nat)),(5,.int .i64 (i:Nat))]) (fun (m2,i) w'=>i≤X.length∧m≤m2∧m2≤2000000000000000∧(∀ j (h:j<X.length),j<i→X[j].m.es.length≤200∧X[j].m.d.size≤20000∧X[j].d.size≤m2)∧Blk w' b1 32 (scV s a LA X.length lc).toArray∧ah w w') (fun (_,i)=>X.length-i) ((m,0)) ⟨rfl,rfl,trivial⟩ ?_ ?_))))))))))))))))
  ·exact ⟨Nat.zero_le _,Nat.le_refl _,hm2,fun j _ h=>absurd h (by omega),hk1.from_ ah.rfl_,hB⟩
  rintro ⟨m2,i⟩ ρ57 w57 ⟨hk2,hn1,hn2,hj2,hk1,hB⟩;refine ak (ak (af (mvi rfl (aa (ab dz rfl) (aa (ar ee rfl (by exact (show _=some (Value.slice LA X.length lc) from (hk1.from_ ah.rfl_).rd 22 rfl))) ?_)))));refine aa (bH fF rfl) (aa (bM rfl rfl) (mvb rfl (AL (t:=73) rfl (fun Q58=>?_) (fun Q58=>?_))))
  ·refine ae rfl (mvi rfl (ae rfl (aa (bM rfl rfl) (aa (aL (v:=.bool _) rfl rfl) (aj (ag (Bk rfl (fun Q59=>?_) (fun Q59=>?_))))))))
   ·have hkX:i<X.length:=by omega
    have hox:=h.o _ (List.getElem_mem hkX);have zk:=hox.2.2.2.2;obtain ⟨ba,oa,hQe,hcs⟩:=h.x (by omega);have hkq:Blk w57 b1 32 (scV s a (some ⟨ba,oa,none⟩) X.length lc).toArray:=by rw [←hQe];exact hk1.from_ ah.rfl_
    refine aM (ag (ak (aU (ak (af (mvi rfl (aa (ab dz rfl) (aa (ar ee rfl (by exact (show _=some (Value.slice (some ⟨ba,oa,none⟩) X.length lc) from (hkq.from_ ah.rfl_).rd 22 rfl))) ?_))))))));refine mvi rfl (aa (bT ik rfl rfl (by omega)) (aa (ab lk rfl) (aa (ar cS rfl (by exact dP hB (hcs i hkX 15 _ rfl))) ?_)));refine aa (eY (by kernel_rfl) rfl) (aa (cl rfl rfl (by omega)) (asi rfl (aj (ag (ak (af (aa (ab dz rfl) (aa (ar ee rfl (by exact (show _=some (Value.slice (some ⟨ba,oa,none⟩) X.length lc) from (hkq.from_ ah.rfl_).rd 22 rfl))) ?_))))))));refine mvi rfl (aa (bT ik rfl rfl (by omega)) (aa (ab eW rfl) (aa (aG (cs:=bD X[i].m) bk aY rfl (k7 (eZ hB (hcs i hkX)))) (ay nw (pY X[i].m _ (hox.1.from_ hB) hox.2.1 (by have:=hox.2.2.1;omega) hox.2.2.2.1) ?_))));rintro v94 w60 ⟨⟨b94,rfl,hb94⟩,E94⟩;refine aj (ag (aR rfl (fun Q61=>?_) (fun Q61=>?_)))
    ·(try with_reducible first | (replace Q61 := dT_ Q61; trace "@MK N cq:g52-.g73+.c76+.c94+ 1.1") | (replace Q61 := dF_ Q61; trace "@MK N cq:g52-.g73+.c76+.c94+ 1.2") | (replace Q61 := dK Q61; trace "@MK N cq:g52-.g73+.c76+.c94+ 1.3") | (replace Q61 := dL Q61; trace "@MK N cq:g52-.g73+.c76+.c94+ 1.4"))
     (try with_reducible first | (replace Q61 := dT_ Q61; trace "@MK N cq:g52-.g73+.c76+.c94+ 2.1") | (replace Q61 := dF_ Q61; trace "@MK N cq:g52-.g73+.c76+.c94+ 2.2") | (replace Q61 := jt Q61; trace "@MK N cq:g52-.g73+.c76+.c94+ 2.3") | (replace Q61 := ju Q61; trace "@MK N cq:g52-.g73+.c76+.c94+ 2.4") | (replace Q61 := eG Q61; trace "@MK N cq:g52-.g73+.c76+.c94+ 2.5") | (replace Q61 := eH Q61; trace "@MK N cq:g52-.g73+.c76+.c94+ 2.6"))
     refine ak (af (asb rfl (aj (ag (aB (bC (aD (aD (bC (aD (bn (v:=.bool _) rfl rfl (⟨⟨_,rfl,fun h=>by cases h⟩,(hB.next E94)⟩))))))))))))
    (try with_reducible first | (replace Q61 := dT_ Q61; trace "@MK N cq:g52-.g73+.c76+.c94- 1.1") | (replace Q61 := dF_ Q61; trace "@MK N cq:g52-.g73+.c76+.c94- 1.2") | (replace Q61 := dK Q61; trace "@MK N cq:g52-.g73+.c76+.c94- 1.3") | (replace Q61 := dL Q61; trace "@MK N cq:g52-.g73+.c76+.c94- 1.4"))
    (try with_reducible first | (replace Q61 := dT_ Q61; trace "@MK N cq:g52-.g73+.c76+.c94- 2.1") | (replace Q61 := dF_ Q61; trace "@MK N cq:g52-.g73+.c76+.c94- 2.2") | (replace Q61 := jt Q61; trace "@MK N cq:g52-.g73+.c76+.c94- 2.3") | (replace Q61 := ju Q61; trace "@MK N cq:g52-.g73+.c76+.c94- 2.4") | (replace Q61 := eG Q61; trace "@MK N cq:g52-.g73+.c76+.c94- 2.5") | (replace Q61 := eH Q61; trace "@MK N cq:g52-.g73+.c76+.c94- 2.6"))
    refine aM (bo (ag (af (mvi rfl (aa (b0 rfl rfl (by omega)) (asi rfl (aj ?_)))))));refine cp ((m2+X[i].d.size,i+1)) ⟨(by first | rfl | (refine br ?_;omega)),(by first | rfl | (refine br ?_;omega)),trivial⟩ (by (iterate 60 refine bA rfl ?_);exact bN) ⟨?_,?_⟩
    ·refine ⟨by omega,by omega,by omega,fun j h hj=>?_,hk1.from_ (ah.rfl_.next E94),(hB.next E94)⟩;rcases Nat.lt_or_ge j i with e | e
     ·have:=hj2 j h e;omega
     ·obtain rfl:j=i:=by omega
      have:=hb94 (by first | rfl | assumption | simp_all);omega
    ·show X.length-(i+1)<X.length-i;omega
   refine b_ (bf (bf (bL (ag (ak (af (mvi rfl (aa (cn rfl rfl) (mvb rfl (AL (t:=97) rfl (fun Q62=>?_) (fun Q62=>?_)))))))))))
   ·refine an rfl rfl (an rfl rfl (an rfl rfl (an rfl rfl (an rfl rfl (an rfl rfl (aa (aL (v:=.bool _) rfl rfl) (mvb rfl (an rfl rfl ?_))))))));refine an rfl rfl (an rfl rfl (an rfl rfl (aa (aL (v:=.bool _) rfl rfl) (asb rfl (aj (ag (aB (bn (v:=.bool _) rfl rfl (⟨⟨_,rfl,fun h9=>?_⟩,hB⟩)))))))))
    have hh:m2≤20000∧s.es.length≤600∧X.length≤100:=by
     first
      |(exfalso;simp at h9;done)
      |(have h8:=dF_ h9;omega)
      |(simp only [decide_eq_false_iff_not] at h9;omega)
      |(simp at h9;omega)
    have hkl:k=a.L.length:=by omega
    refine ⟨⟨by omega,by omega,by omega,by omega,by omega,fun q hq=>?_⟩,hh.2.1,hh.2.2,⟨by omega,by omega⟩,fun y hy=>?_⟩
    ·rw [←h.r.r] at hq;obtain ⟨y,hy,rfl⟩:=List.mem_map.1 hq;obtain ⟨j,hj,rfl⟩:=List.getElem_of_mem hy;have:=hj1 j hj (by omega);omega
    ·obtain ⟨j,hj,rfl⟩:=List.getElem_of_mem hy;have:=hj2 j hj (by omega);omega
   refine ae rfl (aa (ab db rfl) (ae rfl (aa (ab bq rfl) (ae rfl (aa (ab cW rfl) (ae rfl (aa (ar cI rfl (by exact (show _=some (Value.slice a.E s.es.length a.Ec) from (hk1.from_ ah.rfl_).rd 8 rfl))) ?_)))))));refine ae rfl (aa (bH cU rfl) (ae rfl (aa (cn rfl rfl) (aa (aw (v:=.bool _) rfl rfl) (mvb rfl (AL (t:=105) rfl (fun Q63=>?_) (fun Q63=>?_)))))))
   ·refine an rfl rfl (an rfl rfl (an rfl rfl (an rfl rfl (aa (aL (v:=.bool _) rfl rfl) (asb rfl (aj (ag (aB (bn (v:=.bool _) rfl rfl (⟨⟨_,rfl,fun h9=>?_⟩,hB⟩))))))))))
    have hh:m2≤20000∧s.es.length≤600∧X.length≤100:=by
     first
      |(exfalso;simp at h9;done)
      |(have h8:=dF_ h9;omega)
      |(simp only [decide_eq_false_iff_not] at h9;omega)
      |(simp at h9;omega)
    have hkl:k=a.L.length:=by omega
    refine ⟨⟨by omega,by omega,by omega,by omega,by omega,fun q hq=>?_⟩,hh.2.1,hh.2.2,⟨by omega,by omega⟩,fun y hy=>?_⟩
    ·rw [←h.r.r] at hq;obtain ⟨y,hy,rfl⟩:=List.mem_map.1 hq;obtain ⟨j,hj,rfl⟩:=List.getElem_of_mem hy;have:=hj1 j hj (by omega);omega
    ·obtain ⟨j,hj,rfl⟩:=List.getElem_of_mem hy;have:=hj2 j hj (by omega);omega
   refine ae rfl (aa (ab dz rfl) (ae rfl (aa (ar ee rfl (by exact (show _=some (Value.slice LA X.length lc) from (hk1.from_ ah.rfl_).rd 22 rfl))) ?_)));refine ae rfl (aa (bH fF rfl) (ae rfl (aa (cn rfl rfl) (aa (aw (v:=.bool _) rfl rfl) (asb rfl (aj (ag (aB (bn (v:=.bool _) rfl rfl (⟨⟨_,rfl,fun h9=>?_⟩,hB⟩))))))))))
   have hh:m2≤20000∧s.es.length≤600∧X.length≤100:=by
    first
     |(exfalso;simp at h9;done)
     |(have h8:=dF_ h9;omega)
     |(simp only [decide_eq_false_iff_not] at h9;omega)
     |(simp at h9;omega)
   have hkl:k=a.L.length:=by omega
   refine ⟨⟨by omega,by omega,by omega,by omega,by omega,fun q hq=>?_⟩,hh.2.1,hh.2.2,⟨by omega,by omega⟩,fun y hy=>?_⟩
   ·rw [←h.r.r] at hq;obtain ⟨y,hy,rfl⟩:=List.mem_map.1 hq;obtain ⟨j,hj,rfl⟩:=List.getElem_of_mem hy;have:=hj1 j hj (by omega);omega
   ·obtain ⟨j,hj,rfl⟩:=List.getElem_of_mem hy;have:=hj2 j hj (by omega);omega
  refine bw rfl (aj (ag (bd rfl (b_ (bf (bf (bL (ag (ak (af (mvi rfl (aa (cn rfl rfl) (mvb rfl (AL (t:=97) rfl (fun Q64=>?_) (fun Q64=>?_)))))))))))))))
  ·refine an rfl rfl (an rfl rfl (an rfl rfl (an rfl rfl (an rfl rfl (an rfl rfl (aa (aL (v:=.bool _) rfl rfl) (mvb rfl (an rfl rfl ?_))))))));refine an rfl rfl (an rfl rfl (an rfl rfl (aa (aL (v:=.bool _) rfl rfl) (asb rfl (aj (ag (aB (bn (v:=.bool _) rfl rfl (⟨⟨_,rfl,fun h9=>?_⟩,hB⟩)))))))))
   have hh:m2≤20000∧s.es.length≤600∧X.length≤100:=by
    first
     |(exfalso;simp at h9;done)
     |(have h8:=dF_ h9;omega)
     |(simp only [decide_eq_false_iff_not] at h9;omega)
     |(simp at h9;omega)
   have hkl:k=a.L.length:=by omega
   refine ⟨⟨by omega,by omega,by omega,by omega,by omega,fun q hq=>?_⟩,hh.2.1,hh.2.2,⟨by omega,by omega⟩,fun y hy=>?_⟩
   ·rw [←h.r.r] at hq;obtain ⟨y,hy,rfl⟩:=List.mem_map.1 hq;obtain ⟨j,hj,rfl⟩:=List.getElem_of_mem hy;have:=hj1 j hj (by omega);omega
   ·obtain ⟨j,hj,rfl⟩:=List.getElem_of_mem hy;have:=hj2 j hj (by omega);omega
  refine ae rfl (aa (ab db rfl) (ae rfl (aa (ab bq rfl) (ae rfl (aa (ab cW rfl) (ae rfl (aa (ar cI rfl (by exact (show _=some (Value.slice a.E s.es.length a.Ec) from (hk1.from_ ah.rfl_).rd 8 rfl))) ?_)))))));refine ae rfl (aa (bH cU rfl) (ae rfl (aa (cn rfl rfl) (aa (aw (v:=.bool _) rfl rfl) (mvb rfl (AL (t:=105) rfl (fun Q65=>?_) (fun Q65=>?_)))))))
  ·refine an rfl rfl (an rfl rfl (an rfl rfl (an rfl rfl (aa (aL (v:=.bool _) rfl rfl) (asb rfl (aj (ag (aB (bn (v:=.bool _) rfl rfl (⟨⟨_,rfl,fun h9=>?_⟩,hB⟩))))))))))
   have hh:m2≤20000∧s.es.length≤600∧X.length≤100:=by
    first
     |(exfalso;simp at h9;done)
     |(have h8:=dF_ h9;omega)
     |(simp only [decide_eq_false_iff_not] at h9;omega)
     |(simp at h9;omega)
   have hkl:k=a.L.length:=by omega
   refine ⟨⟨by omega,by omega,by omega,by omega,by omega,fun q hq=>?_⟩,hh.2.1,hh.2.2,⟨by omega,by omega⟩,fun y hy=>?_⟩
   ·rw [←h.r.r] at hq;obtain ⟨y,hy,rfl⟩:=List.mem_map.1 hq;obtain ⟨j,hj,rfl⟩:=List.getElem_of_mem hy;have:=hj1 j hj (by omega);omega
   ·obtain ⟨j,hj,rfl⟩:=List.getElem_of_mem hy;have:=hj2 j hj (by omega);omega
  refine ae rfl (aa (ab dz rfl) (ae rfl (aa (ar ee rfl (by exact (show _=some (Value.slice LA X.length lc) from (hk1.from_ ah.rfl_).rd 22 rfl))) ?_)));refine ae rfl (aa (bH fF rfl) (ae rfl (aa (cn rfl rfl) (aa (aw (v:=.bool _) rfl rfl) (asb rfl (aj (ag (aB (bn (v:=.bool _) rfl rfl (⟨⟨_,rfl,fun h9=>?_⟩,hB⟩))))))))))
  have hh:m2≤20000∧s.es.length≤600∧X.length≤100:=by
   first
    |(exfalso;simp at h9;done)
    |(have h8:=dF_ h9;omega)
    |(simp only [decide_eq_false_iff_not] at h9;omega)
    |(simp at h9;omega)
  have hkl:k=a.L.length:=by omega
  refine ⟨⟨by omega,by omega,by omega,by omega,by omega,fun q hq=>?_⟩,hh.2.1,hh.2.2,⟨by omega,by omega⟩,fun y hy=>?_⟩
  ·rw [←h.r.r] at hq;obtain ⟨y,hy,rfl⟩:=List.mem_map.1 hq;obtain ⟨j,hj,rfl⟩:=List.getElem_of_mem hy;have:=hj1 j hj (by omega);omega
  ·obtain ⟨j,hj,rfl⟩:=List.getElem_of_mem hy;have:=hj2 j hj (by omega);omega
def eA (k:Nat) (l:List Msg):Prop:=l.length≤k∧∀ m∈l,m.es.length≤16
theorem eA.nil {k:Nat}:eA k []:=⟨Nat.zero_le _,fun m hm=>by cases hm⟩
theorem eA.tell {k:Nat} {p:Sp} (h:eA k p.out) {m:Msg} (hm:m.es.length≤16):eA (k+1) (p.tell m).out:=by
 refine ⟨by show (p.out++[_]).length≤_;rw [List.length_append,List.length_singleton];have:=h.1;omega,fun x hx=>?_⟩;rcases List.mem_append.1 hx with e | e
 ·exact h.2 x e
 ·obtain rfl:=List.mem_singleton.1 e;exact hm
theorem rD (s:Rf) (to:Int):(kj s to).es.length≤16:=by
 unfold kj;simp only;split
 ·exact Nat.zero_le _
 ·show ((s.es.drop _).take 16).length≤16;rw [List.length_take];omega
theorem eA.sends {k:Nat} {p:Sp} (h:eA k p.out) (l:List Int):eA (k+l.length) (p.sends l).out:=by
 rw [ki];refine ⟨by rw [List.length_append,List.length_map];have:=h.1;omega,fun x hx=>?_⟩;rcases List.mem_append.1 hx with e | e
 ·exact h.2 x e
 ·obtain ⟨y,_,rfl⟩:=List.mem_map.1 e;exact rD _ _
theorem eA.up {k j:Nat} {l:List Msg} (h:eA k l) (hj:k≤j):eA j l:=⟨Nat.le_trans h.1 hj,h.2⟩
theorem eA.all {k:Nat} {p:Sp} (h:eA k p.out) (hn:p.s.nodes≤7):eA (k+7) p.all.out:=(h.sends (dw p.s)).up (by have:=lq p.s;omega)
theorem eA.lead {k:Nat} {p:Sp} (h:eA k p.out) (hn:p.s.nodes≤7):eA (k+7) (j5 p).out:=by
 unfold j5;split
 ·exact h.up (by omega)
 ·exact eA.all (p:=⟨_,p.out⟩) h hn
theorem eA.wins {k:Nat} {p:Sp} (h:eA k p.out) (hn:p.s.nodes≤7):eA (k+7) (iv p).out:=by
 unfold iv;split
 ·exact h.lead hn
 ·exact h.up (by omega)
theorem RfF.leads {p:Sp} (h:RfF p.s):RfF (j5 p).s:=by
 unfold j5;split
 ·exact h.falls h.te.2
 ·rename_i hf;have hf':fA p.s=false:=by simpa using hf
  have h1:=h.lead hf';show RfF (ck (Sp.all ⟨_,p.out⟩).s);rw [kA];exact h1.settle rfl
theorem RfF.wins {p:Sp} (h:RfF p.s):RfF (iv p).s:=by
 unfold iv;split
 ·exact h.leads
 ·exact h
theorem bh.chgT {w w':World} {tag:Nat→Nat} {s:Rf} {a:Ra} {U:Nat→Prop} (h:bh w tag s a) (hC:Chg U w w') (hU:∀ q,q<w.heap.size→U q→tag q=8∨tag q=6∨∃ j,tag q=1000+2*j):bh w' tag s a:=by
 have mv:∀ {d e s n cc:Nat} {A:Option Addr} {xs:List Value},StC d→w.ownsRow 0 e s (.slice A n cc) n xs∧Col tag d A→w'.ownsRow 0 e s (.slice A n cc) n xs∧Col tag d A:=fun hd h=>⟨ew h.1 hC (fun k hk e=>by
  have h1:=h.2 k hk;have h8:=hd.eight;have h6:=hd.six;rcases hU k (dt h.1 k hk) e with e | e | ⟨j,e⟩
  ·omega
  ·omega
  ·have:=hd.even j;omega),h.2⟩
 exact ⟨fun hx=>mv (.inl (by decide)) (h.e hx),fun hx=>mv (.inl (by decide)) (h.v hx),fun hx=>mv (.inl (by decide)) (h.x hx),fun hx=>mv (.inl (by decide)) (h.m hx),fun hx=>mv (.inl (by decide)) (h.n hx),h.r,fun hx=>mv (.inl (by decide)) (h.q hx),fun i hi hx=>mv (.inr ⟨i,rfl⟩) (h.k i hi hx)⟩
theorem eu.chgT {w w':World} {tag:Nat→Nat} {out:List Msg} {O:Option Addr} {oc:Nat} {L:List Msg} {U:Nat→Prop} (h:eu w tag out O oc L) (hC:Chg U w w') (hU:∀ q,q<w.heap.size→U q→tag q=8∨StC (tag q)):eu w' tag out O oc L:=by
 have mv:∀ {d e s n cc:Nat} {A:Option Addr} {xs:List Value},(d=6∨∃ j,d=1000+2*j)→w.ownsRow 0 e s (.slice A n cc) n xs∧Col tag d A→w'.ownsRow 0 e s (.slice A n cc) n xs∧Col tag d A:=fun hd h=>⟨ew h.1 hC (fun k hk e=>by
  have h1:=h.2 k hk;rcases hU k (dt h.1 k hk) e with e | e
  ·rcases hd with hd | ⟨j,hd⟩ <;> omega
  ·rcases hd with hd | ⟨j,hd⟩
   ·have:=e.six;omega
   ·have:=e.even j;omega),h.2⟩
 exact ⟨(mv (.inl rfl) ⟨h.o,h.c⟩).1,h.l,fun j hj=>mv (.inr ⟨j,rfl⟩) (h.e j hj),h.c⟩
theorem eu.len {w:World} {tag:Nat→Nat} {out:List Msg} {O:Option Addr} {oc:Nat} {L:List Msg} (h:eu w tag out O oc L):L.length=out.length:=by
 have h9:=congrArg List.length h.l;rw [List.length_map] at h9;exact h9
theorem eu.es {w:World} {tag:Nat→Nat} {out:List Msg} {O:Option Addr} {oc:Nat} {L:List Msg} {k:Nat} (h:eu w tag out O oc L) (ho:eA k out):∀ x∈L,x.es.length≤16:=fun x hx=>by
 have h1:pl x∈out:=by rw [←h.l];exact List.mem_map_of_mem hx
 exact (show (pl x).es.length≤16 from ho.2 _ h1)
theorem eu.ents {w:World} {tag:Nat→Nat} {out:List Msg} {O:Option Addr} {oc:Nat} {L:List Msg} (h:eu w tag out O oc L):∀ x∈L,cz w (.slice x.E x.es.length x.c) x.es:=fun x hx=>by
 obtain ⟨j,hj,rfl⟩:=List.getElem_of_mem hx;exact cz.of_own (h.e j hj).1 rfl
theorem zh {w:World} {tag tag':Nat→Nat} {out:List Msg} {O O':Option Addr} {oc oc':Nat} {L L':List Msg} (h:eu w tag out O oc L) (h':eu w tag' out O' oc' L') (ho:eA 1000 out) :
 Rt prog 50 [.slice O L.length oc,.slice O' L'.length oc'] w fun v w'=>v=.bool true∧ah w w':=by
 have e:=h'.len.trans h.len.symm;have hl:=h.len;have h1:=ho.1;rw [e];exact sa O O' oc oc' L.length L L' w (g_.own nF (by decide) h.o).2 (g_.own nF (by decide) h'.o).2 rfl e (h.l.trans h'.l.symm) h.ents h'.ents (fun x hx=>by have:=h.es ho x hx;omega) (by omega)
def UBs (z b4 b11:Nat):Nat→Prop:=fun q=>q=b11∨q=b4∨z≤q
theorem mD (s:Rf) (a:Ra) (w:World) (hrd:eM w s a) (hl:s.votes.length≤1000000∧s.next.length≤1000000∧s.mtch.length≤1000000∧s.sent.length≤1000000∧s.reads.length≤1000000∧∀ q∈s.reads,q.acks.length≤1000000) {b:Bool} (hm:gZ s=b):Rt prog 30 [.agg (rfV s a).toArray] w fun v w'=>v=.bool b∧ah w w':=by
 subst hm;exact yQ s a w hrd hl
theorem mr (i:Int) (n N:Nat) (w:World) (hn:0<n∧n≤1000) (h:wiN i n=N):Rt prog 31 [.int .i64 i,.int .i64 (n:Nat)] w fun v w'=>v=.int .i64 (N:Nat)∧w=w':=by
 subst h;exact nM i n w hn
theorem sz7 {s:Rf} (hl:s.votes.length≤1000000∧s.next.length≤1000000∧s.mtch.length≤1000000∧s.sent.length≤1000000∧s.reads.length≤1000000∧∀ q∈s.reads,q.acks.length≤1000000) (hel:s.es.length≤1000000):s.es.length≤1000000∧s.votes.length≤1000000∧s.next.length≤1000000∧s.mtch.length≤1000000∧s.sent.length≤1000000∧s.reads.length≤1000000∧∀ q∈s.reads,q.acks.length≤1000000:=⟨hel,hl⟩
structure BL (w:World) (tag:Nat→Nat) (l:List Rd) (A:Option Addr) (c:Nat) (N:List (Rd×Option Addr×Nat)):Prop where
 q:w.ownsRow 0 54 4 (.slice A N.length c) N.length (N.flatMap rdV)
 r:N.map (fun q=>q.1)=l
 k:∀ (j:Nat) (h:j<N.length),w.ownsRow 0 3 1 (.slice N[j].2.1 N[j].1.acks.length N[j].2.2) N[j].1.acks.length (N[j].1.acks.map iV)∧Col tag (1000+2*j) N[j].2.1
 c:Col tag 6 A
section
variable {w w':World} {tag:Nat→Nat} {l:List Rd} {A:Option Addr} {c:Nat} {N:List (Rd×Option Addr×Nat)}
structure BK (w:World) (l:List Rd) (A:Option Addr) (N:List (Rd×Option Addr×Nat)):Prop where
 q:g_ 4 rdV w A N
 r:N.map (fun q=>q.1)=l
 k:∀ q∈N,IR w q.2.1 q.2.2 q.1.acks
end
def Sz7 (s:Rf):Prop:=s.es.length≤1000000∧s.votes.length≤1000000∧s.next.length≤1000000∧s.mtch.length≤1000000∧s.sent.length≤1000000∧s.reads.length≤1000000∧∀ q∈s.reads,q.acks.length≤1000000
theorem Sz7.settle {s:Rf} (h:Sz7 s):Sz7 (ck s):=by
 obtain ⟨h0,h1,h2,h3,h4,h5,h6⟩:=h;exact ⟨h0,h1,h2,by show (dc s.mtch s.id _).length≤_;rw [eD];exact h3,h4,h5,h6⟩
end Go.Proofs.YtkpooenofjdpmaaGreat
namespace Go.Proofs.YtkpooenofjdpmaaGreat
open Go.Proofs.Tryz (prog)
open Go.RowKit
open Go.ChangeShapes Go.WideShapes Go.ChangeAt
open Go.RowKit
theorem RfF.sz {s:Rf} (h:RfF s):Sz7 s:=by
 have hn:=h.n;have hv:=h.vl;have hl:=h.last;have h1:=h.nx.1;have h2:=h.ma.1;have h3:=h.se.1;have h0:fN s≤7:=by unfold fN;split <;> omega
 have h4:=h.rl
 exact ⟨by omega,by omega,by omega,by omega,by omega,by omega,fun q hq=>by
  have h5:=h.rd q hq;unfold gF at h5;simp only [Bool.and_eq_true] at h5;have:=vP h5.2 hn.2;omega⟩
structure ej (p:Sp):Prop where
 s:Sz7 p.s
 o:eA 100 p.out
theorem ej.nil {s:Rf} (h:Sz7 s):ej ⟨s,[]⟩:=⟨h,eA.nil⟩
theorem ej.tell {s:Rf} {m:Msg} (h:Sz7 s) (hm:m.es.length≤16):ej (Sp.tell ⟨s,[]⟩ m):=⟨h,(eA.tell (k:=0) (p:=⟨s,[]⟩) eA.nil hm).up (by decide)⟩
theorem ej.send {s:Rf} (h:Sz7 s) (to:Int):ej (Sp.send ⟨s,[]⟩ to):=ej.tell h (rD _ _)
theorem vI {s:Rf} (h:Sz7 s) (m:Msg):ej (fH s m):=by
 unfold fH;split
 ·exact ej.tell h (Nat.zero_le _)
 ·split
  ·exact ej.tell h (Nat.zero_le _)
  ·exact ej.nil h
theorem yD {s:Rf} (h:Sz7 s) (m:Msg):ej (wB s m):=by
 unfold wB;simp only;split
 ·exact ej.tell (s:={ s with vote:=m.f,elapsed:=0 }) h (Nat.zero_le _)
 ·exact ej.tell h (Nat.zero_le _)
theorem wA {s:Rf} (h:RfF s) {m:Msg} (hf:1≤m.f∧m.f≤s.nodes):ej (im s m):=by
 unfold im;split
 ·have h1:=h.voted hf;have hn:=h.n;exact ⟨(RfF.wins (p:=⟨{ s with votes:=c8 s.votes m.f },[]⟩) h1).sz,(eA.wins (k:=0) (p:=⟨{ s with votes:=c8 s.votes m.f },[]⟩) eA.nil hn.2).up (by decide)⟩
 ·exact ej.nil h.sz
theorem v_ {s:Rf} (h:RfF s) (m:Msg):ej (qN s m):=by
 unfold qN;simp only;split
 ·exact ej.nil h.sz
 ·rename_i h1;split
  ·exact ej.tell h.sz (Nat.zero_le _)
  ·rename_i h2;split
   ·exact ej.nil h.sz
   ·have h3:lu s.b s.t m.ix m.lt s.es m.es=(0,false,(lu s.b s.t m.ix m.lt s.es m.es).2.2):=by
     have e1:(lu s.b s.t m.ix m.lt s.es m.es).1=0:=Decidable.byContradiction h1;have e2:(lu s.b s.t m.ix m.lt s.es m.es).2.1=false:=by simpa using h2
     exact Prod.ext e1 (Prod.ext e2 rfl)
    have h4:=(eP (xJ h h3).2.1).2.2.2;have h5:=h.sz;exact ej.tell (s:={ s with es:=_,commit:=_ }) ⟨Nat.le_trans h4 (by decide),h5.2⟩ (Nat.zero_le _)
theorem yT {s:Rf} (h:Sz7 s) (m:Msg):ej (xp s m):=by
 unfold xp;simp only
 have h1:Sz7 (if s.partOf≠m.ix then { s with partOf:=m.ix,part:=⟨#[]⟩ } else s):=by
  split <;> exact h
 generalize (if s.partOf≠m.ix then ({ s with partOf:=m.ix,part:=⟨#[]⟩ }:Rf) else s)=a at h1 ⊢
 split
 ·exact ej.tell h (Nat.zero_le _)
 ·have h2:∀ b:Bool,Sz7 (if b=true then { a with part:=a.part++m.d } else a):=fun b=>by
   split <;> exact h1
  have h2:=h2 (decide (m.a=a.part.size)&&decide (a.part.size+m.d.size≤524288))
  generalize (if (decide (m.a=a.part.size)&&decide (a.part.size+m.d.size≤524288))=true then ({ a with part:=a.part++m.d }:Rf) else a)=c at h2 ⊢
  split
  ·refine ej.tell (s:={ c with b:=_,t:=_,es:=_,snap:=_,commit:=_,part:=_,partOf:=_ }) ⟨?_,h2.2⟩ (Nat.zero_le _);show (if _ then c.es.drop _ else []).length≤_;have:=h2.1;split
   ·rw [List.length_drop];omega
   ·exact Nat.zero_le _
  ·exact ej.tell h2 (Nat.zero_le _)
theorem zc {s:Rf} (h:RfF s) {m:Msg} (hf:1≤m.f∧m.f≤s.nodes):ej (xV s m):=by
 unfold xV;simp only;split
 ·exact ej.nil h.sz
 ·have h1:RfF (if s.role=1 then bS s s.term else s)∧(if s.role=1 then bS s s.term else s).nodes=s.nodes:=by
   split
   ·exact ⟨h.falls h.te.2,(jT s s.term).2.2.2.2.1⟩
   ·exact ⟨h,rfl⟩
  generalize (if s.role=1 then bS s s.term else s)=c at h1 ⊢
  have h2:RfF { c with leader:=m.f,elapsed:=0 }:=h1.1.hear ⟨by omega,by rw [h1.2];exact hf.2⟩;split
  ·exact v_ h2 m
  ·exact yT h2.sz m
theorem Sz7.put {s:Rf} (h:Sz7 s) {N M S:List Int} (h1:N.length=s.next.length) (h2:M.length=s.mtch.length) (h3:S.length=s.sent.length):Sz7 { s with next:=N,mtch:=M,sent:=S }:=by
 obtain ⟨a0,a1,a2,a3,a4,a5,a6⟩:=h;exact ⟨a0,a1,by show N.length≤_;omega,by show M.length≤_;omega,by show S.length≤_;omega,a5,a6⟩
theorem yF {s0:Rf} (h:RfF s0) {m:Msg} (hf:1≤m.f∧m.f≤s0.nodes):ej (wC s0 m):=by
 unfold wC;split
 ·exact ej.nil h.sz
 ·have hs:=(h.ack (rn:=m.rd) hf).sz;simp only
  generalize yo s0 m.f m.rd=s at hs ⊢
  split
  ·split
   ·exact ej.send (s:={ s with sent:=dc s.sent m.f m.a }) (Sz7.put hs rfl rfl (eD _ _ _)) _
   ·exact ej.nil hs
  ·split
   ·exact ej.send (s:={ s with next:=_,sent:=_ }) (Sz7.put hs (eD _ _ _) rfl (eD _ _ _)) _
   ·split
    ·have h1:∀ x y:Int,Sz7 (ck { s with mtch:=dc s.mtch m.f x,next:=dc s.next m.f y,sent:=dc s.sent m.f 0 }):=fun x y=>Sz7.settle (Sz7.put hs (eD _ _ _) (eD _ _ _) (eD _ _ _))
     split
     ·exact ej.send (h1 _ _) _
     ·exact ej.nil (h1 _ _)
    ·exact ej.nil hs
theorem yI {s:Rf} (h:RfF s) {m:Msg} (hf:1≤m.f∧m.f≤s.nodes) (ht:m.tm≤1099511627775):ej (cO s m):=by
 unfold cO;simp only
 have h1:RfF (if s.term<m.tm then bS s m.tm else s)∧(if s.term<m.tm then bS s m.tm else s).nodes=s.nodes:=by
  split
  ·exact ⟨h.falls ht,(jT s m.tm).2.2.2.2.1⟩
  ·exact ⟨h,rfl⟩
 generalize (if s.term<m.tm then bS s m.tm else s)=a at h1 ⊢
 have hf':1≤m.f∧m.f≤a.nodes:=by rw [h1.2];exact hf
 split
 ·exact vI h1.1.sz m
 ·split
  ·exact yD h1.1.sz m
  ·split
   ·exact wA h1.1 hf'
   ·split
    ·exact zc h1.1 hf'
    ·exact yF h1.1 hf'
end Go.Proofs.YtkpooenofjdpmaaGreat
namespace Go.Proofs.YtkpooenofjdpmaaGreat
open Go.Proofs.Tryz (prog)
open Go.RowKit
open Go.ChangeShapes Go.WideShapes Go.ChangeAt
theorem qe:aO prog 98=true:=by kernel_rfl
theorem qd:j4 prog 99=some (.agg #[.int .i64 0,.int .i64 0,.string ⟨#[]⟩]):=by kernel_rfl
theorem nv:cK prog 99 1=some 1:=by kernel_rfl
theorem qf:aO prog 88=true:=by kernel_rfl
def OkM (m:Msg):Prop:=OkR m.k m.f m.t m.tm m.ix m.lt m.cm m.rd m.ok m.es m.a m.d m.dn
instance (m:Msg):Decidable (OkM m):=by unfold OkM;exact inferInstance
def px (s:Rf) (m:Msg):Prop:=OkM m∧xX s m=true
instance (s:Rf) (m:Msg):Decidable (px s m):=by unfold px;exact inferInstance
def Em (w:World) (m:Msg):Prop:=cz w (.slice m.E m.es.length m.c) m.es
theorem Em.from_ {w w':World} {m:Msg} (h:Em w m) (hF:ah w w'):Em w' m:=cz.from_ h hF
def rh (m:Msg):Prop:=∀ w:World,Em w m→Rt prog 98 [.agg (bD m).toArray] w fun v w'=>v=.int .i64 (if OkM m then 0 else 1)∧ah w w'
def wi (m:Msg):Prop:=∀ w:World,Em w m→Rt prog 88 [.agg (bD m).toArray] w fun v w'=>v=.bool (decide (OkM m))∧ah w w'
theorem rh.is {m:Msg} (hck:rh m) {w:World} (he:Em w m) {e:Int} (h:(if OkM m then (0:Int) else 1)=e):Rt prog 98 [.agg (bD m).toArray] w fun v w'=>v=.int .i64 e∧ah w w':=by
 subst h;exact hck w he
theorem wi.is {m:Msg} (hmr:wi m) {w:World} (he:Em w m) {b:Bool} (h:decide (OkM m)=b):Rt prog 88 [.agg (bD m).toArray] w fun v w'=>v=.bool b∧ah w w':=by
 subst h;exact hmr w he
theorem dD (s:Rf) (m:Msg):xX s m=true↔m.t=s.id∧m.f≠s.id∧m.f≤s.nodes∧((m.k=3∨m.k=5)→m.lt≤m.tm∧∀ e∈m.es,e.t≤m.tm):=by
 unfold xX;simp only [Bool.and_eq_true,Bool.or_eq_true,decide_eq_true_eq,List.all_eq_true,Bool.not_eq_true',Bool.or_eq_false_iff,decide_eq_false_iff_not];constructor
 ·rintro ⟨⟨⟨h1,h2⟩,h3⟩,h4⟩;exact ⟨h1,h2,h3,fun hk=>h4.elim (fun e=>by omega) (fun e=>e)⟩
 ·rintro ⟨h1,h2,h3,h4⟩;refine ⟨⟨⟨h1,h2⟩,h3⟩,?_⟩;by_cases hk:m.k=3∨m.k=5
  ·exact .inr (h4 hk)
  ·exact .inl (by omega)
theorem OkM.num {m:Msg} (h:OkM m):jw m.k m.f m.t m.tm m.ix m.lt m.cm m.rd m.a:=h.1
theorem x8 {w:World} {A:Option Addr} {n c:Nat} {es:List Ent} (h:cz w (.slice A n c) es) (hn:0<es.length):∃ b o,A=some ⟨b,o,none⟩∧∀ i (hi:i<es.length),w.rangeAt b (o+i*3) [.int .i64 es[i].i,.int .i64 es[i].t,.string es[i].d]:=kW h hn
theorem uh (s:Rf) (a:Ra) (m:Msg) (w:World) (he:Em w m) (_:m.es.length≤1000000) (hck:rh m) (hok:¬ OkM m) :
 Rt prog 57 [.agg (rfV s a).toArray,.agg (bD m).toArray] w (fun v w'=>v=.bool false∧ah w w'):=by
 refine enter (n:=57) Tryz.func57 rfl rfl rfl (ak (af (bK (v:=.agg _) rfl ?_)));intro b2 w1 E2 hb2 hk2;refine bK (v:=.agg _) rfl ?_;intro b3 w2 E3 hb3 hk3;replace hk2:=hk2.from_ E3;refine asb rfl (aj (ag (ak (ak (af (aa (aG (cs:=bD m) bk aY rfl ((hk3.from_ ah.rfl_).whole)) (ay qe (hck.is (he.from_ ((ah.rfl_.next E2).next E3)) (if_neg hok)) ?_)))))));rintro v8 w3 ⟨rfl,E8⟩;refine aa (c6 (dk rfl rfl) rfl) (mvb rfl (an rfl rfl (an rfl rfl (an rfl rfl (an rfl rfl (an rfl rfl (aa (aL (v:=.bool _) rfl rfl) (mvb rfl ?_))))))));refine an rfl rfl (an rfl rfl (an rfl rfl (an rfl rfl (an rfl rfl (aa (aL (v:=.bool _) rfl rfl) (mvb rfl (an rfl rfl (an rfl rfl ?_))))))));refine an rfl rfl (an rfl rfl (an rfl rfl (aa (aL (v:=.bool _) rfl rfl) (aj (ag (aS rfl (ak (af (asb rfl (aj (ag (aB (aD ?_)))))))))))));refine bn (v:=.bool _) rfl rfl (⟨rfl,(((ah.rfl_.next E2).next E3).next E8)⟩)
theorem ug (s:Rf) (a:Ra) (m:Msg) (w:World) (he:Em w m) (hl:m.es.length≤1000000) (hck:rh m) (hok:OkM m) :
 Rt prog 57 [.agg (rfV s a).toArray,.agg (bD m).toArray] w (fun v w'=>v=.bool (xX s m)∧ah w w'):=by
 obtain ⟨Ee,hEe⟩:∃ x,x=m.E:=⟨_,rfl⟩;refine enter (n:=57) Tryz.func57 rfl rfl rfl (ak (af (bK (v:=.agg _) rfl ?_)));intro b2 w1 E2 hb2 hk2;refine bK (v:=.agg _) rfl ?_;intro b3 w2 E3 hb3 hk3;replace hk2:=hk2.from_ E3;refine asb rfl (aj (ag (ak (ak (af (aa (aG (cs:=bD m) bk aY rfl ((hk3.from_ ah.rfl_).whole)) (ay qe (hck.is (he.from_ ((ah.rfl_.next E2).next E3)) (if_pos hok)) ?_)))))));rintro v8 w3 ⟨rfl,E8⟩;refine aa (ch (dk rfl rfl) rfl) (mvb rfl (ae rfl (aa (ab cH rfl) (ae rfl (aa (ar ao rfl (by exact (show _=some (Value.int .i64 m.f) from (hk3.from_ (ah.rfl_.next E8)).rd 1 rfl))) ?_)))));refine ae rfl (aa (ab bJ rfl) (ae rfl (aa (ar ao rfl (by exact (show _=some (Value.int .i64 s.nodes) from (hk2.from_ (ah.rfl_.next E8)).rd 1 rfl))) ?_)));refine ae rfl (aa (cn rfl rfl) (aa (aw (v:=.bool _) rfl rfl) (mvb rfl (AL (t:=17) rfl (fun Q4=>?_) (fun Q4=>?_)))))
 ·refine bw rfl (aj (ag (aS rfl (ak (af (asb rfl (aj (ag (aB (aD (bn (v:=.bool _) rfl rfl (⟨congrArg Value.bool ?_,(((ah.rfl_.next E2).next E3).next E8)⟩))))))))))));rw [eq_comm,←Bool.not_eq_true,dD];rintro ⟨h1,h2,h3,-⟩;omega
 refine ae rfl (aa (ab en rfl) (ae rfl (aa (ar ao rfl (by exact (show _=some (Value.int .i64 m.t) from (hk3.from_ (ah.rfl_.next E8)).rd 2 rfl))) ?_)));refine ae rfl (aa (ab bZ rfl) (ae rfl (aa (ar ao rfl (by exact (show _=some (Value.int .i64 s.id) from (hk2.from_ (ah.rfl_.next E8)).rd 0 rfl))) ?_)));refine ae rfl (aa (dk rfl rfl) (aa (aw (v:=.bool _) rfl rfl) (mvb rfl (AI (t:=24) rfl (fun Q5=>?_) (fun Q5=>?_)))))
 ·refine bw rfl (aj (ag (aS rfl (ak (af (asb rfl (aj (ag (aB (aD (bn (v:=.bool _) rfl rfl (⟨congrArg Value.bool ?_,(((ah.rfl_.next E2).next E3).next E8)⟩))))))))))));rw [eq_comm,←Bool.not_eq_true,dD];rintro ⟨h1,h2,h3,-⟩;omega
 refine ae rfl (aa (ab cH rfl) (ae rfl (aa (ar ao rfl (by exact (show _=some (Value.int .i64 m.f) from (hk3.from_ (ah.rfl_.next E8)).rd 1 rfl))) ?_)));refine ae rfl (aa (ab bZ rfl) (ae rfl (aa (ar ao rfl (by exact (show _=some (Value.int .i64 s.id) from (hk2.from_ (ah.rfl_.next E8)).rd 0 rfl))) ?_)));refine ae rfl (aa (bg rfl rfl) (aa (aw (v:=.bool _) rfl rfl) (aj (ag (Bk rfl (fun Q6=>?_) (fun Q6=>?_))))))
 ·refine ak (af (asb rfl (aj (ag (aB (aD (bn (v:=.bool _) rfl rfl (⟨congrArg Value.bool ?_,(((ah.rfl_.next E2).next E3).next E8)⟩))))))));rw [eq_comm,←Bool.not_eq_true,dD];rintro ⟨h1,h2,h3,-⟩;omega
 refine aM (ag (ak (ak (af (aa (ab cr rfl) (aa (ar ao rfl (by exact (show _=some (Value.int .i64 m.k) from (hk3.from_ (ah.rfl_.next E8)).rd 0 rfl))) ?_))))));refine aa (dk rfl rfl) (mvb rfl (AI (t:=34) rfl (fun Q7=>?_) (fun Q7=>?_)))
 ·refine ae rfl (aa (ab cr rfl) (ae rfl (aa (ar ao rfl (by exact (show _=some (Value.int .i64 m.k) from (hk3.from_ (ah.rfl_.next E8)).rd 0 rfl))) ?_)));refine ae rfl (aa (dk rfl rfl) (aa (aL (v:=.bool _) rfl rfl) (aj (ag (Bh rfl (fun Q8=>?_) (fun Q8=>?_))))))
  ·refine ak (af (asb rfl (aj (ag (aB (aD (bn (v:=.bool _) rfl rfl (⟨congrArg Value.bool ?_,(((ah.rfl_.next E2).next E3).next E8)⟩))))))));rw [eq_comm,dD];exact ⟨by omega,by omega,by omega,fun h=>by omega⟩
  refine aM (ag (ak (ak (af (aa (ab eI rfl) ?_)))));refine aa (ar cI rfl (by exact (show _=some (Value.slice Ee m.es.length m.c) from by rw [hEe];exact (hk3.from_ (ah.rfl_.next E8)).rd 9 rfl))) ?_;refine aa (bH cU rfl) (mvi rfl (aj (ag (aU (cM (G:=Nat) [4,6,43,44,45,46,47,48,49,50,51] (fun i=>[(42,.int .i64 (i:Nat))]) (fun i w'=>i≤m.es.length∧(∀ j (h:j<m.es.length),j<i→m.es[j].t≤m.tm)∧Blk w' b3 39 (bD m).toArray∧ah w w') (fun i=>m.es.length-i) (0) ⟨rfl,trivial⟩ ?_ ?_)))))
  ·exact ⟨Nat.zero_le _,fun j _ h=>absurd h (Nat.not_lt_zero _),hk3.from_ (ah.rfl_.next E8),(((ah.rfl_.next E2).next E3).next E8)⟩
  rintro i ρ9 w9 ⟨hi,hj,hk3L,hB⟩;refine ak (af (aa (bM rfl rfl) (aj (ag (ak (Bk rfl (fun Q10=>?_) (fun Q10=>?_)))))))
  ·have hkX:i<m.es.length:=by omega
   obtain ⟨ba,oa,hE2,hca⟩:=x8 he (by omega);obtain rfl:Ee=some ⟨ba,oa,none⟩:=hEe.trans hE2;refine aM (ag (ak (aU (ak (af (aa (bT eT rfl rfl (by omega)) (aa (aG (cs:=[.int .i64 m.es[i].i,.int .i64 m.es[i].t,.string m.es[i].d]) jL gm rfl (eZ hB (hca i hkX))) ?_)))))));have hM6:ah _ w9:=ah.rfl_;have hlt6:=(hk3L.from_ hM6).lt;refine bP qd ?_;intro b6 w11 E6 hb6 hk6;have hg6:w.heap.size≤b6:=by rw [hb6];exact (hB).size
   have h36:b3≠b6:=by omega
   have hk3p:=hk3L.from_ (hM6.next E6);refine cg (vs:=[_,_,_]) gm rfl rfl (by simp [Value.oneCell']) (hk6) rfl ?_;intro w12 O7 P7;replace hk3p:=hk3p.only O7 h36;refine aj (ag (ak (af (aa (ab nv rfl) (aa (ar ao rfl (by exact (show _=some (Value.int .i64 m.es[i].t) from (P7.from_ ah.rfl_).rd 1 rfl))) ?_)))));refine aa (ab bt rfl) (aa (ar ao rfl (by exact (show _=some (Value.int .i64 m.tm) from (hk3p.from_ ah.rfl_).rd 3 rfl))) ?_);refine aa (cn rfl rfl) (aj (ag (Bk rfl (fun Q13=>?_) (fun Q13=>?_))))
   ·refine ak (af (asb rfl (aj (ag (aB (bC (aD (aD (bC (aD (bn (v:=.bool _) rfl rfl (⟨congrArg Value.bool ?_,((hB.next E6).only O7 (hg6))⟩))))))))))));rw [eq_comm,←Bool.not_eq_true,dD];rintro ⟨h1,h2,h3,h4⟩;have h5:=(h4 (by omega)).2 _ (List.getElem_mem hkX);omega
   refine aM (bo (ag (af (aa (b0 rfl rfl (by omega)) (mvi rfl (aj ?_))))));refine cp (i+1) ⟨(by first | rfl | (refine br ?_;omega)),trivial⟩ (by (iterate 23 refine bA rfl ?_);exact bN) ⟨?_,?_⟩
   ·refine ⟨by omega,fun j h hj2=>?_,hk3p.from_ ah.rfl_,((hB.next E6).only O7 (hg6))⟩;rcases Nat.lt_or_ge j i with e | e
    ·exact hj j h e
    ·obtain rfl:j=i:=by omega
     omega
   ·omega
  refine b_ (bf (bf (bL (ag (ak (af (aa (ab fE rfl) (aa (ar ao rfl (by exact (show _=some (Value.int .i64 m.lt) from (hk3L.from_ ah.rfl_).rd 5 rfl))) ?_))))))));refine aa (ab bt rfl) (aa (ar ao rfl (by exact (show _=some (Value.int .i64 m.tm) from (hk3L.from_ ah.rfl_).rd 3 rfl))) ?_);refine aa (gp rfl rfl) (asb rfl (aj (ag (aB (bn (v:=.bool _) rfl rfl (⟨congrArg Value.bool ?_,hB⟩))))));obtain rfl:i=m.es.length:=by omega
  rw [eq_comm,Bool.eq_iff_iff,dD,decide_eq_true_eq]
  exact ⟨fun h=>(h.2.2.2 (by omega)).1,fun h=>⟨by omega,by omega,by omega,fun _=>⟨h,fun e hE=>by
   obtain ⟨j,hj9,rfl⟩:=List.getElem_of_mem hE;exact hj j hj9 hj9⟩⟩⟩
 refine bw rfl (aj (ag (bd rfl (aM (ag (ak (ak (af (aa (ab eI rfl) ?_)))))))));refine aa (ar cI rfl (by exact (show _=some (Value.slice Ee m.es.length m.c) from by rw [hEe];exact (hk3.from_ (ah.rfl_.next E8)).rd 9 rfl))) ?_;refine aa (bH cU rfl) (mvi rfl (aj (ag (aU (cM (G:=Nat) [4,6,43,44,45,46,47,48,49,50,51] (fun i=>[(42,.int .i64 (i:Nat))]) (fun i w'=>i≤m.es.length∧(∀ j (h:j<m.es.length),j<i→m.es[j].t≤m.tm)∧Blk w' b3 39 (bD m).toArray∧ah w w') (fun i=>m.es.length-i) (0) ⟨rfl,trivial⟩ ?_ ?_)))))
 ·exact ⟨Nat.zero_le _,fun j _ h=>absurd h (Nat.not_lt_zero _),hk3.from_ (ah.rfl_.next E8),(((ah.rfl_.next E2).next E3).next E8)⟩
 rintro i ρ14 w14 ⟨hi,hj,hk3L,hB⟩;refine ak (af (aa (bM rfl rfl) (aj (ag (ak (Bk rfl (fun Q15=>?_) (fun Q15=>?_)))))))
 ·have hkX:i<m.es.length:=by omega
  obtain ⟨ba,oa,hE2,hca⟩:=x8 he (by omega);obtain rfl:Ee=some ⟨ba,oa,none⟩:=hEe.trans hE2;refine aM (ag (ak (aU (ak (af (aa (bT eT rfl rfl (by omega)) (aa (aG (cs:=[.int .i64 m.es[i].i,.int .i64 m.es[i].t,.string m.es[i].d]) jL gm rfl (eZ hB (hca i hkX))) ?_)))))));have hM6:ah _ w14:=ah.rfl_;have hlt6:=(hk3L.from_ hM6).lt;refine bP qd ?_;intro b6 w16 E6 hb6 hk6;have hg6:w.heap.size≤b6:=by rw [hb6];exact (hB).size
  have h36:b3≠b6:=by omega
  have hk3p:=hk3L.from_ (hM6.next E6);refine cg (vs:=[_,_,_]) gm rfl rfl (by simp [Value.oneCell']) (hk6) rfl ?_;intro w17 O7 P7;replace hk3p:=hk3p.only O7 h36;refine aj (ag (ak (af (aa (ab nv rfl) (aa (ar ao rfl (by exact (show _=some (Value.int .i64 m.es[i].t) from (P7.from_ ah.rfl_).rd 1 rfl))) ?_)))));refine aa (ab bt rfl) (aa (ar ao rfl (by exact (show _=some (Value.int .i64 m.tm) from (hk3p.from_ ah.rfl_).rd 3 rfl))) ?_);refine aa (cn rfl rfl) (aj (ag (Bk rfl (fun Q18=>?_) (fun Q18=>?_))))
  ·refine ak (af (asb rfl (aj (ag (aB (bC (aD (aD (bC (aD (bn (v:=.bool _) rfl rfl (⟨congrArg Value.bool ?_,((hB.next E6).only O7 (hg6))⟩))))))))))));rw [eq_comm,←Bool.not_eq_true,dD];rintro ⟨h1,h2,h3,h4⟩;have h5:=(h4 (by omega)).2 _ (List.getElem_mem hkX);omega
  refine aM (bo (ag (af (aa (b0 rfl rfl (by omega)) (mvi rfl (aj ?_))))));refine cp (i+1) ⟨(by first | rfl | (refine br ?_;omega)),trivial⟩ (by (iterate 23 refine bA rfl ?_);exact bN) ⟨?_,?_⟩
  ·refine ⟨by omega,fun j h hj2=>?_,hk3p.from_ ah.rfl_,((hB.next E6).only O7 (hg6))⟩;rcases Nat.lt_or_ge j i with e | e
   ·exact hj j h e
   ·obtain rfl:j=i:=by omega
    omega
  ·omega
 refine b_ (bf (bf (bL (ag (ak (af (aa (ab fE rfl) (aa (ar ao rfl (by exact (show _=some (Value.int .i64 m.lt) from (hk3L.from_ ah.rfl_).rd 5 rfl))) ?_))))))));refine aa (ab bt rfl) (aa (ar ao rfl (by exact (show _=some (Value.int .i64 m.tm) from (hk3L.from_ ah.rfl_).rd 3 rfl))) ?_);refine aa (gp rfl rfl) (asb rfl (aj (ag (aB (bn (v:=.bool _) rfl rfl (⟨congrArg Value.bool ?_,hB⟩))))));obtain rfl:i=m.es.length:=by omega
 rw [eq_comm,Bool.eq_iff_iff,dD,decide_eq_true_eq]
 exact ⟨fun h=>(h.2.2.2 (by omega)).1,fun h=>⟨by omega,by omega,by omega,fun _=>⟨h,fun e hE=>by
  obtain ⟨j,hj9,rfl⟩:=List.getElem_of_mem hE;exact hj j hj9 hj9⟩⟩⟩
theorem oU (s:Rf) (a:Ra) (m:Msg) (w:World) (he:Em w m) (hl:m.es.length≤1000000) (hck:rh m) {b:Bool} (h:decide (px s m)=b):Rt prog 57 [.agg (rfV s a).toArray,.agg (bD m).toArray] w fun v w'=>v=.bool b∧ah w w':=by
 subst h;by_cases hok:OkM m
 ·refine (ug s a m w he hl hck hok).mono fun v w' h=>⟨h.1.trans (congrArg Value.bool ?_),h.2⟩
  rw [Bool.eq_iff_iff,decide_eq_true_eq];exact ⟨fun h=>⟨hok,h⟩,fun h=>h.2⟩
 ·exact (uh s a m w he hl hck hok).mono fun v w' h=>⟨h.1.trans (congrArg Value.bool (decide_eq_false (fun e=>hok e.1)).symm),h.2⟩
theorem tF (s:Rf) (a:Ra) (m:Msg) (w:World) (he:Em w m) (_:m.es.length≤1000000) (hk:m.k≠3∧m.k≠5) (hmr:wi m) (hok:¬ OkM m) :
 Rt prog 45 [.agg (rfV s a).toArray,.agg (bD m).toArray] w (fun v w'=>v=.bool false∧ah w w'):=by
 refine enter (n:=61) Tryz.func45 rfl rfl rfl (ak (af (bK (v:=.agg _) rfl ?_)));intro b2 w1 E2 hb2 hk2;refine bK (v:=.agg _) rfl ?_;intro b3 w2 E3 hb3 hk3;replace hk2:=hk2.from_ E3;refine asb rfl (aj (ag (ak (ak (af (aa (ab cr rfl) (aa (ar ao rfl (by exact (show _=some (Value.int .i64 m.k) from (hk3.from_ ah.rfl_).rd 0 rfl))) ?_)))))));refine aa (ch (bg rfl rfl) (beq_eq_false_iff_ne.2 hk.1)) (mvb rfl (ae rfl (aa (ab cr rfl) (ae rfl (aa (ar ao rfl (by exact (show _=some (Value.int .i64 m.k) from (hk3.from_ ah.rfl_).rd 0 rfl))) ?_)))));refine ae rfl (aa (ch (bg rfl rfl) (beq_eq_false_iff_ne.2 hk.2)) (aa (aw (v:=.bool _) rfl rfl) (aj (ag (bd rfl (aM (ag (ak (af (aa (aG (cs:=bD m) bk aY rfl ((hk3.from_ ah.rfl_).whole)) (ay qf (hmr.is (he.from_ ((ah.rfl_.next E2).next E3)) (decide_eq_false hok)) ?_)))))))))));rintro v39 w3 ⟨rfl,E39⟩;refine mvb rfl (an rfl rfl (an rfl rfl (an rfl rfl (an rfl rfl (an rfl rfl (aa (aw (v:=.bool _) rfl rfl) (mvb rfl (an rfl rfl ?_))))))));refine an rfl rfl (an rfl rfl (an rfl rfl (an rfl rfl (aa (aw (v:=.bool _) rfl rfl) (mvb rfl (an rfl rfl (an rfl rfl (an rfl rfl ?_))))))));refine an rfl rfl (an rfl rfl (aa (aw (v:=.bool _) rfl rfl) (asb rfl (aj (ag (aB (bn (v:=.bool _) rfl rfl ?_)))))))
 first
  |exact ⟨rfl,(((ah.rfl_.next E2).next E3).next E39)⟩
  |omega
theorem tE (s:Rf) (a:Ra) (m:Msg) (w:World) (he:Em w m) (_:m.es.length≤1000000) (hk:m.k≠3∧m.k≠5) (hmr:wi m) (hok:OkM m) :
 Rt prog 45 [.agg (rfV s a).toArray,.agg (bD m).toArray] w (fun v w'=>v=.bool (xX s m)∧ah w w'):=by
 refine enter (n:=61) Tryz.func45 rfl rfl rfl (ak (af (bK (v:=.agg _) rfl ?_)));intro b2 w1 E2 hb2 hk2;refine bK (v:=.agg _) rfl ?_;intro b3 w2 E3 hb3 hk3;replace hk2:=hk2.from_ E3;refine asb rfl (aj (ag (ak (ak (af (aa (ab cr rfl) (aa (ar ao rfl (by exact (show _=some (Value.int .i64 m.k) from (hk3.from_ ah.rfl_).rd 0 rfl))) ?_)))))));refine aa (ch (bg rfl rfl) (beq_eq_false_iff_ne.2 hk.1)) (mvb rfl (ae rfl (aa (ab cr rfl) (ae rfl (aa (ar ao rfl (by exact (show _=some (Value.int .i64 m.k) from (hk3.from_ ah.rfl_).rd 0 rfl))) ?_)))));refine ae rfl (aa (ch (bg rfl rfl) (beq_eq_false_iff_ne.2 hk.2)) (aa (aw (v:=.bool _) rfl rfl) (aj (ag (bd rfl (aM (ag (ak (af (aa (aG (cs:=bD m) bk aY rfl ((hk3.from_ ah.rfl_).whole)) (ay qf (hmr.is (he.from_ ((ah.rfl_.next E2).next E3)) (decide_eq_true hok)) ?_)))))))))));rintro v39 w3 ⟨rfl,E39⟩;refine mvb rfl (ae rfl (aa (ab en rfl) (ae rfl (aa (ar ao rfl (by exact (show _=some (Value.int .i64 m.t) from (hk3.from_ (ah.rfl_.next E39)).rd 2 rfl))) ?_))));refine ae rfl (aa (ab bZ rfl) (ae rfl (aa (ar ao rfl (by exact (show _=some (Value.int .i64 s.id) from (hk2.from_ (ah.rfl_.next E39)).rd 0 rfl))) ?_)));refine ae rfl (aa (bg rfl rfl) (aa (aL (v:=.bool _) rfl rfl) (mvb rfl (AK (t:=47) rfl (fun Q4=>?_) (fun Q4=>?_)))))
 ·refine ae rfl (aa (ab cH rfl) (ae rfl (aa (ar ao rfl (by exact (show _=some (Value.int .i64 m.f) from (hk3.from_ (ah.rfl_.next E39)).rd 1 rfl))) ?_)));refine ae rfl (aa (ab bZ rfl) (ae rfl (aa (ar ao rfl (by exact (show _=some (Value.int .i64 s.id) from (hk2.from_ (ah.rfl_.next E39)).rd 0 rfl))) ?_)));refine ae rfl (aa (dk rfl rfl) (aa (aL (v:=.bool _) rfl rfl) (mvb rfl (aK (t:=54) rfl (fun Q5=>?_) (fun Q5=>?_)))))
  ·replace Q5:=dK Q5;replace Q5:=eH Q5;refine ae rfl (aa (ab cH rfl) (ae rfl (aa (ar ao rfl (by exact (show _=some (Value.int .i64 m.f) from (hk3.from_ (ah.rfl_.next E39)).rd 1 rfl))) ?_)));refine ae rfl (aa (ab bJ rfl) (ae rfl (aa (ar ao rfl (by exact (show _=some (Value.int .i64 s.nodes) from (hk2.from_ (ah.rfl_.next E39)).rd 1 rfl))) ?_)));refine ae rfl (aa (gp rfl rfl) (aa (aL (v:=.bool _) rfl rfl) (asb rfl (aj (ag (aB (bn (v:=.bool _) rfl rfl ?_)))))))
   first
    |omega
    |(refine ⟨congrArg Value.bool ?_,(((ah.rfl_.next E2).next E3).next E39)⟩;first | (rw [eq_comm,←Bool.not_eq_true,dD];rintro ⟨h1,h2,h3,-⟩;omega) | (rw [eq_comm,Bool.eq_iff_iff,dD,decide_eq_true_eq];exact ⟨fun h=>h.2.2.1,fun h=>⟨by omega,by omega,h,fun e=>by omega⟩⟩) | (rw [eq_comm,dD];exact ⟨by omega,by omega,by omega,fun e=>by omega⟩))
  replace Q5:=dL Q5;replace Q5:=eG Q5;refine an rfl rfl (an rfl rfl (an rfl rfl (an rfl rfl (an rfl rfl (aa (aw (v:=.bool _) rfl rfl) (asb rfl (aj (ag (aB (bn (v:=.bool _) rfl rfl ?_))))))))))
  first
   |omega
   |(refine ⟨congrArg Value.bool ?_,(((ah.rfl_.next E2).next E3).next E39)⟩;first | (rw [eq_comm,←Bool.not_eq_true,dD];rintro ⟨h1,h2,h3,-⟩;omega) | (rw [eq_comm,Bool.eq_iff_iff,dD,decide_eq_true_eq];exact ⟨fun h=>h.2.2.1,fun h=>⟨by omega,by omega,h,fun e=>by omega⟩⟩) | (rw [eq_comm,dD];exact ⟨by omega,by omega,by omega,fun e=>by omega⟩))
 refine an rfl rfl (an rfl rfl (an rfl rfl (an rfl rfl (an rfl rfl (aa (aw (v:=.bool _) rfl rfl) (mvb rfl (an rfl rfl (an rfl rfl ?_))))))));refine an rfl rfl (an rfl rfl (an rfl rfl (aa (aw (v:=.bool _) rfl rfl) (asb rfl (aj (ag (aB (bn (v:=.bool _) rfl rfl ?_))))))))
 first
  |omega
  |(refine ⟨congrArg Value.bool ?_,(((ah.rfl_.next E2).next E3).next E39)⟩;first | (rw [eq_comm,←Bool.not_eq_true,dD];rintro ⟨h1,h2,h3,-⟩;omega) | (rw [eq_comm,Bool.eq_iff_iff,dD,decide_eq_true_eq];exact ⟨fun h=>h.2.2.1,fun h=>⟨by omega,by omega,h,fun e=>by omega⟩⟩) | (rw [eq_comm,dD];exact ⟨by omega,by omega,by omega,fun e=>by omega⟩))
theorem oB (s:Rf) (a:Ra) (m:Msg) (w:World) (he:Em w m) (hl:m.es.length≤1000000) (hk:m.k≠3∧m.k≠5) (hmr:wi m) {b:Bool} (h:decide (px s m)=b):Rt prog 45 [.agg (rfV s a).toArray,.agg (bD m).toArray] w fun v w'=>v=.bool b∧ah w w':=by
 subst h;by_cases hok:OkM m
 ·refine (tE s a m w he hl hk hmr hok).mono fun v w' h=>⟨h.1.trans (congrArg Value.bool ?_),h.2⟩
  rw [Bool.eq_iff_iff,decide_eq_true_eq];exact ⟨fun h=>⟨hok,h⟩,fun h=>h.2⟩
 ·exact (tF s a m w he hl hk hmr hok).mono fun v w' h=>⟨h.1.trans (congrArg Value.bool (decide_eq_false (fun e=>hok e.1)).symm),h.2⟩
theorem iU:∀ (a0:Int) (a1:Int) (a2:Bool),prog.built 39 [(0,.int .i64 4),(8,.bool a2),(4,.int .i64 a0),(7,.int .i64 a1)]=some #[.int .i64 4,.int .i64 0,.int .i64 0,.int .i64 0,.int .i64 a0,.int .i64 0,.int .i64 0,.int .i64 a1,.bool a2,.slice none 0 0,.int .i64 0,.string ⟨#[]⟩,.bool false]:=by intros;kernel_rfl
theorem kB:prog.built 39 [(0,.int .i64 2)]=some #[.int .i64 2,.int .i64 0,.int .i64 0,.int .i64 0,.int .i64 0,.int .i64 0,.int .i64 0,.int .i64 0,.bool false,.slice none 0 0,.int .i64 0,.string ⟨#[]⟩,.bool false]:=by kernel_rfl
theorem np:aO prog 144=true:=by kernel_rfl
theorem sB:aO prog 100=true:=by kernel_rfl
def aT (s:Rf) (m:Msg):Rf:=if s.term<m.tm then bS s m.tm else s
theorem lI {s:Rf} {m:Msg} (h:s.term<m.tm):cO s m=cO (bS s m.tm) m:=by
 have h1:=dO s m.tm;unfold cO;simp only;rw [if_pos h,if_neg (show ¬ (bS s m.tm).term<m.tm by omega)]
theorem kf {s:Rf} {m:Msg} (h:m.tm<s.term):cO s m=fH s m:=by
 unfold cO;simp only;rw [if_neg (show ¬ s.term<m.tm by omega),if_pos h]
theorem kg {s:Rf} {m:Msg} (h:s.term=m.tm) (hk:m.k=2):cO s m=im s m:=by
 unfold cO;simp only;rw [if_neg (show ¬ s.term<m.tm by omega),if_neg (show ¬ m.tm<s.term by omega),if_neg (by omega),if_pos hk]
theorem gn.nilL {w:World} {Z:Nat→Prop} {T g oc:Nat} {tag:Nat→Nat} {s:Rf} {a:Ra} {O:Option Addr} {L:List Msg} (h:gn w Z T g tag ⟨s,[]⟩ a O oc L):L=[]:=List.map_eq_nil_iff.1 h.m.l
theorem uH (w0:World) (Z:Nat→Prop) (T g:Nat) (p:Sp) (m:Msg) (ok:Bool) (i:Int) (w:World) (h:aQ w0 Z w T g p) (hl:p.out.length≤900) :
 Rt prog 144 [.pointer (some ⟨g,0,none⟩),.agg (bD m).toArray,.bool ok,.int .i64 i] w (fun v w'=>v=.tuple #[]∧aQ w0 Z w' T g (pA p m ok i)):=by
 refine enter (n:=17) Tryz.func144 rfl rfl rfl (ak (af (bK (v:=.agg _) rfl ?_)));intro b5 w1 E5 hb5 hk5;obtain ⟨wm,hwm⟩:∃ x,x=w1:=⟨_,rfl⟩
 have h3a:=h.at_ (Z':=fun k=>Z k∨k=b5) E5 (fun k hk=>by
  rcases hk with e | e
  ·exact ⟨Nat.lt_of_lt_of_le (h.zw k e) E5.size,.inl e⟩
  ·subst e;exact ⟨hk5.lt,.inr (by omega)⟩)
 obtain ⟨Z7,hZ7⟩:∃ Z7,Z7=fun k=>Z k∨k=b5:=⟨_,rfl⟩
 have h3:aQ wm Z7 w1 T g p:=by
  rw [hZ7,hwm];exact h3a
 have hzi:∀ k,Z k→Z7 k:=fun k hk=>by rw [hZ7];exact .inl hk
 have hzb:Z7 b5:=by rw [hZ7];exact .inr rfl
 have hE3:ah w wm:=by rw [hwm];exact E5
 have hm9:Blk wm b5 39 (bD m).toArray:=by rw [hwm];exact hk5
 have hm3:=h3.kept hzb hm9;refine aj (ag (af (mvp rfl (aa (ab cH rfl) (aa (ar ao rfl (by exact (show _=some (Value.int .i64 m.f) from (hm3.from_ ah.rfl_).rd 1 rfl))) ?_)))));refine mvb rfl (mvi rfl (aa (ab fo rfl) (aa (ar ao rfl (by exact (show _=some (Value.int .i64 m.rd) from (hm3.from_ ah.rfl_).rd 7 rfl))) ?_)));refine aa (cV (l:=[(0,.const (.int .i64 4)),(8,.tmp 11),(4,.tmp 12),(7,.tmp 14)]) (iU _ _ _)) (dY (t:=15) (v:=.agg _) (v':=.agg (bD ({ zM with k:=4,ok:=ok,ix:=i,rd:=m.rd }:Msg)).toArray) rfl (by rfl) ?_);have h4:=h3.from_ ah.rfl_;obtain ⟨tgA,aA,OA,ocA,LA,hsA⟩:=h4.ex;have hlA:=hsA.m.len;refine ay ic (oq wm Z7 T g p _ h4 _ _ _ _ _ hsA (by omega) { zM with k:=4,ok:=ok,ix:=i,rd:=m.rd } m.f ⟨dH,Col.none⟩) ?_;rintro v16 w2 ⟨rfl,h6⟩;refine aj (cC (dV rfl (⟨rfl,h.back hE3 (h6.from_ ah.rfl_) hzi⟩)))
theorem vJ (w0:World) (Z:Nat→Prop) (T g:Nat) (s:Rf) (m:Msg) (w:World) (h:aQ w0 Z w T g ⟨s,[]⟩) :
 Rt prog 100 [.pointer (some ⟨g,0,none⟩),.agg (bD m).toArray] w (fun v w'=>v=.tuple #[]∧aQ w0 Z w' T g (fH s m)):=by
 refine enter (n:=19) Tryz.func100 rfl rfl rfl (ak (af (bK (v:=.agg _) rfl ?_)));intro b3 w1 E3 hb3 hk3;obtain ⟨wm,hwm⟩:∃ x,x=w1:=⟨_,rfl⟩
 have h3a:=h.at_ (Z':=fun k=>Z k∨k=b3) E3 (fun k hk=>by
  rcases hk with e | e
  ·exact ⟨Nat.lt_of_lt_of_le (h.zw k e) E3.size,.inl e⟩
  ·subst e;exact ⟨hk3.lt,.inr (by omega)⟩)
 obtain ⟨Z7,hZ7⟩:∃ Z7,Z7=fun k=>Z k∨k=b3:=⟨_,rfl⟩
 have h3:aQ wm Z7 w1 T g ⟨s,[]⟩:=by
  rw [hZ7,hwm];exact h3a
 have hzi:∀ k,Z k→Z7 k:=fun k hk=>by rw [hZ7];exact .inl hk
 have hzb:Z7 b3:=by rw [hZ7];exact .inr rfl
 have hE3:ah w wm:=by rw [hwm];exact E3
 have hm9:Blk wm b3 39 (bD m).toArray:=by rw [hwm];exact hk3
 have hm3:=h3.kept hzb hm9;refine aj (ag (ak (af (aa (ab cr rfl) (aa (ar ao rfl (by exact (show _=some (Value.int .i64 m.k) from (hm3.from_ ah.rfl_).rd 0 rfl))) ?_)))));refine aj (ag (aU (ak (af (aa (bg rfl rfl) (asb rfl (aj (ag (Bj rfl (fun Q2=>?_) (fun Q2=>?_))))))))))
 ·refine af (mvp rfl (aa (ab cH rfl) (aa (ar ao rfl (by exact (show _=some (Value.int .i64 m.f) from (hm3.from_ ah.rfl_).rd 1 rfl))) ?_)));refine aa (cV (l:=[(0,.const (.int .i64 2))]) (kB)) (dY (t:=11) (v:=.agg _) (v':=.agg (bD ({ zM with k:=2 }:Msg)).toArray) rfl (by rfl) ?_);have h4:=h3.from_ ah.rfl_;obtain ⟨tgA,aA,OA,ocA,LA,hsA⟩:=h4.ex;obtain rfl:=hsA.nilL;refine ay ic (oq wm Z7 T g ⟨s,[]⟩ _ h4 _ _ _ _ _ hsA (Nat.zero_le _) { zM with k:=2 } m.f ⟨dH,Col.none⟩) ?_;rintro v12 w3 ⟨rfl,h6⟩;refine aj (bo (cC (dV rfl ?_)));unfold fH
  first
   |(rw [if_pos (show m.k=1 by omega)];exact ⟨rfl,h.back hE3 (h6.from_ ah.rfl_) hzi⟩)
   |(rw [if_neg (show ¬ m.k=1 by omega),if_pos (show m.k=3∨m.k=5 by omega)];exact ⟨rfl,h.back hE3 (h6.from_ ah.rfl_) hzi⟩)
   |(rw [if_neg (show ¬ m.k=1 by omega),if_neg (show ¬ (m.k=3∨m.k=5) by omega)];exact ⟨rfl,h.from_ (E3.next ah.rfl_)⟩)
 refine ak (ak (af (aa (bg rfl rfl) (asb rfl (aj (ag (Bj rfl (fun Q4=>?_) (fun Q4=>?_))))))))
 ·refine aM (ag (Bj rfl (fun Q5=>?_) (fun Q5=>?_)));rotate_left
  ·exfalso;omega
  refine af (mvp rfl (aa (aG (cs:=bD m) bk aY rfl ((hm3.from_ ah.rfl_).whole)) (ay np (uH wm Z7 T g ⟨s,[]⟩ m false 0 _ (h3.from_ ah.rfl_) (Nat.zero_le _)) ?_)));rintro v18 w6 ⟨rfl,h6⟩;refine aj (bo (cC (dV rfl ?_)));unfold fH
  first
   |(rw [if_pos (show m.k=1 by omega)];exact ⟨rfl,h.back hE3 (h6.from_ ah.rfl_) hzi⟩)
   |(rw [if_neg (show ¬ m.k=1 by omega),if_pos (show m.k=3∨m.k=5 by omega)];exact ⟨rfl,h.back hE3 (h6.from_ ah.rfl_) hzi⟩)
   |(rw [if_neg (show ¬ m.k=1 by omega),if_neg (show ¬ (m.k=3∨m.k=5) by omega)];exact ⟨rfl,h.from_ (E3.next ah.rfl_)⟩)
 refine af (aa (bg rfl rfl) (asb rfl (aj (ag (Bj rfl (fun Q7=>?_) (fun Q7=>?_))))))
 ·refine af (mvp rfl (aa (aG (cs:=bD m) bk aY rfl ((hm3.from_ ah.rfl_).whole)) (ay np (uH wm Z7 T g ⟨s,[]⟩ m false 0 _ (h3.from_ ah.rfl_) (Nat.zero_le _)) ?_)));rintro v18 w8 ⟨rfl,h6⟩;refine aj (bo (cC (dV rfl ?_)));unfold fH
  first
   |(rw [if_pos (show m.k=1 by omega)];exact ⟨rfl,h.back hE3 (h6.from_ ah.rfl_) hzi⟩)
   |(rw [if_neg (show ¬ m.k=1 by omega),if_pos (show m.k=3∨m.k=5 by omega)];exact ⟨rfl,h.back hE3 (h6.from_ ah.rfl_) hzi⟩)
   |(rw [if_neg (show ¬ m.k=1 by omega),if_neg (show ¬ (m.k=3∨m.k=5) by omega)];exact ⟨rfl,h.from_ (E3.next ah.rfl_)⟩)
 refine aM (bo (cC (dV rfl ?_)));unfold fH
 first
  |(rw [if_pos (show m.k=1 by omega)];exact ⟨rfl,h.back hE3 (h6.from_ ah.rfl_) hzi⟩)
  |(rw [if_neg (show ¬ m.k=1 by omega),if_pos (show m.k=3∨m.k=5 by omega)];exact ⟨rfl,h.back hE3 (h6.from_ ah.rfl_) hzi⟩)
  |(rw [if_neg (show ¬ m.k=1 by omega),if_neg (show ¬ (m.k=3∨m.k=5) by omega)];exact ⟨rfl,h.from_ (E3.next ah.rfl_)⟩)
theorem zU (w0:World) (Z:Nat→Prop) (T g:Nat) (s:Rf) (m:Msg) (w:World) (h:aQ w0 Z w T g ⟨s,[]⟩) (hgt:m.tm<s.term) :
 Rt prog 58 [.pointer (some ⟨g,0,none⟩),.agg (bD m).toArray] w (fun v w'=>v=.tuple #[]∧aQ w0 Z w' T g (cO s m)):=by
 refine enter (n:=55) Tryz.func58 rfl rfl rfl (ak (af (bK (v:=.agg _) rfl ?_)));intro b3 w1 E3 hb3 hk3;obtain ⟨wm,hwm⟩:∃ x,x=w1:=⟨_,rfl⟩
 have h3a:=h.at_ (Z':=fun k=>Z k∨k=b3) E3 (fun k hk=>by
  rcases hk with e | e
  ·exact ⟨Nat.lt_of_lt_of_le (h.zw k e) E3.size,.inl e⟩
  ·subst e;exact ⟨hk3.lt,.inr (by omega)⟩)
 obtain ⟨Z7,hZ7⟩:∃ Z7,Z7=fun k=>Z k∨k=b3:=⟨_,rfl⟩
 have h3:aQ wm Z7 w1 T g ⟨s,[]⟩:=by
  rw [hZ7,hwm];exact h3a
 have hzi:∀ k,Z k→Z7 k:=fun k hk=>by rw [hZ7];exact .inl hk
 have hzb:Z7 b3:=by rw [hZ7];exact .inr rfl
 have hE3:ah w wm:=by rw [hwm];exact E3
 have hm9:Blk wm b3 39 (bD m).toArray:=by rw [hwm];exact hk3
 have hm3:=h3.kept hzb hm9;refine aj (ag (ak (ak ?_)))
 skip
 apply bQ 9 [(4,eqp _),(5,eqp (.int .i64 m.tm)),(6,eqp _),(7,eqp _),(8,eqp _),(9,eqp _),(10,eqp _),(11,eqp (.int .i64 s.term)),(12,eqp _)] (by repeat first | exact cB | refine cA ?_ | refine bW ?_) (by kernel_rfl) (by kernel_rfl) ⟨aq _,aq _,aq _,aq _,aq _,aq _,aq _,aq _,aq _,trivial⟩
 case hop=>
  constructor
  ·rintro-w3 D3;exact au (ab bt rfl) rfl
  constructor
  ·rintro-w4 D4;rintro _ rfl;exact au (ar ao rfl (by exact (show _=some (Value.int .i64 m.tm) from (hm3.from_ (ah.rfl_.next D4)).rd 3 rfl))) rfl
  constructor
  ·rintro-w5 D5;exact au (aH (v:=.pointer _) rfl) rfl
  constructor
  ·rintro-w6 D6;rintro _ rfl;exact au (av rfl) rfl
  constructor
  ·rintro-w7 D7;rintro _ rfl;exact au (ab aN rfl) rfl
  constructor
  ·rintro-w8 D8;rintro _ rfl;exact au (ab aC rfl) rfl
  constructor
  ·rintro-w9 D9;rintro _ rfl;exact au (ab bm rfl) rfl
  constructor
  ·rintro-w10 D10;rintro _ rfl;exact au (ar ao rfl (by exact (show _=some (Value.int .i64 s.term) from (h3.from_ (ah.rfl_.next D10)).rd (fun _=>rfl)))) rfl
  constructor
  ·rintro-w11 D11;rintro v11_5 rfl v11_11 rfl;exact au (ch (cn rfl rfl) (decide_eq_false (by omega))) rfl
  exact trivial
 case hend=>
  intro w12 D12;rintro _ rfl v5 rfl _ rfl _ rfl _ rfl _ rfl _ rfl v11 rfl _ rfl;show St ..;refine aj (ag (bd rfl (aM (ag (ak (ak ?_))))))
  skip
  apply bQ 9 [(19,eqp _),(20,eqp (.int .i64 m.tm)),(21,eqp _),(22,eqp _),(23,eqp _),(24,eqp _),(25,eqp _),(26,eqp (.int .i64 s.term)),(27,eqp _)] (by repeat first | exact cB | refine cA ?_ | refine bW ?_) (by kernel_rfl) (by kernel_rfl) ⟨aq _,aq _,aq _,aq _,aq _,aq _,aq _,aq _,aq _,trivial⟩
  case hop=>
   constructor
   ·rintro-w14 D14;exact au (ab bt rfl) rfl
   constructor
   ·rintro-w15 D15;rintro _ rfl;exact au (ar ao rfl (by exact (show _=some (Value.int .i64 m.tm) from ((h3.kept hzb hm9).from_ ((ah.rfl_.next D12).next D15)).rd 3 rfl))) rfl
   constructor
   ·rintro-w16 D16;exact au (aH (v:=.pointer _) rfl) rfl
   constructor
   ·rintro-w17 D17;rintro _ rfl;exact au (av rfl) rfl
   constructor
   ·rintro-w18 D18;rintro _ rfl;exact au (ab aN rfl) rfl
   constructor
   ·rintro-w19 D19;rintro _ rfl;exact au (ab aC rfl) rfl
   constructor
   ·rintro-w20 D20;rintro _ rfl;exact au (ab bm rfl) rfl
   constructor
   ·rintro-w21 D21;rintro _ rfl;exact au (ar ao rfl (by exact (show _=some (Value.int .i64 s.term) from (h3.from_ ((ah.rfl_.next D12).next D21)).rd (fun _=>rfl)))) rfl
   constructor
   ·rintro-w22 D22;rintro v22_20 rfl v22_26 rfl;exact au (c6 (bM rfl rfl) (decide_eq_true hgt)) rfl
   exact trivial
  case hend=>
   intro w23 D23;rintro _ rfl v20 rfl _ rfl _ rfl _ rfl _ rfl _ rfl v26 rfl _ rfl;show St ..;refine aj (ag (aS rfl (ak (af (mvp rfl (aa (aG (cs:=bD m) bk aY rfl (((h3.kept hzb hm9).from_ ((ah.rfl_.next D12).next D23)).whole)) (ay sB (vJ wm Z7 T g s m _ (h3.from_ ((ah.rfl_.next D12).next D23))) ?_)))))));rintro v30 w24 ⟨rfl,h6⟩;refine aj (ag (aB (aD (dV rfl ?_))));rw [kf hgt];exact ⟨rfl,h.back hE3 (h6.from_ ah.rfl_) hzi⟩
theorem jI:∀ (a0:Int),prog.built 39 [(0,.int .i64 2),(2,.int .i64 a0)]=some #[.int .i64 2,.int .i64 0,.int .i64 a0,.int .i64 0,.int .i64 0,.int .i64 0,.int .i64 0,.int .i64 0,.bool false,.slice none 0 0,.int .i64 0,.string ⟨#[]⟩,.bool false]:=by intros;kernel_rfl
theorem fQ:∀ (a0:Int) (a1:Int),prog.built 39 [(0,.int .i64 4),(2,.int .i64 a0),(7,.int .i64 a1)]=some #[.int .i64 4,.int .i64 0,.int .i64 a0,.int .i64 0,.int .i64 0,.int .i64 0,.int .i64 0,.int .i64 a1,.bool false,.slice none 0 0,.int .i64 0,.string ⟨#[]⟩,.bool false]:=by intros;kernel_rfl
theorem yM (w0:World) (Z:Nat→Prop) (T g:Nat) (s:Rf) (m:Msg) (w:World) (h:aQ w0 Z w T g ⟨s,[]⟩) (hgt:m.tm<s.term) :
 Rt prog 89 [.pointer (some ⟨g,0,none⟩),.agg (bD m).toArray] w (fun v w'=>v=.tuple #[]∧aQ w0 Z w' T g (cO s m)):=by
 refine enter (n:=169) Tryz.func89 rfl rfl rfl (ak (af (bK (v:=.agg _) rfl ?_)));intro b3 w1 E3 hb3 hk3;obtain ⟨wm,hwm⟩:∃ x,x=w1:=⟨_,rfl⟩
 have h3a:=h.at_ (Z':=fun k=>Z k∨k=b3) E3 (fun k hk=>by
  rcases hk with e | e
  ·exact ⟨Nat.lt_of_lt_of_le (h.zw k e) E3.size,.inl e⟩
  ·subst e;exact ⟨hk3.lt,.inr (by omega)⟩)
 obtain ⟨Z7,hZ7⟩:∃ Z7,Z7=fun k=>Z k∨k=b3:=⟨_,rfl⟩
 have h3:aQ wm Z7 w1 T g ⟨s,[]⟩:=by
  rw [hZ7,hwm];exact h3a
 have hzi:∀ k,Z k→Z7 k:=fun k hk=>by rw [hZ7];exact .inl hk
 have hzb:Z7 b3:=by rw [hZ7];exact .inr rfl
 have hE3:ah w wm:=by rw [hwm];exact E3
 have hm9:Blk wm b3 39 (bD m).toArray:=by rw [hwm];exact hk3
 have hm3:=h3.kept hzb hm9;refine aj (ag (ak (ak ?_)))
 skip
 apply bQ 8 [(5,eqp _),(6,eqp (.int .i64 m.tm)),(7,eqp _),(8,eqp _),(9,eqp _),(10,eqp _),(11,eqp (.int .i64 s.term)),(12,eqp _)] (by repeat first | exact cB | refine cA ?_ | refine bW ?_) (by kernel_rfl) (by kernel_rfl) ⟨aq _,aq _,aq _,aq _,aq _,aq _,aq _,aq _,trivial⟩
 case hop=>
  constructor
  ·rintro-w3 D3;exact au (ab bt rfl) rfl
  constructor
  ·rintro-w4 D4;rintro _ rfl;exact au (ar ao rfl (by exact (show _=some (Value.int .i64 m.tm) from (hm3.from_ (ah.rfl_.next D4)).rd 3 rfl))) rfl
  constructor
  ·rintro-w5 D5;exact au (aH (v:=.pointer _) rfl) rfl
  constructor
  ·rintro-w6 D6;rintro _ rfl;exact au (av rfl) rfl
  constructor
  ·rintro-w7 D7;rintro _ rfl;exact au (ab aJ rfl) rfl
  constructor
  ·rintro-w8 D8;rintro _ rfl;exact au (ab bm rfl) rfl
  constructor
  ·rintro-w9 D9;rintro _ rfl;exact au (ar ao rfl (by exact (show _=some (Value.int .i64 s.term) from (h3.from_ (ah.rfl_.next D9)).rd (fun _=>rfl)))) rfl
  constructor
  ·rintro-w10 D10;rintro v10_6 rfl v10_11 rfl;exact au (ch (cn rfl rfl) (decide_eq_false (by omega))) rfl
  exact trivial
 case hend=>
  intro w11 D11;rintro _ rfl v6 rfl _ rfl _ rfl _ rfl _ rfl v11 rfl _ rfl;show St ..;refine aj (ag (bd rfl (aM (ag (ak (ak ?_))))))
  skip
  apply bQ 8 [(17,eqp _),(18,eqp (.int .i64 m.tm)),(19,eqp _),(20,eqp _),(21,eqp _),(22,eqp _),(23,eqp (.int .i64 s.term)),(24,eqp _)] (by repeat first | exact cB | refine cA ?_ | refine bW ?_) (by kernel_rfl) (by kernel_rfl) ⟨aq _,aq _,aq _,aq _,aq _,aq _,aq _,aq _,trivial⟩
  case hop=>
   constructor
   ·rintro-w13 D13;exact au (ab bt rfl) rfl
   constructor
   ·rintro-w14 D14;rintro _ rfl;exact au (ar ao rfl (by exact (show _=some (Value.int .i64 m.tm) from ((h3.kept hzb hm9).from_ ((ah.rfl_.next D11).next D14)).rd 3 rfl))) rfl
   constructor
   ·rintro-w15 D15;exact au (aH (v:=.pointer _) rfl) rfl
   constructor
   ·rintro-w16 D16;rintro _ rfl;exact au (av rfl) rfl
   constructor
   ·rintro-w17 D17;rintro _ rfl;exact au (ab aJ rfl) rfl
   constructor
   ·rintro-w18 D18;rintro _ rfl;exact au (ab bm rfl) rfl
   constructor
   ·rintro-w19 D19;rintro _ rfl;exact au (ar ao rfl (by exact (show _=some (Value.int .i64 s.term) from (h3.from_ ((ah.rfl_.next D11).next D19)).rd (fun _=>rfl)))) rfl
   constructor
   ·rintro-w20 D20;rintro v20_18 rfl v20_23 rfl;exact au (c6 (bM rfl rfl) (decide_eq_true hgt)) rfl
   exact trivial
  case hend=>
   intro w21 D21;rintro _ rfl v18 rfl _ rfl _ rfl _ rfl _ rfl v23 rfl _ rfl;show St ..;refine aj (ag (aS rfl (ak (ak (af (aa (ab cr rfl) (aa (ar ao rfl (by exact (show _=some (Value.int .i64 m.k) from ((h3.kept hzb hm9).from_ ((ah.rfl_.next D11).next D21)).rd 0 rfl))) ?_)))))));refine aj (ag (aU (ak (af (aa (bg rfl rfl) (asb rfl (aj (ag (Bj rfl (fun Q22=>?_) (fun Q22=>?_))))))))))
   ·refine af (mvp rfl (aa (ab cH rfl) (aa (ar ao rfl (by exact (show _=some (Value.int .i64 m.f) from ((h3.kept hzb hm9).from_ ((ah.rfl_.next D11).next D21)).rd 1 rfl))) ?_)));refine aa (cV (l:=[(0,.const (.int .i64 2)),(2,.tmp 31)]) (jI _)) (dY (t:=32) (v:=.agg _) (v':=.agg (bD ({ zM with k:=2,t:=m.f }:Msg)).toArray) rfl (by rfl) ?_);have h7:=h3.from_ ((ah.rfl_.next D11).next D21);obtain ⟨tgA,aA,OA,ocA,LA,hsA⟩:=h7.ex;obtain rfl:=hsA.nilL;refine ay iY (ke wm Z7 T g ⟨s,[]⟩ _ h7 _ _ _ _ _ hsA (Nat.zero_le _) ({ zM with k:=2,t:=m.f }:Msg) ⟨dH,Col.none⟩) ?_;rintro v33 w23 ⟨rfl,h6⟩;refine aj (bo (ag (aB (aD (dV rfl ?_)))));rw [kf hgt];unfold fH
    first
     |(rw [if_pos (show m.k=1 by omega)];exact ⟨rfl,h.back hE3 (h6.from_ ah.rfl_) hzi⟩)
     |(rw [if_neg (show ¬ m.k=1 by omega),if_pos (show m.k=3∨m.k=5 by omega)];exact ⟨rfl,h.back hE3 (h6.from_ ah.rfl_) hzi⟩)
     |(rw [if_neg (show ¬ m.k=1 by omega),if_neg (show ¬ (m.k=3∨m.k=5) by omega)];exact ⟨rfl,h.back hE3 (h3.from_ ah.rfl_) hzi⟩)
   refine ak (ak (af (aa (bg rfl rfl) (asb rfl (aj (ag (Bj rfl (fun Q24=>?_) (fun Q24=>?_))))))))
   ·refine aM (ag (Bj rfl (fun Q25=>?_) (fun Q25=>?_)));rotate_left
    ·exfalso;omega
    refine af (mvp rfl (aa (ab cH rfl) (aa (ar ao rfl (by exact (show _=some (Value.int .i64 m.f) from ((h3.kept hzb hm9).from_ ((ah.rfl_.next D11).next D21)).rd 1 rfl))) ?_)));refine aa (ab fo rfl) (aa (ar ao rfl (by exact (show _=some (Value.int .i64 m.rd) from ((h3.kept hzb hm9).from_ ((ah.rfl_.next D11).next D21)).rd 7 rfl))) ?_);refine aa (cV (l:=[(0,.const (.int .i64 4)),(2,.tmp 39),(7,.tmp 41)]) (fQ _ _)) (dY (t:=42) (v:=.agg _) (v':=.agg (bD ({ zM with k:=4,t:=m.f,rd:=m.rd }:Msg)).toArray) rfl (by rfl) ?_);have h7:=h3.from_ ((ah.rfl_.next D11).next D21);obtain ⟨tgA,aA,OA,ocA,LA,hsA⟩:=h7.ex;obtain rfl:=hsA.nilL;refine ay iY (ke wm Z7 T g ⟨s,[]⟩ _ h7 _ _ _ _ _ hsA (Nat.zero_le _) ({ zM with k:=4,t:=m.f,rd:=m.rd }:Msg) ⟨dH,Col.none⟩) ?_;rintro v43 w26 ⟨rfl,h6⟩;refine aj (bo (ag (aB (aD (dV rfl ?_)))));rw [kf hgt];unfold fH
    first
     |(rw [if_pos (show m.k=1 by omega)];exact ⟨rfl,h.back hE3 (h6.from_ ah.rfl_) hzi⟩)
     |(rw [if_neg (show ¬ m.k=1 by omega),if_pos (show m.k=3∨m.k=5 by omega)];exact ⟨rfl,h.back hE3 (h6.from_ ah.rfl_) hzi⟩)
     |(rw [if_neg (show ¬ m.k=1 by omega),if_neg (show ¬ (m.k=3∨m.k=5) by omega)];exact ⟨rfl,h.back hE3 (h3.from_ ah.rfl_) hzi⟩)
   refine af (aa (bg rfl rfl) (asb rfl (aj (ag (Bj rfl (fun Q27=>?_) (fun Q27=>?_))))))
   ·refine af (mvp rfl (aa (ab cH rfl) (aa (ar ao rfl (by exact (show _=some (Value.int .i64 m.f) from ((h3.kept hzb hm9).from_ ((ah.rfl_.next D11).next D21)).rd 1 rfl))) ?_)));refine aa (ab fo rfl) (aa (ar ao rfl (by exact (show _=some (Value.int .i64 m.rd) from ((h3.kept hzb hm9).from_ ((ah.rfl_.next D11).next D21)).rd 7 rfl))) ?_);refine aa (cV (l:=[(0,.const (.int .i64 4)),(2,.tmp 39),(7,.tmp 41)]) (fQ _ _)) (dY (t:=42) (v:=.agg _) (v':=.agg (bD ({ zM with k:=4,t:=m.f,rd:=m.rd }:Msg)).toArray) rfl (by rfl) ?_);have h7:=h3.from_ ((ah.rfl_.next D11).next D21);obtain ⟨tgA,aA,OA,ocA,LA,hsA⟩:=h7.ex;obtain rfl:=hsA.nilL;refine ay iY (ke wm Z7 T g ⟨s,[]⟩ _ h7 _ _ _ _ _ hsA (Nat.zero_le _) ({ zM with k:=4,t:=m.f,rd:=m.rd }:Msg) ⟨dH,Col.none⟩) ?_;rintro v43 w28 ⟨rfl,h6⟩;refine aj (bo (ag (aB (aD (dV rfl ?_)))));rw [kf hgt];unfold fH
    first
     |(rw [if_pos (show m.k=1 by omega)];exact ⟨rfl,h.back hE3 (h6.from_ ah.rfl_) hzi⟩)
     |(rw [if_neg (show ¬ m.k=1 by omega),if_pos (show m.k=3∨m.k=5 by omega)];exact ⟨rfl,h.back hE3 (h6.from_ ah.rfl_) hzi⟩)
     |(rw [if_neg (show ¬ m.k=1 by omega),if_neg (show ¬ (m.k=3∨m.k=5) by omega)];exact ⟨rfl,h.back hE3 (h3.from_ ah.rfl_) hzi⟩)
   refine aM (bo (ag (aB (aD (dV rfl ?_)))));rw [kf hgt];unfold fH
   first
    |(rw [if_pos (show m.k=1 by omega)];exact ⟨rfl,h.back hE3 (h6.from_ ((ah.rfl_.next D11).next D21)) hzi⟩)
    |(rw [if_neg (show ¬ m.k=1 by omega),if_pos (show m.k=3∨m.k=5 by omega)];exact ⟨rfl,h.back hE3 (h6.from_ ((ah.rfl_.next D11).next D21)) hzi⟩)
    |(rw [if_neg (show ¬ m.k=1 by omega),if_neg (show ¬ (m.k=3∨m.k=5) by omega)];exact ⟨rfl,h.back hE3 (h3.from_ ((ah.rfl_.next D11).next D21)) hzi⟩)
theorem ss:aO prog 182=true:=by kernel_rfl
theorem sv:aO prog 174=true:=by kernel_rfl
theorem su:aO prog 175=true:=by kernel_rfl
theorem sx:aO prog 163=true:=by kernel_rfl
theorem sw:aO prog 164=true:=by kernel_rfl
theorem Ap (base:Nat) (A:Option Addr) (c n i m b vo vc:Nat) (xs vs:List Value) (tv:TypeId) (csv:Array Value) (w:World) (ho:w.ownsRow base 3 1 (.slice A n c) n xs) (hbs:base≤w.heap.size) (hi:i≤n) (hm:0<m) (hvl:vs.length=m*1) (hvr:w.rangeAt b vo vs) (hvb:Blk w b tv csv) (hne:∀ k,A.map (·.block)=some k→k≠b) (h1:∀ u∈xs,u.oneCell'=true) (h1v:∀ u∈vs,u.oneCell'=true) (hl:n+m≤100000000000) :
 Rt prog 164 [.slice A n c,.int .i64 (i:Nat),.slice (some ⟨b,vo,none⟩) m vc] w (fun v w'=>(∃ A' c',v=.slice A' (n+m) c'∧w'.ownsRow base 3 1 (.slice A' (n+m) c') (n+m) (xs.take (i*1)++vs++xs.drop (i*1))∧∀ q,A'.map (·.block)=some q→A.map (·.block)=some q∨w.heap.size≤q)∧w.grownBy w' (A.map (·.block))):=by
 have hxl:xs.length=n*1:=ho.1;have hdl:(xs.drop (i*1)).length=(n-i)*1:=by rw [List.length_drop,hxl];omega
 have hcap:=yV ho;refine enter (n:=95) Tryz.func164 rfl rfl rfl (ak (af (ass rfl (aj (ag (ak (af (mvs rfl (mvi rfl (aa (eh (l:=i) (h:=n) bj rfl (.inr ⟨_,_,_,rfl,rfl,rfl⟩) (.inl ⟨rfl,rfl⟩) (by omega) (by omega)) (aj (ag (ak (af (mvs rfl ?_)))))))))))))));refine aa (bH bI rfl) (asi rfl (aj (ag (ak (ak (af (mvi rfl (aa (bg rfl rfl) (aj (ag (Bj rfl (fun Q1=>?_) (fun Q1=>?_))))))))))))
 ·exfalso;omega
 refine aM (ag (ak (af (mvs rfl (aa (bH bI rfl) (asi rfl (aj (ag (ak (ak (af (mvi rfl (mvi rfl (aa (bg rfl rfl) (aj (ag ?_))))))))))))))));refine Bj rfl (fun Q2=>?_) (fun Q2=>?_)
 ·obtain rfl:i=n:=by omega
  refine ak (af (mvs rfl (mvs rfl ?_)));have hs25:=Nat.le_refl (w).heap.size;refine fW bB rfl (by decide) rfl ho hbs rfl hvl ⟨b,vo,rfl,hvr⟩ h1v (by omega) (by omega) ?_;intro A25 c25 w3 ho25 hg25 hL25;refine ass rfl (aj (ag (aB (aD (bn (v:=.slice _ _ _) rfl rfl ?_)))));exact ⟨⟨A25,c25,rfl,by rw [List.take_of_length_le (by omega),List.drop_of_length_le (by omega),List.append_nil];exact ho25,fun q hq=>hL25.elim (fun e=>.inl (e ▸ hq)) (fun e=>.inr (by rw [e] at hq;cases hq;exact hs25))⟩,hg25⟩
 obtain ⟨g,cur,rfl,hg,hbk,hnc,hcm,hcl,hct⟩:=lY ho (by omega);have hgb:g≠b:=hne g rfl;have hbz:w.grownBy w (some g):=World.grownBy.refl _ _;refine aM (ag (ak (ak (af (mvi rfl (mvi rfl (aa (cl rfl rfl (by omega)) (mvs rfl (aa (Ab bI rfl) (aa (cn rfl rfl) (aj (ag (Bk rfl (fun Q4=>?_) (fun Q4=>?_))))))))))))))
 ·refine ak (af (mvs rfl (mvi rfl (aa (fT (v':=.slice (some ⟨g,0,none⟩) i c) (eh (l:=0) (h:=i) bj rfl (.inl ⟨rfl,rfl⟩) (.inr ⟨_,_,_,rfl,rfl,rfl⟩) (by omega) (by omega)) (by rw [ji,Nat.sub_zero,Nat.sub_zero])) ?_))));refine mvi rfl (mvi rfl (aa (cl rfl rfl (by omega)) (mvi rfl (aa (uN rfl rfl (by omega)) (tl (kn:=.i64) (olds:=xs.take (i*1)) bB (by kernel_rfl) rfl (by decide) rfl rfl (by rw [List.length_take,hxl];omega) (fun _=>⟨g,0,rfl,wU hbk hct⟩) (by omega) (by omega) (by unfold maxLen;omega) (by omega) (by omega) ?_)))));intro g2 c2 w5 cur2 hg2 E40 hb2 hc2 hc2m hcl2 hct2;obtain hc2:n+m≤c2:=by omega
  replace hbz:=cY hbz (ah.grown E40 _);replace hbk:=hbk.from_ E40;have hgg:g≠g2:=by have:=ho.lt g rfl;omega
  have hvr2:=eZ E40 hvr;have hbg2:b≠g2:=by have:=hvb.lt;omega
  refine ass rfl (aj (ag (ak (af (mvs rfl (mvi rfl (aa (eh (l:=i) (h:=i+(n+m-i)) bj rfl (.inr ⟨_,_,_,rfl,rfl,rfl⟩) (.inl ⟨rfl,rfl⟩) (by omega) (by omega)) (mvs rfl (lK (news:=vs) (g:=g2) (o:=i*1) bj rfl rfl (by rw [hvl];congr 1;omega) (fun h=>by rw [fD (by omega),Nat.zero_add]) (fun h=>⟨b,vo,rfl,hvr2⟩) hb2 (by rw [hvl,hcl2];omega) h1v ?_)))))))));intro w6 O45 P45;replace hbz:=pZ hbz O45 (by have:=hbk.lt;have:=ho.lt g rfl;omega);replace hbk:=hbk.only O45 hgg;refine aj (ag (ak ?_));apply bQ 8 [(46,eqp _),(47,eqp _),(48,eqp _),(49,eqp _),(50,eqp _),(51,eqp _),(52,eqp _),(53,eqp _)] (by repeat first | exact cB | refine cA ?_ | refine bW ?_) (by kernel_rfl) (by kernel_rfl) ⟨aq _,aq _,aq _,aq _,aq _,aq _,aq _,aq _,trivial⟩
  case hop=>
   constructor
   ·rintro-w8 D8;exact au (aH (v:=.slice _ _ _) rfl) rfl
   constructor
   ·rintro-w9 D9;exact au (aH (v:=.int _ _) rfl) rfl
   constructor
   ·rintro-w10 D10;exact au (aH (v:=.int _ _) rfl) rfl
   constructor
   ·rintro-w11 D11;rintro _ rfl _ rfl;exact au (cl rfl rfl (by omega)) rfl
   constructor
   ·rintro-w12 D12;rintro _ rfl _ rfl;exact au (eh (l:=i+m) (h:=i+(n+m-i)) bj rfl (.inr ⟨_,_,_,rfl,rfl,rfl⟩) (.inl ⟨rfl,rfl⟩) (by omega) (by omega)) rfl
   constructor
   ·rintro-w13 D13;exact au (aH (v:=.slice _ _ _) rfl) rfl
   constructor
   ·rintro-w14 D14;exact au (aH (v:=.int _ _) rfl) rfl
   constructor
   ·rintro-w15 D15;rintro _ rfl _ rfl;exact au (eh (l:=i) (h:=n) bj rfl (.inr ⟨_,_,_,rfl,rfl,rfl⟩) (.inl ⟨rfl,rfl⟩) (by omega) (by omega)) rfl
   exact trivial
  case hend=>
   intro w16 D16;rintro _ rfl _ rfl _ rfl _ rfl _ rfl _ rfl _ rfl _ rfl;show St ..;replace hbz:=cY hbz (ah.grown D16 _);replace hbk:=hbk.from_ D16;replace P45:=P45.from_ D16;refine lK (news:=xs.drop (i*1)) (g:=g2) (o:=(i+m)*1) bj rfl rfl (by rw [hdl];congr 1;omega) (fun h=>by rw [fD (by rw [hdl] at h;omega),Nat.zero_add]) (fun h=>⟨g,i*1,by rw [fD (by omega),Nat.zero_add],rH hbk hct⟩) P45 (by rw [hdl,e_ _ _ _ (by rw [hvl,hcl2];omega),hcl2];omega) (fun v hv=>h1 v (List.mem_of_mem_drop hv)) ?_;intro w17 O54 P54;replace hbz:=pZ hbz O54 (by have:=ho.lt g rfl;omega);refine aj (ag (ak (af (mvs rfl (ass rfl (aj (ag (aB (aD (bn (v:=.slice _ _ _) rfl rfl ?_))))))))));have hnm:i+(n+m-i)=n+m:=by omega
   rw [hnm];have hbg:base≤g2:=by omega
   exact ⟨⟨_,_,rfl,ow hbg P54 hc2 hc2m (by rw [e_ _ _ _ (by rw [hdl,e_ _ _ _ (by rw [hvl,hcl2];omega),hcl2];omega),e_ _ _ _ (by rw [hvl,hcl2];omega),hcl2]) (r8 hi hc2 hcl2 hxl hct2 hvl).2,fun q hq=>.inr (by cases hq;show w.heap.size≤g2;omega)⟩,hbz⟩
 refine aM (ag (ak (af (mvs rfl (mvi rfl (mvi rfl (aa (cl rfl rfl (by omega)) (aa (fT (v':=.slice (some ⟨g,0,none⟩) (n+m) c) (eh (l:=0) (h:=n+m) bj rfl (.inl ⟨rfl,rfl⟩) (.inr ⟨_,_,_,rfl,rfl,rfl⟩) (by omega) (by omega)) (by rw [ji,Nat.sub_zero,Nat.sub_zero])) ?_))))))));refine ass rfl (aj (ag (ak (ak (af (mvs rfl (mvs rfl (mvi rfl (mvi rfl (aa (cl rfl rfl (by omega)) (aa (eh (l:=i+m) (h:=n+m) bj rfl (.inr ⟨_,_,_,rfl,rfl,rfl⟩) (.inl ⟨rfl,rfl⟩) (by omega) (by omega)) ?_)))))))))));refine aa (rI (tS:=26) (tR:=4) (g1:=b) (o1:=vo) (g2:=g) (o2:=(i+m)*1) Tryz.func176 (by kernel_rfl) (by kernel_rfl) (by kernel_rfl) (by kernel_rfl) bj rfl (by show Value.slice _ _ _=_;rw [fD (by omega),Nat.zero_add]) hgb.symm hvb hbk (by simp only [List.size_toArray,hcl];omega)) ?_;refine aa (c6 (cd rfl) rfl) (aj (ag (aS rfl (ak ?_))));apply bQ 8 [(69,eqp _),(70,eqp _),(71,eqp _),(72,eqp _),(73,eqp _),(74,eqp _),(75,eqp _),(76,eqp _)] (by repeat first | exact cB | refine cA ?_ | refine bW ?_) (by kernel_rfl) (by kernel_rfl) ⟨aq _,aq _,aq _,aq _,aq _,aq _,aq _,aq _,trivial⟩
 case hop=>
  constructor
  ·rintro-w19 D19;exact au (aH (v:=.slice _ _ _) rfl) rfl
  constructor
  ·rintro-w20 D20;exact au (aH (v:=.int _ _) rfl) rfl
  constructor
  ·rintro-w21 D21;exact au (aH (v:=.int _ _) rfl) rfl
  constructor
  ·rintro-w22 D22;rintro _ rfl _ rfl;exact au (cl rfl rfl (by omega)) rfl
  constructor
  ·rintro-w23 D23;rintro _ rfl _ rfl;exact au (eh (l:=i+m) (h:=n+m) bj rfl (.inr ⟨_,_,_,rfl,rfl,rfl⟩) (.inl ⟨rfl,rfl⟩) (by omega) (by omega)) rfl
  constructor
  ·rintro-w24 D24;exact au (aH (v:=.slice _ _ _) rfl) rfl
  constructor
  ·rintro-w25 D25;exact au (aH (v:=.int _ _) rfl) rfl
  constructor
  ·rintro-w26 D26;rintro _ rfl _ rfl;exact au (eh (l:=i) (h:=n+m) bj rfl (.inr ⟨_,_,_,rfl,rfl,rfl⟩) (.inl ⟨rfl,rfl⟩) (by omega) (by omega)) rfl
  exact trivial
 case hend=>
  intro w27 D27;rintro _ rfl _ rfl _ rfl _ rfl _ rfl _ rfl _ rfl _ rfl;show St ..;replace hbz:=cY hbz (ah.grown D27 _);replace hbk:=hbk.from_ D27;have hvr2:=eZ D27 hvr;refine lK (news:=xs.drop (i*1)) (g:=g) (o:=(i+m)*1) bj rfl rfl (by rw [hdl];congr 1;omega) (fun h=>by rw [fD (by rw [hdl] at h;omega),Nat.zero_add]) (fun h=>⟨g,i*1,by rw [fD (by omega),Nat.zero_add],rH hbk hct⟩) hbk (by rw [hdl,hcl];omega) (fun v hv=>h1 v (List.mem_of_mem_drop hv)) ?_;intro w28 O77 P77;replace hbz:=cY hbz (ep.grown O77);refine aj (ag (ak (af (mvs rfl (mvi rfl (aa (eh (l:=i) (h:=n+m) bj rfl (.inr ⟨_,_,_,rfl,rfl,rfl⟩) (.inl ⟨rfl,rfl⟩) (by omega) (by omega)) (mvs rfl ?_)))))));refine lK (news:=vs) (g:=g) (o:=i*1) bj rfl rfl (by rw [hvl];congr 1;omega) (fun h=>by rw [fD (by omega),Nat.zero_add]) (fun h=>⟨b,vo,rfl,fun j v hv=>(O77.cell (Ne.symm hgb)).trans (hvr2 j v hv)⟩) P77 (by rw [hvl,e_ _ _ _ (by rw [hdl,hcl];omega),hcl];omega) h1v ?_;intro w29 O82 P82;replace hbz:=cY hbz (ep.grown O82);refine aj (ag (ak (af (mvs rfl (ass rfl (aj (ag (aB (aD (bn (v:=.slice _ _ _) rfl rfl ?_))))))))));have hct3:cur.take (i*1)=xs.take (i*1):=by rw [←hct,List.take_take,Nat.min_eq_left (by omega)]
  exact ⟨⟨_,_,rfl,ow hg P82 (by omega) hcm (by rw [e_ _ _ _ (by rw [hvl,e_ _ _ _ (by rw [hdl,hcl];omega),hcl];omega),e_ _ _ _ (by rw [hdl,hcl];omega),hcl]) (r8 hi (by omega) hcl hxl hct3 hvl).1,fun q hq=>.inl hq⟩,hbz⟩
theorem AX (x:Int) (w:World) :
 Rt prog 182 [.int .i64 x] w (fun v w'=>v=.bool false∧w=w'):=by
 refine enter (n:=6) Tryz.func182 rfl rfl rfl (ak (af (asb rfl (aj (ag (ak (af (mvi rfl (mvi rfl (aa (ch (dk rfl rfl) (bne_self_eq_false _)) (asb rfl (aj (ag (aB ?_))))))))))))));refine bn (v:=.bool _) rfl rfl (⟨rfl,rfl⟩)
theorem AW (x:Int) (w:World) :
 Rt prog 175 [.int .i64 x] w (fun v w'=>v=.bool false∧w=w'):=by
 refine enter (n:=6) Tryz.func175 rfl rfl rfl (ak (af (asb rfl (aj (ag (ak (af (mvi rfl (mvi rfl (aa (ch (dk rfl rfl) (bne_self_eq_false _)) (asb rfl (aj (ag (aB ?_))))))))))))));refine bn (v:=.bool _) rfl rfl (⟨rfl,rfl⟩)
theorem xP (x y:Int) (w:World) :
 Rt prog 174 [.int .i64 x,.int .i64 y] w (fun v w'=>v=.bool (decide (x<y))∧w=w'):=by
 refine enter (n:=17) Tryz.func174 rfl rfl rfl (ak (af (asb rfl (aj (ag (ak (af (mvi rfl (ay ss (AX _ _) ?_)))))))));rintro v6 w1 ⟨rfl,rfl⟩;refine mvb rfl (an rfl rfl (an rfl rfl (an rfl rfl (aa (aw (v:=.bool _) rfl rfl) (mvb rfl (ae rfl (mvi rfl (ae rfl ?_))))))));refine mvi rfl (ae rfl (aa (bM rfl rfl) (aa (aw (v:=.bool _) rfl rfl) (asb rfl (aj (ag (aB (bn (v:=.bool _) rfl rfl (⟨rfl,rfl⟩)))))))))
theorem yj {l:List Int} {x:Int} {i:Nat} (hs:∀ (i j:Nat) (_hi:i<l.length) (_hj:j<l.length),i<j→l[i]<l[j]) (hlo:∀ k (h:k<l.length),k<i→l[k]<x) (hhi:∀ k (h:k<l.length),i≤k→x≤l[k]) (hne:∀ h:i<l.length,l[i]≠x):x ∉ l:=by
 intro hm;obtain ⟨k,hk,he⟩:=List.getElem_of_mem hm;rcases Nat.lt_trichotomy k i with e | e | e
 ·have:=hlo k hk e;omega
 ·subst e;exact hne hk he
 ·have h1:=hhi i (by omega) (Nat.le_refl _);have h2:=hs i k (by omega) hk e;omega
theorem qI {l:List Int} {x:Int} {i:Nat} (h:i<l.length) (he:l[i]=x):x∈l:=he ▸ List.getElem_mem h
theorem ub (A:Option Addr) (c:Nat) (l:List Int) (x:Int) (w:World) (hr:dE iV w A l) (hl:l.length≤1000000) (hs:l.Pairwise (·<·)) :
 Rt prog 163 [.slice A l.length c,.int .i64 x] w (fun v w'=>(∃ (i:Nat) (b:Bool),v=.tuple #[.int .i64 (i:Nat),.bool b]∧i≤l.length∧(∀ j (h:j<l.length),j<i→l[j]<x)∧(∀ j (h:j<l.length),i≤j→x≤l[j])∧(b=true→x∈l)∧(b=false→x ∉ l))∧ah w w'):=by
 have hs9:=List.pairwise_iff_getElem.1 hs;refine enter (n:=54) Tryz.func163 rfl rfl rfl (ak (af (asi rfl (asb rfl (aj (ag (ak (af (mvs rfl (aa (bH bI rfl) (asi rfl (aj (ag (ak (af ?_)))))))))))))));refine mvi rfl (asi rfl (asi rfl (aj (ag (ak (aU (cM (G:=Nat×Nat) [9,13,14,15,16,17,18,19,20,21,22,23,24,25,26,27,28,29,30] (fun (i,j)=>[(7,.int .i64 (i:Nat)),(8,.int .i64 (j:Nat))]) (fun (i,j) w'=>i≤j∧j≤l.length∧(∀ k (h:k<l.length),k<i→l[k]<x)∧(∀ k (h:k<l.length),j≤k→x≤l[k])∧ah w w') (fun (i,j)=>j-i) ((0,l.length)) ⟨rfl,rfl,trivial⟩ ?_ ?_)))))))
 ·exact ⟨Nat.zero_le _,Nat.le_refl _,fun x _ h=>absurd h (by omega),fun x h1 h2=>absurd h1 (by omega),ah.rfl_⟩
 rintro ⟨i,j⟩ ρ1 w1 ⟨hij,hjn,hlo,hhi,hB⟩;refine ak (ak (af (mvi rfl (mvi rfl (aa (bM rfl rfl) (aj (ag (Bk rfl (fun Q2=>?_) (fun Q2=>?_)))))))))
 ·obtain ⟨ba,oa,rfl,hcs⟩:=hr (by omega);refine aM (ag (aU (ak (af (mvi rfl (mvi rfl (aa (cl rfl rfl (by omega)) ?_)))))));obtain ⟨h,hh⟩:∃ h,h=(i+j)/2 ^ 1:=⟨_,rfl⟩;refine aa (pM o8 lC rfl (by omega)) (aa (yN (b:=1) rfl rfl (by decide)) (aa (rK o_ s4 rfl (by omega)) (dY (t:=21) (v:=.int _ _) (v':=.int .i64 (h:Nat)) rfl (by rw [hh]) ?_)));refine asi rfl (aj (ag (ak (af (mvs rfl (mvi rfl (aa (bX bj rfl rfl (by omega)) (aa (ar ao rfl (by exact dP hB (hcs h (by omega)))) ?_))))))));refine mvi rfl (ay sv (xP l[h] x _) ?_);rintro v27 w3 ⟨rfl,rfl⟩;refine aj (ag (Bk rfl (fun Q4=>?_) (fun Q4=>?_)))
  ·refine af (mvi rfl (aa (cl (b:=1) rfl rfl (by omega)) (asi rfl (aj (bo ?_)))));refine cp ((h+1,j)) ⟨(by first | rfl | (refine br ?_;omega)),(by first | rfl | (refine br ?_;omega)),trivial⟩ (by (iterate 41 refine bA rfl ?_);exact bN) ⟨?_,?_⟩
   ·refine ⟨by omega,hjn,fun k hk hki=>?_,hhi,hB⟩;rcases Nat.lt_or_ge k h with e | e
    ·have:=hs9 k h hk (by omega) e;omega
    ·obtain rfl:k=h:=by omega
     omega
   ·show j-(h+1)<j-i;omega
  refine af (mvi rfl (asi rfl (aj (bo ?_))));refine cp ((i,h)) ⟨(by first | rfl | (refine br ?_;omega)),(by first | rfl | (refine br ?_;omega)),trivial⟩ (by (iterate 40 refine bA rfl ?_);exact bN) ⟨?_,?_⟩
  ·refine ⟨by omega,by omega,hlo,fun k hk hki=>?_,hB⟩;rcases Nat.lt_or_ge h k with e | e
   ·have:=hs9 h k (by omega) hk e;omega
   ·obtain rfl:k=h:=by omega
    omega
  ·show h-i<j-i;omega
 refine b_ (bf (bf (bL (ag (ak (af (mvi rfl (mvi rfl (mvi rfl (aa (bM rfl rfl) (mvb rfl (AL (t:=35) rfl (fun Q5=>?_) (fun Q5=>?_)))))))))))))
 ·obtain ⟨ba,oa,rfl,hcs⟩:=hr (by omega);refine ae rfl (mvs rfl (ae rfl (mvi rfl (ae rfl (aa (bX bj rfl rfl (by omega)) (ae rfl (aa (ar ao rfl (by exact dP hB (hcs i (by omega)))) ?_)))))));refine ae rfl (mvi rfl (ae rfl (aa (bg rfl rfl) (ae rfl (mvb rfl (AK (t:=42) rfl (fun Q6=>?_) (fun Q6=>?_)))))))
  ·refine an rfl rfl (an rfl rfl (an rfl rfl (an rfl rfl (an rfl rfl (an rfl rfl (cX rfl (cX rfl (an rfl rfl ?_))))))));refine ae rfl (aa (aL (v:=.bool _) rfl rfl) (aa (aL (v:=.bool _) rfl rfl) (asi rfl (asb rfl (aj (ag (aB (lS (v:=.int _ _) (v':=.bool _) rfl rfl rfl ?_))))))));obtain rfl:i=j:=by omega
   first
    |exact ⟨⟨i,false,rfl,hjn,hlo,hhi,fun hb=>(by cases hb),fun _=>yj hs9 hlo hhi (fun h9=>by omega)⟩,hB⟩
    |exact ⟨⟨i,true,rfl,hjn,hlo,hhi,fun _=>qI (i:=i) (by omega) (by omega),fun hb=>(by cases hb)⟩,hB⟩
  refine ae rfl (mvs rfl (ae rfl (mvi rfl (ae rfl (aa (bX bj rfl rfl (by omega)) (ae rfl (aa (ar ao rfl (by exact dP hB (hcs i (by omega)))) ?_)))))));refine ae rfl (ay su (AW _ _) ?_);rintro v47 w7 ⟨rfl,rfl⟩;refine ae rfl (mvb rfl (an rfl rfl (an rfl rfl (ae rfl (aa (aw (v:=.bool _) rfl rfl) (ae rfl (aa (aw (v:=.bool _) rfl rfl) (aa (aL (v:=.bool _) rfl rfl) ?_))))))));refine asi rfl (asb rfl (aj (ag (aB (lS (v:=.int _ _) (v':=.bool _) rfl rfl rfl ?_)))));obtain rfl:i=j:=by omega
  first
   |exact ⟨⟨i,false,rfl,hjn,hlo,hhi,fun hb=>(by cases hb),fun _=>yj hs9 hlo hhi (fun h9=>by omega)⟩,hB⟩
   |exact ⟨⟨i,true,rfl,hjn,hlo,hhi,fun _=>qI (i:=i) (by omega) (by omega),fun hb=>(by cases hb)⟩,hB⟩
 refine an rfl rfl (an rfl rfl (an rfl rfl (an rfl rfl (an rfl rfl (an rfl rfl (an rfl rfl (cX rfl (cX rfl ?_))))))));refine cX rfl (cX rfl (cX rfl (cX rfl (cX rfl (cX rfl (cX rfl (an rfl rfl (aa (aw (v:=.bool _) rfl rfl) ?_))))))));refine asi rfl (asb rfl (aj (ag (aB (lS (v:=.int _ _) (v':=.bool _) rfl rfl rfl ?_)))));obtain rfl:i=j:=by omega
 first
  |exact ⟨⟨i,false,rfl,hjn,hlo,hhi,fun hb=>(by cases hb),fun _=>yj hs9 hlo hhi (fun h9=>by omega)⟩,hB⟩
  |exact ⟨⟨i,true,rfl,hjn,hlo,hhi,fun _=>qI (i:=i) (by omega) (by omega),fun hb=>(by cases hb)⟩,hB⟩
theorem nN {l:List Int} {x:Int} {i:Nat} (h:c8 l x=l.take i++x::l.drop i) (hi:i≤l.length):(c8 l x).length=l.length+1:=by
 rw [h,List.length_append,List.length_take,List.length_cons,List.length_drop];omega
theorem wu {l:List Int} {x:Int} {i:Nat} (h:c8 l x=l.take i++x::l.drop i):(c8 l x).map iV=(l.map iV).take (i*1)++[iV x]++(l.map iV).drop (i*1):=by
 rw [h,List.map_append,List.map_cons,List.map_take,List.map_drop,Nat.mul_one,List.append_assoc];rfl
theorem yz (A:Option Addr) (c:Nat) (l:List Int) (x:Int) (w:World) (ho:w.ownsRow 0 3 1 (.slice A l.length c) l.length (l.map iV)) (hs:l.Pairwise (·<·)) (hl:l.length≤1000) :
 Rt prog 146 [.slice A l.length c,.int .i64 x] w (fun v w'=>(∃ A' c',v=.slice A' (c8 l x).length c'∧w'.ownsRow 0 3 1 (.slice A' (c8 l x).length c') (c8 l x).length ((c8 l x).map iV)∧∀ q,A'.map (·.block)=some q→A.map (·.block)=some q∨w.heap.size≤q)∧w.grownBy w' (A.map (·.block))):=by
 refine enter (n:=20) Tryz.func146 rfl rfl rfl (ak (af (ass rfl (aj (ag (ak (af (mvs rfl (mvi rfl (ay sx (ub A c l x _ (((dE.own ho).2).from_ ah.rfl_) (by omega) hs) ?_))))))))));rintro v10 w1 ⟨⟨i,b,rfl,hi,hlo,hhi,hbt,hbf⟩,E10⟩;refine mvt rfl (aa (aZ rfl rfl) (aa (aZ rfl rfl) (asi rfl (asb rfl (aj (ag (ak (ak (af (mvb rfl (aj (ag (aR rfl (fun Q2=>?_) (fun Q2=>?_))))))))))))))
 ·refine ak (af (mvs rfl (ass rfl (aj (ag (aB (aD (bn (v:=.slice _ _ _) rfl rfl ?_))))))));have hin:x∈l:=hbt (by first | rfl | assumption | simp_all);exact ⟨⟨A,c,by rw [lF hin],by rw [lF hin];exact ho.kept_from (ah.rfl_.next E10),fun q hq=>.inl hq⟩,((ah.rfl_.next E10)).grown _⟩
 refine aM (ag (ak (af (mvs rfl (mvi rfl (mvi rfl ?_))))));have hB18:ah w w1:=(ah.rfl_.next E10);refine jq (l:=[(0,.tmp 17)]) (cells:=#[iV x]) bB rfl rfl (by first | rfl | kernel_rfl) ?_;intro b18 w3 E18 hb18 hk18;refine ay sw (Ap 0 A c l.length i 1 b18 0 1 (l.map iV) [iV x] _ _ _ (ho.kept_from ((ah.rfl_.next E10).next E18)) (Nat.zero_le _) hi (by decide) rfl hk18.whole hk18 (fun k hk e=>by have:=dt ho k hk;have:=hB18.size;omega) (fun u hu=>by obtain ⟨y,_,rfl⟩:=List.mem_map.1 hu;rfl) (fun u hu=>by cases List.mem_singleton.1 hu;rfl) (by omega)) ?_;rintro v19 w4 ⟨⟨A19,c19,rfl,ho19,hL19⟩,hg19⟩;refine ass rfl (aj (ag (aB (bn (v:=.slice _ _ _) rfl rfl ?_))));have hni:x ∉ l:=hbf (by first | rfl | assumption | simp_all);have hw:=mw hni i hi hlo hhi;rw [nN hw hi,wu hw];exact ⟨⟨A19,c19,rfl,ho19,fun q hq=>(hL19 q hq).imp id fun e=>Nat.le_trans (hB18.next E18).size e⟩,cY ((hB18.next E18).grown _) hg19⟩
theorem IR.take {w:World} {A:Option Addr} {c:Nat} {l:List Int} (h:IR w A c l) (i:Nat):IR w A c (l.take i):=by
 obtain ⟨hr,h1,h2,h3⟩:=h;have hlt:(l.take i).length≤l.length:=by rw [List.length_take];omega
 refine ⟨fun h0=>?_,by omega,h2,fun e=>⟨by have:=(h3 e).1;omega,(h3 e).2⟩⟩;obtain ⟨b,o,hA,hc⟩:=hr (by omega);refine ⟨b,o,hA,fun k hk=>?_⟩;rw [List.getElem_take];exact hc k (by omega)
theorem pL {w:World} {A:Option Addr} {c i:Nat} {l:List Int} (h:IR w A c l) (h0:0<((l.drop i).map iV).length):∃ b o,iq A c i 1=some ⟨b,o,none⟩∧w.rangeAt b o ((l.drop i).map iV):=by
 rw [List.length_map,List.length_drop] at h0;obtain ⟨hr,h1,h2,h3⟩:=h;obtain ⟨b,o,rfl,hc⟩:=hr (by omega);refine ⟨b,o+i*1,fD (by omega),fun j v hv=>?_⟩;rw [List.getElem?_map] at hv;cases hj:(l.drop i)[j]? with
 |none=>rw [hj] at hv;cases hv
 |some y=>
  obtain ⟨hjl,rfl⟩:=List.getElem?_eq_some_iff.1 hj;rw [hj] at hv;cases hv;rw [List.length_drop] at hjl;have:=hc (i+j) (by omega);rw [List.getElem_drop,show o+i*1+j=o+(i+j) by omega];exact this
theorem Aq (A:Option Addr) (c:Nat) (l:List Int) (x:Int) (w:World) (hr:dE iV w A l) (hl:l.length≤1000000) :
 Rt prog 122 [.slice A l.length c,.int .i64 x] w (fun v w'=>(∃ r:Int,v=.int .i64 r∧(0≤r↔x∈l))∧ah w w'):=by
 refine enter (n:=19) Tryz.func122 rfl rfl rfl (ak (af (asi rfl (aj (ag (ak (ak (af (asi rfl (aj (ag (aU (cM (G:=Nat) [4,6,7,8,9,10,11,12,13,14,15,16,17,18] (fun i=>[(5,.int .i64 (i:Nat))]) (fun i w'=>i≤l.length∧(∀ j (h:j<l.length),j<i→l[j]≠x)∧ah w w') (fun i=>l.length-i) (0) ⟨rfl,trivial⟩ ?_ ?_)))))))))))))
 ·exact ⟨Nat.zero_le _,fun j _ h=>absurd h (Nat.not_lt_zero _),ah.rfl_⟩
 rintro i ρ1 w1 ⟨hi,hno,hB⟩;refine ak (ak (af (mvi rfl (mvs rfl (aa (bH bI rfl) (aa (bM rfl rfl) (aj (ag (Bk rfl (fun Q2=>?_) (fun Q2=>?_))))))))))
 ·obtain ⟨ba,oa,rfl,hcs⟩:=hr (by omega);refine aM (ag (ak (aU (ak (af (mvs rfl (mvi rfl (aa (bX bj rfl rfl (by omega)) (aa (ar ao rfl (by exact dP hB (hcs i (by omega)))) ?_)))))))));refine mvi rfl (aa (bg rfl rfl) (aj (ag (Bj rfl (fun Q3=>?_) (fun Q3=>?_)))))
  ·refine ak (af (mvi rfl (asi rfl (aj (ag (aB (bC (aD (aD (bC (aD (bn (v:=.int _ _) rfl rfl (⟨⟨_,rfl,⟨fun _=>qI (i:=i) (by omega) (by omega),fun _=>by omega⟩⟩,hB⟩)))))))))))))
  refine aM (bo (ag (af (mvi rfl (aa (cl (b:=1) rfl rfl (by omega)) (asi rfl (aj ?_)))))));refine cp (i+1) ⟨(by first | rfl | (refine br ?_;omega)),trivial⟩ (by (iterate 28 refine bA rfl ?_);exact bN) ⟨?_,?_⟩
  ·refine ⟨by omega,fun j h hj=>?_,hB⟩;rcases Nat.lt_or_ge j i with e | e
   ·exact hno j h e
   ·obtain rfl:j=i:=by omega
    omega
  ·omega
 refine b_ (bf (bf (bL (ag (ak (af (asi rfl (aj (ag (aB (bn (v:=.int _ _) rfl rfl (⟨⟨_,rfl,⟨fun h=>absurd h (by decide),fun hm=>?_⟩⟩,hB⟩))))))))))));obtain ⟨k,hk,he⟩:=List.getElem_of_mem hm;exact absurd he (hno k hk (by omega))
theorem rE (A:Option Addr) (c:Nat) (l:List Int) (x:Int) (w:World) (ho:w.ownsRow 0 3 1 (.slice A l.length c) l.length (l.map iV)) (hs:l.Pairwise (·<·)) (hl:l.length≤1000) :
 Rt prog 126 [.slice A l.length c,.int .i64 x] w (fun v w'=>(∃ A' c',v=.slice A' (c8 l x).length c'∧w'.ownsRow 0 3 1 (.slice A' (c8 l x).length c') (c8 l x).length ((c8 l x).map iV)∧∀ q,A'.map (·.block)=some q→A.map (·.block)=some q∨w.heap.size≤q)∧ah w w'):=by
 have hr:=(dE.own ho).2;have hir:=ko ho;have hs9:=List.pairwise_iff_getElem.1 hs;refine enter (n:=38) Tryz.func126 rfl rfl rfl (ak (af (ass rfl (aj (ag (ak (ak (af (mvs rfl (mvi rfl (ay pc (Aq A c l x _ (hr.from_ ah.rfl_) (by omega)) ?_)))))))))));rintro v9 w1 ⟨⟨r,rfl,hrI⟩,E9⟩;refine aa (jr rfl rfl) (aj (ag (Bk rfl (fun Q2=>?_) (fun Q2=>?_))))
 ·refine ak (af (mvs rfl (ass rfl (aj (ag (aB (aD (bn (v:=.slice _ _ _) rfl rfl ?_))))))));have hin:x∈l:=hrI.1 (by omega);exact ⟨⟨A,c,by rw [lF hin],by rw [lF hin];exact ho.kept_from (ah.rfl_.next E9),fun q hq=>.inl hq⟩,(ah.rfl_.next E9)⟩
 have hni:x ∉ l:=fun e=>by have:=hrI.2 e;omega
 refine aM (ag (ak (af (asi rfl (aj (ag (ak (aU (cM (G:=Nat) [12,13,14,15,16,17,18,19,20,21,22,23,24,25] (fun i=>[(5,.int .i64 (i:Nat))]) (fun i w'=>i≤l.length∧(∀ j (h:j<l.length),j<i→l[j]<x)∧ah w w') (fun i=>l.length-i) (0) ⟨rfl,trivial⟩ ?_ ?_)))))))))
 ·exact ⟨Nat.zero_le _,fun j _ h=>absurd h (Nat.not_lt_zero _),(ah.rfl_.next E9)⟩
 rintro i ρ3 w3 ⟨hi,hlo,hB⟩;refine ak (ak (af (mvi rfl (mvs rfl (aa (bH bI rfl) (aa (bM rfl rfl) (mvb rfl (AL (t:=16) rfl (fun Q4=>?_) (fun Q4=>?_)))))))))
 ·obtain ⟨ba,oa,hAe,hcs⟩:=hr (by omega);refine ae rfl (mvs rfl (ae rfl (mvi rfl (ae rfl (aa (bT bj (by show Value.slice A l.length c=_;rw [hAe]) rfl (by omega)) ?_)))));refine ae rfl ?_;refine aa (ar ao rfl (by rw [Nat.mul_one];exact dP hB (hcs i (by omega)))) ?_;refine ae rfl (mvi rfl (ae rfl (aa (bM rfl rfl) (aa (aL (v:=.bool _) rfl rfl) (aj (ag (Bk rfl (fun Q5=>?_) (fun Q5=>?_))))))))
  ·refine aM (ag (aU (af (mvi rfl (aa (cl (b:=1) rfl rfl (by omega)) (asi rfl (aj (bo ?_))))))));refine cp (i+1) ⟨(by first | rfl | (refine br ?_;omega)),trivial⟩ (by (iterate 31 refine bA rfl ?_);exact bN) ⟨?_,?_⟩
   ·refine ⟨by omega,fun j h hj=>?_,hB⟩;rcases Nat.lt_or_ge j i with e | e
    ·exact hlo j h e
    ·obtain rfl:j=i:=by omega
     omega
   ·omega
  have hhi:∀ j (h:j<l.length),i≤j→x≤l[j]:=fun j h hj=>by
   have h8:i<l.length:=by omega
   have h9:x≤l[i]:=by omega
   rcases Nat.lt_or_ge i j with e | e
   ·have:=hs9 i j h8 h e;omega
   ·obtain rfl:j=i:=by omega
    exact h9
  have hw:=mw hni i hi hlo hhi;refine b_ (bf (bf (bL (ag (ak (af (mvs rfl (mvi rfl (aa (fT (v':=.slice A (l.take i).length c) (eh (l:=0) (h:=i) bj rfl (.inl ⟨rfl,rfl⟩) (.inr ⟨_,_,_,rfl,rfl,rfl⟩) (by omega) (by have:=hir.2.1;omega)) (by rw [ji,Nat.sub_zero,Nat.sub_zero,List.length_take,Nat.min_eq_left hi])) ?_)))))))));have hB29:ah w w3:=hB;have hz29:=hB29.size;refine ay ga (iT A c (l.take i) _ ((hir.take i).from_ hB) (by rw [List.length_take];omega)) ?_;rintro v29 w6 ⟨⟨A29,c29,rfl,ho29⟩,E29⟩;refine mvi rfl ?_;have hM31:ah _ w6:=ah.rfl_;refine jq (l:=[(0,.tmp 30)]) (cells:=#[iV x]) bB rfl rfl (by first | rfl | kernel_rfl) ?_;intro b31 w7 E31 hb31 hk31;have hM32:ah _ w7:=(hM31.next E31);have ho32a:=ho29.kept_from hM32;have hz32:=(E29.next hM32).size;refine fW (news:=[iV x]) bB rfl (by decide) rfl ho32a hz32 rfl rfl ⟨b31,0,rfl,hk31.whole⟩ (by simp [iV,Value.oneCell']) (by rw [List.length_take];omega) (by rw [List.length_take];omega) ?_;intro A32 c32 w8 ho32 hg32 hL32;have hF32:ah w w8:=(hB29.next (E29.next hM32)).grew hg32 (fun k hk=>Nat.le_trans hz29 (d_ ho32a k hk).1);have hz32b:=hg32.size;refine ass rfl (aj (ag (ak (af (mvs rfl (mvs rfl (mvi rfl (aa (eh (l:=i) (h:=l.length) bj rfl (.inr ⟨_,_,_,rfl,rfl,rfl⟩) (.inl ⟨rfl,rfl⟩) (by omega) (by have:=hir.2.1;omega)) ?_))))))));have hM37:ah _ w8:=ah.rfl_;have ho37a:=ho32.kept_from hM37;refine gJ (news:=(l.drop i).map iV) bB rfl (by decide) rfl ho37a (Nat.le_trans (Nat.le_trans hz32 hz32b) hM37.size) rfl (by rw [List.length_map,List.length_drop,Nat.mul_one]) (fun h0=>pL (hir.from_ (hF32.next hM37)) (by rw [List.length_map,List.length_drop];exact h0)) (fun h0=>?_) (fun u hu=>by obtain ⟨y,_,rfl⟩:=List.mem_map.1 hu;rfl) (by rw [List.length_take];omega) (by rw [List.length_take];omega) ?_
  ·have hA:A=none:=by
    cases A with
    |none=>rfl
    |some q=>unfold iq at h0;split at h0 <;> cases h0
   have:=(hir.2.2.2 hA).2;omega
  intro A37 c37 w9 ho37 hg37;have hF37:ah w w9:=(hF32.next hM37).grew hg37 (fun k hk=>Nat.le_trans hz29 (d_ ho37a k hk).1);refine ass rfl (aj (ag (aB (bn (v:=.slice _ _ _) rfl rfl ?_))));have e1:(l.take i).length+1+(l.length-i)=(c8 l x).length:=by rw [nN hw hi,List.length_take];omega
  have e2:(l.take i).map iV++[iV x]++(l.drop i).map iV=(c8 l x).map iV:=by rw [hw,List.map_append,List.map_cons,List.append_assoc];rfl
  rw [e1,e2] at ho37;exact ⟨⟨A37,c37,by rw [←e1],ei ho37 (Nat.zero_le _),fun q hq=>.inr (Nat.le_trans hz29 (d_ ho37 q hq).1)⟩,hF37⟩
 have hhi:∀ j (h:j<l.length),i≤j→x≤l[j]:=fun j h hj=>by omega
 have hw:=mw hni i hi hlo hhi;refine an rfl rfl (an rfl rfl (an rfl rfl (an rfl rfl (an rfl rfl (an rfl rfl (aa (aw (v:=.bool _) rfl rfl) (aj (ag (bd rfl ?_)))))))));refine b_ (bf (bf (bL (ag (ak (af (mvs rfl (mvi rfl (aa (fT (v':=.slice A (l.take i).length c) (eh (l:=0) (h:=i) bj rfl (.inl ⟨rfl,rfl⟩) (.inr ⟨_,_,_,rfl,rfl,rfl⟩) (by omega) (by have:=hir.2.1;omega)) (by rw [ji,Nat.sub_zero,Nat.sub_zero,List.length_take,Nat.min_eq_left hi])) ?_)))))))));have hB29:ah w w3:=hB;have hz29:=hB29.size;refine ay ga (iT A c (l.take i) _ ((hir.take i).from_ hB) (by rw [List.length_take];omega)) ?_;rintro v29 w10 ⟨⟨A29,c29,rfl,ho29⟩,E29⟩;refine mvi rfl ?_;have hM31:ah _ w10:=ah.rfl_;refine jq (l:=[(0,.tmp 30)]) (cells:=#[iV x]) bB rfl rfl (by first | rfl | kernel_rfl) ?_;intro b31 w11 E31 hb31 hk31;have hM32:ah _ w11:=(hM31.next E31);have ho32a:=ho29.kept_from hM32;have hz32:=(E29.next hM32).size;refine fW (news:=[iV x]) bB rfl (by decide) rfl ho32a hz32 rfl rfl ⟨b31,0,rfl,hk31.whole⟩ (by simp [iV,Value.oneCell']) (by rw [List.length_take];omega) (by rw [List.length_take];omega) ?_;intro A32 c32 w12 ho32 hg32 hL32;have hF32:ah w w12:=(hB29.next (E29.next hM32)).grew hg32 (fun k hk=>Nat.le_trans hz29 (d_ ho32a k hk).1);have hz32b:=hg32.size;refine ass rfl (aj (ag (ak (af (mvs rfl (mvs rfl (mvi rfl (aa (eh (l:=i) (h:=l.length) bj rfl (.inr ⟨_,_,_,rfl,rfl,rfl⟩) (.inl ⟨rfl,rfl⟩) (by omega) (by have:=hir.2.1;omega)) ?_))))))));have hM37:ah _ w12:=ah.rfl_;have ho37a:=ho32.kept_from hM37;refine gJ (news:=(l.drop i).map iV) bB rfl (by decide) rfl ho37a (Nat.le_trans (Nat.le_trans hz32 hz32b) hM37.size) rfl (by rw [List.length_map,List.length_drop,Nat.mul_one]) (fun h0=>pL (hir.from_ (hF32.next hM37)) (by rw [List.length_map,List.length_drop];exact h0)) (fun h0=>?_) (fun u hu=>by obtain ⟨y,_,rfl⟩:=List.mem_map.1 hu;rfl) (by rw [List.length_take];omega) (by rw [List.length_take];omega) ?_
 ·have hA:A=none:=by
   cases A with
   |none=>rfl
   |some q=>unfold iq at h0;split at h0 <;> cases h0
  have:=(hir.2.2.2 hA).2;omega
 intro A37 c37 w13 ho37 hg37;have hF37:ah w w13:=(hF32.next hM37).grew hg37 (fun k hk=>Nat.le_trans hz29 (d_ ho37a k hk).1);refine ass rfl (aj (ag (aB (bn (v:=.slice _ _ _) rfl rfl ?_))));have e1:(l.take i).length+1+(l.length-i)=(c8 l x).length:=by rw [nN hw hi,List.length_take];omega
 have e2:(l.take i).map iV++[iV x]++(l.drop i).map iV=(c8 l x).map iV:=by rw [hw,List.map_append,List.map_cons,List.append_assoc];rfl
 rw [e1,e2] at ho37;exact ⟨⟨A37,c37,by rw [←e1],ei ho37 (Nat.zero_le _),fun q hq=>.inr (Nat.le_trans hz29 (d_ ho37 q hq).1)⟩,hF37⟩
end Go.Proofs.YtkpooenofjdpmaaGreat
