/- texts that the claim stands on. -/
import Derived.Test.YtkpooenofjdpmaaGreatSlRfLawV54

set_option maxRecDepth 100000
set_option maxHeartbeats 4000000
namespace Go.Proofs.YtkpooenofjdpmaaGreat
open Go.Proofs.Tryz (prog)
open Go.RowKit
open Go.ChangeShapes Go.WideShapes Go.ChangeAt
theorem sQ:prog.underlying 26=some (.slice 3):=by kernel_rfl
theorem jF:kq prog 27=some (54,4,48,(.agg #[.int .i64 0,.int .i64 0,.int .i64 0,.slice none 0 0])):=by kernel_rfl
theorem sP:prog.underlying 27=some (.slice 54):=by kernel_rfl
theorem sS:js prog 91=some true:=by kernel_rfl
theorem kY:ea prog 91=some 22:=by kernel_rfl
theorem nF:kj prog 91=some (.agg #[.int .i64 0,.int .i64 0,.int .i64 0,.int .i64 0,.int .i64 0,.int .i64 0,.int .i64 0,.int .i64 0,.slice none 0 0,.string ⟨#[]⟩,.int .i64 0,.int .i64 0,.int .i64 0,.int .u64 0,.slice none 0 0,.slice none 0 0,.slice none 0 0,.slice none 0 0,.int .i64 0,.slice none 0 0,.string ⟨#[]⟩,.int .i64 0]):=by kernel_rfl
theorem gN:aQ prog 136=true:=by kernel_rfl
theorem rf:aQ prog 137=true:=by kernel_rfl
theorem pB:∀ (a0:Int) (a1:Int) (a2:Int) (a3:Int) (a4:Int) (a5:Int) (a6:Int) (a7:Int) (a8:Option Addr) (a9 a10:Nat) (a11:ByteArray) (a12:Int) (a13:Int) (a14:Int) (a15:Int) (a16:Option Addr) (a17 a18:Nat) (a19:Option Addr) (a20 a21:Nat) (a22:Option Addr) (a23 a24:Nat) (a25:Option Addr) (a26 a27:Nat) (a28:Int) (a29:Option Addr) (a30 a31:Nat) (a32:ByteArray) (a33:Int),prog.built 91 [(0,.agg #[.int .i64 a0,.int .i64 a1,.int .i64 a2,.int .i64 a3,.int .i64 a4,.int .i64 a5,.int .i64 a6,.int .i64 a7,.slice a8 a9 a10,.string a11,.int .i64 a12,.int .i64 a13,.int .i64 a14,.int .u64 a15,.slice a16 a17 a18,.slice a19 a20 a21,.slice a22 a23 a24,.slice a25 a26 a27,.int .i64 a28,.slice a29 a30 a31,.string a32,.int .i64 a33])]=some #[.int .i64 a0,.int .i64 a1,.int .i64 a2,.int .i64 a3,.int .i64 a4,.int .i64 a5,.int .i64 a6,.int .i64 a7,.slice a8 a9 a10,.string a11,.int .i64 a12,.int .i64 a13,.int .i64 a14,.int .u64 a15,.slice a16 a17 a18,.slice a19 a20 a21,.slice a22 a23 a24,.slice a25 a26 a27,.int .i64 a28,.slice a29 a30 a31,.string a32,.int .i64 a33]:=by intros;kernel_rfl
theorem nG:aQ prog 95=true:=by kernel_rfl
theorem sR:aQ prog 96=true:=by kernel_rfl
theorem pA:∀ (a0:Int) (a1:Int) (a2:Int) (a3:Int) (a4:Int) (a5:Int) (a6:Int) (a7:Int) (a8:Option Addr) (a9 a10:Nat) (a11:ByteArray) (a12:Int) (a13:Int) (a14:Int) (a15:Int) (a16:Option Addr) (a17 a18:Nat) (a19:Option Addr) (a20 a21:Nat) (a22:Option Addr) (a23 a24:Nat) (a25:Option Addr) (a26 a27:Nat) (a28:Int) (a29:Option Addr) (a30 a31:Nat) (a32:ByteArray) (a33:Int),prog.built 96 [(0,.agg #[.int .i64 a0,.int .i64 a1,.int .i64 a2,.int .i64 a3,.int .i64 a4,.int .i64 a5,.int .i64 a6,.int .i64 a7,.slice a8 a9 a10,.string a11,.int .i64 a12,.int .i64 a13,.int .i64 a14,.int .u64 a15,.slice a16 a17 a18,.slice a19 a20 a21,.slice a22 a23 a24,.slice a25 a26 a27,.int .i64 a28,.slice a29 a30 a31,.string a32,.int .i64 a33])]=some #[.int .i64 a0,.int .i64 a1,.int .i64 a2,.int .i64 a3,.int .i64 a4,.int .i64 a5,.int .i64 a6,.int .i64 a7,.slice a8 a9 a10,.string a11,.int .i64 a12,.int .i64 a13,.int .i64 a14,.int .u64 a15,.slice a16 a17 a18,.slice a19 a20 a21,.slice a22 a23 a24,.slice a25 a26 a27,.int .i64 a28,.slice a29 a30 a31,.string a32,.int .i64 a33,.slice none 0 0]:=by intros;kernel_rfl
theorem eA (A:Option Addr) (c n:Nat) (xs:List Value) (w:World) (hx:xs.length=n*1) (hr:0<n→∃ b o,A=some ⟨b,o,none⟩∧w.rangeAt b o xs) (hn0:A=none→n=0∧c=0) (h1:∀ u∈xs,u.oneCell'=true) (hl:n≤100000000000) :
 Rt prog 136 [.slice A n c] w (fun v w'=>(∃ A' c',v=.slice A' n c'∧w'.ownsRow w.heap.size 3 1 (.slice A' n c') n xs)∧ag w w'):=by
 refine enter (n:=8) Tryz.func136 rfl rfl rfl (ao (ah (ass rfl (an (ai (ao (ao (ah (mvs rfl (ab (oA sQ rfl rfl) (an (ai (aS rfl (fun Q1=>?_) (fun Q1=>?_))))))))))))))
 ·(try first | (replace Q1 := dK Q1; trace "@MK N eA:c4+ 1.1") | (replace Q1 := dL Q1; trace "@MK N eA:c4+ 1.2"))
  (try first | (replace Q1 := iE Q1; trace "@MK N eA:c4+ 2.1") | (replace Q1 := iF Q1; trace "@MK N eA:c4+ 2.2") | (replace Q1 := eb Q1; trace "@MK N eA:c4+ 2.3") | (replace Q1 := ec Q1; trace "@MK N eA:c4+ 2.4") | (replace Q1 := dT_ Q1; trace "@MK N eA:c4+ 2.5") | (replace Q1 := dF_ Q1; trace "@MK N eA:c4+ 2.6"))
  obtain rfl:A=none:=Option.isNone_iff_eq_none.1 Q1;obtain ⟨rfl,rfl⟩:=hn0 rfl;obtain rfl:xs=[]:=List.eq_nil_of_length_eq_zero (by omega);refine ao (ah (ass rfl (an (ai (aE (aG (bA (v:=.slice _ _ _) rfl rfl (⟨⟨none,0,rfl,World.ownsRow_nil _ _ _ _⟩,ag.rfl_⟩))))))))
 (try first | (replace Q1 := dK Q1; trace "@MK N eA:c4- 1.1") | (replace Q1 := dL Q1; trace "@MK N eA:c4- 1.2"))
 (try first | (replace Q1 := iE Q1; trace "@MK N eA:c4- 2.1") | (replace Q1 := iF Q1; trace "@MK N eA:c4- 2.2") | (replace Q1 := eb Q1; trace "@MK N eA:c4- 2.3") | (replace Q1 := ec Q1; trace "@MK N eA:c4- 2.4") | (replace Q1 := dT_ Q1; trace "@MK N eA:c4- 2.5") | (replace Q1 := dF_ Q1; trace "@MK N eA:c4- 2.6"))
 have hA4:A=none→c=0:=fun h=>by rw [h] at Q1;cases Q1
 refine aO (ai (ao (ah (uz bP _ (ag.rfl_.size) ?_))));intro b5 w2 E5 hb5 ho5;refine mvs rfl ?_;refine k7 (a0:=w) bP rfl (by decide) rfl ho5 (ag.rfl_.next E5) rfl hx (fun h=>(let ⟨b,o,hA,hc⟩:=hr h;⟨b,o,hA,fB (ag.rfl_.next E5) hc⟩)) hA4 h1 (by omega) (by omega) ?_;intro A7 c7 w3 ho7 B7 hg7;refine ass rfl (an (ai (aE (bA (v:=.slice _ _ _) rfl rfl (⟨⟨A7,c7,by rw [Nat.zero_add],by simpa using ho7⟩,B7⟩)))))
theorem ey (A:Option Addr) (c n:Nat) (xs:List Value) (w:World) (hx:xs.length=n*4) (hr:0<n→∃ b o,A=some ⟨b,o,none⟩∧w.rangeAt b o xs) (hn0:A=none→n=0∧c=0) (h1:∀ u∈xs,u.oneCell'=true) (hl:n≤100000000000) :
 Rt prog 137 [.slice A n c] w (fun v w'=>(∃ A' c',v=.slice A' n c'∧w'.ownsRow w.heap.size 54 4 (.slice A' n c') n xs)∧ag w w'):=by
 refine enter (n:=8) Tryz.func137 rfl rfl rfl (ao (ah (ass rfl (an (ai (ao (ao (ah (mvs rfl (ab (oA sP rfl rfl) (an (ai (aS rfl (fun Q1=>?_) (fun Q1=>?_))))))))))))))
 ·(try first | (replace Q1 := dK Q1; trace "@MK N ey:c4+ 1.1") | (replace Q1 := dL Q1; trace "@MK N ey:c4+ 1.2"))
  (try first | (replace Q1 := iE Q1; trace "@MK N ey:c4+ 2.1") | (replace Q1 := iF Q1; trace "@MK N ey:c4+ 2.2") | (replace Q1 := eb Q1; trace "@MK N ey:c4+ 2.3") | (replace Q1 := ec Q1; trace "@MK N ey:c4+ 2.4") | (replace Q1 := dT_ Q1; trace "@MK N ey:c4+ 2.5") | (replace Q1 := dF_ Q1; trace "@MK N ey:c4+ 2.6"))
  obtain rfl:A=none:=Option.isNone_iff_eq_none.1 Q1;obtain ⟨rfl,rfl⟩:=hn0 rfl;obtain rfl:xs=[]:=List.eq_nil_of_length_eq_zero (by omega);refine ao (ah (ass rfl (an (ai (aE (aG (bA (v:=.slice _ _ _) rfl rfl (⟨⟨none,0,rfl,World.ownsRow_nil _ _ _ _⟩,ag.rfl_⟩))))))))
 (try first | (replace Q1 := dK Q1; trace "@MK N ey:c4- 1.1") | (replace Q1 := dL Q1; trace "@MK N ey:c4- 1.2"))
 (try first | (replace Q1 := iE Q1; trace "@MK N ey:c4- 2.1") | (replace Q1 := iF Q1; trace "@MK N ey:c4- 2.2") | (replace Q1 := eb Q1; trace "@MK N ey:c4- 2.3") | (replace Q1 := ec Q1; trace "@MK N ey:c4- 2.4") | (replace Q1 := dT_ Q1; trace "@MK N ey:c4- 2.5") | (replace Q1 := dF_ Q1; trace "@MK N ey:c4- 2.6"))
 have hA4:A=none→c=0:=fun h=>by rw [h] at Q1;cases Q1
 refine aO (ai (ao (ah (uz jF _ (ag.rfl_.size) ?_))));intro b5 w2 E5 hb5 ho5;refine mvs rfl ?_;refine k7 (a0:=w) jF rfl (by decide) rfl ho5 (ag.rfl_.next E5) rfl hx (fun h=>(let ⟨b,o,hA,hc⟩:=hr h;⟨b,o,hA,fB (ag.rfl_.next E5) hc⟩)) hA4 h1 (by omega) (by omega) ?_;intro A7 c7 w3 ho7 B7 hg7;refine ass rfl (an (ai (aE (bA (v:=.slice _ _ _) rfl rfl (⟨⟨A7,c7,by rw [Nat.zero_add],by simpa using ho7⟩,B7⟩)))))
theorem jT (A:Option Addr) (c:Nat) (l:List Int) (w:World) (h:IR w A c l) (hl:l.length≤1000000):Rt prog 136 [.slice A l.length c] w fun v w'=>(∃ A' c',v=.slice A' l.length c'∧w'.ownsRow w.heap.size 3 1 (.slice A' l.length c') l.length (l.map iV))∧ag w w':=
 eA A c l.length (l.map iV) w (by simp) (fun h0=>by
  obtain ⟨b,o,hA,hc⟩:=h.1 h0;refine ⟨b,o,hA,fun j v hv=>?_⟩;rw [List.getElem?_map] at hv;cases hj:l[j]? with
  |none=>rw [hj] at hv;cases hv
  |some x=>
   obtain ⟨hjl,rfl⟩:=List.getElem?_eq_some_iff.1 hj;rw [hj] at hv;cases hv;exact hc j hjl) h.2.2.2 (fun u hu=>by obtain ⟨x,_,rfl⟩:=List.mem_map.1 hu;rfl) (by omega)
theorem vG (A:Option Addr) (c:Nat) (L:List (Rd×Option Addr×Nat)) (w:World) (h:iu 4 rdV w A L) (hn:A=none→L.length=0∧c=0) (hl:L.length≤1000000):Rt prog 137 [.slice A L.length c] w fun v w'=>(∃ A' c',v=.slice A' L.length c'∧w'.ownsRow w.heap.size 54 4 (.slice A' L.length c') L.length (L.flatMap rdV))∧ag w w':=
 ey A c L.length (L.flatMap rdV) w (mi jz L) (fun h0=>iu.flat jz h h0) hn (yC L) (by omega)
def mO (N O:List (Rd×Option Addr×Nat)):List (Rd×Option Addr×Nat):=N++O.drop N.length
def zS (s:Rf):Rf:={ s with es:=[],votes:=[],next:=[],mtch:=[],sent:=[],reads:=[] }
theorem ja {w w':World} {tag:Nat→Nat} {g d base e s n cc:Nat} {A:Option Addr} {xs:List Value} (hC:Chg (fun k=>k=g) w w') (hg:tag g=8) (hd:d≠8) (h:w.ownsRow base e s (.slice A n cc) n xs∧Col tag d A):w'.ownsRow base e s (.slice A n cc) n xs∧Col tag d A:=
 ⟨eE h.1 hC (fun k hk e=>hd ((h.2 k hk).symm.trans (by rw [show k=g from e];exact hg))),h.2⟩
theorem cO.chg8 {w w':World} {y g:Nat} {tag:Nat→Nat} {s:Rf} {a:Ra} (h:cO y w tag s a) (hC:Chg (fun k=>k=g) w w') (hg:tag g=8):cO y w' tag s a:=
 ⟨fun hx=>ja hC hg (by decide) (h.e hx),fun hx=>ja hC hg (by decide) (h.v hx),fun hx=>ja hC hg (by decide) (h.x hx),fun hx=>ja hC hg (by decide) (h.m hx),fun hx=>ja hC hg (by decide) (h.n hx),h.r,fun hx=>ja hC hg (by decide) (h.q hx),fun i hi hx=>ja hC hg (by omega) (h.k i hi hx)⟩
theorem p9:∀ (N O:List (Rd×Option Addr×Nat)) (x:Rd×Option Addr×Nat) (A:Option Addr) (c:Nat),((N++x::O).flatMap rdV).set (N.length*4+3) (.slice A x.1.acks.length c)=((N++(x.1,A,c)::O).flatMap rdV)
 |[],O,x,A,c=>rfl
 |y::N,O,x,A,c=>by
  have ih:=p9 N O x A c;show (rdV y++(N++x::O).flatMap rdV).set ((N.length+1)*4+3) _=rdV y++(N++(x.1,A,c)::O).flatMap rdV;rw [List.set_append_right _ _ (by rw [jz];omega),jz,show (N.length+1)*4+3-4=N.length*4+3 by omega,ih]
theorem yN {N O:List (Rd×Option Addr×Nat)} (h:N.length<O.length):mO N O=N++O[N.length]::O.drop (N.length+1):=by
 unfold mO;rw [List.drop_eq_getElem_cons h]
theorem xg {N O:List (Rd×Option Addr×Nat)} (h:N.length<O.length) (A:Option Addr) (c:Nat):((mO N O).flatMap rdV).set (N.length*4+3) (.slice A O[N.length].1.acks.length c)=(mO (N++[(O[N.length].1,A,c)]) O).flatMap rdV:=by
 rw [yN h,p9];unfold mO;rw [List.length_append,List.length_singleton,List.append_assoc];rfl
theorem xh {N O:List (Rd×Option Addr×Nat)} (h:N.length=O.length):mO N O=N:=by unfold mO;rw [h,List.drop_length,List.append_nil]
theorem oO {N O:List (Rd×Option Addr×Nat)} (h:N.length≤O.length):(mO N O).length=O.length:=by unfold mO;rw [List.length_append,List.length_drop];omega
theorem vF (s:Rf) (a:Ra) (w:World) (hrd:eX w s a) (hl:s.votes.length≤1000000∧s.next.length≤1000000∧s.mtch.length≤1000000∧s.sent.length≤1000000∧s.reads.length≤1000000∧∀ q∈s.reads,q.acks.length≤1000000) (hel:s.es.length≤1000000) :
 Rt prog 96 [.agg (rfV s a).toArray] w (fun v w'=>(∃ tag a',v=.agg (rfV s a').toArray∧bo w' tag s a'∧∀ k,k<w.heap.size→tag k=8)∧ag w w'):=by
 obtain ⟨E,Ec,V,Vc,X,Xc,M,Mc,Sn,Sc,Q,Qc,LL⟩:=a;obtain ⟨hl1,hl2,hl3,hl4,hl5,hl6⟩:=hl;have hrL:LL.map (fun q=>q.1)=s.reads:=hrd.r;have hrk:∀ q∈LL,IR w q.2.1 q.2.2 q.1.acks:=hrd.k;have hrq:iu 4 rdV w Q LL:=hrd.q;have hqn:Q=none→LL.length=0∧Qc=0:=hrd.qc.2.2;have hLl:LL.length=s.reads.length:=by rw [←hrL,List.length_map]
 have hqm:LL.length≤1000000:=by omega
 refine enter (n:=51) Tryz.func96 rfl rfl rfl (ao (ah (bZ (v:=.agg _) rfl ?_)));intro b1 w1 E1 hb1 hk1;refine bS nF ?_;intro b2 w2 E2 hb2 hk2;have hg1:w.heap.size≤b1:=Nat.le_of_eq hb1.symm;have h12:b1<b2:=by have:=hk1.lt;omega
 have hg2:w.heap.size≤b2:=by omega
 have hk2z:Blk w2 b2 91 ((.agg #[.int .i64 0,.int .i64 0,.int .i64 0,.int .i64 0,.int .i64 0,.int .i64 0,.int .i64 0,.int .i64 0,.slice none 0 0,.string ⟨#[]⟩,.int .i64 0,.int .i64 0,.int .i64 0,.int .u64 0,.slice none 0 0,.slice none 0 0,.slice none 0 0,.slice none 0 0,.int .i64 0,.slice none 0 0,.string ⟨#[]⟩,.int .i64 0]):Value).cells:=hk2;have ht0:∀ k,k≤b2→(fun _:Nat=>8) k=8:=fun _ _=>rfl
 refine an (ai (ao (ah (ab (aa bn rfl) (ab (aa di rfl) (ab (ar bR rfl (by exact (show _=some (Value.slice E s.es.length Ec) from (hk1.from_ (ag.rfl_.next E2)).rd 8 rfl))) ?_))))));have hN7:ag _ w2:=(ag.rfl_.next E2);have hk2c:=hk2z.from_ (ag.rfl_ (a:=w2));have hlt7:=hk2c.lt;have hf0:bo w2 (fun _=>8) ({ s with es:=[],votes:=[],next:=[],mtch:=[],sent:=[],reads:=[] }:Rf) a0:=bo.same bo.zero rfl rfl rfl rfl rfl rfl;refine aC ko (si E s.es.length Ec s.es _ (hrd.e.from_ ((ag.rfl_.next E1).next E2)) (by omega)) ?_;rintro v7 w3 ⟨A7,c7,rfl,ho7,E7⟩;obtain ⟨tag1,hf1,ht1⟩:∃ t,bo w3 t ({ s with es:=s.es,votes:=[],next:=[],mtch:=[],sent:=[],reads:=[] }:Rf) (⟨A7,c7,none,0,none,0,none,0,none,0,none,0,[]⟩:Ra)∧(∀ k,k≤b2→t k=8):=⟨_,cO.log (bo.but (c:=0) hf0 (ag.toChg E7)) s.b s.t rfl (dW ho7 (Nat.zero_le _)) (fun k hk=>dN (eO ho7 k hk).1),fun k hk=>(cU (by omega)).trans (ht0 k hk)⟩;refine ab (aa bn rfl) (ab (aa di rfl) ?_);have hS1:ag _ w3:=ag.rfl_;refine cN (s':=s) (a':=(⟨A7,c7,V,Vc,X,Xc,M,Mc,Sn,Sc,Q,Qc,LL⟩:Ra)) (v:=.slice _ _ _) pd rfl rfl rfl ((hk1.from_ ((hN7.next E7).next ag.rfl_))) (by exact ⟨by decide,rfl⟩) ?_;intro w4 O1_0 P1_0;replace hf1:=(hf1.from_ hS1).chg8 (O1_0.toChg rfl) (ht1 b1 (by omega));replace hk2z:=(hk2c.from_ (E7.next hS1)).only O1_0 (by omega);refine an (ai (ao (ah (ab (aa dc rfl) (ab (ar bt rfl (by exact (show _=some (Value.slice V s.votes.length Vc) from (P1_0.from_ ag.rfl_).rd 14 rfl))) ?_)))));have hN12:ag _ w4:=ag.rfl_;have hk2c:=hk2z.from_ ag.rfl_;have hlt12:=hk2c.lt;have hf1n:=hf1.from_ ag.rfl_;refine aC gN (jT V Vc s.votes _ (IR.from_ hrd.v ((((ag.rfl_.next E1).next E2).next E7).only O1_0 (hg1))) hl1) ?_;rintro v12 w5 ⟨⟨A12,c12,rfl,ho12⟩,E12⟩;obtain ⟨tag2,hf2,ht2⟩:∃ t,bo w5 t ({ s with es:=s.es,votes:=s.votes,next:=[],mtch:=[],sent:=[],reads:=[] }:Rf) (⟨A7,c7,A12,c12,none,0,none,0,none,0,none,0,[]⟩:Ra)∧(∀ k,k≤b2→t k=8):=⟨_,cO.votes (bo.but (c:=1) hf1n (ag.toChg E12)) rfl (dW ho12 (Nat.zero_le _)) (fun k hk=>dN (eO ho12 k hk).1),fun k hk=>(cU (by omega)).trans (ht1 k hk)⟩;refine ab (aa dc rfl) ?_;have hS2:ag _ w5:=ag.rfl_;refine cN (s':=s) (a':=(⟨A7,c7,A12,c12,X,Xc,M,Mc,Sn,Sc,Q,Qc,LL⟩:Ra)) (v:=.slice _ _ _) c_ rfl rfl rfl ((P1_0.from_ ((hN12.next E12).next ag.rfl_))) (by exact ⟨by decide,rfl⟩) ?_;intro w6 O2_0 P2_0;replace hf2:=(hf2.from_ hS2).chg8 (O2_0.toChg rfl) (ht2 b1 (by omega));replace hk2z:=(hk2c.from_ (E12.next hS2)).only O2_0 (by omega);refine an (ai (ao (ah (ab (aa cQ rfl) (ab (ar bt rfl (by exact (show _=some (Value.slice X s.next.length Xc) from (P2_0.from_ ag.rfl_).rd 15 rfl))) ?_)))));have hN16:ag _ w6:=ag.rfl_;have hk2c:=hk2z.from_ ag.rfl_;have hlt16:=hk2c.lt;have hf2n:=hf2.from_ ag.rfl_;refine aC gN (jT X Xc s.next _ (IR.from_ hrd.x ((((((ag.rfl_.next E1).next E2).next E7).only O1_0 (hg1)).next E12).only O2_0 (hg1))) hl2) ?_;rintro v16 w7 ⟨⟨A16,c16,rfl,ho16⟩,E16⟩;obtain ⟨tag3,hf3,ht3⟩:∃ t,bo w7 t ({ s with es:=s.es,votes:=s.votes,next:=s.next,mtch:=[],sent:=[],reads:=[] }:Rf) (⟨A7,c7,A12,c12,A16,c16,none,0,none,0,none,0,[]⟩:Ra)∧(∀ k,k≤b2→t k=8):=⟨_,cO.next (bo.but (c:=2) hf2n (ag.toChg E16)) rfl (dW ho16 (Nat.zero_le _)) (fun k hk=>dN (eO ho16 k hk).1),fun k hk=>(cU (by omega)).trans (ht2 k hk)⟩;refine ab (aa cQ rfl) ?_;have hS3:ag _ w7:=ag.rfl_;refine cN (s':=s) (a':=(⟨A7,c7,A12,c12,A16,c16,M,Mc,Sn,Sc,Q,Qc,LL⟩:Ra)) (v:=.slice _ _ _) c_ rfl rfl rfl ((P2_0.from_ ((hN16.next E16).next ag.rfl_))) (by exact ⟨by decide,rfl⟩) ?_;intro w8 O3_0 P3_0;replace hf3:=(hf3.from_ hS3).chg8 (O3_0.toChg rfl) (ht3 b1 (by omega));replace hk2z:=(hk2c.from_ (E16.next hS3)).only O3_0 (by omega);refine an (ai (ao (ah (ab (aa cY rfl) (ab (ar bt rfl (by exact (show _=some (Value.slice M s.mtch.length Mc) from (P3_0.from_ ag.rfl_).rd 16 rfl))) ?_)))));have hN20:ag _ w8:=ag.rfl_;have hk2c:=hk2z.from_ ag.rfl_;have hlt20:=hk2c.lt;have hf3n:=hf3.from_ ag.rfl_;refine aC gN (jT M Mc s.mtch _ (IR.from_ hrd.m ((((((((ag.rfl_.next E1).next E2).next E7).only O1_0 (hg1)).next E12).only O2_0 (hg1)).next E16).only O3_0 (hg1))) hl3) ?_;rintro v20 w9 ⟨⟨A20,c20,rfl,ho20⟩,E20⟩;obtain ⟨tag4,hf4,ht4⟩:∃ t,bo w9 t ({ s with es:=s.es,votes:=s.votes,next:=s.next,mtch:=s.mtch,sent:=[],reads:=[] }:Rf) (⟨A7,c7,A12,c12,A16,c16,A20,c20,none,0,none,0,[]⟩:Ra)∧(∀ k,k≤b2→t k=8):=⟨_,cO.mtch (bo.but (c:=3) hf3n (ag.toChg E20)) rfl (dW ho20 (Nat.zero_le _)) (fun k hk=>dN (eO ho20 k hk).1),fun k hk=>(cU (by omega)).trans (ht3 k hk)⟩;refine ab (aa cY rfl) ?_;have hS4:ag _ w9:=ag.rfl_;refine cN (s':=s) (a':=(⟨A7,c7,A12,c12,A16,c16,A20,c20,Sn,Sc,Q,Qc,LL⟩:Ra)) (v:=.slice _ _ _) c_ rfl rfl rfl ((P3_0.from_ ((hN20.next E20).next ag.rfl_))) (by exact ⟨by decide,rfl⟩) ?_;intro w10 O4_0 P4_0;replace hf4:=(hf4.from_ hS4).chg8 (O4_0.toChg rfl) (ht4 b1 (by omega));replace hk2z:=(hk2c.from_ (E20.next hS4)).only O4_0 (by omega);refine an (ai (ao (ah (ab (aa dd rfl) (ab (ar bt rfl (by exact (show _=some (Value.slice Sn s.sent.length Sc) from (P4_0.from_ ag.rfl_).rd 17 rfl))) ?_)))));have hN24:ag _ w10:=ag.rfl_;have hk2c:=hk2z.from_ ag.rfl_;have hlt24:=hk2c.lt;have hf4n:=hf4.from_ ag.rfl_;refine aC gN (jT Sn Sc s.sent _ (IR.from_ hrd.n ((((((((((ag.rfl_.next E1).next E2).next E7).only O1_0 (hg1)).next E12).only O2_0 (hg1)).next E16).only O3_0 (hg1)).next E20).only O4_0 (hg1))) hl4) ?_;rintro v24 w11 ⟨⟨A24,c24,rfl,ho24⟩,E24⟩;obtain ⟨tag5,hf5,ht5⟩:∃ t,bo w11 t ({ s with es:=s.es,votes:=s.votes,next:=s.next,mtch:=s.mtch,sent:=s.sent,reads:=[] }:Rf) (⟨A7,c7,A12,c12,A16,c16,A20,c20,A24,c24,none,0,[]⟩:Ra)∧(∀ k,k≤b2→t k=8):=⟨_,cO.sent (bo.but (c:=4) hf4n (ag.toChg E24)) rfl (dW ho24 (Nat.zero_le _)) (fun k hk=>dN (eO ho24 k hk).1),fun k hk=>(cU (by omega)).trans (ht4 k hk)⟩;refine ab (aa dd rfl) ?_;have hS5:ag _ w11:=ag.rfl_;refine cN (s':=s) (a':=(⟨A7,c7,A12,c12,A16,c16,A20,c20,A24,c24,Q,Qc,LL⟩:Ra)) (v:=.slice _ _ _) c_ rfl rfl rfl ((P4_0.from_ ((hN24.next E24).next ag.rfl_))) (by exact ⟨by decide,rfl⟩) ?_;intro w12 O5_0 P5_0;replace hf5:=(hf5.from_ hS5).chg8 (O5_0.toChg rfl) (ht5 b1 (by omega));replace hk2z:=(hk2c.from_ (E24.next hS5)).only O5_0 (by omega);refine an (ai (ao (ah (ab (aa cf rfl) (ab (ar ed rfl (by exact (show _=some (Value.slice Q LL.length Qc) from (P5_0.from_ ag.rfl_).rd 19 rfl))) ?_)))));have hN28:ag _ w12:=ag.rfl_;have hk2c:=hk2z.from_ ag.rfl_;have hlt28:=hk2c.lt;have hf5n:=hf5.from_ ag.rfl_;refine aC rf (vG Q Qc LL _ (hrq.from_ ((((((((((((ag.rfl_.next E1).next E2).next E7).only O1_0 (hg1)).next E12).only O2_0 (hg1)).next E16).only O3_0 (hg1)).next E20).only O4_0 (hg1)).next E24).only O5_0 (hg1))) hqn hqm) ?_;rintro v28 w13 ⟨⟨A28,c28,rfl,ho28⟩,E28⟩;obtain ⟨tag6,hg6,ht6,hc6⟩:∃ t,cO 5 w13 t ({ s with es:=s.es,votes:=s.votes,next:=s.next,mtch:=s.mtch,sent:=s.sent,reads:=[] }:Rf) (⟨A7,c7,A12,c12,A16,c16,A20,c20,A24,c24,none,0,[]⟩:Ra)∧(∀ k,k≤b2→t k=8)∧Col t 5 A28:=⟨_,bo.but (c:=5) hf5n (ag.toChg E28),fun k hk=>(cU (by omega)).trans (ht5 k hk),fun k hk=>dN (eO ho28 k hk).1⟩;refine ab (aa cf rfl) ?_;have hS6:ag _ w13:=ag.rfl_;refine cN (s':=s) (a':=(⟨A7,c7,A12,c12,A16,c16,A20,c20,A24,c24,A28,c28,LL⟩:Ra)) (v:=.slice _ _ _) ji rfl rfl rfl ((P5_0.from_ ((hN28.next E28).next ag.rfl_))) (by exact ⟨by decide,rfl⟩) ?_;intro w14 O6_0 P6_0;replace hg6:=(hg6.from_ hS6).chg8 (O6_0.toChg rfl) (ht6 b1 (by omega));have hr6:=gk (dW (base':=0) (ho28.kept_from hS6) (Nat.zero_le _)) O6_0 (fun k hk e=>by have:=hc6 k hk;rw [e,ht6 b1 (by omega)] at this;cases this);replace hk2z:=(hk2c.from_ (E28.next hS6)).only O6_0 (by omega);refine an (ai (ao (ao (ah (ab (aa cf rfl) (ab (ar ed rfl (by exact (show _=some (Value.slice A28 LL.length c28) from (P6_0.from_ ag.rfl_).rd 19 rfl))) ?_))))));refine ab (bU fq rfl) (mvi rfl (an (ai (bk (dr (G:=List (Rd×Option Addr×Nat)×(Nat→Nat)) [3,34,35,36,37,38,39,40,41,42,43,44,45,46,47,48] (fun (N,tg)=>[(33,.int .i64 (N.length:Nat))]) (fun (N,tg) w'=>N.length≤LL.length∧(∀ i (h:i<N.length) (h2:i<LL.length),N[i].1=LL[i].1)∧cO 5 w' tg ({ s with es:=s.es,votes:=s.votes,next:=s.next,mtch:=s.mtch,sent:=s.sent,reads:=[] }:Rf) (⟨A7,c7,A12,c12,A16,c16,A20,c20,A24,c24,none,0,N⟩:Ra)∧(∀ k,k≤b2→tg k=8)∧Col tg 5 A28∧w'.ownsRow 0 54 4 (.slice A28 LL.length c28) LL.length ((mO N LL).flatMap rdV)∧Blk w' b1 29 (rfV s (⟨A7,c7,A12,c12,A16,c16,A20,c20,A24,c24,A28,c28,LL⟩:Ra)).toArray∧Blk w' b2 91 ((.agg #[.int .i64 0,.int .i64 0,.int .i64 0,.int .i64 0,.int .i64 0,.int .i64 0,.int .i64 0,.int .i64 0,.slice none 0 0,.string ⟨#[]⟩,.int .i64 0,.int .i64 0,.int .i64 0,.int .u64 0,.slice none 0 0,.slice none 0 0,.slice none 0 0,.slice none 0 0,.int .i64 0,.slice none 0 0,.string ⟨#[]⟩,.int .i64 0]):Value).cells∧ag w w') (fun (N,_)=>LL.length-N.length) (([],tag6)) ⟨rfl,trivial⟩ ?_ ?_)))))
 ·exact ⟨Nat.zero_le _,fun i h=>absurd h (Nat.not_lt_zero _),hg6.from_ ag.rfl_,ht6,hc6,hr6.kept_from ag.rfl_,P6_0.from_ ag.rfl_,hk2z.from_ ag.rfl_,((((((((((((((ag.rfl_.next E1).next E2).next E7).only O1_0 (hg1)).next E12).only O2_0 (hg1)).next E16).only O3_0 (hg1)).next E20).only O4_0 (hg1)).next E24).only O5_0 (hg1)).next E28).only O6_0 (hg1))⟩
 rintro ⟨N,tg⟩ ρ15 w15 ⟨hNl,hNe,hgN,htN,hcN,hrN,hbN,hk2N,hBN⟩;refine ao (ah (ab (ch rfl rfl) (an (ai (ao (AT rfl (fun Q16=>?_) (fun Q16=>?_)))))))
 ·have hNL:N.length<LL.length:=by omega
  have hqk:LL[N.length].1∈s.reads:=by rw [←hrL];exact List.mem_map_of_mem (List.getElem_mem hNL)
  obtain ⟨g28,rfl⟩:=fR hrN (by omega);obtain ⟨z9,hz9⟩:∃ z,z=(w15).heap.size:=⟨_,rfl⟩
  have hc44:(w15).cell? ⟨g28,0+N.length*4+3,none⟩=some (.slice LL[N.length].2.1 LL[N.length].1.acks.length LL[N.length].2.2):=by
   obtain ⟨b9,o9,he9,hcs⟩:=(iu.own jz (by decide) hrN).2 (by rw [oO hNl];omega);cases he9;have h9:=hcs N.length (by rw [oO hNl];omega)
   have hm9:(mO N LL)[N.length]'(by rw [oO hNl];omega)=LL[N.length]:=by
    unfold mO;rw [List.getElem_append_right (Nat.le_refl _)];simp
   rw [hm9] at h9;exact h9 3 _ rfl
  have htg28:tg g28=5:=hcN g28 rfl
  have hg28:b2<g28:=by
   rcases Nat.lt_or_ge b2 g28 with e | e
   ·exact e
   ·have:=htN g28 e;omega
  refine aO (ai (ao (bk (ao (ah (mvi rfl (asi rfl (an (ai ?_)))))))));apply bK 12 [(36,eqp _),(37,eqp (.slice (some ⟨g28,0,none⟩) LL.length c28)),(38,eqp _),(39,eqp _),(40,eqp (.slice (some ⟨g28,0,none⟩) LL.length c28)),(41,eqp _),(42,eqp _),(43,eqp _),(44,eqp (.slice LL[N.length].2.1 LL[N.length].1.acks.length LL[N.length].2.2)),(45,fun v w'=>∃ A' c',v=.slice A' LL[N.length].1.acks.length c'∧w'.ownsRow z9 3 1 (.slice A' LL[N.length].1.acks.length c') LL[N.length].1.acks.length (LL[N.length].1.acks.map iV)),(46,eqp _),(47,eqp _)] (by repeat first | exact ct | refine cr ?_ | refine bX ?_) (by kernel_rfl) (by kernel_rfl) ⟨aj _,aj _,aj _,aj _,aj _,aj _,aj _,aj _,aj _,(fun _ _ _ hF ⟨a,b,h1,h2⟩=>⟨a,b,h1,h2.kept_from hF⟩),aj _,aj _,trivial⟩
  case hop=>
   constructor
   ·rintro-w18 D18;exact au (aa cf rfl) rfl
   constructor
   ·rintro-w19 D19;rintro _ rfl;exact au (ar ed rfl (by exact (show _=some (Value.slice (some ⟨g28,0,none⟩) LL.length c28) from (hbN.from_ (ag.rfl_.next D19)).rd 19 rfl))) rfl
   constructor
   ·rintro-w20 D20;exact au (aF (v:=.int _ _) rfl) rfl
   constructor
   ·rintro-w21 D21;exact au (aa cf rfl) rfl
   constructor
   ·rintro-w22 D22;rintro _ rfl;exact au (ar ed rfl (by exact (show _=some (Value.slice (some ⟨g28,0,none⟩) LL.length c28) from (hbN.from_ (ag.rfl_.next D22)).rd 19 rfl))) rfl
   constructor
   ·rintro-w23 D23;exact au (aF (v:=.int _ _) rfl) rfl
   constructor
   ·rintro-w24 D24;rintro v24_40 rfl _ rfl;exact au (b_ gx rfl rfl (by omega)) rfl
   constructor
   ·rintro-w25 D25;rintro _ rfl;exact au (aa fx rfl) rfl
   constructor
   ·rintro-w26 D26;rintro _ rfl;exact au (ar bt rfl (by exact fy (ag.rfl_.next D26) hc44)) rfl
   constructor
   ·rintro-w27 D27;rintro v27_44 rfl;refine fL gN ((jT LL[N.length].2.1 LL[N.length].2.2 LL[N.length].1.acks _ ((hrk _ (List.getElem_mem hNL)).from_ (hBN.next D27)) (hl6 _ hqk)).mono ?_);rintro v w9 ⟨⟨a,b,rfl,ho⟩,hF9⟩;exact ⟨hF9,a,b,rfl,dW ho (by rw [hz9];exact ((ag.rfl_.next D27)).size)⟩
   constructor
   ·rintro-w28 D28;rintro v28_37 rfl _ rfl;exact au (b_ gx rfl rfl (by omega)) rfl
   constructor
   ·rintro-w29 D29;rintro _ rfl;exact au (aa fx rfl) rfl
   exact trivial
  case hend=>
   intro w30 D30;rintro _ rfl v37 rfl _ rfl _ rfl v40 rfl _ rfl _ rfl _ rfl v44 rfl v45 ⟨A45,c45,rfl,ho45⟩ _ rfl _ rfl;show St ..;have hM10:ag _ w30:=(ag.rfl_.next D30);refine s9 (o:=N.length*4+3) c_ (by show Value.pointer (some ⟨g28,0+N.length*4+3,none⟩)=_;rw [Nat.zero_add]) rfl rfl (hrN.kept_from (ag.rfl_.next D30)) (by omega) ?_;intro w31 O10 P10;have hlt9:=hrN.lt g28 rfl;obtain ⟨tg2,hg2n,ht2n,hc2n⟩:∃ t,cO 5 w31 t ({ s with es:=s.es,votes:=s.votes,next:=s.next,mtch:=s.mtch,sent:=s.sent,reads:=[] }:Rf) (⟨A7,c7,A12,c12,A16,c16,A20,c20,A24,c24,none,0,(N++[(LL[N.length].1,A45,c45)])⟩:Ra)∧(∀ k,k≤b2→t k=8)∧Col t 5 (some ⟨g28,0,none⟩):=⟨_,cO.five (cO.ack (q:=LL[N.length].1) (A:=A45) (c:=c45) hgN hM10 (by rw [←hz9];exact ho45)) O10 ((cU hlt9.2).trans htg28),fun k hk=>(cU (by omega)).trans (htN k hk),fun k hk=>by cases hk;exact (cU hlt9.2).trans htg28⟩
   have hr2n:(w31).ownsRow 0 54 4 (.slice (some ⟨g28,0,none⟩) LL.length c28) LL.length ((mO (N++[(LL[N.length].1,A45,c45)]) LL).flatMap rdV):=by
    rw [←xg hNL];exact P10
   have hb2n:=(hbN.from_ hM10).only O10 (by omega);have hk2n:=(hk2N.from_ hM10).only O10 (by omega);refine an (bN (ai (ah (ab (cn rfl rfl (by omega)) (mvi rfl (an ?_))))));refine bL (((N++[(LL[N.length].1,A45,c45)]),tg2)) ⟨bT (by rw [List.length_append,List.length_singleton];omega),trivial⟩ (by (iterate 34 refine bd rfl ?_);exact br) ⟨?_,?_⟩
   ·refine ⟨by rw [List.length_append,List.length_singleton];omega,fun i h h2=>?_,hg2n.from_ ag.rfl_,ht2n,hc2n,hr2n.kept_from ag.rfl_,hb2n.from_ ag.rfl_,hk2n.from_ ag.rfl_,((hBN.next D30).only O10 (by omega))⟩;rcases Nat.lt_or_ge i N.length with e | e
    ·rw [List.getElem_append_left e];exact hNe i e h2
    ·obtain rfl:i=N.length:=by rw [List.length_append,List.length_singleton] at h;omega
     simp only [List.getElem_append_right (Nat.le_refl _),Nat.sub_self,List.getElem_singleton]
   ·show LL.length-(N++[_]).length<LL.length-N.length;rw [List.length_append,List.length_singleton];omega
 refine cL (bB (bB (cw (ai (ao (ah (ab (aH (cs:=rfV s (⟨A7,c7,A12,c12,A16,c16,A20,c20,A24,c24,A28,c28,LL⟩:Ra)) aP aJ rfl ((hbN.from_ ag.rfl_).whole)) (ab (cl (l:=[(0,.tmp 49)]) (pB _ _ _ _ _ _ _ _ _ _ _ _ _ _ _ _ _ _ _ _ _ _ _ _ _ _ _ _ _ _ _ _ _ _)) ?_))))))));have hM12:ag _ w15:=ag.rfl_;refine cg (vs:=[_,_,_,_,_,_,_,_,_,_,_,_,_,_,_,_,_,_,_,_,_,_]) kY rfl rfl (by simp [Value.oneCell']) ((hk2N.from_ ag.rfl_)) rfl ?_;intro w32 O12 P12;refine an (ai (aE (ly rfl (dI (cs:=[_,_,_,_,_,_,_,_,_,_,_,_,_,_,_,_,_,_,_,_,_,_]) sS kY rfl (by exact P12.whole)) ?_)));have hNf:N.length=LL.length:=by omega
 have e9:N.map (fun q=>q.1)=s.reads:=by
  rw [←hrL];refine List.ext_getElem (by simp [hNf]) fun i h1 h2=>?_
  simp only [List.getElem_map];exact hNe i (by simpa using h1) (by simpa using h2)
 have hfin:=cO.reads hgN (A:=A28) (c:=c28) (n:=LL.length) hNf.symm (by rw [xh hNf] at hrN;exact hrN) hcN;rw [show ((⟨A7,c7,A12,c12,A16,c16,A20,c20,A24,c24,none,0,N⟩:Ra)).L=N from rfl,e9] at hfin;exact ⟨⟨tg,(⟨A7,c7,A12,c12,A16,c16,A20,c20,A24,c24,A28,c28,N⟩:Ra),(by show Value.agg (rfV s (⟨A7,c7,A12,c12,A16,c16,A20,c20,A24,c24,A28,c28,LL⟩:Ra)).toArray=Value.agg (rfV s (⟨A7,c7,A12,c12,A16,c16,A20,c20,A24,c24,A28,c28,N⟩:Ra)).toArray;unfold rfV;simp only [hNf]),cO.chg8 (cO.from_ hfin hM12) (O12.toChg rfl) (htN b2 (Nat.le_refl _)),fun k hk=>htN k (by omega)⟩,(hBN.only O12 (hg2))⟩
theorem rA {w w1 w':World} {g T:Nat} {tag:Nat→Nat} {s:Rf} {a:Ra} (hF:ag w w1) (hf:bo w1 tag s a) (ht:∀ k,k<w.heap.size→tag k=8) (hE:ag w1 w') (hg:g=w1.heap.size) (hb:Blk w' g T (rfV s a++[Value.slice none 0 0]).toArray):aR w (fun k=>k<w.heap.size) w' T g ⟨s,[]⟩:=by
 subst hg;have hz:=hF.size;refine ⟨⟨fP w1.heap.size 7 tag,a,none,0,[],⟨hb,(hf.re 7).from_ hE,⟨World.ownsRow_nil _ _ _ _,rfl,fun j hj=>absurd hj (Nat.not_lt_zero _),Col.none⟩,dN (Nat.le_refl _),fun k hk=>(cU (Nat.lt_of_lt_of_le hk hz)).trans (ht k hk)⟩⟩,fun k hk=>hk,(hF.next hE).toChg⟩
theorem xZ (s:Rf) (a:Ra) (w:World) (hrd:eX w s a) (hl:s.votes.length≤1000000∧s.next.length≤1000000∧s.mtch.length≤1000000∧s.sent.length≤1000000∧s.reads.length≤1000000∧∀ q∈s.reads,q.acks.length≤1000000) (_:s.es.length≤1000000) (hm:im s=false) :
 Rt prog 55 [.agg (rfV s a).toArray] w (fun v w'=>v=.tuple #[.pointer none,.int .i64 1]∧ag w w'):=by
 refine enter (n:=11) Tryz.func55 rfl rfl rfl (ao (ah (bZ (v:=.agg _) rfl ?_)));intro b1 w1 E1 hb1 hk1;refine asp rfl (asi rfl (an (ai (ao (ao (ah (ab (aH (cs:=rfV s a) aP aJ rfl ((hk1.from_ ag.rfl_).whole)) (aC nG (sj s a _ (hrd.from_ (ag.rfl_.next E1)) hl) ?_))))))));rintro v5 w2 ⟨rfl,E5⟩;refine ab (c6 (dm rfl rfl) (by rw [hm];rfl)) ?_;refine an (ai (aZ rfl (ao (ah (asp rfl (asi rfl (an (ai (aE (aG (ps (v:=.pointer _) (v':=.int _ _) rfl rfl rfl (⟨rfl,((ag.rfl_.next E1).next E5)⟩))))))))))))
theorem o4 (s:Rf) (a:Ra) (w:World) (hrd:eX w s a) (hl:s.votes.length≤1000000∧s.next.length≤1000000∧s.mtch.length≤1000000∧s.sent.length≤1000000∧s.reads.length≤1000000∧∀ q∈s.reads,q.acks.length≤1000000) (hel:s.es.length≤1000000) (hm:im s=true) :
 Rt prog 55 [.agg (rfV s a).toArray] w (fun v w'=>(∃ g,v=.tuple #[.pointer (some ⟨g,0,none⟩),.int .i64 0]∧aR w (fun k=>k<w.heap.size) w' 96 g ⟨s,[]⟩)):=by
 refine enter (n:=11) Tryz.func55 rfl rfl rfl (ao (ah (bZ (v:=.agg _) rfl ?_)));intro b1 w1 E1 hb1 hk1;refine asp rfl (asi rfl (an (ai (ao (ao (ah (ab (aH (cs:=rfV s a) aP aJ rfl ((hk1.from_ ag.rfl_).whole)) (aC nG (sj s a _ (hrd.from_ (ag.rfl_.next E1)) hl) ?_))))))));rintro v5 w2 ⟨rfl,E5⟩;refine ab (cu (dm rfl rfl) (by rw [hm];rfl)) ?_;refine an (ai (bg rfl (aO (ai (ao (ah (ab (aH (cs:=rfV s a) aP aJ rfl ((hk1.from_ (ag.rfl_.next E5)).whole)) ?_)))))));have hz8:=(((ag.rfl_.next E1).next E5)).size;refine aC sR (vF s a _ (hrd.from_ ((ag.rfl_.next E1).next E5)) hl hel) ?_;rintro v8 w3 ⟨⟨tag,a',rfl,hf8,ht8⟩,E8⟩;have hB8:ag w w3:=(((ag.rfl_.next E1).next E5).next E8);refine ab (cl (l:=[(0,.tmp 8)]) (pA _ _ _ _ _ _ _ _ _ _ _ _ _ _ _ _ _ _ _ _ _ _ _ _ _ _ _ _ _ _ _ _ _ _)) (bZ (v:=.agg _) rfl ?_);intro b10 w4 E10 hb10 hk10;have hb10e:=hb10;have hb10:Blk w4 b10 96 (rfV s a'++[Value.slice none 0 0]).toArray:=hk10;refine asp rfl (asi rfl (an (ai (aE (ps (v:=.pointer _) (v':=.int _ _) rfl rfl rfl (⟨b10,rfl,rA hB8 hf8 (fun k hk=>ht8 k (Nat.lt_of_lt_of_le hk hz8)) E10 hb10e hb10⟩))))))
theorem jq:aQ prog 28=true:=by kernel_rfl
theorem uk:aQ prog 60=true:=by kernel_rfl
theorem dg:kj prog 29=some (.agg #[.int .i64 0,.int .i64 0,.int .i64 0,.int .i64 0,.int .i64 0,.int .i64 0,.int .i64 0,.int .i64 0,.slice none 0 0,.string ⟨#[]⟩,.int .i64 0,.int .i64 0,.int .i64 0,.int .u64 0,.slice none 0 0,.slice none 0 0,.slice none 0 0,.slice none 0 0,.int .i64 0,.slice none 0 0,.string ⟨#[]⟩,.int .i64 0]):=by kernel_rfl
theorem uo:aQ prog 27=true:=by kernel_rfl
theorem um:aQ prog 29=true:=by kernel_rfl
theorem y9 (A:Option Addr) (c:Nat) (l:List Int) (w:World) (hr:et iV w A l) (hl:l.length*8≤140737488351232) :
 Rt prog 28 [.slice A l.length c] w (fun v w'=>∃ A' c',v=.slice A' l.length c'∧w'.ownsRow w.heap.size 3 1 v l.length (l.map iV)∧ag w w'):=by
 refine enter (n:=19) Tryz.func28 rfl rfl rfl (ao (ah (ass rfl (an (ai (ao (ah (ass rfl (an (ai (ao (ao (ah (asi rfl (an (ai (bk (dr (G:=Nat×Option Addr×Nat) [5,6,7,8,9,10,11,12,13,14,15,16,17] (fun g=>[(3,.slice g.2.1 g.1 g.2.2),(4,.int .i64 (g.1:Nat))]) (fun g w'=>g.1≤l.length∧w'.ownsRow w.heap.size 3 1 (.slice g.2.1 g.1 g.2.2) g.1 ((l.take g.1).map iV)∧ag w w') (fun g=>l.length-g.1) ((0,none,0)) ⟨rfl,rfl,trivial⟩ ?_ ?_))))))))))))))))))
 ·exact ⟨Nat.zero_le _,World.ownsRow_nil _ _ _ _,ag.rfl_⟩
 rintro ⟨k,A3,c3⟩ ρ1 w1 ⟨hk,ho,hB⟩;simp only at hk ho;refine ao (ao (ah (mvi rfl (mvs rfl (ab (bU cy rfl) (ab (ch rfl rfl) (an (ai (AT rfl (fun Q2=>?_) (fun Q2=>?_))))))))))
 ·obtain ⟨ba,oa,rfl,ca⟩:=hr (by omega);refine aO (ai (ao (bk (ah (mvs rfl (mvs rfl (mvi rfl (ab (db cX rfl rfl (by omega)) (ab (ar ak rfl (by first | (exact fy hB (ca k (by omega))))) ?_)))))))));refine fj (v:=.int _ _) bP rfl rfl rfl ?_;intro b16 w3 E16 hb16 hk16;refine rC (a0:=w) bP rfl rfl (ho.kept_from E16) (hB.next E16) rfl hk16 rfl (by omega) (by omega) ?_;intro A17 c17 w4 ho17 B17 hg17;refine ass rfl (an (bN (ai (ah (mvi rfl (ab (cn rfl rfl (by omega)) (asi rfl (an ?_))))))));refine bL ((k+1,A17,c17)) ⟨(by first | rfl | (refine bT ?_;omega)),(by first | rfl | (refine bT ?_;omega)),trivial⟩ (by (iterate 30 refine bd rfl ?_);exact br) ⟨?_,?_⟩
  ·exact ⟨by simp only;omega,by rw [px iV (by omega)];exact ho17,B17⟩
  ·simp only;omega
 refine cL (bB (bB (cw (ai (ao (ah (mvs rfl (ass rfl (an (ai (aE (bA (v:=.slice _ _ _) rfl rfl ?_))))))))))));obtain rfl:k=l.length:=by omega
 exact ⟨A3,c3,rfl,by rwa [List.take_length] at ho,hB⟩
theorem kL (A:Option Addr) (c:Nat) (l:List Int) (w:World) (h:IR w A c l) (hl:l.length≤1000000):Rt prog 28 [.slice A l.length c] w fun v w'=>(∃ A' c',v=.slice A' l.length c'∧w'.ownsRow w.heap.size 3 1 (.slice A' l.length c') l.length (l.map iV))∧ag w w':=
 (y9 A c l w h.1 (by omega)).mono fun v w' ⟨A',c',hv,ho,hF⟩=>⟨⟨A',c',hv,hv ▸ ho⟩,hF⟩
theorem cO.grow5 {w w':World} {tag:Nat→Nat} {s:Rf} {a:Ra} (h:cO 5 w tag s a) (hC:Chg (fun k=>tag k=5) w w'):cO 5 w' (fP w.heap.size 5 tag) s a:=
 ⟨fun _=>en hC (by decide) (h.e (by decide)),fun _=>en hC (by decide) (h.v (by decide)),fun _=>en hC (by decide) (h.x (by decide)),fun _=>en hC (by decide) (h.m (by decide)),fun _=>en hC (by decide) (h.n (by decide)),fun e=>absurd rfl e,fun e=>absurd rfl e,fun i hi _=>en hC (by omega) (h.k i hi (by omega))⟩
theorem sd (q:Rd) (A:Option Addr) (c:Nat) (w:World) (h:IR w A c q.acks) (hl:q.acks.length≤1000000) :
 Rt prog 60 [.agg (rdV (q,A,c)).toArray] w (fun v w'=>(∃ A' c',v=.agg (rdV (q,A',c')).toArray∧w'.ownsRow w.heap.size 3 1 (.slice A' q.acks.length c') q.acks.length (q.acks.map iV))∧ag w w'):=by
 refine enter (n:=10) Tryz.func60 rfl rfl rfl (ao (ah (bZ (v:=.agg _) rfl ?_)));intro b1 w1 E1 hb1 hk1;refine bS jE ?_;intro b2 w2 E2 hb2 hk2;have hg2:w.heap.size≤b2:=by rw [hb2];exact ((ag.rfl_.next E1)).size
 have h12:b1≠b2:=by have:=hk1.lt;omega
 replace hk1:=hk1.from_ E2;refine an (ai (ao (ah (ab (aH (cs:=rdV (q,A,c)) iC fE rfl ((hk1.from_ ag.rfl_).whole)) ?_))));have hM3a:ag _ w2:=ag.rfl_;have hk1p:=hk1.from_ hM3a;have hk2p:=hk2.from_ hM3a;refine bS jE ?_;intro b3 w3 E3 hb3 hk3;have hg3:w.heap.size≤b3:=by rw [hb3];exact (((ag.rfl_.next E1).next E2)).size
 have hM3:=hM3a.next E3;replace hk1:=hk1.from_ hM3;replace hk2:=hk2.from_ hM3;have h13:b1≠b3:=fun e=>by have h9:=hk1p.lt;omega
 have h23:b2≠b3:=fun e=>by have h9:=hk2p.lt;omega
 refine cg (vs:=[_,_,_,_]) fE rfl rfl (by simp [Value.oneCell']) (hk3) rfl ?_;intro w4 O1 P1;replace hk1:=hk1.only O1 h13;replace hk2:=hk2.only O1 h23;refine an (ai (ao (ah (ab (aa fx rfl) (ab (ar bt rfl (by exact (show _=some (Value.slice A q.acks.length c) from (hk1.from_ ag.rfl_).rd 3 rfl))) ?_)))));have hz7:=(((((ag.rfl_.next E1).next E2).next E3).only O1 (hg3))).size;refine aC jq (kL A c q.acks _ (h.from_ ((((ag.rfl_.next E1).next E2).next E3).only O1 (hg3))) hl) ?_;rintro v7 w5 ⟨⟨A7,c7,rfl,ho7⟩,E7⟩;refine ab (aa fx rfl) ?_;have hM8:ag _ w5:=(ag.rfl_.next E7);refine ej (v:=.slice _ _ _) c_ rfl rfl rfl ((P1.from_ (ag.rfl_.next E7))) (by show _<4;decide) ?_;intro w6 O2 P2;replace hk2:=(hk2.from_ hM8).only O2 h23;replace ho7:=gk ho7 O2 (j7 ho7 (P1.from_ hM8) (by decide));refine an (ai (ao (ah (ab (aH (cs:=rdV (q,A7,c7)) iC fE rfl ((P2.from_ ag.rfl_).whole)) ?_))));have hM9:ag _ w6:=ag.rfl_;refine cg (vs:=[_,_,_,_]) fE rfl rfl (by simp [Value.oneCell']) ((hk2.from_ ag.rfl_)) rfl ?_;intro w7 O3 P3;replace ho7:=gk (ho7.kept_from hM9) O3 (j7 (ho7.kept_from hM9) (hk2.from_ hM9) (by decide));refine an (ai (aE (ly rfl (dI (cs:=[_,_,_,_]) iC fE rfl (by exact P3.whole)) ?_)));exact ⟨⟨A7,c7,rfl,dW ho7 hz7⟩,(((((((ag.rfl_.next E1).next E2).next E3).only O1 (hg3)).next E7).only O2 (hg3)).only O3 (hg2))⟩
theorem Bf {A A':Option Addr} {n:Nat} (hL:A'.map (·.block)=A.map (·.block)∨A'.map (·.block)=some n):∀ k,A'.map (·.block)=some k→A.map (·.block)=some k∨n≤k:=fun k hk=>by
 rcases hL with e | e
 ·exact .inl (e ▸ hk)
 ·rw [e] at hk;cases hk;exact .inr (Nat.le_refl _)
theorem qI (x:Rd×Option Addr×Nat) (w:World) (h:IR w x.2.1 x.2.2 x.1.acks) (hl:x.1.acks.length≤1000000):Rt prog 60 [.agg (rdV x).toArray] w fun v w'=>(∃ A' c',v=.agg (rdV (x.1,A',c')).toArray∧w'.ownsRow w.heap.size 3 1 (.slice A' x.1.acks.length c') x.1.acks.length (x.1.acks.map iV))∧ag w w':=
 sd x.1 x.2.1 x.2.2 w h hl
theorem qH (s:Rf) (a:Ra) (tag:Nat→Nat) (Q:Option Addr) (Qc:Nat) (LL:List (Rd×Option Addr×Nat)) (w:World) (hg:cO 5 w tag s a) (ha:a.L=[]) (hq:iu 4 rdV w Q LL) (hk:∀ x∈LL,IR w x.2.1 x.2.2 x.1.acks) (hle:∀ x∈LL,x.1.acks.length≤1000000) (hn:LL.length≤1000000) :
 Rt prog 29 [.slice Q LL.length Qc] w (fun v w'=>(∃ tag' Q' c' N,v=.slice Q' LL.length c'∧N.map (fun q=>q.1)=LL.map (fun q=>q.1)∧cO 5 w' tag' s { a with L:=N }∧(∀ k,k<w.heap.size→tag' k=tag k)∧Col tag' 5 Q'∧w'.ownsRow 0 54 4 (.slice Q' LL.length c') LL.length (N.flatMap rdV))∧ag w w'):=by
 refine enter (n:=20) Tryz.func29 rfl rfl rfl (ao (ah (ass rfl (an (ai (ao (ah (ass rfl (an (ai (ao (ao (ah (asi rfl (an (ai (bk (dr (G:=List (Rd×Option Addr×Nat)×(Nat→Nat)×Option Addr×Nat) [5,6,7,8,9,10,11,12,13,14,15,16,17,18] (fun (N,tg,A3,c3)=>[(3,.slice A3 N.length c3),(4,.int .i64 (N.length:Nat))]) (fun (N,tg,A3,c3) w'=>N.length≤LL.length∧(∀ i (h:i<N.length) (h2:i<LL.length),N[i].1=LL[i].1)∧cO 5 w' tg s { a with L:=N }∧(∀ k,k<w.heap.size→tg k=tag k)∧Col tg 5 A3∧w'.ownsRow w.heap.size 54 4 (.slice A3 N.length c3) N.length (N.flatMap rdV)∧ag w w') (fun (N,_)=>LL.length-N.length) (([],tag,none,0)) ⟨rfl,rfl,trivial⟩ ?_ ?_))))))))))))))))))
 ·exact ⟨Nat.zero_le _,fun i h=>absurd h (Nat.not_lt_zero _),(by rw [←ha];exact hg.from_ ag.rfl_),fun _ _=>rfl,Col.none,World.ownsRow_nil _ _ _ _,ag.rfl_⟩
 rintro ⟨N,tg,A3,c3⟩ ρ1 w1 ⟨hNl,hNe,hgN,htN,hcN,hrN,hBN⟩;refine ao (ao (ah (mvi rfl (mvs rfl (ab (bU fq rfl) (ab (ch rfl rfl) (an (ai (AT rfl (fun Q2=>?_) (fun Q2=>?_))))))))))
 ·have hNL:N.length<LL.length:=by omega
  obtain ⟨ba,oa,rfl,hca⟩:=hq (by omega);have hkN:=hk _ (List.getElem_mem hNL);have hlN:=hle _ (List.getElem_mem hNL);refine aO (ai (ao (bk (ah (mvs rfl (mvs rfl (mvi rfl (ab (iK gx rfl rfl (by omega)) (ab (aH (cs:=rdV LL[N.length]) iC fE rfl (fB hBN (hca N.length hNL))) ?_)))))))));have hgN9:=hgN.from_ ag.rfl_;have hz16:=(hBN).size;have hrN9:=hrN.kept_from ag.rfl_;refine aC uk (qI LL[N.length] _ (hkN.from_ hBN) hlN) ?_;rintro v16 w3 ⟨⟨A16,c16,rfl,ho16⟩,E16⟩;obtain ⟨t16,hg16,ht16,hc16⟩:∃ t,cO 5 w3 t s { a with L:=(N++[(LL[N.length].1,A16,c16)]) }∧(∀ k,k<w.heap.size→t k=tag k)∧Col t 5 A3:=⟨_,hgN9.ack E16 (q:=LL[N.length].1) ho16,fun k hk=>(cU (Nat.lt_of_lt_of_le hk hz16)).trans (htN k hk),hcN.re (fun k hk=>(eO hrN9 k hk).2)⟩;refine lG (l:=[(0,.tmp 16)]) (cells:=(rdV (LL[N.length].1,A16,c16)).toArray) jF rfl rfl (by show Instr.fill _ _ [(0,Value.agg (rdV (LL[N.length].1,A16,c16)).toArray)]=_;kernel_rfl) ?_;intro b17 w4 E17 hb17 hk17;have hM18:ag _ w4:=((ag.rfl_.next E16).next E17);have hB18:ag w w4:=((hBN.next E16).next E17);have hM18:ag _ w4:=((ag.rfl_.next E16).next E17);have hB18:ag w w4:=((hBN.next E16).next E17);have hr18:=hrN.kept_from hM18;refine s_ (news:=rdV (LL[N.length].1,A16,c16)) jF rfl (by decide) rfl hr18 hB18.size rfl rfl ⟨b17,0,rfl,hk17.whole⟩ (by simp [rdV,Value.oneCell']) (by omega) (by omega) ?_;intro A18 c18 w5 ho18 hgr18 hL18;obtain ⟨t18,hg18,ht18,hc18⟩:∃ t,cO 5 w5 t s { a with L:=(N++[(LL[N.length].1,A16,c16)]) }∧(∀ k,k<w.heap.size→t k=tag k)∧Col t 5 A18:=⟨_,(hg16.from_ (ag.rfl_.next E17)).grow5 (Chg.of_grown hgr18 (fun q hq=>hc16 q hq)),fun k hk=>(cU (Nat.lt_of_lt_of_le hk hB18.size)).trans (ht16 k hk),hc16.new (fun k hk=>(eO hr18 k hk).2) (Bf hL18)⟩;have hF18:ag w w5:=hB18.grew hgr18 (fun k hk=>(eO hr18 k hk).1);refine ass rfl (an (bN (ai (ah (mvi rfl (ab (cn rfl rfl (by omega)) (asi rfl (an ?_))))))));refine bL (((N++[(LL[N.length].1,A16,c16)]),t18,A18,c18)) ⟨(show Value.slice A18 (N.length+1) c18=Value.slice A18 (N++[(LL[N.length].1,A16,c16)]).length c18 by rw [List.length_append];rfl),bT (by rw [List.length_append,List.length_singleton];omega),trivial⟩ (by (iterate 32 refine bd rfl ?_);exact br) ⟨?_,?_⟩
  ·have e18:(N++[(LL[N.length].1,A16,c16)]).length=N.length+1:=by rw [List.length_append];rfl
   refine ⟨by omega,fun i h h2=>?_,hg18.from_ ag.rfl_,ht18,hc18,?_,hF18⟩
   ·rcases Nat.lt_or_ge i N.length with e | e
    ·rw [List.getElem_append_left e];exact hNe i e h2
    ·obtain rfl:i=N.length:=by omega
     simp only [List.getElem_append_right (Nat.le_refl _),Nat.sub_self,List.getElem_singleton]
   ·have h9:=ho18.kept_from ag.rfl_;show World.ownsRow _ _ _ _ (.slice A18 (N++[(LL[N.length].1,A16,c16)]).length c18) (N++[(LL[N.length].1,A16,c16)]).length ((N++[(LL[N.length].1,A16,c16)]).flatMap rdV);rw [e18,List.flatMap_append,show [(LL[N.length].1,A16,c16)].flatMap rdV=rdV (LL[N.length].1,A16,c16) from List.append_nil _];exact h9
  ·show LL.length-(N++[_]).length<LL.length-N.length;rw [List.length_append,List.length_singleton];omega
 refine cL (bB (bB (cw (ai (ao (ah (mvs rfl (ass rfl (an (ai (aE (bA (v:=.slice _ _ _) rfl rfl ?_))))))))))));have hNf:N.length=LL.length:=by omega
 rw [hNf] at hrN;refine ⟨⟨tg,A3,c3,N,by rw [hNf],?_,hgN.from_ ag.rfl_,htN,hcN,dW (hrN.kept_from ag.rfl_) (Nat.zero_le _)⟩,hBN⟩;refine List.ext_getElem (by simp [hNf]) fun i h1 h2=>?_
 simp only [List.getElem_map];exact hNe i (by simpa using h1) (by simpa using h2)
theorem jB (s:Rf) (a:Ra) (w:World) (hrd:eX w s a) (hl:s.votes.length≤1000000∧s.next.length≤1000000∧s.mtch.length≤1000000∧s.sent.length≤1000000∧s.reads.length≤1000000∧∀ q∈s.reads,q.acks.length≤1000000) (hel:s.es.length≤1000000) :
 Rt prog 16 [.agg (rfV s a).toArray] w (fun v w'=>(∃ tag a',v=.agg (rfV s a').toArray∧bo w' tag s a'∧∀ k,k<w.heap.size→tag k=8)∧ag w w'):=by
 obtain ⟨E,Ec,V,Vc,X,Xc,M,Mc,Sn,Sc,Q,Qc,LL⟩:=a;obtain ⟨hl1,hl2,hl3,hl4,hl5,hl6⟩:=hl;have hrL:LL.map (fun q=>q.1)=s.reads:=hrd.r;have hrk:∀ q∈LL,IR w q.2.1 q.2.2 q.1.acks:=hrd.k;have hrq:iu 4 rdV w Q LL:=hrd.q;have hLl:LL.length=s.reads.length:=by rw [←hrL,List.length_map]
 have hqm:LL.length≤1000000:=by omega
 refine enter (n:=30) Tryz.func16 rfl rfl rfl (ao (ah (bZ (v:=.agg _) rfl ?_)));intro b1 w1 E1 hb1 hk1;refine bS dg ?_;intro b2 w2 E2 hb2 hk2;have hg2:w.heap.size≤b2:=by rw [hb2];exact ((ag.rfl_.next E1)).size
 have hlt1:=hk1.lt;replace hk1:=hk1.from_ E2;refine an (ai (ao (ah (ab (aH (cs:=rfV s (⟨E,Ec,V,Vc,X,Xc,M,Mc,Sn,Sc,Q,Qc,LL⟩:Ra)) aP aJ rfl (hk1.whole)) (bS dg ?_)))));intro b3 w3 E3 hb3 hk3;have hg3:w.heap.size≤b3:=by rw [hb3];exact (((ag.rfl_.next E1).next E2)).size
 have hlt2:=hk2.lt;have hlt1b:=hk1.lt;replace hk1:=hk1.from_ E3;replace hk2:=hk2.from_ E3;have h13:b1≠b3:=by omega
 have h23:b2≠b3:=by omega
 have ht0:∀ k,k≤b3→(fun _:Nat=>8) k=8:=fun _ _=>rfl
 refine cg (vs:=[_,_,_,_,_,_,_,_,_,_,_,_,_,_,_,_,_,_,_,_,_,_]) aJ rfl rfl (by simp [Value.oneCell']) (hk3) rfl ?_;intro w4 O1 P1;replace hk1:=hk1.only O1 h13;replace hk2:=hk2.only O1 h23;have hx1:Blk w4 b3 29 (rfV s (⟨E,Ec,V,Vc,X,Xc,M,Mc,Sn,Sc,Q,Qc,LL⟩:Ra)++[]).toArray:=P1;refine an (ai (ao (ah (ab (aa bn rfl) (ab (aH (cs:=[.int .i64 s.b,.int .i64 s.t,.slice E s.es.length Ec]) bQ bh rfl (gW (show Blk _ b1 29 (rfV s (⟨E,Ec,V,Vc,X,Xc,M,Mc,Sn,Sc,Q,Qc,LL⟩:Ra)++[]).toArray from hk1.from_ ag.rfl_))) ?_)))));have hN7:ag _ w4:=ag.rfl_;have hx1n:=hx1.from_ hN7;have hlt7:=hx1n.lt;replace hk1:=hk1.from_ ag.rfl_;replace hk2:=hk2.from_ ag.rfl_;have hf0n:bo w4 (fun _=>8) ({ s with es:=[],votes:=[],next:=[],mtch:=[],sent:=[],reads:=[] }:Rf) a0:=bo.same bo.zero rfl rfl rfl rfl rfl rfl;refine aC uo (tK s.b s.t E s.es.length Ec s.es _ (hrd.e.from_ ((((ag.rfl_.next E1).next E2).next E3).only O1 (hg3))) (by omega)) ?_;rintro v7 w5 ⟨A7,c7,rfl,ho7,_,E7⟩;obtain ⟨tag1,hf1,ht1⟩:∃ t,bo w5 t ({ s with es:=s.es,votes:=[],next:=[],mtch:=[],sent:=[],reads:=[] }:Rf) (⟨A7,c7,none,0,none,0,none,0,none,0,none,0,[]⟩:Ra)∧(∀ k,k≤b3→t k=8):=⟨_,cO.log (bo.but (c:=0) hf0n (ag.toChg E7)) s.b s.t rfl (dW ho7 (Nat.zero_le _)) (fun k hk=>dN (eO ho7 k hk).1),fun k hk=>(cU (by omega)).trans (ht0 k hk)⟩;replace hx1n:=hx1n.from_ E7;replace hk1:=hk1.from_ E7;replace hk2:=hk2.from_ E7;refine ab (aa bn rfl) ?_;have hS1:ag _ w5:=ag.rfl_;have hB1:ag w w5:=(((((ag.rfl_.next E1).next E2).next E3).only O1 (hg3)).next E7);refine mD (s:=s) (a:=(⟨E,Ec,V,Vc,X,Xc,M,Mc,Sn,Sc,Q,Qc,LL⟩:Ra)) (R:=[]) (b:=s.b) (t9:=s.t) (es:=s.es) rfl bh rfl rfl (hx1n.from_ hS1) ?_;intro w6 O1_0 P1_0;have hx2:Blk w6 b3 29 (rfV s (⟨A7,c7,V,Vc,X,Xc,M,Mc,Sn,Sc,Q,Qc,LL⟩:Ra)++[]).toArray:=P1_0;replace hf1:=(hf1.from_ hS1).chg8 (O1_0.toChg rfl) (ht1 b3 (Nat.le_refl _));replace hk1:=(hk1.from_ hS1).only O1_0 h13;replace hk2:=(hk2.from_ hS1).only O1_0 h23;refine an (ai (ao (ah (ab (aa dc rfl) (ab (ar bt rfl (by exact (show _=some (Value.slice V s.votes.length Vc) from (hk1.from_ ag.rfl_).rd 14 rfl))) ?_)))));have hN11:ag _ w6:=ag.rfl_;have hx2n:=hx2.from_ hN11;have hlt11:=hx2n.lt;replace hk1:=hk1.from_ ag.rfl_;replace hk2:=hk2.from_ ag.rfl_;have hf1n:=hf1.from_ hN11;refine aC jq (kL V Vc s.votes _ (IR.from_ hrd.v (hB1.only O1_0 hg3)) hl1) ?_;rintro v11 w7 ⟨⟨A11,c11,rfl,ho11⟩,E11⟩;obtain ⟨tag2,hf2,ht2⟩:∃ t,bo w7 t ({ s with es:=s.es,votes:=s.votes,next:=[],mtch:=[],sent:=[],reads:=[] }:Rf) (⟨A7,c7,A11,c11,none,0,none,0,none,0,none,0,[]⟩:Ra)∧(∀ k,k≤b3→t k=8):=⟨_,cO.votes (bo.but (c:=1) hf1n (ag.toChg E11)) rfl (dW ho11 (Nat.zero_le _)) (fun k hk=>dN (eO ho11 k hk).1),fun k hk=>(cU (by omega)).trans (ht1 k hk)⟩;replace hx2n:=hx2n.from_ E11;replace hk1:=hk1.from_ E11;replace hk2:=hk2.from_ E11;refine ab (aa dc rfl) ?_;have hS2:ag _ w7:=ag.rfl_;refine cN (s':=s) (a':=(⟨A7,c7,A11,c11,X,Xc,M,Mc,Sn,Sc,Q,Qc,LL⟩:Ra)) (v:=.slice _ _ _) c_ rfl rfl rfl ((hx2n.from_ hS2)) (by exact ⟨by decide,rfl⟩) ?_;intro w8 O2_0 P2_0;have hx3:Blk w8 b3 29 (rfV s (⟨A7,c7,A11,c11,X,Xc,M,Mc,Sn,Sc,Q,Qc,LL⟩:Ra)++[]).toArray:=P2_0;replace hf2:=(hf2.from_ hS2).chg8 (O2_0.toChg rfl) (ht2 b3 (Nat.le_refl _));replace hk1:=(hk1.from_ hS2).only O2_0 h13;replace hk2:=(hk2.from_ hS2).only O2_0 h23;refine an (ai (ao (ah (ab (aa cQ rfl) (ab (ar bt rfl (by exact (show _=some (Value.slice X s.next.length Xc) from (hk1.from_ ag.rfl_).rd 15 rfl))) ?_)))));have hN15:ag _ w8:=ag.rfl_;have hx3n:=hx3.from_ hN15;have hlt15:=hx3n.lt;replace hk1:=hk1.from_ ag.rfl_;replace hk2:=hk2.from_ ag.rfl_;have hf2n:=hf2.from_ hN15;refine aC jq (kL X Xc s.next _ (IR.from_ hrd.x (((hB1.only O1_0 hg3).next E11).only O2_0 (hg3))) hl2) ?_;rintro v15 w9 ⟨⟨A15,c15,rfl,ho15⟩,E15⟩;obtain ⟨tag3,hf3,ht3⟩:∃ t,bo w9 t ({ s with es:=s.es,votes:=s.votes,next:=s.next,mtch:=[],sent:=[],reads:=[] }:Rf) (⟨A7,c7,A11,c11,A15,c15,none,0,none,0,none,0,[]⟩:Ra)∧(∀ k,k≤b3→t k=8):=⟨_,cO.next (bo.but (c:=2) hf2n (ag.toChg E15)) rfl (dW ho15 (Nat.zero_le _)) (fun k hk=>dN (eO ho15 k hk).1),fun k hk=>(cU (by omega)).trans (ht2 k hk)⟩;replace hx3n:=hx3n.from_ E15;replace hk1:=hk1.from_ E15;replace hk2:=hk2.from_ E15;refine ab (aa cQ rfl) ?_;have hS3:ag _ w9:=ag.rfl_;refine cN (s':=s) (a':=(⟨A7,c7,A11,c11,A15,c15,M,Mc,Sn,Sc,Q,Qc,LL⟩:Ra)) (v:=.slice _ _ _) c_ rfl rfl rfl ((hx3n.from_ hS3)) (by exact ⟨by decide,rfl⟩) ?_;intro w10 O3_0 P3_0;have hx4:Blk w10 b3 29 (rfV s (⟨A7,c7,A11,c11,A15,c15,M,Mc,Sn,Sc,Q,Qc,LL⟩:Ra)++[]).toArray:=P3_0;replace hf3:=(hf3.from_ hS3).chg8 (O3_0.toChg rfl) (ht3 b3 (Nat.le_refl _));replace hk1:=(hk1.from_ hS3).only O3_0 h13;replace hk2:=(hk2.from_ hS3).only O3_0 h23;refine an (ai (ao (ah (ab (aa cY rfl) (ab (ar bt rfl (by exact (show _=some (Value.slice M s.mtch.length Mc) from (hk1.from_ ag.rfl_).rd 16 rfl))) ?_)))));have hN19:ag _ w10:=ag.rfl_;have hx4n:=hx4.from_ hN19;have hlt19:=hx4n.lt;replace hk1:=hk1.from_ ag.rfl_;replace hk2:=hk2.from_ ag.rfl_;have hf3n:=hf3.from_ hN19;refine aC jq (kL M Mc s.mtch _ (IR.from_ hrd.m (((((hB1.only O1_0 hg3).next E11).only O2_0 (hg3)).next E15).only O3_0 (hg3))) hl3) ?_;rintro v19 w11 ⟨⟨A19,c19,rfl,ho19⟩,E19⟩;obtain ⟨tag4,hf4,ht4⟩:∃ t,bo w11 t ({ s with es:=s.es,votes:=s.votes,next:=s.next,mtch:=s.mtch,sent:=[],reads:=[] }:Rf) (⟨A7,c7,A11,c11,A15,c15,A19,c19,none,0,none,0,[]⟩:Ra)∧(∀ k,k≤b3→t k=8):=⟨_,cO.mtch (bo.but (c:=3) hf3n (ag.toChg E19)) rfl (dW ho19 (Nat.zero_le _)) (fun k hk=>dN (eO ho19 k hk).1),fun k hk=>(cU (by omega)).trans (ht3 k hk)⟩;replace hx4n:=hx4n.from_ E19;replace hk1:=hk1.from_ E19;replace hk2:=hk2.from_ E19;refine ab (aa cY rfl) ?_;have hS4:ag _ w11:=ag.rfl_;refine cN (s':=s) (a':=(⟨A7,c7,A11,c11,A15,c15,A19,c19,Sn,Sc,Q,Qc,LL⟩:Ra)) (v:=.slice _ _ _) c_ rfl rfl rfl ((hx4n.from_ hS4)) (by exact ⟨by decide,rfl⟩) ?_;intro w12 O4_0 P4_0;have hx5:Blk w12 b3 29 (rfV s (⟨A7,c7,A11,c11,A15,c15,A19,c19,Sn,Sc,Q,Qc,LL⟩:Ra)++[]).toArray:=P4_0;replace hf4:=(hf4.from_ hS4).chg8 (O4_0.toChg rfl) (ht4 b3 (Nat.le_refl _));replace hk1:=(hk1.from_ hS4).only O4_0 h13;replace hk2:=(hk2.from_ hS4).only O4_0 h23;refine an (ai (ao (ah (ab (aa dd rfl) (ab (ar bt rfl (by exact (show _=some (Value.slice Sn s.sent.length Sc) from (hk1.from_ ag.rfl_).rd 17 rfl))) ?_)))));have hN23:ag _ w12:=ag.rfl_;have hx5n:=hx5.from_ hN23;have hlt23:=hx5n.lt;replace hk1:=hk1.from_ ag.rfl_;replace hk2:=hk2.from_ ag.rfl_;have hf4n:=hf4.from_ hN23;refine aC jq (kL Sn Sc s.sent _ (IR.from_ hrd.n (((((((hB1.only O1_0 hg3).next E11).only O2_0 (hg3)).next E15).only O3_0 (hg3)).next E19).only O4_0 (hg3))) hl4) ?_;rintro v23 w13 ⟨⟨A23,c23,rfl,ho23⟩,E23⟩;obtain ⟨tag5,hf5,ht5⟩:∃ t,bo w13 t ({ s with es:=s.es,votes:=s.votes,next:=s.next,mtch:=s.mtch,sent:=s.sent,reads:=[] }:Rf) (⟨A7,c7,A11,c11,A15,c15,A19,c19,A23,c23,none,0,[]⟩:Ra)∧(∀ k,k≤b3→t k=8):=⟨_,cO.sent (bo.but (c:=4) hf4n (ag.toChg E23)) rfl (dW ho23 (Nat.zero_le _)) (fun k hk=>dN (eO ho23 k hk).1),fun k hk=>(cU (by omega)).trans (ht4 k hk)⟩;replace hx5n:=hx5n.from_ E23;replace hk1:=hk1.from_ E23;replace hk2:=hk2.from_ E23;refine ab (aa dd rfl) ?_;have hS5:ag _ w13:=ag.rfl_;refine cN (s':=s) (a':=(⟨A7,c7,A11,c11,A15,c15,A19,c19,A23,c23,Q,Qc,LL⟩:Ra)) (v:=.slice _ _ _) c_ rfl rfl rfl ((hx5n.from_ hS5)) (by exact ⟨by decide,rfl⟩) ?_;intro w14 O5_0 P5_0;have hx6:Blk w14 b3 29 (rfV s (⟨A7,c7,A11,c11,A15,c15,A19,c19,A23,c23,Q,Qc,LL⟩:Ra)++[]).toArray:=P5_0;replace hf5:=(hf5.from_ hS5).chg8 (O5_0.toChg rfl) (ht5 b3 (Nat.le_refl _));replace hk1:=(hk1.from_ hS5).only O5_0 h13;replace hk2:=(hk2.from_ hS5).only O5_0 h23;refine an (ai (ao (ah (ab (aa cf rfl) (ab (ar ed rfl (by exact (show _=some (Value.slice Q LL.length Qc) from (hk1.from_ ag.rfl_).rd 19 rfl))) ?_)))));have hN27:ag _ w14:=ag.rfl_;have hx6n:=hx6.from_ hN27;have hlt27:=hx6n.lt;replace hk1:=hk1.from_ ag.rfl_;replace hk2:=hk2.from_ ag.rfl_;have hf5n:=bo.but (c:=5) (hf5.from_ hN27) ag.rfl_.toChg;refine aC um (qH ({ s with es:=s.es,votes:=s.votes,next:=s.next,mtch:=s.mtch,sent:=s.sent,reads:=[] }:Rf) (⟨A7,c7,A11,c11,A15,c15,A19,c19,A23,c23,none,0,[]⟩:Ra) _ Q Qc LL _ hf5n rfl (hrq.from_ (((((((((hB1.only O1_0 hg3).next E11).only O2_0 (hg3)).next E15).only O3_0 (hg3)).next E19).only O4_0 (hg3)).next E23).only O5_0 (hg3))) (fun x hx=>(hrk x hx).from_ (((((((((hB1.only O1_0 hg3).next E11).only O2_0 (hg3)).next E15).only O3_0 (hg3)).next E19).only O4_0 (hg3)).next E23).only O5_0 (hg3))) (fun x hx=>hl6 _ (by rw [←hrL];exact List.mem_map_of_mem hx)) hqm) ?_;rintro v27 w15 ⟨⟨tag6,A27,c27,N,rfl,hNe,hg6,ht6a,hc6,hr6⟩,E27⟩;have ht6:∀ k,k≤b3→tag6 k=8:=fun k hk=>(ht6a k (by omega)).trans ((cU (by omega)).trans (ht5 k hk))
 replace hx6n:=hx6n.from_ E27;replace hk2:=hk2.from_ E27;have hfin:=cO.reads hg6 (A:=A27) (c:=c27) (n:=LL.length) (by have h9:=congrArg List.length hNe;rw [List.length_map,List.length_map] at h9;exact h9.symm) hr6 hc6;rw [show ({ (⟨A7,c7,A11,c11,A15,c15,A19,c19,A23,c23,none,0,[]⟩:Ra) with L:=N }:Ra).L=N from rfl,hNe,hrL] at hfin;refine ab (aa cf rfl) ?_;have hS6:ag _ w15:=ag.rfl_;refine cN (s':=s) (a':=(⟨A7,c7,A11,c11,A15,c15,A19,c19,A23,c23,A27,c27,LL⟩:Ra)) (v:=.slice _ _ _) ji rfl rfl rfl ((hx6n.from_ hS6)) (by exact ⟨by decide,rfl⟩) ?_;intro w16 O6_0 P6_0;have hx7:Blk w16 b3 29 (rfV s (⟨A7,c7,A11,c11,A15,c15,A19,c19,A23,c23,A27,c27,LL⟩:Ra)++[]).toArray:=P6_0;replace hfin:=(hfin.from_ hS6).chg8 (O6_0.toChg rfl) (ht6 b3 (Nat.le_refl _));replace hk2:=(hk2.from_ hS6).only O6_0 h23;refine an (ai (ao (ah (ab (aH (cs:=rfV s (⟨A7,c7,A11,c11,A15,c15,A19,c19,A23,c23,A27,c27,LL⟩:Ra)) aP aJ rfl (mI (hx7.from_ ag.rfl_))) ?_))));have hM8:ag _ w16:=ag.rfl_;refine cg (vs:=[_,_,_,_,_,_,_,_,_,_,_,_,_,_,_,_,_,_,_,_,_,_]) aJ rfl rfl (by simp [Value.oneCell']) ((hk2.from_ ag.rfl_)) rfl ?_;intro w17 O8 P8;refine an (ai (aE (ly rfl (dI (cs:=[_,_,_,_,_,_,_,_,_,_,_,_,_,_,_,_,_,_,_,_,_,_]) aP aJ rfl (by exact P8.whole)) ?_)));refine ⟨⟨tag6,(⟨A7,c7,A11,c11,A15,c15,A19,c19,A23,c23,A27,c27,N⟩:Ra),?_,(hfin.from_ hM8).chg8 (O8.toChg rfl) (ht6 b2 (by omega)),fun k hk=>ht6 k (by omega)⟩,((((((((((((hB1.only O1_0 hg3).next E11).only O2_0 (hg3)).next E15).only O3_0 (hg3)).next E19).only O4_0 (hg3)).next E23).only O5_0 (hg3)).next E27).only O6_0 (hg3)).only O8 (hg2))⟩;show Value.agg (rfV s (⟨A7,c7,A11,c11,A15,c15,A19,c19,A23,c23,A27,c27,LL⟩:Ra)).toArray=Value.agg (rfV s (⟨A7,c7,A11,c11,A15,c15,A19,c19,A23,c23,A27,c27,N⟩:Ra)).toArray;have h9:=congrArg List.length hNe;rw [List.length_map,List.length_map] at h9;unfold rfV;simp only [h9]
theorem fN:prog.built 29 []=some #[.int .i64 0,.int .i64 0,.int .i64 0,.int .i64 0,.int .i64 0,.int .i64 0,.int .i64 0,.int .i64 0,.slice none 0 0,.string ⟨#[]⟩,.int .i64 0,.int .i64 0,.int .i64 0,.int .u64 0,.slice none 0 0,.slice none 0 0,.slice none 0 0,.slice none 0 0,.int .i64 0,.slice none 0 0,.string ⟨#[]⟩,.int .i64 0]:=by kernel_rfl
theorem mW:∀ (a0:Int) (a1:Int) (a2:Int),prog.built 29 [(0,.int .i64 a0),(1,.int .i64 a1),(11,.int .u64 a2)]=some #[.int .i64 a0,.int .i64 a1,.int .i64 0,.int .i64 0,.int .i64 0,.int .i64 0,.int .i64 0,.int .i64 0,.slice none 0 0,.string ⟨#[]⟩,.int .i64 0,.int .i64 0,.int .i64 0,.int .u64 a2,.slice none 0 0,.slice none 0 0,.slice none 0 0,.slice none 0 0,.int .i64 0,.slice none 0 0,.string ⟨#[]⟩,.int .i64 0]:=by intros;kernel_rfl
theorem sv:∀ (a0:Int) (a1:Int) (a2:Int) (a3:Int) (a4:Int) (a5:Int) (a6:Int) (a7:Int) (a8:Option Addr) (a9 a10:Nat) (a11:ByteArray) (a12:Int) (a13:Int) (a14:Int) (a15:Int) (a16:Option Addr) (a17 a18:Nat) (a19:Option Addr) (a20 a21:Nat) (a22:Option Addr) (a23 a24:Nat) (a25:Option Addr) (a26 a27:Nat) (a28:Int) (a29:Option Addr) (a30 a31:Nat) (a32:ByteArray) (a33:Int),prog.built 91 [(0,.agg #[.int .i64 a0,.int .i64 a1,.int .i64 a2,.int .i64 a3,.int .i64 a4,.int .i64 a5,.int .i64 a6,.int .i64 a7,.slice a8 a9 a10,.string a11,.int .i64 a12,.int .i64 a13,.int .i64 a14,.int .u64 a15,.slice a16 a17 a18,.slice a19 a20 a21,.slice a22 a23 a24,.slice a25 a26 a27,.int .i64 a28,.slice a29 a30 a31,.string a32,.int .i64 a33])]=some #[.int .i64 a0,.int .i64 a1,.int .i64 a2,.int .i64 a3,.int .i64 a4,.int .i64 a5,.int .i64 a6,.int .i64 a7,.slice a8 a9 a10,.string a11,.int .i64 a12,.int .i64 a13,.int .i64 a14,.int .u64 a15,.slice a16 a17 a18,.slice a19 a20 a21,.slice a22 a23 a24,.slice a25 a26 a27,.int .i64 a28,.slice a29 a30 a31,.string a32,.int .i64 a33]:=by intros;kernel_rfl
theorem ll:aQ prog 55=true:=by kernel_rfl
theorem vL:aQ prog 56=true:=by kernel_rfl
theorem k_ {P:Program} {n:Fr} {L:List (Nat×Value)} {w:World} {t:TypeId} {x y:Operand} {g:Nat} {u:TypeId} {cs:Array Value} {vs:List Value} (ht:ea P t=some vs.length) (hx:ev n L x=.pointer (some ⟨g,0,none⟩)) (hy:ev n L y=.agg vs.toArray) (h1:∀ v∈vs,v.oneCell'=true) (hb:Blk w g u cs) (hi:vs.length=cs.size) :
 ∃ w',RS P (ev n L) (.store t x y) w w'∧eM g w w'∧Blk w' g u vs.toArray:=by
 have hb':Blk w g u cs.toList.toArray:=by simpa using hb
 refine ⟨_,k8 ht hx hy h1 (hb'.there 0 vs.length (by simp;omega)),eM.sets vs 0 w,?_⟩;have:=Blk.sets vs 0 hb' (by simp;omega)
 rwa [rT cs.toList vs (by simp;omega)] at this
theorem jH {w w':World} {T g:Nat} {p:Sp} (h:aR w (fun k=>k<w.heap.size) w' T g p):ag w w':=
 ⟨h.fr.os,h.fr.tape,h.fr.output,h.fr.size,fun k hk=>h.fr.block k hk fun e=>e hk⟩
def zm (w w':World) (p:Sp) (v:Value):Prop:=∃ tag a O oc L,v=.tuple #[.agg (rfV p.s a).toArray,.slice O L.length oc,.int .i64 0]∧bo w' tag p.s a∧eC w' tag p.out O oc L∧∀ k,k<w.heap.size→tag k=8
theorem zm.mk_ {w w1 w':World} {T g oc:Nat} {tag:Nat→Nat} {p:Sp} {a:Ra} {O:Option Addr} {L:List Msg} {Z:Nat→Prop} (hs:gP w1 Z T g tag p a O oc L) (hz:∀ k,k<w.heap.size→Z k) (hC:Chg (fun k=>Z k) w1 w'):zm w w' p (.tuple #[.agg (rfV p.s a).toArray,.slice O L.length oc,.int .i64 0]):=by
 have ne:∀ {d:Nat} {A:Option Addr},d≠8→Col tag d A→∀ k,A.map (·.block)=some k→¬ Z k:=fun hd hc k hk e=>hd ((hc k hk).symm.trans (hs.z k e))
 have mv:∀ {d e s n cc:Nat} {A:Option Addr} {xs:List Value},d≠8→w1.ownsRow 0 e s (.slice A n cc) n xs∧Col tag d A→w'.ownsRow 0 e s (.slice A n cc) n xs∧Col tag d A:=fun hd h=>⟨eE h.1 hC (ne hd h.2),h.2⟩
 refine ⟨tag,a,O,oc,L,rfl,⟨fun hx=>mv (by decide) (hs.f.e hx),fun hx=>mv (by decide) (hs.f.v hx),fun hx=>mv (by decide) (hs.f.x hx),fun hx=>mv (by decide) (hs.f.m hx),fun hx=>mv (by decide) (hs.f.n hx),hs.f.r,fun hx=>mv (by decide) (hs.f.q hx),fun i hi hx=>mv (by omega) (hs.f.k i hi hx)⟩,⟨(mv (d:=6) (by decide) ⟨hs.m.o,hs.m.c⟩).1,hs.m.l,fun j hj=>mv (by omega) (hs.m.e j hj),hs.m.c⟩,fun k hk=>hs.z k (hz k hk)⟩
def nH (id n:Int):Prop:=(1≤n∧n≤7)∧(1≤id∧id≤n)
instance (id n:Int):Decidable (nH id n):=by unfold nH;exact inferInstance
theorem yL (id n seed:Int) (w:World) :
 Rt prog 21 [.int .i64 id,.int .i64 n,.int .u64 seed] w (fun v w'=>((nH id n∧v=.tuple #[.agg (rfV (rV id n seed) a0).toArray,.int .i64 0])∨(¬ nH id n∧v=.tuple #[.agg (rfV zR a0).toArray,.int .i64 1]))∧ag w w'):=by
 refine enter (n:=29) Tryz.func21 rfl rfl rfl (ao (ah (bS dg ?_)));intro b6 w1 E6 hb6 hk6;have hg6:w.heap.size≤b6:=Nat.le_of_eq hb6.symm;refine asi rfl (an (ai (ao (ao (ah (mvi rfl (fj (v:=.int _ _) bP rfl rfl rfl ?_)))))));intro b10 w2 E10 hb10 hk10;refine aC dF (eI 1 7 (some ⟨b10,0,none⟩) 1 [n] _ (gi hk10) (by simp)) ?_;rintro v11 w3 ⟨rfl,rfl⟩;refine ab (cp rfl) (mvb rfl (aK (t:=13) rfl (fun Q4=>?_) (fun Q4=>?_)))
 ·with_reducible (replace Q4:=dK Q4;replace Q4:=dF_ Q4)
  (try simp only [bp,bE,and_true] at Q4)
  refine aq rfl rfl (aq rfl rfl (aq rfl rfl (aq rfl rfl (aq rfl rfl (ab (aM (v:=.bool _) rfl rfl) (an (ai (aZ rfl (ao (ah ?_))))))))));refine ab (cl (l:=[]) (fN)) (cg (vs:=[_,_,_,_,_,_,_,_,_,_,_,_,_,_,_,_,_,_,_,_,_,_]) aJ rfl rfl (by simp [Value.oneCell']) ((hk6.from_ (ag.rfl_.next E10))) rfl ?_);intro w5 O2 P2;refine asi rfl (an (ai (aE (aG (lx rfl (dI (cs:=[_,_,_,_,_,_,_,_,_,_,_,_,_,_,_,_,_,_,_,_,_,_]) aP aJ rfl (by first | exact P5.whole | exact P2.whole)) (fU (v:=.int _ _) rfl) ?_)))));exact ⟨.inr ⟨by unfold nH;omega,rfl⟩,(((ag.rfl_.next E6).next E10).only O2 (hg6))⟩
 with_reducible (replace Q4:=dL Q4;replace Q4:=dT_ Q4)
 (try simp only [bp,bE,and_true] at Q4)
 refine ae rfl (mvi rfl (ae rfl (mvi rfl (ae rfl (fj (v:=.int _ _) bP rfl rfl rfl ?_)))));intro b16 w6 E16 hb16 hk16;refine ae rfl (aC dF (eI 1 n (some ⟨b16,0,none⟩) 1 [id] _ (gi hk16) (by simp)) ?_);rintro v17 w7 ⟨rfl,rfl⟩;refine ae rfl (ab (cp rfl) (ab (ay (v:=.bool _) rfl rfl) (an (ai (aS rfl (fun Q8=>?_) (fun Q8=>?_))))))
 ·with_reducible (replace Q8:=dK Q8;replace Q8:=dF_ Q8)
  (try simp only [bp,bE,and_true] at Q8)
  refine ao (ah (ab (cl (l:=[]) (fN)) (cg (vs:=[_,_,_,_,_,_,_,_,_,_,_,_,_,_,_,_,_,_,_,_,_,_]) aJ rfl rfl (by simp [Value.oneCell']) ((hk6.from_ ((ag.rfl_.next E10).next E16))) rfl ?_)));intro w9 O2 P2;refine asi rfl (an (ai (aE (aG (lx rfl (dI (cs:=[_,_,_,_,_,_,_,_,_,_,_,_,_,_,_,_,_,_,_,_,_,_]) aP aJ rfl (by first | exact P5.whole | exact P2.whole)) (fU (v:=.int _ _) rfl) ?_)))));exact ⟨.inr ⟨by unfold nH;omega,rfl⟩,((((ag.rfl_.next E6).next E10).next E16).only O2 (hg6))⟩
 with_reducible (replace Q8:=dL Q8;replace Q8:=dT_ Q8)
 (try simp only [bp,bE,and_true] at Q8)
 refine aO (ai (ao (ah (mvi rfl (mvi rfl (mvi rfl (ab (cl (l:=[(0,.tmp 21),(1,.tmp 22),(11,.tmp 23)]) (mW _ _ _)) (ab (cl (l:=[(0,.tmp 24)]) (sv _ _ _ _ _ _ _ _ _ _ _ _ _ _ _ _ _ _ _ _ _ _ _ _ _ _ _ _ _ _ _ _ _ _)) ?_))))))));have hM8:ag _ w6:=((ag.rfl_.next E10).next E16);have hz8:=((((ag.rfl_.next E6).next E10).next E16)).size;refine bS nF ?_;intro b8 w10 E8 hb8 hk8;have hg8:w.heap.size≤b8:=by omega
 have hk6b:=hk6.from_ (hM8.next E8);have h68:b6≠b8:=by have:=(hk6.from_ hM8).lt;omega
 refine cg (vs:=[_,_,_,_,_,_,_,_,_,_,_,_,_,_,_,_,_,_,_,_,_,_]) kY rfl rfl (by simp [Value.oneCell']) (hk8) rfl ?_;intro w11 O3 P3;have hb8:Blk w11 b8 91 (rfV ({ zR with id:=id,nodes:=n,seed:=seed }:Rf) a0++[]).toArray:=P3;have hk6c:=hk6b.only O3 h68;refine an (ai (ao (ah ?_)));have hB8:ag w w11:=(((((ag.rfl_.next E6).next E10).next E16).next E8).only O3 (hg8));refine aC kX (qG 91 b8 { zR with id:=id,nodes:=n,seed:=seed } a0 [] _ hb8) ?_;rintro v26 w12 ⟨rfl,hb26,hC26⟩;have hk6d:=hk6c.chg hC26 h68;refine an (ai (ao (ah (ab (aa aB rfl) (ab (aH (cs:=rfV (rV id n seed) a0) aP aJ rfl (mI (hb26.from_ ag.rfl_))) (cg (vs:=[_,_,_,_,_,_,_,_,_,_,_,_,_,_,_,_,_,_,_,_,_,_]) aJ rfl rfl (by simp [Value.oneCell']) ((hk6d.from_ ag.rfl_)) rfl ?_))))));intro w13 O5 P5;refine asi rfl (an (ai (aE (lx rfl (dI (cs:=[_,_,_,_,_,_,_,_,_,_,_,_,_,_,_,_,_,_,_,_,_,_]) aP aJ rfl (by first | exact P5.whole | exact P2.whole)) (fU (v:=.int _ _) rfl) ?_))));exact ⟨.inl ⟨by unfold nH;omega,rfl⟩,((hB8.chg hC26 (fun k hk=>by rw [show k=b8 from hk];exact hg8)).only O5 (hg6))⟩
theorem we (s:Rf) (a:Ra) (w:World) (hrd:eX w s a) (hl:s.votes.length≤1000000∧s.next.length≤1000000∧s.mtch.length≤1000000∧s.sent.length≤1000000∧s.reads.length≤1000000∧∀ q∈s.reads,q.acks.length≤1000000) (hel:s.es.length≤1000000) (hm:im s=true) :
 Rt prog 23 [.agg (rfV s a).toArray] w (fun v w'=>zm w w' (iH s) v∧ag w w'):=by
 refine enter (n:=27) Tryz.func23 rfl rfl rfl (ao (ah (bZ (v:=.agg _) rfl ?_)));intro b1 w1 E1 hb1 hk1;refine bS dg ?_;intro b2 w2 E2 hb2 hk2;have hg2:w.heap.size≤b2:=by rw [hb2];exact ((ag.rfl_.next E1)).size
 refine ass rfl (asi rfl (an (ai (ao (ah (ab (aH (cs:=rfV s a) aP aJ rfl (((hk1.from_ E2).from_ ag.rfl_).whole)) ?_))))));have hB9:ag w w2:=((ag.rfl_.next E1).next E2);have hk2b:=hk2.from_ ag.rfl_;have hlt2:=hk2b.lt;refine aC ll (o4 s a _ (hrd.from_ ((ag.rfl_.next E1).next E2)) hl hel hm) ?_;rintro v9 w3 ⟨g,rfl,h9⟩;refine mvt rfl (ab (a_ rfl rfl) (ab (a_ rfl rfl) (asp rfl (asi rfl (an (ai (ao (ao (ah (mvi rfl (ab (cu (dm rfl rfl) rfl) (an (ai ?_)))))))))))));refine bg rfl (aO (ai (ao (ah (mvp rfl (aC vL (yo _ _ 96 g s _ (h9.from_ ag.rfl_) (mP hm)) ?_))))));rintro v17 w4 ⟨rfl,h17⟩;obtain ⟨tag9,a9,O9,oc9,L9,hs9⟩:=h17.ex;have hF17:=jH h17;have hk2c:=hk2b.from_ hF17;have hz9:=hB9.size;have hBq:ag w w4:=(hB9.next (jH h17));have hn2:b2≠g:=fun e=>by have h1:=hs9.z b2 hlt2;rw [e,hs9.gc] at h1;cases h1
 replace hn2:=hn2.symm;refine an (ai (ao ?_));have hU5:ke [(0,18,.pointer (some ⟨g,0,none⟩)),(1,19,.pointer (some ⟨g,0,none⟩)),(2,20,.pointer (some ⟨g,0+0,none⟩)),(3,21,.pointer (some ⟨g,0+0+0,none⟩)),(4,22,.agg (rfV (iH s).s a9).toArray),(5,23,.pointer (some ⟨g,0,none⟩)),(6,24,.pointer (some ⟨g,0,none⟩)),(7,25,.pointer (some ⟨g,0+22,none⟩)),(8,26,.slice O9 L9.length oc9),(10,3,.slice O9 L9.length oc9),(11,4,.int .i64 0)]:=by simp [ke]
 refine lj [(0,18,.pointer (some ⟨g,0,none⟩)),(1,19,.pointer (some ⟨g,0,none⟩)),(2,20,.pointer (some ⟨g,0+0,none⟩)),(3,21,.pointer (some ⟨g,0+0+0,none⟩)),(4,22,.agg (rfV (iH s).s a9).toArray),(5,23,.pointer (some ⟨g,0,none⟩)),(6,24,.pointer (some ⟨g,0,none⟩)),(7,25,.pointer (some ⟨g,0+22,none⟩)),(8,26,.slice O9 L9.length oc9),(10,3,.slice O9 L9.length oc9),(11,4,.int .i64 0)] (fun S w'=>Blk w' g 96 ((rfV (iH s).s a9)++[Value.slice O9 L9.length oc9]).toArray∧(∃ cs:Array Value,cs.size=22∧Blk w' b2 29 cs∧(S 9=true→cs=(rfV (iH s).s a9).toArray))∧Chg (fun k=>k=b2) w4 w') (by kernel_rfl) (by kernel_rfl) hU5 (by simp) (⟨(hs9.b.from_ ag.rfl_).from_ ag.rfl_.d1,⟨_,rfl,(hk2c.from_ ag.rfl_).from_ ag.rfl_.d1,fun h=>(by cases h)⟩,ag.rfl_.d1.toChg⟩) ?_ ?_
 ·constructor
  ·rintro S L' wS hI hM hS0 ⟨-⟩;have e5:=hI.1 5 (by simp);have hM':=hM;obtain ⟨hgB,⟨cs9,hs9z,hq9,hqe⟩,hC9⟩:=hM';exact bq (aF e5) ⟨hI.put hU5 (.head _),hM⟩
  constructor
  ·rintro S L' wS hI hM hS0 ⟨d0,-⟩;have e18:bu L' 18=.pointer (some ⟨g,0,none⟩):=hI.get (i:=0) (.head _) d0;have hM':=hM;obtain ⟨hgB,⟨cs9,hs9z,hq9,hqe⟩,hC9⟩:=hM';exact bq (av e18) ⟨hI.put hU5 (.tail _ (.head _)),hM⟩
  constructor
  ·rintro S L' wS hI hM hS0 ⟨d1,-⟩;have e19:bu L' 19=.pointer (some ⟨g,0,none⟩):=hI.get (i:=1) (.tail _ (.head _)) d1;have hM':=hM;obtain ⟨hgB,⟨cs9,hs9z,hq9,hqe⟩,hC9⟩:=hM';exact bq (aa aD e19) ⟨hI.put hU5 (gM 2 rfl),hM⟩
  constructor
  ·rintro S L' wS hI hM hS0 ⟨d2,-⟩;have e20:bu L' 20=.pointer (some ⟨g,0+0,none⟩):=hI.get (i:=2) (gM 2 rfl) d2;have hM':=hM;obtain ⟨hgB,⟨cs9,hs9z,hq9,hqe⟩,hC9⟩:=hM';exact bq (aa aB e20) ⟨hI.put hU5 (gM 3 rfl),hM⟩
  constructor
  ·rintro S L' wS hI hM hS0 ⟨d3,-⟩;have e21:bu L' 21=.pointer (some ⟨g,0+0+0,none⟩):=hI.get (i:=3) (gM 3 rfl) d3;have hM':=hM;obtain ⟨hgB,⟨cs9,hs9z,hq9,hqe⟩,hC9⟩:=hM';exact bq (aH (cs:=(rfV (iH s).s a9)) aP aJ e21 (mI hgB)) ⟨hI.put hU5 (gM 4 rfl),hM⟩
  constructor
  ·rintro S L' wS hI hM hS0 ⟨-,-⟩;have e5:=hI.1 5 (by simp);have hM':=hM;obtain ⟨hgB,⟨cs9,hs9z,hq9,hqe⟩,hC9⟩:=hM';exact bq (aF e5) ⟨hI.put hU5 (gM 5 rfl),hM⟩
  constructor
  ·rintro S L' wS hI hM hS0 ⟨d5,-,-⟩;have e23:bu L' 23=.pointer (some ⟨g,0,none⟩):=hI.get (i:=5) (gM 5 rfl) d5;have hM':=hM;obtain ⟨hgB,⟨cs9,hs9z,hq9,hqe⟩,hC9⟩:=hM';exact bq (av e23) ⟨hI.put hU5 (gM 6 rfl),hM⟩
  constructor
  ·rintro S L' wS hI hM hS0 ⟨d6,-,-⟩;have e24:bu L' 24=.pointer (some ⟨g,0,none⟩):=hI.get (i:=6) (gM 6 rfl) d6;have hM':=hM;obtain ⟨hgB,⟨cs9,hs9z,hq9,hqe⟩,hC9⟩:=hM';exact bq (aa iP e24) ⟨hI.put hU5 (gM 7 rfl),hM⟩
  constructor
  ·rintro S L' wS hI hM hS0 ⟨d7,-,-⟩;have e25:bu L' 25=.pointer (some ⟨g,0+22,none⟩):=hI.get (i:=7) (gM 7 rfl) d7;have hM':=hM;obtain ⟨hgB,⟨cs9,hs9z,hq9,hqe⟩,hC9⟩:=hM';exact bq (ar jk e25 (by exact (show _=some (Value.slice O9 L9.length oc9) from hgB.rd 22 rfl))) ⟨hI.put hU5 (gM 8 rfl),hM⟩
  constructor
  ·rintro S L' wS hI hM hS0 ⟨d4,d0,d1,d2,d3,d4,-,-,-,-,-⟩;have e2:=hI.1 2 (by simp);have e22:bu L' 22=.agg (rfV (iH s).s a9).toArray:=hI.get (i:=4) (gM 4 rfl) d4;have hM':=hM;obtain ⟨hgB,⟨cs9,hs9z,hq9,hqe⟩,hC9⟩:=hM';obtain ⟨w2,hR,hO,hb⟩:=k_ (n:=27) (L:=L') (x:=.tmp 2) (y:=.tmp 22) (vs:=(rfV (iH s).s a9)) aJ e2 e22 (by simp [rfV,Value.oneCell']) hq9 (by rw [hs9z];rfl);exact fI hR ⟨hI.skip (by simp),hgB.only hO hn2,⟨_,rfl,hb,fun _=>rfl⟩,hC9.next (hO.toChg rfl)⟩
  constructor
  ·rintro S L' wS hI hM hS0 ⟨d8,d9,d0,d1,d2,d3,d4,d5,d6,d7,d8,d9,-⟩;have e26:bu L' 26=.slice O9 L9.length oc9:=hI.get (i:=8) (gM 8 rfl) d8;have hM':=hM;obtain ⟨hgB,⟨cs9,hs9z,hq9,hqe⟩,hC9⟩:=hM';exact bq (cZ e26) ⟨hI.put hU5 (gM 9 rfl),hM⟩
  constructor
  ·rintro S L' wS hI hM hS0 ⟨d10,d0,d1,d2,d3,d4,d5,d6,d7,d8,d9,d10,-⟩;have hM':=hM;obtain ⟨hgB,⟨cs9,hs9z,hq9,hqe⟩,hC9⟩:=hM';exact bq (cZ rfl) ⟨hI.put hU5 (gM 10 rfl),hM⟩
  exact trivial
 ·intro w6 hM;obtain ⟨hgB,⟨cs9,hs9z,hq9,hqe⟩,hC9⟩:=hM;have hqe:=hqe rfl;subst hqe;refine ai (aE (uH rfl (dI (cs:=[_,_,_,_,_,_,_,_,_,_,_,_,_,_,_,_,_,_,_,_,_,_]) aP aJ rfl (by exact hq9.whole)) (fU (v:=.slice _ _ _) rfl) (fU (v:=.int _ _) rfl) ?_));exact ⟨zm.mk_ hs9 (fun k hk=>Nat.lt_of_lt_of_le hk hz9) (hC9.wide (fun k hk=>.inl (by rw [show k=b2 from hk];exact hlt2))),(hBq.chg hC9 (fun k hk=>by rw [show k=b2 from hk];exact hg2))⟩
section
variable {P:Program} {ops:Array Oper} {Q:Exit→Act→World→Prop} {rest:List Oper} {n:Fr} {L:List (Nat×Value)} {w0 w:World} {Z:Nat→Prop} {ty:TypeId} {pos:String} {after:Array Edge} {t:TypeId} {x y:Operand} {T g:Nat} {p:Sp} {s':Rf}
theorem aR.rd {k:Nat} {v:Value} (h:aR w0 Z w T g p) (hv:∀ a,(rfV p.s a)[k]? =some v):w.cell? ⟨g,k,none⟩=some v:=by
 obtain ⟨tag,a,O,oc,L,hs⟩:=h.ex;exact dM hs.b k (hv a)
theorem dU {k:Nat} {v:Value} (ht:ea P t=some 1) (hx:ev n L x=.pointer (some ⟨g,k,none⟩)) (hy:ev n L y=v) (h1:v.oneCell'=true) (h:aR w0 Z w T g p) (e:∀ a,k<22∧(rfV p.s a).set k v=rfV s' a)
 (hr:s'.es=p.s.es∧s'.votes=p.s.votes∧s'.next=p.s.next∧s'.mtch=p.s.mtch∧s'.sent=p.s.sent∧s'.reads=p.s.reads)
 (kk:∀ w',aR w0 Z w' T g ⟨s',p.out⟩→St P ops Q rest n L w'):St P ops Q (⟨none,.store t x y,ty,pos,after,none⟩::rest) n L w:=by
 obtain ⟨tag,a,O,oc,L1,hs⟩:=h.ex;exact cN ht hx hy h1 hs.b (e a) fun w' o b=>kk w' (h.set hs (o.toChg rfl) (bo.same hs.f hr.1 hr.2.1 hr.2.2.1 hr.2.2.2.1 hr.2.2.2.2.1 hr.2.2.2.2.2) b).2
end
def u2 (w w':World) (p:Sp) (tag:Nat→Nat) (a:Ra) (O:Option Addr) (oc:Nat) (L:List Msg):Prop:=bo w' tag p.s a∧eC w' tag p.out O oc L∧∀ k,k<w.heap.size→tag k=8
theorem u2.mk_ {w w1 w':World} {T g oc:Nat} {tag:Nat→Nat} {p:Sp} {a:Ra} {O:Option Addr} {L:List Msg} {Z:Nat→Prop} (hs:gP w1 Z T g tag p a O oc L) (hz:∀ k,k<w.heap.size→Z k) (hC:Chg (fun k=>Z k) w1 w'):u2 w w' p tag a O oc L:=by
 have ne:∀ {d:Nat} {A:Option Addr},d≠8→Col tag d A→∀ k,A.map (·.block)=some k→¬ Z k:=fun hd hc k hk e=>hd ((hc k hk).symm.trans (hs.z k e))
 have mv:∀ {d e s n cc:Nat} {A:Option Addr} {xs:List Value},d≠8→w1.ownsRow 0 e s (.slice A n cc) n xs∧Col tag d A→w'.ownsRow 0 e s (.slice A n cc) n xs∧Col tag d A:=fun hd h=>⟨eE h.1 hC (ne hd h.2),h.2⟩
 exact ⟨⟨fun hx=>mv (by decide) (hs.f.e hx),fun hx=>mv (by decide) (hs.f.v hx),fun hx=>mv (by decide) (hs.f.x hx),fun hx=>mv (by decide) (hs.f.m hx),fun hx=>mv (by decide) (hs.f.n hx),hs.f.r,fun hx=>mv (by decide) (hs.f.q hx),fun i hi hx=>mv (by omega) (hs.f.k i hi hx)⟩,⟨(mv (d:=6) (by decide) ⟨hs.m.o,hs.m.c⟩).1,hs.m.l,fun j hj=>mv (by omega) (hs.m.e j hj),hs.m.c⟩,fun k hk=>hs.z k (hz k hk)⟩
def Bo (p:Sp) (a:Ra) (O:Option Addr) (oc:Nat) (L:List Msg):List Value:=[.agg (rfV p.s a).toArray,.slice O L.length oc]
end Go.Proofs.YtkpooenofjdpmaaGreat
namespace Go.Proofs.YtkpooenofjdpmaaGreat
open Go.Proofs.Tryz (prog)
open Go.RowKit
open Go.ChangeShapes Go.WideShapes Go.ChangeAt
theorem kr:prog.built 99 [(0,.int .i64 (-9))]=some #[.int .i64 (-9),.int .i64 0,.string ⟨#[]⟩]:=by kernel_rfl
theorem qS:prog.built 99 []=some #[.int .i64 0,.int .i64 0,.string ⟨#[]⟩]:=by kernel_rfl
theorem nD:aQ prog 93=true:=by kernel_rfl
theorem iz:aQ prog 43=true:=by kernel_rfl
theorem ks:prog.built 54 [(0,.int .i64 (-9))]=some #[.int .i64 (-9),.int .i64 0,.int .i64 0,.slice none 0 0]:=by kernel_rfl
theorem kt:prog.built 39 [(0,.int .i64 (-9))]=some #[.int .i64 (-9),.int .i64 0,.int .i64 0,.int .i64 0,.int .i64 0,.int .i64 0,.int .i64 0,.int .i64 0,.bool false,.slice none 0 0,.int .i64 0,.string ⟨#[]⟩,.bool false]:=by kernel_rfl
theorem qT:prog.built 39 []=some #[.int .i64 0,.int .i64 0,.int .i64 0,.int .i64 0,.int .i64 0,.int .i64 0,.int .i64 0,.int .i64 0,.bool false,.slice none 0 0,.int .i64 0,.string ⟨#[]⟩,.bool false]:=by kernel_rfl
theorem pH (base:Nat) (A:Option Addr) (c n:Nat) (xs:List Value) (w:World) (ho:w.ownsRow base 99 3 (.slice A n c) n xs) (hb:base≤w.heap.size) (hl:n≤1000000000) :
 Rt prog 93 [.slice A n c] w (fun v w'=>v=.tuple #[]∧w.grownBy w' (A.map (·.block))):=by
 refine enter (n:=17) Tryz.func93 rfl rfl rfl (ao (ao (ah (asi rfl (an (ai (bk (dr (G:=Nat×List Value) [3,4,5,6,7,8,9,10,11,12] (fun (k,_)=>[(2,.int .i64 (k:Nat))]) (fun (k,ys) w'=>k≤n∧w'.ownsRow base 99 3 (.slice A n c) n ys∧w.grownBy w' (A.map (·.block))) (fun (k,_)=>n-k) ((0,xs)) ⟨rfl,trivial⟩ ?_ ?_))))))))
 ·exact ⟨Nat.zero_le _,ho,World.grownBy.refl _ _⟩
 rintro ⟨k,ys⟩ ρ1 w1 ⟨hk,ho2,hG⟩;refine ao (ao (ah (mvi rfl (mvs rfl (ab (bU cT rfl) (ab (ch rfl rfl) (an (ai (AT rfl (fun Q2=>?_) (fun Q2=>?_))))))))))
 ·obtain ⟨g,rfl⟩:=fR ho2 (by omega);refine aO (ai (ao (bk (ah (mvs rfl (mvi rfl (ab (cl (l:=[(0,.const (.int .i64 (-9)))]) (kr)) (ab (iK dP rfl rfl (by omega)) ?_))))))));refine lF (size:=3) (o:=k*3) (vs:=[.int .i64 (-9),.int .i64 0,.string ⟨#[]⟩]) gG (by show Value.pointer (some ⟨g,0+k*3,none⟩)=_;rw [Nat.zero_add]) rfl (by simp [Value.oneCell']) ho2 (by omega) (by show k*3+3≤n*3;omega) ?_;intro w3 O3 P3;refine an (bN (ai (ah (mvi rfl (ab (cn rfl rfl (by omega)) (asi rfl (an ?_)))))));refine bL ((k+1,iN ys (k*3) [.int .i64 (-9),.int .i64 0,.string ⟨#[]⟩])) ⟨(by first | rfl | (refine bT ?_;omega)),trivial⟩ (by (iterate 22 refine bd rfl ?_);exact br) ⟨?_,?_⟩
  ·exact ⟨by omega,P3,eQ hG (eM.grown O3)⟩
  ·show n-(k+1)<n-k;omega
 refine cL (bB (bB (cw (ai (ah (mvs rfl (ab (cl (l:=[]) (qS)) (lG (l:=[(0,.tmp 14)]) (cells:=#[.int .i64 0,.int .i64 0,.string ⟨#[]⟩]) jj rfl rfl (by first | rfl | kernel_rfl) ?_))))))));intro bx w4 Ex hbx hkx;refine jZ (news:=[.int .i64 0,.int .i64 0,.string ⟨#[]⟩]) jj rfl (by decide) rfl (ho2.kept_from Ex) (Nat.le_trans hb (Nat.le_trans hG.size Ex.size)) rfl rfl (fun _=>⟨bx,0,rfl,hkx.whole⟩) (fun h=>by cases h) (by simp [Value.oneCell']) (by omega) (by omega) ?_;intro Ax cx w5 hox hgx;refine ass rfl (an (da (eg rfl (⟨rfl,eQ (eQ hG (Ex.grown _)) hgx⟩))))
theorem jI (base:Nat) (A:Option Addr) (c n:Nat) (xs:List Value) (w:World) (ho:w.ownsRow base 3 1 (.slice A n c) n xs) (hb:base≤w.heap.size) (hl:n≤1000000000) :
 Rt prog 43 [.slice A n c] w (fun v w'=>v=.tuple #[]∧w.grownBy w' (A.map (·.block))):=by
 refine enter (n:=15) Tryz.func43 rfl rfl rfl (ao (ao (ah (asi rfl (an (ai (bk (dr (G:=Nat×List Value) [3,4,5,6,7,8,9,10,11] (fun (k,_)=>[(2,.int .i64 (k:Nat))]) (fun (k,ys) w'=>k≤n∧w'.ownsRow base 3 1 (.slice A n c) n ys∧w.grownBy w' (A.map (·.block))) (fun (k,_)=>n-k) ((0,xs)) ⟨rfl,trivial⟩ ?_ ?_))))))))
 ·exact ⟨Nat.zero_le _,ho,World.grownBy.refl _ _⟩
 rintro ⟨k,ys⟩ ρ1 w1 ⟨hk,ho2,hG⟩;refine ao (ao (ah (mvi rfl (mvs rfl (ab (bU cy rfl) (ab (ch rfl rfl) (an (ai (AT rfl (fun Q2=>?_) (fun Q2=>?_))))))))))
 ·obtain ⟨g,rfl⟩:=fR ho2 (by omega);refine aO (ai (ao (bk (ah (mvs rfl (mvi rfl (ab (eu cX rfl rfl (by omega)) (mC (i:=k) (v:=.int .i64 (-99)) bc rfl rfl rfl ho2 (by omega) ?_))))))));intro w3 O3 P3;refine an (bN (ai (ah (mvi rfl (ab (cn rfl rfl (by omega)) (asi rfl (an ?_)))))));refine bL ((k+1,ys.set k (.int .i64 (-99)))) ⟨(by first | rfl | (refine bT ?_;omega)),trivial⟩ (by (iterate 20 refine bd rfl ?_);exact br) ⟨?_,?_⟩
  ·exact ⟨by omega,P3,eQ hG (eM.grown O3)⟩
  ·show n-(k+1)<n-k;omega
 refine cL (bB (bB (cw (ai (ah (mvs rfl (lG (l:=[(0,.const (.int .i64 5))]) (cells:=#[.int .i64 5]) bP rfl rfl (by first | rfl | kernel_rfl) ?_)))))));intro bx w4 Ex hbx hkx;refine jZ (news:=[.int .i64 5]) bP rfl (by decide) rfl (ho2.kept_from Ex) (Nat.le_trans hb (Nat.le_trans hG.size Ex.size)) rfl rfl (fun _=>⟨bx,0,rfl,hkx.whole⟩) (fun h=>by cases h) (by simp [Value.oneCell']) (by omega) (by omega) ?_;intro Ax cx w5 hox hgx;refine ass rfl (an (da (eg rfl (⟨rfl,eQ (eQ hG (Ex.grown _)) hgx⟩))))
def mZ (k:Int):Msg:={ zM with k:=k }
def qZ:Rd×Option Addr×Nat:=(⟨-9,0,0,[]⟩,none,0)
section
variable {α:Type}
def spX (z:α) (X:List α) (k:Nat):List α:=List.replicate k z++X.drop k
theorem j5 {z:α} {X:List α} {k:Nat} (h:k≤X.length):(spX z X k).length=X.length:=by simp [spX];omega
theorem wi {z:α} {X:List α} {k:Nat} (h:k<X.length):(spX z X k)[k]'(by rw [j5 (by omega)];exact h)=X[k]:=by
 simp [spX,List.getElem_append_right]
theorem uA {z:α} {X:List α} {k:Nat} (h:k<X.length):(spX z X k).set k z=spX z X (k+1):=by
 unfold spX;rw [List.set_append_right _ _ (by simp),List.length_replicate,Nat.sub_self,List.drop_eq_getElem_cons h,List.set_cons_zero,List.replicate_succ',List.append_assoc];rfl
end
theorem AJ (k:Int):Instr.fill (fun i=>some (i*13,13)) ((Array.range (1*13)).map ((.agg (bC (mZ 0)).toArray:Value).cells[·%(.agg (bC (mZ 0)).toArray:Value).cells.size]!)) [(0,.agg (bC (mZ k)).toArray)]=some (bC (mZ k)).toArray:=by
 first
  |kernel_rfl
  |rfl
def U5 (Z:Nat) (tag:Nat→Nat) (j:Nat):Nat→Prop:=fun q=>q<Z∧tag q<j
def UA (Z:Nat) (tag:Nat→Nat) (k:Nat):Nat→Prop:=fun q=>q<Z∧(tag q≤5∨∃ i,i<k∧tag q=1001+2*i)
def UM (Z:Nat) (tag:Nat→Nat) (k:Nat):Nat→Prop:=fun q=>q<Z∧(tag q=6∨∃ i,i<k∧tag q=1000+2*i)
theorem U5.up {Z j:Nat} {tag:Nat→Nat} {w w':World} (h:Chg (U5 Z tag j) w w'):Chg (U5 Z tag (j+1)) w w':=h.wide fun _ h=>.inl ⟨h.1,Nat.lt_succ_of_lt h.2⟩
theorem UA.up {Z k:Nat} {tag:Nat→Nat} {w w':World} (h:Chg (UA Z tag k) w w'):Chg (UA Z tag (k+1)) w w':=h.wide fun _ h=>.inl ⟨h.1,h.2.imp id fun ⟨i,a,b⟩=>⟨i,Nat.lt_succ_of_lt a,b⟩⟩
theorem UM.up {Z k:Nat} {tag:Nat→Nat} {w w':World} (h:Chg (UM Z tag k) w w'):Chg (UM Z tag (k+1)) w w':=h.wide fun _ h=>.inl ⟨h.1,h.2.imp id fun ⟨i,a,b⟩=>⟨i,Nat.lt_succ_of_lt a,b⟩⟩
theorem ov {w0 w1 w2 w3:World} {tag:Nat→Nat} {d e s n c:Nat} {A:Option Addr} {xs:List Value} (h:w0.ownsRow 0 e s (.slice A n c) n xs∧Col tag d A) (hg:w2.grownBy w3 (A.map (·.block))) (hC:Chg (U5 w0.heap.size tag d) w1 w2):Chg (U5 w0.heap.size tag (d+1)) w1 w3:=
 (U5.up hC).next (Chg.of_grown hg fun q hq=>⟨ek h.1 q hq,by rw [h.2 q hq];exact Nat.lt_succ_self _⟩)
theorem j4 (tag:Nat→Nat) (s:Rf) (a:Ra) (w:World) (h:bo w tag s a) (hl:s.votes.length≤1000000∧s.next.length≤1000000∧s.mtch.length≤1000000∧s.sent.length≤1000000∧s.reads.length≤1000000∧∀ q∈s.reads,q.acks.length≤1000000) (hel:s.es.length≤1000000) :
 Rt prog 51 [.agg (rfV s a).toArray] w (fun v w'=>v=.tuple #[]∧Chg (fun q=>StC (tag q)) w w'):=by
 obtain ⟨hl1,hl2,hl3,hl4,hl5,hl6⟩:=id hl;have hLl:a.L.length=s.reads.length:=by rw [←h.r (by decide),List.length_map]
 refine enter (n:=38) Tryz.func51 rfl rfl rfl (ao (ah (bZ (v:=.agg _) rfl ?_)));intro b1 w1 E1 hb1 hk1;refine an (ai (ao (ah (ab (aa bn rfl) (ab (aa di rfl) (ab (ar bR rfl (by exact (show _=some (Value.slice a.E s.es.length a.Ec) from (hk1.from_ ag.rfl_).rd 8 rfl))) ?_))))));have hz0:=E1.size;have hB1:ag w w1:=(ag.rfl_.next E1);have hC0:Chg (U5 w.heap.size tag 0) w1 w1:=Chg.rfl_;have hkb0:=hk1.from_ ag.rfl_;have hn1:∀ j,¬ U5 w.heap.size tag j b1:=fun j e=>absurd e.1 (by omega)
 have hnA:∀ j,¬ UA w.heap.size tag j b1:=fun j e=>absurd e.1 (by omega)
 obtain ⟨wb,hwb⟩:∃ x,x=w1:=⟨_,rfl⟩;rw [←hwb] at hB1 hC0 hkb0;have hr0:=eE ((h.e (by decide)).1.kept_from hB1) hC0 (fun k hk e=>absurd e.2 (by rw [(h.e (by decide)).2 k hk];omega));refine aC nD (pH 0 a.E a.Ec s.es.length (dT s.es) _ (by rw [←hwb];exact hr0) (Nat.zero_le _) (by omega)) ?_;rintro v6 w2 ⟨rfl,hg0⟩;rw [←hwb] at hg0;have hC1:=ov (h.e (by decide)) hg0 hC0;have hkb1:=hkb0.chg hC1 (hn1 _);refine an (ai (ao (ah (ab (aa dc rfl) (ab (ar bt rfl (by exact (show _=some (Value.slice a.V s.votes.length a.Vc) from (hkb1.from_ ag.rfl_).rd 14 rfl))) ?_)))));have hM1:ag _ w2:=ag.rfl_;have hr1:=eE ((h.v (by decide)).1.kept_from hB1) (hC1.next hM1.toChg) (fun k hk e=>absurd e.2 (by rw [(h.v (by decide)).2 k hk];omega));refine aC iz (jI 0 a.V a.Vc s.votes.length (s.votes.map iV) _ hr1 (Nat.zero_le _) (by omega)) ?_;rintro v9 w3 ⟨rfl,hg1⟩;have hC2:=ov (h.v (by decide)) hg1 (hC1.next hM1.toChg);have hkb2:=hkb0.chg hC2 (hn1 _);refine an (ai (ao (ah (ab (aa cQ rfl) (ab (ar bt rfl (by exact (show _=some (Value.slice a.X s.next.length a.Xc) from (hkb2.from_ ag.rfl_).rd 15 rfl))) ?_)))));have hM2:ag _ w3:=ag.rfl_;have hr2:=eE ((h.x (by decide)).1.kept_from hB1) (hC2.next hM2.toChg) (fun k hk e=>absurd e.2 (by rw [(h.x (by decide)).2 k hk];omega));refine aC iz (jI 0 a.X a.Xc s.next.length (s.next.map iV) _ hr2 (Nat.zero_le _) (by omega)) ?_;rintro v12 w4 ⟨rfl,hg2⟩;have hC3:=ov (h.x (by decide)) hg2 (hC2.next hM2.toChg);have hkb3:=hkb0.chg hC3 (hn1 _);refine an (ai (ao (ah (ab (aa cY rfl) (ab (ar bt rfl (by exact (show _=some (Value.slice a.M s.mtch.length a.Mc) from (hkb3.from_ ag.rfl_).rd 16 rfl))) ?_)))));have hM3:ag _ w4:=ag.rfl_;have hr3:=eE ((h.m (by decide)).1.kept_from hB1) (hC3.next hM3.toChg) (fun k hk e=>absurd e.2 (by rw [(h.m (by decide)).2 k hk];omega));refine aC iz (jI 0 a.M a.Mc s.mtch.length (s.mtch.map iV) _ hr3 (Nat.zero_le _) (by omega)) ?_;rintro v15 w5 ⟨rfl,hg3⟩;have hC4:=ov (h.m (by decide)) hg3 (hC3.next hM3.toChg);have hkb4:=hkb0.chg hC4 (hn1 _);refine an (ai (ao (ah (ab (aa dd rfl) (ab (ar bt rfl (by exact (show _=some (Value.slice a.S s.sent.length a.Sc) from (hkb4.from_ ag.rfl_).rd 17 rfl))) ?_)))));have hM4:ag _ w5:=ag.rfl_;have hr4:=eE ((h.n (by decide)).1.kept_from hB1) (hC4.next hM4.toChg) (fun k hk e=>absurd e.2 (by rw [(h.n (by decide)).2 k hk];omega));refine aC iz (jI 0 a.S a.Sc s.sent.length (s.sent.map iV) _ hr4 (Nat.zero_le _) (by omega)) ?_;rintro v18 w6 ⟨rfl,hg4⟩;have hC5:=ov (h.n (by decide)) hg4 (hC4.next hM4.toChg);have hkb5:=hkb0.chg hC5 (hn1 _);refine an (ai (ao (ah (asi rfl (an (ai (bk (dr (G:=Nat) [19,20,21,22,23,24,25,26,27,28,29,30,31,32,33,34,35,36,37] (fun k=>[(2,.int .i64 (k:Nat))]) (fun k w'=>k≤a.L.length∧w'.ownsRow 0 54 4 (.slice a.Q a.L.length a.Qc) a.L.length ((spX qZ a.L k).flatMap rdV)∧Chg (UA w.heap.size tag k) wb w') (fun k=>a.L.length-k) (0) ⟨rfl,trivial⟩ ?_ ?_))))))))
 ·exact ⟨Nat.zero_le _,eE ((h.q (by decide)).1.kept_from hB1) (hC5.next (ag.rfl_:ag _ w6).toChg) (fun k hk e=>absurd e.2 (by rw [(h.q (by decide)).2 k hk];omega)),(hC5.next (ag.rfl_:ag _ w6).toChg).wide fun q e=>.inl ⟨e.1,.inl (by have:=e.2;omega)⟩⟩
 rintro k ρ7 w7 ⟨hk,hoQ,hCk⟩;refine ao (ao (ah (mvi rfl (ab (aa cf rfl) (ab (ar ed rfl (by exact (show _=some (Value.slice a.Q a.L.length a.Qc) from ((hkb0.chg hCk (hnA _)).from_ ag.rfl_).rd 19 rfl))) ?_)))));refine ab (bU fq rfl) (ab (ch rfl rfl) (an (ai (AT rfl (fun Q8=>?_) (fun Q8=>?_)))))
 ·have hkL:k<a.L.length:=by omega
  have hqk:a.L[k].1∈s.reads:=by rw [←h.r (by decide)];exact List.mem_map_of_mem (List.getElem_mem hkL)
  obtain ⟨gq,hgq⟩:∃ g,a.Q=some ⟨g,0,none⟩:=fR hoQ (by omega);have hcq:∀ q,a.Q.map (·.block)=some q→tag q=5:=fun q hq=>(h.q (by decide)).2 q hq
  have hlq:=ek (h.q (by decide)).1;rw [hgq] at hoQ hcq hlq;have hkq:Blk w7 b1 29 (rfV s { a with Q:=some ⟨gq,0,none⟩ }).toArray:=by rw [←hgq];exact (hkb0.chg hCk (hnA _)).from_ ag.rfl_
  obtain ⟨bx,ox,hAx,hcx⟩:=(iu.own jz (by decide) hoQ).2 (by rw [j5 (by omega)];omega);cases hAx;have hvx:=hcx k (by rw [j5 (by omega)];exact hkL);rw [wi hkL] at hvx;have hc31:(w7).cell? ⟨gq,0+k*4+3,none⟩=some (.slice a.L[k].2.1 a.L[k].1.acks.length a.L[k].2.2):=fy ag.rfl_ (hvx 3 _ rfl);refine aO (ai (ao (bk (ao (ah (ab (aa cf rfl) (ab (ar ed rfl (by exact (show _=some (Value.slice (some ⟨gq,0,none⟩) a.L.length a.Qc) from (hkq.from_ ag.rfl_).rd 19 rfl))) ?_)))))));refine mvi rfl (ab (b_ gx rfl rfl (by omega)) (ab (aa fx rfl) (ab (ar bt rfl (by exact fy ag.rfl_ hc31)) ?_)));have hM32:ag _ w7:=ag.rfl_;have hrk:=eE ((h.k k hkL (by omega)).1.kept_from hB1) (hCk.next hM32.toChg) (fun q hq e=>by rcases e.2 with e2 | ⟨i,hi,e2⟩ <;> rw [(h.k k hkL (by omega)).2 q hq] at e2 <;> omega);refine aC iz (jI 0 a.L[k].2.1 a.L[k].2.2 a.L[k].1.acks.length (a.L[k].1.acks.map iV) _ hrk (Nat.zero_le _) (by have:=hl.2.2.2.2.2 _ hqk;omega)) ?_;rintro v32 w9 ⟨rfl,hg32⟩;have hC9:Chg (UA w.heap.size tag (k+1)) wb w9:=(UA.up (hCk.next hM32.toChg)).next (Chg.of_grown hg32 fun q hq=>⟨ek (h.k k hkL (by omega)).1 q hq,.inr ⟨k,Nat.lt_succ_self _,(h.k k hkL (by omega)).2 q hq⟩⟩);have hoQ9:=eE (hoQ.kept_from hM32) (Chg.of_grown (U:=fun q=>tag q=1001+2*k) hg32 fun q hq=>(h.k k hkL (by omega)).2 q hq) (fun q hq e=>by have:=hcq q hq;omega);refine an (ai (ah (ab (aa cf rfl) ?_)));refine ab (ar ed rfl (by exact (show _=some (Value.slice (some ⟨gq,0,none⟩) a.L.length a.Qc) from by rw [←hgq];exact ((hkb0.chg hC9 (hnA _)).from_ ag.rfl_).rd 19 rfl))) ?_;refine mvi rfl (ab (cl (l:=[(0,.const (.int .i64 (-9)))]) (ks)) (ab (b_ gx rfl rfl (by omega)) ?_));have hM10:ag _ w9:=ag.rfl_;have hoQ8:=hoQ9.kept_from hM10;obtain ⟨g',cur,hgA,_,hbk,_⟩:=nQ hoQ8 (by omega);cases hgA;refine lF (size:=4) (o:=k*4) (vs:=rdV qZ) fE (by show Value.pointer (some ⟨gq,0+k*4,none⟩)=_;rw [Nat.zero_add]) rfl (by simp [rdV,qZ,Value.oneCell']) hoQ8 (by omega) (by show k*4+4≤a.L.length*4;omega) ?_;intro w10 O10 P10;rw [pT jz _ k (by rw [j5 (by omega)];exact hkL),uA hkL] at P10;have hC10:Chg (UA w.heap.size tag (k+1)) wb w10:=(hC9.next hM10.toChg).next (O10.toChg ⟨hlq gq rfl,.inl (by have:=hcq gq rfl;omega)⟩);rw [←hgq] at P10;refine an (bN (ai (ah (mvi rfl (ab (cn rfl rfl (by omega)) (asi rfl (an ?_)))))));refine bL (k+1) ⟨(by first | rfl | (refine bT ?_;omega)),trivial⟩ (by (iterate 40 refine bd rfl ?_);exact br) ⟨?_,?_⟩
  ·exact ⟨by omega,P10.kept_from ag.rfl_,(hC10.next (ag.rfl_:ag _ w10).toChg)⟩
  ·omega
 refine cL (bB (bB (cw (da (eg rfl (⟨rfl,(hB1.toChg.next ((hCk.next (ag.rfl_:ag _ w7).toChg).wide fun q e=>.inl ?_))⟩))))));rcases e.2 with e2 | ⟨i,_,e2⟩
 ·exact .inl e2
 ·exact .inr ⟨i,e2⟩
theorem lW (tag:Nat→Nat) (out:List Msg) (A:Option Addr) (c:Nat) (L:List Msg) (w:World) (h:eC w tag out A c L) (hl:L.length≤100000) (hle:∀ x∈L,x.es.length≤1000000) :
 Rt prog 52 [.slice A L.length c] w (fun v w'=>v=.tuple #[]∧Chg (fun q=>tag q=6∨∃ i,tag q=1000+2*i) w w'):=by
 refine enter (n:=23) Tryz.func52 rfl rfl rfl (ao (ao (ah (asi rfl (an (ai (bk (dr (G:=Nat) [3,4,5,6,7,8,9,10,11,12,13,14,15,16,17,18] (fun k=>[(2,.int .i64 (k:Nat))]) (fun k w'=>k≤L.length∧w'.ownsRow 0 39 13 (.slice A L.length c) L.length ((spX (mZ (-9)) L k).flatMap bC)∧Chg (UM w.heap.size tag k) w w') (fun k=>L.length-k) (0) ⟨rfl,trivial⟩ ?_ ?_))))))))
 ·exact ⟨Nat.zero_le _,h.o.kept_from ag.rfl_,(ag.rfl_:ag _ w).toChg⟩
 rintro k ρ1 w1 ⟨hk,hoQ,hCk⟩;refine ao (ao (ah (mvi rfl (mvs rfl (ab (bU ln rfl) (ab (ch rfl rfl) (an (ai (AT rfl (fun Q2=>?_) (fun Q2=>?_))))))))))
 ·have hkX:k<L.length:=by omega
  obtain ⟨g,hgq⟩:∃ g,A=some ⟨g,0,none⟩:=fR hoQ (by omega);subst hgq;have hcq:∀ q,(some (⟨g,0,none⟩:Addr)).map (·.block)=some q→tag q=6:=fun q hq=>h.c q hq
  have hlq:=ek h.o;have hEk:=hle _ (List.getElem_mem hkX);obtain ⟨bx,ox,hAx,hcx⟩:=(iu.own nR (by decide) hoQ).2 (by rw [j5 (by omega)];omega);cases hAx;have hvx:=hcx k (by rw [j5 (by omega)];exact hkX);rw [wi hkX] at hvx;refine aO (ai (ao (bk (ao (ah (mvs rfl (mvi rfl (ab (b_ lp rfl rfl (by omega)) (ab (aa dz rfl) (ab (ar bR rfl (by exact fy ag.rfl_ (hvx 9 _ rfl))) ?_))))))))));have hM14:ag _ w1:=ag.rfl_;have hrk:=eE (h.e k hkX).1 (hCk.next hM14.toChg) (fun q hq e=>by rcases e.2 with e2 | ⟨i,hi,e2⟩ <;> rw [(h.e k hkX).2 q hq] at e2 <;> omega);refine aC nD (pH 0 L[k].E L[k].c L[k].es.length (dT L[k].es) _ hrk (Nat.zero_le _) (by omega)) ?_;rintro v14 w3 ⟨rfl,hg14⟩;have hC9:Chg (UM w.heap.size tag (k+1)) w w3:=(UM.up (hCk.next hM14.toChg)).next (Chg.of_grown hg14 fun q hq=>⟨ek (h.e k hkX).1 q hq,.inr ⟨k,Nat.lt_succ_self _,(h.e k hkX).2 q hq⟩⟩);have hoQ9:=eE (hoQ.kept_from hM14) (Chg.of_grown (U:=fun q=>tag q=1000+2*k) hg14 fun q hq=>(h.e k hkX).2 q hq) (fun q hq e=>by have:=hcq q hq;omega);refine an (ai (ah (mvs rfl (mvi rfl (ab (cl (l:=[(0,.const (.int .i64 (-9)))]) (kt)) (ab (b_ lp rfl rfl (by omega)) ?_))))));have hM10:ag _ w3:=ag.rfl_;have hoQ8:=hoQ9.kept_from hM10;obtain ⟨g',cur,hgA,_,hbk,_⟩:=nQ hoQ8 (by omega);cases hgA;refine lF (size:=13) (o:=k*13) (vs:=bC (mZ (-9))) aY (by show Value.pointer (some ⟨g,0+k*13,none⟩)=_;rw [Nat.zero_add]) rfl (by simp [bC,mZ,zM,Value.oneCell']) hoQ8 (by omega) (by show k*13+13≤L.length*13;omega) ?_;intro w4 O10 P10;rw [pT nR _ k (by rw [j5 (by omega)];exact hkX),uA hkX] at P10;have hC10:Chg (UM w.heap.size tag (k+1)) w w4:=(hC9.next hM10.toChg).next (O10.toChg ⟨hlq g rfl,.inl (by have:=hcq g rfl;omega)⟩);refine an (bN (ai (ah (mvi rfl (ab (cn rfl rfl (by omega)) (asi rfl (an ?_)))))));refine bL (k+1) ⟨(by first | rfl | (refine bT ?_;omega)),trivial⟩ (by (iterate 34 refine bd rfl ?_);exact br) ⟨?_,?_⟩
  ·exact ⟨by omega,P10.kept_from ag.rfl_,hC10.next (ag.rfl_:ag _ w4).toChg⟩
  ·omega
 refine cL (bB (bB (cw (ai (ah (mvs rfl (ab (cl (l:=[]) (qT)) ?_)))))));have hM21:ag _ w1:=ag.rfl_;refine lG (l:=[(0,.tmp 20)]) (cells:=(bC (mZ 0)).toArray) ia rfl rfl (AJ 0) ?_;intro b21 w5 E21 hb21 hk21;have hM22:ag _ w5:=(hM21.next E21);have ho9:=hoQ.kept_from hM22;refine jZ (base:=0) (news:=bC (mZ 0)) ia rfl (by decide) rfl ho9 (Nat.zero_le _) rfl rfl (fun _=>⟨b21,0,rfl,hk21.whole⟩) (fun h=>by cases h) (by simp [bC,mZ,zM,Value.oneCell']) (by omega) (by omega) ?_;intro A22 c22 w6 ho22 hg22;have hC22:Chg (UM w.heap.size tag L.length) w w6:=((hCk.wide fun q e=>.inl ⟨e.1,e.2.imp id fun ⟨i,a,b⟩=>⟨i,by omega,b⟩⟩).next hM22.toChg).next (Chg.of_grown hg22 fun q hq=>⟨ek h.o q hq,.inl (h.c q hq)⟩);refine ass rfl (an (da (eg rfl (⟨rfl,(hC22.next (ag.rfl_:ag _ w6).toChg).wide fun q e=>.inl (e.2.imp id fun ⟨i,_,b⟩=>⟨i,b⟩)⟩))))
end Go.Proofs.YtkpooenofjdpmaaGreat
namespace Go.Proofs.YtkpooenofjdpmaaGreat
open Go.Proofs.Tryz (prog)
open Go.RowKit
abbrev u4:Ty:=.pr (.int .i64) (.pr (.int .i64) (.pr .str .unit))
theorem uU {w:World} {c:Nat→Option Value} {xs:List u4.den} (h:(Ty.sl u4).At w c xs) :
 ∃ (v:Value) (es:List Ent),c 0=some v∧cC w v es∧(∀ e∈es,e.Ok)∧es.length*32≤140737488351232:=by
 obtain ⟨A,cap,h0,h1,h2,h3⟩:=h;refine ⟨_,xs.map fun x=>⟨x.1,x.2.1,x.2.2.1⟩,h0,⟨A,cap,by rw [List.length_map],by rw [List.length_map];exact h2.1,h2.2.1,h2.2.2,fun hp=>?_⟩,?_,by rw [List.length_map];exact h1⟩
 ·rw [List.length_map] at hp;obtain ⟨b,o,hA,hb,hi⟩:=h3 hp;refine ⟨b,o,hA,hb,fun i hil=>?_⟩;rw [List.length_map] at hil;obtain ⟨⟨c1,_⟩,⟨c2,_⟩,⟨c3,_⟩,_⟩:=hi i _ (List.getElem?_eq_getElem hil);rw [List.getElem_map];exact ⟨c1,c2,c3⟩
 ·intro e he;simp only [List.mem_map] at he;obtain ⟨x,hx,rfl⟩:=he;obtain ⟨i,hil,rfl⟩:=List.mem_iff_getElem.1 hx;obtain ⟨b,o,hA,hb,hi⟩:=h3 (Nat.lt_of_le_of_lt (Nat.zero_le _) hil);obtain ⟨⟨_,c1⟩,⟨_,c2⟩,⟨_,c3⟩,_⟩:=hi i _ (List.getElem?_eq_getElem hil);have b1:=bounds_i64 c1;have b2:=bounds_i64 c2;exact ⟨b1.1,b1.2,b2.1,b2.2,c3⟩
end Go.Proofs.YtkpooenofjdpmaaGreat
namespace Go.Proofs.YtkpooenofjdpmaaGreat
open Go.Proofs.Tryz (prog)
open Go.RowKit
open Go.ChangeShapes Go.WideShapes Go.ChangeAt
theorem sU:cI prog 99 2=some 2:=by kernel_rfl
theorem sT:(prog.underlying 3).isSome=true:=by kernel_rfl
theorem pg:prog.underlying 108=some (.int .u64):=by kernel_rfl
theorem uq:(prog.underlying 108).isSome=true:=by kernel_rfl
theorem ye:prog.underlying 3=some (.int .i64):=by kernel_rfl
theorem qj:aQ prog 25=true:=by kernel_rfl
abbrev A_:Ty:=.pr (.int .i64) (.pr (.int .i64) (.pr (.int .i64) (.pr (.int .i64) (.pr (.int .i64) (.pr (.int .i64) (.pr (.int .i64) (.pr (.int .i64) (.pr .bool (.pr (.sl u4) (.pr (.int .i64) (.pr .str (.pr .bool .unit))))))))))))
abbrev tU:Ty:=.pr (.int .i64) (.pr A_ (.pr .bool (.pr .str (.pr (.int .i64) .unit))))
abbrev wL:Ty:=.pr (.int .i64) (.pr (.int .i64) (.pr (.int .i64) (.pr (.sl (.int .i64)) .unit)))
abbrev Be:Ty:=.pr (.int .i64) (.pr (.int .i64) (.pr (.sl u4) .unit))
abbrev oE:Ty:=.pr (.int .i64) (.pr (.int .i64) (.pr (.int .i64) (.pr (.int .i64) (.pr (.int .i64) (.pr (.int .i64) (.pr Be (.pr .str (.pr (.int .i64) (.pr (.int .i64) (.pr (.int .i64) (.pr (.int .u64) (.pr (.sl (.int .i64)) (.pr (.sl (.int .i64)) (.pr (.sl (.int .i64)) (.pr (.sl (.int .i64)) (.pr (.int .i64) (.pr (.sl wL) (.pr .str (.pr (.int .i64) .unit)))))))))))))))))))
structure Ac where
 dx:Int
 m:Msg
 fit:Bool
 d:ByteArray
 i:Int
def acV (x:Ac):List Value:=.int .i64 x.dx::(bC x.m++[.bool x.fit,.string x.d,.int .i64 x.i])
theorem uY {α:Type} {f:α→List Value} {t:Ty} {w:World} {P:α→Prop} (hg:∀ (c:Nat→Option Value) (x:t.den),t.At w c x→∃ y:α,(∀ j v,(f y)[j]? =some v→c j=some v)∧P y) {c:Nat→Option Value} {xs:List t.den} (h:(Ty.sl t).At w c xs) :
 ∃ (A:Option Addr) (cap:Nat) (L:List α),c 0=some (.slice A L.length cap)∧iu t.size f w A L∧(∀ y∈L,P y)∧L.length*t.bytes≤140737488351232∧L.length≤cap∧cap≤9223372036854775807∧(A=none→L.length=0∧cap=0):=by
 obtain ⟨A,cap,h0,h1,h2,h3⟩:=h
 have hno:A=none→xs.length=0:=fun e=>by
  rcases Nat.eq_zero_or_pos xs.length with hz | hz
  ·exact hz
  ·obtain ⟨b,o,hA,_⟩:=h3 hz;rw [e] at hA;cases hA
 rcases Nat.eq_zero_or_pos xs.length with hz | hz
 ·refine ⟨A,cap,[],by rw [h0];rw [hz];rfl,fun h=>absurd h (Nat.lt_irrefl _),fun y hy=>(by cases hy),(by rw [List.length_nil,Nat.zero_mul];exact Nat.zero_le _),Nat.zero_le _,h2.2.1,fun e=>⟨rfl,h2.2.2 e⟩⟩
 ·obtain ⟨b,o,hA,hb,hi⟩:=h3 hz;have g:∀ i:Fin xs.length,∃ y:α,(∀ j v,(f y)[j]? =some v→w.cell? ⟨b,o+i*t.size+j,none⟩=some v)∧P y:=fun i=>hg _ _ (hi i.1 xs[i.1] (List.getElem?_eq_getElem i.2))
  refine ⟨A,cap,List.ofFn fun i=>Classical.choose (g i),by rw [List.length_ofFn];exact h0,fun _=>⟨b,o,hA,fun i hil=>?_⟩,fun y hy=>?_,by rw [List.length_ofFn];exact h1,by rw [List.length_ofFn];exact h2.1,h2.2.1,fun e=>⟨by rw [List.length_ofFn];exact hno e,h2.2.2 e⟩⟩
  ·rw [List.length_ofFn] at hil;intro j v hv;rw [List.getElem_ofFn] at hv;exact (Classical.choose_spec (g ⟨i,hil⟩)).1 j v hv
  ·obtain ⟨i,hil,rfl⟩:=List.getElem_of_mem hy;rw [List.length_ofFn] at hil;rw [List.getElem_ofFn];exact (Classical.choose_spec (g ⟨i,hil⟩)).2
theorem sq {w:World} {c:Nat→Option Value} {xs:List Int} (h:(Ty.sl (.int .i64)).At w c xs):∃ (A:Option Addr) (cap:Nat),c 0=some (.slice A xs.length cap)∧IR w A cap xs∧xs.length*8≤140737488351232:=by
 have h':=h;obtain ⟨A0,c0,g0,g1,g2,g3⟩:=h';obtain ⟨A,cap,h0,hr,_,hb,hc⟩:=zg h;rw [g0] at h0;cases h0;refine ⟨A0,c0,g0,⟨(et.of_row hr).2,hc.1,hc.2,fun e=>⟨?_,g2.2.2 e⟩⟩,hb⟩;rcases Nat.eq_zero_or_pos xs.length with hz | hz
 ·exact hz
 ·obtain ⟨b,o,hA,_⟩:=g3 hz;rw [e] at hA;cases hA
def Bl (w:World) (q:Rd×Option Addr×Nat):Prop:=IR w q.2.1 q.2.2 q.1.acks∧q.1.acks.length*8≤140737488351232
theorem ze {w:World} (c:Nat→Option Value) (x:wL.den) (h:wL.At w c x):∃ q:Rd×Option Addr×Nat,(∀ j v,(rdV q)[j]? =some v→c j=some v)∧Bl w q:=by
 obtain ⟨x0,x1,x2,xl,_⟩:=x;obtain ⟨g0,g1,g2,gl,_⟩:=h;obtain ⟨A,cap,e0,e1,e2⟩:=sq gl;refine ⟨(⟨x0,x1,x2,xl⟩,A,cap),fun j v hv=>?_,e1,e2⟩
 match j,hv with
 |0,hv=>cases hv;exact g0.1
 |1,hv=>cases hv;exact g1.1
 |2,hv=>cases hv;exact g2.1
 |3,hv=>cases hv;exact e0
 |j+4,hv=>simp [rdV] at hv
def vS (w:World) (x:Ac):Prop:=cC w (.slice x.m.E x.m.es.length x.m.c) x.m.es∧(∀ e∈x.m.es,e.Ok)∧x.m.es.length*32≤140737488351232∧x.m.d.size≤140737488351232∧x.d.size≤140737488351232
theorem vS.from_ {w w':World} {x:Ac} (h:vS w x) (hF:ag w w'):vS w' x:=⟨h.1.from_ hF,h.2⟩
theorem Ae {w:World} (c:Nat→Option Value) (x:tU.den) (h:tU.At w c x):∃ X:Ac,(∀ j v,(acV X)[j]? =some v→c j=some v)∧vS w X:=by
 obtain ⟨x0,⟨xk,xf,xt,xtm,xix,xlt,xcm,xrd,xok,xE,xa,xd,xdn,_⟩,xb,xs,xi,_⟩:=x;obtain ⟨g0,⟨g1,g2,g3,g4,g5,g6,g7,g8,g9,gE,g11,g12,g13,_⟩,g14,g15,g16,_⟩:=h;obtain ⟨v,es,e0,e1,e2,e3⟩:=uU gE;have e1':=e1;obtain ⟨E,c9,rfl,_⟩:=e1';refine ⟨⟨x0,{ zM with k:=xk,f:=xf,t:=xt,tm:=xtm,ix:=xix,lt:=xlt,cm:=xcm,rd:=xrd,ok:=xok,a:=xa,d:=xd,dn:=xdn,E:=E,c:=c9,es:=es },xb,xs,xi⟩,fun j v hv=>?_,e1,e2,e3,g12.2,g15.2⟩
 match j,hv with
 |0,hv=>cases hv;exact g0.1
 |1,hv=>cases hv;exact g1.1
 |2,hv=>cases hv;exact g2.1
 |3,hv=>cases hv;exact g3.1
 |4,hv=>cases hv;exact g4.1
 |5,hv=>cases hv;exact g5.1
 |6,hv=>cases hv;exact g6.1
 |7,hv=>cases hv;exact g7.1
 |8,hv=>cases hv;exact g8.1
 |9,hv=>cases hv;exact g9
 |10,hv=>cases hv;exact e0
 |11,hv=>cases hv;exact g11.1
 |12,hv=>cases hv;exact g12.1
 |13,hv=>cases hv;exact g13
 |14,hv=>cases hv;exact g14
 |15,hv=>cases hv;exact g15.1
 |16,hv=>cases hv;exact g16.1
 |j+17,hv=>simp [acV,bC] at hv
structure AY (s:Rf) (a:Ra):Prop where
 sn:s.snap.size≤140737488351232
 pa:s.part.size≤140737488351232
 es:s.es.length*32≤140737488351232
 eo:∀ e∈s.es,e.Ok
 v:s.votes.length*8≤140737488351232
 x:s.next.length*8≤140737488351232
 m:s.mtch.length*8≤140737488351232
 n:s.sent.length*8≤140737488351232
 q:a.L.length*48≤140737488351232
 k:∀ q∈a.L,q.1.acks.length*8≤140737488351232
theorem zf {w:World} {c:Nat→Option Value} {x:oE.den} (h:oE.At w c x):∃ (s:Rf) (a:Ra),(∀ j v,(rfV s a)[j]? =some v→c j=some v)∧eX w s a∧AY s a:=by
 obtain ⟨x0,x1,x2,x3,x4,x5,⟨xb,xt,xe,_⟩,xsn,xco,xel,xti,xse,xv,xx,xm,xn,xro,xq,xpa,xpo,_⟩:=x;obtain ⟨g0,g1,g2,g3,g4,g5,⟨g6,g7,g8,_⟩,g9,g10,g11,g12,g13,g14,g15,g16,g17,g18,g19,g20,g21,_⟩:=h;obtain ⟨v,es,e0,e1,e2,e3⟩:=uU g8;have e1':=e1;obtain ⟨E,Ec,rfl,_⟩:=e1';obtain ⟨V,Vc,v0,v1,v2⟩:=sq g14;obtain ⟨X,Xc,y0,y1,y2⟩:=sq g15;obtain ⟨M,Mc,m0,m1,m2⟩:=sq g16;obtain ⟨N,Nc,n0,n1,n2⟩:=sq g17;obtain ⟨Q,Qc,L,q0,q1,q2,q3,q4,q5,q6⟩:=uY (f:=rdV) ze g19;refine ⟨{ id:=x0,nodes:=x1,role:=x2,term:=x3,vote:=x4,leader:=x5,b:=xb,t:=xt,es:=es,snap:=xsn,commit:=xco,elapsed:=xel,timeout:=xti,seed:=xse,votes:=xv,next:=xx,mtch:=xm,sent:=xn,round:=xro,reads:=L.map (fun q=>q.1),part:=xpa,partOf:=xpo },⟨E,Ec,V,Vc,X,Xc,M,Mc,N,Nc,Q,Qc,L⟩,fun j v hv=>?_,⟨e1,v1,y1,m1,n1,rfl,q1,⟨q4,q5,q6⟩,fun q hq=>(q2 q hq).1⟩,⟨g9.2,g20.2,e3,e2,v2,y2,m2,n2,q3,fun q hq=>(q2 q hq).2⟩⟩
 match j,hv with
 |0,hv=>cases hv;exact g0.1
 |1,hv=>cases hv;exact g1.1
 |2,hv=>cases hv;exact g2.1
 |3,hv=>cases hv;exact g3.1
 |4,hv=>cases hv;exact g4.1
 |5,hv=>cases hv;exact g5.1
 |6,hv=>cases hv;exact g6.1
 |7,hv=>cases hv;exact g7.1
 |8,hv=>cases hv;exact e0
 |9,hv=>cases hv;exact g9.1
 |10,hv=>cases hv;exact g10.1
 |11,hv=>cases hv;exact g11.1
 |12,hv=>cases hv;exact g12.1
 |13,hv=>cases hv;exact g13.1
 |14,hv=>cases hv;exact v0
 |15,hv=>cases hv;exact y0
 |16,hv=>cases hv;exact m0
 |17,hv=>cases hv;exact n0
 |18,hv=>cases hv;exact g18.1
 |19,hv=>cases hv;exact q0
 |20,hv=>cases hv;exact g20.1
 |21,hv=>cases hv;exact g21.1
 |j+22,hv=>simp [rfV] at hv
structure tZ (w:World) (s:Rf) (a:Ra) (LA:Option Addr) (X:List Ac):Prop where
 r:eX w s a
 z:AY s a
 x:iu 17 acV w LA X
 o:∀ y∈X,vS w y
 n:X.length*147≤140737488351232
theorem tZ.from_ {w w':World} {s:Rf} {a:Ra} {LA:Option Addr} {X:List Ac} (h:tZ w s a LA X) (hF:ag w w'):tZ w' s a LA X:=⟨h.r.from_ hF,h.z,h.x.from_ hF,fun y hy=>(h.o y hy).from_ hF,h.n⟩
def scV (s:Rf) (a:Ra) (LA:Option Addr) (n lc:Nat):List Value:=rfV s a++[.slice LA n lc]
theorem Bk {cs:Array Value} {l:List Value} (hs:cs.size=l.length) (h:∀ (j:Nat) (v:Value),l[j]? =some v→cs[j]? =some v):cs=l.toArray:=by
 apply Array.ext_getElem?;intro i;rcases Nat.lt_or_ge i l.length with hi | hi
 ·rw [h i _ (List.getElem?_eq_getElem hi)];simp [hi]
 ·rw [Array.getElem?_eq_none (by omega)];simp [hi]
theorem vJ {w:World} {cs:Array Value} {x:(Ty.pr oE (.pr (.sl tU) .unit)).den} (hs:cs.size=23) (h:(Ty.pr oE (.pr (.sl tU) .unit)).At w (fun j=>cs[j]?) x):∃ s a LA lc X,cs=(scV s a LA (List.length X) lc).toArray∧tZ w s a LA X:=by
 obtain ⟨h1,h2,_⟩:=h;obtain ⟨s,a,hc,hr,hz⟩:=zf h1;obtain ⟨LA,lc,X,q0,q1,q2,q3,q4,q5,q6⟩:=uY (f:=acV) Ae h2;refine ⟨s,a,LA,lc,X,Bk hs fun j v hv=>?_,⟨hr,hz,q1,q2,q3⟩⟩;unfold scV at hv;rcases Nat.lt_or_ge j 22 with hj | hj
 ·rw [List.getElem?_append_left (show j<(rfV s a).length from hj)] at hv;exact hc j v hv
 ·rw [List.getElem?_append_right (show (rfV s a).length≤j from hj)] at hv
  obtain rfl:j=22:=by
   have:=(List.getElem?_eq_some_iff.1 hv).1;rw [jy] at this;simp at this;omega
  simp [jy] at hv;subst hv;exact q0
def Small (s:Rf) (X:List Ac):Prop:=(s.votes.length≤20000∧s.next.length≤20000∧s.mtch.length≤20000∧s.sent.length≤20000∧s.reads.length≤20000∧∀ q∈s.reads,q.acks.length≤20000)∧s.es.length≤600∧X.length≤100∧(s.snap.size≤20000∧s.part.size≤20000)∧∀ y∈X,y.m.es.length≤200∧y.m.d.size≤20000∧y.d.size≤20000
theorem xN {w:World} {A:Option Addr} {n c:Nat} {es:List Ent} (h:cC w (.slice A n c) es) (hs:∀ e∈es,e.Ok) (h0:0<n):∃ b o,A=some ⟨b,o,none⟩∧∀ j,j<n→∃ s:ByteArray,w.cell? ⟨b,o+j*3+2,none⟩=some (.string s)∧s.size≤140737488351232:=by
 obtain ⟨A',c',hv,_,_,_,hp⟩:=h;simp only [Value.slice.injEq] at hv;obtain ⟨rfl,rfl,rfl⟩:=hv;obtain ⟨b,o,hA,_,hc⟩:=hp h0;exact ⟨b,o,hA,fun j hj=>⟨es[j].d,(hc j hj).2.2,(hs _ (List.getElem_mem hj)).2.2.2.2⟩⟩
theorem me (A:Option Addr) (c n:Nat) (es:List Ent) (w:World) (he:cC w (.slice A n c) es) (ho:∀ e∈es,e.Ok) (hl:n≤140737488351232) :
 Rt prog 25 [.slice A n c] w (fun v w'=>(∃ m:Nat,v=.int .i64 (m:Nat)∧n≤m∧m≤562949953421312)∧w=w'):=by
 refine enter (n:=26) Tryz.func25 rfl rfl rfl (ao (ah (asi rfl (an (ai (ao (ah (mvs rfl (ab (bU cT rfl) (asi rfl (an (ai (ao (ao (ah (asi rfl ?_))))))))))))))));refine an (ai (bk (dr (G:=Nat×Nat) [7,8,9,10,11,12,13,14,15,16,17,18,19,20,21,22,23,24] (fun (m,k)=>[(3,.int .i64 (m:Nat)),(4,.int .i64 (k:Nat))]) (fun (m,k) w'=>k≤n∧n≤m∧m≤562949953421312∧w=w') (fun (_,k)=>n-k) ((n,0)) ⟨rfl,rfl,trivial⟩ ?_ ?_)))
 ·exact ⟨Nat.zero_le _,Nat.le_refl _,by omega,rfl⟩
 rintro ⟨m,k⟩ ρ1 w1 ⟨hk,hnm,hm,rfl⟩;refine ao (ao (ah (mvi rfl (mvs rfl (ab (bU cT rfl) (ab (ch rfl rfl) (mvb rfl (Ap (t:=11) rfl (fun Q2=>?_) (fun Q2=>?_)))))))))
 ·refine ae rfl (mvi rfl (ae rfl (ab (ch rfl rfl) (ab (aM (v:=.bool _) rfl rfl) (an (ai (AT rfl (fun Q3=>?_) (fun Q3=>?_))))))))
  ·obtain ⟨ba,oa,hA,hcs⟩:=xN he ho (by omega);subst hA;obtain ⟨s,hs1,hs2⟩:=hcs k (by omega);refine aO (ai (ao (bk (ah (mvi rfl (mvs rfl (mvi rfl (ab (b_ dP rfl rfl (by omega)) (ab (aa sU rfl) (ab (ar bF rfl (by exact hs1)) ?_))))))))));refine ab (df (by kernel_rfl) rfl) (ab (dD rfl rfl (by omega)) (asi rfl (an (bN (ai (ah (mvi rfl (ab (dD (b:=1) rfl rfl (by omega)) (asi rfl (an ?_))))))))));refine bL ((m+s.size,k+1)) ⟨(by first | rfl | (refine bT ?_;omega)),(by first | rfl | (refine bT ?_;omega)),trivial⟩ (by (iterate 41 refine bd rfl ?_);exact br) ⟨?_,?_⟩
   ·exact ⟨by omega,by omega,by omega,rfl⟩
   ·show n-(k+1)<n-k;omega
  refine cL (bB (bB (cw (ai (ao (ah (mvi rfl (asi rfl (an (ai (aE (bA (v:=.int _ _) rfl rfl (⟨⟨_,rfl,hnm,hm⟩,rfl⟩)))))))))))))
 refine aq rfl rfl (aq rfl rfl (ab (ay (v:=.bool _) rfl rfl) (an (ai (bg rfl (cL (bB (bB (cw (ai (ao (ah (mvi rfl (asi rfl ?_))))))))))))));refine an (ai (aE (bA (v:=.int _ _) rfl rfl (⟨⟨_,rfl,hnm,hm⟩,rfl⟩))))
def wiN (i:Int) (n:Nat):Nat:=(IntKind.u64.wrap i).toNat%n
theorem ky (i:Int) (n:Nat) (w:World) (hn:0<n∧n≤1000) :
 Rt prog 31 [.int .i64 i,.int .i64 (n:Nat)] w (fun v w'=>v=.int .i64 (wiN i n:Nat)∧w=w'):=by
 obtain ⟨a,ha,ha2⟩:∃ a:Nat,IntKind.u64.wrap i=(a:Int)∧a<18446744073709551616:=⟨(IntKind.u64.wrap i).toNat,by rw [IntKind.wrap_u64];omega,by rw [IntKind.wrap_u64];omega⟩;have hm:a%n<n:=Nat.mod_lt _ hn.1;have hwi:wiN i n=a%n:=by unfold wiN;rw [ha];rfl
 refine enter (n:=11) Tryz.func31 rfl rfl rfl (ao (ah (asi rfl (an (ai (ao (ah (mvi rfl (ab (uE sT pg rfl) (eS (t:=6) (v:=.int _ _) (v':=.int .u64 (a:Nat)) rfl (by rw [ha]) ?_))))))))));refine mvi rfl (ab (vn sT pg rfl (by omega)) (ab (mG rfl rfl (by omega)) ?_));refine eS (t:=9) (v:=.int _ _) (v':=.int .u64 ((a%n:Nat):Int)) rfl (by rw [Int.tmod_eq_emod_of_nonneg (by omega)];rfl) ?_;refine ab (wG uq ye rfl (by omega)) (asi rfl (an (ai (aE (bA (v:=.int _ _) rfl rfl ?_)))));rw [hwi];exact ⟨rfl,rfl⟩
theorem p6 (m:Msg) (w:World) (he:cC w (.slice m.E m.es.length m.c) m.es) (ho:∀ e∈m.es,e.Ok) (hl:m.es.length≤140737488351232) (hd:m.d.size≤140737488351232) :
 Rt prog 26 [.agg (bC m).toArray] w (fun v w'=>(∃ b,v=.bool b∧(b=false→m.es.length≤200∧m.d.size≤20000))∧ag w w'):=by
 refine enter (n:=19) Tryz.func26 rfl rfl rfl (ao (ah (bZ (v:=.agg _) rfl ?_)));intro b1 w1 E1 hb1 hk1;refine asb rfl (an (ai (ao (ah (ab (aa dC rfl) (ab (ar bF rfl (by exact (show _=some (Value.string m.d) from (hk1.from_ ag.rfl_).rd 11 rfl))) ?_))))));refine ab (df (by kernel_rfl) rfl) (ab (cq rfl rfl) (mvb rfl (Ap (t:=7) rfl (fun Q2=>?_) (fun Q2=>?_))))
 ·refine aq rfl rfl (aq rfl rfl (aq rfl rfl (aq rfl rfl (ab (aM (v:=.bool _) rfl rfl) (mvb rfl (aq rfl rfl (aq rfl rfl (aq rfl rfl ?_))))))));refine aq rfl rfl (ab (aM (v:=.bool _) rfl rfl) (asb rfl (an (ai (aE (bA (v:=.bool _) rfl rfl (⟨⟨_,rfl,fun h=>?_⟩,(ag.rfl_.next E1)⟩)))))))
  first
   |(exfalso;simp at h;done)
   |(have h9:=dF_ h;omega)
   |(simp only [decide_eq_false_iff_not] at h;omega)
   |(simp at h;omega)
 refine ae rfl (ab (aa dz rfl) (ae rfl (ab (ar bR rfl (by exact (show _=some (Value.slice m.E m.es.length m.c) from (hk1.from_ ag.rfl_).rd 9 rfl))) ?_)));refine ae rfl (aC qj (me m.E m.c m.es.length m.es _ (he.from_ (ag.rfl_.next E1)) ho hl) ?_);rintro v10 w3 ⟨⟨m10,rfl,hm1,hm2⟩,rfl⟩;refine ae rfl (ab (cq rfl rfl) (ab (ay (v:=.bool _) rfl rfl) (mvb rfl (Ap (t:=13) rfl (fun Q4=>?_) (fun Q4=>?_)))))
 ·refine aq rfl rfl (aq rfl rfl (aq rfl rfl (aq rfl rfl (ab (aM (v:=.bool _) rfl rfl) (asb rfl (an (ai (aE (bA (v:=.bool _) rfl rfl (⟨⟨_,rfl,fun h=>?_⟩,(ag.rfl_.next E1)⟩))))))))))
  first
   |(exfalso;simp at h;done)
   |(have h9:=dF_ h;omega)
   |(simp only [decide_eq_false_iff_not] at h;omega)
   |(simp at h;omega)
 refine ae rfl (ab (aa dz rfl) (ae rfl (ab (ar bR rfl (by exact (show _=some (Value.slice m.E m.es.length m.c) from (hk1.from_ ag.rfl_).rd 9 rfl))) ?_)));refine ae rfl (ab (bU cT rfl) (ae rfl (ab (cq rfl rfl) (ab (ay (v:=.bool _) rfl rfl) (asb rfl (an (ai (aE (bA (v:=.bool _) rfl rfl (⟨⟨_,rfl,fun h=>?_⟩,(ag.rfl_.next E1)⟩))))))))))
 first
  |(exfalso;simp at h;done)
  |(have h9:=dF_ h;omega)
  |(simp only [decide_eq_false_iff_not] at h;omega)
  |(simp at h;omega)
theorem dq:cI prog 32 0=some 0:=by kernel_rfl
theorem dQ:cI prog 32 1=some 22:=by kernel_rfl
theorem ei:js prog 30=some false:=by kernel_rfl
theorem gg:(gT prog 30).isSome=true:=by kernel_rfl
theorem iB:gT prog 30=some (41,17):=by kernel_rfl
theorem lC:cI prog 41 3=some 15:=by kernel_rfl
theorem fw:cI prog 41 1=some 1:=by kernel_rfl
theorem nE:aQ prog 26=true:=by kernel_rfl
theorem lk {w:World} {b a:Nat} {x:Ac} (h:w.rangeAt b a (acV x)):w.rangeAt b (a+1) (bC x.m):=fun j v hv=>by
 have hj:j<13:=(List.getElem?_eq_some_iff.1 hv).1
 have h1:(acV x)[j+1]? =some v:=by
  show (bC x.m++[Value.bool x.fit,.string x.d,.int .i64 x.i])[j]? =some v;rw [List.getElem?_append_left (show j<(bC x.m).length from hj)];exact hv
 have:=h (j+1) v h1
 rwa [show a+(j+1)=a+1+j by omega] at this
theorem cz (s:Rf) (a:Ra) (LA:Option Addr) (lc:Nat) (X:List Ac) (w:World) (h:tZ w s a LA X) :
 Rt prog 15 [.agg (scV s a LA X.length lc).toArray] w (fun v w'=>(∃ b,v=.bool b∧(b=false→Small s X))∧ag w w'):=by
 have z1:=h.z.sn;have z2:=h.z.pa;have z3:=h.z.es;have z4:=h.z.v;have z5:=h.z.x;have z6:=h.z.m;have z7:=h.z.n;have z8:=h.z.q;have z9:=h.z.k;have z10:=h.n;have hLl:a.L.length=s.reads.length:=by rw [←h.r.r,List.length_map]
 refine enter (n:=111) Tryz.func15 rfl rfl rfl (ao (ah (bZ (v:=.agg _) rfl ?_)));intro b1 w1 E1 hb1 hk1;refine asb rfl (an (ai (ao ?_)));apply bK 41 [(6,eqp _),(7,eqp _),(8,eqp (.string s.snap)),(9,eqp _),(10,eqp _),(11,eqp _),(12,eqp (.string s.part)),(13,eqp _),(14,eqp (.int .i64 ((s.snap.size+s.part.size:Nat):Int))),(15,eqp _),(16,eqp _),(17,eqp _),(18,eqp (.slice a.E s.es.length a.Ec)),(19,fun v _=>∃ q:Nat,v=.int .i64 (q:Nat)∧s.es.length≤q∧q≤562949953421312),(20,fun v _=>∃ q:Nat,v=.int .i64 (q:Nat)∧s.snap.size+s.part.size+s.es.length≤q∧q≤844424930123776),(21,eqp _),(22,eqp _),(23,eqp (.slice a.V s.votes.length a.Vc)),(24,eqp _),(25,fun v _=>∃ q:Nat,v=.int .i64 (q:Nat)∧s.snap.size+s.part.size+s.es.length+s.votes.length≤q∧q≤985162418475008),(26,eqp _),(27,eqp _),(28,eqp (.slice a.X s.next.length a.Xc)),(29,eqp _),(30,fun v _=>∃ q:Nat,v=.int .i64 (q:Nat)∧s.snap.size+s.part.size+s.es.length+s.votes.length+s.next.length≤q∧q≤1125899906826240),(31,eqp _),(32,eqp _),(33,eqp (.slice a.M s.mtch.length a.Mc)),(34,eqp _),(35,fun v _=>∃ q:Nat,v=.int .i64 (q:Nat)∧s.snap.size+s.part.size+s.es.length+s.votes.length+s.next.length+s.mtch.length≤q∧q≤1266637395177472),(36,eqp _),(37,eqp _),(38,eqp (.slice a.S s.sent.length a.Sc)),(39,eqp _),(40,fun v _=>∃ q:Nat,v=.int .i64 (q:Nat)∧s.snap.size+s.part.size+s.es.length+s.votes.length+s.next.length+s.mtch.length+s.sent.length≤q∧q≤1407374883528704),(41,eqp _),(42,eqp _),(43,eqp (.slice a.Q a.L.length a.Qc)),(44,eqp _),(45,fun v _=>∃ q:Nat,v=.int .i64 (q:Nat)∧s.snap.size+s.part.size+s.es.length+s.votes.length+s.next.length+s.mtch.length+s.sent.length+a.L.length≤q∧q≤1548112371879936),(3,fun v _=>∃ q:Nat,v=.int .i64 (q:Nat)∧s.snap.size+s.part.size+s.es.length+s.votes.length+s.next.length+s.mtch.length+s.sent.length+a.L.length≤q∧q≤1548112371879936)] (by repeat first | exact ct | refine cr ?_ | refine bX ?_) (by kernel_rfl) (by kernel_rfl) ⟨aj _,aj _,aj _,aj _,aj _,aj _,aj _,aj _,aj _,aj _,aj _,aj _,aj _,(fun _ _ _ _ h=>h),(fun _ _ _ _ h=>h),aj _,aj _,aj _,aj _,(fun _ _ _ _ h=>h),aj _,aj _,aj _,aj _,(fun _ _ _ _ h=>h),aj _,aj _,aj _,aj _,(fun _ _ _ _ h=>h),aj _,aj _,aj _,aj _,(fun _ _ _ _ h=>h),aj _,aj _,aj _,aj _,(fun _ _ _ _ h=>h),(fun _ _ _ _ h=>h),trivial⟩
 case hop=>
  constructor
  ·rintro-w3 D3;exact au (aa dq rfl) rfl
  constructor
  ·rintro-w4 D4;rintro _ rfl;exact au (aa dB rfl) rfl
  constructor
  ·rintro-w5 D5;rintro _ rfl;exact au (ar bF rfl (by exact (show _=some (Value.string s.snap) from (hk1.from_ (ag.rfl_.next D5)).rd 9 rfl))) rfl
  constructor
  ·rintro-w6 D6;rintro v6_8 rfl;exact au (df (by kernel_rfl) rfl) rfl
  constructor
  ·rintro-w7 D7;exact au (aa dq rfl) rfl
  constructor
  ·rintro-w8 D8;rintro _ rfl;exact au (aa bw rfl) rfl
  constructor
  ·rintro-w9 D9;rintro _ rfl;exact au (ar bF rfl (by exact (show _=some (Value.string s.part) from (hk1.from_ (ag.rfl_.next D9)).rd 20 rfl))) rfl
  constructor
  ·rintro-w10 D10;rintro v10_12 rfl;exact au (df (by kernel_rfl) rfl) rfl
  constructor
  ·rintro-w11 D11;rintro _ rfl _ rfl;exact au (dD rfl rfl (by omega)) rfl
  constructor
  ·rintro-w12 D12;exact au (aa dq rfl) rfl
  constructor
  ·rintro-w13 D13;rintro _ rfl;exact au (aa bn rfl) rfl
  constructor
  ·rintro-w14 D14;rintro _ rfl;exact au (aa di rfl) rfl
  constructor
  ·rintro-w15 D15;rintro _ rfl;exact au (ar bR rfl (by exact (show _=some (Value.slice a.E s.es.length a.Ec) from (hk1.from_ (ag.rfl_.next D15)).rd 8 rfl))) rfl
  constructor
  ·rintro-w16 D16;rintro v16_18 rfl;refine fL qj ((me a.E a.Ec s.es.length s.es _ (h.r.e.from_ ((ag.rfl_.next E1).next D16)) h.z.eo (by omega)).mono ?_);rintro v w2 ⟨⟨q,rfl,hp,hq⟩,rfl⟩;exact ⟨ag.rfl_,q,rfl,hp,hq⟩
  constructor
  ·rintro-w17 D17;rintro v17_14 rfl v17_19 ⟨q17,rfl,hl17,hu17⟩;exact au (dD rfl rfl (by omega)) ⟨_,rfl,by omega,by omega⟩
  constructor
  ·rintro-w18 D18;exact au (aa dq rfl) rfl
  constructor
  ·rintro-w19 D19;rintro _ rfl;exact au (aa dc rfl) rfl
  constructor
  ·rintro-w20 D20;rintro _ rfl;exact au (ar bt rfl (by exact (show _=some (Value.slice a.V s.votes.length a.Vc) from (hk1.from_ (ag.rfl_.next D20)).rd 14 rfl))) rfl
  constructor
  ·rintro-w21 D21;rintro v21_23 rfl;exact au (bU cy rfl) rfl
  constructor
  ·rintro-w22 D22;rintro v22_20 ⟨q22,rfl,hl22,hu22⟩ _ rfl;exact au (dD rfl rfl (by omega)) ⟨_,rfl,by omega,by omega⟩
  constructor
  ·rintro-w23 D23;exact au (aa dq rfl) rfl
  constructor
  ·rintro-w24 D24;rintro _ rfl;exact au (aa cQ rfl) rfl
  constructor
  ·rintro-w25 D25;rintro _ rfl;exact au (ar bt rfl (by exact (show _=some (Value.slice a.X s.next.length a.Xc) from (hk1.from_ (ag.rfl_.next D25)).rd 15 rfl))) rfl
  constructor
  ·rintro-w26 D26;rintro v26_28 rfl;exact au (bU cy rfl) rfl
  constructor
  ·rintro-w27 D27;rintro v27_25 ⟨q27,rfl,hl27,hu27⟩ _ rfl;exact au (dD rfl rfl (by omega)) ⟨_,rfl,by omega,by omega⟩
  constructor
  ·rintro-w28 D28;exact au (aa dq rfl) rfl
  constructor
  ·rintro-w29 D29;rintro _ rfl;exact au (aa cY rfl) rfl
  constructor
  ·rintro-w30 D30;rintro _ rfl;exact au (ar bt rfl (by exact (show _=some (Value.slice a.M s.mtch.length a.Mc) from (hk1.from_ (ag.rfl_.next D30)).rd 16 rfl))) rfl
  constructor
  ·rintro-w31 D31;rintro v31_33 rfl;exact au (bU cy rfl) rfl
  constructor
  ·rintro-w32 D32;rintro v32_30 ⟨q32,rfl,hl32,hu32⟩ _ rfl;exact au (dD rfl rfl (by omega)) ⟨_,rfl,by omega,by omega⟩
  constructor
  ·rintro-w33 D33;exact au (aa dq rfl) rfl
  constructor
  ·rintro-w34 D34;rintro _ rfl;exact au (aa dd rfl) rfl
  constructor
  ·rintro-w35 D35;rintro _ rfl;exact au (ar bt rfl (by exact (show _=some (Value.slice a.S s.sent.length a.Sc) from (hk1.from_ (ag.rfl_.next D35)).rd 17 rfl))) rfl
  constructor
  ·rintro-w36 D36;rintro v36_38 rfl;exact au (bU cy rfl) rfl
  constructor
  ·rintro-w37 D37;rintro v37_35 ⟨q37,rfl,hl37,hu37⟩ _ rfl;exact au (dD rfl rfl (by omega)) ⟨_,rfl,by omega,by omega⟩
  constructor
  ·rintro-w38 D38;exact au (aa dq rfl) rfl
  constructor
  ·rintro-w39 D39;rintro _ rfl;exact au (aa cf rfl) rfl
  constructor
  ·rintro-w40 D40;rintro _ rfl;exact au (ar ed rfl (by exact (show _=some (Value.slice a.Q a.L.length a.Qc) from (hk1.from_ (ag.rfl_.next D40)).rd 19 rfl))) rfl
  constructor
  ·rintro-w41 D41;rintro v41_43 rfl;exact au (bU fq rfl) rfl
  constructor
  ·rintro-w42 D42;rintro v42_40 ⟨q42,rfl,hl42,hu42⟩ _ rfl;exact au (dD rfl rfl (by omega)) ⟨_,rfl,by omega,by omega⟩
  constructor
  ·rintro-w43 D43;rintro v43_45 ⟨q43,rfl,hl43,hu43⟩;exact au (cZ rfl) ⟨_,rfl,by omega,by omega⟩
  exact trivial
 case hend=>
  intro w44 D44;rintro _ rfl _ rfl v8 rfl _ rfl _ rfl _ rfl v12 rfl _ rfl v14 rfl _ rfl _ rfl _ rfl v18 rfl v19 ⟨q44,rfl,hl44,hu44⟩ v20 ⟨q44,rfl,hl44,hu44⟩ _ rfl _ rfl v23 rfl _ rfl v25 ⟨q44,rfl,hl44,hu44⟩ _ rfl _ rfl v28 rfl _ rfl v30 ⟨q44,rfl,hl44,hu44⟩ _ rfl _ rfl v33 rfl _ rfl v35 ⟨q44,rfl,hl44,hu44⟩ _ rfl _ rfl v38 rfl _ rfl v40 ⟨q44,rfl,hl44,hu44⟩ _ rfl _ rfl v43 rfl _ rfl v45 ⟨q44,rfl,hl44,hu44⟩ v3 ⟨q3,rfl,hl3,hu3⟩;show St ..;refine an (ai (ao (ao (ah (asi rfl (an (ai (bk (dr (G:=Nat×Nat) [46,47,48,49,50,51,52,53,54,55,56,57,58,59,60,61,62,63,64,65,66,67] (fun (m,k)=>[(3,.int .i64 (m:Nat)),(4,.int .i64 (k:Nat))]) (fun (m,k) w'=>k≤a.L.length∧s.snap.size+s.part.size+s.es.length+s.votes.length+s.next.length+s.mtch.length+s.sent.length+a.L.length≤m∧m≤2000000000000000∧(∀ j (h:j<a.L.length),j<k→a.L[j].1.acks.length≤m)∧Blk w' b1 32 (scV s a LA X.length lc).toArray∧ag w w') (fun (_,k)=>a.L.length-k) ((q3,0)) ⟨rfl,rfl,trivial⟩ ?_ ?_)))))))))
  ·exact ⟨Nat.zero_le _,hl3,by omega,fun j _ h=>absurd h (by omega),hk1.from_ (ag.rfl_.next D44),((ag.rfl_.next E1).next D44)⟩
  rintro ⟨m,k⟩ ρ45 w45 ⟨hk,hm1,hm2,hj1,hk1,hB⟩;refine ao (ao (ah (mvi rfl (ab (aa dq rfl) (ab (aa cf rfl) (ab (ar ed rfl (by exact (show _=some (Value.slice a.Q a.L.length a.Qc) from (hk1.from_ ag.rfl_).rd 19 rfl))) ?_))))));refine ab (bU fq rfl) (ab (ch rfl rfl) (mvb rfl (Ap (t:=52) rfl (fun Q46=>?_) (fun Q46=>?_))))
  ·refine ae rfl (mvi rfl (ae rfl (ab (ch rfl rfl) (ab (aM (v:=.bool _) rfl rfl) (an (ai (AT rfl (fun Q47=>?_) (fun Q47=>?_))))))))
   ·have hkL:k<a.L.length:=by omega
    have zk:=z9 _ (List.getElem_mem hkL);obtain ⟨ba,oa,hQe,hcs⟩:=h.r.q (by omega);have hkq:Blk w45 b1 32 (scV s { a with Q:=some ⟨ba,oa,none⟩ } LA X.length lc).toArray:=by rw [←hQe];exact hk1.from_ ag.rfl_
    refine aO (ai (ao (bk (ah (mvi rfl (ab (aa dq rfl) (ab (aa cf rfl) (ab (ar ed rfl (by exact (show _=some (Value.slice (some ⟨ba,oa,none⟩) a.L.length a.Qc) from (hkq.from_ ag.rfl_).rd 19 rfl))) ?_))))))));refine mvi rfl (ab (b_ gx rfl rfl (by omega)) (ab (aa fx rfl) (ab (ar bt rfl (by exact fy hB (hcs k hkL 3 _ rfl))) ?_)));refine ab (bU cy rfl) (ab (dD rfl rfl (by omega)) (asi rfl (an (bN (ai (ah (mvi rfl (ab (cn rfl rfl (by omega)) (asi rfl (an ?_))))))))));refine bL ((m+a.L[k].1.acks.length,k+1)) ⟨(by first | rfl | (refine bT ?_;omega)),(by first | rfl | (refine bT ?_;omega)),trivial⟩ (by (iterate 49 refine bd rfl ?_);exact br) ⟨?_,?_⟩
    ·refine ⟨by omega,by omega,by omega,fun j h hj=>?_,hk1.from_ ag.rfl_,hB⟩;rcases Nat.lt_or_ge j k with e | e
     ·have:=hj1 j h e;omega
     ·obtain rfl:j=k:=by omega
      omega
    ·show a.L.length-(k+1)<a.L.length-k;omega
   refine cL (bB (bB (cw (ai (ao (ao (ah (asi rfl (an (ai (bk (dr (G:=Nat×Nat) [2,68,69,70,71,72,73,74,75,76,77,78,79,80,81,82,83,84,85,86,87,88,89,90,91,92,93,94] (fun (m2,i)=>[(3,.int .i64 (m2:Nat)),(5,.int .i64 (i:Nat))]) (fun (m2,i) w'=>i≤X.length∧m≤m2∧m2≤2000000000000000∧(∀ j (h:j<X.length),j<i→X[j].m.es.length≤200∧X[j].m.d.size≤20000∧X[j].d.size≤m2)∧Blk w' b1 32 (scV s a LA X.length lc).toArray∧ag w w') (fun (_,i)=>X.length-i) ((m,0)) ⟨rfl,rfl,trivial⟩ ?_ ?_))))))))))))
   ·exact ⟨Nat.zero_le _,Nat.le_refl _,hm2,fun j _ h=>absurd h (by omega),hk1.from_ ag.rfl_,hB⟩
   rintro ⟨m2,i⟩ ρ48 w48 ⟨hk2,hn1,hn2,hj2,hk1,hB⟩;refine ao (ao (ah (mvi rfl (ab (aa dQ rfl) (ab (ar ei rfl (by exact (show _=some (Value.slice LA X.length lc) from (hk1.from_ ag.rfl_).rd 22 rfl))) ?_)))));refine ab (bU gg rfl) (ab (ch rfl rfl) (mvb rfl (Ap (t:=73) rfl (fun Q49=>?_) (fun Q49=>?_))))
   ·refine ae rfl (mvi rfl (ae rfl (ab (ch rfl rfl) (ab (aM (v:=.bool _) rfl rfl) (an (ai (AT rfl (fun Q50=>?_) (fun Q50=>?_))))))))
    ·have hkX:i<X.length:=by omega
     have hox:=h.o _ (List.getElem_mem hkX);have zk:=hox.2.2.2.2;obtain ⟨ba,oa,hQe,hcs⟩:=h.x (by omega);have hkq:Blk w48 b1 32 (scV s a (some ⟨ba,oa,none⟩) X.length lc).toArray:=by rw [←hQe];exact hk1.from_ ag.rfl_
     refine aO (ai (ao (bk (ao (ah (mvi rfl (ab (aa dQ rfl) (ab (ar ei rfl (by exact (show _=some (Value.slice (some ⟨ba,oa,none⟩) X.length lc) from (hkq.from_ ag.rfl_).rd 22 rfl))) ?_))))))));refine mvi rfl (ab (b_ iB rfl rfl (by omega)) (ab (aa lC rfl) (ab (ar bF rfl (by exact fy hB (hcs i hkX 15 _ rfl))) ?_)));refine ab (df (by kernel_rfl) rfl) (ab (dD rfl rfl (by omega)) (asi rfl (an (ai (ao (ah (ab (aa dQ rfl) (ab (ar ei rfl (by exact (show _=some (Value.slice (some ⟨ba,oa,none⟩) X.length lc) from (hkq.from_ ag.rfl_).rd 22 rfl))) ?_))))))));refine mvi rfl (ab (b_ iB rfl rfl (by omega)) (ab (aa fw rfl) (ab (aH (cs:=bC X[i].m) bj aY rfl (lk (fB hB (hcs i hkX)))) (aC nE (p6 X[i].m _ (hox.1.from_ hB) hox.2.1 (by have:=hox.2.2.1;omega) hox.2.2.2.1) ?_))));rintro v94 w51 ⟨⟨b94,rfl,hb94⟩,E94⟩;refine an (ai (aS rfl (fun Q52=>?_) (fun Q52=>?_)))
     ·(try with_reducible first | (replace Q52 := dT_ Q52; trace "@MK N cz:g52+.c55-.g73+.c76+.c94+ 1.1") | (replace Q52 := dF_ Q52; trace "@MK N cz:g52+.c55-.g73+.c76+.c94+ 1.2") | (replace Q52 := dK Q52; trace "@MK N cz:g52+.c55-.g73+.c76+.c94+ 1.3") | (replace Q52 := dL Q52; trace "@MK N cz:g52+.c55-.g73+.c76+.c94+ 1.4"))
      (try with_reducible first | (replace Q52 := dT_ Q52; trace "@MK N cz:g52+.c55-.g73+.c76+.c94+ 2.1") | (replace Q52 := dF_ Q52; trace "@MK N cz:g52+.c55-.g73+.c76+.c94+ 2.2") | (replace Q52 := iE Q52; trace "@MK N cz:g52+.c55-.g73+.c76+.c94+ 2.3") | (replace Q52 := iF Q52; trace "@MK N cz:g52+.c55-.g73+.c76+.c94+ 2.4") | (replace Q52 := eb Q52; trace "@MK N cz:g52+.c55-.g73+.c76+.c94+ 2.5") | (replace Q52 := ec Q52; trace "@MK N cz:g52+.c55-.g73+.c76+.c94+ 2.6"))
      refine ao (ah (asb rfl (an (ai (aE (bG (aG (aG (bG (aG (bA (v:=.bool _) rfl rfl (⟨⟨_,rfl,fun h=>by cases h⟩,(hB.next E94)⟩))))))))))))
     (try with_reducible first | (replace Q52 := dT_ Q52; trace "@MK N cz:g52+.c55-.g73+.c76+.c94- 1.1") | (replace Q52 := dF_ Q52; trace "@MK N cz:g52+.c55-.g73+.c76+.c94- 1.2") | (replace Q52 := dK Q52; trace "@MK N cz:g52+.c55-.g73+.c76+.c94- 1.3") | (replace Q52 := dL Q52; trace "@MK N cz:g52+.c55-.g73+.c76+.c94- 1.4"))
     (try with_reducible first | (replace Q52 := dT_ Q52; trace "@MK N cz:g52+.c55-.g73+.c76+.c94- 2.1") | (replace Q52 := dF_ Q52; trace "@MK N cz:g52+.c55-.g73+.c76+.c94- 2.2") | (replace Q52 := iE Q52; trace "@MK N cz:g52+.c55-.g73+.c76+.c94- 2.3") | (replace Q52 := iF Q52; trace "@MK N cz:g52+.c55-.g73+.c76+.c94- 2.4") | (replace Q52 := eb Q52; trace "@MK N cz:g52+.c55-.g73+.c76+.c94- 2.5") | (replace Q52 := ec Q52; trace "@MK N cz:g52+.c55-.g73+.c76+.c94- 2.6"))
     refine aO (bN (ai (ah (mvi rfl (ab (cn rfl rfl (by omega)) (asi rfl (an ?_)))))));refine bL ((m2+X[i].d.size,i+1)) ⟨(by first | rfl | (refine bT ?_;omega)),(by first | rfl | (refine bT ?_;omega)),trivial⟩ (by (iterate 60 refine bd rfl ?_);exact br) ⟨?_,?_⟩
     ·refine ⟨by omega,by omega,by omega,fun j h hj=>?_,hk1.from_ (ag.rfl_.next E94),(hB.next E94)⟩;rcases Nat.lt_or_ge j i with e | e
      ·have:=hj2 j h e;omega
      ·obtain rfl:j=i:=by omega
       have:=hb94 (by first | rfl | assumption | simp_all);omega
     ·show X.length-(i+1)<X.length-i;omega
    refine cL (bB (bB (cw (ai (ao (ah (mvi rfl (ab (cq rfl rfl) (mvb rfl (Ap (t:=97) rfl (fun Q53=>?_) (fun Q53=>?_)))))))))))
    ·refine aq rfl rfl (aq rfl rfl (aq rfl rfl (aq rfl rfl (aq rfl rfl (aq rfl rfl (ab (aM (v:=.bool _) rfl rfl) (mvb rfl (aq rfl rfl ?_))))))));refine aq rfl rfl (aq rfl rfl (aq rfl rfl (ab (aM (v:=.bool _) rfl rfl) (asb rfl (an (ai (aE (bA (v:=.bool _) rfl rfl (⟨⟨_,rfl,fun h9=>?_⟩,hB⟩)))))))))
     have hh:m2≤20000∧s.es.length≤600∧X.length≤100:=by
      first
       |(exfalso;simp at h9;done)
       |(have h8:=dF_ h9;omega)
       |(simp only [decide_eq_false_iff_not] at h9;omega)
       |(simp at h9;omega)
     have hkl:k=a.L.length:=by omega
     refine ⟨⟨by omega,by omega,by omega,by omega,by omega,fun q hq=>?_⟩,hh.2.1,hh.2.2,⟨by omega,by omega⟩,fun y hy=>?_⟩
     ·rw [←h.r.r] at hq;obtain ⟨y,hy,rfl⟩:=List.mem_map.1 hq;obtain ⟨j,hj,rfl⟩:=List.getElem_of_mem hy;have:=hj1 j hj (by omega);omega
     ·obtain ⟨j,hj,rfl⟩:=List.getElem_of_mem hy;have:=hj2 j hj (by omega);omega
    refine ae rfl (ab (aa dq rfl) (ae rfl (ab (aa bn rfl) (ae rfl (ab (aa di rfl) (ae rfl (ab (ar bR rfl (by exact (show _=some (Value.slice a.E s.es.length a.Ec) from (hk1.from_ ag.rfl_).rd 8 rfl))) ?_)))))));refine ae rfl (ab (bU cT rfl) (ae rfl (ab (cq rfl rfl) (ab (ay (v:=.bool _) rfl rfl) (mvb rfl (Ap (t:=105) rfl (fun Q54=>?_) (fun Q54=>?_)))))))
    ·refine aq rfl rfl (aq rfl rfl (aq rfl rfl (aq rfl rfl (ab (aM (v:=.bool _) rfl rfl) (asb rfl (an (ai (aE (bA (v:=.bool _) rfl rfl (⟨⟨_,rfl,fun h9=>?_⟩,hB⟩))))))))))
     have hh:m2≤20000∧s.es.length≤600∧X.length≤100:=by
      first
       |(exfalso;simp at h9;done)
       |(have h8:=dF_ h9;omega)
       |(simp only [decide_eq_false_iff_not] at h9;omega)
       |(simp at h9;omega)
     have hkl:k=a.L.length:=by omega
     refine ⟨⟨by omega,by omega,by omega,by omega,by omega,fun q hq=>?_⟩,hh.2.1,hh.2.2,⟨by omega,by omega⟩,fun y hy=>?_⟩
     ·rw [←h.r.r] at hq;obtain ⟨y,hy,rfl⟩:=List.mem_map.1 hq;obtain ⟨j,hj,rfl⟩:=List.getElem_of_mem hy;have:=hj1 j hj (by omega);omega
     ·obtain ⟨j,hj,rfl⟩:=List.getElem_of_mem hy;have:=hj2 j hj (by omega);omega
    refine ae rfl (ab (aa dQ rfl) (ae rfl (ab (ar ei rfl (by exact (show _=some (Value.slice LA X.length lc) from (hk1.from_ ag.rfl_).rd 22 rfl))) ?_)));refine ae rfl (ab (bU gg rfl) (ae rfl (ab (cq rfl rfl) (ab (ay (v:=.bool _) rfl rfl) (asb rfl (an (ai (aE (bA (v:=.bool _) rfl rfl (⟨⟨_,rfl,fun h9=>?_⟩,hB⟩))))))))))
    have hh:m2≤20000∧s.es.length≤600∧X.length≤100:=by
     first
      |(exfalso;simp at h9;done)
      |(have h8:=dF_ h9;omega)
      |(simp only [decide_eq_false_iff_not] at h9;omega)
      |(simp at h9;omega)
    have hkl:k=a.L.length:=by omega
    refine ⟨⟨by omega,by omega,by omega,by omega,by omega,fun q hq=>?_⟩,hh.2.1,hh.2.2,⟨by omega,by omega⟩,fun y hy=>?_⟩
    ·rw [←h.r.r] at hq;obtain ⟨y,hy,rfl⟩:=List.mem_map.1 hq;obtain ⟨j,hj,rfl⟩:=List.getElem_of_mem hy;have:=hj1 j hj (by omega);omega
    ·obtain ⟨j,hj,rfl⟩:=List.getElem_of_mem hy;have:=hj2 j hj (by omega);omega
   refine bD rfl (an (ai (bg rfl (cL (bB (bB (cw (ai (ao (ah (mvi rfl (ab (cq rfl rfl) (mvb rfl (Ap (t:=97) rfl (fun Q55=>?_) (fun Q55=>?_)))))))))))))))
   ·refine aq rfl rfl (aq rfl rfl (aq rfl rfl (aq rfl rfl (aq rfl rfl (aq rfl rfl (ab (aM (v:=.bool _) rfl rfl) (mvb rfl (aq rfl rfl ?_))))))));refine aq rfl rfl (aq rfl rfl (aq rfl rfl (ab (aM (v:=.bool _) rfl rfl) (asb rfl (an (ai (aE (bA (v:=.bool _) rfl rfl (⟨⟨_,rfl,fun h9=>?_⟩,hB⟩)))))))))
    have hh:m2≤20000∧s.es.length≤600∧X.length≤100:=by
     first
      |(exfalso;simp at h9;done)
      |(have h8:=dF_ h9;omega)
      |(simp only [decide_eq_false_iff_not] at h9;omega)
      |(simp at h9;omega)
    have hkl:k=a.L.length:=by omega
    refine ⟨⟨by omega,by omega,by omega,by omega,by omega,fun q hq=>?_⟩,hh.2.1,hh.2.2,⟨by omega,by omega⟩,fun y hy=>?_⟩
    ·rw [←h.r.r] at hq;obtain ⟨y,hy,rfl⟩:=List.mem_map.1 hq;obtain ⟨j,hj,rfl⟩:=List.getElem_of_mem hy;have:=hj1 j hj (by omega);omega
    ·obtain ⟨j,hj,rfl⟩:=List.getElem_of_mem hy;have:=hj2 j hj (by omega);omega
   refine ae rfl (ab (aa dq rfl) (ae rfl (ab (aa bn rfl) (ae rfl (ab (aa di rfl) (ae rfl (ab (ar bR rfl (by exact (show _=some (Value.slice a.E s.es.length a.Ec) from (hk1.from_ ag.rfl_).rd 8 rfl))) ?_)))))));refine ae rfl (ab (bU cT rfl) (ae rfl (ab (cq rfl rfl) (ab (ay (v:=.bool _) rfl rfl) (mvb rfl (Ap (t:=105) rfl (fun Q56=>?_) (fun Q56=>?_)))))))
   ·refine aq rfl rfl (aq rfl rfl (aq rfl rfl (aq rfl rfl (ab (aM (v:=.bool _) rfl rfl) (asb rfl (an (ai (aE (bA (v:=.bool _) rfl rfl (⟨⟨_,rfl,fun h9=>?_⟩,hB⟩))))))))))
    have hh:m2≤20000∧s.es.length≤600∧X.length≤100:=by
     first
      |(exfalso;simp at h9;done)
      |(have h8:=dF_ h9;omega)
      |(simp only [decide_eq_false_iff_not] at h9;omega)
      |(simp at h9;omega)
    have hkl:k=a.L.length:=by omega
    refine ⟨⟨by omega,by omega,by omega,by omega,by omega,fun q hq=>?_⟩,hh.2.1,hh.2.2,⟨by omega,by omega⟩,fun y hy=>?_⟩
    ·rw [←h.r.r] at hq;obtain ⟨y,hy,rfl⟩:=List.mem_map.1 hq;obtain ⟨j,hj,rfl⟩:=List.getElem_of_mem hy;have:=hj1 j hj (by omega);omega
    ·obtain ⟨j,hj,rfl⟩:=List.getElem_of_mem hy;have:=hj2 j hj (by omega);omega
   refine ae rfl (ab (aa dQ rfl) (ae rfl (ab (ar ei rfl (by exact (show _=some (Value.slice LA X.length lc) from (hk1.from_ ag.rfl_).rd 22 rfl))) ?_)));refine ae rfl (ab (bU gg rfl) (ae rfl (ab (cq rfl rfl) (ab (ay (v:=.bool _) rfl rfl) (asb rfl (an (ai (aE (bA (v:=.bool _) rfl rfl (⟨⟨_,rfl,fun h9=>?_⟩,hB⟩))))))))))
   have hh:m2≤20000∧s.es.length≤600∧X.length≤100:=by
    first
     |(exfalso;simp at h9;done)
     |(have h8:=dF_ h9;omega)
     |(simp only [decide_eq_false_iff_not] at h9;omega)
     |(simp at h9;omega)
   have hkl:k=a.L.length:=by omega
   refine ⟨⟨by omega,by omega,by omega,by omega,by omega,fun q hq=>?_⟩,hh.2.1,hh.2.2,⟨by omega,by omega⟩,fun y hy=>?_⟩
   ·rw [←h.r.r] at hq;obtain ⟨y,hy,rfl⟩:=List.mem_map.1 hq;obtain ⟨j,hj,rfl⟩:=List.getElem_of_mem hy;have:=hj1 j hj (by omega);omega
   ·obtain ⟨j,hj,rfl⟩:=List.getElem_of_mem hy;have:=hj2 j hj (by omega);omega
  refine bD rfl (an (ai (bg rfl (cL (bB (bB (cw (ai (ao (ao (ah (asi rfl (an (ai (bk (dr (G:=Nat×Nat) [2,68,69,70,71,72,73,74,75,76,77,78,79,80,81,82,83,84,85,86,87,88,89,90,91,92,93,94] (fun (m2,i)=>[(3,.int .i64 (m2:Nat)),(5,.int .i64 (i:Nat))]) (fun (m2,i) w'=>i≤X.length∧m≤m2∧m2≤2000000000000000∧(∀ j (h:j<X.length),j<i→X[j].m.es.length≤200∧X[j].m.d.size≤20000∧X[j].d.size≤m2)∧Blk w' b1 32 (scV s a LA X.length lc).toArray∧ag w w') (fun (_,i)=>X.length-i) ((m,0)) ⟨rfl,rfl,trivial⟩ ?_ ?_))))))))))))))))
  ·exact ⟨Nat.zero_le _,Nat.le_refl _,hm2,fun j _ h=>absurd h (by omega),hk1.from_ ag.rfl_,hB⟩
  rintro ⟨m2,i⟩ ρ57 w57 ⟨hk2,hn1,hn2,hj2,hk1,hB⟩;refine ao (ao (ah (mvi rfl (ab (aa dQ rfl) (ab (ar ei rfl (by exact (show _=some (Value.slice LA X.length lc) from (hk1.from_ ag.rfl_).rd 22 rfl))) ?_)))));refine ab (bU gg rfl) (ab (ch rfl rfl) (mvb rfl (Ap (t:=73) rfl (fun Q58=>?_) (fun Q58=>?_))))
  ·refine ae rfl (mvi rfl (ae rfl (ab (ch rfl rfl) (ab (aM (v:=.bool _) rfl rfl) (an (ai (AT rfl (fun Q59=>?_) (fun Q59=>?_))))))))
   ·have hkX:i<X.length:=by omega
    have hox:=h.o _ (List.getElem_mem hkX);have zk:=hox.2.2.2.2;obtain ⟨ba,oa,hQe,hcs⟩:=h.x (by omega);have hkq:Blk w57 b1 32 (scV s a (some ⟨ba,oa,none⟩) X.length lc).toArray:=by rw [←hQe];exact hk1.from_ ag.rfl_
    refine aO (ai (ao (bk (ao (ah (mvi rfl (ab (aa dQ rfl) (ab (ar ei rfl (by exact (show _=some (Value.slice (some ⟨ba,oa,none⟩) X.length lc) from (hkq.from_ ag.rfl_).rd 22 rfl))) ?_))))))));refine mvi rfl (ab (b_ iB rfl rfl (by omega)) (ab (aa lC rfl) (ab (ar bF rfl (by exact fy hB (hcs i hkX 15 _ rfl))) ?_)));refine ab (df (by kernel_rfl) rfl) (ab (dD rfl rfl (by omega)) (asi rfl (an (ai (ao (ah (ab (aa dQ rfl) (ab (ar ei rfl (by exact (show _=some (Value.slice (some ⟨ba,oa,none⟩) X.length lc) from (hkq.from_ ag.rfl_).rd 22 rfl))) ?_))))))));refine mvi rfl (ab (b_ iB rfl rfl (by omega)) (ab (aa fw rfl) (ab (aH (cs:=bC X[i].m) bj aY rfl (lk (fB hB (hcs i hkX)))) (aC nE (p6 X[i].m _ (hox.1.from_ hB) hox.2.1 (by have:=hox.2.2.1;omega) hox.2.2.2.1) ?_))));rintro v94 w60 ⟨⟨b94,rfl,hb94⟩,E94⟩;refine an (ai (aS rfl (fun Q61=>?_) (fun Q61=>?_)))
    ·(try with_reducible first | (replace Q61 := dT_ Q61; trace "@MK N cz:g52-.g73+.c76+.c94+ 1.1") | (replace Q61 := dF_ Q61; trace "@MK N cz:g52-.g73+.c76+.c94+ 1.2") | (replace Q61 := dK Q61; trace "@MK N cz:g52-.g73+.c76+.c94+ 1.3") | (replace Q61 := dL Q61; trace "@MK N cz:g52-.g73+.c76+.c94+ 1.4"))
     (try with_reducible first | (replace Q61 := dT_ Q61; trace "@MK N cz:g52-.g73+.c76+.c94+ 2.1") | (replace Q61 := dF_ Q61; trace "@MK N cz:g52-.g73+.c76+.c94+ 2.2") | (replace Q61 := iE Q61; trace "@MK N cz:g52-.g73+.c76+.c94+ 2.3") | (replace Q61 := iF Q61; trace "@MK N cz:g52-.g73+.c76+.c94+ 2.4") | (replace Q61 := eb Q61; trace "@MK N cz:g52-.g73+.c76+.c94+ 2.5") | (replace Q61 := ec Q61; trace "@MK N cz:g52-.g73+.c76+.c94+ 2.6"))
     refine ao (ah (asb rfl (an (ai (aE (bG (aG (aG (bG (aG (bA (v:=.bool _) rfl rfl (⟨⟨_,rfl,fun h=>by cases h⟩,(hB.next E94)⟩))))))))))))
    (try with_reducible first | (replace Q61 := dT_ Q61; trace "@MK N cz:g52-.g73+.c76+.c94- 1.1") | (replace Q61 := dF_ Q61; trace "@MK N cz:g52-.g73+.c76+.c94- 1.2") | (replace Q61 := dK Q61; trace "@MK N cz:g52-.g73+.c76+.c94- 1.3") | (replace Q61 := dL Q61; trace "@MK N cz:g52-.g73+.c76+.c94- 1.4"))
    (try with_reducible first | (replace Q61 := dT_ Q61; trace "@MK N cz:g52-.g73+.c76+.c94- 2.1") | (replace Q61 := dF_ Q61; trace "@MK N cz:g52-.g73+.c76+.c94- 2.2") | (replace Q61 := iE Q61; trace "@MK N cz:g52-.g73+.c76+.c94- 2.3") | (replace Q61 := iF Q61; trace "@MK N cz:g52-.g73+.c76+.c94- 2.4") | (replace Q61 := eb Q61; trace "@MK N cz:g52-.g73+.c76+.c94- 2.5") | (replace Q61 := ec Q61; trace "@MK N cz:g52-.g73+.c76+.c94- 2.6"))
    refine aO (bN (ai (ah (mvi rfl (ab (cn rfl rfl (by omega)) (asi rfl (an ?_)))))));refine bL ((m2+X[i].d.size,i+1)) ⟨(by first | rfl | (refine bT ?_;omega)),(by first | rfl | (refine bT ?_;omega)),trivial⟩ (by (iterate 60 refine bd rfl ?_);exact br) ⟨?_,?_⟩
    ·refine ⟨by omega,by omega,by omega,fun j h hj=>?_,hk1.from_ (ag.rfl_.next E94),(hB.next E94)⟩;rcases Nat.lt_or_ge j i with e | e
     ·have:=hj2 j h e;omega
     ·obtain rfl:j=i:=by omega
      have:=hb94 (by first | rfl | assumption | simp_all);omega
    ·show X.length-(i+1)<X.length-i;omega
   refine cL (bB (bB (cw (ai (ao (ah (mvi rfl (ab (cq rfl rfl) (mvb rfl (Ap (t:=97) rfl (fun Q62=>?_) (fun Q62=>?_)))))))))))
   ·refine aq rfl rfl (aq rfl rfl (aq rfl rfl (aq rfl rfl (aq rfl rfl (aq rfl rfl (ab (aM (v:=.bool _) rfl rfl) (mvb rfl (aq rfl rfl ?_))))))));refine aq rfl rfl (aq rfl rfl (aq rfl rfl (ab (aM (v:=.bool _) rfl rfl) (asb rfl (an (ai (aE (bA (v:=.bool _) rfl rfl (⟨⟨_,rfl,fun h9=>?_⟩,hB⟩)))))))))
    have hh:m2≤20000∧s.es.length≤600∧X.length≤100:=by
     first
      |(exfalso;simp at h9;done)
      |(have h8:=dF_ h9;omega)
      |(simp only [decide_eq_false_iff_not] at h9;omega)
      |(simp at h9;omega)
    have hkl:k=a.L.length:=by omega
    refine ⟨⟨by omega,by omega,by omega,by omega,by omega,fun q hq=>?_⟩,hh.2.1,hh.2.2,⟨by omega,by omega⟩,fun y hy=>?_⟩
    ·rw [←h.r.r] at hq;obtain ⟨y,hy,rfl⟩:=List.mem_map.1 hq;obtain ⟨j,hj,rfl⟩:=List.getElem_of_mem hy;have:=hj1 j hj (by omega);omega
    ·obtain ⟨j,hj,rfl⟩:=List.getElem_of_mem hy;have:=hj2 j hj (by omega);omega
   refine ae rfl (ab (aa dq rfl) (ae rfl (ab (aa bn rfl) (ae rfl (ab (aa di rfl) (ae rfl (ab (ar bR rfl (by exact (show _=some (Value.slice a.E s.es.length a.Ec) from (hk1.from_ ag.rfl_).rd 8 rfl))) ?_)))))));refine ae rfl (ab (bU cT rfl) (ae rfl (ab (cq rfl rfl) (ab (ay (v:=.bool _) rfl rfl) (mvb rfl (Ap (t:=105) rfl (fun Q63=>?_) (fun Q63=>?_)))))))
   ·refine aq rfl rfl (aq rfl rfl (aq rfl rfl (aq rfl rfl (ab (aM (v:=.bool _) rfl rfl) (asb rfl (an (ai (aE (bA (v:=.bool _) rfl rfl (⟨⟨_,rfl,fun h9=>?_⟩,hB⟩))))))))))
    have hh:m2≤20000∧s.es.length≤600∧X.length≤100:=by
     first
      |(exfalso;simp at h9;done)
      |(have h8:=dF_ h9;omega)
      |(simp only [decide_eq_false_iff_not] at h9;omega)
      |(simp at h9;omega)
    have hkl:k=a.L.length:=by omega
    refine ⟨⟨by omega,by omega,by omega,by omega,by omega,fun q hq=>?_⟩,hh.2.1,hh.2.2,⟨by omega,by omega⟩,fun y hy=>?_⟩
    ·rw [←h.r.r] at hq;obtain ⟨y,hy,rfl⟩:=List.mem_map.1 hq;obtain ⟨j,hj,rfl⟩:=List.getElem_of_mem hy;have:=hj1 j hj (by omega);omega
    ·obtain ⟨j,hj,rfl⟩:=List.getElem_of_mem hy;have:=hj2 j hj (by omega);omega
   refine ae rfl (ab (aa dQ rfl) (ae rfl (ab (ar ei rfl (by exact (show _=some (Value.slice LA X.length lc) from (hk1.from_ ag.rfl_).rd 22 rfl))) ?_)));refine ae rfl (ab (bU gg rfl) (ae rfl (ab (cq rfl rfl) (ab (ay (v:=.bool _) rfl rfl) (asb rfl (an (ai (aE (bA (v:=.bool _) rfl rfl (⟨⟨_,rfl,fun h9=>?_⟩,hB⟩))))))))))
   have hh:m2≤20000∧s.es.length≤600∧X.length≤100:=by
    first
     |(exfalso;simp at h9;done)
     |(have h8:=dF_ h9;omega)
     |(simp only [decide_eq_false_iff_not] at h9;omega)
     |(simp at h9;omega)
   have hkl:k=a.L.length:=by omega
   refine ⟨⟨by omega,by omega,by omega,by omega,by omega,fun q hq=>?_⟩,hh.2.1,hh.2.2,⟨by omega,by omega⟩,fun y hy=>?_⟩
   ·rw [←h.r.r] at hq;obtain ⟨y,hy,rfl⟩:=List.mem_map.1 hq;obtain ⟨j,hj,rfl⟩:=List.getElem_of_mem hy;have:=hj1 j hj (by omega);omega
   ·obtain ⟨j,hj,rfl⟩:=List.getElem_of_mem hy;have:=hj2 j hj (by omega);omega
  refine bD rfl (an (ai (bg rfl (cL (bB (bB (cw (ai (ao (ah (mvi rfl (ab (cq rfl rfl) (mvb rfl (Ap (t:=97) rfl (fun Q64=>?_) (fun Q64=>?_)))))))))))))))
  ·refine aq rfl rfl (aq rfl rfl (aq rfl rfl (aq rfl rfl (aq rfl rfl (aq rfl rfl (ab (aM (v:=.bool _) rfl rfl) (mvb rfl (aq rfl rfl ?_))))))));refine aq rfl rfl (aq rfl rfl (aq rfl rfl (ab (aM (v:=.bool _) rfl rfl) (asb rfl (an (ai (aE (bA (v:=.bool _) rfl rfl (⟨⟨_,rfl,fun h9=>?_⟩,hB⟩)))))))))
   have hh:m2≤20000∧s.es.length≤600∧X.length≤100:=by
    first
     |(exfalso;simp at h9;done)
     |(have h8:=dF_ h9;omega)
     |(simp only [decide_eq_false_iff_not] at h9;omega)
     |(simp at h9;omega)
   have hkl:k=a.L.length:=by omega
   refine ⟨⟨by omega,by omega,by omega,by omega,by omega,fun q hq=>?_⟩,hh.2.1,hh.2.2,⟨by omega,by omega⟩,fun y hy=>?_⟩
   ·rw [←h.r.r] at hq;obtain ⟨y,hy,rfl⟩:=List.mem_map.1 hq;obtain ⟨j,hj,rfl⟩:=List.getElem_of_mem hy;have:=hj1 j hj (by omega);omega
   ·obtain ⟨j,hj,rfl⟩:=List.getElem_of_mem hy;have:=hj2 j hj (by omega);omega
  refine ae rfl (ab (aa dq rfl) (ae rfl (ab (aa bn rfl) (ae rfl (ab (aa di rfl) (ae rfl (ab (ar bR rfl (by exact (show _=some (Value.slice a.E s.es.length a.Ec) from (hk1.from_ ag.rfl_).rd 8 rfl))) ?_)))))));refine ae rfl (ab (bU cT rfl) (ae rfl (ab (cq rfl rfl) (ab (ay (v:=.bool _) rfl rfl) (mvb rfl (Ap (t:=105) rfl (fun Q65=>?_) (fun Q65=>?_)))))))
  ·refine aq rfl rfl (aq rfl rfl (aq rfl rfl (aq rfl rfl (ab (aM (v:=.bool _) rfl rfl) (asb rfl (an (ai (aE (bA (v:=.bool _) rfl rfl (⟨⟨_,rfl,fun h9=>?_⟩,hB⟩))))))))))
   have hh:m2≤20000∧s.es.length≤600∧X.length≤100:=by
    first
     |(exfalso;simp at h9;done)
     |(have h8:=dF_ h9;omega)
     |(simp only [decide_eq_false_iff_not] at h9;omega)
     |(simp at h9;omega)
   have hkl:k=a.L.length:=by omega
   refine ⟨⟨by omega,by omega,by omega,by omega,by omega,fun q hq=>?_⟩,hh.2.1,hh.2.2,⟨by omega,by omega⟩,fun y hy=>?_⟩
   ·rw [←h.r.r] at hq;obtain ⟨y,hy,rfl⟩:=List.mem_map.1 hq;obtain ⟨j,hj,rfl⟩:=List.getElem_of_mem hy;have:=hj1 j hj (by omega);omega
   ·obtain ⟨j,hj,rfl⟩:=List.getElem_of_mem hy;have:=hj2 j hj (by omega);omega
  refine ae rfl (ab (aa dQ rfl) (ae rfl (ab (ar ei rfl (by exact (show _=some (Value.slice LA X.length lc) from (hk1.from_ ag.rfl_).rd 22 rfl))) ?_)));refine ae rfl (ab (bU gg rfl) (ae rfl (ab (cq rfl rfl) (ab (ay (v:=.bool _) rfl rfl) (asb rfl (an (ai (aE (bA (v:=.bool _) rfl rfl (⟨⟨_,rfl,fun h9=>?_⟩,hB⟩))))))))))
  have hh:m2≤20000∧s.es.length≤600∧X.length≤100:=by
   first
    |(exfalso;simp at h9;done)
    |(have h8:=dF_ h9;omega)
    |(simp only [decide_eq_false_iff_not] at h9;omega)
    |(simp at h9;omega)
  have hkl:k=a.L.length:=by omega
  refine ⟨⟨by omega,by omega,by omega,by omega,by omega,fun q hq=>?_⟩,hh.2.1,hh.2.2,⟨by omega,by omega⟩,fun y hy=>?_⟩
  ·rw [←h.r.r] at hq;obtain ⟨y,hy,rfl⟩:=List.mem_map.1 hq;obtain ⟨j,hj,rfl⟩:=List.getElem_of_mem hy;have:=hj1 j hj (by omega);omega
  ·obtain ⟨j,hj,rfl⟩:=List.getElem_of_mem hy;have:=hj2 j hj (by omega);omega
def eH (k:Nat) (l:List Msg):Prop:=l.length≤k∧∀ m∈l,m.es.length≤16
theorem eH.nil {k:Nat}:eH k []:=⟨Nat.zero_le _,fun m hm=>by cases hm⟩
theorem eH.tell {k:Nat} {p:Sp} (h:eH k p.out) {m:Msg} (hm:m.es.length≤16):eH (k+1) (p.tell m).out:=by
 refine ⟨by show (p.out++[_]).length≤_;rw [List.length_append,List.length_singleton];have:=h.1;omega,fun x hx=>?_⟩;rcases List.mem_append.1 hx with e | e
 ·exact h.2 x e
 ·obtain rfl:=List.mem_singleton.1 e;exact hm
theorem rD (s:Rf) (to:Int):(kD s to).es.length≤16:=by
 unfold kD;simp only;split
 ·exact Nat.zero_le _
 ·show ((s.es.drop _).take 16).length≤16;rw [List.length_take];omega
theorem eH.sends {k:Nat} {p:Sp} (h:eH k p.out) (l:List Int):eH (k+l.length) (p.sends l).out:=by
 rw [kC];refine ⟨by rw [List.length_append,List.length_map];have:=h.1;omega,fun x hx=>?_⟩;rcases List.mem_append.1 hx with e | e
 ·exact h.2 x e
 ·obtain ⟨y,_,rfl⟩:=List.mem_map.1 e;exact rD _ _
theorem eH.up {k j:Nat} {l:List Msg} (h:eH k l) (hj:k≤j):eH j l:=⟨Nat.le_trans h.1 hj,h.2⟩
theorem eH.all {k:Nat} {p:Sp} (h:eH k p.out) (hn:p.s.nodes≤7):eH (k+7) p.all.out:=(h.sends (dJ p.s)).up (by have:=lK p.s;omega)
theorem eH.lead {k:Nat} {p:Sp} (h:eH k p.out) (hn:p.s.nodes≤7):eH (k+7) (mg p).out:=by
 unfold mg;split
 ·exact h.up (by omega)
 ·exact eH.all (p:=⟨_,p.out⟩) h hn
theorem eH.wins {k:Nat} {p:Sp} (h:eH k p.out) (hn:p.s.nodes≤7):eH (k+7) (km p).out:=by
 unfold km;split
 ·exact h.lead hn
 ·exact h.up (by omega)
theorem RfF.leads {p:Sp} (h:RfF p.s):RfF (mg p).s:=by
 unfold mg;split
 ·exact h.falls h.te.2
 ·rename_i hf;have hf':ir p.s=false:=by simpa using hf
  have h1:=h.lead hf';show RfF (dA (Sp.all ⟨_,p.out⟩).s);rw [mU];exact h1.settle rfl
theorem RfF.wins {p:Sp} (h:RfF p.s):RfF (km p).s:=by
 unfold km;split
 ·exact h.leads
 ·exact h
theorem bo.chgT {w w':World} {tag:Nat→Nat} {s:Rf} {a:Ra} {U:Nat→Prop} (h:bo w tag s a) (hC:Chg U w w') (hU:∀ q,q<w.heap.size→U q→tag q=8∨tag q=6∨∃ j,tag q=1000+2*j):bo w' tag s a:=by
 have mv:∀ {d e s n cc:Nat} {A:Option Addr} {xs:List Value},StC d→w.ownsRow 0 e s (.slice A n cc) n xs∧Col tag d A→w'.ownsRow 0 e s (.slice A n cc) n xs∧Col tag d A:=fun hd h=>⟨eE h.1 hC (fun k hk e=>by
  have h1:=h.2 k hk;have h8:=hd.eight;have h6:=hd.six;rcases hU k (ek h.1 k hk) e with e | e | ⟨j,e⟩
  ·omega
  ·omega
  ·have:=hd.even j;omega),h.2⟩
 exact ⟨fun hx=>mv (.inl (by decide)) (h.e hx),fun hx=>mv (.inl (by decide)) (h.v hx),fun hx=>mv (.inl (by decide)) (h.x hx),fun hx=>mv (.inl (by decide)) (h.m hx),fun hx=>mv (.inl (by decide)) (h.n hx),h.r,fun hx=>mv (.inl (by decide)) (h.q hx),fun i hi hx=>mv (.inr ⟨i,rfl⟩) (h.k i hi hx)⟩
theorem eC.chgT {w w':World} {tag:Nat→Nat} {out:List Msg} {O:Option Addr} {oc:Nat} {L:List Msg} {U:Nat→Prop} (h:eC w tag out O oc L) (hC:Chg U w w') (hU:∀ q,q<w.heap.size→U q→tag q=8∨StC (tag q)):eC w' tag out O oc L:=by
 have mv:∀ {d e s n cc:Nat} {A:Option Addr} {xs:List Value},(d=6∨∃ j,d=1000+2*j)→w.ownsRow 0 e s (.slice A n cc) n xs∧Col tag d A→w'.ownsRow 0 e s (.slice A n cc) n xs∧Col tag d A:=fun hd h=>⟨eE h.1 hC (fun k hk e=>by
  have h1:=h.2 k hk;rcases hU k (ek h.1 k hk) e with e | e
  ·rcases hd with hd | ⟨j,hd⟩ <;> omega
  ·rcases hd with hd | ⟨j,hd⟩
   ·have:=e.six;omega
   ·have:=e.even j;omega),h.2⟩
 exact ⟨(mv (.inl rfl) ⟨h.o,h.c⟩).1,h.l,fun j hj=>mv (.inr ⟨j,rfl⟩) (h.e j hj),h.c⟩
theorem eC.len {w:World} {tag:Nat→Nat} {out:List Msg} {O:Option Addr} {oc:Nat} {L:List Msg} (h:eC w tag out O oc L):L.length=out.length:=by
 have h9:=congrArg List.length h.l;rw [List.length_map] at h9;exact h9
theorem eC.es {w:World} {tag:Nat→Nat} {out:List Msg} {O:Option Addr} {oc:Nat} {L:List Msg} {k:Nat} (h:eC w tag out O oc L) (ho:eH k out):∀ x∈L,x.es.length≤16:=fun x hx=>by
 have h1:pl x∈out:=by rw [←h.l];exact List.mem_map_of_mem hx
 exact (show (pl x).es.length≤16 from ho.2 _ h1)
theorem eC.ents {w:World} {tag:Nat→Nat} {out:List Msg} {O:Option Addr} {oc:Nat} {L:List Msg} (h:eC w tag out O oc L):∀ x∈L,cC w (.slice x.E x.es.length x.c) x.es:=fun x hx=>by
 obtain ⟨j,hj,rfl⟩:=List.getElem_of_mem hx;exact cC.of_own (h.e j hj).1 rfl
theorem y3 {w:World} {tag tag':Nat→Nat} {out:List Msg} {O O':Option Addr} {oc oc':Nat} {L L':List Msg} (h:eC w tag out O oc L) (h':eC w tag' out O' oc' L') (ho:eH 1000 out) :
 Rt prog 50 [.slice O L.length oc,.slice O' L'.length oc'] w fun v w'=>v=.bool true∧ag w w':=by
 have e:=h'.len.trans h.len.symm;have hl:=h.len;have h1:=ho.1;rw [e];exact r_ O O' oc oc' L.length L L' w (iu.own nR (by decide) h.o).2 (iu.own nR (by decide) h'.o).2 rfl e (h.l.trans h'.l.symm) h.ents h'.ents (fun x hx=>by have:=h.es ho x hx;omega) (by omega)
def UBs (z b4 b11:Nat):Nat→Prop:=fun q=>q=b11∨q=b4∨z≤q
theorem mH (s:Rf) (a:Ra) (w:World) (hrd:eX w s a) (hl:s.votes.length≤1000000∧s.next.length≤1000000∧s.mtch.length≤1000000∧s.sent.length≤1000000∧s.reads.length≤1000000∧∀ q∈s.reads,q.acks.length≤1000000) {b:Bool} (hm:im s=b):Rt prog 30 [.agg (rfV s a).toArray] w fun v w'=>v=.bool b∧ag w w':=by
 subst hm;exact yB s a w hrd hl
theorem my (i:Int) (n N:Nat) (w:World) (hn:0<n∧n≤1000) (h:wiN i n=N):Rt prog 31 [.int .i64 i,.int .i64 (n:Nat)] w fun v w'=>v=.int .i64 (N:Nat)∧w=w':=by
 subst h;exact ky i n w hn
theorem sz7 {s:Rf} (hl:s.votes.length≤1000000∧s.next.length≤1000000∧s.mtch.length≤1000000∧s.sent.length≤1000000∧s.reads.length≤1000000∧∀ q∈s.reads,q.acks.length≤1000000) (hel:s.es.length≤1000000):s.es.length≤1000000∧s.votes.length≤1000000∧s.next.length≤1000000∧s.mtch.length≤1000000∧s.sent.length≤1000000∧s.reads.length≤1000000∧∀ q∈s.reads,q.acks.length≤1000000:=⟨hel,hl⟩
structure Bt (w:World) (tag:Nat→Nat) (l:List Rd) (A:Option Addr) (c:Nat) (N:List (Rd×Option Addr×Nat)):Prop where
 q:w.ownsRow 0 54 4 (.slice A N.length c) N.length (N.flatMap rdV)
 r:N.map (fun q=>q.1)=l
 k:∀ (j:Nat) (h:j<N.length),w.ownsRow 0 3 1 (.slice N[j].2.1 N[j].1.acks.length N[j].2.2) N[j].1.acks.length (N[j].1.acks.map iV)∧Col tag (1000+2*j) N[j].2.1
 c:Col tag 6 A
section
variable {w w':World} {tag:Nat→Nat} {l:List Rd} {A:Option Addr} {c:Nat} {N:List (Rd×Option Addr×Nat)}
structure Br (w:World) (l:List Rd) (A:Option Addr) (N:List (Rd×Option Addr×Nat)):Prop where
 q:iu 4 rdV w A N
 r:N.map (fun q=>q.1)=l
 k:∀ q∈N,IR w q.2.1 q.2.2 q.1.acks
end
def Sz7 (s:Rf):Prop:=s.es.length≤1000000∧s.votes.length≤1000000∧s.next.length≤1000000∧s.mtch.length≤1000000∧s.sent.length≤1000000∧s.reads.length≤1000000∧∀ q∈s.reads,q.acks.length≤1000000
theorem Sz7.settle {s:Rf} (h:Sz7 s):Sz7 (dA s):=by
 obtain ⟨h0,h1,h2,h3,h4,h5,h6⟩:=h;exact ⟨h0,h1,h2,by show (eK s.mtch s.id _).length≤_;rw [fQ];exact h3,h4,h5,h6⟩
end Go.Proofs.YtkpooenofjdpmaaGreat
namespace Go.Proofs.YtkpooenofjdpmaaGreat
open Go.Proofs.Tryz (prog)
open Go.RowKit
open Go.ChangeShapes Go.WideShapes Go.ChangeAt
open Go.RowKit
theorem RfF.sz {s:Rf} (h:RfF s):Sz7 s:=by
 have hn:=h.n;have hv:=h.vl;have hl:=h.last;have h1:=h.nx.1;have h2:=h.ma.1;have h3:=h.se.1;have h0:gp s≤7:=by unfold gp;split <;> omega
 have h4:=h.rl
 exact ⟨by omega,by omega,by omega,by omega,by omega,by omega,fun q hq=>by
  have h5:=h.rd q hq;unfold gQ at h5;simp only [Bool.and_eq_true] at h5;have:=vw h5.2 hn.2;omega⟩
structure er (p:Sp):Prop where
 s:Sz7 p.s
 o:eH 100 p.out
theorem er.nil {s:Rf} (h:Sz7 s):er ⟨s,[]⟩:=⟨h,eH.nil⟩
theorem er.tell {s:Rf} {m:Msg} (h:Sz7 s) (hm:m.es.length≤16):er (Sp.tell ⟨s,[]⟩ m):=⟨h,(eH.tell (k:=0) (p:=⟨s,[]⟩) eH.nil hm).up (by decide)⟩
theorem er.send {s:Rf} (h:Sz7 s) (to:Int):er (Sp.send ⟨s,[]⟩ to):=er.tell h (rD _ _)
theorem vq {s:Rf} (h:Sz7 s) (m:Msg):er (gj s m):=by
 unfold gj;split
 ·exact er.tell h (Nat.zero_le _)
 ·split
  ·exact er.tell h (Nat.zero_le _)
  ·exact er.nil h
theorem yl {s:Rf} (h:Sz7 s) (m:Msg):er (vZ s m):=by
 unfold vZ;simp only;split
 ·exact er.tell (s:={ s with vote:=m.f,elapsed:=0 }) h (Nat.zero_le _)
 ·exact er.tell h (Nat.zero_le _)
theorem vY {s:Rf} (h:RfF s) {m:Msg} (hf:1≤m.f∧m.f≤s.nodes):er (s6 s m):=by
 unfold s6;split
 ·have h1:=h.voted hf;have hn:=h.n;exact ⟨(RfF.wins (p:=⟨{ s with votes:=kz s.votes m.f },[]⟩) h1).sz,(eH.wins (k:=0) (p:=⟨{ s with votes:=kz s.votes m.f },[]⟩) eH.nil hn.2).up (by decide)⟩
 ·exact er.nil h.sz
theorem vK {s:Rf} (h:RfF s) (m:Msg):er (qO s m):=by
 unfold qO;simp only;split
 ·exact er.nil h.sz
 ·rename_i h1;split
  ·exact er.tell h.sz (Nat.zero_le _)
  ·rename_i h2;split
   ·exact er.nil h.sz
   ·have h3:lL s.b s.t m.ix m.lt s.es m.es=(0,false,(lL s.b s.t m.ix m.lt s.es m.es).2.2):=by
     have e1:(lL s.b s.t m.ix m.lt s.es m.es).1=0:=Decidable.byContradiction h1;have e2:(lL s.b s.t m.ix m.lt s.es m.es).2.1=false:=by simpa using h2
     exact Prod.ext e1 (Prod.ext e2 rfl)
    have h4:=(eU (xj h h3).2.1).2.2.2;have h5:=h.sz;exact er.tell (s:={ s with es:=_,commit:=_ }) ⟨Nat.le_trans h4 (by decide),h5.2⟩ (Nat.zero_le _)
theorem yD {s:Rf} (h:Sz7 s) (m:Msg):er (oH s m):=by
 unfold oH;simp only
 have h1:Sz7 (if s.partOf≠m.ix then { s with partOf:=m.ix,part:=⟨#[]⟩ } else s):=by
  split <;> exact h
 generalize (if s.partOf≠m.ix then ({ s with partOf:=m.ix,part:=⟨#[]⟩ }:Rf) else s)=a at h1 ⊢
 split
 ·exact er.tell h (Nat.zero_le _)
 ·have h2:∀ b:Bool,Sz7 (if b=true then { a with part:=a.part++m.d } else a):=fun b=>by
   split <;> exact h1
  have h2:=h2 (decide (m.a=a.part.size)&&decide (a.part.size+m.d.size≤524288))
  generalize (if (decide (m.a=a.part.size)&&decide (a.part.size+m.d.size≤524288))=true then ({ a with part:=a.part++m.d }:Rf) else a)=c at h2 ⊢
  split
  ·refine er.tell (s:={ c with b:=_,t:=_,es:=_,snap:=_,commit:=_,part:=_,partOf:=_ }) ⟨?_,h2.2⟩ (Nat.zero_le _);show (if _ then c.es.drop _ else []).length≤_;have:=h2.1;split
   ·rw [List.length_drop];omega
   ·exact Nat.zero_le _
  ·exact er.tell h2 (Nat.zero_le _)
theorem yU {s:Rf} (h:RfF s) {m:Msg} (hf:1≤m.f∧m.f≤s.nodes):er (nt s m):=by
 unfold nt;simp only;split
 ·exact er.nil h.sz
 ·have h1:RfF (if s.role=1 then cJ s s.term else s)∧(if s.role=1 then cJ s s.term else s).nodes=s.nodes:=by
   split
   ·exact ⟨h.falls h.te.2,(h_ s s.term).2.2.2.2.1⟩
   ·exact ⟨h,rfl⟩
  generalize (if s.role=1 then cJ s s.term else s)=c at h1 ⊢
  have h2:RfF { c with leader:=m.f,elapsed:=0 }:=h1.1.hear ⟨by omega,by rw [h1.2];exact hf.2⟩;split
  ·exact vK h2 m
  ·exact yD h2.sz m
theorem Sz7.put {s:Rf} (h:Sz7 s) {N M S:List Int} (h1:N.length=s.next.length) (h2:M.length=s.mtch.length) (h3:S.length=s.sent.length):Sz7 { s with next:=N,mtch:=M,sent:=S }:=by
 obtain ⟨a0,a1,a2,a3,a4,a5,a6⟩:=h;exact ⟨a0,a1,by show N.length≤_;omega,by show M.length≤_;omega,by show S.length≤_;omega,a5,a6⟩
theorem yn {s0:Rf} (h:RfF s0) {m:Msg} (hf:1≤m.f∧m.f≤s0.nodes):er (v_ s0 m):=by
 unfold v_;split
 ·exact er.nil h.sz
 ·have hs:=(h.ack (rn:=m.rd) hf).sz;simp only
  generalize ya s0 m.f m.rd=s at hs ⊢
  split
  ·split
   ·exact er.send (s:={ s with sent:=eK s.sent m.f m.a }) (Sz7.put hs rfl rfl (fQ _ _ _)) _
   ·exact er.nil hs
  ·split
   ·exact er.send (s:={ s with next:=_,sent:=_ }) (Sz7.put hs (fQ _ _ _) rfl (fQ _ _ _)) _
   ·split
    ·have h1:∀ x y:Int,Sz7 (dA { s with mtch:=eK s.mtch m.f x,next:=eK s.next m.f y,sent:=eK s.sent m.f 0 }):=fun x y=>Sz7.settle (Sz7.put hs (fQ _ _ _) (fQ _ _ _) (fQ _ _ _))
     split
     ·exact er.send (h1 _ _) _
     ·exact er.nil (h1 _ _)
    ·exact er.nil hs
theorem yq {s:Rf} (h:RfF s) {m:Msg} (hf:1≤m.f∧m.f≤s.nodes) (ht:m.tm≤1099511627775):er (cS s m):=by
 unfold cS;simp only
 have h1:RfF (if s.term<m.tm then cJ s m.tm else s)∧(if s.term<m.tm then cJ s m.tm else s).nodes=s.nodes:=by
  split
  ·exact ⟨h.falls ht,(h_ s m.tm).2.2.2.2.1⟩
  ·exact ⟨h,rfl⟩
 generalize (if s.term<m.tm then cJ s m.tm else s)=a at h1 ⊢
 have hf':1≤m.f∧m.f≤a.nodes:=by rw [h1.2];exact hf
 split
 ·exact vq h1.1.sz m
 ·split
  ·exact yl h1.1.sz m
  ·split
   ·exact vY h1.1 hf'
   ·split
    ·exact yU h1.1 hf'
    ·exact yn h1.1 hf'
end Go.Proofs.YtkpooenofjdpmaaGreat
namespace Go.Proofs.YtkpooenofjdpmaaGreat
open Go.Proofs.Tryz (prog)
open Go.RowKit
open Go.ChangeShapes Go.WideShapes Go.ChangeAt
theorem qi:aQ prog 98=true:=by kernel_rfl
theorem qh:kj prog 99=some (.agg #[.int .i64 0,.int .i64 0,.string ⟨#[]⟩]):=by kernel_rfl
theorem jC:cI prog 99 1=some 1:=by kernel_rfl
def OkM (m:Msg):Prop:=OkR m.k m.f m.t m.tm m.ix m.lt m.cm m.rd m.ok m.es m.a m.d m.dn
instance (m:Msg):Decidable (OkM m):=by unfold OkM;exact inferInstance
def pC (s:Rf) (m:Msg):Prop:=OkM m∧vA s m=true
instance (s:Rf) (m:Msg):Decidable (pC s m):=by unfold pC;exact inferInstance
def Em (w:World) (m:Msg):Prop:=cC w (.slice m.E m.es.length m.c) m.es
theorem Em.from_ {w w':World} {m:Msg} (h:Em w m) (hF:ag w w'):Em w' m:=cC.from_ h hF
def rh (m:Msg):Prop:=∀ w:World,Em w m→Rt prog 98 [.agg (bC m).toArray] w fun v w'=>v=.int .i64 (if OkM m then 0 else 1)∧ag w w'
def yf (m:Msg):Prop:=∀ w:World,Em w m→Rt prog 88 [.agg (bC m).toArray] w fun v w'=>v=.bool (decide (OkM m))∧ag w w'
def Ez (Z:Nat→Prop) (m:Msg):Prop:=0<m.es.length→∀ k,m.E.map (·.block)=some k→Z k
theorem Em.ez {w:World} {m:Msg} (h:Em w m) {Z:Nat→Prop} (hZ:∀ k,k<w.heap.size→Z k):Ez Z m:=fun h0 k hk=>by
 obtain ⟨A',c',hv,_,_,_,hp⟩:=h;obtain ⟨b,o,hA,hb,_⟩:=hp h0;simp only [Value.slice.injEq] at hv;rw [hv.1,hA] at hk;cases hk;exact hZ b hb
theorem rh.is {m:Msg} (hck:rh m) {w:World} (he:Em w m) {e:Int} (h:(if OkM m then (0:Int) else 1)=e):Rt prog 98 [.agg (bC m).toArray] w fun v w'=>v=.int .i64 e∧ag w w':=by
 subst h;exact hck w he
theorem yf.is {m:Msg} (hmr:yf m) {w:World} (he:Em w m) {b:Bool} (h:decide (OkM m)=b):Rt prog 88 [.agg (bC m).toArray] w fun v w'=>v=.bool b∧ag w w':=by
 subst h;exact hmr w he
theorem fk (s:Rf) (m:Msg):vA s m=true↔m.t=s.id∧m.f≠s.id∧m.f≤s.nodes∧((m.k=3∨m.k=5)→m.lt≤m.tm∧∀ e∈m.es,e.t≤m.tm):=by
 unfold vA;simp only [Bool.and_eq_true,Bool.or_eq_true,decide_eq_true_eq,List.all_eq_true,Bool.not_eq_true',Bool.or_eq_false_iff,decide_eq_false_iff_not];constructor
 ·rintro ⟨⟨⟨h1,h2⟩,h3⟩,h4⟩;exact ⟨h1,h2,h3,fun hk=>h4.elim (fun e=>by omega) (fun e=>e)⟩
 ·rintro ⟨h1,h2,h3,h4⟩;refine ⟨⟨⟨h1,h2⟩,h3⟩,?_⟩;by_cases hk:m.k=3∨m.k=5
  ·exact .inr (h4 hk)
  ·exact .inl (by omega)
theorem OkM.num {m:Msg} (h:OkM m):ig m.k m.f m.t m.tm m.ix m.lt m.cm m.rd m.a:=h.1
theorem qD {w:World} {A:Option Addr} {n c:Nat} {es:List Ent} (h:cC w (.slice A n c) es) (hn:0<es.length):∃ b o,A=some ⟨b,o,none⟩∧∀ i (hi:i<es.length),w.rangeAt b (o+i*3) [.int .i64 es[i].i,.int .i64 es[i].t,.string es[i].d]:=lh h hn
theorem tW (s:Rf) (a:Ra) (m:Msg) (w:World) (he:Em w m) (_:m.es.length≤1000000) (hck:rh m) (hok:¬ OkM m) :
 Rt prog 57 [.agg (rfV s a).toArray,.agg (bC m).toArray] w (fun v w'=>v=.bool false∧ag w w'):=by
 refine enter (n:=57) Tryz.func57 rfl rfl rfl (ao (ah (bZ (v:=.agg _) rfl ?_)));intro b2 w1 E2 hb2 hk2;refine bZ (v:=.agg _) rfl ?_;intro b3 w2 E3 hb3 hk3;replace hk2:=hk2.from_ E3;refine asb rfl (an (ai (ao (ao (ah (ab (aH (cs:=bC m) bj aY rfl ((hk3.from_ ag.rfl_).whole)) (aC qi (hck.is (he.from_ ((ag.rfl_.next E2).next E3)) (if_neg hok)) ?_)))))));rintro v8 w3 ⟨rfl,E8⟩;refine ab (c6 (dm rfl rfl) rfl) (mvb rfl (aq rfl rfl (aq rfl rfl (aq rfl rfl (aq rfl rfl (aq rfl rfl (ab (aM (v:=.bool _) rfl rfl) (mvb rfl ?_))))))));refine aq rfl rfl (aq rfl rfl (aq rfl rfl (aq rfl rfl (aq rfl rfl (ab (aM (v:=.bool _) rfl rfl) (mvb rfl (aq rfl rfl (aq rfl rfl ?_))))))));refine aq rfl rfl (aq rfl rfl (aq rfl rfl (ab (aM (v:=.bool _) rfl rfl) (an (ai (aZ rfl (ao (ah (asb rfl (an (ai (aE (aG ?_)))))))))))));refine bA (v:=.bool _) rfl rfl (⟨rfl,(((ag.rfl_.next E2).next E3).next E8)⟩)
theorem tV (s:Rf) (a:Ra) (m:Msg) (w:World) (he:Em w m) (hl:m.es.length≤1000000) (hck:rh m) (hok:OkM m) :
 Rt prog 57 [.agg (rfV s a).toArray,.agg (bC m).toArray] w (fun v w'=>v=.bool (vA s m)∧ag w w'):=by
 obtain ⟨Ee,hEe⟩:∃ x,x=m.E:=⟨_,rfl⟩;refine enter (n:=57) Tryz.func57 rfl rfl rfl (ao (ah (bZ (v:=.agg _) rfl ?_)));intro b2 w1 E2 hb2 hk2;refine bZ (v:=.agg _) rfl ?_;intro b3 w2 E3 hb3 hk3;replace hk2:=hk2.from_ E3;refine asb rfl (an (ai (ao (ao (ah (ab (aH (cs:=bC m) bj aY rfl ((hk3.from_ ag.rfl_).whole)) (aC qi (hck.is (he.from_ ((ag.rfl_.next E2).next E3)) (if_pos hok)) ?_)))))));rintro v8 w3 ⟨rfl,E8⟩;refine ab (cu (dm rfl rfl) rfl) (mvb rfl (ae rfl (ab (aa bY rfl) (ae rfl (ab (ar ak rfl (by exact (show _=some (Value.int .i64 m.f) from (hk3.from_ (ag.rfl_.next E8)).rd 1 rfl))) ?_)))));refine ae rfl (ab (aa cd rfl) (ae rfl (ab (ar ak rfl (by exact (show _=some (Value.int .i64 s.nodes) from (hk2.from_ (ag.rfl_.next E8)).rd 1 rfl))) ?_)));refine ae rfl (ab (cq rfl rfl) (ab (ay (v:=.bool _) rfl rfl) (mvb rfl (Ap (t:=17) rfl (fun Q4=>?_) (fun Q4=>?_)))))
 ·refine bD rfl (an (ai (aZ rfl (ao (ah (asb rfl (an (ai (aE (aG (bA (v:=.bool _) rfl rfl (⟨congrArg Value.bool ?_,(((ag.rfl_.next E2).next E3).next E8)⟩))))))))))));rw [eq_comm,←Bool.not_eq_true,fk];rintro ⟨h1,h2,h3,-⟩;omega
 refine ae rfl (ab (aa ew rfl) (ae rfl (ab (ar ak rfl (by exact (show _=some (Value.int .i64 m.t) from (hk3.from_ (ag.rfl_.next E8)).rd 2 rfl))) ?_)));refine ae rfl (ab (aa cB rfl) (ae rfl (ab (ar ak rfl (by exact (show _=some (Value.int .i64 s.id) from (hk2.from_ (ag.rfl_.next E8)).rd 0 rfl))) ?_)));refine ae rfl (ab (dm rfl rfl) (ab (ay (v:=.bool _) rfl rfl) (mvb rfl (Am (t:=24) rfl (fun Q5=>?_) (fun Q5=>?_)))))
 ·refine bD rfl (an (ai (aZ rfl (ao (ah (asb rfl (an (ai (aE (aG (bA (v:=.bool _) rfl rfl (⟨congrArg Value.bool ?_,(((ag.rfl_.next E2).next E3).next E8)⟩))))))))))));rw [eq_comm,←Bool.not_eq_true,fk];rintro ⟨h1,h2,h3,-⟩;omega
 refine ae rfl (ab (aa bY rfl) (ae rfl (ab (ar ak rfl (by exact (show _=some (Value.int .i64 m.f) from (hk3.from_ (ag.rfl_.next E8)).rd 1 rfl))) ?_)));refine ae rfl (ab (aa cB rfl) (ae rfl (ab (ar ak rfl (by exact (show _=some (Value.int .i64 s.id) from (hk2.from_ (ag.rfl_.next E8)).rd 0 rfl))) ?_)));refine ae rfl (ab (bf rfl rfl) (ab (ay (v:=.bool _) rfl rfl) (an (ai (AT rfl (fun Q6=>?_) (fun Q6=>?_))))))
 ·refine ao (ah (asb rfl (an (ai (aE (aG (bA (v:=.bool _) rfl rfl (⟨congrArg Value.bool ?_,(((ag.rfl_.next E2).next E3).next E8)⟩))))))));rw [eq_comm,←Bool.not_eq_true,fk];rintro ⟨h1,h2,h3,-⟩;omega
 refine aO (ai (ao (ao (ah (ab (aa cH rfl) (ab (ar ak rfl (by exact (show _=some (Value.int .i64 m.k) from (hk3.from_ (ag.rfl_.next E8)).rd 0 rfl))) ?_))))));refine ab (dm rfl rfl) (mvb rfl (Am (t:=34) rfl (fun Q7=>?_) (fun Q7=>?_)))
 ·refine ae rfl (ab (aa cH rfl) (ae rfl (ab (ar ak rfl (by exact (show _=some (Value.int .i64 m.k) from (hk3.from_ (ag.rfl_.next E8)).rd 0 rfl))) ?_)));refine ae rfl (ab (dm rfl rfl) (ab (aM (v:=.bool _) rfl rfl) (an (ai (AQ rfl (fun Q8=>?_) (fun Q8=>?_))))))
  ·refine ao (ah (asb rfl (an (ai (aE (aG (bA (v:=.bool _) rfl rfl (⟨congrArg Value.bool ?_,(((ag.rfl_.next E2).next E3).next E8)⟩))))))));rw [eq_comm,fk];exact ⟨by omega,by omega,by omega,fun h=>by omega⟩
  refine aO (ai (ao (ao (ah (ab (aa dz rfl) ?_)))));refine ab (ar bR rfl (by exact (show _=some (Value.slice Ee m.es.length m.c) from by rw [hEe];exact (hk3.from_ (ag.rfl_.next E8)).rd 9 rfl))) ?_;refine ab (bU cT rfl) (mvi rfl (an (ai (bk (dr (G:=Nat) [4,6,43,44,45,46,47,48,49,50,51] (fun i=>[(42,.int .i64 (i:Nat))]) (fun i w'=>i≤m.es.length∧(∀ j (h:j<m.es.length),j<i→m.es[j].t≤m.tm)∧Blk w' b3 39 (bC m).toArray∧ag w w') (fun i=>m.es.length-i) (0) ⟨rfl,trivial⟩ ?_ ?_)))))
  ·exact ⟨Nat.zero_le _,fun j _ h=>absurd h (Nat.not_lt_zero _),hk3.from_ (ag.rfl_.next E8),(((ag.rfl_.next E2).next E3).next E8)⟩
  rintro i ρ9 w9 ⟨hi,hj,hk3L,hB⟩;refine ao (ah (ab (ch rfl rfl) (an (ai (ao (AT rfl (fun Q10=>?_) (fun Q10=>?_)))))))
  ·have hkX:i<m.es.length:=by omega
   obtain ⟨ba,oa,hE2,hca⟩:=qD he (by omega);obtain rfl:Ee=some ⟨ba,oa,none⟩:=hEe.trans hE2;refine aO (ai (ao (bk (ao (ah (ab (b_ dP rfl rfl (by omega)) (ab (aH (cs:=[.int .i64 m.es[i].i,.int .i64 m.es[i].t,.string m.es[i].d]) jX gG rfl (fB hB (hca i hkX))) ?_)))))));have hM6:ag _ w9:=ag.rfl_;have hlt6:=(hk3L.from_ hM6).lt;refine bS qh ?_;intro b6 w11 E6 hb6 hk6;have hg6:w.heap.size≤b6:=by rw [hb6];exact (hB).size
   have h36:b3≠b6:=by omega
   have hk3p:=hk3L.from_ (hM6.next E6);refine cg (vs:=[_,_,_]) gG rfl rfl (by simp [Value.oneCell']) (hk6) rfl ?_;intro w12 O7 P7;replace hk3p:=hk3p.only O7 h36;refine an (ai (ao (ah (ab (aa jC rfl) (ab (ar ak rfl (by exact (show _=some (Value.int .i64 m.es[i].t) from (P7.from_ ag.rfl_).rd 1 rfl))) ?_)))));refine ab (aa bI rfl) (ab (ar ak rfl (by exact (show _=some (Value.int .i64 m.tm) from (hk3p.from_ ag.rfl_).rd 3 rfl))) ?_);refine ab (cq rfl rfl) (an (ai (AT rfl (fun Q13=>?_) (fun Q13=>?_))))
   ·refine ao (ah (asb rfl (an (ai (aE (bG (aG (aG (bG (aG (bA (v:=.bool _) rfl rfl (⟨congrArg Value.bool ?_,((hB.next E6).only O7 (hg6))⟩))))))))))));rw [eq_comm,←Bool.not_eq_true,fk];rintro ⟨h1,h2,h3,h4⟩;have h5:=(h4 (by omega)).2 _ (List.getElem_mem hkX);omega
   refine aO (bN (ai (ah (ab (cn rfl rfl (by omega)) (mvi rfl (an ?_))))));refine bL (i+1) ⟨(by first | rfl | (refine bT ?_;omega)),trivial⟩ (by (iterate 23 refine bd rfl ?_);exact br) ⟨?_,?_⟩
   ·refine ⟨by omega,fun j h hj2=>?_,hk3p.from_ ag.rfl_,((hB.next E6).only O7 (hg6))⟩;rcases Nat.lt_or_ge j i with e | e
    ·exact hj j h e
    ·obtain rfl:j=i:=by omega
     omega
   ·omega
  refine cL (bB (bB (cw (ai (ao (ah (ab (aa cG rfl) (ab (ar ak rfl (by exact (show _=some (Value.int .i64 m.lt) from (hk3L.from_ ag.rfl_).rd 5 rfl))) ?_))))))));refine ab (aa bI rfl) (ab (ar ak rfl (by exact (show _=some (Value.int .i64 m.tm) from (hk3L.from_ ag.rfl_).rd 3 rfl))) ?_);refine ab (eT rfl rfl) (asb rfl (an (ai (aE (bA (v:=.bool _) rfl rfl (⟨congrArg Value.bool ?_,hB⟩))))));obtain rfl:i=m.es.length:=by omega
  rw [eq_comm,Bool.eq_iff_iff,fk,decide_eq_true_eq]
  exact ⟨fun h=>(h.2.2.2 (by omega)).1,fun h=>⟨by omega,by omega,by omega,fun _=>⟨h,fun e hE=>by
   obtain ⟨j,hj9,rfl⟩:=List.getElem_of_mem hE;exact hj j hj9 hj9⟩⟩⟩
 refine bD rfl (an (ai (bg rfl (aO (ai (ao (ao (ah (ab (aa dz rfl) ?_)))))))));refine ab (ar bR rfl (by exact (show _=some (Value.slice Ee m.es.length m.c) from by rw [hEe];exact (hk3.from_ (ag.rfl_.next E8)).rd 9 rfl))) ?_;refine ab (bU cT rfl) (mvi rfl (an (ai (bk (dr (G:=Nat) [4,6,43,44,45,46,47,48,49,50,51] (fun i=>[(42,.int .i64 (i:Nat))]) (fun i w'=>i≤m.es.length∧(∀ j (h:j<m.es.length),j<i→m.es[j].t≤m.tm)∧Blk w' b3 39 (bC m).toArray∧ag w w') (fun i=>m.es.length-i) (0) ⟨rfl,trivial⟩ ?_ ?_)))))
 ·exact ⟨Nat.zero_le _,fun j _ h=>absurd h (Nat.not_lt_zero _),hk3.from_ (ag.rfl_.next E8),(((ag.rfl_.next E2).next E3).next E8)⟩
 rintro i ρ14 w14 ⟨hi,hj,hk3L,hB⟩;refine ao (ah (ab (ch rfl rfl) (an (ai (ao (AT rfl (fun Q15=>?_) (fun Q15=>?_)))))))
 ·have hkX:i<m.es.length:=by omega
  obtain ⟨ba,oa,hE2,hca⟩:=qD he (by omega);obtain rfl:Ee=some ⟨ba,oa,none⟩:=hEe.trans hE2;refine aO (ai (ao (bk (ao (ah (ab (b_ dP rfl rfl (by omega)) (ab (aH (cs:=[.int .i64 m.es[i].i,.int .i64 m.es[i].t,.string m.es[i].d]) jX gG rfl (fB hB (hca i hkX))) ?_)))))));have hM6:ag _ w14:=ag.rfl_;have hlt6:=(hk3L.from_ hM6).lt;refine bS qh ?_;intro b6 w16 E6 hb6 hk6;have hg6:w.heap.size≤b6:=by rw [hb6];exact (hB).size
  have h36:b3≠b6:=by omega
  have hk3p:=hk3L.from_ (hM6.next E6);refine cg (vs:=[_,_,_]) gG rfl rfl (by simp [Value.oneCell']) (hk6) rfl ?_;intro w17 O7 P7;replace hk3p:=hk3p.only O7 h36;refine an (ai (ao (ah (ab (aa jC rfl) (ab (ar ak rfl (by exact (show _=some (Value.int .i64 m.es[i].t) from (P7.from_ ag.rfl_).rd 1 rfl))) ?_)))));refine ab (aa bI rfl) (ab (ar ak rfl (by exact (show _=some (Value.int .i64 m.tm) from (hk3p.from_ ag.rfl_).rd 3 rfl))) ?_);refine ab (cq rfl rfl) (an (ai (AT rfl (fun Q18=>?_) (fun Q18=>?_))))
  ·refine ao (ah (asb rfl (an (ai (aE (bG (aG (aG (bG (aG (bA (v:=.bool _) rfl rfl (⟨congrArg Value.bool ?_,((hB.next E6).only O7 (hg6))⟩))))))))))));rw [eq_comm,←Bool.not_eq_true,fk];rintro ⟨h1,h2,h3,h4⟩;have h5:=(h4 (by omega)).2 _ (List.getElem_mem hkX);omega
  refine aO (bN (ai (ah (ab (cn rfl rfl (by omega)) (mvi rfl (an ?_))))));refine bL (i+1) ⟨(by first | rfl | (refine bT ?_;omega)),trivial⟩ (by (iterate 23 refine bd rfl ?_);exact br) ⟨?_,?_⟩
  ·refine ⟨by omega,fun j h hj2=>?_,hk3p.from_ ag.rfl_,((hB.next E6).only O7 (hg6))⟩;rcases Nat.lt_or_ge j i with e | e
   ·exact hj j h e
   ·obtain rfl:j=i:=by omega
    omega
  ·omega
 refine cL (bB (bB (cw (ai (ao (ah (ab (aa cG rfl) (ab (ar ak rfl (by exact (show _=some (Value.int .i64 m.lt) from (hk3L.from_ ag.rfl_).rd 5 rfl))) ?_))))))));refine ab (aa bI rfl) (ab (ar ak rfl (by exact (show _=some (Value.int .i64 m.tm) from (hk3L.from_ ag.rfl_).rd 3 rfl))) ?_);refine ab (eT rfl rfl) (asb rfl (an (ai (aE (bA (v:=.bool _) rfl rfl (⟨congrArg Value.bool ?_,hB⟩))))));obtain rfl:i=m.es.length:=by omega
 rw [eq_comm,Bool.eq_iff_iff,fk,decide_eq_true_eq]
 exact ⟨fun h=>(h.2.2.2 (by omega)).1,fun h=>⟨by omega,by omega,by omega,fun _=>⟨h,fun e hE=>by
  obtain ⟨j,hj9,rfl⟩:=List.getElem_of_mem hE;exact hj j hj9 hj9⟩⟩⟩
theorem o8 (s:Rf) (a:Ra) (m:Msg) (w:World) (he:Em w m) (hl:m.es.length≤1000000) (hck:rh m) {b:Bool} (h:decide (pC s m)=b):Rt prog 57 [.agg (rfV s a).toArray,.agg (bC m).toArray] w fun v w'=>v=.bool b∧ag w w':=by
 subst h;by_cases hok:OkM m
 ·refine (tV s a m w he hl hck hok).mono fun v w' h=>⟨h.1.trans (congrArg Value.bool ?_),h.2⟩
  rw [Bool.eq_iff_iff,decide_eq_true_eq];exact ⟨fun h=>⟨hok,h⟩,fun h=>h.2⟩
 ·exact (tW s a m w he hl hck hok).mono fun v w' h=>⟨h.1.trans (congrArg Value.bool (decide_eq_false (fun e=>hok e.1)).symm),h.2⟩
theorem jh:∀ (a0:Int) (a1:Int) (a2:Bool),prog.built 39 [(0,.int .i64 4),(8,.bool a2),(4,.int .i64 a0),(7,.int .i64 a1)]=some #[.int .i64 4,.int .i64 0,.int .i64 0,.int .i64 0,.int .i64 a0,.int .i64 0,.int .i64 0,.int .i64 a1,.bool a2,.slice none 0 0,.int .i64 0,.string ⟨#[]⟩,.bool false]:=by intros;kernel_rfl
theorem kN:prog.built 39 [(0,.int .i64 2)]=some #[.int .i64 2,.int .i64 0,.int .i64 0,.int .i64 0,.int .i64 0,.int .i64 0,.int .i64 0,.int .i64 0,.bool false,.slice none 0 0,.int .i64 0,.string ⟨#[]⟩,.bool false]:=by kernel_rfl
theorem iw:aQ prog 144=true:=by kernel_rfl
theorem su:aQ prog 100=true:=by kernel_rfl
def aT (s:Rf) (m:Msg):Rf:=if s.term<m.tm then cJ s m.tm else s
theorem og {s:Rf} {m:Msg} (h:s.term<m.tm):cS s m=cS (cJ s m.tm) m:=by
 have h1:=fG s m.tm;unfold cS;simp only;rw [if_pos h,if_neg (show ¬ (cJ s m.tm).term<m.tm by omega)]
theorem kA {s:Rf} {m:Msg} (h:m.tm<s.term):cS s m=gj s m:=by
 unfold cS;simp only;rw [if_neg (show ¬ s.term<m.tm by omega),if_pos h]
theorem gP.nilL {w:World} {Z:Nat→Prop} {T g oc:Nat} {tag:Nat→Nat} {s:Rf} {a:Ra} {O:Option Addr} {L:List Msg} (h:gP w Z T g tag ⟨s,[]⟩ a O oc L):L=[]:=List.map_eq_nil_iff.1 h.m.l
theorem lU (w0:World) (Z:Nat→Prop) (T g:Nat) (p:Sp) (m:Msg) (ok:Bool) (i:Int) (w:World) (h:aR w0 Z w T g p) (hl:p.out.length≤900) :
 Rt prog 144 [.pointer (some ⟨g,0,none⟩),.agg (bC m).toArray,.bool ok,.int .i64 i] w (fun v w'=>v=.tuple #[]∧aR w0 Z w' T g (iI p m ok i)):=by
 refine enter (n:=17) Tryz.func144 rfl rfl rfl (ao (ah (bZ (v:=.agg _) rfl ?_)));intro b5 w1 E5 hb5 hk5;obtain ⟨wm,hwm⟩:∃ x,x=w1:=⟨_,rfl⟩
 have h3a:=h.at_ (Z':=fun k=>Z k∨k=b5) E5 (fun k hk=>by
  rcases hk with e | e
  ·exact ⟨Nat.lt_of_lt_of_le (h.zw k e) E5.size,.inl e⟩
  ·subst e;exact ⟨hk5.lt,.inr (by omega)⟩)
 obtain ⟨Z7,hZ7⟩:∃ Z7,Z7=fun k=>Z k∨k=b5:=⟨_,rfl⟩
 have h3:aR wm Z7 w1 T g p:=by
  rw [hZ7,hwm];exact h3a
 have hzi:∀ k,Z k→Z7 k:=fun k hk=>by rw [hZ7];exact .inl hk
 have hzb:Z7 b5:=by rw [hZ7];exact .inr rfl
 have hE3:ag w wm:=by rw [hwm];exact E5
 have hm9:Blk wm b5 39 (bC m).toArray:=by rw [hwm];exact hk5
 have hm3:=h3.kept hzb hm9;refine an (ai (ah (mvp rfl (ab (aa bY rfl) (ab (ar ak rfl (by exact (show _=some (Value.int .i64 m.f) from (hm3.from_ ag.rfl_).rd 1 rfl))) ?_)))));refine mvb rfl (mvi rfl (ab (aa dk rfl) (ab (ar ak rfl (by exact (show _=some (Value.int .i64 m.rd) from (hm3.from_ ag.rfl_).rd 7 rfl))) ?_)));refine ab (cl (l:=[(0,.const (.int .i64 4)),(8,.tmp 11),(4,.tmp 12),(7,.tmp 14)]) (jh _ _ _)) (eS (t:=15) (v:=.agg _) (v':=.agg (bC ({ zM with k:=4,ok:=ok,ix:=i,rd:=m.rd }:Msg)).toArray) rfl (by rfl) ?_);have h4:=h3.from_ ag.rfl_;obtain ⟨tgA,aA,OA,ocA,LA,hsA⟩:=h4.ex;have hlA:=hsA.m.len;refine aC gd (lJ wm Z7 T g p _ h4 _ _ _ _ _ hsA (by omega) { zM with k:=4,ok:=ok,ix:=i,rd:=m.rd } m.f ⟨du,Col.none⟩) ?_;rintro v16 w2 ⟨rfl,h6⟩;refine an (da (eg rfl (⟨rfl,h.back hE3 (h6.from_ ag.rfl_) hzi⟩)))
theorem vr (w0:World) (Z:Nat→Prop) (T g:Nat) (s:Rf) (m:Msg) (w:World) (h:aR w0 Z w T g ⟨s,[]⟩) :
 Rt prog 100 [.pointer (some ⟨g,0,none⟩),.agg (bC m).toArray] w (fun v w'=>v=.tuple #[]∧aR w0 Z w' T g (gj s m)):=by
 refine enter (n:=19) Tryz.func100 rfl rfl rfl (ao (ah (bZ (v:=.agg _) rfl ?_)));intro b3 w1 E3 hb3 hk3;obtain ⟨wm,hwm⟩:∃ x,x=w1:=⟨_,rfl⟩
 have h3a:=h.at_ (Z':=fun k=>Z k∨k=b3) E3 (fun k hk=>by
  rcases hk with e | e
  ·exact ⟨Nat.lt_of_lt_of_le (h.zw k e) E3.size,.inl e⟩
  ·subst e;exact ⟨hk3.lt,.inr (by omega)⟩)
 obtain ⟨Z7,hZ7⟩:∃ Z7,Z7=fun k=>Z k∨k=b3:=⟨_,rfl⟩
 have h3:aR wm Z7 w1 T g ⟨s,[]⟩:=by
  rw [hZ7,hwm];exact h3a
 have hzi:∀ k,Z k→Z7 k:=fun k hk=>by rw [hZ7];exact .inl hk
 have hzb:Z7 b3:=by rw [hZ7];exact .inr rfl
 have hE3:ag w wm:=by rw [hwm];exact E3
 have hm9:Blk wm b3 39 (bC m).toArray:=by rw [hwm];exact hk3
 have hm3:=h3.kept hzb hm9;refine an (ai (ao (ah (ab (aa cH rfl) (ab (ar ak rfl (by exact (show _=some (Value.int .i64 m.k) from (hm3.from_ ag.rfl_).rd 0 rfl))) ?_)))));refine an (ai (bk (ao (ah (ab (bf rfl rfl) (asb rfl (an (ai (AS rfl (fun Q2=>?_) (fun Q2=>?_))))))))))
 ·refine ah (mvp rfl (ab (aa bY rfl) (ab (ar ak rfl (by exact (show _=some (Value.int .i64 m.f) from (hm3.from_ ag.rfl_).rd 1 rfl))) ?_)));refine ab (cl (l:=[(0,.const (.int .i64 2))]) (kN)) (eS (t:=11) (v:=.agg _) (v':=.agg (bC ({ zM with k:=2 }:Msg)).toArray) rfl (by rfl) ?_);have h4:=h3.from_ ag.rfl_;obtain ⟨tgA,aA,OA,ocA,LA,hsA⟩:=h4.ex;obtain rfl:=hsA.nilL;refine aC gd (lJ wm Z7 T g ⟨s,[]⟩ _ h4 _ _ _ _ _ hsA (Nat.zero_le _) { zM with k:=2 } m.f ⟨du,Col.none⟩) ?_;rintro v12 w3 ⟨rfl,h6⟩;refine an (bN (da (eg rfl ?_)));unfold gj
  first
   |(rw [if_pos (show m.k=1 by omega)];exact ⟨rfl,h.back hE3 (h6.from_ ag.rfl_) hzi⟩)
   |(rw [if_neg (show ¬ m.k=1 by omega),if_pos (show m.k=3∨m.k=5 by omega)];exact ⟨rfl,h.back hE3 (h6.from_ ag.rfl_) hzi⟩)
   |(rw [if_neg (show ¬ m.k=1 by omega),if_neg (show ¬ (m.k=3∨m.k=5) by omega)];exact ⟨rfl,h.from_ (E3.next ag.rfl_)⟩)
 refine ao (ao (ah (ab (bf rfl rfl) (asb rfl (an (ai (AS rfl (fun Q4=>?_) (fun Q4=>?_))))))))
 ·refine aO (ai (AS rfl (fun Q5=>?_) (fun Q5=>?_)));rotate_left
  ·exfalso;omega
  refine ah (mvp rfl (ab (aH (cs:=bC m) bj aY rfl ((hm3.from_ ag.rfl_).whole)) (aC iw (lU wm Z7 T g ⟨s,[]⟩ m false 0 _ (h3.from_ ag.rfl_) (Nat.zero_le _)) ?_)));rintro v18 w6 ⟨rfl,h6⟩;refine an (bN (da (eg rfl ?_)));unfold gj
  first
   |(rw [if_pos (show m.k=1 by omega)];exact ⟨rfl,h.back hE3 (h6.from_ ag.rfl_) hzi⟩)
   |(rw [if_neg (show ¬ m.k=1 by omega),if_pos (show m.k=3∨m.k=5 by omega)];exact ⟨rfl,h.back hE3 (h6.from_ ag.rfl_) hzi⟩)
   |(rw [if_neg (show ¬ m.k=1 by omega),if_neg (show ¬ (m.k=3∨m.k=5) by omega)];exact ⟨rfl,h.from_ (E3.next ag.rfl_)⟩)
 refine ah (ab (bf rfl rfl) (asb rfl (an (ai (AS rfl (fun Q7=>?_) (fun Q7=>?_))))))
 ·refine ah (mvp rfl (ab (aH (cs:=bC m) bj aY rfl ((hm3.from_ ag.rfl_).whole)) (aC iw (lU wm Z7 T g ⟨s,[]⟩ m false 0 _ (h3.from_ ag.rfl_) (Nat.zero_le _)) ?_)));rintro v18 w8 ⟨rfl,h6⟩;refine an (bN (da (eg rfl ?_)));unfold gj
  first
   |(rw [if_pos (show m.k=1 by omega)];exact ⟨rfl,h.back hE3 (h6.from_ ag.rfl_) hzi⟩)
   |(rw [if_neg (show ¬ m.k=1 by omega),if_pos (show m.k=3∨m.k=5 by omega)];exact ⟨rfl,h.back hE3 (h6.from_ ag.rfl_) hzi⟩)
   |(rw [if_neg (show ¬ m.k=1 by omega),if_neg (show ¬ (m.k=3∨m.k=5) by omega)];exact ⟨rfl,h.from_ (E3.next ag.rfl_)⟩)
 refine aO (bN (da (eg rfl ?_)));unfold gj
 first
  |(rw [if_pos (show m.k=1 by omega)];exact ⟨rfl,h.back hE3 (h6.from_ ag.rfl_) hzi⟩)
  |(rw [if_neg (show ¬ m.k=1 by omega),if_pos (show m.k=3∨m.k=5 by omega)];exact ⟨rfl,h.back hE3 (h6.from_ ag.rfl_) hzi⟩)
  |(rw [if_neg (show ¬ m.k=1 by omega),if_neg (show ¬ (m.k=3∨m.k=5) by omega)];exact ⟨rfl,h.from_ (E3.next ag.rfl_)⟩)
theorem zA (w0:World) (Z:Nat→Prop) (T g:Nat) (s:Rf) (m:Msg) (w:World) (h:aR w0 Z w T g ⟨s,[]⟩) (hgt:m.tm<s.term) :
 Rt prog 58 [.pointer (some ⟨g,0,none⟩),.agg (bC m).toArray] w (fun v w'=>v=.tuple #[]∧aR w0 Z w' T g (cS s m)):=by
 refine enter (n:=55) Tryz.func58 rfl rfl rfl (ao (ah (bZ (v:=.agg _) rfl ?_)));intro b3 w1 E3 hb3 hk3;obtain ⟨wm,hwm⟩:∃ x,x=w1:=⟨_,rfl⟩
 have h3a:=h.at_ (Z':=fun k=>Z k∨k=b3) E3 (fun k hk=>by
  rcases hk with e | e
  ·exact ⟨Nat.lt_of_lt_of_le (h.zw k e) E3.size,.inl e⟩
  ·subst e;exact ⟨hk3.lt,.inr (by omega)⟩)
 obtain ⟨Z7,hZ7⟩:∃ Z7,Z7=fun k=>Z k∨k=b3:=⟨_,rfl⟩
 have h3:aR wm Z7 w1 T g ⟨s,[]⟩:=by
  rw [hZ7,hwm];exact h3a
 have hzi:∀ k,Z k→Z7 k:=fun k hk=>by rw [hZ7];exact .inl hk
 have hzb:Z7 b3:=by rw [hZ7];exact .inr rfl
 have hE3:ag w wm:=by rw [hwm];exact E3
 have hm9:Blk wm b3 39 (bC m).toArray:=by rw [hwm];exact hk3
 have hm3:=h3.kept hzb hm9;refine an (ai (ao (ao ?_)))
 skip
 apply bK 9 [(4,eqp _),(5,eqp (.int .i64 m.tm)),(6,eqp _),(7,eqp _),(8,eqp _),(9,eqp _),(10,eqp _),(11,eqp (.int .i64 s.term)),(12,eqp _)] (by repeat first | exact ct | refine cr ?_ | refine bX ?_) (by kernel_rfl) (by kernel_rfl) ⟨aj _,aj _,aj _,aj _,aj _,aj _,aj _,aj _,aj _,trivial⟩
 case hop=>
  constructor
  ·rintro-w3 D3;exact au (aa bI rfl) rfl
  constructor
  ·rintro-w4 D4;rintro _ rfl;exact au (ar ak rfl (by exact (show _=some (Value.int .i64 m.tm) from (hm3.from_ (ag.rfl_.next D4)).rd 3 rfl))) rfl
  constructor
  ·rintro-w5 D5;exact au (aF (v:=.pointer _) rfl) rfl
  constructor
  ·rintro-w6 D6;rintro _ rfl;exact au (av rfl) rfl
  constructor
  ·rintro-w7 D7;rintro _ rfl;exact au (aa aD rfl) rfl
  constructor
  ·rintro-w8 D8;rintro _ rfl;exact au (aa aB rfl) rfl
  constructor
  ·rintro-w9 D9;rintro _ rfl;exact au (aa bH rfl) rfl
  constructor
  ·rintro-w10 D10;rintro _ rfl;exact au (ar ak rfl (by exact (show _=some (Value.int .i64 s.term) from (h3.from_ (ag.rfl_.next D10)).rd (fun _=>rfl)))) rfl
  constructor
  ·rintro-w11 D11;rintro v11_5 rfl v11_11 rfl;exact au (cu (cq rfl rfl) (decide_eq_false (by omega))) rfl
  exact trivial
 case hend=>
  intro w12 D12;rintro _ rfl v5 rfl _ rfl _ rfl _ rfl _ rfl _ rfl v11 rfl _ rfl;show St ..;refine an (ai (bg rfl (aO (ai (ao (ao ?_))))))
  skip
  apply bK 9 [(19,eqp _),(20,eqp (.int .i64 m.tm)),(21,eqp _),(22,eqp _),(23,eqp _),(24,eqp _),(25,eqp _),(26,eqp (.int .i64 s.term)),(27,eqp _)] (by repeat first | exact ct | refine cr ?_ | refine bX ?_) (by kernel_rfl) (by kernel_rfl) ⟨aj _,aj _,aj _,aj _,aj _,aj _,aj _,aj _,aj _,trivial⟩
  case hop=>
   constructor
   ·rintro-w14 D14;exact au (aa bI rfl) rfl
   constructor
   ·rintro-w15 D15;rintro _ rfl;exact au (ar ak rfl (by exact (show _=some (Value.int .i64 m.tm) from ((h3.kept hzb hm9).from_ ((ag.rfl_.next D12).next D15)).rd 3 rfl))) rfl
   constructor
   ·rintro-w16 D16;exact au (aF (v:=.pointer _) rfl) rfl
   constructor
   ·rintro-w17 D17;rintro _ rfl;exact au (av rfl) rfl
   constructor
   ·rintro-w18 D18;rintro _ rfl;exact au (aa aD rfl) rfl
   constructor
   ·rintro-w19 D19;rintro _ rfl;exact au (aa aB rfl) rfl
   constructor
   ·rintro-w20 D20;rintro _ rfl;exact au (aa bH rfl) rfl
   constructor
   ·rintro-w21 D21;rintro _ rfl;exact au (ar ak rfl (by exact (show _=some (Value.int .i64 s.term) from (h3.from_ ((ag.rfl_.next D12).next D21)).rd (fun _=>rfl)))) rfl
   constructor
   ·rintro-w22 D22;rintro v22_20 rfl v22_26 rfl;exact au (c6 (ch rfl rfl) (decide_eq_true hgt)) rfl
   exact trivial
  case hend=>
   intro w23 D23;rintro _ rfl v20 rfl _ rfl _ rfl _ rfl _ rfl _ rfl v26 rfl _ rfl;show St ..;refine an (ai (aZ rfl (ao (ah (mvp rfl (ab (aH (cs:=bC m) bj aY rfl (((h3.kept hzb hm9).from_ ((ag.rfl_.next D12).next D23)).whole)) (aC su (vr wm Z7 T g s m _ (h3.from_ ((ag.rfl_.next D12).next D23))) ?_)))))));rintro v30 w24 ⟨rfl,h6⟩;refine an (ai (aE (aG (eg rfl ?_))));rw [kA hgt];exact ⟨rfl,h.back hE3 (h6.from_ ag.rfl_) hzi⟩
def AZ (s:Rf) (i:Int) (d:ByteArray):Prop:=(s.b<i∧i≤s.commit∧i≤1099511625728)∧d.size≤524288
instance (s:Rf) (i:Int) (d:ByteArray):Decidable (AZ s i d):=by unfold AZ;exact inferInstance
section
variable {P:Program} {ops:Array Oper} {Q:Exit→Act→World→Prop} {rest:List Oper} {n:Fr} {L:List (Nat×Value)} {w w0 wa:World} {Z:Nat→Prop} {ty:TypeId} {pos:String} {after:Array Edge} {t:TypeId} {s x y:Operand} {T g:Nat} {p:Sp}
theorem lE {b t9:Int} {E:Option Addr} {n9 c:Nat} {es:List Ent} (hn:n9=es.length) (ht:ea P t=some 3) (hx:ev n L x=.pointer (some ⟨g,6,none⟩)) (hy:ev n L y=.agg #[.int .i64 b,.int .i64 t9,.slice E n9 c]) (h:aR w0 Z wa T g p) (hF:ag wa w) (ho:w.ownsRow wa.heap.size 99 3 (.slice E n9 c) n9 (dT es))
 (kk:∀ w',aR w0 Z w' T g ⟨{ p.s with b:=b,t:=t9,es:=es },p.out⟩→St P ops Q rest n L w'):St P ops Q (⟨none,.store t x y,ty,pos,after,none⟩::rest) n L w:=by
 obtain ⟨tag,a,O,oc,L1,hs⟩:=h.ex;exact mD hn ht hx hy (hs.b.from_ hF) fun w' o hb=>kk w' ((h.put hs (ag.toChg hF) (.inl (by decide)) ((hs.f.but (c:=0) (ag.toChg hF)).log b t9 hn (dW ho (Nat.zero_le _)) (fun q hq=>dN (eO ho q hq).1)) (o.toChg rfl) hb).2)
end
end Go.Proofs.YtkpooenofjdpmaaGreat
