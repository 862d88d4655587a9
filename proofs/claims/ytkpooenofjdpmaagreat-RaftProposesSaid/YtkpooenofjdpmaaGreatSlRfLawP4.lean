/- texts that the claim stands on. -/
import Derived.Test.YtkpooenofjdpmaaGreatSlRfLawP3

set_option maxRecDepth 100000
set_option maxHeartbeats 4000000
namespace Go.Proofs.YtkpooenofjdpmaaGreat
open Go.Proofs.Tryz (prog)
open Go.RowKit
open Go.ChangeShapes Go.WideShapes Go.ChangeAt
theorem bB:cr prog 111 0=some 0:=by kernel_rfl
theorem j9:aY prog 65=true:=by kernel_rfl
theorem il:cr prog 111 1=some 22:=by kernel_rfl
theorem nh:aY prog 71=true:=by kernel_rfl
theorem fg:∀ (a0:Int) (a1:Int) (a2:Int) (a3:Int) (a4:Int) (a5:ByteArray) (a6:Bool),prog.built 39 [(0,.int .i64 5),(2,.int .i64 a0),(4,.int .i64 a1),(5,.int .i64 a2),(7,.int .i64 a3),(10,.int .i64 a4),(11,.string a5),(12,.bool a6)]=some #[.int .i64 5,.int .i64 0,.int .i64 a0,.int .i64 0,.int .i64 a1,.int .i64 a2,.int .i64 0,.int .i64 a3,.bool false,.slice none 0 0,.int .i64 a4,.string a5,.bool a6]:=by intros;kernel_rfl
theorem ng:aY prog 82=true:=by kernel_rfl
theorem qg:aY prog 109=true:=by kernel_rfl
theorem fy:∀ (a0:Int) (a1:Int) (a2:Int) (a3:Int) (a4:Int) (a5:Option Addr) (a6 a7:Nat),prog.built 39 [(0,.int .i64 3),(2,.int .i64 a0),(4,.int .i64 a1),(5,.int .i64 a2),(6,.int .i64 a3),(7,.int .i64 a4),(9,.slice a5 a6 a7)]=some #[.int .i64 3,.int .i64 0,.int .i64 a0,.int .i64 0,.int .i64 a1,.int .i64 a2,.int .i64 a3,.int .i64 a4,.bool false,.slice a5 a6 a7,.int .i64 0,.string ⟨#[]⟩,.bool false]:=by intros;kernel_rfl
theorem mD (s:Rf) (E:Option Addr) (n c:Nat) (w:World) (h:ct w (.slice E n c) s.es) (_:cg s.b s.t s.es=true):Rt prog 65 [.agg #[.int .i64 s.b,.int .i64 s.t,.slice E n c]] w fun v w'=>v=.tuple #[.int .i64 (aQ s),.int .i64 (du s.t s.es)]∧aj w w':=
 (Rt.of (lr s.b s.t _ s.es w h)).mono fun _ _ h=>h
theorem mA (T g:Nat) (s:Rf) (a:Ra) (R:List Value) (w:World) (hb:Blk w g T (rfV s a++R).toArray) (he:ct w (.slice a.E s.es.length a.Ec) s.es) (hm:cg s.b s.t s.es=true) :
 Rt prog 70 [.pointer (some ⟨g,0,none⟩)] w (fun v w'=>v=.tuple #[.int .i64 (aQ s),.int .i64 (du s.t s.es)]∧aj w w'):=by
 refine enter (n:=12) Tryz.func70 rfl rfl rfl (an (ah (asi rfl (asi rfl (ak (ag (an (ah (mvp rfl (aa (aw rfl) (aa (ae bB rfl) (aa (ae bk rfl) ?_))))))))))));refine aa (aT (cs:=[.int .i64 s.b,.int .i64 s.t,.slice a.E s.es.length a.Ec]) cZ cI rfl (jh (hb.from_ aj.rfl_))) (aG j9 (mD s a.E s.es.length a.Ec _ (he.from_ aj.rfl_) hm) ?_);rintro v9 w1 ⟨rfl,E9⟩;refine aa (aS rfl rfl) (aa (aS rfl rfl) (asi rfl (asi rfl (ak (ag (aC (mC (v:=.int _ _) (v':=.int _ _) rfl rfl rfl (⟨rfl,(aj.rfl_.next E9)⟩))))))))
theorem pn (w0:World) (Z:Nat→Prop) (T g:Nat) (p:Sp) (w:World) (h:bt w0 Z w T g p) (tag:Nat→Nat) (a:Ra) (O:Option Addr) (oc:Nat) (L:List Msg) (hs:fF w Z T g tag p a O oc L) (hl:L.length≤1000) (m:Msg) (hE:w.ownsRow 0 99 3 (.slice m.E m.es.length m.c) m.es.length (dE m.es)∧Col tag (1000+2*L.length) m.E) :
 Rt prog 71 [.pointer (some ⟨g,0,none⟩),.agg (dT m).toArray] w (fun v w'=>v=.tuple #[]∧bt w0 Z w' T g (p.tell (pl m))):=by
 refine enter (n:=26) Tryz.func71 rfl rfl rfl (an (ah (cU (v:=.agg _) rfl ?_)));intro b3 w1 E3 hb3 hk3;have hgb:=hs.b.lt;have h5:g≠b3:=by omega
 have hg3:w.heap.size≤b3:=Nat.le_of_eq hb3.symm;have hgA:=hs.b.from_ (aj.rfl_.next E3);refine ak (ag (an (ah (mvp rfl (aa (aw rfl) (aa (ae bB rfl) (aa (ae cW rfl) (aa (aq ar rfl (by exact cC (hgA.from_ aj.rfl_) 0 rfl)) ?_))))))));refine aa (ae gx rfl) ?_;have hM1:aj _ w1:=aj.rfl_;refine je (v:=.int _ _) b0 rfl rfl rfl ((hk3.from_ aj.rfl_)) (by show _<13;decide) ?_;intro w2 O1 P1;have hgB0:=(hgA.from_ hM1).only O1 h5;refine ak (ag (an (ah (mvp rfl (aa (aw rfl) (aa (ae bB rfl) (aa (ae cB rfl) (aa (aq ar rfl (by exact cC (hgB0.from_ aj.rfl_) 3 rfl)) ?_))))))));refine aa (ae gv rfl) ?_;have hM2:aj _ w2:=aj.rfl_;refine je (v:=.int _ _) b0 rfl rfl rfl ((P1.from_ aj.rfl_)) (by show _<13;decide) ?_;intro w3 O2 P2;have hgB:=(hgB0.from_ hM2).only O2 h5;have hB:aj w w3:=(((aj.rfl_.next E3).only O1 (hg3)).only O2 (hg3));have hX:Blk w3 b3 39 (dT { m with f:=p.s.id,tm:=p.s.term }).toArray:=P2;refine ak (ag ?_);apply rk 8 7 [22] [(16,eqp _),(17,eqp _),(18,eqp _),(19,eqp _),(20,eqp (.slice O L.length oc)),(21,eqp (.agg (dT { m with f:=p.s.id,tm:=p.s.term }).toArray)),(22,fun v w'=>∃ q,v=.slice (some ⟨q,0,none⟩) 1 1∧Blk w' q 39 (dT { m with f:=p.s.id,tm:=p.s.term }).toArray),(23,fun v w'=>∃ A2 c2,v=.slice A2 (L.length+1) c2∧w'.ownsRow 0 39 13 (.slice A2 (L.length+1) c2) (L.length+1) (L.flatMap dT++dT { m with f:=p.s.id,tm:=p.s.term })∧(∀ k,A2.map (·.block)=some k→O.map (·.block)=some k∨(w3).heap.size≤k))] (fun w'=>aj w3 w') (fun w'=>(w3).grownBy w' (O.map (·.block))) (by repeat first | exact ej | refine ei ?_ | refine dO ?_) (by kernel_rfl) (by kernel_rfl) (by kernel_rfl) ⟨au _,au _,au _,au _,au _,au _,(fun _ _ _ hF ⟨q,h1,h2⟩=>⟨q,h1,h2.from_ hF⟩),(fun _ _ _ hF ⟨A2,c2,h1,h2,h3⟩=>⟨A2,c2,h1,h2.kept_from hF,h3⟩),trivial⟩ (aj.rfl_.d1) (aj.rfl_.d1.grown _) (fun _ _ hF h=>h.next hF) (fun _ _ hF h=>dG h (hF.grown _))
 case hop=>
  constructor
  ·rintro-w5 hG5;exact az (aP (v:=.pointer _) rfl) rfl
  constructor
  ·rintro-w6 D6;exact az (aP (v:=.pointer _) rfl) rfl
  constructor
  ·rintro-w7 D7;rintro _ rfl;exact az (aw rfl) rfl
  constructor
  ·rintro-w8 D8;rintro _ rfl;exact az (ae il rfl) rfl
  constructor
  ·rintro-w9 D9;rintro _ rfl;exact az (aq gT rfl (show _=some (Value.slice O L.length oc) from (hgB.from_ D9).rd 22 rfl)) rfl
  constructor
  ·rintro-w10 D10;exact az (aT (cs:=dT { m with f:=p.s.id,tm:=p.s.term }) fQ fq rfl ((hX.from_ D10).whole)) rfl
  constructor
  ·rintro-w11 D11;rintro v11_21 rfl;exact kY (mx (l:=[(0,.tmp 21)]) (cells:=(dT { m with f:=p.s.id,tm:=p.s.term }).toArray) fP rfl rfl (by show Instr.fill _ _ [(0,Value.agg (dT { m with f:=p.s.id,tm:=p.s.term }).toArray)]=_;kernel_rfl)) (aj.rfl_.new _) ⟨_,rfl,Blk.new _ _ _⟩
  constructor
  ·intro h;cases h
  exact trivial
 case hmu=>
  rintro w13 D13;rintro v13_20 rfl v13_22 ⟨q13,rfl,hq13⟩;show rM ..;refine jY (news:=dT { m with f:=p.s.id,tm:=p.s.term }) fP rfl (by decide) rfl ((hs.m.o.kept_from hB).kept_from D13) (Nat.zero_le _) rfl rfl ⟨_,_,rfl,hq13.whole⟩ (by simp [dT,Value.oneCell']) (by omega) (by omega) ?_;intro A3 c3 w3 ho3 hg3 hl3;exact ⟨dG (D13.grown _) hg3,⟨A3,c3,rfl,ho3,fun k hk=>(hl3 k hk).imp id fun e=>Nat.le_trans D13.size e⟩,fun t u ht h=>kr (by repeat first | exact trivial | refine ⟨.inl rfl,?_⟩ | refine ⟨.inr (fun _ h=>h),?_⟩) t u ht h⟩
 case hend=>
  rintro w14 hG14;rintro _ rfl _ rfl _ rfl _ rfl v20 rfl v21 rfl v22 _ v23 ⟨A23,c23,rfl,ho23,hL23⟩;show St ..;have hgD:=hG14;have hgC:=hgB.chg (Chg.of_grown (U:=fun k=>tag k=6) hgD (fun k hk=>hs.m.c k hk)) (fun e=>by rw [hs.gc] at e;cases e);refine aa (aw rfl) (aa (ae il rfl) (je (v:=.slice _ _ _) nd rfl rfl rfl (hgC) (by show _<23;decide) ?_));intro w15 O3 P3;refine ak (dA (fj rfl (⟨rfl,h.push hs (x:={ m with f:=p.s.id,tm:=p.s.term }) hE hB hgD ho23 rfl (fun k hk=>(hL23 k hk).imp id fun e=>Nat.le_trans hB.size e) O3 P3⟩)))
theorem tv (s:Rf) (i:Int) (E:Option Addr) (c:Nat) (w:World) (h:ct w (.slice E s.es.length c) s.es) (hm:cg s.b s.t s.es=true) (hi:s.b≤i∧i≤aQ s):Rt prog 82 [.agg #[.int .i64 s.b,.int .i64 s.t,.slice E s.es.length c],.int .i64 i] w fun v w'=>v=.tuple #[.int .i64 (ek s.b s.t s.es i),.bool true]∧aj w w':=
 qH s.b s.t i E s.es.length c s.es w h hm ⟨hi.1,by have:=(en hm).1;have h2:aQ s=s.b+s.es.length:=this;omega⟩
theorem sI (s:Rf) (i:Int) (E:Option Addr) (c:Nat) (w:World) (h:ct w (.slice E s.es.length c) s.es) (hm:cg s.b s.t s.es=true) (hi:s.b+1≤i∧i≤aQ s+1):Rt prog 109 [.agg #[.int .i64 s.b,.int .i64 s.t,.slice E s.es.length c],.int .i64 i,.int .i64 16] w fun v w'=>(∃ A' c',v=.slice A' ((s.es.drop (i-s.b-1).toNat).take 16).length c'∧w'.ownsRow w.heap.size 99 3 (.slice A' ((s.es.drop (i-s.b-1).toNat).take 16).length c') ((s.es.drop (i-s.b-1).toNat).take 16).length (dE ((s.es.drop (i-s.b-1).toNat).take 16)))∧aj w w':=
 (pC s.b s.t i 16 E c s.es w h hm ⟨hi.1,by have:=(en hm).1;have h2:aQ s=s.b+s.es.length:=this;omega⟩ (by decide)).mono fun v w' ⟨A',k',c',hv,ho,hF⟩=>by
  have hk:k'=((s.es.drop (i-s.b-1).toNat).take 16).length:=by
   have h1:=ho.1;rw [jm] at h1;have:(16:Int).toNat=16:=rfl;rw [this] at h1;omega
  subst hk;exact ⟨⟨A',c',hv,ho⟩,hF⟩
theorem sy (w0:World) (Z:Nat→Prop) (T g:Nat) (p:Sp) (w:World) (h:bt w0 Z w T g p) (hF:RfF p.s) (hr:p.s.role=2) (hl:p.out.length≤900) (to:Int) (hto:1≤to∧to≤p.s.nodes) :
 Rt prog 73 [.pointer (some ⟨g,0,none⟩),.int .i64 to] w (fun v w'=>v=.tuple #[]∧bt w0 Z w' T g (if to=p.s.id then p else p.send to)):=by
 obtain ⟨tag,a,O,oc,L,hs⟩:=h.ex;obtain ⟨E,Ec,V,Vc,X,Xc,M,Mc,Sn,Sc,Q,Qc,LL⟩:=a;have hb:=hs.b;have hll:L.length=p.out.length:=by rw [←hs.m.l,List.length_map]
 obtain ⟨k,rfl⟩:∃ k:Nat,to=(k:Int)+1:=⟨(to-1).toNat,by omega⟩;have hXl:p.s.next.length=p.s.nodes.toNat:=by rw [hF.nx.1,fc hr]
 have hSl:p.s.sent.length=p.s.nodes.toNat:=by rw [hF.se.1,fc hr]
 have hkX:k<p.s.next.length:=by omega
 have hkS:k<p.s.sent.length:=by omega
 have hnx:=hF.nx.2 _ (List.getElem_mem hkX);have hse:=hF.se.2 _ (List.getElem_mem hkS);obtain ⟨gX,rfl⟩:∃ q,X=some ⟨q,0,none⟩:=dP (hs.f.x (by decide)).1 (by omega);have hXo:w.ownsRow 0 3 1 (.slice (some ⟨gX,0,none⟩) p.s.next.length Xc) p.s.next.length (p.s.next.map iV):=(hs.f.x (by decide)).1;have hXc:=eJ (l:=p.s.next) hXo k hkX;obtain ⟨gS,rfl⟩:∃ q,Sn=some ⟨q,0,none⟩:=dP (hs.f.n (by decide)).1 (by omega);have hSo:w.ownsRow 0 3 1 (.slice (some ⟨gS,0,none⟩) p.s.sent.length Sc) p.s.sent.length (p.s.sent.map iV):=(hs.f.n (by decide)).1;have hSc:=eJ (l:=p.s.sent) hSo k hkS;obtain ⟨na,hna⟩:∃ na:Nat,p.s.sent[k]=(na:Int):=⟨p.s.sent[k].toNat,by omega⟩;have he:ct w (.slice E p.s.es.length Ec) p.s.es:=hs.f.rd.e;have hzw:=h.zw;have hnn:=hF.n;have hsn:=hF.sn;have hbl:=hF.last;have hlb:cX p.s.b p.s.es=aQ p.s:=rfl;have hpn:=la hkX;have hpx:=la hkS;have hid:=hF.i;refine enter (n:=132) Tryz.func73 rfl rfl rfl (an (an (ah (mvi rfl (mvp rfl (aa (aw rfl) (aa (ae bB rfl) (aa (ae cW rfl) (aa (aq ar rfl (by exact (show _=some (Value.int .i64 p.s.id) from cC (hb.from_ aj.rfl_) 0 rfl))) ?_)))))))));refine aa (bC rfl rfl) (ak (ag (xC rfl (fun Q1=>?_) (fun Q1=>?_))))
 ·refine aC (ay (fj rfl ?_));rw [if_pos (by omega)];exact ⟨rfl,h.from_ aj.rfl_⟩
 refine aR (ag (an (ah (mvp rfl (aa (aw rfl) (aa (ae bB rfl) (aa (ae bk rfl) (aa (aT (cs:=[.int .i64 p.s.b,.int .i64 p.s.t,.slice E p.s.es.length Ec]) cZ cI rfl (jh (hb.from_ aj.rfl_))) (cq nb ?_)))))))));intro b4 w2 E4 hb4 hk4;have hg4:w.heap.size≤b4:=by rw [hb4];exact (aj.rfl_).size
 refine cu (vs:=[_,_,_]) cI rfl rfl (by simp [Value.oneCell']) (hk4) rfl ?_;intro w3 O1 P1;have hP1:Blk w3 b4 24 #[.int .i64 p.s.b,.int .i64 p.s.t,.slice E p.s.es.length Ec]:=P1;refine ak (ag (an (ah (mvi rfl (aa (dM rfl rfl (by omega)) (ed (t:=23) (v:=.int _ _) (v':=.int .i64 (k:Nat)) rfl (by exact br (by omega)) ?_))))));refine asi rfl (ak (ag (an (an ?_))));apply dR 11 [(24,eqp _),(25,eqp _),(26,eqp _),(27,eqp _),(28,eqp _),(29,eqp _),(30,eqp _),(31,eqp (.int .i64 p.s.next[k])),(32,eqp _),(33,eqp (.int .i64 p.s.b)),(34,eqp _)] (by repeat first | exact ej | refine ei ?_ | refine dO ?_) (by kernel_rfl) (by kernel_rfl) ⟨au _,au _,au _,au _,au _,au _,au _,au _,au _,au _,au _,trivial⟩
 case hop=>
  constructor
  ·rintro-w5 D5;exact az (aP (v:=.pointer _) rfl) rfl
  constructor
  ·rintro-w6 D6;rintro _ rfl;exact az (aw rfl) rfl
  constructor
  ·rintro-w7 D7;rintro _ rfl;exact az (ae bB rfl) rfl
  constructor
  ·rintro-w8 D8;rintro _ rfl;exact az (ae bu rfl) rfl
  constructor
  ·rintro-w9 D9;rintro _ rfl;exact az (aq aM rfl (by exact (show _=some (Value.slice (some ⟨gX,0,none⟩) p.s.next.length Xc) from cC (hb.from_ (((aj.rfl_.next E4).only O1 (hg4)).next D9)) 15 rfl))) rfl
  constructor
  ·rintro-w10 D10;exact az (aP (v:=.int _ _) rfl) rfl
  constructor
  ·rintro-w11 D11;rintro _ rfl _ rfl;exact az (cH bK rfl rfl (by omega)) rfl
  constructor
  ·rintro-w12 D12;rintro _ rfl;exact az (aq ar rfl (by exact dF (((aj.rfl_.next E4).only O1 (hg4)).next D12) hXc)) rfl
  constructor
  ·rintro-w13 D13;exact az (ae dh rfl) rfl
  constructor
  ·rintro-w14 D14;rintro _ rfl;exact az (aq ar rfl (by exact (hP1.from_ (aj.rfl_.next D14)).rd 0 rfl)) rfl
  constructor
  ·rintro-w15 D15;rintro v15_31 rfl v15_33 rfl;exact az (iF rfl rfl) rfl
  exact trivial
 case hend=>
  intro w16 D16;rintro _ rfl _ rfl _ rfl _ rfl _ rfl _ rfl _ rfl v31 rfl _ rfl v33 rfl _ rfl;show St ..;refine ak (ag (xD rfl (fun Q17=>?_) (fun Q17=>?_)))
  ·refine an (ah (mvp rfl (aa (aw rfl) (aa (ae bB rfl) (aa (ae bW rfl) (aa (aq aM rfl (by exact (show _=some (Value.slice (some ⟨gS,0,none⟩) p.s.sent.length Sc) from cC (hb.from_ (((aj.rfl_.next E4).only O1 (hg4)).next D16)) 17 rfl))) ?_))))));refine mvi rfl (aa (cH bK rfl rfl (by omega)) (aa (aq ar rfl (by exact dF (((aj.rfl_.next E4).only O1 (hg4)).next D16) hSc)) ?_));refine ed (t:=42) (v:=.int _ _) (v':=.int .i64 (na:Nat)) rfl (by exact congrArg (Value.int .i64) hna) ?_;refine asi rfl (ak (ag (an (ah (mvi rfl (mvp rfl (aa (aw rfl) (aa (ae bB rfl) (aa (ae cf rfl) (aa (aq bD rfl (by exact (show _=some (Value.string p.s.snap) from cC (hb.from_ (((aj.rfl_.next E4).only O1 (hg4)).next D16)) 9 rfl))) ?_))))))))));refine aa (df (by kernel_rfl) rfl) (mvi rfl (aa (dM rfl rfl (by omega)) (aa (kO rfl rfl) (aa (bE rfl rfl (by omega)) (ed (t:=53) (v:=.int _ _) (v':=.int .i64 ((min (na+1024) p.s.snap.size:Nat):Int)) rfl (by exact br (by omega)) ?_)))));refine asi rfl (ak (ag (an ?_)));apply kx [(0,54,fun _ v _=>v=_),(1,55,fun _ v _=>v=_),(2,56,fun _ v _=>v=_),(3,57,fun _ v _=>v=_),(4,58,fun _ v _=>v=_),(5,59,fun _ v _=>v=_),(6,60,fun _ v _=>v=_),(7,61,fun _ v _=>v=_),(8,62,fun _ v _=>v=_),(9,63,fun _ v _=>v=_),(10,64,fun _ v _=>v=_),(11,65,fun _ v _=>v=_),(12,66,fun _ v _=>v=_),(13,67,fun _ v _=>v=_),(14,68,fun _ v _=>v=_),(15,69,fun _ v _=>v=_),(16,70,fun _ v _=>v=_),(17,71,fun _ v _=>v=_),(18,72,fun _ v _=>v=_),(19,73,fun _ v _=>v=_),(20,74,fun _ v _=>v=_),(21,75,fun _ v _=>v=_),(22,76,fun _ v _=>v=_),(23,77,fun _ v _=>v=_),(24,78,fun _ v _=>v=_),(25,79,fun _ v _=>v=_),(26,80,fun _ v _=>v=_),(27,81,fun _ v _=>v=_),(28,82,fun _ v _=>v=_),(29,83,fun _ v _=>v=_)] [29] (fun S w'=>(S 29=false→aj w16 w')∧(S 29=true→bt w0 Z w' T g (p.tell (pl ({ zM with k:=5,t:=(k:Int)+1,ix:=p.s.b,lt:=p.s.t,rd:=p.s.round,a:=(na:Int),d:=p.s.snap.extract na (min (na+1024) p.s.snap.size),dn:=decide (min (na+1024) p.s.snap.size=p.s.snap.size) }:Msg))))) (by kernel_rfl) (by kernel_rfl) rfl rfl ⟨fun _ _ _ _ _ _ _ h=>h,fun _ _ _ _ _ _ _ h=>h,fun _ _ _ _ _ _ _ h=>h,fun _ _ _ _ _ _ _ h=>h,fun _ _ _ _ _ _ _ h=>h,fun _ _ _ _ _ _ _ h=>h,fun _ _ _ _ _ _ _ h=>h,fun _ _ _ _ _ _ _ h=>h,fun _ _ _ _ _ _ _ h=>h,fun _ _ _ _ _ _ _ h=>h,fun _ _ _ _ _ _ _ h=>h,fun _ _ _ _ _ _ _ h=>h,fun _ _ _ _ _ _ _ h=>h,fun _ _ _ _ _ _ _ h=>h,fun _ _ _ _ _ _ _ h=>h,fun _ _ _ _ _ _ _ h=>h,fun _ _ _ _ _ _ _ h=>h,fun _ _ _ _ _ _ _ h=>h,fun _ _ _ _ _ _ _ h=>h,fun _ _ _ _ _ _ _ h=>h,fun _ _ _ _ _ _ _ h=>h,fun _ _ _ _ _ _ _ h=>h,fun _ _ _ _ _ _ _ h=>h,fun _ _ _ _ _ _ _ h=>h,fun _ _ _ _ _ _ _ h=>h,fun _ _ _ _ _ _ _ h=>h,fun _ _ _ _ _ _ _ h=>h,fun _ _ _ _ _ _ _ h=>h,fun _ _ _ _ _ _ _ h=>h,fun _ _ _ _ _ _ _ h=>h,trivial⟩ (fun S i w1 w2 hq hF h=>⟨fun h0=>(h.1 (lP h0)).next hF,fun h1=>(fun h=>h.from_ hF) (h.2 (mn (show 29≠i by rintro rfl;exact absurd hq (by decide)) h1))⟩) ⟨fun _=>aj.rfl_.d1,fun h=>by cases h⟩
   case hstep=>
    constructor
    ·rintro S L' w18 hU hmo hme hI hM hC hS ⟨-⟩;have hS0:S 29=false:=(ai hC (j:=29) rfl (by kernel_rfl) hS);have hM18:=hM.1 hS0;have e0:=hI.1 0 (dK rfl);exact aH [(0,_)] hU hmo hme hI hM (.head _) rfl rfl (by kernel_rfl) ⟨e0,trivial⟩ (aP (v:=.pointer _) rfl) aj.rfl_ (rfl)
    constructor
    ·rintro S L' w19 hU hmo hme hI hM hC hS ⟨-⟩;have hS0:S 29=false:=(ai hC (j:=29) rfl (by kernel_rfl) (ai hC (j:=28) rfl (by kernel_rfl) hS));have hM19:=hM.1 hS0;have e1:=hI.1 1 (dK rfl);exact aH [(1,_)] hU hmo hme hI hM (.tail _ (.head _)) rfl rfl (by kernel_rfl) ⟨e1,trivial⟩ (aP (v:=.int _ _) rfl) aj.rfl_ (rfl)
    constructor
    ·rintro S L' w20 hU hmo hme hI hM hC hS ⟨-⟩;have hS0:S 29=false:=(ai hC (j:=29) rfl (by kernel_rfl) (ai hC (j:=28) rfl (by kernel_rfl) (ai hC (j:=3) rfl (by kernel_rfl) hS)));have hM20:=hM.1 hS0;have e4:=hI.1 4 (dK rfl);exact aH [(4,_)] hU hmo hme hI hM (.tail _ (.tail _ (.head _))) rfl rfl (by kernel_rfl) ⟨e4,trivial⟩ (ae dh rfl) aj.rfl_ (rfl)
    constructor
    ·rintro S L' w21 hU hmo hme hI hM hC hS ⟨d2,-⟩;have hS0:S 29=false:=(ai hC (j:=29) rfl (by kernel_rfl) (ai hC (j:=28) rfl (by kernel_rfl) hS));have hM21:=hM.1 hS0;obtain ⟨v21_56,e56,h56⟩:=hI.get (i:=2) (.tail _ (.tail _ (.head _))) d2;obtain rfl:=h56;exact aH [(56,_)] hU hmo hme hI hM (.tail _ (.tail _ (.tail _ (.head _)))) rfl rfl (by kernel_rfl) ⟨e56,trivial⟩ (aq ar rfl (by exact (hP1.from_ ((aj.rfl_.next D16).next hM21)).rd 0 rfl)) aj.rfl_ (rfl)
    constructor
    ·rintro S L' w22 hU hmo hme hI hM hC hS ⟨-⟩;have hS0:S 29=false:=(ai hC (j:=29) rfl (by kernel_rfl) (ai hC (j:=28) rfl (by kernel_rfl) (ai hC (j:=5) rfl (by kernel_rfl) hS)));have hM22:=hM.1 hS0;have e4:=hI.1 4 (dK rfl);exact aH [(4,_)] hU hmo hme hI hM (.tail _ (.tail _ (.tail _ (.tail _ (.head _))))) rfl rfl (by kernel_rfl) ⟨e4,trivial⟩ (ae ky rfl) aj.rfl_ (rfl)
    constructor
    ·rintro S L' w23 hU hmo hme hI hM hC hS ⟨d4,-⟩;have hS0:S 29=false:=(ai hC (j:=29) rfl (by kernel_rfl) (ai hC (j:=28) rfl (by kernel_rfl) hS));have hM23:=hM.1 hS0;obtain ⟨v23_58,e58,h58⟩:=hI.get (i:=4) (.tail _ (.tail _ (.tail _ (.tail _ (.head _))))) d4;obtain rfl:=h58;exact aH [(58,_)] hU hmo hme hI hM (.tail _ (.tail _ (.tail _ (.tail _ (.tail _ (.head _)))))) rfl rfl (by kernel_rfl) ⟨e58,trivial⟩ (aq ar rfl (by exact (hP1.from_ ((aj.rfl_.next D16).next hM23)).rd 1 rfl)) aj.rfl_ (rfl)
    constructor
    ·rintro S L' w24 hU hmo hme hI hM hC hS ⟨-⟩;have hS0:S 29=false:=(ai hC (j:=29) rfl (by kernel_rfl) (ai hC (j:=28) rfl (by kernel_rfl) (ai hC (j:=10) rfl (by kernel_rfl) (ai hC (j:=9) rfl (by kernel_rfl) (ai hC (j:=8) rfl (by kernel_rfl) (ai hC (j:=7) rfl (by kernel_rfl) hS))))));have hM24:=hM.1 hS0;have e0:=hI.1 0 (dK rfl);exact aH [(0,_)] hU hmo hme hI hM (.tail _ (.tail _ (.tail _ (.tail _ (.tail _ (.tail _ (.head _))))))) rfl rfl (by kernel_rfl) ⟨e0,trivial⟩ (aP (v:=.pointer _) rfl) aj.rfl_ (rfl)
    constructor
    ·rintro S L' w25 hU hmo hme hI hM hC hS ⟨d6,-⟩;have hS0:S 29=false:=(ai hC (j:=29) rfl (by kernel_rfl) (ai hC (j:=28) rfl (by kernel_rfl) (ai hC (j:=10) rfl (by kernel_rfl) (ai hC (j:=9) rfl (by kernel_rfl) (ai hC (j:=8) rfl (by kernel_rfl) hS)))));have hM25:=hM.1 hS0;obtain ⟨v25_60,e60,h60⟩:=hI.get (i:=6) (.tail _ (.tail _ (.tail _ (.tail _ (.tail _ (.tail _ (.head _))))))) d6;obtain rfl:=h60;exact aH [(60,_)] hU hmo hme hI hM (.tail _ (.tail _ (.tail _ (.tail _ (.tail _ (.tail _ (.tail _ (.head _)))))))) rfl rfl (by kernel_rfl) ⟨e60,trivial⟩ (aw rfl) aj.rfl_ (rfl)
    constructor
    ·rintro S L' w26 hU hmo hme hI hM hC hS ⟨d7,-⟩;have hS0:S 29=false:=(ai hC (j:=29) rfl (by kernel_rfl) (ai hC (j:=28) rfl (by kernel_rfl) (ai hC (j:=10) rfl (by kernel_rfl) (ai hC (j:=9) rfl (by kernel_rfl) hS))));have hM26:=hM.1 hS0;obtain ⟨v26_61,e61,h61⟩:=hI.get (i:=7) (.tail _ (.tail _ (.tail _ (.tail _ (.tail _ (.tail _ (.tail _ (.head _)))))))) d7;obtain rfl:=h61;exact aH [(61,_)] hU hmo hme hI hM (.tail _ (.tail _ (.tail _ (.tail _ (.tail _ (.tail _ (.tail _ (.tail _ (.head _))))))))) rfl rfl (by kernel_rfl) ⟨e61,trivial⟩ (ae bB rfl) aj.rfl_ (rfl)
    constructor
    ·rintro S L' w27 hU hmo hme hI hM hC hS ⟨d8,-⟩;have hS0:S 29=false:=(ai hC (j:=29) rfl (by kernel_rfl) (ai hC (j:=28) rfl (by kernel_rfl) (ai hC (j:=10) rfl (by kernel_rfl) hS)));have hM27:=hM.1 hS0;obtain ⟨v27_62,e62,h62⟩:=hI.get (i:=8) (.tail _ (.tail _ (.tail _ (.tail _ (.tail _ (.tail _ (.tail _ (.tail _ (.head _))))))))) d8;obtain rfl:=h62;exact aH [(62,_)] hU hmo hme hI hM (.tail _ (.tail _ (.tail _ (.tail _ (.tail _ (.tail _ (.tail _ (.tail _ (.tail _ (.head _)))))))))) rfl rfl (by kernel_rfl) ⟨e62,trivial⟩ (ae cL rfl) aj.rfl_ (rfl)
    constructor
    ·rintro S L' w28 hU hmo hme hI hM hC hS ⟨d9,-⟩;have hS0:S 29=false:=(ai hC (j:=29) rfl (by kernel_rfl) (ai hC (j:=28) rfl (by kernel_rfl) hS));have hM28:=hM.1 hS0;obtain ⟨v28_63,e63,h63⟩:=hI.get (i:=9) (.tail _ (.tail _ (.tail _ (.tail _ (.tail _ (.tail _ (.tail _ (.tail _ (.tail _ (.head _)))))))))) d9;obtain rfl:=h63;exact aH [(63,_)] hU hmo hme hI hM (.tail _ (.tail _ (.tail _ (.tail _ (.tail _ (.tail _ (.tail _ (.tail _ (.tail _ (.tail _ (.head _))))))))))) rfl rfl (by kernel_rfl) ⟨e63,trivial⟩ (aq ar rfl (by exact (show _=some (Value.int .i64 p.s.round) from cC (hb.from_ ((((aj.rfl_.next E4).only O1 (hg4)).next D16).next hM28)) 18 rfl))) aj.rfl_ (rfl)
    constructor
    ·rintro S L' w29 hU hmo hme hI hM hC hS ⟨-⟩;have hS0:S 29=false:=(ai hC (j:=29) rfl (by kernel_rfl) (ai hC (j:=28) rfl (by kernel_rfl) hS));have hM29:=hM.1 hS0;have e6:=hI.1 6 (dK rfl);exact aH [(6,_)] hU hmo hme hI hM (.tail _ (.tail _ (.tail _ (.tail _ (.tail _ (.tail _ (.tail _ (.tail _ (.tail _ (.tail _ (.tail _ (.head _)))))))))))) rfl rfl (by kernel_rfl) ⟨e6,trivial⟩ (aP (v:=.int _ _) rfl) aj.rfl_ (rfl)
    constructor
    ·rintro S L' w30 hU hmo hme hI hM hC hS ⟨-⟩;have hS0:S 29=false:=(ai hC (j:=29) rfl (by kernel_rfl) (ai hC (j:=28) rfl (by kernel_rfl) (ai hC (j:=19) rfl (by kernel_rfl) (ai hC (j:=16) rfl (by kernel_rfl) (ai hC (j:=15) rfl (by kernel_rfl) (ai hC (j:=14) rfl (by kernel_rfl) (ai hC (j:=13) rfl (by kernel_rfl) hS)))))));have hM30:=hM.1 hS0;have e0:=hI.1 0 (dK rfl);exact aH [(0,_)] hU hmo hme hI hM (.tail _ (.tail _ (.tail _ (.tail _ (.tail _ (.tail _ (.tail _ (.tail _ (.tail _ (.tail _ (.tail _ (.tail _ (.head _))))))))))))) rfl rfl (by kernel_rfl) ⟨e0,trivial⟩ (aP (v:=.pointer _) rfl) aj.rfl_ (rfl)
    constructor
    ·rintro S L' w31 hU hmo hme hI hM hC hS ⟨d12,-⟩;have hS0:S 29=false:=(ai hC (j:=29) rfl (by kernel_rfl) (ai hC (j:=28) rfl (by kernel_rfl) (ai hC (j:=19) rfl (by kernel_rfl) (ai hC (j:=16) rfl (by kernel_rfl) (ai hC (j:=15) rfl (by kernel_rfl) (ai hC (j:=14) rfl (by kernel_rfl) hS))))));have hM31:=hM.1 hS0;obtain ⟨v31_66,e66,h66⟩:=hI.get (i:=12) (.tail _ (.tail _ (.tail _ (.tail _ (.tail _ (.tail _ (.tail _ (.tail _ (.tail _ (.tail _ (.tail _ (.tail _ (.head _))))))))))))) d12;obtain rfl:=h66;exact aH [(66,_)] hU hmo hme hI hM (.tail _ (.tail _ (.tail _ (.tail _ (.tail _ (.tail _ (.tail _ (.tail _ (.tail _ (.tail _ (.tail _ (.tail _ (.tail _ (.head _)))))))))))))) rfl rfl (by kernel_rfl) ⟨e66,trivial⟩ (aw rfl) aj.rfl_ (rfl)
    constructor
    ·rintro S L' w32 hU hmo hme hI hM hC hS ⟨d13,-⟩;have hS0:S 29=false:=(ai hC (j:=29) rfl (by kernel_rfl) (ai hC (j:=28) rfl (by kernel_rfl) (ai hC (j:=19) rfl (by kernel_rfl) (ai hC (j:=16) rfl (by kernel_rfl) (ai hC (j:=15) rfl (by kernel_rfl) hS)))));have hM32:=hM.1 hS0;obtain ⟨v32_67,e67,h67⟩:=hI.get (i:=13) (.tail _ (.tail _ (.tail _ (.tail _ (.tail _ (.tail _ (.tail _ (.tail _ (.tail _ (.tail _ (.tail _ (.tail _ (.tail _ (.head _)))))))))))))) d13;obtain rfl:=h67;exact aH [(67,_)] hU hmo hme hI hM (.tail _ (.tail _ (.tail _ (.tail _ (.tail _ (.tail _ (.tail _ (.tail _ (.tail _ (.tail _ (.tail _ (.tail _ (.tail _ (.tail _ (.head _))))))))))))))) rfl rfl (by kernel_rfl) ⟨e67,trivial⟩ (ae bB rfl) aj.rfl_ (rfl)
    constructor
    ·rintro S L' w33 hU hmo hme hI hM hC hS ⟨d14,-⟩;have hS0:S 29=false:=(ai hC (j:=29) rfl (by kernel_rfl) (ai hC (j:=28) rfl (by kernel_rfl) (ai hC (j:=19) rfl (by kernel_rfl) (ai hC (j:=16) rfl (by kernel_rfl) hS))));have hM33:=hM.1 hS0;obtain ⟨v33_68,e68,h68⟩:=hI.get (i:=14) (.tail _ (.tail _ (.tail _ (.tail _ (.tail _ (.tail _ (.tail _ (.tail _ (.tail _ (.tail _ (.tail _ (.tail _ (.tail _ (.tail _ (.head _))))))))))))))) d14;obtain rfl:=h68;exact aH [(68,_)] hU hmo hme hI hM (.tail _ (.tail _ (.tail _ (.tail _ (.tail _ (.tail _ (.tail _ (.tail _ (.tail _ (.tail _ (.tail _ (.tail _ (.tail _ (.tail _ (.tail _ (.head _)))))))))))))))) rfl rfl (by kernel_rfl) ⟨e68,trivial⟩ (ae cf rfl) aj.rfl_ (rfl)
    constructor
    ·rintro S L' w34 hU hmo hme hI hM hC hS ⟨d15,-⟩;have hS0:S 29=false:=(ai hC (j:=29) rfl (by kernel_rfl) (ai hC (j:=28) rfl (by kernel_rfl) (ai hC (j:=19) rfl (by kernel_rfl) hS)));have hM34:=hM.1 hS0;obtain ⟨v34_69,e69,h69⟩:=hI.get (i:=15) (.tail _ (.tail _ (.tail _ (.tail _ (.tail _ (.tail _ (.tail _ (.tail _ (.tail _ (.tail _ (.tail _ (.tail _ (.tail _ (.tail _ (.tail _ (.head _)))))))))))))))) d15;obtain rfl:=h69;exact aH [(69,_)] hU hmo hme hI hM (.tail _ (.tail _ (.tail _ (.tail _ (.tail _ (.tail _ (.tail _ (.tail _ (.tail _ (.tail _ (.tail _ (.tail _ (.tail _ (.tail _ (.tail _ (.tail _ (.head _))))))))))))))))) rfl rfl (by kernel_rfl) ⟨e69,trivial⟩ (aq bD rfl (by exact (show _=some (Value.string p.s.snap) from cC (hb.from_ ((((aj.rfl_.next E4).only O1 (hg4)).next D16).next hM34)) 9 rfl))) aj.rfl_ (rfl)
    constructor
    ·rintro S L' w35 hU hmo hme hI hM hC hS ⟨-⟩;have hS0:S 29=false:=(ai hC (j:=29) rfl (by kernel_rfl) (ai hC (j:=28) rfl (by kernel_rfl) (ai hC (j:=19) rfl (by kernel_rfl) hS)));have hM35:=hM.1 hS0;have e6:=hI.1 6 (dK rfl);exact aH [(6,_)] hU hmo hme hI hM (.tail _ (.tail _ (.tail _ (.tail _ (.tail _ (.tail _ (.tail _ (.tail _ (.tail _ (.tail _ (.tail _ (.tail _ (.tail _ (.tail _ (.tail _ (.tail _ (.tail _ (.head _)))))))))))))))))) rfl rfl (by kernel_rfl) ⟨e6,trivial⟩ (aP (v:=.int _ _) rfl) aj.rfl_ (rfl)
    constructor
    ·rintro S L' w36 hU hmo hme hI hM hC hS ⟨-⟩;have hS0:S 29=false:=(ai hC (j:=29) rfl (by kernel_rfl) (ai hC (j:=28) rfl (by kernel_rfl) (ai hC (j:=19) rfl (by kernel_rfl) hS)));have hM36:=hM.1 hS0;have e7:=hI.1 7 (dK rfl);exact aH [(7,_)] hU hmo hme hI hM (.tail _ (.tail _ (.tail _ (.tail _ (.tail _ (.tail _ (.tail _ (.tail _ (.tail _ (.tail _ (.tail _ (.tail _ (.tail _ (.tail _ (.tail _ (.tail _ (.tail _ (.tail _ (.head _))))))))))))))))))) rfl rfl (by kernel_rfl) ⟨e7,trivial⟩ (aP (v:=.int _ _) rfl) aj.rfl_ (rfl)
    constructor
    ·rintro S L' w37 hU hmo hme hI hM hC hS ⟨d16,d17,d18,-⟩;have hS0:S 29=false:=(ai hC (j:=29) rfl (by kernel_rfl) (ai hC (j:=28) rfl (by kernel_rfl) hS));have hM37:=hM.1 hS0;obtain ⟨v37_70,e70,h70⟩:=hI.get (i:=16) (.tail _ (.tail _ (.tail _ (.tail _ (.tail _ (.tail _ (.tail _ (.tail _ (.tail _ (.tail _ (.tail _ (.tail _ (.tail _ (.tail _ (.tail _ (.tail _ (.head _))))))))))))))))) d16;obtain rfl:=h70;obtain ⟨v37_71,e71,h71⟩:=hI.get (i:=17) (.tail _ (.tail _ (.tail _ (.tail _ (.tail _ (.tail _ (.tail _ (.tail _ (.tail _ (.tail _ (.tail _ (.tail _ (.tail _ (.tail _ (.tail _ (.tail _ (.tail _ (.head _)))))))))))))))))) d17;obtain rfl:=h71;obtain ⟨v37_72,e72,h72⟩:=hI.get (i:=18) (.tail _ (.tail _ (.tail _ (.tail _ (.tail _ (.tail _ (.tail _ (.tail _ (.tail _ (.tail _ (.tail _ (.tail _ (.tail _ (.tail _ (.tail _ (.tail _ (.tail _ (.tail _ (.head _))))))))))))))))))) d18;obtain rfl:=h72;exact aH [(70,_),(71,_),(72,_)] hU hmo hme hI hM (.tail _ (.tail _ (.tail _ (.tail _ (.tail _ (.tail _ (.tail _ (.tail _ (.tail _ (.tail _ (.tail _ (.tail _ (.tail _ (.tail _ (.tail _ (.tail _ (.tail _ (.tail _ (.tail _ (.head _)))))))))))))))))))) rfl rfl (by kernel_rfl) ⟨e70,e71,e72,trivial⟩ ((mw (l:=na) (h:=min (na+1024) p.s.snap.size) oq rfl rfl rfl (by omega) (by omega) rfl)) (aj.rfl_) (rfl)
    constructor
    ·rintro S L' w38 hU hmo hme hI hM hC hS ⟨-⟩;have hS0:S 29=false:=(ai hC (j:=29) rfl (by kernel_rfl) (ai hC (j:=28) rfl (by kernel_rfl) (ai hC (j:=27) rfl (by kernel_rfl) hS)));have hM38:=hM.1 hS0;have e7:=hI.1 7 (dK rfl);exact aH [(7,_)] hU hmo hme hI hM (.tail _ (.tail _ (.tail _ (.tail _ (.tail _ (.tail _ (.tail _ (.tail _ (.tail _ (.tail _ (.tail _ (.tail _ (.tail _ (.tail _ (.tail _ (.tail _ (.tail _ (.tail _ (.tail _ (.tail _ (.head _))))))))))))))))))))) rfl rfl (by kernel_rfl) ⟨e7,trivial⟩ (aP (v:=.int _ _) rfl) aj.rfl_ (rfl)
    constructor
    ·rintro S L' w39 hU hmo hme hI hM hC hS ⟨-⟩;have hS0:S 29=false:=(ai hC (j:=29) rfl (by kernel_rfl) (ai hC (j:=28) rfl (by kernel_rfl) (ai hC (j:=27) rfl (by kernel_rfl) (ai hC (j:=26) rfl (by kernel_rfl) (ai hC (j:=25) rfl (by kernel_rfl) (ai hC (j:=24) rfl (by kernel_rfl) (ai hC (j:=23) rfl (by kernel_rfl) (ai hC (j:=22) rfl (by kernel_rfl) hS))))))));have hM39:=hM.1 hS0;have e0:=hI.1 0 (dK rfl);exact aH [(0,_)] hU hmo hme hI hM (.tail _ (.tail _ (.tail _ (.tail _ (.tail _ (.tail _ (.tail _ (.tail _ (.tail _ (.tail _ (.tail _ (.tail _ (.tail _ (.tail _ (.tail _ (.tail _ (.tail _ (.tail _ (.tail _ (.tail _ (.tail _ (.head _)))))))))))))))))))))) rfl rfl (by kernel_rfl) ⟨e0,trivial⟩ (aP (v:=.pointer _) rfl) aj.rfl_ (rfl)
    constructor
    ·rintro S L' w40 hU hmo hme hI hM hC hS ⟨d21,-⟩;have hS0:S 29=false:=(ai hC (j:=29) rfl (by kernel_rfl) (ai hC (j:=28) rfl (by kernel_rfl) (ai hC (j:=27) rfl (by kernel_rfl) (ai hC (j:=26) rfl (by kernel_rfl) (ai hC (j:=25) rfl (by kernel_rfl) (ai hC (j:=24) rfl (by kernel_rfl) (ai hC (j:=23) rfl (by kernel_rfl) hS)))))));have hM40:=hM.1 hS0;obtain ⟨v40_75,e75,h75⟩:=hI.get (i:=21) (.tail _ (.tail _ (.tail _ (.tail _ (.tail _ (.tail _ (.tail _ (.tail _ (.tail _ (.tail _ (.tail _ (.tail _ (.tail _ (.tail _ (.tail _ (.tail _ (.tail _ (.tail _ (.tail _ (.tail _ (.tail _ (.head _)))))))))))))))))))))) d21;obtain rfl:=h75;exact aH [(75,_)] hU hmo hme hI hM (.tail _ (.tail _ (.tail _ (.tail _ (.tail _ (.tail _ (.tail _ (.tail _ (.tail _ (.tail _ (.tail _ (.tail _ (.tail _ (.tail _ (.tail _ (.tail _ (.tail _ (.tail _ (.tail _ (.tail _ (.tail _ (.tail _ (.head _))))))))))))))))))))))) rfl rfl (by kernel_rfl) ⟨e75,trivial⟩ (aw rfl) aj.rfl_ (rfl)
    constructor
    ·rintro S L' w41 hU hmo hme hI hM hC hS ⟨d22,-⟩;have hS0:S 29=false:=(ai hC (j:=29) rfl (by kernel_rfl) (ai hC (j:=28) rfl (by kernel_rfl) (ai hC (j:=27) rfl (by kernel_rfl) (ai hC (j:=26) rfl (by kernel_rfl) (ai hC (j:=25) rfl (by kernel_rfl) (ai hC (j:=24) rfl (by kernel_rfl) hS))))));have hM41:=hM.1 hS0;obtain ⟨v41_76,e76,h76⟩:=hI.get (i:=22) (.tail _ (.tail _ (.tail _ (.tail _ (.tail _ (.tail _ (.tail _ (.tail _ (.tail _ (.tail _ (.tail _ (.tail _ (.tail _ (.tail _ (.tail _ (.tail _ (.tail _ (.tail _ (.tail _ (.tail _ (.tail _ (.tail _ (.head _))))))))))))))))))))))) d22;obtain rfl:=h76;exact aH [(76,_)] hU hmo hme hI hM (.tail _ (.tail _ (.tail _ (.tail _ (.tail _ (.tail _ (.tail _ (.tail _ (.tail _ (.tail _ (.tail _ (.tail _ (.tail _ (.tail _ (.tail _ (.tail _ (.tail _ (.tail _ (.tail _ (.tail _ (.tail _ (.tail _ (.tail _ (.head _)))))))))))))))))))))))) rfl rfl (by kernel_rfl) ⟨e76,trivial⟩ (ae bB rfl) aj.rfl_ (rfl)
    constructor
    ·rintro S L' w42 hU hmo hme hI hM hC hS ⟨d23,-⟩;have hS0:S 29=false:=(ai hC (j:=29) rfl (by kernel_rfl) (ai hC (j:=28) rfl (by kernel_rfl) (ai hC (j:=27) rfl (by kernel_rfl) (ai hC (j:=26) rfl (by kernel_rfl) (ai hC (j:=25) rfl (by kernel_rfl) hS)))));have hM42:=hM.1 hS0;obtain ⟨v42_77,e77,h77⟩:=hI.get (i:=23) (.tail _ (.tail _ (.tail _ (.tail _ (.tail _ (.tail _ (.tail _ (.tail _ (.tail _ (.tail _ (.tail _ (.tail _ (.tail _ (.tail _ (.tail _ (.tail _ (.tail _ (.tail _ (.tail _ (.tail _ (.tail _ (.tail _ (.tail _ (.head _)))))))))))))))))))))))) d23;obtain rfl:=h77;exact aH [(77,_)] hU hmo hme hI hM (.tail _ (.tail _ (.tail _ (.tail _ (.tail _ (.tail _ (.tail _ (.tail _ (.tail _ (.tail _ (.tail _ (.tail _ (.tail _ (.tail _ (.tail _ (.tail _ (.tail _ (.tail _ (.tail _ (.tail _ (.tail _ (.tail _ (.tail _ (.tail _ (.head _))))))))))))))))))))))))) rfl rfl (by kernel_rfl) ⟨e77,trivial⟩ (ae cf rfl) aj.rfl_ (rfl)
    constructor
    ·rintro S L' w43 hU hmo hme hI hM hC hS ⟨d24,-⟩;have hS0:S 29=false:=(ai hC (j:=29) rfl (by kernel_rfl) (ai hC (j:=28) rfl (by kernel_rfl) (ai hC (j:=27) rfl (by kernel_rfl) (ai hC (j:=26) rfl (by kernel_rfl) hS))));have hM43:=hM.1 hS0;obtain ⟨v43_78,e78,h78⟩:=hI.get (i:=24) (.tail _ (.tail _ (.tail _ (.tail _ (.tail _ (.tail _ (.tail _ (.tail _ (.tail _ (.tail _ (.tail _ (.tail _ (.tail _ (.tail _ (.tail _ (.tail _ (.tail _ (.tail _ (.tail _ (.tail _ (.tail _ (.tail _ (.tail _ (.tail _ (.head _))))))))))))))))))))))))) d24;obtain rfl:=h78;exact aH [(78,_)] hU hmo hme hI hM (.tail _ (.tail _ (.tail _ (.tail _ (.tail _ (.tail _ (.tail _ (.tail _ (.tail _ (.tail _ (.tail _ (.tail _ (.tail _ (.tail _ (.tail _ (.tail _ (.tail _ (.tail _ (.tail _ (.tail _ (.tail _ (.tail _ (.tail _ (.tail _ (.tail _ (.head _)))))))))))))))))))))))))) rfl rfl (by kernel_rfl) ⟨e78,trivial⟩ (aq bD rfl (by exact (show _=some (Value.string p.s.snap) from cC (hb.from_ ((((aj.rfl_.next E4).only O1 (hg4)).next D16).next hM43)) 9 rfl))) aj.rfl_ (rfl)
    constructor
    ·rintro S L' w44 hU hmo hme hI hM hC hS ⟨d25,-⟩;have hS0:S 29=false:=(ai hC (j:=29) rfl (by kernel_rfl) (ai hC (j:=28) rfl (by kernel_rfl) (ai hC (j:=27) rfl (by kernel_rfl) hS)));have hM44:=hM.1 hS0;obtain ⟨v44_79,e79,h79⟩:=hI.get (i:=25) (.tail _ (.tail _ (.tail _ (.tail _ (.tail _ (.tail _ (.tail _ (.tail _ (.tail _ (.tail _ (.tail _ (.tail _ (.tail _ (.tail _ (.tail _ (.tail _ (.tail _ (.tail _ (.tail _ (.tail _ (.tail _ (.tail _ (.tail _ (.tail _ (.tail _ (.head _)))))))))))))))))))))))))) d25;obtain rfl:=h79;exact aH [(79,_)] hU hmo hme hI hM (.tail _ (.tail _ (.tail _ (.tail _ (.tail _ (.tail _ (.tail _ (.tail _ (.tail _ (.tail _ (.tail _ (.tail _ (.tail _ (.tail _ (.tail _ (.tail _ (.tail _ (.tail _ (.tail _ (.tail _ (.tail _ (.tail _ (.tail _ (.tail _ (.tail _ (.tail _ (.head _))))))))))))))))))))))))))) rfl rfl (by kernel_rfl) ⟨e79,trivial⟩ (df (by kernel_rfl) rfl) aj.rfl_ (rfl)
    constructor
    ·rintro S L' w45 hU hmo hme hI hM hC hS ⟨d20,d26,-⟩;have hS0:S 29=false:=(ai hC (j:=29) rfl (by kernel_rfl) (ai hC (j:=28) rfl (by kernel_rfl) hS));have hM45:=hM.1 hS0;obtain ⟨v45_74,e74,h74⟩:=hI.get (i:=20) (.tail _ (.tail _ (.tail _ (.tail _ (.tail _ (.tail _ (.tail _ (.tail _ (.tail _ (.tail _ (.tail _ (.tail _ (.tail _ (.tail _ (.tail _ (.tail _ (.tail _ (.tail _ (.tail _ (.tail _ (.head _))))))))))))))))))))) d20;obtain rfl:=h74;obtain ⟨v45_80,e80,h80⟩:=hI.get (i:=26) (.tail _ (.tail _ (.tail _ (.tail _ (.tail _ (.tail _ (.tail _ (.tail _ (.tail _ (.tail _ (.tail _ (.tail _ (.tail _ (.tail _ (.tail _ (.tail _ (.tail _ (.tail _ (.tail _ (.tail _ (.tail _ (.tail _ (.tail _ (.tail _ (.tail _ (.tail _ (.head _))))))))))))))))))))))))))) d26;obtain rfl:=h80;exact aH [(74,_),(80,_)] hU hmo hme hI hM (.tail _ (.tail _ (.tail _ (.tail _ (.tail _ (.tail _ (.tail _ (.tail _ (.tail _ (.tail _ (.tail _ (.tail _ (.tail _ (.tail _ (.tail _ (.tail _ (.tail _ (.tail _ (.tail _ (.tail _ (.tail _ (.tail _ (.tail _ (.tail _ (.tail _ (.tail _ (.tail _ (.head _)))))))))))))))))))))))))))) rfl rfl (by kernel_rfl) ⟨e74,e80,trivial⟩ ((gk (bC rfl rfl) (congrArg Value.bool (show (((min (na+1024) p.s.snap.size:Nat):Int)==((p.s.snap.size:Nat):Int))=decide (min (na+1024) p.s.snap.size=p.s.snap.size) by rw [Bool.eq_iff_iff,beq_iff_eq,decide_eq_true_eq];omega)))) (aj.rfl_) (rfl)
    constructor
    ·rintro S L' w46 hU hmo hme hI hM hC hS ⟨d1,d3,d5,d10,d11,d19,d27,-⟩;have hS0:S 29=false:=(ai hC (j:=29) rfl (by kernel_rfl) hS);have hM46:=hM.1 hS0;obtain ⟨v46_55,e55,h55⟩:=hI.get (i:=1) (.tail _ (.head _)) d1;obtain rfl:=h55;obtain ⟨v46_57,e57,h57⟩:=hI.get (i:=3) (.tail _ (.tail _ (.tail _ (.head _)))) d3;obtain rfl:=h57;obtain ⟨v46_59,e59,h59⟩:=hI.get (i:=5) (.tail _ (.tail _ (.tail _ (.tail _ (.tail _ (.head _)))))) d5;obtain rfl:=h59;obtain ⟨v46_64,e64,h64⟩:=hI.get (i:=10) (.tail _ (.tail _ (.tail _ (.tail _ (.tail _ (.tail _ (.tail _ (.tail _ (.tail _ (.tail _ (.head _))))))))))) d10;obtain rfl:=h64;obtain ⟨v46_65,e65,h65⟩:=hI.get (i:=11) (.tail _ (.tail _ (.tail _ (.tail _ (.tail _ (.tail _ (.tail _ (.tail _ (.tail _ (.tail _ (.tail _ (.head _)))))))))))) d11;obtain rfl:=h65;obtain ⟨v46_73,e73,h73⟩:=hI.get (i:=19) (.tail _ (.tail _ (.tail _ (.tail _ (.tail _ (.tail _ (.tail _ (.tail _ (.tail _ (.tail _ (.tail _ (.tail _ (.tail _ (.tail _ (.tail _ (.tail _ (.tail _ (.tail _ (.tail _ (.head _)))))))))))))))))))) d19;obtain rfl:=h73;obtain ⟨v46_81,e81,h81⟩:=hI.get (i:=27) (.tail _ (.tail _ (.tail _ (.tail _ (.tail _ (.tail _ (.tail _ (.tail _ (.tail _ (.tail _ (.tail _ (.tail _ (.tail _ (.tail _ (.tail _ (.tail _ (.tail _ (.tail _ (.tail _ (.tail _ (.tail _ (.tail _ (.tail _ (.tail _ (.tail _ (.tail _ (.tail _ (.head _)))))))))))))))))))))))))))) d27;obtain rfl:=h81;exact aH [(55,_),(57,_),(59,_),(64,_),(65,_),(73,_),(81,_)] hU hmo hme hI hM (.tail _ (.tail _ (.tail _ (.tail _ (.tail _ (.tail _ (.tail _ (.tail _ (.tail _ (.tail _ (.tail _ (.tail _ (.tail _ (.tail _ (.tail _ (.tail _ (.tail _ (.tail _ (.tail _ (.tail _ (.tail _ (.tail _ (.tail _ (.tail _ (.tail _ (.tail _ (.tail _ (.tail _ (.head _))))))))))))))))))))))))))))) rfl rfl (by kernel_rfl) ⟨e55,e57,e59,e64,e65,e73,e81,trivial⟩ (cM (l:=[(0,.const (.int .i64 5)),(2,.tmp 55),(4,.tmp 57),(5,.tmp 59),(7,.tmp 64),(10,.tmp 65),(11,.tmp 73),(12,.tmp 81)]) (fg _ _ _ _ _ _ _)) aj.rfl_ (rfl)
    constructor
    ·rintro S L' w47 hU hmo hme hI hM hC hS ⟨d0,d28,-⟩;have hS0:S 29=false:=hS;have hM47:=hM.1 hS0;obtain ⟨v47_54,e54,h54⟩:=hI.get (i:=0) (.head _) d0;obtain rfl:=h54;obtain ⟨v47_82,e82,h82⟩:=hI.get (i:=28) (.tail _ (.tail _ (.tail _ (.tail _ (.tail _ (.tail _ (.tail _ (.tail _ (.tail _ (.tail _ (.tail _ (.tail _ (.tail _ (.tail _ (.tail _ (.tail _ (.tail _ (.tail _ (.tail _ (.tail _ (.tail _ (.tail _ (.tail _ (.tail _ (.tail _ (.tail _ (.tail _ (.tail _ (.head _))))))))))))))))))))))))))))) d28;obtain rfl:=h82;refine gG (al:=[.tmp 54,.tmp 82]) [(54,_),(82,_)] hU hI (.tail _ (.tail _ (.tail _ (.tail _ (.tail _ (.tail _ (.tail _ (.tail _ (.tail _ (.tail _ (.tail _ (.tail _ (.tail _ (.tail _ (.tail _ (.tail _ (.tail _ (.tail _ (.tail _ (.tail _ (.tail _ (.tail _ (.tail _ (.tail _ (.tail _ (.tail _ (.tail _ (.tail _ (.tail _ (.head _)))))))))))))))))))))))))))))) (by kernel_rfl) ⟨e54,e82,trivial⟩ nh ((pn w0 Z T g p _ (h.from_ ((((aj.rfl_.next E4).only O1 (hg4)).next D16).next hM47)) tag _ O oc L (hs.from_ ((((aj.rfl_.next E4).only O1 (hg4)).next D16).next hM47)) (by omega) ({ zM with k:=5,t:=(k:Int)+1,ix:=p.s.b,lt:=p.s.t,rd:=p.s.round,a:=(na:Int),d:=p.s.snap.extract na (min (na+1024) p.s.snap.size),dn:=decide (min (na+1024) p.s.snap.size=p.s.snap.size) }:Msg) ⟨ea,Col.none⟩).mono ?_);rintro v9 w2 ⟨rfl,hS2⟩;exact ⟨⟨fun h0=>(by rw [kj] at h0;cases h0),fun _=>hS2⟩,rfl,⟨fun _ _ _ h=>h,fun _ _ _ h=>h,fun _ _ _ h=>h,fun _ _ _ h=>h,fun _ _ _ h=>h,fun _ _ _ h=>h,fun _ _ _ h=>h,fun _ _ _ h=>h,fun _ _ _ h=>h,fun _ _ _ h=>h,fun _ _ _ h=>h,fun _ _ _ h=>h,fun _ _ _ h=>h,fun _ _ _ h=>h,fun _ _ _ h=>h,fun _ _ _ h=>h,fun _ _ _ h=>h,fun _ _ _ h=>h,fun _ _ _ h=>h,fun _ _ _ h=>h,fun _ _ _ h=>h,fun _ _ _ h=>h,fun _ _ _ h=>h,fun _ _ _ h=>h,fun _ _ _ h=>h,fun _ _ _ h=>h,fun _ _ _ h=>h,fun _ _ _ h=>h,fun _ _ _ h=>h,fun _ _ _ h=>h,trivial⟩⟩
    exact trivial
   case hend=>
    intro w48 hM;obtain hS9:=hM.2 rfl;rintro v48_54 rfl v48_55 rfl v48_56 rfl v48_57 rfl v48_58 rfl v48_59 rfl v48_60 rfl v48_61 rfl v48_62 rfl v48_63 rfl v48_64 rfl v48_65 rfl v48_66 rfl v48_67 rfl v48_68 rfl v48_69 rfl v48_70 rfl v48_71 rfl v48_72 rfl v48_73 rfl v48_74 rfl v48_75 rfl v48_76 rfl v48_77 rfl v48_78 rfl v48_79 rfl v48_80 rfl v48_81 rfl v48_82 rfl v48_83 rfl;refine fZ (ag (aC (ay (fj rfl ?_))))
    have e9:p.send ((k:Int)+1)=p.tell (pl ({ zM with k:=5,t:=(k:Int)+1,ix:=p.s.b,lt:=p.s.t,rd:=p.s.round,a:=(na:Int),d:=p.s.snap.extract na (min (na+1024) p.s.snap.size),dn:=decide (min (na+1024) p.s.snap.size=p.s.snap.size) }:Msg)):=by
     unfold Sp.send;rw [mo (by rw [hpn];omega) (by rw [hpx,hna])];rfl
    rw [if_neg (by omega),e9];exact ⟨rfl,hS9.from_ aj.rfl_⟩
  refine aR (ag (an ?_));apply dR 16 [(85,eqp _),(86,eqp _),(87,eqp _),(88,eqp _),(89,eqp _),(90,eqp _),(91,eqp _),(92,eqp _),(93,eqp (.int .i64 p.s.next[k])),(94,eqp _),(95,eqp _),(84,eqp _),(96,eqp _),(97,eqp _),(8,eqp _),(9,eqp _)] (by repeat first | exact ej | refine ei ?_ | refine dO ?_) (by kernel_rfl) (by kernel_rfl) ⟨au _,au _,au _,au _,au _,au _,au _,au _,au _,au _,au _,au _,au _,au _,au _,au _,trivial⟩
  case hop=>
   constructor
   ·rintro-w50 D50;exact az (aT (cs:=[.int .i64 p.s.b,.int .i64 p.s.t,.slice E p.s.es.length Ec]) cZ cI rfl ((hP1.from_ ((aj.rfl_.next D16).next D50)).whole)) rfl
   constructor
   ·rintro-w51 D51;exact az (aP (v:=.pointer _) rfl) rfl
   constructor
   ·rintro-w52 D52;rintro _ rfl;exact az (aw rfl) rfl
   constructor
   ·rintro-w53 D53;rintro _ rfl;exact az (ae bB rfl) rfl
   constructor
   ·rintro-w54 D54;rintro _ rfl;exact az (ae bu rfl) rfl
   constructor
   ·rintro-w55 D55;rintro _ rfl;exact az (aq aM rfl (by exact (show _=some (Value.slice (some ⟨gX,0,none⟩) p.s.next.length Xc) from cC (hb.from_ ((((aj.rfl_.next E4).only O1 (hg4)).next D16).next D55)) 15 rfl))) rfl
   constructor
   ·rintro-w56 D56;exact az (aP (v:=.int _ _) rfl) rfl
   constructor
   ·rintro-w57 D57;rintro _ rfl _ rfl;exact az (cH bK rfl rfl (by omega)) rfl
   constructor
   ·rintro-w58 D58;rintro _ rfl;exact az (aq ar rfl (by exact dF ((((aj.rfl_.next E4).only O1 (hg4)).next D16).next D58) hXc)) rfl
   constructor
   ·rintro-w59 D59;rintro v59_93 rfl;exact az (dM rfl rfl (by omega)) rfl
   constructor
   ·rintro-w60 D60;rintro _ rfl _ rfl;refine ia ng ((tv p.s (p.s.next[k]-1) E Ec _ (he.from_ ((((aj.rfl_.next E4).only O1 (hg4)).next D16).next D60)) hF.lg (by omega)).mono ?_);rintro v _ ⟨rfl,E60'⟩;exact ⟨E60',rfl⟩
   constructor
   ·rintro-w61 D61;rintro _ rfl;exact az (aP (v:=.tuple _) rfl) rfl
   constructor
   ·rintro-w62 D62;rintro _ rfl;exact az (aS rfl rfl) rfl
   constructor
   ·rintro-w63 D63;rintro _ rfl;exact az (aS rfl rfl) rfl
   constructor
   ·rintro-w64 D64;rintro _ rfl;exact az (de (v:=.int _ _) rfl) rfl
   constructor
   ·rintro-w65 D65;rintro _ rfl;exact az (de (v:=.bool _) rfl) rfl
   exact trivial
  case hend=>
   intro w66 D66;rintro _ rfl _ rfl _ rfl _ rfl _ rfl _ rfl _ rfl _ rfl v93 rfl _ rfl _ rfl _ rfl _ rfl _ rfl _ rfl _ rfl;show St ..;refine ak (ag ?_);apply kx [(0,98,fun _ v _=>v=_),(1,99,fun _ v _=>v=_),(2,100,fun _ v _=>v=_),(3,101,fun _ v _=>v=_),(4,102,fun _ v _=>v=_),(5,103,fun _ v _=>v=_),(6,104,fun _ v _=>v=_),(7,105,fun _ v _=>v=_),(8,106,fun _ v _=>v=_),(9,107,fun _ v _=>v=_),(10,108,fun _ v _=>v=_),(11,109,fun _ v _=>v=_),(12,110,fun _ v _=>v=_),(13,111,fun _ v _=>v=_),(14,112,fun _ v _=>v=_),(15,113,fun _ v _=>v=_),(16,114,fun _ v _=>v=_),(17,115,fun _ v _=>v=_),(18,116,fun _ v _=>v=_),(19,117,fun _ v _=>v=_),(20,118,fun _ v _=>v=_),(21,119,fun _ v _=>v=_),(22,120,fun _ v _=>v=_),(23,121,fun _ v _=>v=_),(24,122,fun _ v _=>v=_),(25,123,fun _ v _=>v=_),(26,124,fun _ v _=>v=_),(27,125,fun _ v _=>v=_),(28,126,fun _ v _=>v=_),(29,127,fun _ v _=>v=_),(30,128,fun _ v _=>v=_),(31,129,fun S v w9=>S 33=false→(fun (v:Value) (w':World)=>∃ (A':Option Addr) (c':Nat),v=Value.slice A' ((p.s.es.drop (p.s.next[k]-p.s.b-1).toNat).take 16).length c'∧w'.ownsRow w.heap.size 99 3 (.slice A' ((p.s.es.drop (p.s.next[k]-p.s.b-1).toNat).take 16).length c') ((p.s.es.drop (p.s.next[k]-p.s.b-1).toNat).take 16).length (dE ((p.s.es.drop (p.s.next[k]-p.s.b-1).toNat).take 16))) v w9),(32,130,fun S v w9=>S 33=false→(fun (v:Value) (w':World)=>∃ (A':Option Addr) (c':Nat),v=Value.agg (dT ({ zM with k:=3,t:=(k:Int)+1,ix:=p.s.next[k]-1,lt:=ek p.s.b p.s.t p.s.es (p.s.next[k]-1),cm:=p.s.commit,rd:=p.s.round,E:=A',c:=c',es:=(p.s.es.drop (p.s.next[k]-p.s.b-1).toNat).take 16 }:Msg)).toArray∧w'.ownsRow w.heap.size 99 3 (.slice A' ((p.s.es.drop (p.s.next[k]-p.s.b-1).toNat).take 16).length c') ((p.s.es.drop (p.s.next[k]-p.s.b-1).toNat).take 16).length (dE ((p.s.es.drop (p.s.next[k]-p.s.b-1).toNat).take 16))) v w9),(33,131,fun _ v _=>v=_)] [33] (fun S w'=>(S 33=false→aj w66 w')∧(S 33=true→∃ A' c',bt w0 Z w' T g (p.tell (pl ({ zM with k:=3,t:=(k:Int)+1,ix:=p.s.next[k]-1,lt:=ek p.s.b p.s.t p.s.es (p.s.next[k]-1),cm:=p.s.commit,rd:=p.s.round,E:=A',c:=c',es:=(p.s.es.drop (p.s.next[k]-p.s.b-1).toNat).take 16 }:Msg))))) (by kernel_rfl) (by kernel_rfl) rfl rfl ⟨fun _ _ _ _ _ _ _ h=>h,fun _ _ _ _ _ _ _ h=>h,fun _ _ _ _ _ _ _ h=>h,fun _ _ _ _ _ _ _ h=>h,fun _ _ _ _ _ _ _ h=>h,fun _ _ _ _ _ _ _ h=>h,fun _ _ _ _ _ _ _ h=>h,fun _ _ _ _ _ _ _ h=>h,fun _ _ _ _ _ _ _ h=>h,fun _ _ _ _ _ _ _ h=>h,fun _ _ _ _ _ _ _ h=>h,fun _ _ _ _ _ _ _ h=>h,fun _ _ _ _ _ _ _ h=>h,fun _ _ _ _ _ _ _ h=>h,fun _ _ _ _ _ _ _ h=>h,fun _ _ _ _ _ _ _ h=>h,fun _ _ _ _ _ _ _ h=>h,fun _ _ _ _ _ _ _ h=>h,fun _ _ _ _ _ _ _ h=>h,fun _ _ _ _ _ _ _ h=>h,fun _ _ _ _ _ _ _ h=>h,fun _ _ _ _ _ _ _ h=>h,fun _ _ _ _ _ _ _ h=>h,fun _ _ _ _ _ _ _ h=>h,fun _ _ _ _ _ _ _ h=>h,fun _ _ _ _ _ _ _ h=>h,fun _ _ _ _ _ _ _ h=>h,fun _ _ _ _ _ _ _ h=>h,fun _ _ _ _ _ _ _ h=>h,fun _ _ _ _ _ _ _ h=>h,fun _ _ _ _ _ _ _ h=>h,fun S i v w1 w2 hq hF h h0=>((fun _ _ _ hF ⟨a,b,h1,h2⟩=>⟨a,b,h1,h2.kept_from hF⟩)) v w1 w2 hF (h (lP h0)),fun S i v w1 w2 hq hF h h0=>((fun _ _ _ hF ⟨a,b,h1,h2⟩=>⟨a,b,h1,h2.kept_from hF⟩)) v w1 w2 hF (h (lP h0)),fun _ _ _ _ _ _ _ h=>h,trivial⟩ (fun S i w1 w2 hq hF h=>⟨fun h0=>(h.1 (lP h0)).next hF,fun h1=>(fun h=>h.imp fun _ h=>h.imp fun _ h=>h.from_ hF) (h.2 (mn (show 33≠i by rintro rfl;exact absurd hq (by decide)) h1))⟩) ⟨fun _=>aj.rfl_.d1,fun h=>by cases h⟩
   case hstep=>
    constructor
    ·rintro S L' w67 hU hmo hme hI hM hC hS ⟨-⟩;have hS0:S 33=false:=(ai hC (j:=33) rfl (by kernel_rfl) hS);have hM67:=hM.1 hS0;have e0:=hI.1 0 (dK rfl);exact aH [(0,_)] hU hmo hme hI hM (.head _) rfl rfl (by kernel_rfl) ⟨e0,trivial⟩ (aP (v:=.pointer _) rfl) aj.rfl_ (rfl)
    constructor
    ·rintro S L' w68 hU hmo hme hI hM hC hS ⟨-⟩;have hS0:S 33=false:=(ai hC (j:=33) rfl (by kernel_rfl) (ai hC (j:=32) rfl (by kernel_rfl) hS));have hM68:=hM.1 hS0;have e1:=hI.1 1 (dK rfl);exact aH [(1,_)] hU hmo hme hI hM (.tail _ (.head _)) rfl rfl (by kernel_rfl) ⟨e1,trivial⟩ (aP (v:=.int _ _) rfl) aj.rfl_ (rfl)
    constructor
    ·rintro S L' w69 hU hmo hme hI hM hC hS ⟨-⟩;have hS0:S 33=false:=(ai hC (j:=33) rfl (by kernel_rfl) (ai hC (j:=32) rfl (by kernel_rfl) (ai hC (j:=10) rfl (by kernel_rfl) (ai hC (j:=9) rfl (by kernel_rfl) (ai hC (j:=8) rfl (by kernel_rfl) (ai hC (j:=6) rfl (by kernel_rfl) (ai hC (j:=5) rfl (by kernel_rfl) (ai hC (j:=4) rfl (by kernel_rfl) (ai hC (j:=3) rfl (by kernel_rfl) hS)))))))));have hM69:=hM.1 hS0;have e0:=hI.1 0 (dK rfl);exact aH [(0,_)] hU hmo hme hI hM (.tail _ (.tail _ (.head _))) rfl rfl (by kernel_rfl) ⟨e0,trivial⟩ (aP (v:=.pointer _) rfl) aj.rfl_ (rfl)
    constructor
    ·rintro S L' w70 hU hmo hme hI hM hC hS ⟨d2,-⟩;have hS0:S 33=false:=(ai hC (j:=33) rfl (by kernel_rfl) (ai hC (j:=32) rfl (by kernel_rfl) (ai hC (j:=10) rfl (by kernel_rfl) (ai hC (j:=9) rfl (by kernel_rfl) (ai hC (j:=8) rfl (by kernel_rfl) (ai hC (j:=6) rfl (by kernel_rfl) (ai hC (j:=5) rfl (by kernel_rfl) (ai hC (j:=4) rfl (by kernel_rfl) hS))))))));have hM70:=hM.1 hS0;obtain ⟨v70_100,e100,h100⟩:=hI.get (i:=2) (.tail _ (.tail _ (.head _))) d2;obtain rfl:=h100;exact aH [(100,_)] hU hmo hme hI hM (.tail _ (.tail _ (.tail _ (.head _)))) rfl rfl (by kernel_rfl) ⟨e100,trivial⟩ (aw rfl) aj.rfl_ (rfl)
    constructor
    ·rintro S L' w71 hU hmo hme hI hM hC hS ⟨d3,-⟩;have hS0:S 33=false:=(ai hC (j:=33) rfl (by kernel_rfl) (ai hC (j:=32) rfl (by kernel_rfl) (ai hC (j:=10) rfl (by kernel_rfl) (ai hC (j:=9) rfl (by kernel_rfl) (ai hC (j:=8) rfl (by kernel_rfl) (ai hC (j:=6) rfl (by kernel_rfl) (ai hC (j:=5) rfl (by kernel_rfl) hS)))))));have hM71:=hM.1 hS0;obtain ⟨v71_101,e101,h101⟩:=hI.get (i:=3) (.tail _ (.tail _ (.tail _ (.head _)))) d3;obtain rfl:=h101;exact aH [(101,_)] hU hmo hme hI hM (.tail _ (.tail _ (.tail _ (.tail _ (.head _))))) rfl rfl (by kernel_rfl) ⟨e101,trivial⟩ (ae bB rfl) aj.rfl_ (rfl)
    constructor
    ·rintro S L' w72 hU hmo hme hI hM hC hS ⟨d4,-⟩;have hS0:S 33=false:=(ai hC (j:=33) rfl (by kernel_rfl) (ai hC (j:=32) rfl (by kernel_rfl) (ai hC (j:=10) rfl (by kernel_rfl) (ai hC (j:=9) rfl (by kernel_rfl) (ai hC (j:=8) rfl (by kernel_rfl) (ai hC (j:=6) rfl (by kernel_rfl) hS))))));have hM72:=hM.1 hS0;obtain ⟨v72_102,e102,h102⟩:=hI.get (i:=4) (.tail _ (.tail _ (.tail _ (.tail _ (.head _))))) d4;obtain rfl:=h102;exact aH [(102,_)] hU hmo hme hI hM (.tail _ (.tail _ (.tail _ (.tail _ (.tail _ (.head _)))))) rfl rfl (by kernel_rfl) ⟨e102,trivial⟩ (ae bu rfl) aj.rfl_ (rfl)
    constructor
    ·rintro S L' w73 hU hmo hme hI hM hC hS ⟨d5,-⟩;have hS0:S 33=false:=(ai hC (j:=33) rfl (by kernel_rfl) (ai hC (j:=32) rfl (by kernel_rfl) (ai hC (j:=10) rfl (by kernel_rfl) (ai hC (j:=9) rfl (by kernel_rfl) (ai hC (j:=8) rfl (by kernel_rfl) hS)))));have hM73:=hM.1 hS0;obtain ⟨v73_103,e103,h103⟩:=hI.get (i:=5) (.tail _ (.tail _ (.tail _ (.tail _ (.tail _ (.head _)))))) d5;obtain rfl:=h103;exact aH [(103,_)] hU hmo hme hI hM (.tail _ (.tail _ (.tail _ (.tail _ (.tail _ (.tail _ (.head _))))))) rfl rfl (by kernel_rfl) ⟨e103,trivial⟩ (aq aM rfl (by exact (show _=some (Value.slice (some ⟨gX,0,none⟩) p.s.next.length Xc) from cC (hb.from_ (((((aj.rfl_.next E4).only O1 (hg4)).next D16).next D66).next hM73)) 15 rfl))) aj.rfl_ (rfl)
    constructor
    ·rintro S L' w74 hU hmo hme hI hM hC hS ⟨-⟩;have hS0:S 33=false:=(ai hC (j:=33) rfl (by kernel_rfl) (ai hC (j:=32) rfl (by kernel_rfl) (ai hC (j:=10) rfl (by kernel_rfl) (ai hC (j:=9) rfl (by kernel_rfl) (ai hC (j:=8) rfl (by kernel_rfl) hS)))));have hM74:=hM.1 hS0;have e5:=hI.1 5 (dK rfl);exact aH [(5,_)] hU hmo hme hI hM (.tail _ (.tail _ (.tail _ (.tail _ (.tail _ (.tail _ (.tail _ (.head _)))))))) rfl rfl (by kernel_rfl) ⟨e5,trivial⟩ (aP (v:=.int _ _) rfl) aj.rfl_ (rfl)
    constructor
    ·rintro S L' w75 hU hmo hme hI hM hC hS ⟨d6,d7,-⟩;have hS0:S 33=false:=(ai hC (j:=33) rfl (by kernel_rfl) (ai hC (j:=32) rfl (by kernel_rfl) (ai hC (j:=10) rfl (by kernel_rfl) (ai hC (j:=9) rfl (by kernel_rfl) hS))));have hM75:=hM.1 hS0;obtain ⟨v75_104,e104,h104⟩:=hI.get (i:=6) (.tail _ (.tail _ (.tail _ (.tail _ (.tail _ (.tail _ (.head _))))))) d6;obtain rfl:=h104;obtain ⟨v75_105,e105,h105⟩:=hI.get (i:=7) (.tail _ (.tail _ (.tail _ (.tail _ (.tail _ (.tail _ (.tail _ (.head _)))))))) d7;obtain rfl:=h105;exact aH [(104,_),(105,_)] hU hmo hme hI hM (.tail _ (.tail _ (.tail _ (.tail _ (.tail _ (.tail _ (.tail _ (.tail _ (.head _))))))))) rfl rfl (by kernel_rfl) ⟨e104,e105,trivial⟩ (cH bK rfl rfl (by omega)) aj.rfl_ (rfl)
    constructor
    ·rintro S L' w76 hU hmo hme hI hM hC hS ⟨d8,-⟩;have hS0:S 33=false:=(ai hC (j:=33) rfl (by kernel_rfl) (ai hC (j:=32) rfl (by kernel_rfl) (ai hC (j:=10) rfl (by kernel_rfl) hS)));have hM76:=hM.1 hS0;obtain ⟨v76_106,e106,h106⟩:=hI.get (i:=8) (.tail _ (.tail _ (.tail _ (.tail _ (.tail _ (.tail _ (.tail _ (.tail _ (.head _))))))))) d8;obtain rfl:=h106;exact aH [(106,_)] hU hmo hme hI hM (.tail _ (.tail _ (.tail _ (.tail _ (.tail _ (.tail _ (.tail _ (.tail _ (.tail _ (.head _)))))))))) rfl rfl (by kernel_rfl) ⟨e106,trivial⟩ (aq ar rfl (by exact dF (((((aj.rfl_.next E4).only O1 (hg4)).next D16).next D66).next hM76) hXc)) aj.rfl_ (rfl)
    constructor
    ·rintro S L' w77 hU hmo hme hI hM hC hS ⟨d9,-⟩;have hS0:S 33=false:=(ai hC (j:=33) rfl (by kernel_rfl) (ai hC (j:=32) rfl (by kernel_rfl) hS));have hM77:=hM.1 hS0;obtain ⟨v77_107,e107,h107⟩:=hI.get (i:=9) (.tail _ (.tail _ (.tail _ (.tail _ (.tail _ (.tail _ (.tail _ (.tail _ (.tail _ (.head _)))))))))) d9;obtain rfl:=h107;exact aH [(107,_)] hU hmo hme hI hM (.tail _ (.tail _ (.tail _ (.tail _ (.tail _ (.tail _ (.tail _ (.tail _ (.tail _ (.tail _ (.head _))))))))))) rfl rfl (by kernel_rfl) ⟨e107,trivial⟩ (dM rfl rfl (by omega)) aj.rfl_ (rfl)
    constructor
    ·rintro S L' w78 hU hmo hme hI hM hC hS ⟨-⟩;have hS0:S 33=false:=(ai hC (j:=33) rfl (by kernel_rfl) (ai hC (j:=32) rfl (by kernel_rfl) hS));have hM78:=hM.1 hS0;have e8:=hI.1 8 (dK rfl);exact aH [(8,_)] hU hmo hme hI hM (.tail _ (.tail _ (.tail _ (.tail _ (.tail _ (.tail _ (.tail _ (.tail _ (.tail _ (.tail _ (.tail _ (.head _)))))))))))) rfl rfl (by kernel_rfl) ⟨e8,trivial⟩ (aP (v:=.int _ _) rfl) aj.rfl_ (rfl)
    constructor
    ·rintro S L' w79 hU hmo hme hI hM hC hS ⟨-⟩;have hS0:S 33=false:=(ai hC (j:=33) rfl (by kernel_rfl) (ai hC (j:=32) rfl (by kernel_rfl) (ai hC (j:=16) rfl (by kernel_rfl) (ai hC (j:=15) rfl (by kernel_rfl) (ai hC (j:=14) rfl (by kernel_rfl) (ai hC (j:=13) rfl (by kernel_rfl) hS))))));have hM79:=hM.1 hS0;have e0:=hI.1 0 (dK rfl);exact aH [(0,_)] hU hmo hme hI hM (.tail _ (.tail _ (.tail _ (.tail _ (.tail _ (.tail _ (.tail _ (.tail _ (.tail _ (.tail _ (.tail _ (.tail _ (.head _))))))))))))) rfl rfl (by kernel_rfl) ⟨e0,trivial⟩ (aP (v:=.pointer _) rfl) aj.rfl_ (rfl)
    constructor
    ·rintro S L' w80 hU hmo hme hI hM hC hS ⟨d12,-⟩;have hS0:S 33=false:=(ai hC (j:=33) rfl (by kernel_rfl) (ai hC (j:=32) rfl (by kernel_rfl) (ai hC (j:=16) rfl (by kernel_rfl) (ai hC (j:=15) rfl (by kernel_rfl) (ai hC (j:=14) rfl (by kernel_rfl) hS)))));have hM80:=hM.1 hS0;obtain ⟨v80_110,e110,h110⟩:=hI.get (i:=12) (.tail _ (.tail _ (.tail _ (.tail _ (.tail _ (.tail _ (.tail _ (.tail _ (.tail _ (.tail _ (.tail _ (.tail _ (.head _))))))))))))) d12;obtain rfl:=h110;exact aH [(110,_)] hU hmo hme hI hM (.tail _ (.tail _ (.tail _ (.tail _ (.tail _ (.tail _ (.tail _ (.tail _ (.tail _ (.tail _ (.tail _ (.tail _ (.tail _ (.head _)))))))))))))) rfl rfl (by kernel_rfl) ⟨e110,trivial⟩ (aw rfl) aj.rfl_ (rfl)
    constructor
    ·rintro S L' w81 hU hmo hme hI hM hC hS ⟨d13,-⟩;have hS0:S 33=false:=(ai hC (j:=33) rfl (by kernel_rfl) (ai hC (j:=32) rfl (by kernel_rfl) (ai hC (j:=16) rfl (by kernel_rfl) (ai hC (j:=15) rfl (by kernel_rfl) hS))));have hM81:=hM.1 hS0;obtain ⟨v81_111,e111,h111⟩:=hI.get (i:=13) (.tail _ (.tail _ (.tail _ (.tail _ (.tail _ (.tail _ (.tail _ (.tail _ (.tail _ (.tail _ (.tail _ (.tail _ (.tail _ (.head _)))))))))))))) d13;obtain rfl:=h111;exact aH [(111,_)] hU hmo hme hI hM (.tail _ (.tail _ (.tail _ (.tail _ (.tail _ (.tail _ (.tail _ (.tail _ (.tail _ (.tail _ (.tail _ (.tail _ (.tail _ (.tail _ (.head _))))))))))))))) rfl rfl (by kernel_rfl) ⟨e111,trivial⟩ (ae bB rfl) aj.rfl_ (rfl)
    constructor
    ·rintro S L' w82 hU hmo hme hI hM hC hS ⟨d14,-⟩;have hS0:S 33=false:=(ai hC (j:=33) rfl (by kernel_rfl) (ai hC (j:=32) rfl (by kernel_rfl) (ai hC (j:=16) rfl (by kernel_rfl) hS)));have hM82:=hM.1 hS0;obtain ⟨v82_112,e112,h112⟩:=hI.get (i:=14) (.tail _ (.tail _ (.tail _ (.tail _ (.tail _ (.tail _ (.tail _ (.tail _ (.tail _ (.tail _ (.tail _ (.tail _ (.tail _ (.tail _ (.head _))))))))))))))) d14;obtain rfl:=h112;exact aH [(112,_)] hU hmo hme hI hM (.tail _ (.tail _ (.tail _ (.tail _ (.tail _ (.tail _ (.tail _ (.tail _ (.tail _ (.tail _ (.tail _ (.tail _ (.tail _ (.tail _ (.tail _ (.head _)))))))))))))))) rfl rfl (by kernel_rfl) ⟨e112,trivial⟩ (ae cA rfl) aj.rfl_ (rfl)
    constructor
    ·rintro S L' w83 hU hmo hme hI hM hC hS ⟨d15,-⟩;have hS0:S 33=false:=(ai hC (j:=33) rfl (by kernel_rfl) (ai hC (j:=32) rfl (by kernel_rfl) hS));have hM83:=hM.1 hS0;obtain ⟨v83_113,e113,h113⟩:=hI.get (i:=15) (.tail _ (.tail _ (.tail _ (.tail _ (.tail _ (.tail _ (.tail _ (.tail _ (.tail _ (.tail _ (.tail _ (.tail _ (.tail _ (.tail _ (.tail _ (.head _)))))))))))))))) d15;obtain rfl:=h113;exact aH [(113,_)] hU hmo hme hI hM (.tail _ (.tail _ (.tail _ (.tail _ (.tail _ (.tail _ (.tail _ (.tail _ (.tail _ (.tail _ (.tail _ (.tail _ (.tail _ (.tail _ (.tail _ (.tail _ (.head _))))))))))))))))) rfl rfl (by kernel_rfl) ⟨e113,trivial⟩ (aq ar rfl (by exact (show _=some (Value.int .i64 p.s.commit) from cC (hb.from_ (((((aj.rfl_.next E4).only O1 (hg4)).next D16).next D66).next hM83)) 10 rfl))) aj.rfl_ (rfl)
    constructor
    ·rintro S L' w84 hU hmo hme hI hM hC hS ⟨-⟩;have hS0:S 33=false:=(ai hC (j:=33) rfl (by kernel_rfl) (ai hC (j:=32) rfl (by kernel_rfl) (ai hC (j:=21) rfl (by kernel_rfl) (ai hC (j:=20) rfl (by kernel_rfl) (ai hC (j:=19) rfl (by kernel_rfl) (ai hC (j:=18) rfl (by kernel_rfl) hS))))));have hM84:=hM.1 hS0;have e0:=hI.1 0 (dK rfl);exact aH [(0,_)] hU hmo hme hI hM (.tail _ (.tail _ (.tail _ (.tail _ (.tail _ (.tail _ (.tail _ (.tail _ (.tail _ (.tail _ (.tail _ (.tail _ (.tail _ (.tail _ (.tail _ (.tail _ (.tail _ (.head _)))))))))))))))))) rfl rfl (by kernel_rfl) ⟨e0,trivial⟩ (aP (v:=.pointer _) rfl) aj.rfl_ (rfl)
    constructor
    ·rintro S L' w85 hU hmo hme hI hM hC hS ⟨d17,-⟩;have hS0:S 33=false:=(ai hC (j:=33) rfl (by kernel_rfl) (ai hC (j:=32) rfl (by kernel_rfl) (ai hC (j:=21) rfl (by kernel_rfl) (ai hC (j:=20) rfl (by kernel_rfl) (ai hC (j:=19) rfl (by kernel_rfl) hS)))));have hM85:=hM.1 hS0;obtain ⟨v85_115,e115,h115⟩:=hI.get (i:=17) (.tail _ (.tail _ (.tail _ (.tail _ (.tail _ (.tail _ (.tail _ (.tail _ (.tail _ (.tail _ (.tail _ (.tail _ (.tail _ (.tail _ (.tail _ (.tail _ (.tail _ (.head _)))))))))))))))))) d17;obtain rfl:=h115;exact aH [(115,_)] hU hmo hme hI hM (.tail _ (.tail _ (.tail _ (.tail _ (.tail _ (.tail _ (.tail _ (.tail _ (.tail _ (.tail _ (.tail _ (.tail _ (.tail _ (.tail _ (.tail _ (.tail _ (.tail _ (.tail _ (.head _))))))))))))))))))) rfl rfl (by kernel_rfl) ⟨e115,trivial⟩ (aw rfl) aj.rfl_ (rfl)
    constructor
    ·rintro S L' w86 hU hmo hme hI hM hC hS ⟨d18,-⟩;have hS0:S 33=false:=(ai hC (j:=33) rfl (by kernel_rfl) (ai hC (j:=32) rfl (by kernel_rfl) (ai hC (j:=21) rfl (by kernel_rfl) (ai hC (j:=20) rfl (by kernel_rfl) hS))));have hM86:=hM.1 hS0;obtain ⟨v86_116,e116,h116⟩:=hI.get (i:=18) (.tail _ (.tail _ (.tail _ (.tail _ (.tail _ (.tail _ (.tail _ (.tail _ (.tail _ (.tail _ (.tail _ (.tail _ (.tail _ (.tail _ (.tail _ (.tail _ (.tail _ (.tail _ (.head _))))))))))))))))))) d18;obtain rfl:=h116;exact aH [(116,_)] hU hmo hme hI hM (.tail _ (.tail _ (.tail _ (.tail _ (.tail _ (.tail _ (.tail _ (.tail _ (.tail _ (.tail _ (.tail _ (.tail _ (.tail _ (.tail _ (.tail _ (.tail _ (.tail _ (.tail _ (.tail _ (.head _)))))))))))))))))))) rfl rfl (by kernel_rfl) ⟨e116,trivial⟩ (ae bB rfl) aj.rfl_ (rfl)
    constructor
    ·rintro S L' w87 hU hmo hme hI hM hC hS ⟨d19,-⟩;have hS0:S 33=false:=(ai hC (j:=33) rfl (by kernel_rfl) (ai hC (j:=32) rfl (by kernel_rfl) (ai hC (j:=21) rfl (by kernel_rfl) hS)));have hM87:=hM.1 hS0;obtain ⟨v87_117,e117,h117⟩:=hI.get (i:=19) (.tail _ (.tail _ (.tail _ (.tail _ (.tail _ (.tail _ (.tail _ (.tail _ (.tail _ (.tail _ (.tail _ (.tail _ (.tail _ (.tail _ (.tail _ (.tail _ (.tail _ (.tail _ (.tail _ (.head _)))))))))))))))))))) d19;obtain rfl:=h117;exact aH [(117,_)] hU hmo hme hI hM (.tail _ (.tail _ (.tail _ (.tail _ (.tail _ (.tail _ (.tail _ (.tail _ (.tail _ (.tail _ (.tail _ (.tail _ (.tail _ (.tail _ (.tail _ (.tail _ (.tail _ (.tail _ (.tail _ (.tail _ (.head _))))))))))))))))))))) rfl rfl (by kernel_rfl) ⟨e117,trivial⟩ (ae cL rfl) aj.rfl_ (rfl)
    constructor
    ·rintro S L' w88 hU hmo hme hI hM hC hS ⟨d20,-⟩;have hS0:S 33=false:=(ai hC (j:=33) rfl (by kernel_rfl) (ai hC (j:=32) rfl (by kernel_rfl) hS));have hM88:=hM.1 hS0;obtain ⟨v88_118,e118,h118⟩:=hI.get (i:=20) (.tail _ (.tail _ (.tail _ (.tail _ (.tail _ (.tail _ (.tail _ (.tail _ (.tail _ (.tail _ (.tail _ (.tail _ (.tail _ (.tail _ (.tail _ (.tail _ (.tail _ (.tail _ (.tail _ (.tail _ (.head _))))))))))))))))))))) d20;obtain rfl:=h118;exact aH [(118,_)] hU hmo hme hI hM (.tail _ (.tail _ (.tail _ (.tail _ (.tail _ (.tail _ (.tail _ (.tail _ (.tail _ (.tail _ (.tail _ (.tail _ (.tail _ (.tail _ (.tail _ (.tail _ (.tail _ (.tail _ (.tail _ (.tail _ (.tail _ (.head _)))))))))))))))))))))) rfl rfl (by kernel_rfl) ⟨e118,trivial⟩ (aq ar rfl (by exact (show _=some (Value.int .i64 p.s.round) from cC (hb.from_ (((((aj.rfl_.next E4).only O1 (hg4)).next D16).next D66).next hM88)) 18 rfl))) aj.rfl_ (rfl)
    constructor
    ·rintro S L' w89 hU hmo hme hI hM hC hS ⟨-⟩;have hS0:S 33=false:=(ai hC (j:=33) rfl (by kernel_rfl) (ai hC (j:=32) rfl (by kernel_rfl) (ai hC (j:=31) rfl (by kernel_rfl) hS)));have hM89:=hM.1 hS0;have e4:=hI.1 4 (dK rfl);exact aH [(4,_)] hU hmo hme hI hM (.tail _ (.tail _ (.tail _ (.tail _ (.tail _ (.tail _ (.tail _ (.tail _ (.tail _ (.tail _ (.tail _ (.tail _ (.tail _ (.tail _ (.tail _ (.tail _ (.tail _ (.tail _ (.tail _ (.tail _ (.tail _ (.tail _ (.head _))))))))))))))))))))))) rfl rfl (by kernel_rfl) ⟨e4,trivial⟩ (aT (cs:=[.int .i64 p.s.b,.int .i64 p.s.t,.slice E p.s.es.length Ec]) cZ cI rfl ((hP1.from_ (((aj.rfl_.next D16).next D66).next hM89)).whole)) aj.rfl_ (rfl)
    constructor
    ·rintro S L' w90 hU hmo hme hI hM hC hS ⟨-⟩;have hS0:S 33=false:=(ai hC (j:=33) rfl (by kernel_rfl) (ai hC (j:=32) rfl (by kernel_rfl) (ai hC (j:=31) rfl (by kernel_rfl) (ai hC (j:=30) rfl (by kernel_rfl) (ai hC (j:=29) rfl (by kernel_rfl) (ai hC (j:=27) rfl (by kernel_rfl) (ai hC (j:=26) rfl (by kernel_rfl) (ai hC (j:=25) rfl (by kernel_rfl) (ai hC (j:=24) rfl (by kernel_rfl) hS)))))))));have hM90:=hM.1 hS0;have e0:=hI.1 0 (dK rfl);exact aH [(0,_)] hU hmo hme hI hM (.tail _ (.tail _ (.tail _ (.tail _ (.tail _ (.tail _ (.tail _ (.tail _ (.tail _ (.tail _ (.tail _ (.tail _ (.tail _ (.tail _ (.tail _ (.tail _ (.tail _ (.tail _ (.tail _ (.tail _ (.tail _ (.tail _ (.tail _ (.head _)))))))))))))))))))))))) rfl rfl (by kernel_rfl) ⟨e0,trivial⟩ (aP (v:=.pointer _) rfl) aj.rfl_ (rfl)
    constructor
    ·rintro S L' w91 hU hmo hme hI hM hC hS ⟨d23,-⟩;have hS0:S 33=false:=(ai hC (j:=33) rfl (by kernel_rfl) (ai hC (j:=32) rfl (by kernel_rfl) (ai hC (j:=31) rfl (by kernel_rfl) (ai hC (j:=30) rfl (by kernel_rfl) (ai hC (j:=29) rfl (by kernel_rfl) (ai hC (j:=27) rfl (by kernel_rfl) (ai hC (j:=26) rfl (by kernel_rfl) (ai hC (j:=25) rfl (by kernel_rfl) hS))))))));have hM91:=hM.1 hS0;obtain ⟨v91_121,e121,h121⟩:=hI.get (i:=23) (.tail _ (.tail _ (.tail _ (.tail _ (.tail _ (.tail _ (.tail _ (.tail _ (.tail _ (.tail _ (.tail _ (.tail _ (.tail _ (.tail _ (.tail _ (.tail _ (.tail _ (.tail _ (.tail _ (.tail _ (.tail _ (.tail _ (.tail _ (.head _)))))))))))))))))))))))) d23;obtain rfl:=h121;exact aH [(121,_)] hU hmo hme hI hM (.tail _ (.tail _ (.tail _ (.tail _ (.tail _ (.tail _ (.tail _ (.tail _ (.tail _ (.tail _ (.tail _ (.tail _ (.tail _ (.tail _ (.tail _ (.tail _ (.tail _ (.tail _ (.tail _ (.tail _ (.tail _ (.tail _ (.tail _ (.tail _ (.head _))))))))))))))))))))))))) rfl rfl (by kernel_rfl) ⟨e121,trivial⟩ (aw rfl) aj.rfl_ (rfl)
    constructor
    ·rintro S L' w92 hU hmo hme hI hM hC hS ⟨d24,-⟩;have hS0:S 33=false:=(ai hC (j:=33) rfl (by kernel_rfl) (ai hC (j:=32) rfl (by kernel_rfl) (ai hC (j:=31) rfl (by kernel_rfl) (ai hC (j:=30) rfl (by kernel_rfl) (ai hC (j:=29) rfl (by kernel_rfl) (ai hC (j:=27) rfl (by kernel_rfl) (ai hC (j:=26) rfl (by kernel_rfl) hS)))))));have hM92:=hM.1 hS0;obtain ⟨v92_122,e122,h122⟩:=hI.get (i:=24) (.tail _ (.tail _ (.tail _ (.tail _ (.tail _ (.tail _ (.tail _ (.tail _ (.tail _ (.tail _ (.tail _ (.tail _ (.tail _ (.tail _ (.tail _ (.tail _ (.tail _ (.tail _ (.tail _ (.tail _ (.tail _ (.tail _ (.tail _ (.tail _ (.head _))))))))))))))))))))))))) d24;obtain rfl:=h122;exact aH [(122,_)] hU hmo hme hI hM (.tail _ (.tail _ (.tail _ (.tail _ (.tail _ (.tail _ (.tail _ (.tail _ (.tail _ (.tail _ (.tail _ (.tail _ (.tail _ (.tail _ (.tail _ (.tail _ (.tail _ (.tail _ (.tail _ (.tail _ (.tail _ (.tail _ (.tail _ (.tail _ (.tail _ (.head _)))))))))))))))))))))))))) rfl rfl (by kernel_rfl) ⟨e122,trivial⟩ (ae bB rfl) aj.rfl_ (rfl)
    constructor
    ·rintro S L' w93 hU hmo hme hI hM hC hS ⟨d25,-⟩;have hS0:S 33=false:=(ai hC (j:=33) rfl (by kernel_rfl) (ai hC (j:=32) rfl (by kernel_rfl) (ai hC (j:=31) rfl (by kernel_rfl) (ai hC (j:=30) rfl (by kernel_rfl) (ai hC (j:=29) rfl (by kernel_rfl) (ai hC (j:=27) rfl (by kernel_rfl) hS))))));have hM93:=hM.1 hS0;obtain ⟨v93_123,e123,h123⟩:=hI.get (i:=25) (.tail _ (.tail _ (.tail _ (.tail _ (.tail _ (.tail _ (.tail _ (.tail _ (.tail _ (.tail _ (.tail _ (.tail _ (.tail _ (.tail _ (.tail _ (.tail _ (.tail _ (.tail _ (.tail _ (.tail _ (.tail _ (.tail _ (.tail _ (.tail _ (.tail _ (.head _)))))))))))))))))))))))))) d25;obtain rfl:=h123;exact aH [(123,_)] hU hmo hme hI hM (.tail _ (.tail _ (.tail _ (.tail _ (.tail _ (.tail _ (.tail _ (.tail _ (.tail _ (.tail _ (.tail _ (.tail _ (.tail _ (.tail _ (.tail _ (.tail _ (.tail _ (.tail _ (.tail _ (.tail _ (.tail _ (.tail _ (.tail _ (.tail _ (.tail _ (.tail _ (.head _))))))))))))))))))))))))))) rfl rfl (by kernel_rfl) ⟨e123,trivial⟩ (ae bu rfl) aj.rfl_ (rfl)
    constructor
    ·rintro S L' w94 hU hmo hme hI hM hC hS ⟨d26,-⟩;have hS0:S 33=false:=(ai hC (j:=33) rfl (by kernel_rfl) (ai hC (j:=32) rfl (by kernel_rfl) (ai hC (j:=31) rfl (by kernel_rfl) (ai hC (j:=30) rfl (by kernel_rfl) (ai hC (j:=29) rfl (by kernel_rfl) hS)))));have hM94:=hM.1 hS0;obtain ⟨v94_124,e124,h124⟩:=hI.get (i:=26) (.tail _ (.tail _ (.tail _ (.tail _ (.tail _ (.tail _ (.tail _ (.tail _ (.tail _ (.tail _ (.tail _ (.tail _ (.tail _ (.tail _ (.tail _ (.tail _ (.tail _ (.tail _ (.tail _ (.tail _ (.tail _ (.tail _ (.tail _ (.tail _ (.tail _ (.tail _ (.head _))))))))))))))))))))))))))) d26;obtain rfl:=h124;exact aH [(124,_)] hU hmo hme hI hM (.tail _ (.tail _ (.tail _ (.tail _ (.tail _ (.tail _ (.tail _ (.tail _ (.tail _ (.tail _ (.tail _ (.tail _ (.tail _ (.tail _ (.tail _ (.tail _ (.tail _ (.tail _ (.tail _ (.tail _ (.tail _ (.tail _ (.tail _ (.tail _ (.tail _ (.tail _ (.tail _ (.head _)))))))))))))))))))))))))))) rfl rfl (by kernel_rfl) ⟨e124,trivial⟩ (aq aM rfl (by exact (show _=some (Value.slice (some ⟨gX,0,none⟩) p.s.next.length Xc) from cC (hb.from_ (((((aj.rfl_.next E4).only O1 (hg4)).next D16).next D66).next hM94)) 15 rfl))) aj.rfl_ (rfl)
    constructor
    ·rintro S L' w95 hU hmo hme hI hM hC hS ⟨-⟩;have hS0:S 33=false:=(ai hC (j:=33) rfl (by kernel_rfl) (ai hC (j:=32) rfl (by kernel_rfl) (ai hC (j:=31) rfl (by kernel_rfl) (ai hC (j:=30) rfl (by kernel_rfl) (ai hC (j:=29) rfl (by kernel_rfl) hS)))));have hM95:=hM.1 hS0;have e5:=hI.1 5 (dK rfl);exact aH [(5,_)] hU hmo hme hI hM (.tail _ (.tail _ (.tail _ (.tail _ (.tail _ (.tail _ (.tail _ (.tail _ (.tail _ (.tail _ (.tail _ (.tail _ (.tail _ (.tail _ (.tail _ (.tail _ (.tail _ (.tail _ (.tail _ (.tail _ (.tail _ (.tail _ (.tail _ (.tail _ (.tail _ (.tail _ (.tail _ (.tail _ (.head _))))))))))))))))))))))))))))) rfl rfl (by kernel_rfl) ⟨e5,trivial⟩ (aP (v:=.int _ _) rfl) aj.rfl_ (rfl)
    constructor
    ·rintro S L' w96 hU hmo hme hI hM hC hS ⟨d27,d28,-⟩;have hS0:S 33=false:=(ai hC (j:=33) rfl (by kernel_rfl) (ai hC (j:=32) rfl (by kernel_rfl) (ai hC (j:=31) rfl (by kernel_rfl) (ai hC (j:=30) rfl (by kernel_rfl) hS))));have hM96:=hM.1 hS0;obtain ⟨v96_125,e125,h125⟩:=hI.get (i:=27) (.tail _ (.tail _ (.tail _ (.tail _ (.tail _ (.tail _ (.tail _ (.tail _ (.tail _ (.tail _ (.tail _ (.tail _ (.tail _ (.tail _ (.tail _ (.tail _ (.tail _ (.tail _ (.tail _ (.tail _ (.tail _ (.tail _ (.tail _ (.tail _ (.tail _ (.tail _ (.tail _ (.head _)))))))))))))))))))))))))))) d27;obtain rfl:=h125;obtain ⟨v96_126,e126,h126⟩:=hI.get (i:=28) (.tail _ (.tail _ (.tail _ (.tail _ (.tail _ (.tail _ (.tail _ (.tail _ (.tail _ (.tail _ (.tail _ (.tail _ (.tail _ (.tail _ (.tail _ (.tail _ (.tail _ (.tail _ (.tail _ (.tail _ (.tail _ (.tail _ (.tail _ (.tail _ (.tail _ (.tail _ (.tail _ (.tail _ (.head _))))))))))))))))))))))))))))) d28;obtain rfl:=h126;exact aH [(125,_),(126,_)] hU hmo hme hI hM (.tail _ (.tail _ (.tail _ (.tail _ (.tail _ (.tail _ (.tail _ (.tail _ (.tail _ (.tail _ (.tail _ (.tail _ (.tail _ (.tail _ (.tail _ (.tail _ (.tail _ (.tail _ (.tail _ (.tail _ (.tail _ (.tail _ (.tail _ (.tail _ (.tail _ (.tail _ (.tail _ (.tail _ (.tail _ (.head _)))))))))))))))))))))))))))))) rfl rfl (by kernel_rfl) ⟨e125,e126,trivial⟩ (cH bK rfl rfl (by omega)) aj.rfl_ (rfl)
    constructor
    ·rintro S L' w97 hU hmo hme hI hM hC hS ⟨d29,-⟩;have hS0:S 33=false:=(ai hC (j:=33) rfl (by kernel_rfl) (ai hC (j:=32) rfl (by kernel_rfl) (ai hC (j:=31) rfl (by kernel_rfl) hS)));have hM97:=hM.1 hS0;obtain ⟨v97_127,e127,h127⟩:=hI.get (i:=29) (.tail _ (.tail _ (.tail _ (.tail _ (.tail _ (.tail _ (.tail _ (.tail _ (.tail _ (.tail _ (.tail _ (.tail _ (.tail _ (.tail _ (.tail _ (.tail _ (.tail _ (.tail _ (.tail _ (.tail _ (.tail _ (.tail _ (.tail _ (.tail _ (.tail _ (.tail _ (.tail _ (.tail _ (.tail _ (.head _)))))))))))))))))))))))))))))) d29;obtain rfl:=h127;exact aH [(127,_)] hU hmo hme hI hM (.tail _ (.tail _ (.tail _ (.tail _ (.tail _ (.tail _ (.tail _ (.tail _ (.tail _ (.tail _ (.tail _ (.tail _ (.tail _ (.tail _ (.tail _ (.tail _ (.tail _ (.tail _ (.tail _ (.tail _ (.tail _ (.tail _ (.tail _ (.tail _ (.tail _ (.tail _ (.tail _ (.tail _ (.tail _ (.tail _ (.head _))))))))))))))))))))))))))))))) rfl rfl (by kernel_rfl) ⟨e127,trivial⟩ (aq ar rfl (by exact dF (((((aj.rfl_.next E4).only O1 (hg4)).next D16).next D66).next hM97) hXc)) aj.rfl_ (rfl)
    constructor
    ·rintro S L' w98 hU hmo hme hI hM hC hS ⟨d22,d30,-⟩;have hS0:S 33=false:=(ai hC (j:=33) rfl (by kernel_rfl) hS);have hM98:=hM.1 hS0;obtain ⟨v98_120,e120,h120⟩:=hI.get (i:=22) (.tail _ (.tail _ (.tail _ (.tail _ (.tail _ (.tail _ (.tail _ (.tail _ (.tail _ (.tail _ (.tail _ (.tail _ (.tail _ (.tail _ (.tail _ (.tail _ (.tail _ (.tail _ (.tail _ (.tail _ (.tail _ (.tail _ (.head _))))))))))))))))))))))) d22;obtain rfl:=h120;obtain ⟨v98_128,e128,h128⟩:=hI.get (i:=30) (.tail _ (.tail _ (.tail _ (.tail _ (.tail _ (.tail _ (.tail _ (.tail _ (.tail _ (.tail _ (.tail _ (.tail _ (.tail _ (.tail _ (.tail _ (.tail _ (.tail _ (.tail _ (.tail _ (.tail _ (.tail _ (.tail _ (.tail _ (.tail _ (.tail _ (.tail _ (.tail _ (.tail _ (.tail _ (.tail _ (.head _))))))))))))))))))))))))))))))) d30;obtain rfl:=h128;refine gF (al:=[.tmp 120,.tmp 128,.const (.int .i64 16)]) [(120,_),(128,_)] hU hmo hme hI hM (.tail _ (.tail _ (.tail _ (.tail _ (.tail _ (.tail _ (.tail _ (.tail _ (.tail _ (.tail _ (.tail _ (.tail _ (.tail _ (.tail _ (.tail _ (.tail _ (.tail _ (.tail _ (.tail _ (.tail _ (.tail _ (.tail _ (.tail _ (.tail _ (.tail _ (.tail _ (.tail _ (.tail _ (.tail _ (.tail _ (.tail _ (.head _)))))))))))))))))))))))))))))))) rfl (by kernel_rfl) ⟨e120,e128,trivial⟩ qg ((sI p.s p.s.next[k] E Ec _ (he.from_ (((((aj.rfl_.next E4).only O1 (hg4)).next D16).next D66).next hM98)) hF.lg (by omega)).mono ?_);rintro v w2 ⟨⟨a,b,rfl,h⟩,hF⟩;exact ⟨hF,fun _=>⟨a,b,rfl,ey h ((((((aj.rfl_.next E4).only O1 (hg4)).next D16).next D66).next hM98)).size⟩⟩
    constructor
    ·rintro S L' w99 hU hmo hme hI hM hC hS ⟨d1,d10,d11,d16,d21,d31,-⟩;have hS0:S 33=false:=(ai hC (j:=33) rfl (by kernel_rfl) hS);have hM99:=hM.1 hS0;obtain ⟨v99_99,e99,h99⟩:=hI.get (i:=1) (.tail _ (.head _)) d1;obtain rfl:=h99;obtain ⟨v99_108,e108,h108⟩:=hI.get (i:=10) (.tail _ (.tail _ (.tail _ (.tail _ (.tail _ (.tail _ (.tail _ (.tail _ (.tail _ (.tail _ (.head _))))))))))) d10;obtain rfl:=h108;obtain ⟨v99_109,e109,h109⟩:=hI.get (i:=11) (.tail _ (.tail _ (.tail _ (.tail _ (.tail _ (.tail _ (.tail _ (.tail _ (.tail _ (.tail _ (.tail _ (.head _)))))))))))) d11;obtain rfl:=h109;obtain ⟨v99_114,e114,h114⟩:=hI.get (i:=16) (.tail _ (.tail _ (.tail _ (.tail _ (.tail _ (.tail _ (.tail _ (.tail _ (.tail _ (.tail _ (.tail _ (.tail _ (.tail _ (.tail _ (.tail _ (.tail _ (.head _))))))))))))))))) d16;obtain rfl:=h114;obtain ⟨v99_119,e119,h119⟩:=hI.get (i:=21) (.tail _ (.tail _ (.tail _ (.tail _ (.tail _ (.tail _ (.tail _ (.tail _ (.tail _ (.tail _ (.tail _ (.tail _ (.tail _ (.tail _ (.tail _ (.tail _ (.tail _ (.tail _ (.tail _ (.tail _ (.tail _ (.head _)))))))))))))))))))))) d21;obtain rfl:=h119;obtain ⟨v99_129,e129,h129⟩:=hI.get (i:=31) (.tail _ (.tail _ (.tail _ (.tail _ (.tail _ (.tail _ (.tail _ (.tail _ (.tail _ (.tail _ (.tail _ (.tail _ (.tail _ (.tail _ (.tail _ (.tail _ (.tail _ (.tail _ (.tail _ (.tail _ (.tail _ (.tail _ (.tail _ (.tail _ (.tail _ (.tail _ (.tail _ (.tail _ (.tail _ (.tail _ (.tail _ (.head _)))))))))))))))))))))))))))))))) d31;obtain ⟨A129,c129,rfl,ho129⟩:=h129 hS0;exact aH [(99,_),(108,_),(109,_),(114,_),(119,_),(129,_)] hU hmo hme hI hM (.tail _ (.tail _ (.tail _ (.tail _ (.tail _ (.tail _ (.tail _ (.tail _ (.tail _ (.tail _ (.tail _ (.tail _ (.tail _ (.tail _ (.tail _ (.tail _ (.tail _ (.tail _ (.tail _ (.tail _ (.tail _ (.tail _ (.tail _ (.tail _ (.tail _ (.tail _ (.tail _ (.tail _ (.tail _ (.tail _ (.tail _ (.tail _ (.head _))))))))))))))))))))))))))))))))) rfl rfl (by kernel_rfl) ⟨e99,e108,e109,e114,e119,e129,trivial⟩ ((cM (l:=[(0,.const (.int .i64 3)),(2,.tmp 99),(4,.tmp 108),(5,.tmp 109),(6,.tmp 114),(7,.tmp 119),(9,.tmp 129)]) (fy _ _ _ _ _ _ _ _))) (aj.rfl_) (fun _=>⟨A129,c129,rfl,ho129⟩)
    constructor
    ·rintro S L' w100 hU hmo hme hI hM hC hS ⟨d0,d32,d31,-⟩;have hS0:S 33=false:=hS;have hM100:=hM.1 hS0;obtain ⟨v100_98,e98,h98⟩:=hI.get (i:=0) (.head _) d0;obtain rfl:=h98;obtain ⟨v100_130,e130,h130⟩:=hI.get (i:=32) (.tail _ (.tail _ (.tail _ (.tail _ (.tail _ (.tail _ (.tail _ (.tail _ (.tail _ (.tail _ (.tail _ (.tail _ (.tail _ (.tail _ (.tail _ (.tail _ (.tail _ (.tail _ (.tail _ (.tail _ (.tail _ (.tail _ (.tail _ (.tail _ (.tail _ (.tail _ (.tail _ (.tail _ (.tail _ (.tail _ (.tail _ (.tail _ (.head _))))))))))))))))))))))))))))))))) d32;obtain ⟨A130,c130,rfl,ho130⟩:=h130 hS0;refine gG (al:=[.tmp 98,.tmp 130]) [(98,_),(130,_)] hU hI (.tail _ (.tail _ (.tail _ (.tail _ (.tail _ (.tail _ (.tail _ (.tail _ (.tail _ (.tail _ (.tail _ (.tail _ (.tail _ (.tail _ (.tail _ (.tail _ (.tail _ (.tail _ (.tail _ (.tail _ (.tail _ (.tail _ (.tail _ (.tail _ (.tail _ (.tail _ (.tail _ (.tail _ (.tail _ (.tail _ (.tail _ (.tail _ (.tail _ (.head _)))))))))))))))))))))))))))))))))) (by kernel_rfl) ⟨e98,e130,trivial⟩ nh ((pn w0 Z T g p _ (h.from_ (((((aj.rfl_.next E4).only O1 (hg4)).next D16).next D66).next hM100)) _ _ O oc L (hs.new hzw (((((aj.rfl_.next E4).only O1 (hg4)).next D16).next D66).next hM100) (1000+2*L.length)) (by omega) ({ zM with k:=3,t:=(k:Int)+1,ix:=p.s.next[k]-1,lt:=ek p.s.b p.s.t p.s.es (p.s.next[k]-1),cm:=p.s.commit,rd:=p.s.round,E:=A130,c:=c130,es:=(p.s.es.drop (p.s.next[k]-p.s.b-1).toNat).take 16 }:Msg) ⟨ey (base':=0) (ho130.kept_from aj.rfl_) (Nat.zero_le _),fun q hq=>dp (ee ho130 q hq).1⟩).mono ?_);rintro v9 w2 ⟨rfl,hS2⟩;exact ⟨⟨fun h0=>(by rw [kj] at h0;cases h0),fun _=>⟨_,_,hS2⟩⟩,rfl,⟨fun _ _ _ h=>h,fun _ _ _ h=>h,fun _ _ _ h=>h,fun _ _ _ h=>h,fun _ _ _ h=>h,fun _ _ _ h=>h,fun _ _ _ h=>h,fun _ _ _ h=>h,fun _ _ _ h=>h,fun _ _ _ h=>h,fun _ _ _ h=>h,fun _ _ _ h=>h,fun _ _ _ h=>h,fun _ _ _ h=>h,fun _ _ _ h=>h,fun _ _ _ h=>h,fun _ _ _ h=>h,fun _ _ _ h=>h,fun _ _ _ h=>h,fun _ _ _ h=>h,fun _ _ _ h=>h,fun _ _ _ h=>h,fun _ _ _ h=>h,fun _ _ _ h=>h,fun _ _ _ h=>h,fun _ _ _ h=>h,fun _ _ _ h=>h,fun _ _ _ h=>h,fun _ _ _ h=>h,fun _ _ _ h=>h,fun _ _ _ h=>h,fun _ _ _ _ h0=>(by rw [kj] at h0;cases h0),fun _ _ _ _ h0=>(by rw [kj] at h0;cases h0),fun _ _ _ h=>h,trivial⟩⟩
    exact trivial
   case hend=>
    intro w101 hM;obtain ⟨A9,c9,hS9⟩:=hM.2 rfl;rintro v101_98 rfl v101_99 rfl v101_100 rfl v101_101 rfl v101_102 rfl v101_103 rfl v101_104 rfl v101_105 rfl v101_106 rfl v101_107 rfl v101_108 rfl v101_109 rfl v101_110 rfl v101_111 rfl v101_112 rfl v101_113 rfl v101_114 rfl v101_115 rfl v101_116 rfl v101_117 rfl v101_118 rfl v101_119 rfl v101_120 rfl v101_121 rfl v101_122 rfl v101_123 rfl v101_124 rfl v101_125 rfl v101_126 rfl v101_127 rfl v101_128 rfl v101_129-v101_130-v101_131 rfl;refine fZ (dA (fj rfl ?_))
    have e9:p.send ((k:Int)+1)=p.tell (pl ({ zM with k:=3,t:=(k:Int)+1,ix:=p.s.next[k]-1,lt:=ek p.s.b p.s.t p.s.es (p.s.next[k]-1),cm:=p.s.commit,rd:=p.s.round,E:=A9,c:=c9,es:=(p.s.es.drop (p.s.next[k]-p.s.b-1).toNat).take 16 }:Msg)):=by
     unfold Sp.send;rw [nK (by rw [hpn];omega),hpn];rfl
    rw [if_neg (by omega),e9];exact ⟨rfl,hS9.from_ aj.rfl_⟩
end Go.Proofs.YtkpooenofjdpmaaGreat
namespace Go.Proofs.YtkpooenofjdpmaaGreat
open Go.Proofs.Tryz (prog)
open Go.RowKit
abbrev XT (X:Type):=List (Nat×Nat×(X→Value))
abbrev kG {X:Type} (T:XT X) (x:X):List (Nat×Nat×Value):=T.map fun p=>(p.1,p.2.1,p.2.2 x)
theorem oz {X:Type}:∀ {T:XT X} {x:X},ld (T.map fun p=>(p.1,p.2.1))→j6 (kG T x)
 |[],_,_=>trivial
 |p::r,x,h=>⟨fun q hq=>by
   obtain ⟨y,hy,rfl⟩:=List.mem_map.1 hq;exact h.1 (y.1,y.2.1) (List.mem_map.2 ⟨y,hy,rfl⟩),oz h.2⟩
def vx {X:Type} (S:Nat→Bool) (x x':X):XT X→Prop
 |[]=>True
 |p::r=>(S p.1=true→p.2.2 x'=p.2.2 x)∧vx S x x' r
theorem r5 {X:Type} {S:Nat→Bool} {x x':X}:∀ {T:XT X},vx S x x' T→∀ p∈T,S p.1=true→p.2.2 x'=p.2.2 x
 |_::_,⟨h1,h2⟩,p,hp=>by
  rcases List.mem_cons.1 hp with rfl | hp
  ·exact h1
  ·exact r5 h2 p hp
theorem cy {X:Type} {S:Nat→Bool} {x:X}:∀ {T:XT X},vx S x x T
 |[]=>trivial
 |_::_=>⟨fun _=>rfl,cy⟩
section
variable {X:Type} {P:Program} {Q:Exit→Act→World→Prop} {n:Fr} {L L' M:List (Nat×Value)} {w w' w'':World} {l:List Oper} {T:XT X} {I:X→(Nat→Bool)→World→Prop} {S:Nat→Bool} {op:Op} {ty:TypeId} {pos:String} {after:Array Edge} {i d:Nat} {f:X→Value} {x:X}
theorem InvX.get (h:gi L (kG T x) S L') (hp:(i,d,f)∈T) (hs:S i=true):bp L' d=f x:=h.get (i:=i) (d:=d) (List.mem_map.2 ⟨_,hp,rfl⟩) hs
theorem InvX.out {t:Nat} (h:gi L (kG T x) S L') (ht:(T.map fun p=>p.2.1).elem t=false):bp L' t=bp L t:=h.1 t fun p hp e=>by
 obtain ⟨y,hy,rfl⟩:=List.mem_map.1 hp;have:t∈T.map fun p=>p.2.1:=List.mem_map.2 ⟨y,hy,e⟩
 rw [List.elem_eq_mem,decide_eq_false_iff_not] at ht;exact ht this
theorem wh {i:Nat} (h:(T.map fun p=>p.1).elem i=false):∀ p∈T,p.1≠i:=fun p hp e=>by
 rw [List.elem_eq_mem,decide_eq_false_iff_not] at h;exact h (List.mem_map.2 ⟨p,hp,e⟩)
theorem InvX.chg {x':X} (h:gi L (kG T x) S L') (hc:∀ p∈T,S p.1=true→p.2.2 x'=p.2.2 x):gi L (kG T x') S L':=by
 refine ⟨fun t ht=>h.1 t fun p hp=>?_,fun p hp hs=>?_,fun p hp hs=>?_⟩
 ·obtain ⟨y,hy,rfl⟩:=List.mem_map.1 hp;exact ht (y.1,y.2.1,y.2.2 x') (List.mem_map.2 ⟨y,hy,rfl⟩)
 ·obtain ⟨y,hy,rfl⟩:=List.mem_map.1 hp;have:=h.2.1 (y.1,y.2.1,y.2.2 x) (List.mem_map.2 ⟨y,hy,rfl⟩) hs;rw [this];exact (hc y hy hs).symm
 ·obtain ⟨y,hy,rfl⟩:=List.mem_map.1 hp;exact h.2.2 (y.1,y.2.1,y.2.2 x) (List.mem_map.2 ⟨y,hy,rfl⟩) hs
abbrev si (P:Program) (n:Fr) (L:List (Nat×Value)) (T:XT X) (I:X→(Nat→Bool)→World→Prop) (S:Nat→Bool) (i:Nat) (o:Oper) (L':List (Nat×Value)) (w':World):Prop:=fw P n o (fun L2 w2=>∃ x,gi L (kG T x) (db S i) L2∧I x (db S i) w2) L' w'
theorem cj (M:List (Nat×Value)) (x':X) (hU:ld (T.map fun p=>(p.1,p.2.1))) (hI:gi L (kG T x) S L') (hp:(i,d,f)∈T)
 (hs:dg op=false) (hk:(((⟨some d,op,ty,pos,after,none⟩:Oper).looksAt #[]).all fun t=>(M.map Prod.fst).elem t)=true) (hag:pe L' M) (hr:RO P (ev n M) op w' (f x') w'') (hc:vx S x x' T) (hM:I x' (db S i) w''):si P n L T I S i ⟨some d,op,ty,pos,after,none⟩ L' w':=
 .inl ⟨d,f x',w'',rfl,by rw [iA hs hk hag];exact hr _ _ _ _ _,x',(InvX.chg hI (r5 hc)).put (oz hU) (List.mem_map.2 ⟨_,hp,rfl⟩),hM⟩
theorem mh (M:List (Nat×Value)) (hI:gi L (kG T x) S L') (hi:∀ p∈T,p.1≠i)
 (hs:dg op=false) (hk:(((⟨none,op,ty,pos,after,none⟩:Oper).looksAt #[]).all fun t=>(M.map Prod.fst).elem t)=true) (hag:pe L' M) (hr:RS P (ev n M) op w' w'') (hM:I x (db S i) w''):si P n L T I S i ⟨none,op,ty,pos,after,none⟩ L' w':=
 .inr (.inl ⟨w'',rfl,by rw [iA hs hk hag];exact hr _ _ _ _ _,x,hI.skip (fun p hp=>by
  obtain ⟨y,hy,rfl⟩:=List.mem_map.1 hp;exact hi y hy),hM⟩)
def ry (P:Program) (n:Fr) (L:List (Nat×Value)) (T:XT X) (Mu:List Nat) (I:X→(Nat→Bool)→World→Prop) (l:List Oper):Nat→List Oper→Prop
 |_,[]=>True
 |i,o::r=>(∀ S L' w' x,ld (T.map fun p=>(p.1,p.2.1))→(∀ x S i w1 w2,Mu.elem i=false→aj w1 w2→I x S w1→I x (db S i) w2)→gi L (kG T x) S L'→I x S w'→fU l S→S i=false→gz S o.after.toList→si P n L T I S i o L' w')∧ry P n L T Mu I l (i+1) r
theorem nF {Mu:List Nat} {L0:List (Nat×Value)} {l0:List Oper}:∀ {r:List Oper} {k:Nat},ry P n L0 T Mu I l0 k r→ld (T.map fun p=>(p.1,p.2.1))→(∀ x S i w1 w2,Mu.elem i=false→aj w1 w2→I x S w1→I x (db S i) w2)→∀ (i:Nat) (o:Oper),r[i]? =some o→∀ S L' w' x,gi L0 (kG T x) S L'→I x S w'→fU l0 S→S (k+i)=false→gz S o.after.toList→si P n L0 T I S (k+i) o L' w'
 |[],_,_,_,_,i,o,h=>by simp at h
 |y::r,k,⟨h1,h2⟩,a,b,0,o,h=>by
  simp only [List.getElem?_cons_zero,Option.some.injEq] at h;subst h;exact fun S L' w' x=>h1 S L' w' x a b
 |y::r,k,⟨h1,h2⟩,a,b,i+1,o,h=>by
  have:=nF h2 a b i o (by simpa using h)
  rwa [show k+1+i=k+(i+1) by omega] at this
theorem uo {id:Nat} (T:XT X) (Mu:List Nat) (I:X→(Nat→Bool)→World→Prop) (hm:P.follows .mixedOrders=true) (hwf:mR l=true) (hlt:(T.all fun p=>Nat.blt p.1 l.length)=true) (hU:ss (T.map fun p=>(p.1,p.2.1))=true) (hme:∀ x S i w1 w2,Mu.elem i=false→aj w1 w2→I x S w1→I x (db S i) w2) (h0:∃ x,I x (fun _=>false) { w with drawn:=w.drawn+1 })
 (hstep:ry P n L T Mu I l 0 l) (hend:∀ x w',I x (fun i=>decide (i<l.length)) w'→Q .normal (mkA n ((kG T x).map (fun p=>(p.2.1,p.2.2))++L)) w'):Cd P (.region id l.toArray true) Q n L w:=
 rm (fun S L' w'=>(∃ x,gi L (kG T x) S L'∧I x S w')∧fU l S) hm hwf ⟨let ⟨x,hx⟩:=h0;⟨x,⟨fun _ _=>rfl,fun _ _ h=>(by cases h),fun _ _ _=>rfl⟩,hx⟩,fun _ _ _ h=>by cases h⟩ (fun i o S L' w' ho ⟨⟨x,hI,hM⟩,hC⟩ hS hE=>by
  have:=nF hstep (kf hU) hme i o ho S L' w' x hI hM hC (by rw [Nat.zero_add];exact hS) (jn fun e he=>hE e (by simpa using he));rw [Nat.zero_add] at this;exact fw.mono (fun L2 w2 h=>⟨h,jq hC ho hE⟩) this) fun L' w' ⟨⟨x,hI,hM⟩,_⟩=>by
  have h:=hend x w' hM
  have hlt':∀ p∈kG T x,decide (p.1<l.length)=true:=fun p hp=>by
   obtain ⟨y,hy,rfl⟩:=List.mem_map.1 hp;exact decide_eq_true (Nat.le_of_ble_eq_true (List.all_eq_true.1 hlt y hy))
  rw [u4 (oz (kf hU)) hlt' hI];exact h
end
end Go.Proofs.YtkpooenofjdpmaaGreat
namespace Go.Proofs.YtkpooenofjdpmaaGreat
open Go.Proofs.Tryz (prog)
open Go.RowKit
open Go.ChangeShapes Go.WideShapes Go.ChangeAt
theorem ka:tP prog 26=some (3,8,.int .i64 0):=by kernel_rfl
theorem rF:aY prog 99=true:=by kernel_rfl
theorem kb:aY prog 75=true:=by kernel_rfl
theorem ns:aY prog 76=true:=by kernel_rfl
theorem nq:aY prog 84=true:=by kernel_rfl
theorem nr:aY prog 79=true:=by kernel_rfl
theorem qF {P:Program} {ρ:Operand→Value} {w:World} {t:TypeId} {x y:Operand} {e by_ m:Nat} {z:Value} {kl kc:IntKind} (ht:tP P t=some (e,by_,z)) (hz:z.cells=#[z]) (hx:ρ x=.int kl (m:Nat)) (hy:ρ y=.int kc (m:Nat)) (hm:m≤9223372036854775807) (hb:by_*m≤281474976710656) :
 RO P ρ (.makeSlice t x y) w (.slice (some ⟨w.heap.size,0,none⟩) m m) (w.alloc (.cells (List.replicate m z).toArray e)):=by
 unfold tP at ht;split at ht
 ·rename_i e' hu;cases hi:P.info? e' with
  |none=>simp [hi] at ht
  |some i=>
   rw [hi] at ht;simp only [Option.bind_some] at ht;split at ht
   ·rename_i hs;cases hzz:i.zero with
    |none=>simp [hzz] at ht
    |some z'=>
     simp only [hzz,Option.map_some,Option.some.injEq,Prod.mk.injEq] at ht;obtain ⟨rfl,rfl,rfl⟩:=ht
     have hr:=run_make (P:=P) w t e' i z' hu hi hzz kl kc (m:Int) (m:Int) (by omega) (Int.le_refl _) (by
      have:((i.bytes*m:Nat):Int)≤281474976710656:=by omega
      rwa [Int.natCast_mul] at this) (by omega)
     have hcells:madeCells z'.cells ((m:Int).toNat*i.size)=(List.replicate m z').toArray:=by
      rw [hs,Int.toNat_natCast,Nat.mul_one,hz];apply Array.ext_getElem?;intro j;simp only [madeCells,Array.getElem?_map];by_cases hj:j<m
      ·simp [hj,Nat.mod_one]
      ·simp [hj]
     rw [hcells,Int.toNat_natCast] at hr;exact fun _ _ _ _ _=>by simp [execOp,hx,hy,hr]
   ·cases ht
 ·cases ht
structure G3 where
 x:Nat
 m:Nat
 s:Nat
def lv (s:Rf) (a:Ra) (p q r:Value):List Value:=[.int .i64 s.id,.int .i64 s.nodes,.int .i64 s.role,.int .i64 s.term,.int .i64 s.vote,.int .i64 s.leader,.int .i64 s.b,.int .i64 s.t,.slice a.E s.es.length a.Ec,.string s.snap,.int .i64 s.commit,.int .i64 s.elapsed,.int .i64 s.timeout,.int .u64 s.seed,.slice a.V s.votes.length a.Vc,p,q,r,.int .i64 s.round,.slice a.Q a.L.length a.Qc,.string s.part,.int .i64 s.partOf]
def lvX (s:Rf) (a:Ra) (n:Nat) (x:G3) (S:Nat→Bool):List Value:=lv s a (bif S 28 then .slice (some ⟨x.x,0,none⟩) n n else .slice a.X s.next.length a.Xc) (bif S 33 then .slice (some ⟨x.m,0,none⟩) n n else .slice a.M s.mtch.length a.Mc) (bif S 38 then .slice (some ⟨x.s,0,none⟩) n n else .slice a.S s.sent.length a.Sc)
def MK (w0 w:World) (n k:Nat):Prop:=w0.heap.size≤k∧Blk w k 3 (List.replicate n (Value.int .i64 0)).toArray
structure LI (w0:World) (T g n:Nat) (s:Rf) (a:Ra) (R:Value) (x:G3) (S:Nat→Bool) (w:World):Prop where
 c:Chg (fun k=>k=g) w0 w
 b:Blk w g T (lvX s a n x S++[R]).toArray
 h9:S 9=true→MK w0 w n x.x
 h16:S 16=true→MK w0 w n x.m
 h23:S 23=true→MK w0 w n x.s
 a1:S 9=true→S 16=true→x.x≠x.m
 a2:S 9=true→S 23=true→x.x≠x.s
 a3:S 16=true→S 23=true→x.m≠x.s
 lt:g<w0.heap.size
section
variable {w0 w1 w2:World} {T g n i:Nat} {s:Rf} {a:Ra} {R:Value} {x:G3} {S:Nat→Bool}
theorem MK.from_ {k:Nat} (h:MK w0 w1 n k) (hF:aj w1 w2):MK w0 w2 n k:=⟨h.1,h.2.from_ hF⟩
theorem lW {i:Nat} (h28:i≠28) (h33:i≠33) (h38:i≠38):lvX s a n x (db S i)=lvX s a n x S:=by
 unfold lvX;rw [eA h28.symm,eA h33.symm,eA h38.symm]
theorem LI.rd (h:LI w0 T g n s a R x S w1) (hq:[9,16,23,28,33,38].elem i=false) (hF:aj w1 w2):LI w0 T g n s a R x (db S i) w2:=by
 have hm:i≠9∧i≠16∧i≠23∧i≠28∧i≠33∧i≠38:=by
  refine ⟨?_,?_,?_,?_,?_,?_⟩ <;> rintro rfl <;> exact absurd hq (by decide)
 obtain ⟨m1,m2,m3,m4,m5,m6⟩:=hm;refine ⟨h.c.next hF.toChg,by rw [lW m4 m5 m6];exact h.b.from_ hF,fun e=>?_,fun e=>?_,fun e=>?_,fun e f=>?_,fun e f=>?_,fun e f=>?_,h.lt⟩
 ·rw [eA m1.symm] at e;exact (h.h9 e).from_ hF
 ·rw [eA m2.symm] at e;exact (h.h16 e).from_ hF
 ·rw [eA m3.symm] at e;exact (h.h23 e).from_ hF
 ·rw [eA m1.symm] at e;rw [eA m2.symm] at f;exact h.a1 e f
 ·rw [eA m1.symm] at e;rw [eA m3.symm] at f;exact h.a2 e f
 ·rw [eA m2.symm] at e;rw [eA m3.symm] at f;exact h.a3 e f
theorem MK.fresh {k:Nat} (h:MK w0 w1 n k):k≠w1.heap.size:=by have:=h.2.lt;omega
theorem LI.mk9 (h:LI w0 T g n s a R x S w1) (h28:S 28=false) (hk:MK w0 w2 n w1.heap.size) (hF:aj w1 w2):LI w0 T g n s a R ⟨w1.heap.size,x.m,x.s⟩ (db S 9) w2:=by
 refine ⟨h.c.next hF.toChg,?_,fun _=>hk,fun e=>?_,fun e=>?_,fun _ f=>?_,fun _ f=>?_,fun e f=>?_,h.lt⟩
 ·rw [lW (by decide) (by decide) (by decide)];have:=h.b.from_ hF;unfold lvX at this ⊢;rw [h28] at this ⊢;exact this
 ·rw [eA (by decide)] at e;exact (h.h16 e).from_ hF
 ·rw [eA (by decide)] at e;exact (h.h23 e).from_ hF
 ·rw [eA (by decide)] at f;exact (h.h16 f).fresh.symm
 ·rw [eA (by decide)] at f;exact (h.h23 f).fresh.symm
 ·rw [eA (by decide)] at e f;exact h.a3 e f
theorem LI.mk16 (h:LI w0 T g n s a R x S w1) (h33:S 33=false) (hk:MK w0 w2 n w1.heap.size) (hF:aj w1 w2):LI w0 T g n s a R ⟨x.x,w1.heap.size,x.s⟩ (db S 16) w2:=by
 refine ⟨h.c.next hF.toChg,?_,fun e=>?_,fun _=>hk,fun e=>?_,fun e _=>?_,fun e f=>?_,fun _ f=>?_,h.lt⟩
 ·rw [lW (by decide) (by decide) (by decide)];have:=h.b.from_ hF;unfold lvX at this ⊢;rw [h33] at this ⊢;exact this
 ·rw [eA (by decide)] at e;exact (h.h9 e).from_ hF
 ·rw [eA (by decide)] at e;exact (h.h23 e).from_ hF
 ·rw [eA (by decide)] at e;exact (h.h9 e).fresh
 ·rw [eA (by decide)] at e f;exact h.a2 e f
 ·rw [eA (by decide)] at f;exact (h.h23 f).fresh.symm
theorem LI.mk23 (h:LI w0 T g n s a R x S w1) (h38:S 38=false) (hk:MK w0 w2 n w1.heap.size) (hF:aj w1 w2):LI w0 T g n s a R ⟨x.x,x.m,w1.heap.size⟩ (db S 23) w2:=by
 refine ⟨h.c.next hF.toChg,?_,fun e=>?_,fun e=>?_,fun _=>hk,fun e f=>?_,fun e _=>?_,fun e _=>?_,h.lt⟩
 ·rw [lW (by decide) (by decide) (by decide)];have:=h.b.from_ hF;unfold lvX at this ⊢;rw [h38] at this ⊢;exact this
 ·rw [eA (by decide)] at e;exact (h.h9 e).from_ hF
 ·rw [eA (by decide)] at e;exact (h.h16 e).from_ hF
 ·rw [eA (by decide)] at e f;exact h.a1 e f
 ·rw [eA (by decide)] at e;exact (h.h9 e).fresh
 ·rw [eA (by decide)] at e;exact (h.h16 e).fresh
theorem MK.only {k:Nat} (h:MK w0 w1 n k) (hO:eu g w1 w2) (hg:g<w0.heap.size):MK w0 w2 n k:=⟨h.1,h.2.only hO (by have:=h.1;omega)⟩
theorem LI.st (h:LI w0 T g n s a R x S w1) (hi:i=28∨i=33∨i=38) (hO:eu g w1 w2) (hb:Blk w2 g T (lvX s a n x (db S i)++[R]).toArray):LI w0 T g n s a R x (db S i) w2:=by
 refine ⟨h.c.next (hO.toChg rfl),hb,fun e=>?_,fun e=>?_,fun e=>?_,fun e f=>?_,fun e f=>?_,fun e f=>?_,h.lt⟩
 ·rw [eA (by omega)] at e;exact (h.h9 e).only hO h.lt
 ·rw [eA (by omega)] at e;exact (h.h16 e).only hO h.lt
 ·rw [eA (by omega)] at e;exact (h.h23 e).only hO h.lt
 ·rw [eA (by omega)] at e f;exact h.a1 e f
 ·rw [eA (by omega)] at e f;exact h.a2 e f
 ·rw [eA (by omega)] at e f;exact h.a3 e f
theorem xc {S:Nat→Bool}:(lvX s a n x S++[R]).toArray.setIfInBounds 15 (.slice (some ⟨x.x,0,none⟩) n n)=(lvX s a n x (db S 28)++[R]).toArray:=by
 unfold lvX;rw [kj,eA (by decide),eA (by decide)];rfl
theorem w_ {S:Nat→Bool}:(lvX s a n x S++[R]).toArray.setIfInBounds 16 (.slice (some ⟨x.m,0,none⟩) n n)=(lvX s a n x (db S 33)++[R]).toArray:=by
 unfold lvX;rw [kj,eA (by decide),eA (by decide)];rfl
theorem wZ {S:Nat→Bool}:(lvX s a n x S++[R]).toArray.setIfInBounds 17 (.slice (some ⟨x.s,0,none⟩) n n)=(lvX s a n x (db S 38)++[R]).toArray:=by
 unfold lvX;rw [kj,eA (by decide),eA (by decide)];rfl
end
theorem oG {w0 w:World} {n k:Nat} (h:MK w0 w n k) (hn:n≤1000):w.ownsRow 0 3 1 (.slice (some ⟨k,0,none⟩) n n) n ((List.replicate n (0:Int)).map iV):=by
 refine qJ (Nat.zero_le _) h.2 (Nat.le_refl _) (by unfold maxLen;omega) (by simp) ?_;simp
theorem bj.three {w0 w:World} {g n:Nat} {tag:Nat→Nat} {s:Rf} {a:Ra} {x:G3} (h:bj w0 tag s a) (hC:Chg (fun k=>k=g) w0 w) (hg:tag g=7) (hn:n≤1000) (h1:MK w0 w n x.x) (h2:MK w0 w n x.m) (h3:MK w0 w n x.s) (a1:x.x≠x.m) (a2:x.x≠x.s) (a3:x.m≠x.s) :
 bj w (fun k=>if k<w0.heap.size then tag k else if k=x.x then 2 else if k=x.m then 3 else 4) { s with next:=List.replicate n 0,mtch:=List.replicate n 0,sent:=List.replicate n 0 } { a with X:=some ⟨x.x,0,none⟩,Xc:=n,M:=some ⟨x.m,0,none⟩,Mc:=n,S:=some ⟨x.s,0,none⟩,Sc:=n }:=by
 have hh:=h.chgG hC hg
 have re:∀ {c:Nat} {A:Option Addr},Col tag c A→(∀ k,A.map (·.block)=some k→k<w0.heap.size)→Col (fun k=>if k<w0.heap.size then tag k else if k=x.x then 2 else if k=x.m then 3 else 4) c A:=fun hc hl k hk=>by
  show (if k<w0.heap.size then tag k else _)=_;rw [if_pos (hl k hk)];exact hc k hk
 have l:(List.replicate n (0:Int)).length=n:=List.length_replicate;refine ⟨fun hx=>⟨(hh.e hx).1,re (h.e hx).2 (dD (h.e hx).1)⟩,fun hx=>⟨(hh.v hx).1,re (h.v hx).2 (dD (h.v hx).1)⟩,fun _=>⟨by show World.ownsRow _ _ _ _ (.slice _ (List.replicate n (0:Int)).length _) (List.replicate n (0:Int)).length _;rw [l];exact oG h1 hn,fun k hk=>?_⟩,fun _=>⟨by show World.ownsRow _ _ _ _ (.slice _ (List.replicate n (0:Int)).length _) (List.replicate n (0:Int)).length _;rw [l];exact oG h2 hn,fun k hk=>?_⟩,fun _=>⟨by show World.ownsRow _ _ _ _ (.slice _ (List.replicate n (0:Int)).length _) (List.replicate n (0:Int)).length _;rw [l];exact oG h3 hn,fun k hk=>?_⟩,hh.r,fun hx=>⟨(hh.q hx).1,re (h.q hx).2 (dD (h.q hx).1)⟩,fun i hi hx=>⟨(hh.k i hi hx).1,re (h.k i hi hx).2 (dD (h.k i hi hx).1)⟩⟩
 ·cases hk;have:=h1.1;show (if x.x<w0.heap.size then _ else _)=2;rw [if_neg (by omega),if_pos rfl]
 ·cases hk;have:=h2.1;show (if x.m<w0.heap.size then _ else _)=3;rw [if_neg (by omega),if_neg (Ne.symm a1),if_pos rfl]
 ·cases hk;have:=h3.1;show (if x.s<w0.heap.size then _ else _)=4;rw [if_neg (by omega),if_neg (Ne.symm a2),if_neg (Ne.symm a3)]
theorem bt.three {wa w0 w:World} {Z:Nat→Prop} {T g n oc:Nat} {tag:Nat→Nat} {s:Rf} {out:List Msg} {O:Option Addr} {L:List Msg} {a:Ra} {x:G3} (h:bt wa Z w0 T g ⟨s,out⟩) (hs:fF w0 Z T g tag ⟨s,out⟩ a O oc L) (hC:Chg (fun k=>k=g) w0 w) (hn:n≤1000) (h1:MK w0 w n x.x) (h2:MK w0 w n x.m) (h3:MK w0 w n x.s) (a1:x.x≠x.m) (a2:x.x≠x.s) (a3:x.m≠x.s)
 (hb:Blk w g T (rfV { s with next:=List.replicate n 0,mtch:=List.replicate n 0,sent:=List.replicate n 0 } { a with X:=some ⟨x.x,0,none⟩,Xc:=n,M:=some ⟨x.m,0,none⟩,Mc:=n,S:=some ⟨x.s,0,none⟩,Sc:=n }++[Value.slice O L.length oc]).toArray) :
 bt wa Z w T g ⟨{ s with next:=List.replicate n 0,mtch:=List.replicate n 0,sent:=List.replicate n 0 },out⟩∧∃ tag',fF w Z T g tag' ⟨{ s with next:=List.replicate n 0,mtch:=List.replicate n 0,sent:=List.replicate n 0 },out⟩ { a with X:=some ⟨x.x,0,none⟩,Xc:=n,M:=some ⟨x.m,0,none⟩,Mc:=n,S:=some ⟨x.s,0,none⟩,Sc:=n } O oc L:=by
 have hm:=hs.m.chgG hC hs.gc;have hz:=h.zw
 have re:∀ {c:Nat} {A:Option Addr},Col tag c A→(∀ k,A.map (·.block)=some k→k<w0.heap.size)→Col (fun k=>if k<w0.heap.size then tag k else if k=x.x then 2 else if k=x.m then 3 else 4) c A:=fun hc hl k hk=>by
  show (if k<w0.heap.size then tag k else _)=_;rw [if_pos (hl k hk)];exact hc k hk
 have h9:fF w Z T g (fun k=>if k<w0.heap.size then tag k else if k=x.x then 2 else if k=x.m then 3 else 4) ⟨{ s with next:=List.replicate n 0,mtch:=List.replicate n 0,sent:=List.replicate n 0 },out⟩ { a with X:=some ⟨x.x,0,none⟩,Xc:=n,M:=some ⟨x.m,0,none⟩,Mc:=n,S:=some ⟨x.s,0,none⟩,Sc:=n } O oc L:=
  ⟨hb,hs.f.three hC hs.gc hn h1 h2 h3 a1 a2 a3,⟨hm.o,hm.l,fun j hj=>⟨(hm.e j hj).1,re (hm.e j hj).2 (dD (hs.m.e j hj).1)⟩,re hm.c (dD hs.m.o)⟩,(if_pos hs.b.lt).trans hs.gc,fun k hk=>(if_pos (hz k hk)).trans (hs.z k hk)⟩
 refine ⟨⟨⟨_,_,_,_,_,h9⟩,h.zl,h.fr.next (hC.wide fun k hk=>.inl fun hz1=>?_)⟩,_,h9⟩;have:=hs.z k hz1;rw [show k=g from hk,hs.gc] at this;cases this
theorem bj.novotes {w:World} {tag:Nat→Nat} {s:Rf} {a:Ra} (h:bj w tag s a):bj w tag { s with votes:=[] } { a with V:=none,Vc:=0 }:=
 ⟨fun _=>h.e (by decide),fun _=>⟨ea,Col.none⟩,fun _=>h.x (by decide),fun _=>h.m (by decide),fun _=>h.n (by decide),fun _=>h.r (by decide),fun _=>h.q (by decide),fun i hi _=>h.k i hi (by omega)⟩
theorem bj.noreads {w:World} {tag:Nat→Nat} {s:Rf} {a:Ra} (h:bj w tag s a):bj w tag { s with reads:=[] } { a with Q:=none,Qc:=0,L:=[] }:=
 ⟨fun _=>h.e (by decide),fun _=>h.v (by decide),fun _=>h.x (by decide),fun _=>h.m (by decide),fun _=>h.n (by decide),fun _=>rfl,fun _=>⟨ea,Col.none⟩,fun i hi _=>absurd hi (Nat.not_lt_zero _)⟩
def gn (n i:Nat) (v:Int):List Int:=List.replicate i v++List.replicate (n-i) 0
theorem pB {n i:Nat} {v:Int} (h:i≤n):(gn n i v).length=n:=by unfold gn;rw [List.length_append,List.length_replicate,List.length_replicate];omega
theorem ts {n i:Nat} {v:Int} (h:i<n):(gn n i v).set i v=gn n (i+1) v:=by
 unfold gn;rw [List.set_append_right _ _ (by rw [List.length_replicate];exact Nat.le_refl _),List.length_replicate,Nat.sub_self,show n-i=(n-(i+1))+1 by omega,List.replicate_succ,List.set_cons_zero,List.replicate_succ',List.append_assoc];rfl
theorem tu {n:Nat} {v:Int}:gn n 0 v=List.replicate n 0:=by unfold gn;rw [Nat.sub_zero];rfl
theorem vT {n:Nat} {v:Int}:gn n n v=List.replicate n v:=by unfold gn;rw [Nat.sub_self];simp
theorem u1 (w0:World) (Z:Nat→Prop) (T g:Nat) (p:Sp) (w:World) (h:bt w0 Z w T g p) (hF:RfF p.s) (hl:p.out.length≤700) :
 Rt prog 161 [.pointer (some ⟨g,0,none⟩)] w (fun v w'=>v=.tuple #[]∧bt w0 Z w' T g (pP p)):=by
 obtain ⟨s,out⟩:=p;obtain ⟨tag,a,O,oc,L,hs⟩:=h.ex;obtain ⟨E,Ec,V,Vc,X,Xc,M,Mc,Sn,Sc,Q,Qc,LL⟩:=a;have hb:Blk w g T (rfV s (⟨E,Ec,V,Vc,X,Xc,M,Mc,Sn,Sc,Q,Qc,LL⟩:Ra)++[Value.slice O L.length oc]).toArray:=hs.b
 have hll:L.length=out.length:=by
  have h9:=congrArg List.length hs.m.l;rw [List.length_map] at h9;exact h9
 have hF:RfF s:=hF;have hl:out.length≤700:=hl;have hB0:aj w w:=aj.rfl_;have hbl:=hF.last;have hlb:cX s.b s.es=aQ s:=rfl;have he:ct w (.slice E s.es.length Ec) s.es:=hs.f.rd.e;have hnn:=hF.n;have hid:=hF.i;have hzw:=h.zw;obtain ⟨n,hn0⟩:∃ n,n=s.nodes.toNat:=⟨_,rfl⟩;have hn:s.nodes=((n:Nat):Int):=by omega
 refine enter (n:=124) Tryz.func161 rfl rfl rfl (an (an (ah (mvp rfl (aa (aw rfl) (aa (ae aK rfl) (aG kb (r6 T g s _ _ _ (hb.from_ aj.rfl_) (he.from_ aj.rfl_) hF.lg) ?_)))))));rintro v8 w1 ⟨rfl,E8⟩;refine ak (ag (aV rfl (fun Q2=>?_) (fun Q2=>?_)))
 ·have h8t:eR s=true:=Q2;refine an ?_;apply kx [(0,9,fun _ v _=>v=_),(1,10,fun _ v _=>v=_),(2,11,fun _ v _=>v=_),(3,12,fun _ v _=>v=_),(4,13,fun _ v _=>v=_),(5,14,fun _ v _=>v=_),(6,15,fun _ v _=>v=_),(7,16,fun _ v _=>v=_),(8,17,fun _ v _=>v=_),(9,18,fun _ v _=>v=_)] [9] (fun S w'=>(S 9=false→aj w1 w')∧(S 9=true→bt w0 Z w' T g ⟨j5 s s.term,out⟩)) (by kernel_rfl) (by kernel_rfl) rfl rfl ⟨fun _ _ _ _ _ _ _ h=>h,fun _ _ _ _ _ _ _ h=>h,fun _ _ _ _ _ _ _ h=>h,fun _ _ _ _ _ _ _ h=>h,fun _ _ _ _ _ _ _ h=>h,fun _ _ _ _ _ _ _ h=>h,fun _ _ _ _ _ _ _ h=>h,fun _ _ _ _ _ _ _ h=>h,fun _ _ _ _ _ _ _ h=>h,fun _ _ _ _ _ _ _ h=>h,trivial⟩ (fun S i w1 w2 hq hF h=>⟨fun h0=>(h.1 (lP h0)).next hF,fun h1=>(fun h=>h.from_ hF) (h.2 (mn (show 9≠i by rintro rfl;exact absurd hq (by decide)) h1))⟩) ⟨fun _=>aj.rfl_.d1,fun h=>by cases h⟩
  case hstep=>
   constructor
   ·rintro S L' w3 hU hmo hme hI hM hC hS ⟨-⟩;have hS0:S 9=false:=(ai hC (j:=9) rfl (by kernel_rfl) (ai hC (j:=2) rfl (by kernel_rfl) (ai hC (j:=1) rfl (by kernel_rfl) hS)));have hM3:=hM.1 hS0;have e0:=hI.1 0 (dK rfl);exact aH [(0,_)] hU hmo hme hI hM (.head _) rfl rfl (by kernel_rfl) ⟨e0,trivial⟩ (aP (v:=.pointer _) rfl) aj.rfl_ (rfl)
   constructor
   ·rintro S L' w4 hU hmo hme hI hM hC hS ⟨d0,-⟩;have hS0:S 9=false:=(ai hC (j:=9) rfl (by kernel_rfl) (ai hC (j:=2) rfl (by kernel_rfl) hS));have hM4:=hM.1 hS0;obtain ⟨v4_9,e9,h9⟩:=hI.get (i:=0) (.head _) d0;obtain rfl:=h9;exact aH [(9,_)] hU hmo hme hI hM (.tail _ (.head _)) rfl rfl (by kernel_rfl) ⟨e9,trivial⟩ (aw rfl) aj.rfl_ (rfl)
   constructor
   ·rintro S L' w5 hU hmo hme hI hM hC hS ⟨d1,-⟩;have hS0:S 9=false:=(ai hC (j:=9) rfl (by kernel_rfl) hS);have hM5:=hM.1 hS0;obtain ⟨v5_10,e10,h10⟩:=hI.get (i:=1) (.tail _ (.head _)) d1;obtain rfl:=h10;exact aH [(10,_)] hU hmo hme hI hM (.tail _ (.tail _ (.head _))) rfl rfl (by kernel_rfl) ⟨e10,trivial⟩ (ae aK rfl) aj.rfl_ (rfl)
   constructor
   ·rintro S L' w6 hU hmo hme hI hM hC hS ⟨-⟩;have hS0:S 9=false:=(ai hC (j:=9) rfl (by kernel_rfl) (ai hC (j:=8) rfl (by kernel_rfl) (ai hC (j:=7) rfl (by kernel_rfl) (ai hC (j:=6) rfl (by kernel_rfl) (ai hC (j:=5) rfl (by kernel_rfl) (ai hC (j:=4) rfl (by kernel_rfl) hS))))));have hM6:=hM.1 hS0;have e0:=hI.1 0 (dK rfl);exact aH [(0,_)] hU hmo hme hI hM (.tail _ (.tail _ (.tail _ (.head _)))) rfl rfl (by kernel_rfl) ⟨e0,trivial⟩ (aP (v:=.pointer _) rfl) aj.rfl_ (rfl)
   constructor
   ·rintro S L' w7 hU hmo hme hI hM hC hS ⟨d3,-⟩;have hS0:S 9=false:=(ai hC (j:=9) rfl (by kernel_rfl) (ai hC (j:=8) rfl (by kernel_rfl) (ai hC (j:=7) rfl (by kernel_rfl) (ai hC (j:=6) rfl (by kernel_rfl) (ai hC (j:=5) rfl (by kernel_rfl) hS)))));have hM7:=hM.1 hS0;obtain ⟨v7_12,e12,h12⟩:=hI.get (i:=3) (.tail _ (.tail _ (.tail _ (.head _)))) d3;obtain rfl:=h12;exact aH [(12,_)] hU hmo hme hI hM (.tail _ (.tail _ (.tail _ (.tail _ (.head _))))) rfl rfl (by kernel_rfl) ⟨e12,trivial⟩ (aw rfl) aj.rfl_ (rfl)
   constructor
   ·rintro S L' w8 hU hmo hme hI hM hC hS ⟨d4,-⟩;have hS0:S 9=false:=(ai hC (j:=9) rfl (by kernel_rfl) (ai hC (j:=8) rfl (by kernel_rfl) (ai hC (j:=7) rfl (by kernel_rfl) (ai hC (j:=6) rfl (by kernel_rfl) hS))));have hM8:=hM.1 hS0;obtain ⟨v8_13,e13,h13⟩:=hI.get (i:=4) (.tail _ (.tail _ (.tail _ (.tail _ (.head _))))) d4;obtain rfl:=h13;exact aH [(13,_)] hU hmo hme hI hM (.tail _ (.tail _ (.tail _ (.tail _ (.tail _ (.head _)))))) rfl rfl (by kernel_rfl) ⟨e13,trivial⟩ (ae aK rfl) aj.rfl_ (rfl)
   constructor
   ·rintro S L' w9 hU hmo hme hI hM hC hS ⟨d5,-⟩;have hS0:S 9=false:=(ai hC (j:=9) rfl (by kernel_rfl) (ai hC (j:=8) rfl (by kernel_rfl) (ai hC (j:=7) rfl (by kernel_rfl) hS)));have hM9:=hM.1 hS0;obtain ⟨v9_14,e14,h14⟩:=hI.get (i:=5) (.tail _ (.tail _ (.tail _ (.tail _ (.tail _ (.head _)))))) d5;obtain rfl:=h14;exact aH [(14,_)] hU hmo hme hI hM (.tail _ (.tail _ (.tail _ (.tail _ (.tail _ (.tail _ (.head _))))))) rfl rfl (by kernel_rfl) ⟨e14,trivial⟩ (ae aF rfl) aj.rfl_ (rfl)
   constructor
   ·rintro S L' w10 hU hmo hme hI hM hC hS ⟨d6,-⟩;have hS0:S 9=false:=(ai hC (j:=9) rfl (by kernel_rfl) (ai hC (j:=8) rfl (by kernel_rfl) hS));have hM10:=hM.1 hS0;obtain ⟨v10_15,e15,h15⟩:=hI.get (i:=6) (.tail _ (.tail _ (.tail _ (.tail _ (.tail _ (.tail _ (.head _))))))) d6;obtain rfl:=h15;exact aH [(15,_)] hU hmo hme hI hM (.tail _ (.tail _ (.tail _ (.tail _ (.tail _ (.tail _ (.tail _ (.head _)))))))) rfl rfl (by kernel_rfl) ⟨e15,trivial⟩ (ae cB rfl) aj.rfl_ (rfl)
   constructor
   ·rintro S L' w11 hU hmo hme hI hM hC hS ⟨d7,-⟩;have hS0:S 9=false:=(ai hC (j:=9) rfl (by kernel_rfl) hS);have hM11:=hM.1 hS0;obtain ⟨v11_16,e16,h16⟩:=hI.get (i:=7) (.tail _ (.tail _ (.tail _ (.tail _ (.tail _ (.tail _ (.tail _ (.head _)))))))) d7;obtain rfl:=h16;exact aH [(16,_)] hU hmo hme hI hM (.tail _ (.tail _ (.tail _ (.tail _ (.tail _ (.tail _ (.tail _ (.tail _ (.head _))))))))) rfl rfl (by kernel_rfl) ⟨e16,trivial⟩ (aq ar rfl (by exact (show _=some (Value.int .i64 s.term) from cC (hb.from_ ((aj.rfl_.next E8).next hM11)) 3 rfl))) aj.rfl_ (rfl)
   constructor
   ·rintro S L' w12 hU hmo hme hI hM hC hS ⟨d2,d8,-⟩;have hS0:S 9=false:=hS;have hM12:=hM.1 hS0;obtain ⟨v12_11,e11,h11⟩:=hI.get (i:=2) (.tail _ (.tail _ (.head _))) d2;obtain rfl:=h11;obtain ⟨v12_17,e17,h17⟩:=hI.get (i:=8) (.tail _ (.tail _ (.tail _ (.tail _ (.tail _ (.tail _ (.tail _ (.tail _ (.head _))))))))) d8;obtain rfl:=h17;refine gG (al:=[.tmp 11,.tmp 17]) [(11,_),(17,_)] hU hI (.tail _ (.tail _ (.tail _ (.tail _ (.tail _ (.tail _ (.tail _ (.tail _ (.tail _ (.head _)))))))))) (by kernel_rfl) ⟨e11,e17,trivial⟩ rF ((sN w0 Z T g ⟨s,out⟩ _ (h.from_ ((aj.rfl_.next E8).next hM12)) s.term).mono ?_);rintro v9 w2 ⟨rfl,hS2⟩;exact ⟨⟨fun h0=>(by rw [kj] at h0;cases h0),fun _=>hS2⟩,rfl,⟨fun _ _ _ h=>h,fun _ _ _ h=>h,fun _ _ _ h=>h,fun _ _ _ h=>h,fun _ _ _ h=>h,fun _ _ _ h=>h,fun _ _ _ h=>h,fun _ _ _ h=>h,fun _ _ _ h=>h,fun _ _ _ h=>h,trivial⟩⟩
   exact trivial
  case hend=>
   intro w13 hM;obtain hS9:=hM.2 rfl;rintro v13_9 rfl v13_10 rfl v13_11 rfl v13_12 rfl v13_13 rfl v13_14 rfl v13_15 rfl v13_16 rfl v13_17 rfl v13_18 rfl;refine fZ (ag (aC (ay (fj rfl ?_))));unfold pP
   first
    |(rw [if_pos h8t];exact ⟨rfl,hS9.from_ aj.rfl_⟩)
    |(rw [if_neg (by show ¬ eR s=true;rw [h8];decide)]
      refine ⟨rfl,?_⟩;show bt w0 Z _ T g ⟨bX (Sp.all ⟨ch (dW s) ⟨#[]⟩,out⟩).s,(Sp.all ⟨ch (dW s) ⟨#[]⟩,out⟩).out⟩;rw [show (Sp.all ⟨ch (dW s) ⟨#[]⟩,out⟩).s=ch (dW s) ⟨#[]⟩ by rw [m_]];exact h12.from_ (aj.rfl_ (a:=w1)))
 have h8:eR s=false:=by simpa using Q2
 refine aR (ag (an (ah (mvp rfl (aa (aw rfl) (aa (ae aK rfl) (aG fz (jk T g s _ _ _ (hb.from_ (aj.rfl_.next E8)) (he.from_ (aj.rfl_.next E8)) hF.lg) ?_)))))));rintro v23 w14 ⟨rfl,E23⟩;refine mvt rfl (aa (aS rfl rfl) (aa (aS rfl rfl) (asi rfl (asi rfl (ak (ag (an (ah (mvp rfl (mvp rfl (mvp rfl ?_)))))))))));refine mvp rfl (mvp rfl (aa (aw rfl) (aa (ae aK rfl) (aa (ae aF rfl) (aa (ae cW rfl) (aa (aq ar rfl (by exact (show _=some (Value.int .i64 s.id) from cC (hb.from_ ((aj.rfl_.next E8).next E23)) 0 rfl))) ?_))))));refine aa (aw rfl) (aa (ae aK rfl) (aa (ae aF rfl) (aa (ae cF rfl) ?_)));have hB0:aj w w14:=((aj.rfl_.next E8).next E23);refine cO (s':=({ s with role:=2 }:Rf)) (a':=(⟨E,Ec,V,Vc,X,Xc,M,Mc,Sn,Sc,Q,Qc,LL⟩:Ra)) (v:=.int _ _) b0 rfl rfl rfl ((hb.from_ ((aj.rfl_.next E8).next E23))) (by exact ⟨by decide,rfl⟩) ?_;intro w15 O3_0 P3_0;have hC1:Chg (fun k=>k=g) w w15:=(aj.toChg hB0).only O3_0 rfl;refine aa (aw rfl) (aa (ae aK rfl) (aa (ae aF rfl) (aa (ae er rfl) (cO (s':=({ s with role:=2,leader:=s.id }:Rf)) (a':=(⟨E,Ec,V,Vc,X,Xc,M,Mc,Sn,Sc,Q,Qc,LL⟩:Ra)) (v:=.int _ _) b0 rfl rfl rfl (P3_0) (by exact ⟨by decide,rfl⟩) ?_))));intro w16 O3_1 P3_1;replace hC1:=hC1.only O3_1 rfl;refine aa (aw rfl) (aa (ae aK rfl) (aa (ae aF rfl) (aa (ae cP rfl) (cO (s':=({ s with role:=2,leader:=s.id,votes:=[] }:Rf)) (a':=(⟨E,Ec,none,0,X,Xc,M,Mc,Sn,Sc,Q,Qc,LL⟩:Ra)) (v:=.slice _ _ _) c6 rfl rfl rfl (P3_1) (by exact ⟨by decide,rfl⟩) ?_))));intro w17 O3_2 P3_2;replace hC1:=hC1.only O3_2 rfl;refine aa (aw rfl) (aa (ae aK rfl) (aa (ae aF rfl) (aa (ae dk rfl) (cO (s':=({ s with role:=2,leader:=s.id,votes:=[],elapsed:=0 }:Rf)) (a':=(⟨E,Ec,none,0,X,Xc,M,Mc,Sn,Sc,Q,Qc,LL⟩:Ra)) (v:=.int _ _) b0 rfl rfl rfl (P3_2) (by exact ⟨by decide,rfl⟩) ?_))));intro w18 O3_3 P3_3;replace hC1:=hC1.only O3_3 rfl;obtain ⟨hs3,h3⟩:=h.set (s':=({ s with role:=2,leader:=s.id,votes:=[],elapsed:=0 }:Rf)) (a':=(⟨E,Ec,none,0,X,Xc,M,Mc,Sn,Sc,Q,Qc,LL⟩:Ra)) hs hC1 (bj.same hs.f.novotes rfl rfl rfl rfl rfl rfl) P3_3;refine ak (ag (an (uo (X:=G3) [(0,52,fun x=>.pointer (some ⟨g,0,none⟩)),(1,53,fun x=>.pointer (some ⟨g,0,none⟩)),(2,54,fun x=>.pointer (some ⟨g,0,none⟩)),(3,55,fun x=>.pointer (some ⟨g,0,none⟩)),(4,56,fun x=>.pointer (some ⟨g,0,none⟩)),(5,57,fun x=>.pointer (some ⟨g,0+0,none⟩)),(6,58,fun x=>.pointer (some ⟨g,0+0+0,none⟩)),(7,59,fun x=>.pointer (some ⟨g,0+0+0+1,none⟩)),(8,60,fun x=>.int .i64 (n:Nat)),(9,61,fun x=>.slice (some ⟨x.x,0,none⟩) n n),(10,62,fun x=>.pointer (some ⟨g,0,none⟩)),(11,63,fun x=>.pointer (some ⟨g,0,none⟩)),(12,64,fun x=>.pointer (some ⟨g,0+0,none⟩)),(13,65,fun x=>.pointer (some ⟨g,0+0+0,none⟩)),(14,66,fun x=>.pointer (some ⟨g,0+0+0+1,none⟩)),(15,67,fun x=>.int .i64 (n:Nat)),(16,68,fun x=>.slice (some ⟨x.m,0,none⟩) n n),(17,69,fun x=>.pointer (some ⟨g,0,none⟩)),(18,70,fun x=>.pointer (some ⟨g,0,none⟩)),(19,71,fun x=>.pointer (some ⟨g,0+0,none⟩)),(20,72,fun x=>.pointer (some ⟨g,0+0+0,none⟩)),(21,73,fun x=>.pointer (some ⟨g,0+0+0+1,none⟩)),(22,74,fun x=>.int .i64 (n:Nat)),(23,75,fun x=>.slice (some ⟨x.s,0,none⟩) n n),(24,76,fun x=>.pointer (some ⟨g,0,none⟩)),(25,77,fun x=>.pointer (some ⟨g,0+0,none⟩)),(26,78,fun x=>.pointer (some ⟨g,0+0+0,none⟩)),(27,79,fun x=>.pointer (some ⟨g,0+0+0+15,none⟩)),(29,80,fun x=>.pointer (some ⟨g,0,none⟩)),(30,81,fun x=>.pointer (some ⟨g,0+0,none⟩)),(31,82,fun x=>.pointer (some ⟨g,0+0+0,none⟩)),(32,83,fun x=>.pointer (some ⟨g,0+0+0+16,none⟩)),(34,84,fun x=>.pointer (some ⟨g,0,none⟩)),(35,85,fun x=>.pointer (some ⟨g,0+0,none⟩)),(36,86,fun x=>.pointer (some ⟨g,0+0+0,none⟩)),(37,87,fun x=>.pointer (some ⟨g,0+0+0+17,none⟩))] [9,16,23,28,33,38] (fun x S w'=>LI w18 T g n ({ s with role:=2,leader:=s.id,votes:=[],elapsed:=0 }:Rf) (⟨E,Ec,none,0,X,Xc,M,Mc,Sn,Sc,Q,Qc,LL⟩:Ra) (Value.slice O L.length oc) x S w') (by kernel_rfl) (by kernel_rfl) rfl rfl (fun x S i w1 w2 hq hF h=>LI.rd h hq hF) (⟨⟨0,0,0⟩,⟨aj.rfl_.d1.toChg,(hs3.b.from_ ((aj.rfl_).d1)),fun h=>(by cases h),fun h=>(by cases h),fun h=>(by cases h),fun h=>(by cases h),fun h=>(by cases h),fun h=>(by cases h),(hs3.b.from_ aj.rfl_).lt⟩⟩) ?_ ?_)))
 ·constructor
  ·rintro S L' w19 x hU hme hI hM hC hS ⟨-⟩;have hM':=hM;obtain ⟨hc19,hb19,u919,u1619,u2319,q119,q219,q319,lt19⟩:=hM';have e0:=InvX.out hI (t:=0) rfl;exact cj [(0,_)] x hU hI (.head _) rfl (by kernel_rfl) ⟨e0,trivial⟩ (aP (v:=.pointer _) rfl) cy (hme _ _ _ _ _ rfl aj.rfl_ hM)
  constructor
  ·rintro S L' w20 x hU hme hI hM hC hS ⟨-,-⟩;have hM':=hM;obtain ⟨hc20,hb20,u920,u1620,u2320,q120,q220,q320,lt20⟩:=hM';have e0:=InvX.out hI (t:=0) rfl;exact cj [(0,_)] x hU hI (.tail _ (.head _)) rfl (by kernel_rfl) ⟨e0,trivial⟩ (aP (v:=.pointer _) rfl) cy (hme _ _ _ _ _ rfl aj.rfl_ hM)
  constructor
  ·rintro S L' w21 x hU hme hI hM hC hS ⟨-,-⟩;have hM':=hM;obtain ⟨hc21,hb21,u921,u1621,u2321,q121,q221,q321,lt21⟩:=hM';have e0:=InvX.out hI (t:=0) rfl;exact cj [(0,_)] x hU hI (.tail _ (.tail _ (.head _))) rfl (by kernel_rfl) ⟨e0,trivial⟩ (aP (v:=.pointer _) rfl) cy (hme _ _ _ _ _ rfl aj.rfl_ hM)
  constructor
  ·rintro S L' w22 x hU hme hI hM hC hS ⟨-⟩;have hM':=hM;obtain ⟨hc22,hb22,u922,u1622,u2322,q122,q222,q322,lt22⟩:=hM';have e0:=InvX.out hI (t:=0) rfl;exact cj [(0,_)] x hU hI (.tail _ (.tail _ (.tail _ (.head _)))) rfl (by kernel_rfl) ⟨e0,trivial⟩ (aP (v:=.pointer _) rfl) cy (hme _ _ _ _ _ rfl aj.rfl_ hM)
  constructor
  ·rintro S L' w23 x hU hme hI hM hC hS ⟨d3,-⟩;have hM':=hM;obtain ⟨hc23,hb23,u923,u1623,u2323,q123,q223,q323,lt23⟩:=hM';have e55:=InvX.get hI (i:=3) (.tail _ (.tail _ (.tail _ (.head _)))) d3;exact cj [(55,_)] x hU hI (.tail _ (.tail _ (.tail _ (.tail _ (.head _))))) rfl (by kernel_rfl) ⟨e55,trivial⟩ (aw rfl) cy (hme _ _ _ _ _ rfl aj.rfl_ hM)
  constructor
  ·rintro S L' w24 x hU hme hI hM hC hS ⟨d4,-⟩;have hM':=hM;obtain ⟨hc24,hb24,u924,u1624,u2324,q124,q224,q324,lt24⟩:=hM';have e56:=InvX.get hI (i:=4) (.tail _ (.tail _ (.tail _ (.tail _ (.head _))))) d4;exact cj [(56,_)] x hU hI (.tail _ (.tail _ (.tail _ (.tail _ (.tail _ (.head _)))))) rfl (by kernel_rfl) ⟨e56,trivial⟩ (ae aK rfl) cy (hme _ _ _ _ _ rfl aj.rfl_ hM)
  constructor
  ·rintro S L' w25 x hU hme hI hM hC hS ⟨d5,-⟩;have hM':=hM;obtain ⟨hc25,hb25,u925,u1625,u2325,q125,q225,q325,lt25⟩:=hM';have e57:=InvX.get hI (i:=5) (.tail _ (.tail _ (.tail _ (.tail _ (.tail _ (.head _)))))) d5;exact cj [(57,_)] x hU hI (.tail _ (.tail _ (.tail _ (.tail _ (.tail _ (.tail _ (.head _))))))) rfl (by kernel_rfl) ⟨e57,trivial⟩ (ae aF rfl) cy (hme _ _ _ _ _ rfl aj.rfl_ hM)
  constructor
  ·rintro S L' w26 x hU hme hI hM hC hS ⟨d6,-⟩;have hM':=hM;obtain ⟨hc26,hb26,u926,u1626,u2326,q126,q226,q326,lt26⟩:=hM';have e58:=InvX.get hI (i:=6) (.tail _ (.tail _ (.tail _ (.tail _ (.tail _ (.tail _ (.head _))))))) d6;exact cj [(58,_)] x hU hI (.tail _ (.tail _ (.tail _ (.tail _ (.tail _ (.tail _ (.tail _ (.head _)))))))) rfl (by kernel_rfl) ⟨e58,trivial⟩ (ae bw rfl) cy (hme _ _ _ _ _ rfl aj.rfl_ hM)
  constructor
  ·rintro S L' w27 x hU hme hI hM hC hS ⟨d7,-⟩;have hM':=hM;obtain ⟨hc27,hb27,u927,u1627,u2327,q127,q227,q327,lt27⟩:=hM';have e59:=InvX.get hI (i:=7) (.tail _ (.tail _ (.tail _ (.tail _ (.tail _ (.tail _ (.tail _ (.head _)))))))) d7;exact cj [(59,_)] x hU hI (.tail _ (.tail _ (.tail _ (.tail _ (.tail _ (.tail _ (.tail _ (.tail _ (.head _))))))))) rfl (by kernel_rfl) ⟨e59,trivial⟩ (gk (aq ar rfl (show _=some (Value.int .i64 s.nodes) from hM.b.rd 1 rfl)) (br hn)) cy (hme _ _ _ _ _ rfl aj.rfl_ hM)
  constructor
  ·rintro S L' w28 x hU hme hI hM hC hS ⟨d8,d8,-⟩;have hM':=hM;obtain ⟨hc28,hb28,u928,u1628,u2328,q128,q228,q328,lt28⟩:=hM';have e60:=InvX.get hI (i:=8) (.tail _ (.tail _ (.tail _ (.tail _ (.tail _ (.tail _ (.tail _ (.tail _ (.head _))))))))) d8;have h28:S 28=false:=ai hC (j:=28) rfl (by kernel_rfl) hS;exact cj [(60,_)] ⟨w28.heap.size,x.m,x.s⟩ hU hI (.tail _ (.tail _ (.tail _ (.tail _ (.tail _ (.tail _ (.tail _ (.tail _ (.tail _ (.head _)))))))))) rfl (by kernel_rfl) ⟨e60,trivial⟩ (qF ka rfl rfl rfl (by omega) (by omega)) ⟨fun _=>rfl,fun _=>rfl,fun _=>rfl,fun _=>rfl,fun _=>rfl,fun _=>rfl,fun _=>rfl,fun _=>rfl,fun _=>rfl,fun h=>(by rw [hS] at h;cases h),fun _=>rfl,fun _=>rfl,fun _=>rfl,fun _=>rfl,fun _=>rfl,fun _=>rfl,fun _=>rfl,fun _=>rfl,fun _=>rfl,fun _=>rfl,fun _=>rfl,fun _=>rfl,fun _=>rfl,fun _=>rfl,fun _=>rfl,fun _=>rfl,fun _=>rfl,fun _=>rfl,fun _=>rfl,fun _=>rfl,fun _=>rfl,fun _=>rfl,fun _=>rfl,fun _=>rfl,fun _=>rfl,fun _=>rfl,trivial⟩ (LI.mk9 hM h28 ⟨hM.c.size,Blk.new _ _ _⟩ (aj.rfl_.new _))
  constructor
  ·rintro S L' w29 x hU hme hI hM hC hS ⟨-⟩;have hM':=hM;obtain ⟨hc29,hb29,u929,u1629,u2329,q129,q229,q329,lt29⟩:=hM';have e0:=InvX.out hI (t:=0) rfl;exact cj [(0,_)] x hU hI (.tail _ (.tail _ (.tail _ (.tail _ (.tail _ (.tail _ (.tail _ (.tail _ (.tail _ (.tail _ (.head _))))))))))) rfl (by kernel_rfl) ⟨e0,trivial⟩ (aP (v:=.pointer _) rfl) cy (hme _ _ _ _ _ rfl aj.rfl_ hM)
  constructor
  ·rintro S L' w30 x hU hme hI hM hC hS ⟨d10,-⟩;have hM':=hM;obtain ⟨hc30,hb30,u930,u1630,u2330,q130,q230,q330,lt30⟩:=hM';have e62:=InvX.get hI (i:=10) (.tail _ (.tail _ (.tail _ (.tail _ (.tail _ (.tail _ (.tail _ (.tail _ (.tail _ (.tail _ (.head _))))))))))) d10;exact cj [(62,_)] x hU hI (.tail _ (.tail _ (.tail _ (.tail _ (.tail _ (.tail _ (.tail _ (.tail _ (.tail _ (.tail _ (.tail _ (.head _)))))))))))) rfl (by kernel_rfl) ⟨e62,trivial⟩ (aw rfl) cy (hme _ _ _ _ _ rfl aj.rfl_ hM)
  constructor
  ·rintro S L' w31 x hU hme hI hM hC hS ⟨d11,-⟩;have hM':=hM;obtain ⟨hc31,hb31,u931,u1631,u2331,q131,q231,q331,lt31⟩:=hM';have e63:=InvX.get hI (i:=11) (.tail _ (.tail _ (.tail _ (.tail _ (.tail _ (.tail _ (.tail _ (.tail _ (.tail _ (.tail _ (.tail _ (.head _)))))))))))) d11;exact cj [(63,_)] x hU hI (.tail _ (.tail _ (.tail _ (.tail _ (.tail _ (.tail _ (.tail _ (.tail _ (.tail _ (.tail _ (.tail _ (.tail _ (.head _))))))))))))) rfl (by kernel_rfl) ⟨e63,trivial⟩ (ae aK rfl) cy (hme _ _ _ _ _ rfl aj.rfl_ hM)
  constructor
  ·rintro S L' w32 x hU hme hI hM hC hS ⟨d12,-⟩;have hM':=hM;obtain ⟨hc32,hb32,u932,u1632,u2332,q132,q232,q332,lt32⟩:=hM';have e64:=InvX.get hI (i:=12) (.tail _ (.tail _ (.tail _ (.tail _ (.tail _ (.tail _ (.tail _ (.tail _ (.tail _ (.tail _ (.tail _ (.tail _ (.head _))))))))))))) d12;exact cj [(64,_)] x hU hI (.tail _ (.tail _ (.tail _ (.tail _ (.tail _ (.tail _ (.tail _ (.tail _ (.tail _ (.tail _ (.tail _ (.tail _ (.tail _ (.head _)))))))))))))) rfl (by kernel_rfl) ⟨e64,trivial⟩ (ae aF rfl) cy (hme _ _ _ _ _ rfl aj.rfl_ hM)
  constructor
  ·rintro S L' w33 x hU hme hI hM hC hS ⟨d13,-⟩;have hM':=hM;obtain ⟨hc33,hb33,u933,u1633,u2333,q133,q233,q333,lt33⟩:=hM';have e65:=InvX.get hI (i:=13) (.tail _ (.tail _ (.tail _ (.tail _ (.tail _ (.tail _ (.tail _ (.tail _ (.tail _ (.tail _ (.tail _ (.tail _ (.tail _ (.head _)))))))))))))) d13;exact cj [(65,_)] x hU hI (.tail _ (.tail _ (.tail _ (.tail _ (.tail _ (.tail _ (.tail _ (.tail _ (.tail _ (.tail _ (.tail _ (.tail _ (.tail _ (.tail _ (.head _))))))))))))))) rfl (by kernel_rfl) ⟨e65,trivial⟩ (ae bw rfl) cy (hme _ _ _ _ _ rfl aj.rfl_ hM)
  constructor
  ·rintro S L' w34 x hU hme hI hM hC hS ⟨d14,-⟩;have hM':=hM;obtain ⟨hc34,hb34,u934,u1634,u2334,q134,q234,q334,lt34⟩:=hM';have e66:=InvX.get hI (i:=14) (.tail _ (.tail _ (.tail _ (.tail _ (.tail _ (.tail _ (.tail _ (.tail _ (.tail _ (.tail _ (.tail _ (.tail _ (.tail _ (.tail _ (.head _))))))))))))))) d14;exact cj [(66,_)] x hU hI (.tail _ (.tail _ (.tail _ (.tail _ (.tail _ (.tail _ (.tail _ (.tail _ (.tail _ (.tail _ (.tail _ (.tail _ (.tail _ (.tail _ (.tail _ (.head _)))))))))))))))) rfl (by kernel_rfl) ⟨e66,trivial⟩ (gk (aq ar rfl (show _=some (Value.int .i64 s.nodes) from hM.b.rd 1 rfl)) (br hn)) cy (hme _ _ _ _ _ rfl aj.rfl_ hM)
  constructor
  ·rintro S L' w35 x hU hme hI hM hC hS ⟨d15,d15,-⟩;have hM':=hM;obtain ⟨hc35,hb35,u935,u1635,u2335,q135,q235,q335,lt35⟩:=hM';have e67:=InvX.get hI (i:=15) (.tail _ (.tail _ (.tail _ (.tail _ (.tail _ (.tail _ (.tail _ (.tail _ (.tail _ (.tail _ (.tail _ (.tail _ (.tail _ (.tail _ (.tail _ (.head _)))))))))))))))) d15;have h28:S 33=false:=ai hC (j:=33) rfl (by kernel_rfl) hS;exact cj [(67,_)] ⟨x.x,w35.heap.size,x.s⟩ hU hI (.tail _ (.tail _ (.tail _ (.tail _ (.tail _ (.tail _ (.tail _ (.tail _ (.tail _ (.tail _ (.tail _ (.tail _ (.tail _ (.tail _ (.tail _ (.tail _ (.head _))))))))))))))))) rfl (by kernel_rfl) ⟨e67,trivial⟩ (qF ka rfl rfl rfl (by omega) (by omega)) ⟨fun _=>rfl,fun _=>rfl,fun _=>rfl,fun _=>rfl,fun _=>rfl,fun _=>rfl,fun _=>rfl,fun _=>rfl,fun _=>rfl,fun _=>rfl,fun _=>rfl,fun _=>rfl,fun _=>rfl,fun _=>rfl,fun _=>rfl,fun _=>rfl,fun h=>(by rw [hS] at h;cases h),fun _=>rfl,fun _=>rfl,fun _=>rfl,fun _=>rfl,fun _=>rfl,fun _=>rfl,fun _=>rfl,fun _=>rfl,fun _=>rfl,fun _=>rfl,fun _=>rfl,fun _=>rfl,fun _=>rfl,fun _=>rfl,fun _=>rfl,fun _=>rfl,fun _=>rfl,fun _=>rfl,fun _=>rfl,trivial⟩ (LI.mk16 hM h28 ⟨hM.c.size,Blk.new _ _ _⟩ (aj.rfl_.new _))
  constructor
  ·rintro S L' w36 x hU hme hI hM hC hS ⟨-⟩;have hM':=hM;obtain ⟨hc36,hb36,u936,u1636,u2336,q136,q236,q336,lt36⟩:=hM';have e0:=InvX.out hI (t:=0) rfl;exact cj [(0,_)] x hU hI (.tail _ (.tail _ (.tail _ (.tail _ (.tail _ (.tail _ (.tail _ (.tail _ (.tail _ (.tail _ (.tail _ (.tail _ (.tail _ (.tail _ (.tail _ (.tail _ (.tail _ (.head _)))))))))))))))))) rfl (by kernel_rfl) ⟨e0,trivial⟩ (aP (v:=.pointer _) rfl) cy (hme _ _ _ _ _ rfl aj.rfl_ hM)
  constructor
  ·rintro S L' w37 x hU hme hI hM hC hS ⟨d17,-⟩;have hM':=hM;obtain ⟨hc37,hb37,u937,u1637,u2337,q137,q237,q337,lt37⟩:=hM';have e69:=InvX.get hI (i:=17) (.tail _ (.tail _ (.tail _ (.tail _ (.tail _ (.tail _ (.tail _ (.tail _ (.tail _ (.tail _ (.tail _ (.tail _ (.tail _ (.tail _ (.tail _ (.tail _ (.tail _ (.head _)))))))))))))))))) d17;exact cj [(69,_)] x hU hI (.tail _ (.tail _ (.tail _ (.tail _ (.tail _ (.tail _ (.tail _ (.tail _ (.tail _ (.tail _ (.tail _ (.tail _ (.tail _ (.tail _ (.tail _ (.tail _ (.tail _ (.tail _ (.head _))))))))))))))))))) rfl (by kernel_rfl) ⟨e69,trivial⟩ (aw rfl) cy (hme _ _ _ _ _ rfl aj.rfl_ hM)
  constructor
  ·rintro S L' w38 x hU hme hI hM hC hS ⟨d18,-⟩;have hM':=hM;obtain ⟨hc38,hb38,u938,u1638,u2338,q138,q238,q338,lt38⟩:=hM';have e70:=InvX.get hI (i:=18) (.tail _ (.tail _ (.tail _ (.tail _ (.tail _ (.tail _ (.tail _ (.tail _ (.tail _ (.tail _ (.tail _ (.tail _ (.tail _ (.tail _ (.tail _ (.tail _ (.tail _ (.tail _ (.head _))))))))))))))))))) d18;exact cj [(70,_)] x hU hI (.tail _ (.tail _ (.tail _ (.tail _ (.tail _ (.tail _ (.tail _ (.tail _ (.tail _ (.tail _ (.tail _ (.tail _ (.tail _ (.tail _ (.tail _ (.tail _ (.tail _ (.tail _ (.tail _ (.head _)))))))))))))))))))) rfl (by kernel_rfl) ⟨e70,trivial⟩ (ae aK rfl) cy (hme _ _ _ _ _ rfl aj.rfl_ hM)
  constructor
  ·rintro S L' w39 x hU hme hI hM hC hS ⟨d19,-⟩;have hM':=hM;obtain ⟨hc39,hb39,u939,u1639,u2339,q139,q239,q339,lt39⟩:=hM';have e71:=InvX.get hI (i:=19) (.tail _ (.tail _ (.tail _ (.tail _ (.tail _ (.tail _ (.tail _ (.tail _ (.tail _ (.tail _ (.tail _ (.tail _ (.tail _ (.tail _ (.tail _ (.tail _ (.tail _ (.tail _ (.tail _ (.head _)))))))))))))))))))) d19;exact cj [(71,_)] x hU hI (.tail _ (.tail _ (.tail _ (.tail _ (.tail _ (.tail _ (.tail _ (.tail _ (.tail _ (.tail _ (.tail _ (.tail _ (.tail _ (.tail _ (.tail _ (.tail _ (.tail _ (.tail _ (.tail _ (.tail _ (.head _))))))))))))))))))))) rfl (by kernel_rfl) ⟨e71,trivial⟩ (ae aF rfl) cy (hme _ _ _ _ _ rfl aj.rfl_ hM)
  constructor
  ·rintro S L' w40 x hU hme hI hM hC hS ⟨d20,-⟩;have hM':=hM;obtain ⟨hc40,hb40,u940,u1640,u2340,q140,q240,q340,lt40⟩:=hM';have e72:=InvX.get hI (i:=20) (.tail _ (.tail _ (.tail _ (.tail _ (.tail _ (.tail _ (.tail _ (.tail _ (.tail _ (.tail _ (.tail _ (.tail _ (.tail _ (.tail _ (.tail _ (.tail _ (.tail _ (.tail _ (.tail _ (.tail _ (.head _))))))))))))))))))))) d20;exact cj [(72,_)] x hU hI (.tail _ (.tail _ (.tail _ (.tail _ (.tail _ (.tail _ (.tail _ (.tail _ (.tail _ (.tail _ (.tail _ (.tail _ (.tail _ (.tail _ (.tail _ (.tail _ (.tail _ (.tail _ (.tail _ (.tail _ (.tail _ (.head _)))))))))))))))))))))) rfl (by kernel_rfl) ⟨e72,trivial⟩ (ae bw rfl) cy (hme _ _ _ _ _ rfl aj.rfl_ hM)
  constructor
  ·rintro S L' w41 x hU hme hI hM hC hS ⟨d21,-⟩;have hM':=hM;obtain ⟨hc41,hb41,u941,u1641,u2341,q141,q241,q341,lt41⟩:=hM';have e73:=InvX.get hI (i:=21) (.tail _ (.tail _ (.tail _ (.tail _ (.tail _ (.tail _ (.tail _ (.tail _ (.tail _ (.tail _ (.tail _ (.tail _ (.tail _ (.tail _ (.tail _ (.tail _ (.tail _ (.tail _ (.tail _ (.tail _ (.tail _ (.head _)))))))))))))))))))))) d21;exact cj [(73,_)] x hU hI (.tail _ (.tail _ (.tail _ (.tail _ (.tail _ (.tail _ (.tail _ (.tail _ (.tail _ (.tail _ (.tail _ (.tail _ (.tail _ (.tail _ (.tail _ (.tail _ (.tail _ (.tail _ (.tail _ (.tail _ (.tail _ (.tail _ (.head _))))))))))))))))))))))) rfl (by kernel_rfl) ⟨e73,trivial⟩ (gk (aq ar rfl (show _=some (Value.int .i64 s.nodes) from hM.b.rd 1 rfl)) (br hn)) cy (hme _ _ _ _ _ rfl aj.rfl_ hM)
  constructor
  ·rintro S L' w42 x hU hme hI hM hC hS ⟨d22,d22,-⟩;have hM':=hM;obtain ⟨hc42,hb42,u942,u1642,u2342,q142,q242,q342,lt42⟩:=hM';have e74:=InvX.get hI (i:=22) (.tail _ (.tail _ (.tail _ (.tail _ (.tail _ (.tail _ (.tail _ (.tail _ (.tail _ (.tail _ (.tail _ (.tail _ (.tail _ (.tail _ (.tail _ (.tail _ (.tail _ (.tail _ (.tail _ (.tail _ (.tail _ (.tail _ (.head _))))))))))))))))))))))) d22;have h28:S 38=false:=ai hC (j:=38) rfl (by kernel_rfl) hS;exact cj [(74,_)] ⟨x.x,x.m,w42.heap.size⟩ hU hI (.tail _ (.tail _ (.tail _ (.tail _ (.tail _ (.tail _ (.tail _ (.tail _ (.tail _ (.tail _ (.tail _ (.tail _ (.tail _ (.tail _ (.tail _ (.tail _ (.tail _ (.tail _ (.tail _ (.tail _ (.tail _ (.tail _ (.tail _ (.head _)))))))))))))))))))))))) rfl (by kernel_rfl) ⟨e74,trivial⟩ (qF ka rfl rfl rfl (by omega) (by omega)) ⟨fun _=>rfl,fun _=>rfl,fun _=>rfl,fun _=>rfl,fun _=>rfl,fun _=>rfl,fun _=>rfl,fun _=>rfl,fun _=>rfl,fun _=>rfl,fun _=>rfl,fun _=>rfl,fun _=>rfl,fun _=>rfl,fun _=>rfl,fun _=>rfl,fun _=>rfl,fun _=>rfl,fun _=>rfl,fun _=>rfl,fun _=>rfl,fun _=>rfl,fun _=>rfl,fun h=>(by rw [hS] at h;cases h),fun _=>rfl,fun _=>rfl,fun _=>rfl,fun _=>rfl,fun _=>rfl,fun _=>rfl,fun _=>rfl,fun _=>rfl,fun _=>rfl,fun _=>rfl,fun _=>rfl,fun _=>rfl,trivial⟩ (LI.mk23 hM h28 ⟨hM.c.size,Blk.new _ _ _⟩ (aj.rfl_.new _))
  constructor
  ·rintro S L' w43 x hU hme hI hM hC hS ⟨d0,d0,-,-,d3,d4,d5,d6,d7,d8,d9,-,-,-,-,-,d15,-,-,-,-,-,-,d22,-,-⟩;have hM':=hM;obtain ⟨hc43,hb43,u943,u1643,u2343,q143,q243,q343,lt43⟩:=hM';have e52:=InvX.get hI (i:=0) (.head _) d0;exact cj [(52,_)] x hU hI (.tail _ (.tail _ (.tail _ (.tail _ (.tail _ (.tail _ (.tail _ (.tail _ (.tail _ (.tail _ (.tail _ (.tail _ (.tail _ (.tail _ (.tail _ (.tail _ (.tail _ (.tail _ (.tail _ (.tail _ (.tail _ (.tail _ (.tail _ (.tail _ (.head _))))))))))))))))))))))))) rfl (by kernel_rfl) ⟨e52,trivial⟩ (aw rfl) cy (hme _ _ _ _ _ rfl aj.rfl_ hM)
  constructor
  ·rintro S L' w44 x hU hme hI hM hC hS ⟨d24,d0,-,-,d3,d4,d5,d6,d7,d8,d9,-,-,-,-,-,d15,-,-,-,-,-,-,d22,-,-⟩;have hM':=hM;obtain ⟨hc44,hb44,u944,u1644,u2344,q144,q244,q344,lt44⟩:=hM';have e76:=InvX.get hI (i:=24) (.tail _ (.tail _ (.tail _ (.tail _ (.tail _ (.tail _ (.tail _ (.tail _ (.tail _ (.tail _ (.tail _ (.tail _ (.tail _ (.tail _ (.tail _ (.tail _ (.tail _ (.tail _ (.tail _ (.tail _ (.tail _ (.tail _ (.tail _ (.tail _ (.head _))))))))))))))))))))))))) d24;exact cj [(76,_)] x hU hI (.tail _ (.tail _ (.tail _ (.tail _ (.tail _ (.tail _ (.tail _ (.tail _ (.tail _ (.tail _ (.tail _ (.tail _ (.tail _ (.tail _ (.tail _ (.tail _ (.tail _ (.tail _ (.tail _ (.tail _ (.tail _ (.tail _ (.tail _ (.tail _ (.tail _ (.head _)))))))))))))))))))))))))) rfl (by kernel_rfl) ⟨e76,trivial⟩ (ae aK rfl) cy (hme _ _ _ _ _ rfl aj.rfl_ hM)
  constructor
  ·rintro S L' w45 x hU hme hI hM hC hS ⟨d25,d0,-,-,d3,d4,d5,d6,d7,d8,d9,-,-,-,-,-,d15,-,-,-,-,-,-,d22,-,-⟩;have hM':=hM;obtain ⟨hc45,hb45,u945,u1645,u2345,q145,q245,q345,lt45⟩:=hM';have e77:=InvX.get hI (i:=25) (.tail _ (.tail _ (.tail _ (.tail _ (.tail _ (.tail _ (.tail _ (.tail _ (.tail _ (.tail _ (.tail _ (.tail _ (.tail _ (.tail _ (.tail _ (.tail _ (.tail _ (.tail _ (.tail _ (.tail _ (.tail _ (.tail _ (.tail _ (.tail _ (.tail _ (.head _)))))))))))))))))))))))))) d25;exact cj [(77,_)] x hU hI (.tail _ (.tail _ (.tail _ (.tail _ (.tail _ (.tail _ (.tail _ (.tail _ (.tail _ (.tail _ (.tail _ (.tail _ (.tail _ (.tail _ (.tail _ (.tail _ (.tail _ (.tail _ (.tail _ (.tail _ (.tail _ (.tail _ (.tail _ (.tail _ (.tail _ (.tail _ (.head _))))))))))))))))))))))))))) rfl (by kernel_rfl) ⟨e77,trivial⟩ (ae aF rfl) cy (hme _ _ _ _ _ rfl aj.rfl_ hM)
  constructor
  ·rintro S L' w46 x hU hme hI hM hC hS ⟨d26,d0,-,-,d3,d4,d5,d6,d7,d8,d9,-,-,-,-,-,d15,-,-,-,-,-,-,d22,-,-⟩;have hM':=hM;obtain ⟨hc46,hb46,u946,u1646,u2346,q146,q246,q346,lt46⟩:=hM';have e78:=InvX.get hI (i:=26) (.tail _ (.tail _ (.tail _ (.tail _ (.tail _ (.tail _ (.tail _ (.tail _ (.tail _ (.tail _ (.tail _ (.tail _ (.tail _ (.tail _ (.tail _ (.tail _ (.tail _ (.tail _ (.tail _ (.tail _ (.tail _ (.tail _ (.tail _ (.tail _ (.tail _ (.tail _ (.head _))))))))))))))))))))))))))) d26;exact cj [(78,_)] x hU hI (.tail _ (.tail _ (.tail _ (.tail _ (.tail _ (.tail _ (.tail _ (.tail _ (.tail _ (.tail _ (.tail _ (.tail _ (.tail _ (.tail _ (.tail _ (.tail _ (.tail _ (.tail _ (.tail _ (.tail _ (.tail _ (.tail _ (.tail _ (.tail _ (.tail _ (.tail _ (.tail _ (.head _)))))))))))))))))))))))))))) rfl (by kernel_rfl) ⟨e78,trivial⟩ (ae bu rfl) cy (hme _ _ _ _ _ rfl aj.rfl_ hM)
  constructor
  ·rintro S L' w47 x hU hme hI hM hC hS ⟨d27,d9,d0,-,-,d3,d4,d5,d6,d7,d8,d9,-,-,-,-,-,d15,-,-,-,-,-,-,d22,-,-⟩;have hM':=hM;obtain ⟨hc47,hb47,u947,u1647,u2347,q147,q247,q347,lt47⟩:=hM';have e61:=InvX.get hI (i:=9) (.tail _ (.tail _ (.tail _ (.tail _ (.tail _ (.tail _ (.tail _ (.tail _ (.tail _ (.head _)))))))))) d9;have e79:=InvX.get hI (i:=27) (.tail _ (.tail _ (.tail _ (.tail _ (.tail _ (.tail _ (.tail _ (.tail _ (.tail _ (.tail _ (.tail _ (.tail _ (.tail _ (.tail _ (.tail _ (.tail _ (.tail _ (.tail _ (.tail _ (.tail _ (.tail _ (.tail _ (.tail _ (.tail _ (.tail _ (.tail _ (.tail _ (.head _)))))))))))))))))))))))))))) d27;obtain ⟨w2,hR,hO,hb2⟩:=kN (n:=124) (L:=[(61,_),(79,_)]) (x:=.tmp 79) (y:=.tmp 61) (v:=.slice (some ⟨x.x,0,none⟩) n n) c6 rfl rfl rfl hM.b (show 15<23 by decide)
   have hb3:Blk w2 g T (lvX ({ s with role:=2,leader:=s.id,votes:=[],elapsed:=0 }:Rf) (⟨E,Ec,none,0,X,Xc,M,Mc,Sn,Sc,Q,Qc,LL⟩:Ra) n x (db S 28)++[Value.slice O L.length oc]).toArray:=by
    rw [←xc];exact hb2
   exact mh [(61,_),(79,_)] hI (wh rfl) rfl (by kernel_rfl) ⟨e61,e79,trivial⟩ hR (LI.st hM (.inl rfl) hO hb3)
  constructor
  ·rintro S L' w48 x hU hme hI hM hC hS ⟨d1,d0,d1,-,d3,d4,d5,d6,d7,d8,d9,d10,d11,d12,d13,d14,d15,d16,-,-,-,-,-,d22,-,d24,d25,d26,d27,d28,-⟩;have hM':=hM;obtain ⟨hc48,hb48,u948,u1648,u2348,q148,q248,q348,lt48⟩:=hM';have e53:=InvX.get hI (i:=1) (.tail _ (.head _)) d1;exact cj [(53,_)] x hU hI (.tail _ (.tail _ (.tail _ (.tail _ (.tail _ (.tail _ (.tail _ (.tail _ (.tail _ (.tail _ (.tail _ (.tail _ (.tail _ (.tail _ (.tail _ (.tail _ (.tail _ (.tail _ (.tail _ (.tail _ (.tail _ (.tail _ (.tail _ (.tail _ (.tail _ (.tail _ (.tail _ (.tail _ (.head _))))))))))))))))))))))))))))) rfl (by kernel_rfl) ⟨e53,trivial⟩ (aw rfl) cy (hme _ _ _ _ _ rfl aj.rfl_ hM)
  constructor
  ·rintro S L' w49 x hU hme hI hM hC hS ⟨d29,d0,d1,-,d3,d4,d5,d6,d7,d8,d9,d10,d11,d12,d13,d14,d15,d16,-,-,-,-,-,d22,-,d24,d25,d26,d27,d28,-⟩;have hM':=hM;obtain ⟨hc49,hb49,u949,u1649,u2349,q149,q249,q349,lt49⟩:=hM';have e80:=InvX.get hI (i:=29) (.tail _ (.tail _ (.tail _ (.tail _ (.tail _ (.tail _ (.tail _ (.tail _ (.tail _ (.tail _ (.tail _ (.tail _ (.tail _ (.tail _ (.tail _ (.tail _ (.tail _ (.tail _ (.tail _ (.tail _ (.tail _ (.tail _ (.tail _ (.tail _ (.tail _ (.tail _ (.tail _ (.tail _ (.head _))))))))))))))))))))))))))))) d29;exact cj [(80,_)] x hU hI (.tail _ (.tail _ (.tail _ (.tail _ (.tail _ (.tail _ (.tail _ (.tail _ (.tail _ (.tail _ (.tail _ (.tail _ (.tail _ (.tail _ (.tail _ (.tail _ (.tail _ (.tail _ (.tail _ (.tail _ (.tail _ (.tail _ (.tail _ (.tail _ (.tail _ (.tail _ (.tail _ (.tail _ (.tail _ (.head _)))))))))))))))))))))))))))))) rfl (by kernel_rfl) ⟨e80,trivial⟩ (ae aK rfl) cy (hme _ _ _ _ _ rfl aj.rfl_ hM)
  constructor
  ·rintro S L' w50 x hU hme hI hM hC hS ⟨d30,d0,d1,-,d3,d4,d5,d6,d7,d8,d9,d10,d11,d12,d13,d14,d15,d16,-,-,-,-,-,d22,-,d24,d25,d26,d27,d28,-⟩;have hM':=hM;obtain ⟨hc50,hb50,u950,u1650,u2350,q150,q250,q350,lt50⟩:=hM';have e81:=InvX.get hI (i:=30) (.tail _ (.tail _ (.tail _ (.tail _ (.tail _ (.tail _ (.tail _ (.tail _ (.tail _ (.tail _ (.tail _ (.tail _ (.tail _ (.tail _ (.tail _ (.tail _ (.tail _ (.tail _ (.tail _ (.tail _ (.tail _ (.tail _ (.tail _ (.tail _ (.tail _ (.tail _ (.tail _ (.tail _ (.tail _ (.head _)))))))))))))))))))))))))))))) d30;exact cj [(81,_)] x hU hI (.tail _ (.tail _ (.tail _ (.tail _ (.tail _ (.tail _ (.tail _ (.tail _ (.tail _ (.tail _ (.tail _ (.tail _ (.tail _ (.tail _ (.tail _ (.tail _ (.tail _ (.tail _ (.tail _ (.tail _ (.tail _ (.tail _ (.tail _ (.tail _ (.tail _ (.tail _ (.tail _ (.tail _ (.tail _ (.tail _ (.head _))))))))))))))))))))))))))))))) rfl (by kernel_rfl) ⟨e81,trivial⟩ (ae aF rfl) cy (hme _ _ _ _ _ rfl aj.rfl_ hM)
  constructor
  ·rintro S L' w51 x hU hme hI hM hC hS ⟨d31,d0,d1,-,d3,d4,d5,d6,d7,d8,d9,d10,d11,d12,d13,d14,d15,d16,-,-,-,-,-,d22,-,d24,d25,d26,d27,d28,-⟩;have hM':=hM;obtain ⟨hc51,hb51,u951,u1651,u2351,q151,q251,q351,lt51⟩:=hM';have e82:=InvX.get hI (i:=31) (.tail _ (.tail _ (.tail _ (.tail _ (.tail _ (.tail _ (.tail _ (.tail _ (.tail _ (.tail _ (.tail _ (.tail _ (.tail _ (.tail _ (.tail _ (.tail _ (.tail _ (.tail _ (.tail _ (.tail _ (.tail _ (.tail _ (.tail _ (.tail _ (.tail _ (.tail _ (.tail _ (.tail _ (.tail _ (.tail _ (.head _))))))))))))))))))))))))))))))) d31;exact cj [(82,_)] x hU hI (.tail _ (.tail _ (.tail _ (.tail _ (.tail _ (.tail _ (.tail _ (.tail _ (.tail _ (.tail _ (.tail _ (.tail _ (.tail _ (.tail _ (.tail _ (.tail _ (.tail _ (.tail _ (.tail _ (.tail _ (.tail _ (.tail _ (.tail _ (.tail _ (.tail _ (.tail _ (.tail _ (.tail _ (.tail _ (.tail _ (.tail _ (.head _)))))))))))))))))))))))))))))))) rfl (by kernel_rfl) ⟨e82,trivial⟩ (ae bM rfl) cy (hme _ _ _ _ _ rfl aj.rfl_ hM)
  constructor
  ·rintro S L' w52 x hU hme hI hM hC hS ⟨d32,d16,d28,d0,d1,-,d3,d4,d5,d6,d7,d8,d9,d10,d11,d12,d13,d14,d15,d16,-,-,-,-,-,d22,-,d24,d25,d26,d27,d28,-⟩;have hM':=hM;obtain ⟨hc52,hb52,u952,u1652,u2352,q152,q252,q352,lt52⟩:=hM';have e68:=InvX.get hI (i:=16) (.tail _ (.tail _ (.tail _ (.tail _ (.tail _ (.tail _ (.tail _ (.tail _ (.tail _ (.tail _ (.tail _ (.tail _ (.tail _ (.tail _ (.tail _ (.tail _ (.head _))))))))))))))))) d16;have e83:=InvX.get hI (i:=32) (.tail _ (.tail _ (.tail _ (.tail _ (.tail _ (.tail _ (.tail _ (.tail _ (.tail _ (.tail _ (.tail _ (.tail _ (.tail _ (.tail _ (.tail _ (.tail _ (.tail _ (.tail _ (.tail _ (.tail _ (.tail _ (.tail _ (.tail _ (.tail _ (.tail _ (.tail _ (.tail _ (.tail _ (.tail _ (.tail _ (.tail _ (.head _)))))))))))))))))))))))))))))))) d32;obtain ⟨w2,hR,hO,hb2⟩:=kN (n:=124) (L:=[(68,_),(83,_)]) (x:=.tmp 83) (y:=.tmp 68) (v:=.slice (some ⟨x.m,0,none⟩) n n) c6 rfl rfl rfl hM.b (show 16<23 by decide)
   have hb3:Blk w2 g T (lvX ({ s with role:=2,leader:=s.id,votes:=[],elapsed:=0 }:Rf) (⟨E,Ec,none,0,X,Xc,M,Mc,Sn,Sc,Q,Qc,LL⟩:Ra) n x (db S 33)++[Value.slice O L.length oc]).toArray:=by
    rw [←w_];exact hb2
   exact mh [(68,_),(83,_)] hI (wh rfl) rfl (by kernel_rfl) ⟨e68,e83,trivial⟩ hR (LI.st hM (.inr (.inl rfl)) hO hb3)
  constructor
  ·rintro S L' w53 x hU hme hI hM hC hS ⟨d2,d0,d1,d2,d3,d4,d5,d6,d7,d8,d9,d10,d11,d12,d13,d14,d15,d16,d17,d18,d19,d20,d21,d22,d23,d24,d25,d26,d27,d28,d29,d30,d31,d32,d33,-⟩;have hM':=hM;obtain ⟨hc53,hb53,u953,u1653,u2353,q153,q253,q353,lt53⟩:=hM';have e54:=InvX.get hI (i:=2) (.tail _ (.tail _ (.head _))) d2;exact cj [(54,_)] x hU hI (.tail _ (.tail _ (.tail _ (.tail _ (.tail _ (.tail _ (.tail _ (.tail _ (.tail _ (.tail _ (.tail _ (.tail _ (.tail _ (.tail _ (.tail _ (.tail _ (.tail _ (.tail _ (.tail _ (.tail _ (.tail _ (.tail _ (.tail _ (.tail _ (.tail _ (.tail _ (.tail _ (.tail _ (.tail _ (.tail _ (.tail _ (.tail _ (.head _))))))))))))))))))))))))))))))))) rfl (by kernel_rfl) ⟨e54,trivial⟩ (aw rfl) cy (hme _ _ _ _ _ rfl aj.rfl_ hM)
  constructor
  ·rintro S L' w54 x hU hme hI hM hC hS ⟨d34,d0,d1,d2,d3,d4,d5,d6,d7,d8,d9,d10,d11,d12,d13,d14,d15,d16,d17,d18,d19,d20,d21,d22,d23,d24,d25,d26,d27,d28,d29,d30,d31,d32,d33,-⟩;have hM':=hM;obtain ⟨hc54,hb54,u954,u1654,u2354,q154,q254,q354,lt54⟩:=hM';have e84:=InvX.get hI (i:=34) (.tail _ (.tail _ (.tail _ (.tail _ (.tail _ (.tail _ (.tail _ (.tail _ (.tail _ (.tail _ (.tail _ (.tail _ (.tail _ (.tail _ (.tail _ (.tail _ (.tail _ (.tail _ (.tail _ (.tail _ (.tail _ (.tail _ (.tail _ (.tail _ (.tail _ (.tail _ (.tail _ (.tail _ (.tail _ (.tail _ (.tail _ (.tail _ (.head _))))))))))))))))))))))))))))))))) d34;exact cj [(84,_)] x hU hI (.tail _ (.tail _ (.tail _ (.tail _ (.tail _ (.tail _ (.tail _ (.tail _ (.tail _ (.tail _ (.tail _ (.tail _ (.tail _ (.tail _ (.tail _ (.tail _ (.tail _ (.tail _ (.tail _ (.tail _ (.tail _ (.tail _ (.tail _ (.tail _ (.tail _ (.tail _ (.tail _ (.tail _ (.tail _ (.tail _ (.tail _ (.tail _ (.tail _ (.head _)))))))))))))))))))))))))))))))))) rfl (by kernel_rfl) ⟨e84,trivial⟩ (ae aK rfl) cy (hme _ _ _ _ _ rfl aj.rfl_ hM)
  constructor
  ·rintro S L' w55 x hU hme hI hM hC hS ⟨d35,d0,d1,d2,d3,d4,d5,d6,d7,d8,d9,d10,d11,d12,d13,d14,d15,d16,d17,d18,d19,d20,d21,d22,d23,d24,d25,d26,d27,d28,d29,d30,d31,d32,d33,-⟩;have hM':=hM;obtain ⟨hc55,hb55,u955,u1655,u2355,q155,q255,q355,lt55⟩:=hM';have e85:=InvX.get hI (i:=35) (.tail _ (.tail _ (.tail _ (.tail _ (.tail _ (.tail _ (.tail _ (.tail _ (.tail _ (.tail _ (.tail _ (.tail _ (.tail _ (.tail _ (.tail _ (.tail _ (.tail _ (.tail _ (.tail _ (.tail _ (.tail _ (.tail _ (.tail _ (.tail _ (.tail _ (.tail _ (.tail _ (.tail _ (.tail _ (.tail _ (.tail _ (.tail _ (.tail _ (.head _)))))))))))))))))))))))))))))))))) d35;exact cj [(85,_)] x hU hI (.tail _ (.tail _ (.tail _ (.tail _ (.tail _ (.tail _ (.tail _ (.tail _ (.tail _ (.tail _ (.tail _ (.tail _ (.tail _ (.tail _ (.tail _ (.tail _ (.tail _ (.tail _ (.tail _ (.tail _ (.tail _ (.tail _ (.tail _ (.tail _ (.tail _ (.tail _ (.tail _ (.tail _ (.tail _ (.tail _ (.tail _ (.tail _ (.tail _ (.tail _ (.head _))))))))))))))))))))))))))))))))))) rfl (by kernel_rfl) ⟨e85,trivial⟩ (ae aF rfl) cy (hme _ _ _ _ _ rfl aj.rfl_ hM)
  constructor
  ·rintro S L' w56 x hU hme hI hM hC hS ⟨d36,d0,d1,d2,d3,d4,d5,d6,d7,d8,d9,d10,d11,d12,d13,d14,d15,d16,d17,d18,d19,d20,d21,d22,d23,d24,d25,d26,d27,d28,d29,d30,d31,d32,d33,-⟩;have hM':=hM;obtain ⟨hc56,hb56,u956,u1656,u2356,q156,q256,q356,lt56⟩:=hM';have e86:=InvX.get hI (i:=36) (.tail _ (.tail _ (.tail _ (.tail _ (.tail _ (.tail _ (.tail _ (.tail _ (.tail _ (.tail _ (.tail _ (.tail _ (.tail _ (.tail _ (.tail _ (.tail _ (.tail _ (.tail _ (.tail _ (.tail _ (.tail _ (.tail _ (.tail _ (.tail _ (.tail _ (.tail _ (.tail _ (.tail _ (.tail _ (.tail _ (.tail _ (.tail _ (.tail _ (.tail _ (.head _))))))))))))))))))))))))))))))))))) d36;exact cj [(86,_)] x hU hI (.tail _ (.tail _ (.tail _ (.tail _ (.tail _ (.tail _ (.tail _ (.tail _ (.tail _ (.tail _ (.tail _ (.tail _ (.tail _ (.tail _ (.tail _ (.tail _ (.tail _ (.tail _ (.tail _ (.tail _ (.tail _ (.tail _ (.tail _ (.tail _ (.tail _ (.tail _ (.tail _ (.tail _ (.tail _ (.tail _ (.tail _ (.tail _ (.tail _ (.tail _ (.tail _ (.head _)))))))))))))))))))))))))))))))))))) rfl (by kernel_rfl) ⟨e86,trivial⟩ (ae bW rfl) cy (hme _ _ _ _ _ rfl aj.rfl_ hM)
  constructor
  ·rintro S L' w57 x hU hme hI hM hC hS ⟨d37,d23,d33,d0,d1,d2,d3,d4,d5,d6,d7,d8,d9,d10,d11,d12,d13,d14,d15,d16,d17,d18,d19,d20,d21,d22,d23,d24,d25,d26,d27,d28,d29,d30,d31,d32,d33,-⟩;have hM':=hM;obtain ⟨hc57,hb57,u957,u1657,u2357,q157,q257,q357,lt57⟩:=hM';have e75:=InvX.get hI (i:=23) (.tail _ (.tail _ (.tail _ (.tail _ (.tail _ (.tail _ (.tail _ (.tail _ (.tail _ (.tail _ (.tail _ (.tail _ (.tail _ (.tail _ (.tail _ (.tail _ (.tail _ (.tail _ (.tail _ (.tail _ (.tail _ (.tail _ (.tail _ (.head _)))))))))))))))))))))))) d23;have e87:=InvX.get hI (i:=37) (.tail _ (.tail _ (.tail _ (.tail _ (.tail _ (.tail _ (.tail _ (.tail _ (.tail _ (.tail _ (.tail _ (.tail _ (.tail _ (.tail _ (.tail _ (.tail _ (.tail _ (.tail _ (.tail _ (.tail _ (.tail _ (.tail _ (.tail _ (.tail _ (.tail _ (.tail _ (.tail _ (.tail _ (.tail _ (.tail _ (.tail _ (.tail _ (.tail _ (.tail _ (.tail _ (.head _)))))))))))))))))))))))))))))))))))) d37;obtain ⟨w2,hR,hO,hb2⟩:=kN (n:=124) (L:=[(75,_),(87,_)]) (x:=.tmp 87) (y:=.tmp 75) (v:=.slice (some ⟨x.s,0,none⟩) n n) c6 rfl rfl rfl hM.b (show 17<23 by decide)
   have hb3:Blk w2 g T (lvX ({ s with role:=2,leader:=s.id,votes:=[],elapsed:=0 }:Rf) (⟨E,Ec,none,0,X,Xc,M,Mc,Sn,Sc,Q,Qc,LL⟩:Ra) n x (db S 38)++[Value.slice O L.length oc]).toArray:=by
    rw [←wZ];exact hb2
   exact mh [(75,_),(87,_)] hI (wh rfl) rfl (by kernel_rfl) ⟨e75,e87,trivial⟩ hR (LI.st hM (.inr (.inr rfl)) hO hb3)
  exact trivial
 ·intro x58 w58 hM;obtain ⟨hc58,hb58,u958,u1658,u2358,q158,q258,q358,lt58⟩:=hM;obtain ⟨xx,xm,xs⟩:=x58;have hbr:=hb58
  have hb4:Blk w58 g T (rfV ({ s with role:=2,leader:=s.id,votes:=[],elapsed:=0,next:=List.replicate n 0,mtch:=List.replicate n 0,sent:=List.replicate n 0 }:Rf) (⟨E,Ec,none,0,some ⟨xx,0,none⟩,n,some ⟨xm,0,none⟩,n,some ⟨xs,0,none⟩,n,Q,Qc,LL⟩:Ra)++[Value.slice O L.length oc]).toArray:=by
   unfold rfV;simp only [List.length_replicate];exact hb58
  obtain ⟨h4,tag4,hs4⟩:=h3.three hs3 hc58 (by omega) (u958 rfl) (u1658 rfl) (u2358 rfl) (q158 rfl rfl) (q258 rfl rfl) (q358 rfl rfl) hb4;refine ag (an (an (ah (mvp rfl (aa (aw rfl) (aa (ae aK rfl) (aa (ae aF rfl) (aa (ae bu rfl) (aa (aq aM rfl (by exact (show _=some (Value.slice (some ⟨xx,0,none⟩) n n) from (hbr.from_ aj.rfl_).rd 15 rfl))) ?_)))))))));refine aa (bm bJ rfl) (mvi rfl (ak (ag (bf (cz (G:=Nat×(Nat→Nat)) [4,96,97,98,99,100,101,102,103,104,105,106,107,108] (fun (i,_)=>[(95,.int .i64 (i:Nat))]) (fun (i,tg) w'=>i≤n∧bt w0 Z w' T g ⟨({ s with role:=2,leader:=s.id,votes:=[],elapsed:=0,next:=gn n i (aQ s+1),mtch:=List.replicate n 0,sent:=List.replicate n 0 }:Rf),out⟩∧fF w' Z T g tg ⟨({ s with role:=2,leader:=s.id,votes:=[],elapsed:=0,next:=gn n i (aQ s+1),mtch:=List.replicate n 0,sent:=List.replicate n 0 }:Rf),out⟩ (⟨E,Ec,none,0,some ⟨xx,0,none⟩,n,some ⟨xm,0,none⟩,n,some ⟨xs,0,none⟩,n,Q,Qc,LL⟩:Ra) O oc L) (fun (i,_)=>n-i) ((0,tag4)) ⟨rfl,trivial⟩ ?_ ?_)))))
  ·exact ⟨Nat.zero_le _,(by rw [tu];exact h4.from_ (aj.rfl_ (a:=w58))),(by rw [tu];exact hs4.from_ (aj.rfl_ (a:=w58)))⟩
  rintro ⟨i,tg⟩ ρ59 w59 ⟨hi,h5,hs5⟩;refine an (ah (aa (bG rfl rfl) (ak (ag (an (xD rfl (fun Q60=>?_) (fun Q60=>?_)))))))
  ·have hb5:=hs5.b;have hil:(gn n i (aQ s+1)).length=n:=pB hi
   have hr15:∀ w9,aj w59 w9→w9.cell? ⟨g,15,none⟩=some (.slice (some ⟨xx,0,none⟩) n n):=fun w9 hF9=>by
    have h9:=cC (hb5.from_ hF9) 15 rfl;rw [show ({ s with role:=2,leader:=s.id,votes:=[],elapsed:=0,next:=gn n i (aQ s+1),mtch:=List.replicate n 0,sent:=List.replicate n 0 }:Rf).next.length=n from hil] at h9;exact h9
   have hxo:(w59).ownsRow 0 3 1 (.slice (some ⟨xx,0,none⟩) n n) n ((gn n i (aQ s+1)).map iV):=by
    have h9:=(hs5.f.x (by decide)).1;rw [show (Sp.s ⟨({ s with role:=2,leader:=s.id,votes:=[],elapsed:=0,next:=gn n i (aQ s+1),mtch:=List.replicate n 0,sent:=List.replicate n 0 }:Rf),out⟩).next.length=n from hil] at h9;exact h9
   refine aR (ag (an (bf (an (ah (mvi rfl (asi rfl (ak (ag (ah (mvp rfl (aa (aw rfl) (aa (ae aK rfl) (aa (ae aF rfl) (aa (ae bu rfl) ?_)))))))))))))));refine aa (aq aM rfl (by exact hr15 _ (aj.rfl_ (a:=w59)))) ?_;refine mvi rfl (mvi rfl (aa (bE rfl rfl (by omega)) (aa (cH bK rfl rfl (by omega)) ?_)));have hB8:aj _ w59:=(aj.rfl_ (a:=w59));refine jG (xs:=(gn n i (aQ s+1)).map iV) b0 rfl rfl rfl (hxo.kept_from (aj.rfl_ (a:=w59))) (by omega) ?_;intro w61 O8 P8;have hgx:tg xx=2:=(hs5.f.x (by decide)).2 xx rfl;have hC8:Chg (fun k=>tg k=2) _ w61:=(aj.toChg hB8).only O8 hgx;have hil2:(gn n (i+1) (aQ s+1)).length=n:=pB (by omega)
   have hxo8:(w61).ownsRow 0 3 1 (.slice (some ⟨xx,0,none⟩) n n) n ((gn n (i+1) (aQ s+1)).map iV):=by
    rw [←ts (by omega),←qD];exact P8
   have hb8:Blk w61 g T (rfV ({ s with role:=2,leader:=s.id,votes:=[],elapsed:=0,next:=gn n (i+1) (aQ s+1),mtch:=List.replicate n 0,sent:=List.replicate n 0 }:Rf) (⟨E,Ec,none,0,some ⟨xx,0,none⟩,n,some ⟨xm,0,none⟩,n,some ⟨xs,0,none⟩,n,Q,Qc,LL⟩:Ra)++[Value.slice O L.length oc]).toArray:=by
    have h9:=(hb5.from_ hB8).only O8 (fun e=>by have:=hs5.gc;rw [e,hgx] at this;cases this)
    have e9:rfV ({ s with role:=2,leader:=s.id,votes:=[],elapsed:=0,next:=gn n (i+1) (aQ s+1),mtch:=List.replicate n 0,sent:=List.replicate n 0 }:Rf) (⟨E,Ec,none,0,some ⟨xx,0,none⟩,n,some ⟨xm,0,none⟩,n,some ⟨xs,0,none⟩,n,Q,Qc,LL⟩:Ra)=rfV ({ s with role:=2,leader:=s.id,votes:=[],elapsed:=0,next:=gn n i (aQ s+1),mtch:=List.replicate n 0,sent:=List.replicate n 0 }:Rf) (⟨E,Ec,none,0,some ⟨xx,0,none⟩,n,some ⟨xm,0,none⟩,n,some ⟨xs,0,none⟩,n,Q,Qc,LL⟩:Ra):=by
     unfold rfV;simp only [hil,hil2]
    rw [e9];exact h9
   have hf8:=(hs5.f.but hC8).next (l:=gn n (i+1) (aQ s+1)) hil2.symm hxo8 (fun q hq=>by cases hq;rw [cw (dD hxo _ rfl)];exact hgx);obtain ⟨hs6a,h6⟩:=h5.put (s':=({ s with role:=2,leader:=s.id,votes:=[],elapsed:=0,next:=gn n (i+1) (aQ s+1),mtch:=List.replicate n 0,sent:=List.replicate n 0 }:Rf)) (a':=(⟨E,Ec,none,0,some ⟨xx,0,none⟩,n,some ⟨xm,0,none⟩,n,some ⟨xs,0,none⟩,n,Q,Qc,LL⟩:Ra)) hs5 hC8 (.inl (by decide)) hf8 (Chg.rfl_ (U:=fun k=>k=g)) hb8;obtain ⟨tg6,hs6⟩:∃ t,fF w61 Z T g t ⟨({ s with role:=2,leader:=s.id,votes:=[],elapsed:=0,next:=gn n (i+1) (aQ s+1),mtch:=List.replicate n 0,sent:=List.replicate n 0 }:Rf),out⟩ (⟨E,Ec,none,0,some ⟨xx,0,none⟩,n,some ⟨xm,0,none⟩,n,some ⟨xs,0,none⟩,n,Q,Qc,LL⟩:Ra) O oc L:=⟨_,hs6a⟩;refine ak (bN (ag (ah (aa (bE rfl rfl (by omega)) (mvi rfl (ak ?_))))));refine cK ((i+1,tg6)) ⟨(by first | rfl | (refine br ?_;omega)),trivial⟩ (by (iterate 30 refine bQ rfl ?_);exact b_) ⟨?_,?_⟩
   ·exact ⟨by omega,h6.from_ (aj.rfl_ (a:=w61)),hs6.from_ (aj.rfl_ (a:=w61))⟩
   ·show n-(i+1)<n-i;omega
  have hin:i=n:=by omega
  rw [hin,vT] at h5 hs5;have hb7:=hs5.b;refine bZ (bg (bg (bF (ag (an (ah (mvp rfl (aa (aw rfl) (aa (ae aK rfl) (aa (ae aF rfl) (aa (ae bd rfl) ?_)))))))))));have hB7:aj _ w59:=(aj.rfl_ (a:=w59));refine cO (s':=({ s with role:=2,leader:=s.id,votes:=[],elapsed:=0,next:=List.replicate n (aQ s+1),mtch:=List.replicate n 0,reads:=[],sent:=List.replicate n 0 }:Rf)) (a':=(⟨E,Ec,none,0,some ⟨xx,0,none⟩,n,some ⟨xm,0,none⟩,n,some ⟨xs,0,none⟩,n,none,0,[]⟩:Ra)) (v:=.slice _ _ _) iR rfl rfl rfl ((hb7.from_ (aj.rfl_ (a:=w59)))) (by exact ⟨by decide,rfl⟩) ?_;intro w62 O10_0 P10_0;obtain ⟨hs7,h7a⟩:=h5.set (s':=({ s with role:=2,leader:=s.id,votes:=[],elapsed:=0,next:=List.replicate n (aQ s+1),mtch:=List.replicate n 0,reads:=[],sent:=List.replicate n 0 }:Rf)) (a':=(⟨E,Ec,none,0,some ⟨xx,0,none⟩,n,some ⟨xm,0,none⟩,n,some ⟨xs,0,none⟩,n,none,0,[]⟩:Ra)) hs5 ((aj.toChg hB7).only O10_0 rfl) (bj.same hs5.f.noreads rfl rfl rfl rfl rfl rfl) P10_0;rw [hn0] at h7a;have h7:bt w0 Z w62 T g ⟨dW s,out⟩:=h7a;refine ak (ag (an (ah (mvp rfl (aa (aw rfl) (aa (ae aK rfl) (aG ns (uw w0 Z T g ⟨(dW s),out⟩ _ (h7.from_ (aj.rfl_ (a:=w62))) hF.chief h8 ⟨#[]⟩ (by decide)) ?_)))))));rintro v117 w63 ⟨rfl,h9⟩;refine ak (ag (an (ah (mvp rfl (aG nq (mq w0 Z T g ⟨ch (dW s) ⟨#[]⟩,out⟩ _ (h9.from_ (aj.rfl_ (a:=w63))) (hF.lead h8) rfl (show out.length≤800 by omega)) ?_)))));rintro v119 w64 ⟨rfl,h10⟩;refine ak (ag (ah (mvp rfl (aa (aw rfl) (aa (ae aK rfl) ?_)))))
  have h11:bt w0 Z w64 T g ⟨ch (dW s) ⟨#[]⟩,((⟨ch (dW s) ⟨#[]⟩,out⟩:Sp).all).out⟩:=by
   have e9:(⟨ch (dW s) ⟨#[]⟩,out⟩:Sp).all=⟨ch (dW s) ⟨#[]⟩,((⟨ch (dW s) ⟨#[]⟩,out⟩:Sp).all).out⟩:=by rw [m_]
   rw [←e9];exact h10.from_ (aj.rfl_ (a:=w64))
  obtain ⟨tag11,a11,O11,oc11,L11,hs11⟩:=h11.ex;refine aG nr (nJ w0 Z T g (ch (dW s) ⟨#[]⟩) ((⟨ch (dW s) ⟨#[]⟩,out⟩:Sp).all).out _ (h11.from_ (aj.rfl_ (a:=w64))) _ _ _ _ _ (hs11.from_ (aj.rfl_ (a:=w64))) (hF.lead h8) rfl) ?_;rintro v123 w65 ⟨rfl,h12,_⟩;refine ak (dA (fj rfl ?_));unfold pP
  first
   |(rw [if_pos h8t];exact ⟨rfl,hS9.from_ aj.rfl_⟩)
   |(rw [if_neg (by show ¬ eR s=true;rw [h8];decide)]
     refine ⟨rfl,?_⟩;show bt w0 Z _ T g ⟨bX (Sp.all ⟨ch (dW s) ⟨#[]⟩,out⟩).s,(Sp.all ⟨ch (dW s) ⟨#[]⟩,out⟩).out⟩;rw [show (Sp.all ⟨ch (dW s) ⟨#[]⟩,out⟩).s=ch (dW s) ⟨#[]⟩ by rw [m_]];exact h12.from_ (aj.rfl_ (a:=w65)))
end Go.Proofs.YtkpooenofjdpmaaGreat
namespace Go.Proofs.YtkpooenofjdpmaaGreat
open Go.Proofs.Tryz (prog)
open Go.RowKit
open Go.ChangeShapes Go.WideShapes Go.ChangeAt
theorem qk:aY prog 86=true:=by kernel_rfl
theorem o4:aY prog 161=true:=by kernel_rfl
theorem jB:aY prog 54=true:=by kernel_rfl
theorem gW:∀ (a0:Int) (a1:Int),prog.built 39 [(0,.int .i64 1),(4,.int .i64 a0),(5,.int .i64 a1)]=some #[.int .i64 1,.int .i64 0,.int .i64 0,.int .i64 0,.int .i64 a0,.int .i64 a1,.int .i64 0,.int .i64 0,.bool false,.slice none 0 0,.int .i64 0,.string ⟨#[]⟩,.bool false]:=by intros;kernel_rfl
theorem o5:aY prog 138=true:=by kernel_rfl
theorem qj:aY prog 97=true:=by kernel_rfl
def nB (s:Rf) (k:Int):Msg:={ zM with k:=1,t:=k,ix:=aQ s,lt:=du s.t s.es }
theorem ur (s:Rf):∀ (l:List Int) (p:Sp),(l.foldl (fun (p:Sp) k=>p.tell (nB s k)) p).s=p.s
 |[],_=>rfl
 |_::l,p=>ur s l (p.tell _)
theorem mX (s:Rf):∀ (l:List Int) (p:Sp),(l.foldl (fun (p:Sp) k=>p.tell (nB s k)) p).out.length=p.out.length+l.length
 |[],_=>rfl
 |x::l,p=>by
  show (l.foldl _ (p.tell (nB s x))).out.length=_;rw [mX s l (p.tell _)];show (p.out++[_]).length+l.length=p.out.length+(l.length+1);rw [List.length_append,List.length_singleton];omega
theorem uu {s:Rf} {l:List Int} {i:Nat} (h:i<l.length) (p:Sp):(l.take (i+1)).foldl (fun (p:Sp) k=>p.tell (nB s k)) p=((l.take i).foldl (fun (p:Sp) k=>p.tell (nB s k)) p).tell (nB s l[i]):=by
 rw [List.take_succ_eq_append_getElem h,List.foldl_append];rfl
theorem pY {s:Rf} (h:s.term≠ec):gQ s=ln ((bR (dH s)).foldl (fun (p:Sp) k=>p.tell (nB (dH s) k)) (⟨dH s,[]⟩:Sp)):=by
 unfold gQ;rw [if_neg h];rfl
theorem vh {s:Rf} (h:RfF s) (hr:s.role≠2):gh { s with term:=s.term+1,vote:=s.id,role:=1,leader:=0,votes:=[s.id],part:=⟨#[]⟩,partOf:=0 }=dH s:=by
 obtain ⟨h1,h2,h3,h4⟩:=h.free hr;unfold dH gh iQ;simp only [h1,h2,h3,h4]
theorem uj (w0:World) (Z:Nat→Prop) (T g:Nat) (p:Sp) (w:World) (h:bt w0 Z w T g p) (hF:RfF p.s) (hl:p.out.length≤700) :
 Rt prog 138 [.pointer (some ⟨g,0,none⟩)] w (fun v w'=>v=.tuple #[]∧bt w0 Z w' T g (ln p)):=by
 obtain ⟨s,out⟩:=p;obtain ⟨tag,a,O,oc,L,hs⟩:=h.ex;obtain ⟨E,Ec,V,Vc,X,Xc,M,Mc,Sn,Sc,Q,Qc,LL⟩:=a;have hb:Blk w g T (rfV s (⟨E,Ec,V,Vc,X,Xc,M,Mc,Sn,Sc,Q,Qc,LL⟩:Ra)++[Value.slice O L.length oc]).toArray:=hs.b
 have hll:L.length=out.length:=by
  have h9:=congrArg List.length hs.m.l;rw [List.length_map] at h9;exact h9
 have hF:RfF s:=hF;have hl:out.length≤700:=hl;have hvr:IR w V Vc s.votes:=kV (hs.f.v (by decide)).1;have hvl:=hF.vl;have hnn:=hF.n;refine enter (n:=14) Tryz.func138 rfl rfl rfl (an ?_);apply dR 10 [(2,eqp _),(3,eqp _),(4,eqp _),(5,eqp _),(6,eqp _),(7,eqp _),(8,eqp _),(9,eqp _),(10,eqp (.slice V s.votes.length Vc)),(11,eqp _)] (by repeat first | exact ej | refine ei ?_ | refine dO ?_) (by kernel_rfl) (by kernel_rfl) ⟨au _,au _,au _,au _,au _,au _,au _,au _,au _,au _,trivial⟩
 case hop=>
  constructor
  ·rintro-w2 D2;exact az (aP (v:=.pointer _) rfl) rfl
  constructor
  ·rintro-w3 D3;rintro _ rfl;exact az (aw rfl) rfl
  constructor
  ·rintro-w4 D4;rintro _ rfl;exact az (ae aK rfl) rfl
  constructor
  ·rintro-w5 D5;exact az (aP (v:=.pointer _) rfl) rfl
  constructor
  ·rintro-w6 D6;rintro _ rfl;exact az (aw rfl) rfl
  constructor
  ·rintro-w7 D7;rintro _ rfl;exact az (ae aK rfl) rfl
  constructor
  ·rintro-w8 D8;rintro _ rfl;exact az (ae aF rfl) rfl
  constructor
  ·rintro-w9 D9;rintro _ rfl;exact az (ae cP rfl) rfl
  constructor
  ·rintro-w10 D10;rintro _ rfl;exact az (aq aM rfl (by exact (show _=some (Value.slice V s.votes.length Vc) from cC (hb.from_ (aj.rfl_.next D10)) 14 rfl))) rfl
  constructor
  ·rintro-w11 D11;rintro _ rfl v11_10 rfl;refine ia qk ((q_ T g s _ _ _ (hb.from_ (aj.rfl_.next D11)) V Vc s.votes (hvr.1.from_ (aj.rfl_.next D11)) (by omega) hnn).mono ?_);rintro v _ ⟨rfl,E11'⟩;exact ⟨E11',rfl⟩
  exact trivial
 case hend=>
  intro w12 D12;rintro _ rfl _ rfl _ rfl _ rfl _ rfl _ rfl _ rfl _ rfl v10 rfl _ rfl;show St ..;refine ak (ag (xD rfl (fun Q13=>?_) (fun Q13=>?_)))
  ·have h11t:ep s.nodes s.votes=true:=by
    unfold ep;exact decide_eq_true Q13
   refine ah (mvp rfl (aG o4 (u1 w0 Z T g ⟨s,out⟩ _ (h.from_ (aj.rfl_.next D12)) hF hl) ?_));rintro v13 w14 ⟨rfl,h13⟩;refine ak (dA (fj rfl ?_));unfold ln
   first
    |(rw [if_pos h11t];exact ⟨rfl,h13.from_ (aj.rfl_ (a:=w14))⟩)
    |(rw [if_neg (by show ¬ ep s.nodes s.votes=true;rw [h11f];decide)];exact ⟨rfl,h.from_ (aj.rfl_ (a:=w14))⟩)
  have h11f:ep s.nodes s.votes=false:=by
   unfold ep;exact decide_eq_false (by omega)
  refine aR (dA (fj rfl ?_));unfold ln
  first
   |(rw [if_pos h11t];exact ⟨rfl,h13.from_ (aj.rfl_.next D12)⟩)
   |(rw [if_neg (by show ¬ ep s.nodes s.votes=true;rw [h11f];decide)];exact ⟨rfl,h.from_ (aj.rfl_.next D12)⟩)
theorem ug (w0:World) (Z:Nat→Prop) (T g:Nat) (s:Rf) (w:World) (h:bt w0 Z w T g ⟨s,[]⟩) (hF:RfF s) (hr:s.role≠2) :
 Rt prog 97 [.pointer (some ⟨g,0,none⟩)] w (fun v w'=>v=.tuple #[]∧bt w0 Z w' T g (gQ s)):=by
 obtain ⟨tag,a,O,oc,L,hs⟩:=h.ex;obtain ⟨E,Ec,V,Vc,X,Xc,M,Mc,Sn,Sc,Q,Qc,LL⟩:=a;have hb:Blk w g T (rfV s (⟨E,Ec,V,Vc,X,Xc,M,Mc,Sn,Sc,Q,Qc,LL⟩:Ra)++[Value.slice O L.length oc]).toArray:=hs.b
 have hll:L.length=0:=by
  have h9:=congrArg List.length hs.m.l;rw [List.length_map] at h9;exact h9
 have hB0:aj w w:=aj.rfl_;have hte:=hF.te;refine enter (n:=100) Tryz.func97 rfl rfl rfl (an (an (ah (mvp rfl (aa (aw rfl) (aa (ae aK rfl) (aa (ae aF rfl) (aa (ae cB rfl) (aa (aq ar rfl (by exact (show _=some (Value.int .i64 s.term) from cC (hb.from_ aj.rfl_) 3 rfl))) ?_)))))))));refine aa (bC rfl rfl) (ak (ag (xD rfl (fun Q1=>?_) (fun Q1=>?_))))
 ·have hte8:s.term=ec:=Q1;refine an (ah (mvp rfl (aa (aw rfl) (aa (ae aK rfl) ?_))));have hB16:aj w w:=aj.rfl_;refine aG jB (oQ T g s _ _ _ (hb.from_ aj.rfl_)) ?_;rintro v16 w2 ⟨rfl,hb16,hC16⟩;refine ak (ag (aC (ay (fj rfl ?_))));unfold gQ;rw [if_pos hte8];exact ⟨rfl,((h.set (s':=gh s) hs ((aj.toChg hB16).next hC16) (bj.same hs.f rfl rfl rfl rfl rfl rfl) hb16).2).from_ (aj.rfl_ (a:=w2))⟩
 have hte9:s.term≠ec:=Q1;have hFc:RfF (dH s):=hF.cand hte9;refine aR (ag (an (ah (mvp rfl (aa (aw rfl) (aa (ae aK rfl) (aa (ae aF rfl) (aa (ae cB rfl) (aa (aq ar rfl (by exact (show _=some (Value.int .i64 s.term) from cC (hb.from_ aj.rfl_) 3 rfl))) ?_)))))))));refine aa (bE rfl rfl (by omega)) (aa (aw rfl) (aa (ae aK rfl) (aa (ae aF rfl) ?_)));have hB0:aj w w:=aj.rfl_;refine aa (ae cB rfl) (cO (s':=({ s with term:=s.term+1 }:Rf)) (a':=(⟨E,Ec,V,Vc,X,Xc,M,Mc,Sn,Sc,Q,Qc,LL⟩:Ra)) (v:=.int _ _) b0 rfl rfl rfl ((hb.from_ aj.rfl_)) (by exact ⟨by decide,rfl⟩) ?_);intro w3 O2_0 P2_0;have hC1:Chg (fun k=>k=g) w w3:=(aj.toChg hB0).only O2_0 rfl;refine ak (ag (an (ah (mvp rfl (mvp rfl (mvp rfl (mvp rfl (aa (aw rfl) (aa (ae aK rfl) (aa (ae aF rfl) (aa (ae cW rfl) ?_)))))))))));refine aa (aq ar rfl (by exact (show _=some (Value.int .i64 s.id) from cC (P2_0.from_ (aj.rfl_ (a:=w3))) 0 rfl))) ?_;refine aa (aw rfl) (aa (ae aK rfl) (aa (ae aF rfl) ?_));have hM0:aj _ w3:=aj.rfl_;refine aa (ae eG rfl) (cO (s':=({ s with term:=s.term+1,vote:=s.id }:Rf)) (a':=(⟨E,Ec,V,Vc,X,Xc,M,Mc,Sn,Sc,Q,Qc,LL⟩:Ra)) (v:=.int _ _) b0 rfl rfl rfl ((P2_0.from_ aj.rfl_)) (by exact ⟨by decide,rfl⟩) ?_);intro w4 O3_0 P3_0;replace hC1:=(hC1.next (aj.toChg hM0)).only O3_0 rfl;refine aa (aw rfl) (aa (ae aK rfl) (aa (ae aF rfl) (aa (ae cF rfl) (cO (s':=({ s with term:=s.term+1,vote:=s.id,role:=1 }:Rf)) (a':=(⟨E,Ec,V,Vc,X,Xc,M,Mc,Sn,Sc,Q,Qc,LL⟩:Ra)) (v:=.int _ _) b0 rfl rfl rfl (P3_0) (by exact ⟨by decide,rfl⟩) ?_))));intro w5 O3_1 P3_1;replace hC1:=hC1.only O3_1 rfl;refine aa (aw rfl) (aa (ae aK rfl) (aa (ae aF rfl) (aa (ae er rfl) (cO (s':=({ s with term:=s.term+1,vote:=s.id,role:=1,leader:=0 }:Rf)) (a':=(⟨E,Ec,V,Vc,X,Xc,M,Mc,Sn,Sc,Q,Qc,LL⟩:Ra)) (v:=.int _ _) b0 rfl rfl rfl (P3_1) (by exact ⟨by decide,rfl⟩) ?_))));intro w6 O3_2 P3_2;replace hC1:=hC1.only O3_2 rfl;obtain ⟨hs3,h3⟩:=h.set (s':=({ s with term:=s.term+1,vote:=s.id,role:=1,leader:=0 }:Rf)) (a':=(⟨E,Ec,V,Vc,X,Xc,M,Mc,Sn,Sc,Q,Qc,LL⟩:Ra)) hs hC1 (bj.same hs.f rfl rfl rfl rfl rfl rfl) P3_2;have hb3:=P3_2;refine ak (ag (an (ah (mvp rfl (mvp rfl (aa (aw rfl) (aa (ae aK rfl) (aa (ae aF rfl) (aa (ae cW rfl) (aa (aq ar rfl (by exact (show _=some (Value.int .i64 s.id) from cC (hb3.from_ (aj.rfl_ (a:=w6))) 0 rfl))) ?_))))))))));have hz55:=((aj.rfl_ (a:=w6))).size;refine eO (v:=.int _ _) cD rfl rfl rfl ?_;intro b56 w7 E56 hb56 hk56;refine aa (aw rfl) (aa (ae aK rfl) (aa (ae aF rfl) (aa (ae cP rfl) ?_)));have hB56:aj _ w7:=((aj.rfl_ (a:=w6)).next E56);refine cO (s':=({ s with term:=s.term+1,vote:=s.id,role:=1,leader:=0,votes:=[s.id] }:Rf)) (a':=(⟨E,Ec,some ⟨b56,0,none⟩,1,X,Xc,M,Mc,Sn,Sc,Q,Qc,LL⟩:Ra)) (v:=.slice _ _ _) c6 rfl rfl rfl ((hb3.from_ ((aj.rfl_ (a:=w6)).next E56))) (by exact ⟨by decide,rfl⟩) ?_;intro w8 O4_0 P4_0;have hC4:Chg (fun k=>k=g) _ w8:=Chg.rfl_.only O4_0 rfl;refine ak (ag (an (ah (mvp rfl (mvp rfl (aa (aw rfl) (aa (ae aK rfl) (aa (ae aF rfl) ?_))))))));have hM0:aj _ w8:=aj.rfl_;refine aa (ae dv rfl) (cO (s':=({ s with term:=s.term+1,vote:=s.id,role:=1,leader:=0,votes:=[s.id],part:=⟨#[]⟩ }:Rf)) (a':=(⟨E,Ec,some ⟨b56,0,none⟩,1,X,Xc,M,Mc,Sn,Sc,Q,Qc,LL⟩:Ra)) (v:=.string _) oo rfl rfl rfl ((P4_0.from_ aj.rfl_)) (by exact ⟨by decide,rfl⟩) ?_);intro w9 O5_0 P5_0;replace hC4:=(hC4.next (aj.toChg hM0)).only O5_0 rfl;refine aa (aw rfl) (aa (ae aK rfl) (aa (ae aF rfl) (aa (ae di rfl) (cO (s':=({ s with term:=s.term+1,vote:=s.id,role:=1,leader:=0,votes:=[s.id],part:=⟨#[]⟩,partOf:=0 }:Rf)) (a':=(⟨E,Ec,some ⟨b56,0,none⟩,1,X,Xc,M,Mc,Sn,Sc,Q,Qc,LL⟩:Ra)) (v:=.int _ _) b0 rfl rfl rfl (P5_0) (by exact ⟨by decide,rfl⟩) ?_))));intro w10 O5_1 P5_1;replace hC4:=hC4.only O5_1 rfl;refine ak (ag (an (ah (mvp rfl (aa (aw rfl) (aa (ae aK rfl) ?_))))));have hM74:aj _ w10:=(aj.rfl_ (a:=w10));refine aG jB (oQ T g ({ s with term:=s.term+1,vote:=s.id,role:=1,leader:=0,votes:=[s.id],part:=⟨#[]⟩,partOf:=0 }:Rf) (⟨E,Ec,some ⟨b56,0,none⟩,1,X,Xc,M,Mc,Sn,Sc,Q,Qc,LL⟩:Ra) _ _ (P5_1.from_ (aj.rfl_ (a:=w10)))) ?_;rintro v74 w11 ⟨rfl,hb74,hC74⟩;have hf4:=(hs3.f.but (c:=1) (aj.toChg hB56)).votes (l:=[s.id]) rfl (qJ (Nat.zero_le _) hk56 (Nat.le_refl _) (by show 1≤maxLen;unfold maxLen;omega) rfl rfl) (fun q hq=>by cases hq;exact dp (by rw [hb56];exact hz55));obtain ⟨hs7,h7⟩:=h3.put (s':=gh ({ s with term:=s.term+1,vote:=s.id,role:=1,leader:=0,votes:=[s.id],part:=⟨#[]⟩,partOf:=0 }:Rf)) (a':=(⟨E,Ec,some ⟨b56,0,none⟩,1,X,Xc,M,Mc,Sn,Sc,Q,Qc,LL⟩:Ra)) hs3 (aj.toChg hB56) (.inl (by decide)) (bj.same hf4 rfl rfl rfl rfl rfl rfl) ((hC4.next (aj.toChg hM74)).next hC74) hb74;rw [vh hF hr] at hs7 h7;refine ak (ag (an (ah (mvp rfl (aa (aw rfl) (aa (ae aK rfl) (aG fz (jk T g (dH s) _ _ _ (hs7.b.from_ (aj.rfl_ (a:=w11))) (hs7.f.rd.e.from_ (aj.rfl_ (a:=w11))) hFc.lg) ?_)))))));rintro v79 w12 ⟨rfl,E79⟩;refine mvt rfl (aa (aS rfl rfl) (aa (aS rfl rfl) (asi rfl (asi rfl (ak (ag (an (an (ah (mvp rfl (aa (aw rfl) (aa (ae aK rfl) ?_))))))))))));have hz84:=(((aj.rfl_ (a:=w11)).next E79)).size;refine aG j7 (kW T g (dH s) _ _ _ (hs7.b.from_ ((aj.rfl_ (a:=w11)).next E79)) (by have:=hFc.n;omega)) ?_;rintro v85 w13 ⟨⟨A85,c85,rfl,ho85⟩,E85⟩
 have h8:=h7.at_ (Z':=fun k=>Z k∨A85.map (·.block)=some k) (((aj.rfl_ (a:=w11)).next E79).next E85) (fun k hk=>by
  have hz7:=((((aj.rfl_ (a:=w11)).next E79).next E85)).size;rcases hk with e | e
  ·exact ⟨Nat.lt_of_lt_of_le (h7.zw k e) hz7,.inl e⟩
  ·have:=ee ho85 k e;exact ⟨this.2,.inr (by omega)⟩)
 have hB7:aj _ w13:=(((aj.rfl_ (a:=w11)).next E79).next E85);have ho7:=ho85;obtain ⟨Z7,hZ7⟩:∃ Z7,Z7=fun k=>Z k∨A85.map (·.block)=some k:=⟨_,rfl⟩
 rw [←hZ7] at h8;have hzi:∀ k,Z k→Z7 k:=fun k hk=>by rw [hZ7];exact .inl hk
 have hzr:∀ k,A85.map (·.block)=some k→Z7 k:=fun k hk=>by rw [hZ7];exact .inr hk
 have hol:=iH (dH s);have hnn:=hFc.n;refine aa (bm bJ rfl) (mvi rfl (ak (ag (bf (cz (G:=Nat) [5,88,89,90,91,92,93,94,95,96,97] (fun i=>[(87,.int .i64 (i:Nat))]) (fun i w'=>i≤(bR (dH s)).length∧bt w13 Z7 w' T g (((bR (dH s)).take i).foldl (fun (p:Sp) k=>p.tell (nB (dH s) k)) (⟨dH s,[]⟩:Sp))) (fun i=>(bR (dH s)).length-i) (0) ⟨rfl,trivial⟩ ?_ ?_)))))
 ·exact ⟨Nat.zero_le _,h8⟩
 rintro i ρ14 w14 ⟨hi,h15⟩;refine an (ah (aa (bG rfl rfl) (ak (ag (an (xD rfl (fun Q15=>?_) (fun Q15=>?_)))))))
 ·have hi9:i<(bR (dH s)).length:=by omega
  obtain ⟨g7,rfl⟩:=dP ho7 (by omega);have ho8:=dY ho7 h15.fr (fun q hq e=>e (hzr q hq));have hc8:=eJ (l:=(bR (dH s))) ho8 i hi9;obtain ⟨tg9,a9,O9,oc9,L9,hs9⟩:=h15.ex
  have hl9:L9.length≤7:=by
   have h1:=congrArg List.length hs9.m.l;rw [List.length_map,mX,List.length_take] at h1;have h2:((⟨dH s,[]⟩:Sp).out).length=0:=rfl;omega
  refine aR (ag (an (bf (an (ah (aa (cH bK rfl rfl (by omega)) (aa (aq ar rfl (by exact dF (aj.rfl_ (a:=w14)) hc8)) ?_)))))));refine asi rfl (ak (ag (ah (mvp rfl (mvi rfl (mvi rfl (mvi rfl (aa (cM (l:=[(0,.const (.int .i64 1)),(4,.tmp 93),(5,.tmp 94)]) (gW _ _)) (aG jx (qI _ Z7 T g (((bR (dH s)).take i).foldl (fun (p:Sp) k=>p.tell (nB (dH s) k)) (⟨dH s,[]⟩:Sp)) _ (h15.from_ (aj.rfl_ (a:=w14))) tg9 a9 O9 oc9 L9 (hs9.from_ (aj.rfl_ (a:=w14))) (by omega) { zM with k:=1,ix:=aQ (dH s),lt:=du (dH s).t (dH s).es } (bR (dH s))[i] ⟨ea,Col.none⟩) ?_)))))))));rintro v96 w16 ⟨rfl,h16⟩;refine ak (bN (ag (ah (aa (bE rfl rfl (by omega)) (mvi rfl (ak ?_))))));refine cK (i+1) ⟨(by first | rfl | (refine br ?_;omega)),trivial⟩ (by (iterate 24 refine bQ rfl ?_);exact b_) ⟨?_,?_⟩
  ·exact ⟨by omega,by rw [uu hi9];exact h16.from_ (aj.rfl_ (a:=w16))⟩
  ·omega
 obtain rfl:i=(bR (dH s)).length:=by omega
 rw [List.take_length] at h15;have h9:=h7.back hB7 h15 hzi;refine bZ (bg (bg (bF (ag (ah (mvp rfl (aG o5 (uj w0 Z T g ((bR (dH s)).foldl (fun (p:Sp) k=>p.tell (nB (dH s) k)) (⟨dH s,[]⟩:Sp)) _ (h9.from_ (aj.rfl_ (a:=w14))) (by rw [ur];exact hFc) (by rw [mX];show 0+_≤700;have:=hFc.n;omega)) ?_)))))));rintro v99 w17 ⟨rfl,h17⟩;refine ak (dA (fj rfl ?_));rw [pY hte9];exact ⟨rfl,h17.from_ (aj.rfl_ (a:=w17))⟩
theorem uK (w0:World) (Z:Nat→Prop) (T g:Nat) (s:Rf) (w:World) (h:bt w0 Z w T g ⟨s,[]⟩) (hF:RfF s) :
 Rt prog 56 [.pointer (some ⟨g,0,none⟩)] w (fun v w'=>v=.tuple #[]∧bt w0 Z w' T g (gj s)):=by
 obtain ⟨tag,a,O,oc,L,hs⟩:=h.ex;obtain ⟨E,Ec,V,Vc,X,Xc,M,Mc,Sn,Sc,Q,Qc,LL⟩:=a;have hb:Blk w g T (rfV s (⟨E,Ec,V,Vc,X,Xc,M,Mc,Sn,Sc,Q,Qc,LL⟩:Ra)++[Value.slice O L.length oc]).toArray:=hs.b
 have hll:L.length=0:=by
  have h9:=congrArg List.length hs.m.l;rw [List.length_map] at h9;exact h9
 have hB0:aj w w:=aj.rfl_;have hel:=hF.el;have hrn:=hF.rn;have hti:=hF.ti;have hFe:RfF ({ s with elapsed:=min (s.elapsed+1) 1099511627775 }:Rf):=hF.elapse (by omega);refine enter (n:=64) Tryz.func56 rfl rfl rfl (an (ah (mvp rfl (mvp rfl (aa (aw rfl) (aa (ae aK rfl) (aa (ae aF rfl) (aa (ae dk rfl) (aa (aq ar rfl (by exact (show _=some (Value.int .i64 s.elapsed) from cC (hb.from_ aj.rfl_) 11 rfl))) ?_)))))))));refine aa (bE rfl rfl (by omega)) (aa (kO rfl rfl) (ed (t:=10) (v:=.int _ _) (v':=.int .i64 (min (s.elapsed+1) 1099511627775)) rfl (by exact br (by omega)) ?_));refine aa (aw rfl) (aa (ae aK rfl) (aa (ae aF rfl) (aa (ae dk rfl) ?_)));have hB0:aj w w:=aj.rfl_;refine cO (s':=({ s with elapsed:=(min (s.elapsed+1) 1099511627775) }:Rf)) (a':=(⟨E,Ec,V,Vc,X,Xc,M,Mc,Sn,Sc,Q,Qc,LL⟩:Ra)) (v:=.int _ _) b0 rfl rfl rfl ((hb.from_ aj.rfl_)) (by exact ⟨by decide,rfl⟩) ?_;intro w1 O0_0 P0_0;have hC1:Chg (fun k=>k=g) w w1:=(aj.toChg hB0).only O0_0 rfl;obtain ⟨hs3,h3⟩:=h.set (s':=({ s with elapsed:=(min (s.elapsed+1) 1099511627775) }:Rf)) (a':=(⟨E,Ec,V,Vc,X,Xc,M,Mc,Sn,Sc,Q,Qc,LL⟩:Ra)) hs hC1 (bj.same hs.f rfl rfl rfl rfl rfl rfl) P0_0;have hb3:=P0_0;refine ak (ag (an (an (ah (mvp rfl (aa (aw rfl) (aa (ae aK rfl) (aa (ae aF rfl) (aa (ae cF rfl) (aa (aq ar rfl (by exact (show _=some (Value.int .i64 s.role) from cC (hb3.from_ (aj.rfl_ (a:=w1))) 2 rfl))) ?_))))))))));refine aa (dt rfl rfl) (ak (ag (xA rfl (fun Q2=>?_) (fun Q2=>?_))))
 ·refine an (an ?_);apply dR 13 [(22,eqp _),(23,eqp _),(24,eqp _),(25,eqp _),(26,eqp _),(27,eqp _),(28,eqp _),(29,eqp _),(30,eqp _),(31,eqp _),(32,eqp _),(33,eqp _),(34,eqp _)] (by repeat first | exact ej | refine ei ?_ | refine dO ?_) (by kernel_rfl) (by kernel_rfl) ⟨au _,au _,au _,au _,au _,au _,au _,au _,au _,au _,au _,au _,au _,trivial⟩
  case hop=>
   constructor
   ·rintro-w4 D4;exact az (aP (v:=.pointer _) rfl) rfl
   constructor
   ·rintro-w5 D5;rintro _ rfl;exact az (aw rfl) rfl
   constructor
   ·rintro-w6 D6;rintro _ rfl;exact az (ae aK rfl) rfl
   constructor
   ·rintro-w7 D7;rintro _ rfl;exact az (ae aF rfl) rfl
   constructor
   ·rintro-w8 D8;rintro _ rfl;exact az (ae dk rfl) rfl
   constructor
   ·rintro-w9 D9;rintro _ rfl;exact az (aq ar rfl (by exact (show _=some (Value.int .i64 (min (s.elapsed+1) 1099511627775)) from cC (hb3.from_ ((aj.rfl_ (a:=w1)).next D9)) 11 rfl))) rfl
   constructor
   ·rintro-w10 D10;exact az (aP (v:=.pointer _) rfl) rfl
   constructor
   ·rintro-w11 D11;rintro _ rfl;exact az (aw rfl) rfl
   constructor
   ·rintro-w12 D12;rintro _ rfl;exact az (ae aK rfl) rfl
   constructor
   ·rintro-w13 D13;rintro _ rfl;exact az (ae aF rfl) rfl
   constructor
   ·rintro-w14 D14;rintro _ rfl;exact az (ae eh rfl) rfl
   constructor
   ·rintro-w15 D15;rintro _ rfl;exact az (aq ar rfl (by exact (show _=some (Value.int .i64 s.timeout) from cC (hb3.from_ ((aj.rfl_ (a:=w1)).next D15)) 12 rfl))) rfl
   constructor
   ·rintro-w16 D16;rintro _ rfl _ rfl;exact az (kP rfl rfl) rfl
   exact trivial
  case hend=>
   intro w17 D17;rintro _ rfl _ rfl _ rfl _ rfl _ rfl _ rfl _ rfl _ rfl _ rfl _ rfl _ rfl _ rfl _ rfl;show St ..;refine ak (ag (xD rfl (fun Q18=>?_) (fun Q18=>?_)))
   ·refine ah (mvp rfl (aG qj (ug w0 Z T g ({ s with elapsed:=min (s.elapsed+1) 1099511627775 }:Rf) _ (h3.from_ ((aj.rfl_ (a:=w1)).next D17)) hFe (show s.role≠2 by omega)) ?_));rintro v36 w19 ⟨rfl,h7⟩;refine ak (ag (aC (ay (fj rfl (⟨rfl,?_⟩)))));show bt w0 Z _ T g (if s.role=2 then (if 2≤min (s.elapsed+1) 1099511627775 then Sp.all ⟨({ s with elapsed:=0,round:=min (s.round+1) 1099511627775 }:Rf),[]⟩ else ⟨({ s with elapsed:=min (s.elapsed+1) 1099511627775 }:Rf),[]⟩) else if s.timeout≤min (s.elapsed+1) 1099511627775 then gQ ({ s with elapsed:=min (s.elapsed+1) 1099511627775 }:Rf) else ⟨({ s with elapsed:=min (s.elapsed+1) 1099511627775 }:Rf),[]⟩)
    first
     |(rw [if_neg (show ¬ s.role=2 by omega),if_pos (by omega)];exact h7.from_ (aj.rfl_ (a:=w19)))
     |(rw [if_neg (show ¬ s.role=2 by omega),if_neg (by omega)];exact h3.from_ (aj.rfl_ (a:=w19)))
     |(rw [if_pos (show s.role=2 by omega),if_pos (by omega)];exact h8.from_ (aj.rfl_ (a:=w19)))
     |(rw [if_pos (show s.role=2 by omega),if_neg (by omega)];exact h3.from_ (aj.rfl_ (a:=w19)))
   refine aR (ag (aC (ay (fj rfl (⟨rfl,?_⟩)))));show bt w0 Z _ T g (if s.role=2 then (if 2≤min (s.elapsed+1) 1099511627775 then Sp.all ⟨({ s with elapsed:=0,round:=min (s.round+1) 1099511627775 }:Rf),[]⟩ else ⟨({ s with elapsed:=min (s.elapsed+1) 1099511627775 }:Rf),[]⟩) else if s.timeout≤min (s.elapsed+1) 1099511627775 then gQ ({ s with elapsed:=min (s.elapsed+1) 1099511627775 }:Rf) else ⟨({ s with elapsed:=min (s.elapsed+1) 1099511627775 }:Rf),[]⟩)
   first
    |(rw [if_neg (show ¬ s.role=2 by omega),if_pos (by omega)];exact h7.from_ ((aj.rfl_ (a:=w1)).next D17))
    |(rw [if_neg (show ¬ s.role=2 by omega),if_neg (by omega)];exact h3.from_ ((aj.rfl_ (a:=w1)).next D17))
    |(rw [if_pos (show s.role=2 by omega),if_pos (by omega)];exact h8.from_ ((aj.rfl_ (a:=w1)).next D17))
    |(rw [if_pos (show s.role=2 by omega),if_neg (by omega)];exact h3.from_ ((aj.rfl_ (a:=w1)).next D17))
 refine aR (ag (an (ah (mvp rfl (aa (aw rfl) (aa (ae aK rfl) (aa (ae aF rfl) (aa (ae dk rfl) (aa (aq ar rfl (by exact (show _=some (Value.int .i64 (min (s.elapsed+1) 1099511627775)) from cC (hb3.from_ (aj.rfl_ (a:=w1))) 11 rfl))) ?_)))))))));refine aa (kP rfl rfl) (ak (ag (xD rfl (fun Q20=>?_) (fun Q20=>?_))))
 ·refine an (ah (mvp rfl (aa (aw rfl) (aa (ae aK rfl) (aa (ae aF rfl) (aa (ae dk rfl) ?_))))));have hB5:aj _ w1:=(aj.rfl_ (a:=w1));refine cO (s':=({ s with elapsed:=0 }:Rf)) (a':=(⟨E,Ec,V,Vc,X,Xc,M,Mc,Sn,Sc,Q,Qc,LL⟩:Ra)) (v:=.int _ _) b0 rfl rfl rfl ((hb3.from_ (aj.rfl_ (a:=w1)))) (by exact ⟨by decide,rfl⟩) ?_;intro w21 O5_0 P5_0;have hC5:Chg (fun k=>k=g) _ w21:=(aj.toChg hB5).only O5_0 rfl;refine ak (ag (an (ah (mvp rfl (mvp rfl (aa (aw rfl) (aa (ae aK rfl) (aa (ae aF rfl) (aa (ae cL rfl) (aa (aq ar rfl (by exact (show _=some (Value.int .i64 s.round) from cC (P5_0.from_ (aj.rfl_ (a:=w21))) 18 rfl))) ?_))))))))));refine aa (bE rfl rfl (by omega)) (aa (kO rfl rfl) (ed (t:=57) (v:=.int _ _) (v':=.int .i64 (min (s.round+1) 1099511627775)) rfl (by exact br (by omega)) ?_));refine aa (aw rfl) (aa (ae aK rfl) (aa (ae aF rfl) (aa (ae cL rfl) ?_)));have hB6:aj _ w21:=(aj.rfl_ (a:=w21));refine cO (s':=({ s with elapsed:=0,round:=min (s.round+1) 1099511627775 }:Rf)) (a':=(⟨E,Ec,V,Vc,X,Xc,M,Mc,Sn,Sc,Q,Qc,LL⟩:Ra)) (v:=.int _ _) b0 rfl rfl rfl ((P5_0.from_ (aj.rfl_ (a:=w21)))) (by exact ⟨by decide,rfl⟩) ?_;intro w22 O6_0 P6_0;obtain ⟨hs6,h6⟩:=h3.set (s':=({ s with elapsed:=0,round:=min (s.round+1) 1099511627775 }:Rf)) (a':=(⟨E,Ec,V,Vc,X,Xc,M,Mc,Sn,Sc,Q,Qc,LL⟩:Ra)) hs3 ((hC5.next (aj.toChg hB6)).only O6_0 rfl) (bj.same hs3.f rfl rfl rfl rfl rfl rfl) P6_0;refine ak (ag (ah (mvp rfl (aG nq (mq w0 Z T g ⟨({ s with elapsed:=0,round:=min (s.round+1) 1099511627775 }:Rf),[]⟩ _ (h6.from_ (aj.rfl_ (a:=w22))) (hF.beat (by omega) (by omega)) (show s.role=2 by omega) (by show 0≤800;omega)) ?_))));rintro v63 w23 ⟨rfl,h8⟩;refine ak (dA (fj rfl (⟨rfl,?_⟩)));show bt w0 Z _ T g (if s.role=2 then (if 2≤min (s.elapsed+1) 1099511627775 then Sp.all ⟨({ s with elapsed:=0,round:=min (s.round+1) 1099511627775 }:Rf),[]⟩ else ⟨({ s with elapsed:=min (s.elapsed+1) 1099511627775 }:Rf),[]⟩) else if s.timeout≤min (s.elapsed+1) 1099511627775 then gQ ({ s with elapsed:=min (s.elapsed+1) 1099511627775 }:Rf) else ⟨({ s with elapsed:=min (s.elapsed+1) 1099511627775 }:Rf),[]⟩)
  first
   |(rw [if_neg (show ¬ s.role=2 by omega),if_pos (by omega)];exact h7.from_ (aj.rfl_ (a:=w23)))
   |(rw [if_neg (show ¬ s.role=2 by omega),if_neg (by omega)];exact h3.from_ (aj.rfl_ (a:=w23)))
   |(rw [if_pos (show s.role=2 by omega),if_pos (by omega)];exact h8.from_ (aj.rfl_ (a:=w23)))
   |(rw [if_pos (show s.role=2 by omega),if_neg (by omega)];exact h3.from_ (aj.rfl_ (a:=w23)))
 refine aR (dA (fj rfl (⟨rfl,?_⟩)));show bt w0 Z _ T g (if s.role=2 then (if 2≤min (s.elapsed+1) 1099511627775 then Sp.all ⟨({ s with elapsed:=0,round:=min (s.round+1) 1099511627775 }:Rf),[]⟩ else ⟨({ s with elapsed:=min (s.elapsed+1) 1099511627775 }:Rf),[]⟩) else if s.timeout≤min (s.elapsed+1) 1099511627775 then gQ ({ s with elapsed:=min (s.elapsed+1) 1099511627775 }:Rf) else ⟨({ s with elapsed:=min (s.elapsed+1) 1099511627775 }:Rf),[]⟩)
 first
  |(rw [if_neg (show ¬ s.role=2 by omega),if_pos (by omega)];exact h7.from_ (aj.rfl_ (a:=w1)))
  |(rw [if_neg (show ¬ s.role=2 by omega),if_neg (by omega)];exact h3.from_ (aj.rfl_ (a:=w1)))
  |(rw [if_pos (show s.role=2 by omega),if_pos (by omega)];exact h8.from_ (aj.rfl_ (a:=w1)))
  |(rw [if_pos (show s.role=2 by omega),if_neg (by omega)];exact h3.from_ (aj.rfl_ (a:=w1)))
theorem j8:aY prog 70=true:=by kernel_rfl
theorem qf:aY prog 110=true:=by kernel_rfl
theorem sH (s:Rf) (i:Int) (E:Option Addr) (c:Nat) (w:World) (h:ct w (.slice E s.es.length c) s.es) (hm:cg s.b s.t s.es=true):Rt prog 82 [.agg #[.int .i64 s.b,.int .i64 s.t,.slice E s.es.length c],.int .i64 i] w fun v w'=>(∃ (tt:Int) (bb:Bool),v=.tuple #[.int .i64 tt,.bool bb]∧((s.b≤i∧i≤aQ s)→bb=true∧tt=ek s.b s.t s.es i))∧aj w w':=
 (Rt.of (lq s.b s.t i (.slice E s.es.length c) s.es w h hm)).mono fun v w' h9=>⟨by
  rw [h9.1];unfold kp;by_cases hi:s.b≤i∧i≤cX s.b s.es
  ·rw [if_pos hi];exact ⟨_,_,rfl,fun _=>⟨rfl,rfl⟩⟩
  ·rw [if_neg hi];exact ⟨_,_,rfl,fun h=>absurd h hi⟩,h9.2⟩
theorem qE (w0:World) (Z:Nat→Prop) (T g:Nat) (s:Rf) (out:List Msg) (w:World) (h:bt w0 Z w T g ⟨s,out⟩) (tag:Nat→Nat) (a:Ra) (O:Option Addr) (oc:Nat) (L:List Msg) (hs:fF w Z T g tag ⟨s,out⟩ a O oc L) (hF:RfF s) (hr:s.role=2) :
 Rt prog 74 [.pointer (some ⟨g,0,none⟩)] w (fun v w'=>v=.tuple #[]∧bt w0 Z w' T g ⟨bX s,out⟩∧∃ tag',fF w' Z T g tag' ⟨bX s,out⟩ a O oc L):=by
 obtain ⟨E,Ec,V,Vc,X,Xc,M,Mc,Sn,Sc,Q,Qc,LL⟩:=a;have hb:Blk w g T (rfV s (⟨E,Ec,V,Vc,X,Xc,M,Mc,Sn,Sc,Q,Qc,LL⟩:Ra)++[Value.slice O L.length oc]).toArray:=hs.b
 have hll:L.length=out.length:=by
  have h9:=congrArg List.length hs.m.l;rw [List.length_map] at h9;exact h9
 have hbl:=hF.last;have hlb:cX s.b s.es=aQ s:=rfl;have he:ct w (.slice E s.es.length Ec) s.es:=hs.f.rd.e;have hnn:=hF.n;have hid:=hF.i;have hzw:=h.zw;obtain ⟨k,hk⟩:∃ k:Nat,s.id=(k:Int)+1:=⟨(s.id-1).toNat,by omega⟩;have hMl:s.mtch.length=s.nodes.toNat:=by rw [hF.ma.1,fc hr]
 have hkM:k<s.mtch.length:=by omega
 obtain ⟨gM,rfl⟩:∃ q,M=some ⟨q,0,none⟩:=dP (n:=s.mtch.length) (hs.f.m (by decide)).1 (by omega);have hMo:w.ownsRow 0 3 1 (.slice (some ⟨gM,0,none⟩) s.mtch.length Mc) s.mtch.length (s.mtch.map iV):=(hs.f.m (by decide)).1;have hMc:=eJ (l:=s.mtch) hMo k hkM;have hFs:=hF.settle hr;have hp1:cV s.mtch s.id (aQ s)=s.mtch.set k (aQ s):=by unfold cV;rw [show (s.id-1).toNat=k by omega]
 have hfit:Fit (cV s.mtch s.id (aQ s)):=⟨by rw [fk];omega,by rw [fk];omega,fun x hx=>(hFs.ma.2 x hx).1⟩;have hmed:0≤med (cV s.mtch s.id (aQ s))∧med (cV s.mtch s.id (aQ s))≤aQ s:=hFs.ma.2 _ (ks hfit.1);have hco:=hF.co;refine enter (n:=65) Tryz.func74 rfl rfl rfl (an (ah (mvp rfl (aG j8 (mA T g s _ _ _ (hb.from_ aj.rfl_) (he.from_ aj.rfl_) hF.lg) ?_))));rintro v9 w1 ⟨rfl,E9⟩;refine mvt rfl (aa (aS rfl rfl) (aa (aS rfl rfl) (asi rfl (asi rfl (ak (ag (an ?_)))))));apply dR 12 [(12,eqp _),(13,eqp _),(14,eqp _),(15,eqp _),(16,eqp _),(17,eqp _),(18,eqp _),(19,eqp _),(20,eqp _),(21,eqp _),(22,eqp (.int .i64 (k:Nat))),(23,eqp _)] (by repeat first | exact ej | refine ei ?_ | refine dO ?_) (by kernel_rfl) (by kernel_rfl) ⟨au _,au _,au _,au _,au _,au _,au _,au _,au _,au _,au _,au _,trivial⟩
 case hop=>
  constructor
  ·rintro-w3 D3;exact az (aP (v:=.pointer _) rfl) rfl
  constructor
  ·rintro-w4 D4;rintro _ rfl;exact az (aw rfl) rfl
  constructor
  ·rintro-w5 D5;rintro _ rfl;exact az (ae bB rfl) rfl
  constructor
  ·rintro-w6 D6;rintro _ rfl;exact az (ae bM rfl) rfl
  constructor
  ·rintro-w7 D7;rintro _ rfl;exact az (aq aM rfl (by exact (show _=some (Value.slice (some ⟨gM,0,none⟩) s.mtch.length Mc) from cC (hb.from_ ((aj.rfl_.next E9).next D7)) 16 rfl))) rfl
  constructor
  ·rintro-w8 D8;exact az (aP (v:=.pointer _) rfl) rfl
  constructor
  ·rintro-w9 D9;rintro _ rfl;exact az (aw rfl) rfl
  constructor
  ·rintro-w10 D10;rintro _ rfl;exact az (ae bB rfl) rfl
  constructor
  ·rintro-w11 D11;rintro _ rfl;exact az (ae cW rfl) rfl
  constructor
  ·rintro-w12 D12;rintro _ rfl;exact az (aq ar rfl (by exact (show _=some (Value.int .i64 s.id) from cC (hb.from_ ((aj.rfl_.next E9).next D12)) 0 rfl))) rfl
  constructor
  ·rintro-w13 D13;rintro _ rfl;exact az (gk (dM rfl rfl (by omega)) (br (by omega))) rfl
  constructor
  ·rintro-w14 D14;exact az (aP (v:=.int _ _) rfl) rfl
  exact trivial
 case hend=>
  intro w15 D15;rintro _ rfl _ rfl _ rfl _ rfl _ rfl _ rfl _ rfl _ rfl _ rfl _ rfl v22 rfl _ rfl;show St ..;refine aa (cH bK rfl rfl (by omega)) ?_;have hB0:aj w w15:=((aj.rfl_.next E9).next D15);refine jG (xs:=s.mtch.map iV) b0 rfl rfl rfl (hMo.kept_from ((aj.rfl_.next E9).next D15)) (by omega) ?_;intro w16 O0 P0
  have hMo1:(w16).ownsRow 0 3 1 (.slice (some ⟨gM,0,none⟩) (cV s.mtch s.id (aQ s)).length Mc) (cV s.mtch s.id (aQ s)).length ((cV s.mtch s.id (aQ s)).map iV):=by
   rw [fk,hp1,←qD];exact P0
  have hgM7:tag gM=3:=(hs.f.m (by decide)).2 gM rfl;have hC1:Chg (fun k=>tag k=3) w w16:=(aj.toChg hB0).only O0 hgM7
  have hb1:Blk w16 g T (rfV ({ s with mtch:=cV s.mtch s.id (aQ s) }:Rf) (⟨E,Ec,V,Vc,X,Xc,some ⟨gM,0,none⟩,Mc,Sn,Sc,Q,Qc,LL⟩:Ra)++[Value.slice O L.length oc]).toArray:=by
   have h9:=(hb.from_ hB0).only O0 (fun e=>by have:=hs.gc;rw [e,hgM7] at this;cases this)
   have e9:rfV ({ s with mtch:=cV s.mtch s.id (aQ s) }:Rf) (⟨E,Ec,V,Vc,X,Xc,some ⟨gM,0,none⟩,Mc,Sn,Sc,Q,Qc,LL⟩:Ra)=rfV s (⟨E,Ec,V,Vc,X,Xc,some ⟨gM,0,none⟩,Mc,Sn,Sc,Q,Qc,LL⟩:Ra):=by
    unfold rfV;simp only [fk]
   rw [e9];exact h9
  have hf1:=(hs.f.but hC1).mtch (l:=cV s.mtch s.id (aQ s)) rfl hMo1 (fun q hq=>by cases hq;rw [cw (dD hMo _ rfl)];exact hgM7);obtain ⟨hs1,h1⟩:=h.put hs hC1 (.inl (by decide)) hf1 (Chg.rfl_ (U:=fun k=>k=g)) hb1;have he1:ct w16 (.slice E s.es.length Ec) s.es:=hs1.f.rd.e;refine ak (ag (an (ah (mvp rfl (aa (aw rfl) (aa (ae bB rfl) (aa (ae bM rfl) (aa (aq aM rfl (by exact (show _=some (Value.slice (some ⟨gM,0,none⟩) (cV s.mtch s.id (aQ s)).length Mc) from cC (hb1.from_ (aj.rfl_ (a:=w16))) 16 rfl))) ?_))))))));refine aG qf (pD (some ⟨gM,0,none⟩) Mc (cV s.mtch s.id (aQ s)) _ ((dI.own hMo1).2.from_ (aj.rfl_ (a:=w16))) hfit) ?_;rintro v30 w17 ⟨rfl,E30⟩;refine asi rfl (ak (ag (an (ah (mvp rfl (aa (aw rfl) (aa (ae bB rfl) (aa (ae bk rfl) (aa (aT (cs:=[.int .i64 s.b,.int .i64 s.t,.slice E s.es.length Ec]) cZ cI rfl (jh (hb1.from_ ((aj.rfl_ (a:=w16)).next E30)))) (mvi rfl (aG ng (sH s (med (cV s.mtch s.id (aQ s))) E Ec _ (he1.from_ ((aj.rfl_ (a:=w16)).next E30)) hF.lg) ?_)))))))))));rintro v38 w18 ⟨⟨tt,bb,rfl,hib⟩,E38⟩;refine mvt rfl (aa (aS rfl rfl) (aa (aS rfl rfl) (asi rfl (asb rfl (ak (ag (an (ah (mvi rfl (mvp rfl (aa (aw rfl) ?_)))))))))));refine aa (ae bB rfl) (aa (ae cA rfl) (aa (aq ar rfl (by exact (show _=some (Value.int .i64 s.commit) from cC (hb1.from_ (((aj.rfl_ (a:=w16)).next E30).next E38)) 10 rfl))) ?_));refine aa (bH rfl rfl) (mvb rfl (wK (t:=48) rfl (fun Q19=>?_) (fun Q19=>?_)))
  ·refine af rfl (mvb rfl (aa (ao (v:=.bool _) rfl rfl) (mvb rfl (aE (t:=51) rfl (fun Q20=>?_) (fun Q20=>?_)))))
   ·refine af rfl (mvi rfl (af rfl (mvp rfl (af rfl (aa (aw rfl) (af rfl (aa (ae bB rfl) (af rfl ?_))))))));refine aa (ae cB rfl) (af rfl (aa (aq ar rfl (by exact (show _=some (Value.int .i64 s.term) from cC (hb1.from_ (((aj.rfl_ (a:=w16)).next E30).next E38)) 3 rfl))) ?_));refine af rfl (aa (bC rfl rfl) (aa (ao (v:=.bool _) rfl rfl) (ak (ag (xD rfl (fun Q21=>?_) (fun Q21=>?_))))))
    ·refine ah (mvp rfl (mvi rfl (aa (aw rfl) (aa (ae bB rfl) (aa (ae cA rfl) ?_)))));have hB3:aj _ w18:=(((aj.rfl_ (a:=w16)).next E30).next E38);refine cO (s':=({ s with mtch:=cV s.mtch s.id (aQ s),commit:=med (cV s.mtch s.id (aQ s)) }:Rf)) (a':=(⟨E,Ec,V,Vc,X,Xc,some ⟨gM,0,none⟩,Mc,Sn,Sc,Q,Qc,LL⟩:Ra)) (v:=.int _ _) b0 rfl rfl rfl ((hb1.from_ (((aj.rfl_ (a:=w16)).next E30).next E38))) (by exact ⟨by decide,rfl⟩) ?_;intro w22 O5_0 P5_0;refine ak (dA (fj rfl ?_))
     first
      |(have e9:bX s=({ s with mtch:=cV s.mtch s.id (aQ s),commit:=med (cV s.mtch s.id (aQ s)) }:Rf):=by unfold bX;simp only;rw [if_pos ⟨by omega,by have h8:=(hib ⟨by omega,by omega⟩).2;omega⟩]
        rw [e9];obtain ⟨hs2,h2⟩:=h1.set (s':=({ s with mtch:=cV s.mtch s.id (aQ s),commit:=med (cV s.mtch s.id (aQ s)) }:Rf)) (a':=(⟨E,Ec,V,Vc,X,Xc,some ⟨gM,0,none⟩,Mc,Sn,Sc,Q,Qc,LL⟩:Ra)) hs1 ((aj.toChg hB3).only O5_0 rfl) (bj.same hs1.f rfl rfl rfl rfl rfl rfl) P5_0;exact ⟨rfl,h2,_,hs2⟩)
      |(have e9:bX s=({ s with mtch:=cV s.mtch s.id (aQ s) }:Rf):=by unfold bX;simp only;rw [if_neg (fun e=>by first | omega | (obtain ⟨h7,h8⟩:=hib ⟨by omega,by omega⟩;first | omega | simp_all))]
        rw [e9];exact ⟨rfl,h1.from_ (aj.rfl_ (a:=w22)),_,hs1.from_ (aj.rfl_ (a:=w22))⟩)
    refine aR (dA (fj rfl ?_))
    first
     |(have e9:bX s=({ s with mtch:=cV s.mtch s.id (aQ s),commit:=med (cV s.mtch s.id (aQ s)) }:Rf):=by unfold bX;simp only;rw [if_pos ⟨by omega,by have h8:=(hib ⟨by omega,by omega⟩).2;omega⟩]
       rw [e9];obtain ⟨hs2,h2⟩:=h1.set (s':=({ s with mtch:=cV s.mtch s.id (aQ s),commit:=med (cV s.mtch s.id (aQ s)) }:Rf)) (a':=(⟨E,Ec,V,Vc,X,Xc,some ⟨gM,0,none⟩,Mc,Sn,Sc,Q,Qc,LL⟩:Ra)) hs1 ((aj.toChg hB3).only O5_0 rfl) (bj.same hs1.f rfl rfl rfl rfl rfl rfl) P5_0;exact ⟨rfl,h2,_,hs2⟩)
     |(have e9:bX s=({ s with mtch:=cV s.mtch s.id (aQ s) }:Rf):=by unfold bX;simp only;rw [if_neg (fun e=>by first | omega | (obtain ⟨h7,h8⟩:=hib ⟨by omega,by omega⟩;first | omega | simp_all))]
       rw [e9];exact ⟨rfl,h1.from_ (((aj.rfl_ (a:=w16)).next E30).next E38),_,hs1.from_ (((aj.rfl_ (a:=w16)).next E30).next E38)⟩)
   refine ab rfl rfl (ab rfl rfl (ab rfl rfl (ab rfl rfl (ab rfl rfl (ab rfl rfl (ab rfl rfl (aa (av (v:=.bool _) rfl rfl) (ak (ag ?_)))))))));refine ck rfl (aR (dA (fj rfl ?_)))
   first
    |(have e9:bX s=({ s with mtch:=cV s.mtch s.id (aQ s),commit:=med (cV s.mtch s.id (aQ s)) }:Rf):=by unfold bX;simp only;rw [if_pos ⟨by omega,by have h8:=(hib ⟨by omega,by omega⟩).2;omega⟩]
      rw [e9];obtain ⟨hs2,h2⟩:=h1.set (s':=({ s with mtch:=cV s.mtch s.id (aQ s),commit:=med (cV s.mtch s.id (aQ s)) }:Rf)) (a':=(⟨E,Ec,V,Vc,X,Xc,some ⟨gM,0,none⟩,Mc,Sn,Sc,Q,Qc,LL⟩:Ra)) hs1 ((aj.toChg hB3).only O5_0 rfl) (bj.same hs1.f rfl rfl rfl rfl rfl rfl) P5_0;exact ⟨rfl,h2,_,hs2⟩)
    |(have e9:bX s=({ s with mtch:=cV s.mtch s.id (aQ s) }:Rf):=by unfold bX;simp only;rw [if_neg (fun e=>by first | omega | (obtain ⟨h7,h8⟩:=hib ⟨by omega,by omega⟩;first | omega | simp_all))]
      rw [e9];exact ⟨rfl,h1.from_ (((aj.rfl_ (a:=w16)).next E30).next E38),_,hs1.from_ (((aj.rfl_ (a:=w16)).next E30).next E38)⟩)
  refine ab rfl rfl (aa (av (v:=.bool _) rfl rfl) (mvb rfl (ab rfl rfl (ab rfl rfl (ab rfl rfl (ab rfl rfl (ab rfl rfl (ab rfl rfl ?_))))))));refine ab rfl rfl (aa (av (v:=.bool _) rfl rfl) (ak (ag (ck rfl (aR (dA (fj rfl ?_)))))))
  first
   |(have e9:bX s=({ s with mtch:=cV s.mtch s.id (aQ s),commit:=med (cV s.mtch s.id (aQ s)) }:Rf):=by unfold bX;simp only;rw [if_pos ⟨by omega,by have h8:=(hib ⟨by omega,by omega⟩).2;omega⟩]
     rw [e9];obtain ⟨hs2,h2⟩:=h1.set (s':=({ s with mtch:=cV s.mtch s.id (aQ s),commit:=med (cV s.mtch s.id (aQ s)) }:Rf)) (a':=(⟨E,Ec,V,Vc,X,Xc,some ⟨gM,0,none⟩,Mc,Sn,Sc,Q,Qc,LL⟩:Ra)) hs1 ((aj.toChg hB3).only O5_0 rfl) (bj.same hs1.f rfl rfl rfl rfl rfl rfl) P5_0;exact ⟨rfl,h2,_,hs2⟩)
   |(have e9:bX s=({ s with mtch:=cV s.mtch s.id (aQ s) }:Rf):=by unfold bX;simp only;rw [if_neg (fun e=>by first | omega | (obtain ⟨h7,h8⟩:=hib ⟨by omega,by omega⟩;first | omega | simp_all))]
     rw [e9];exact ⟨rfl,h1.from_ (((aj.rfl_ (a:=w16)).next E30).next E38),_,hs1.from_ (((aj.rfl_ (a:=w16)).next E30).next E38)⟩)
def bP (lo hi:Int) (xs:List Int):Prop:=∀ x∈xs,lo≤x∧x≤hi
instance (lo hi:Int) (xs:List Int):Decidable (bP lo hi xs):=by unfold bP;exact inferInstance
theorem bA {lo hi:Int}:bP lo hi []↔True:=by simp [bP]
theorem bo {lo hi x:Int} {l:List Int}:bP lo hi (x::l)↔(lo≤x∧x≤hi)∧bP lo hi l:=by simp [bP]
theorem ru {lo hi x:Int} {l:List Int}:bP lo hi (l++[x])↔bP lo hi l∧(lo≤x∧x≤hi):=by
 simp only [bP,List.mem_append,List.mem_singleton];exact ⟨fun h=>⟨fun y hy=>h y (.inl hy),h x (.inr rfl)⟩,fun h y hy=>hy.elim (h.1 y) (fun e=>e ▸ h.2)⟩
theorem wt (d:ByteArray):(d.toList==(⟨#[]⟩:ByteArray).toList)=decide (d.size=0):=by
 obtain ⟨⟨l⟩⟩:=d;rw [ByteArray.toList_eq,ByteArray.toList_eq];cases l with
 |nil=>rfl
 |cons a r=>rfl
def ExR (k ix lt cm rd:Int) (ok:Bool) (n:Nat) (a:Int) (d:ByteArray) (dn:Bool):Prop:=
 if k=1 then cm=0∧rd=0∧ok.toNat=0∧n=0∧a=0∧d.size=0∧dn.toNat=0
 else if k=2 then ix=0∧lt=0∧cm=0∧rd=0∧n=0∧a=0∧d.size=0∧dn.toNat=0
 else if k=3 then ok.toNat=0∧a=0∧d.size=0∧dn.toNat=0
 else if k=4 then lt=0∧cm=0∧n=0∧a=0∧d.size=0∧dn.toNat=0
 else if k=5 then cm=0∧ok.toNat=0∧n=0
 else if k=6 then lt=0∧cm=0∧ok.toNat=0∧n=0∧d.size=0∧dn.toNat=0
 else ix=0∧lt=0∧cm=0∧rd=0∧ok.toNat=0∧n=0∧a=0∧d.size=0∧dn.toNat=0
instance (k ix lt cm rd:Int) (ok:Bool) (n:Nat) (a:Int) (d:ByteArray) (dn:Bool):Decidable (ExR k ix lt cm rd ok n a d dn):=by unfold ExR;exact inferInstance
def wE (k f t tm ix lt cm rd a:Int):Prop:=(1≤k∧k≤6)∧(1≤f∧f≤7)∧(1≤t∧t≤7)∧(0≤tm∧tm≤1099511627775)∧(0≤ix∧ix≤1099511627775)∧(0≤lt∧lt≤1099511627775)∧(0≤cm∧cm≤1099511627775)∧(0≤rd∧rd≤1099511627775)∧(0≤a∧a≤1099511627775)
instance (k f t tm ix lt cm rd a:Int):Decidable (wE k f t tm ix lt cm rd a):=by unfold wE;exact inferInstance
def wG (k ix lt:Int) (es:List Ent):Prop:=k=3→es.length≤16∧eB es ix lt=true
instance (k ix lt:Int) (es:List Ent):Decidable (wG k ix lt es):=by unfold wG;exact inferInstance
def wA (k ix a:Int) (d:ByteArray):Prop:=k=5→(1≤ix∧ix≤1099511625728)∧a≤524288∧d.size≤1024
instance (k ix a:Int) (d:ByteArray):Decidable (wA k ix a d):=by unfold wA;exact inferInstance
def OkR (k f t tm ix lt cm rd:Int) (ok:Bool) (es:List Ent) (a:Int) (d:ByteArray) (dn:Bool):Prop:=
 wE k f t tm ix lt cm rd a∧ExR k ix lt cm rd ok es.length a d dn∧wG k ix lt es∧wA k ix a d
instance (k f t tm ix lt cm rd:Int) (ok:Bool) (es:List Ent) (a:Int) (d:ByteArray) (dn:Bool):Decidable (OkR k f t tm ix lt cm rd ok es a d dn):=by unfold OkR;exact inferInstance
end Go.Proofs.YtkpooenofjdpmaaGreat
