/- The law RaftNew. -/
import Derived.Test.YtkpooenofjdpmaaSlRfLawN3

set_option maxRecDepth 100000
set_option maxHeartbeats 4000000
namespace Go.Proofs.Ytkpooenofjdpmaa
open Go.Proofs.Try (prog)
open Go.RowKit
open Go.ChangeShapes Go.WideShapes Go.ChangeAt
theorem jE:aD prog 38=true:=by kernel_rfl
theorem nb:aD prog 41=true:=by kernel_rfl
theorem mX:fH prog 26=some (68,3,32,(.agg #[.int .i64 0,.int .i64 0,.string ⟨#[]⟩])):=by kernel_rfl
theorem mY:f_ prog 28=some (.agg #[.int .i64 0,.int .i64 0,.slice none 0 0]):=by kernel_rfl
theorem ig:∀ (a0:Int) (a1:Int) (a2:ByteArray),prog.built 68 [(0,.int .i64 a0),(1,.int .i64 a1),(2,.string a2)]=some #[.int .i64 a0,.int .i64 a1,.string a2]:=by intros;kernel_rfl
theorem m_:aD prog 58=true:=by kernel_rfl
theorem kp:cr prog 9=some 1:=by kernel_rfl
theorem mZ:aD prog 59=true:=by kernel_rfl
theorem kx (l:List Int) (p:Sp):(p.sends l).s=p.s:=by rw [gA]
theorem n1 (l:List Int) (p:Sp):(p.sends l).out.length=p.out.length+l.length:=by rw [gA];simp
theorem nZ {l:List Int} {i:Nat} (h:i<l.length) (p:Sp):p.sends (l.take (i+1))=(p.sends (l.take i)).send l[i]:=by
 rw [List.take_succ_eq_append_getElem h,j4];rfl
theorem jf (s:Rf):(bx s).length≤s.nodes.toNat:=nG _ _
theorem mx {s:Rf} {x:Int} (h:x∈bx s) (hn:0≤s.nodes):1≤x∧x≤s.nodes∧x≠s.id:=by
 have:=o4 h;omega
theorem iX (w0:World) (Z:Nat→Prop) (T g:Nat) (p:Sp) (w:World) (h:aR w0 Z w T g p) (hF:RfF p.s) (hr:p.s.role=2) (hl:p.out.length≤800) :
 Rt prog 26 [.pointer (some ⟨g,0,none⟩)] w (fun v w'=>v=.tuple #[]∧aR w0 Z w' T g p.all):=by
 obtain ⟨tag,a,O,oc,L,hs⟩:=h.ex;obtain ⟨E,Ec,V,Vc,X,Xc,M,Mc,S,Sc,Q,Qc,LL⟩:=a;have hb:=hs.b;have hll:L.length=p.out.length:=by rw [←hs.m.l,List.length_map]
 have hn0:=hF.n;refine enter (n:=17) Try.func26 rfl rfl rfl (an (ah (mvp rfl (ab (ao rfl) (ab (aa aw rfl) (aA jE (j_ T g p.s _ _ _ (hb.from_ ag.rfl_) (by omega)) ?_))))));rintro v7 w1 ⟨⟨A7,c7,rfl,ho7a⟩,E7⟩
 have h7:=h.at_ (Z':=fun k=>Z k∨A7.map (·.block)=some k) (ag.rfl_.next E7) (fun k hk=>by
  have hz7:=((ag.rfl_.next E7)).size;rcases hk with e | e
  ·exact ⟨Nat.lt_of_lt_of_le (h.zw k e) hz7,.inl e⟩
  ·have:=dT ho7a k e;exact ⟨this.2,.inr (by omega)⟩)
 have hB7:ag w w1:=(ag.rfl_.next E7);have ho7:=ho7a;obtain ⟨Z7,hZ7⟩:∃ Z7,Z7=fun k=>Z k∨A7.map (·.block)=some k:=⟨_,rfl⟩
 rw [←hZ7] at h7;have hzi:∀ k,Z k→Z7 k:=fun k hk=>by rw [hZ7];exact .inl hk
 have hzr:∀ k,A7.map (·.block)=some k→Z7 k:=fun k hk=>by rw [hZ7];exact .inr hk
 have hol:=jf p.s;have hnn:=hF.n;refine ab (bU bj rfl) (mvi rfl (ak (ai (bd (df (G:=Nat) [3,10,11,12,13,14,15,16] (fun i=>[(9,.int .i64 (i:Nat))]) (fun i w'=>i≤(bx p.s).length∧aR w1 Z7 w' T g (p.sends ((bx p.s).take i))) (fun i=>(bx p.s).length-i) (0) ⟨rfl,trivial⟩ ?_ ?_)))))
 ·exact ⟨Nat.zero_le _,h7⟩
 rintro i ρ2 w2 ⟨hi,h15⟩;refine an (ah (ab (cO rfl rfl) (ak (ai (an (r7 rfl (fun Q3=>?_) (fun Q3=>?_)))))))
 ·have hi9:i<(bx p.s).length:=by omega
  obtain ⟨g7,rfl⟩:=ea ho7 (by omega);have ho8:=fV ho7 h15.fr (fun q hq e=>e (hzr q hq));have hc8:=fi (l:=bx p.s) ho8 i hi9;refine aO (ai (an (bd (an (ah (ab (cK bR rfl rfl (by omega)) (ab (ar au rfl (by exact eQ (ag.rfl_ (a:=w2)) hc8)) ?_)))))));refine asi rfl (ak (ai (ah (mvp rfl (mvi rfl ?_)))));refine aA nb (p4 _ Z7 T g (p.sends ((bx p.s).take i)) _ (h15.from_ (ag.rfl_ (a:=w2))) (by rw [kx];exact hF) (by rw [kx];exact hr) (by rw [n1,List.length_take];omega) (bx p.s)[i] (by rw [kx];have:=mx (List.getElem_mem hi9) (by omega);omega)) ?_;rintro v15 w4 ⟨rfl,h16⟩;refine ak (cx (ai (ah (ab (cL (b:=1) rfl rfl (by omega)) (mvi rfl (ak ?_))))));refine cy (i+1) ⟨(by first | rfl | (refine aZ ?_;omega)),trivial⟩ (by (iterate 18 refine bu rfl ?_);exact bT) ⟨?_,?_⟩
  ·exact ⟨by omega,by rw [nZ hi9];exact h16.from_ (ag.rfl_ (a:=w4))⟩
  ·omega
 refine cF (bg (bg (cf (cN (fa rfl ?_)))));obtain rfl:i=(bx p.s).length:=by omega
 rw [List.take_length] at h15;exact ⟨rfl,h.back hB7 h15 hzi⟩
theorem qB (s:Rf) (E U:Option Addr) (c u:Nat) (d:ByteArray) (w:World) (hF:RfF s) (hf:en s=false) (hd:d.size≤4096) (h:bY w (.slice E s.es.length c) s.es) (hu:bY w (.slice U 1 u) [⟨aE s+1,s.term,d⟩]) :
 Rt prog 58 [.agg #[.int .i64 s.b,.int .i64 s.t,.slice E s.es.length c],.slice U 1 u] w fun v w'=>(∃ A' c',v=.tuple #[.agg #[.int .i64 s.b,.int .i64 s.t,.slice A' (s.es.length+1) c'],.int .i64 0]∧w'.ownsRow w.heap.size 68 3 (.slice A' (s.es.length+1) c') (s.es.length+1) (cG (cW s d).es))∧ag w w':=
 (mS s.b s.t (.slice E s.es.length c) (.slice U 1 u) s.es [⟨aE s+1,s.term,d⟩] w h hu (by show 1≤_;omega)).mono fun e w' ⟨L,he,hg,hF'⟩=>by
  have h1:=(hF.add hf d hd).1;have hl:=hF.last
  have h0:jy s.b s.t s.es [⟨aE s+1,s.term,d⟩]=0:=by
   unfold jy;rw [if_pos hF.lg,if_pos ?_,if_pos ?_]
   ·have:=(hF.add hf d hd).2.2;have h2:=(eM h1).2.2.2;rw [this] at h2;exact h2
   ·unfold en at hf;simp only [Bool.or_eq_false_iff,decide_eq_false_iff_not] at hf;show (eo _ (bH s.b s.es) (bZ s.t s.es)&&true)=true;rw [Bool.and_true];unfold eo;have hte:=hF.te;have hlt:=hF.lt;simp only [Bool.and_eq_true,decide_eq_true_eq];exact ⟨⟨⟨rfl,cZ ⟨by show 1≤aE s+1;omega,by show aE s+1≤_;omega⟩⟩,cZ ⟨by show max (bZ s.t s.es) 0≤s.term;omega,hte.2⟩⟩,hd⟩
  rw [h0] at he hg;obtain ⟨v',hL,ho⟩:=hg.2 rfl;rw [List.length_append] at ho;obtain ⟨A',c',rfl⟩:=dM ho;subst hL;exact ⟨_,he,⟨A',c',rfl,ho⟩,hF'⟩
theorem rj (w0:World) (Z:Nat→Prop) (T g:Nat) (p:Sp) (w:World) (h:aR w0 Z w T g p) (hF:RfF p.s) (hf:en p.s=false) (d:ByteArray) (hd:d.size≤4096) :
 Rt prog 53 [.pointer (some ⟨g,0,none⟩),.string d] w (fun v w'=>v=.int .i64 (aE p.s+1)∧aR w0 Z w' T g ⟨cW p.s d,p.out⟩):=by
 obtain ⟨tag,a,O,oc,L,hs⟩:=h.ex;obtain ⟨E,Ec,V,Vc,X,Xc,M,Mc,S,Sc,Q,Qc,LL⟩:=a;have hb:=hs.b;have hll:L.length=p.out.length:=by rw [←hs.m.l,List.length_map]
 have hbl:=hF.last;have hlb:bH p.s.b p.s.es=aE p.s:=rfl;have he:bY w (.slice E p.s.es.length Ec) p.s.es:=hs.f.rd.e;have hnn:=hF.n;have hzw:=h.zw;refine enter (n:=42) Try.func53 rfl rfl rfl (an (ah (asi rfl (ak (ai (an (ah (mvp rfl (aA ec (fI T g p.s _ _ _ (hb.from_ ag.rfl_) (he.from_ ag.rfl_) hF.lg) ?_)))))))));rintro v11 w1 ⟨rfl,E11⟩;refine mvt rfl (ab (aM rfl rfl) (ab (aM rfl rfl) (asi rfl (asi rfl (ak (ai (an (ah (mvi rfl (ab (cd rfl rfl (by omega)) (asi rfl ?_)))))))))));refine ak (ai (an (an ?_)));apply dF 19 [(17,eqp _),(18,eqp _),(19,eqp _),(20,eqp _),(21,eqp _),(22,eqp _),(23,eqp _),(24,eqp _),(25,eqp _),(26,eqp _),(27,eqp _),(28,eqp _),(29,eqp _),(30,fun v w'=>∃ b,v=.slice (some ⟨b,0,none⟩) 1 1∧bY w' (.slice (some ⟨b,0,none⟩) 1 1) [⟨aE p.s+1,p.s.term,d⟩]),(31,fun v w'=>∃ A' c',v=.tuple #[.agg #[.int .i64 p.s.b,.int .i64 p.s.t,.slice A' (p.s.es.length+1) c'],.int .i64 0]∧w'.ownsRow w.heap.size 68 3 (.slice A' (p.s.es.length+1) c') (p.s.es.length+1) (cG (cW p.s d).es)),(16,fun v w'=>∃ A' c',v=.tuple #[.agg #[.int .i64 p.s.b,.int .i64 p.s.t,.slice A' (p.s.es.length+1) c'],.int .i64 0]∧w'.ownsRow w.heap.size 68 3 (.slice A' (p.s.es.length+1) c') (p.s.es.length+1) (cG (cW p.s d).es)),(32,fun v w'=>∃ A' c',v=.agg #[.int .i64 p.s.b,.int .i64 p.s.t,.slice A' (p.s.es.length+1) c']∧w'.ownsRow w.heap.size 68 3 (.slice A' (p.s.es.length+1) c') (p.s.es.length+1) (cG (cW p.s d).es)),(33,eqp (.int .i64 0)),(7,fun v w'=>∃ b,v=.pointer (some ⟨b,0,none⟩)∧w.heap.size≤b∧Blk w' b 28 #[.int .i64 0,.int .i64 0,.slice none 0 0])] (by repeat first | exact et | refine er ?_ | refine dL ?_) (by kernel_rfl) (by kernel_rfl) ⟨av _,av _,av _,av _,av _,av _,av _,av _,av _,av _,av _,av _,av _,(fun _ _ _ hF ⟨b,h1,h2⟩=>⟨b,h1,h2.from_ hF⟩),(fun _ _ _ hF ⟨a,b,h1,h2⟩=>⟨a,b,h1,h2.kept_from hF⟩),(fun _ _ _ hF ⟨a,b,h1,h2⟩=>⟨a,b,h1,h2.kept_from hF⟩),(fun _ _ _ hF ⟨a,b,h1,h2⟩=>⟨a,b,h1,h2.kept_from hF⟩),av _,(fun _ _ _ hF ⟨b,h1,h2,h3⟩=>⟨b,h1,h2,h3.from_ hF⟩),trivial⟩
 case hop=>
  constructor
  ·rintro-w3 D3;exact ax (aB (v:=.pointer _) rfl) rfl
  constructor
  ·rintro-w4 D4;rintro _ rfl;exact ax (ao rfl) rfl
  constructor
  ·rintro-w5 D5;rintro _ rfl;exact ax (aa aq rfl) rfl
  constructor
  ·rintro-w6 D6;rintro _ rfl;exact ax (aa aY rfl) rfl
  constructor
  ·rintro-w7 D7;rintro _ rfl;exact ax (bh (cs:=[.int .i64 p.s.b,.int .i64 p.s.t,.slice E p.s.es.length Ec]) cX cA rfl (kA (hb.from_ ((ag.rfl_.next E11).next D7)))) rfl
  constructor
  ·rintro-w8 D8;exact ax (aB (v:=.int _ _) rfl) rfl
  constructor
  ·rintro-w9 D9;exact ax (aB (v:=.pointer _) rfl) rfl
  constructor
  ·rintro-w10 D10;rintro _ rfl;exact ax (ao rfl) rfl
  constructor
  ·rintro-w11 D11;rintro _ rfl;exact ax (aa aq rfl) rfl
  constructor
  ·rintro-w12 D12;rintro _ rfl;exact ax (aa bk rfl) rfl
  constructor
  ·rintro-w13 D13;rintro _ rfl;exact ax (ar au rfl (by exact bB (hb.from_ ((ag.rfl_.next E11).next D13)) 3 rfl)) rfl
  constructor
  ·rintro-w14 D14;exact ax (aB (v:=.string _) rfl) rfl
  constructor
  ·rintro-w15 D15;rintro _ rfl _ rfl _ rfl;exact ax (c8 (l:=[(0,.tmp 22),(1,.tmp 27),(2,.tmp 28)]) (ig _ _ _)) rfl
  constructor
  ·rintro-w16 D16;rintro _ rfl;exact kE (mn (l:=[(0,.tmp 29)]) (cells:=#[.int .i64 (aE p.s+1),.int .i64 p.s.term,.string d]) mX rfl rfl (by show Instr.fill _ _ [(0,Value.agg #[.int .i64 (aE p.s+1),.int .i64 p.s.term,.string d])]=_;kernel_rfl)) (ag.rfl_.new _) ⟨_,rfl,py (e:=⟨aE p.s+1,p.s.term,d⟩) (Blk.new _ _ _)⟩
  constructor
  ·rintro-w17 D17;rintro _ rfl v17_30 ⟨b30,rfl,hl30⟩;refine gG m_ ((qB p.s E _ Ec 1 d _ hF hf hd (he.from_ ((ag.rfl_.next E11).next D17)) hl30).mono ?_);rintro v w9 ⟨⟨a,b,rfl,ho⟩,hF9⟩;exact ⟨hF9,a,b,rfl,eK ho (((ag.rfl_.next E11).next D17)).size⟩
  constructor
  ·rintro-w18 D18;rintro v18_31 ⟨A31,c31,rfl,ho31⟩;exact ax (aB (v:=.tuple #[_,_]) rfl) ⟨_,_,rfl,ho31⟩
  constructor
  ·rintro-w19 D19;rintro v19_16 ⟨A16,c16,rfl,ho16⟩;exact ax (aM rfl rfl) ⟨_,_,rfl,ho16⟩
  constructor
  ·rintro-w20 D20;rintro v20_16 ⟨A16,c16,rfl,ho16⟩;exact ax (aM rfl rfl) rfl
  constructor
  ·rintro-w21 D21;exact kE (k8 mY) (ag.rfl_.new _) ⟨_,rfl,(((ag.rfl_.next E11).next D21)).size,Blk.new _ _ _⟩
  exact trivial
 case hend=>
  intro w22 D22;rintro _ rfl _ rfl _ rfl _ rfl _ rfl _ rfl _ rfl _ rfl _ rfl _ rfl _ rfl _ rfl _ rfl v30 ⟨b30,rfl,hl30⟩ v31 ⟨A31,c31,rfl,ho31⟩ v16 ⟨A16,c16,rfl,ho16⟩ v32 ⟨A32,c32,rfl,ho32⟩ v33 rfl v7 ⟨b7,rfl,hg7,hk7⟩;show St ..;refine dp (vs:=[_,_,_]) cA rfl rfl (by simp [Value.oneCell']) (hk7) rfl ?_;intro w23 O3 P3;have ho9:=gY ho32 O3 (qf ho32 hk7 (by decide));refine asi rfl (ak (ai (an (ah (mvi rfl (ab (c9 (bW rfl rfl) rfl) (ak (ai (bL rfl (ah (mvp rfl (ab (bh (cs:=[.int .i64 p.s.b,.int .i64 p.s.t,.slice A32 (p.s.es.length+1) c32]) cX cA rfl ((P3.from_ ag.rfl_).whole)) ?_))))))))))));refine ab (ao rfl) (ab (aa aq rfl) (ab (aa aY rfl) ?_));have hB5:ag w w23:=(((ag.rfl_.next E11).next D22).only O3 (hg7));have ho5:=ho9.kept_from ag.rfl_;refine nV (es:=(cW p.s d).es) (by show _=(p.s.es++[_]).length;rw [List.length_append];rfl) cA rfl rfl (hb.from_ (((ag.rfl_.next E11).next D22).only O3 (hg7))) ?_;intro w24 O5 P5;refine ak (ai (an (ah (mvi rfl (asi rfl (ak (ai (aG (bK (v:=.int _ _) rfl rfl ?_)))))))));have hf5:=(hs.f.but (c:=0) (ag.toChg hB5)).log p.s.b p.s.t (l:=(cW p.s d).es) (by show _=(p.s.es++[_]).length;rw [List.length_append];rfl) (eK ho5 (Nat.zero_le _)) (fun q hq=>cP (dT ho32 q hq).1);exact ⟨rfl,((h.put hs (ag.toChg hB5) (.inl (by decide)) hf5 (O5.toChg rfl) P5).2).from_ (ag.rfl_ (a:=w24))⟩
theorem og (w0:World) (Z:Nat→Prop) (T g:Nat) (p:Sp) (w:World) (h:aR w0 Z w T g p) (tm:Int) :
 Rt prog 52 [.pointer (some ⟨g,0,none⟩),.int .i64 tm] w (fun v w'=>v=.tuple #[]∧aR w0 Z w' T g ⟨gn p.s tm,p.out⟩):=by
 obtain ⟨s,out⟩:=p;obtain ⟨tag,a,O,oc,L,hs⟩:=h.ex;obtain ⟨E,Ec,V,Vc,X,Xc,M,Mc,S,Sc,Q,Qc,LL⟩:=a;have hb:Blk w g T (rfV s (⟨E,Ec,V,Vc,X,Xc,M,Mc,S,Sc,Q,Qc,LL⟩:Ra)++[Value.slice O L.length oc]).toArray:=hs.b
 have hll:L.length=out.length:=by
  have h9:=congrArg List.length hs.m.l;rw [List.length_map] at h9;exact h9
 have hB0:ag w w:=ag.rfl_;refine enter (n:=56) Try.func52 rfl rfl rfl (an (ah (mvp rfl (mvp rfl (ab (ao rfl) (ab (aa aq rfl) (ab (aa ck rfl) (bm (s':=({ s with role:=0 }:Rf)) (a':=(⟨E,Ec,V,Vc,X,Xc,M,Mc,S,Sc,Q,Qc,LL⟩:Ra)) (v:=.int _ _) aW rfl rfl rfl ((hb.from_ ag.rfl_)) (by exact ⟨by decide,rfl⟩) ?_))))))));intro w1 O0_0 P0_0;have hC1:Chg (fun k=>k=g) w w1:=(ag.toChg hB0).only O0_0 rfl;refine ab (ao rfl) (ab (aa aq rfl) (ab (aa dc rfl) (bm (s':=({ s with role:=0,leader:=0 }:Rf)) (a':=(⟨E,Ec,V,Vc,X,Xc,M,Mc,S,Sc,Q,Qc,LL⟩:Ra)) (v:=.int _ _) aW rfl rfl rfl (P0_0) (by exact ⟨by decide,rfl⟩) ?_)));intro w2 O0_1 P0_1;replace hC1:=hC1.only O0_1 rfl;refine ak (ai (an (ah (mvp rfl (mvp rfl (mvp rfl (mvp rfl (mvp rfl (ab (ao rfl) (ab (aa aq rfl) (ab (aa bX rfl) ?_)))))))))));have hM0:ag _ w2:=ag.rfl_;refine bm (s':=({ s with role:=0,leader:=0,votes:=[] }:Rf)) (a':=(⟨E,Ec,none,0,X,Xc,M,Mc,S,Sc,Q,Qc,LL⟩:Ra)) (v:=.slice _ _ _) bI rfl rfl rfl ((P0_1.from_ ag.rfl_)) (by exact ⟨by decide,rfl⟩) ?_;intro w3 O1_0 P1_0;replace hC1:=(hC1.next (ag.toChg hM0)).only O1_0 rfl;refine ab (ao rfl) (ab (aa aq rfl) (ab (aa br rfl) (bm (s':=({ s with role:=0,leader:=0,votes:=[],next:=[] }:Rf)) (a':=(⟨E,Ec,none,0,none,0,M,Mc,S,Sc,Q,Qc,LL⟩:Ra)) (v:=.slice _ _ _) bI rfl rfl rfl (P1_0) (by exact ⟨by decide,rfl⟩) ?_)));intro w4 O1_1 P1_1;replace hC1:=hC1.only O1_1 rfl;refine ab (ao rfl) (ab (aa aq rfl) (ab (aa bA rfl) (bm (s':=({ s with role:=0,leader:=0,votes:=[],next:=[],mtch:=[] }:Rf)) (a':=(⟨E,Ec,none,0,none,0,none,0,S,Sc,Q,Qc,LL⟩:Ra)) (v:=.slice _ _ _) bI rfl rfl rfl (P1_1) (by exact ⟨by decide,rfl⟩) ?_)));intro w5 O1_2 P1_2;replace hC1:=hC1.only O1_2 rfl;refine ab (ao rfl) (ab (aa aq rfl) (ab (aa bN rfl) (bm (s':=({ s with role:=0,leader:=0,votes:=[],next:=[],mtch:=[],sent:=[] }:Rf)) (a':=(⟨E,Ec,none,0,none,0,none,0,none,0,Q,Qc,LL⟩:Ra)) (v:=.slice _ _ _) bI rfl rfl rfl (P1_2) (by exact ⟨by decide,rfl⟩) ?_)));intro w6 O1_3 P1_3;replace hC1:=hC1.only O1_3 rfl;refine ab (ao rfl) (ab (aa aq rfl) (ab (aa bq rfl) (bm (s':=({ s with role:=0,leader:=0,votes:=[],next:=[],mtch:=[],sent:=[],reads:=[] }:Rf)) (a':=(⟨E,Ec,none,0,none,0,none,0,none,0,none,0,[]⟩:Ra)) (v:=.slice _ _ _) fR rfl rfl rfl (P1_3) (by exact ⟨by decide,rfl⟩) ?_)));intro w7 O1_4 P1_4;replace hC1:=hC1.only O1_4 rfl;refine ak (ai (an (ah (mvi rfl (mvp rfl (ab (ao rfl) (ab (aa aq rfl) (ab (aa bk rfl) (ab (ar au rfl (by exact (show _=some (Value.int .i64 s.term) from bB (P1_4.from_ ag.rfl_) 3 rfl))) ?_)))))))));refine ab (ef rfl rfl) (ak (ai (r7 rfl (fun Q8=>?_) (fun Q8=>?_))))
 ·refine ah (mvp rfl (mvp rfl (mvp rfl (mvp rfl (mvi rfl (ab (ao rfl) (ab (aa aq rfl) (ab (aa bk rfl) ?_))))))));have hM0:ag _ w7:=ag.rfl_;refine bm (s':=({ s with role:=0,leader:=0,votes:=[],next:=[],mtch:=[],sent:=[],reads:=[],term:=tm }:Rf)) (a':=(⟨E,Ec,none,0,none,0,none,0,none,0,none,0,[]⟩:Ra)) (v:=.int _ _) aW rfl rfl rfl ((P1_4.from_ ag.rfl_)) (by exact ⟨by decide,rfl⟩) ?_;intro w9 O3_0 P3_0;replace hC1:=(hC1.next (ag.toChg hM0)).only O3_0 rfl;refine ab (ao rfl) (ab (aa aq rfl) (ab (aa dA rfl) (bm (s':=({ s with role:=0,leader:=0,votes:=[],next:=[],mtch:=[],sent:=[],reads:=[],term:=tm,vote:=0 }:Rf)) (a':=(⟨E,Ec,none,0,none,0,none,0,none,0,none,0,[]⟩:Ra)) (v:=.int _ _) aW rfl rfl rfl (P3_0) (by exact ⟨by decide,rfl⟩) ?_)));intro w10 O3_1 P3_1;replace hC1:=hC1.only O3_1 rfl;refine ab (ao rfl) (ab (aa aq rfl) (ab (aa cV rfl) (bm (s':=({ s with role:=0,leader:=0,votes:=[],next:=[],mtch:=[],sent:=[],reads:=[],term:=tm,vote:=0,part:=⟨#[]⟩ }:Rf)) (a':=(⟨E,Ec,none,0,none,0,none,0,none,0,none,0,[]⟩:Ra)) (v:=.string _) kp rfl rfl rfl (P3_1) (by exact ⟨by decide,rfl⟩) ?_)));intro w11 O3_2 P3_2;replace hC1:=hC1.only O3_2 rfl;refine ab (ao rfl) (ab (aa aq rfl) (ab (aa cU rfl) (bm (s':=({ s with role:=0,leader:=0,votes:=[],next:=[],mtch:=[],sent:=[],reads:=[],term:=tm,vote:=0,part:=⟨#[]⟩,partOf:=0 }:Rf)) (a':=(⟨E,Ec,none,0,none,0,none,0,none,0,none,0,[]⟩:Ra)) (v:=.int _ _) aW rfl rfl rfl (P3_2) (by exact ⟨by decide,rfl⟩) ?_)));intro w12 O3_3 P3_3;replace hC1:=hC1.only O3_3 rfl;refine ak (cN (fa rfl (⟨rfl,?_⟩)));have hf1:=hs.f.alone;unfold gn;simp only
  first
   |(rw [if_pos (show s.term<tm by omega)];exact (h.set (s':=({ s with role:=0,leader:=0,votes:=[],next:=[],mtch:=[],sent:=[],reads:=[],term:=tm,vote:=0,part:=⟨#[]⟩,partOf:=0 }:Rf)) (a':=(⟨E,Ec,none,0,none,0,none,0,none,0,none,0,[]⟩:Ra)) hs hC1 (aS.same hf1 rfl rfl rfl rfl rfl rfl) P3_3).2)
   |(rw [if_neg (show ¬ s.term<tm by omega)];exact (h.set (s':=({ s with role:=0,leader:=0,votes:=[],next:=[],mtch:=[],sent:=[],reads:=[] }:Rf)) (a':=(⟨E,Ec,none,0,none,0,none,0,none,0,none,0,[]⟩:Ra)) hs (hC1.next (ag.toChg ag.rfl_)) (aS.same hf1 rfl rfl rfl rfl rfl rfl) (P1_4.from_ ag.rfl_)).2)
 refine aO (cN (fa rfl (⟨rfl,?_⟩)));have hf1:=hs.f.alone;unfold gn;simp only
 first
  |(rw [if_pos (show s.term<tm by omega)];exact (h.set (s':=({ s with role:=0,leader:=0,votes:=[],next:=[],mtch:=[],sent:=[],reads:=[],term:=tm,vote:=0,part:=⟨#[]⟩,partOf:=0 }:Rf)) (a':=(⟨E,Ec,none,0,none,0,none,0,none,0,none,0,[]⟩:Ra)) hs hC1 (aS.same hf1 rfl rfl rfl rfl rfl rfl) P3_3).2)
  |(rw [if_neg (show ¬ s.term<tm by omega)];exact (h.set (s':=({ s with role:=0,leader:=0,votes:=[],next:=[],mtch:=[],sent:=[],reads:=[] }:Rf)) (a':=(⟨E,Ec,none,0,none,0,none,0,none,0,none,0,[]⟩:Ra)) hs (hC1.next (ag.toChg ag.rfl_)) (aS.same hf1 rfl rfl rfl rfl rfl rfl) (P1_4.from_ ag.rfl_)).2)
theorem sk (A:Option Addr) (c:Nat) (L:List Int) (w:World) (hr:cD iV w A L) (hf:Fit L):Rt prog 59 [.slice A L.length c] w fun v w'=>v=.tuple #[.int .i64 (med L),.int .i64 0]∧ag w w':=
 (pt A c L w hr).mono fun _ _ h=>⟨h.1.elim (fun e=>e.2) (fun e=>absurd hf e.1),h.2⟩
theorem oQ (l:List Int) (k:Nat) (v:Int):(l.map iV).set k (iV v)=(l.set k v).map iV:=by rw [List.map_set]
theorem nY (w0:World) (Z:Nat→Prop) (T g:Nat) (s:Rf) (out:List Msg) (w:World) (h:aR w0 Z w T g ⟨s,out⟩) (tag:Nat→Nat) (a:Ra) (O:Option Addr) (oc:Nat) (L:List Msg) (hs:ey w Z T g tag ⟨s,out⟩ a O oc L) (hF:RfF s) (hr:s.role=2) :
 Rt prog 54 [.pointer (some ⟨g,0,none⟩)] w (fun v w'=>v=.tuple #[]∧aR w0 Z w' T g ⟨bw s,out⟩∧∃ tag',ey w' Z T g tag' ⟨bw s,out⟩ a O oc L):=by
 obtain ⟨E,Ec,V,Vc,X,Xc,M,Mc,S,Sc,Q,Qc,LL⟩:=a
 have hb:Blk w g T (rfV s (⟨E,Ec,V,Vc,X,Xc,M,Mc,S,Sc,Q,Qc,LL⟩:Ra)++[Value.slice O L.length oc]).toArray:=hs.b
 have hll:L.length=out.length:=by
  have h9:=congrArg List.length hs.m.l
  rw [List.length_map] at h9
  exact h9
 have hbl:=hF.last
 have hlb:bH s.b s.es=aE s:=rfl
 have he:bY w (.slice E s.es.length Ec) s.es:=hs.f.rd.e
 have hnn:=hF.n
 have hid:=hF.i
 have hzw:=h.zw
 obtain ⟨k,hk⟩:∃ k:Nat,s.id=(k:Int)+1:=⟨(s.id-1).toNat,by omega⟩
 have hMl:s.mtch.length=s.nodes.toNat:=by rw [hF.ma.1,eX hr]
 have hkM:k<s.mtch.length:=by omega
 obtain ⟨gM,rfl⟩:∃ q,M=some ⟨q,0,none⟩:=ea (n:=s.mtch.length) (hs.f.m (by decide)).1 (by omega)
 have hMo:w.ownsRow 0 3 1 (.slice (some ⟨gM,0,none⟩) s.mtch.length Mc) s.mtch.length (s.mtch.map iV):=(hs.f.m (by decide)).1
 have hMc:=fi (l:=s.mtch) hMo k hkM
 have hFs:=hF.settle hr
 have hp1:cH s.mtch s.id (aE s)=s.mtch.set k (aE s):=by unfold cH;rw [show (s.id-1).toNat=k by omega]
 have hfit:Fit (cH s.mtch s.id (aE s)):=⟨by rw [fD];omega,by rw [fD];omega,fun x hx=>(hFs.ma.2 x hx).1⟩
 have hmed:0≤med (cH s.mtch s.id (aE s))∧med (cH s.mtch s.id (aE s))≤aE s:=hFs.ma.2 _ (nJ hfit.1)
 have hco:=hF.co
 refine enter (n:=57) Try.func54 rfl rfl rfl ?_
 refine an ?_
 apply dF 16 [(5,eqp _),(6,eqp _),(7,eqp _),(8,eqp _),(9,eqp _),(10,eqp _),(11,eqp _),(12,eqp _),(13,eqp _),(14,eqp _),(15,eqp (.int .i64 (k:Nat))),(16,eqp _),(17,eqp _),(4,eqp _),(18,eqp _),(19,eqp _)] (by repeat first | exact et | refine er ?_ | refine dL ?_) (by kernel_rfl) (by kernel_rfl) ⟨av _,av _,av _,av _,av _,av _,av _,av _,av _,av _,av _,av _,av _,av _,av _,av _,trivial⟩
 case hop=>
  refine ⟨?_,?_⟩
  ·rintro-w2 D2
   show aI ..
   exact ax (aB (v:=.pointer _) rfl) rfl
  refine ⟨?_,?_⟩
  ·rintro-w3 D3
   rintro _ rfl
   show aI ..
   exact ax (ao rfl) rfl
  refine ⟨?_,?_⟩
  ·rintro-w4 D4
   rintro _ rfl
   show aI ..
   exact ax (aa aq rfl) rfl
  refine ⟨?_,?_⟩
  ·rintro-w5 D5
   rintro _ rfl
   show aI ..
   exact ax (aa bA rfl) rfl
  refine ⟨?_,?_⟩
  ·rintro-w6 D6
   rintro _ rfl
   show aI ..
   exact ax (ar aL rfl (by exact bB (hb.from_ (ag.rfl_.next D6)) 16 rfl)) rfl
  refine ⟨?_,?_⟩
  ·rintro-w7 D7
   show aI ..
   exact ax (aB (v:=.pointer _) rfl) rfl
  refine ⟨?_,?_⟩
  ·rintro-w8 D8
   rintro _ rfl
   show aI ..
   exact ax (ao rfl) rfl
  refine ⟨?_,?_⟩
  ·rintro-w9 D9
   rintro _ rfl
   show aI ..
   exact ax (aa aq rfl) rfl
  refine ⟨?_,?_⟩
  ·rintro-w10 D10
   rintro _ rfl
   show aI ..
   exact ax (aa ch rfl) rfl
  refine ⟨?_,?_⟩
  ·rintro-w11 D11
   rintro _ rfl
   show aI ..
   exact ax (ar au rfl (by exact bB (hb.from_ (ag.rfl_.next D11)) 0 rfl)) rfl
  refine ⟨?_,?_⟩
  ·rintro-w12 D12
   rintro _ rfl
   show aI ..
   exact ax (jb (eH rfl rfl (by omega)) (aZ (by omega))) rfl
  refine ⟨?_,?_⟩
  ·rintro-w13 D13
   show aI ..
   exact ax (aB (v:=.pointer _) rfl) rfl
  refine ⟨?_,?_⟩
  ·rintro-w14 D14
   rintro _ rfl
   show aI ..
   refine gG ec ((fI T g s _ _ _ (hb.from_ (ag.rfl_.next D14)) (he.from_ (ag.rfl_.next D14)) hF.lg).mono ?_)
   rintro v _ ⟨rfl,E14'⟩;exact ⟨E14',rfl⟩
  refine ⟨?_,?_⟩
  ·rintro-w15 D15
   rintro _ rfl
   show aI ..
   exact ax (aB (v:=.tuple _) rfl) rfl
  refine ⟨?_,?_⟩
  ·rintro-w16 D16
   rintro _ rfl
   show aI ..
   exact ax (aM rfl rfl) rfl
  refine ⟨?_,?_⟩
  ·rintro-w17 D17
   rintro _ rfl
   show aI ..
   exact ax (aM rfl rfl) rfl
  exact trivial
 case hend=>
  intro w18 D18
  rintro _ rfl _ rfl _ rfl _ rfl _ rfl _ rfl _ rfl _ rfl _ rfl _ rfl v15 rfl _ rfl _ rfl _ rfl _ rfl _ rfl
  show St ..
  refine ab (cK bR rfl rfl (by omega)) ?_
  have hB0:ag w w18:=(ag.rfl_.next D18)
  refine jZ (xs:=s.mtch.map iV) aW rfl rfl rfl (hMo.kept_from (ag.rfl_.next D18)) (by omega) ?_
  intro w19 O0 P0
  have hMo1:(w19).ownsRow 0 3 1 (.slice (some ⟨gM,0,none⟩) (cH s.mtch s.id (aE s)).length Mc) (cH s.mtch s.id (aE s)).length ((cH s.mtch s.id (aE s)).map iV):=by
   rw [fD,hp1,←oQ]
   exact P0
  have hgM7:tag gM=3:=(hs.f.m (by decide)).2 gM rfl
  have hC1:Chg (fun k=>tag k=3) w w19:=(ag.toChg hB0).only O0 hgM7
  have hb1:Blk w19 g T (rfV ({ s with mtch:=cH s.mtch s.id (aE s) }:Rf) (⟨E,Ec,V,Vc,X,Xc,some ⟨gM,0,none⟩,Mc,S,Sc,Q,Qc,LL⟩:Ra)++[Value.slice O L.length oc]).toArray:=by
   have h9:=(hb.from_ hB0).only O0 (fun e=>by have:=hs.gc;rw [e,hgM7] at this;cases this)
   have e9:rfV ({ s with mtch:=cH s.mtch s.id (aE s) }:Rf) (⟨E,Ec,V,Vc,X,Xc,some ⟨gM,0,none⟩,Mc,S,Sc,Q,Qc,LL⟩:Ra)=rfV s (⟨E,Ec,V,Vc,X,Xc,some ⟨gM,0,none⟩,Mc,S,Sc,Q,Qc,LL⟩:Ra):=by
    unfold rfV
    simp only [fD]
   rw [e9]
   exact h9
  have hf1:=(hs.f.but hC1).mtch (l:=cH s.mtch s.id (aE s)) rfl hMo1 (fun q hq=>by cases hq;rw [bD (cQ hMo _ rfl)];exact hgM7)
  obtain ⟨hs1,h1⟩:=h.put hs hC1 (.inl (by decide)) hf1 (Chg.rfl_ (U:=fun k=>k=g)) hb1
  have he1:bY w19 (.slice E s.es.length Ec) s.es:=hs1.f.rd.e
  refine ak (ai (an (ah ?_)))
  refine mvp rfl ?_
  refine ab (ao rfl) ?_
  refine ab (aa aq rfl) ?_
  refine ab (aa bA rfl) ?_
  refine ab (ar aL rfl (by exact bB (hb1.from_ (ag.rfl_ (a:=w19))) 16 rfl)) ?_
  refine aA mZ (sk (some ⟨gM,0,none⟩) Mc (cH s.mtch s.id (aE s)) _ ((cD.own hMo1).2.from_ (ag.rfl_ (a:=w19))) hfit) ?_
  rintro v27 w20 ⟨rfl,E27⟩
  refine mvt rfl ?_
  refine ab (aM rfl rfl) ?_
  refine ab (aM rfl rfl) ?_
  refine asi rfl ?_
  refine asi rfl ?_
  refine ak (ai (an ?_))
  by_cases hgt:s.commit<med (cH s.mtch s.id (aE s))
  ·apply dF 22 [(30,eqp _),(31,eqp _),(32,eqp _),(33,eqp _),(34,eqp _),(35,eqp _),(36,eqp _),(37,eqp _),(38,eqp _),(39,eqp _),(40,eqp _),(41,eqp _),(42,eqp _),(43,eqp _),(44,eqp _),(45,eqp _),(46,eqp _),(47,eqp _),(48,eqp _),(49,eqp _),(50,eqp _),(51,eqp _)] (by repeat first | exact et | refine er ?_ | refine dL ?_) (by kernel_rfl) (by kernel_rfl) ⟨av _,av _,av _,av _,av _,av _,av _,av _,av _,av _,av _,av _,av _,av _,av _,av _,av _,av _,av _,av _,av _,av _,trivial⟩
   case hop=>
    refine ⟨?_,?_⟩
    ·rintro-w22 D22
     show aI ..
     exact ax (aB (v:=.int _ _) rfl) rfl
    refine ⟨?_,?_⟩
    ·rintro-w23 D23
     rintro _ rfl
     show aI ..
     exact ax (c9 (bW rfl rfl) rfl) rfl
    refine ⟨?_,?_⟩
    ·rintro-w24 D24
     rintro _ rfl
     show aI ..
     exact ax (aB (v:=.bool _) rfl) rfl
    refine ⟨?_,?_⟩
    ·rintro-w25 D25
     rintro _ rfl
     show aI ..
     exact bE rfl (aB (v:=.int _ _) rfl) rfl
    refine ⟨?_,?_⟩
    ·rintro-w26 D26
     rintro _ rfl
     show aI ..
     exact bE rfl (aB (v:=.pointer _) rfl) rfl
    refine ⟨?_,?_⟩
    ·rintro-w27 D27
     rintro _ rfl _ rfl
     show aI ..
     exact bE rfl (ao rfl) rfl
    refine ⟨?_,?_⟩
    ·rintro-w28 D28
     rintro _ rfl _ rfl
     show aI ..
     exact bE rfl (aa aq rfl) rfl
    refine ⟨?_,?_⟩
    ·rintro-w29 D29
     rintro _ rfl _ rfl
     show aI ..
     exact bE rfl (aa cj rfl) rfl
    refine ⟨?_,?_⟩
    ·rintro-w30 D30
     rintro _ rfl _ rfl
     show aI ..
     exact bE rfl (ar au rfl (by exact (show _=some (Value.int .i64 s.commit) from bB (hb1.from_ (((ag.rfl_ (a:=w19)).next E27).next D30)) 10 rfl))) rfl
    refine ⟨?_,?_⟩
    ·rintro-w31 D31
     rintro _ rfl _ rfl _ rfl
     show aI ..
     exact bE rfl (c9 (ef rfl rfl) (decide_eq_true hgt)) rfl
    refine ⟨?_,?_⟩
    ·rintro-w32 D32
     rintro _ rfl _ rfl
     show aI ..
     exact ax (ay (v:=.bool _) rfl rfl) rfl
    refine ⟨?_,?_⟩
    ·rintro-w33 D33
     rintro _ rfl
     show aI ..
     exact ax (aB (v:=.bool _) rfl) rfl
    refine ⟨?_,?_⟩
    ·rintro-w34 D34
     rintro _ rfl
     show aI ..
     exact bE rfl (aB (v:=.pointer _) rfl) rfl
    refine ⟨?_,?_⟩
    ·rintro-w35 D35
     rintro _ rfl
     show aI ..
     exact bE rfl (aB (v:=.int _ _) rfl) rfl
    refine ⟨?_,?_⟩
    ·rintro-w36 D36
     rintro _ rfl _ rfl _ rfl
     show aI ..
     refine o5 rfl jG ((kY T g ({ s with mtch:=cH s.mtch s.id (aE s) }:Rf) _ _ _ (hb1.from_ (((ag.rfl_ (a:=w19)).next E27).next D36)) (he1.from_ (((ag.rfl_ (a:=w19)).next E27).next D36)) hF.lg (med (cH s.mtch s.id (aE s))) (by show s.b≤_∧_≤aE s;omega)).mono ?_)
     rintro v _ ⟨rfl,E36'⟩;exact ⟨E36',rfl⟩
    refine ⟨?_,?_⟩
    ·rintro-w37 D37
     rintro _ rfl
     show aI ..
     exact bE rfl (aB (v:=.pointer _) rfl) rfl
    refine ⟨?_,?_⟩
    ·rintro-w38 D38
     rintro _ rfl _ rfl
     show aI ..
     exact bE rfl (ao rfl) rfl
    refine ⟨?_,?_⟩
    ·rintro-w39 D39
     rintro _ rfl _ rfl
     show aI ..
     exact bE rfl (aa aq rfl) rfl
    refine ⟨?_,?_⟩
    ·rintro-w40 D40
     rintro _ rfl _ rfl
     show aI ..
     exact bE rfl (aa bk rfl) rfl
    refine ⟨?_,?_⟩
    ·rintro-w41 D41
     rintro _ rfl _ rfl
     show aI ..
     exact bE rfl (ar au rfl (by exact (show _=some (Value.int .i64 s.term) from bB (hb1.from_ (((ag.rfl_ (a:=w19)).next E27).next D41)) 3 rfl))) rfl
    refine ⟨?_,?_⟩
    ·rintro-w42 D42
     rintro _ rfl _ rfl _ rfl
     show aI ..
     exact bE rfl (bW rfl rfl) rfl
    refine ⟨?_,?_⟩
    ·rintro-w43 D43
     rintro _ rfl _ rfl
     show aI ..
     exact ax (ay (v:=.bool _) rfl rfl) rfl
    exact trivial
   case hend=>
    intro w44 D44
    rintro _ rfl _ rfl _ rfl _ rfl _ rfl _ rfl _ rfl _ rfl _ rfl _ rfl _ rfl _ rfl _ rfl _ rfl _ rfl _ rfl _ rfl _ rfl _ rfl _ rfl _ rfl _ rfl
    show St ..
    refine ak (ai ?_)
    refine aT rfl (fun Q45=>?_) (fun Q45=>?_)
    ·with_reducible replace Q45:=dT_ Q45
     refine ah ?_
     refine mvp rfl ?_
     refine mvi rfl ?_
     refine ab (ao rfl) ?_
     refine ab (aa aq rfl) ?_
     refine ab (aa cj rfl) ?_
     have hB3:ag _ w44:=(((ag.rfl_ (a:=w19)).next E27).next D44)
     refine bm (s':=({ s with mtch:=cH s.mtch s.id (aE s),commit:=med (cH s.mtch s.id (aE s)) }:Rf)) (a':=(⟨E,Ec,V,Vc,X,Xc,some ⟨gM,0,none⟩,Mc,S,Sc,Q,Qc,LL⟩:Ra)) (v:=.int _ _) aW rfl rfl rfl ((hb1.from_ (((ag.rfl_ (a:=w19)).next E27).next D44))) (by exact ⟨by decide,rfl⟩) ?_
     intro w46 O3_0 P3_0
     refine ak ?_
     refine cN ?_
     refine fa rfl ?_
     first
      |(have e9:bw s=({ s with mtch:=cH s.mtch s.id (aE s),commit:=med (cH s.mtch s.id (aE s)) }:Rf):=by unfold bw;simp only;rw [if_pos ⟨hgt,by assumption⟩]
        rw [e9]
        obtain ⟨hs2,h2⟩:=h1.set (s':=({ s with mtch:=cH s.mtch s.id (aE s),commit:=med (cH s.mtch s.id (aE s)) }:Rf)) (a':=(⟨E,Ec,V,Vc,X,Xc,some ⟨gM,0,none⟩,Mc,S,Sc,Q,Qc,LL⟩:Ra)) hs1 ((ag.toChg hB3).only O3_0 rfl) (aS.same hs1.f rfl rfl rfl rfl rfl rfl) P3_0
        exact ⟨rfl,h2,_,hs2⟩)
      |(have e9:bw s=({ s with mtch:=cH s.mtch s.id (aE s) }:Rf):=by unfold bw;simp only;rw [if_neg (fun e=>by first | exact absurd e.2 (by assumption) | exact absurd e.1 hgt)]
        rw [e9]
        exact ⟨rfl,h1.from_ (ag.rfl_ (a:=w46)),_,hs1.from_ (ag.rfl_ (a:=w46))⟩)
    with_reducible replace Q45:=dF_ Q45
    refine aO ?_
    refine cN ?_
    refine fa rfl ?_
    first
     |(have e9:bw s=({ s with mtch:=cH s.mtch s.id (aE s),commit:=med (cH s.mtch s.id (aE s)) }:Rf):=by unfold bw;simp only;rw [if_pos ⟨hgt,by assumption⟩]
       rw [e9]
       obtain ⟨hs2,h2⟩:=h1.set (s':=({ s with mtch:=cH s.mtch s.id (aE s),commit:=med (cH s.mtch s.id (aE s)) }:Rf)) (a':=(⟨E,Ec,V,Vc,X,Xc,some ⟨gM,0,none⟩,Mc,S,Sc,Q,Qc,LL⟩:Ra)) hs1 ((ag.toChg hB3).only O3_0 rfl) (aS.same hs1.f rfl rfl rfl rfl rfl rfl) P3_0
       exact ⟨rfl,h2,_,hs2⟩)
     |(have e9:bw s=({ s with mtch:=cH s.mtch s.id (aE s) }:Rf):=by unfold bw;simp only;rw [if_neg (fun e=>by first | exact absurd e.2 (by assumption) | exact absurd e.1 hgt)]
       rw [e9]
       exact ⟨rfl,h1.from_ (((ag.rfl_ (a:=w19)).next E27).next D44),_,hs1.from_ (((ag.rfl_ (a:=w19)).next E27).next D44)⟩)
  apply dF 22 [(30,eqp _),(31,eqp _),(32,eqp _),(33,eqp _),(34,eqp _),(35,eqp _),(36,eqp _),(37,eqp _),(38,eqp _),(39,eqp _),(40,eqp _),(41,eqp _),(42,eqp _),(43,eqp _),(44,eqp _),(45,eqp _),(46,eqp _),(47,eqp _),(48,eqp _),(49,eqp _),(50,eqp _),(51,eqp _)] (by repeat first | exact et | refine er ?_ | refine dL ?_) (by kernel_rfl) (by kernel_rfl) ⟨av _,av _,av _,av _,av _,av _,av _,av _,av _,av _,av _,av _,av _,av _,av _,av _,av _,av _,av _,av _,av _,av _,trivial⟩
  case hop=>
   refine ⟨?_,?_⟩
   ·rintro-w48 D48
    show aI ..
    exact ax (aB (v:=.int _ _) rfl) rfl
   refine ⟨?_,?_⟩
   ·rintro-w49 D49
    rintro _ rfl
    show aI ..
    exact ax (c9 (bW rfl rfl) rfl) rfl
   refine ⟨?_,?_⟩
   ·rintro-w50 D50
    rintro _ rfl
    show aI ..
    exact ax (aB (v:=.bool _) rfl) rfl
   refine ⟨?_,?_⟩
   ·rintro-w51 D51
    rintro _ rfl
    show aI ..
    exact bE rfl (aB (v:=.int _ _) rfl) rfl
   refine ⟨?_,?_⟩
   ·rintro-w52 D52
    rintro _ rfl
    show aI ..
    exact bE rfl (aB (v:=.pointer _) rfl) rfl
   refine ⟨?_,?_⟩
   ·rintro-w53 D53
    rintro _ rfl _ rfl
    show aI ..
    exact bE rfl (ao rfl) rfl
   refine ⟨?_,?_⟩
   ·rintro-w54 D54
    rintro _ rfl _ rfl
    show aI ..
    exact bE rfl (aa aq rfl) rfl
   refine ⟨?_,?_⟩
   ·rintro-w55 D55
    rintro _ rfl _ rfl
    show aI ..
    exact bE rfl (aa cj rfl) rfl
   refine ⟨?_,?_⟩
   ·rintro-w56 D56
    rintro _ rfl _ rfl
    show aI ..
    exact bE rfl (ar au rfl (by exact (show _=some (Value.int .i64 s.commit) from bB (hb1.from_ (((ag.rfl_ (a:=w19)).next E27).next D56)) 10 rfl))) rfl
   refine ⟨?_,?_⟩
   ·rintro-w57 D57
    rintro _ rfl _ rfl _ rfl
    show aI ..
    exact bE rfl (gE (ef rfl rfl) (decide_eq_false hgt)) rfl
   refine ⟨?_,?_⟩
   ·rintro-w58 D58
    rintro _ rfl _ rfl
    show aI ..
    exact ax (ay (v:=.bool _) rfl rfl) rfl
   refine ⟨?_,?_⟩
   ·rintro-w59 D59
    rintro _ rfl
    show aI ..
    exact ax (aB (v:=.bool _) rfl) rfl
   refine ⟨?_,?_⟩
   ·rintro-w60 D60
    rintro _ rfl
    show aI ..
    exact ft rfl rfl rfl
   refine ⟨?_,?_⟩
   ·rintro-w61 D61
    rintro _ rfl
    show aI ..
    exact ft rfl rfl rfl
   refine ⟨?_,?_⟩
   ·rintro-w62 D62
    rintro _ rfl _ rfl _ rfl
    show aI ..
    exact ft rfl rfl rfl
   refine ⟨?_,?_⟩
   ·rintro-w63 D63
    rintro _ rfl
    show aI ..
    exact ft rfl rfl rfl
   refine ⟨?_,?_⟩
   ·rintro-w64 D64
    rintro _ rfl _ rfl
    show aI ..
    exact ft rfl rfl rfl
   refine ⟨?_,?_⟩
   ·rintro-w65 D65
    rintro _ rfl _ rfl
    show aI ..
    exact ft rfl rfl rfl
   refine ⟨?_,?_⟩
   ·rintro-w66 D66
    rintro _ rfl _ rfl
    show aI ..
    exact ft rfl rfl rfl
   refine ⟨?_,?_⟩
   ·rintro-w67 D67
    rintro _ rfl _ rfl
    show aI ..
    exact ft rfl rfl rfl
   refine ⟨?_,?_⟩
   ·rintro-w68 D68
    rintro _ rfl _ rfl _ rfl
    show aI ..
    exact ft rfl rfl rfl
   refine ⟨?_,?_⟩
   ·rintro-w69 D69
    rintro _ rfl _ rfl
    show aI ..
    exact ax (aF (v:=.bool _) rfl rfl) rfl
   exact trivial
  case hend=>
   intro w70 D70
   rintro _ rfl _ rfl _ rfl _ rfl _ rfl _ rfl _ rfl _ rfl _ rfl _ rfl _ rfl _ rfl _ rfl _ rfl _ rfl _ rfl _ rfl _ rfl _ rfl _ rfl _ rfl _ rfl
   show St ..
   refine ak (ai ?_)
   refine cS rfl ?_
   refine aO ?_
   refine cN ?_
   refine fa rfl ?_
   first
    |(have e9:bw s=({ s with mtch:=cH s.mtch s.id (aE s),commit:=med (cH s.mtch s.id (aE s)) }:Rf):=by unfold bw;simp only;rw [if_pos ⟨hgt,by assumption⟩]
      rw [e9]
      obtain ⟨hs2,h2⟩:=h1.set (s':=({ s with mtch:=cH s.mtch s.id (aE s),commit:=med (cH s.mtch s.id (aE s)) }:Rf)) (a':=(⟨E,Ec,V,Vc,X,Xc,some ⟨gM,0,none⟩,Mc,S,Sc,Q,Qc,LL⟩:Ra)) hs1 ((ag.toChg hB3).only O3_0 rfl) (aS.same hs1.f rfl rfl rfl rfl rfl rfl) P3_0
      exact ⟨rfl,h2,_,hs2⟩)
    |(have e9:bw s=({ s with mtch:=cH s.mtch s.id (aE s) }:Rf):=by unfold bw;simp only;rw [if_neg (fun e=>by first | exact absurd e.2 (by assumption) | exact absurd e.1 hgt)]
      rw [e9]
      exact ⟨rfl,h1.from_ (((ag.rfl_ (a:=w19)).next E27).next D70),_,hs1.from_ (((ag.rfl_ (a:=w19)).next E27).next D70)⟩)
end Go.Proofs.Ytkpooenofjdpmaa
namespace Go.Proofs.Ytkpooenofjdpmaa
open Go.Proofs.Try (prog)
open Go.RowKit
abbrev XT (X:Type):=List (Nat×Nat×(X→Value))
abbrev gT {X:Type} (T:XT X) (x:X):List (Nat×Nat×Value):=T.map fun p=>(p.1,p.2.1,p.2.2 x)
theorem ku {X:Type}:∀ {T:XT X} {x:X},ib (T.map fun p=>(p.1,p.2.1))→jB (gT T x)
 |[],_,_=>trivial
 |p::r,x,h=>⟨fun q hq=>by
   obtain ⟨y,hy,rfl⟩:=List.mem_map.1 hq;exact h.1 (y.1,y.2.1) (List.mem_map.2 ⟨y,hy,rfl⟩),ku h.2⟩
def qE {X:Type} (S:Nat→Bool) (x x':X):XT X→Prop
 |[]=>True
 |p::r=>(S p.1=true→p.2.2 x'=p.2.2 x)∧qE S x x' r
theorem nL {X:Type} {S:Nat→Bool} {x x':X}:∀ {T:XT X},qE S x x' T→∀ p∈T,S p.1=true→p.2.2 x'=p.2.2 x
 |_::_,⟨h1,h2⟩,p,hp=>by
  rcases List.mem_cons.1 hp with rfl | hp
  ·exact h1
  ·exact nL h2 p hp
theorem aX {X:Type} {S:Nat→Bool} {x:X}:∀ {T:XT X},qE S x x T
 |[]=>trivial
 |_::_=>⟨fun _=>rfl,aX⟩
section
variable {X:Type} {P:Program} {Q:Exit→Act→World→Prop} {n:Fr} {L L' M:List (Nat×Value)} {w w' w'':World} {l:List Oper} {T:XT X} {I:X→(Nat→Bool)→World→Prop} {S:Nat→Bool} {op:Op} {ty:TypeId} {pos:String} {after:Array Edge} {i d:Nat} {f:X→Value} {x:X}
theorem InvX.get (h:ej L (gT T x) S L') (hp:(i,d,f)∈T) (hs:S i=true):aK L' d=f x:=h.get (i:=i) (d:=d) (List.mem_map.2 ⟨_,hp,rfl⟩) hs
theorem InvX.out {t:Nat} (h:ej L (gT T x) S L') (ht:(T.map fun p=>p.2.1).elem t=false):aK L' t=aK L t:=h.1 t fun p hp e=>by
 obtain ⟨y,hy,rfl⟩:=List.mem_map.1 hp;have:t∈T.map fun p=>p.2.1:=List.mem_map.2 ⟨y,hy,e⟩
 rw [List.elem_eq_mem,decide_eq_false_iff_not] at ht;exact ht this
theorem q9 {i:Nat} (h:(T.map fun p=>p.1).elem i=false):∀ p∈T,p.1≠i:=fun p hp e=>by
 rw [List.elem_eq_mem,decide_eq_false_iff_not] at h;exact h (List.mem_map.2 ⟨p,hp,e⟩)
theorem InvX.chg {x':X} (h:ej L (gT T x) S L') (hc:∀ p∈T,S p.1=true→p.2.2 x'=p.2.2 x):ej L (gT T x') S L':=by
 refine ⟨fun t ht=>h.1 t fun p hp=>?_,fun p hp hs=>?_,fun p hp hs=>?_⟩
 ·obtain ⟨y,hy,rfl⟩:=List.mem_map.1 hp;exact ht (y.1,y.2.1,y.2.2 x') (List.mem_map.2 ⟨y,hy,rfl⟩)
 ·obtain ⟨y,hy,rfl⟩:=List.mem_map.1 hp;have:=h.2.1 (y.1,y.2.1,y.2.2 x) (List.mem_map.2 ⟨y,hy,rfl⟩) hs;rw [this];exact (hc y hy hs).symm
 ·obtain ⟨y,hy,rfl⟩:=List.mem_map.1 hp;exact h.2.2 (y.1,y.2.1,y.2.2 x) (List.mem_map.2 ⟨y,hy,rfl⟩) hs
abbrev nS (P:Program) (n:Fr) (L:List (Nat×Value)) (T:XT X) (I:X→(Nat→Bool)→World→Prop) (S:Nat→Bool) (i:Nat) (o:Oper) (L':List (Nat×Value)) (w':World):Prop:=eZ P n o (fun L2 w2=>∃ x,ej L (gT T x) (bJ S i) L2∧I x (bJ S i) w2) L' w'
theorem aU (M:List (Nat×Value)) (x':X) (hU:ib (T.map fun p=>(p.1,p.2.1))) (hI:ej L (gT T x) S L') (hp:(i,d,f)∈T)
 (hs:bF op=false) (hk:(((⟨some d,op,ty,pos,after,none⟩:Oper).looksAt #[]).all fun t=>(M.map Prod.fst).elem t)=true) (hag:l_ L' M) (hr:RO P (ev n M) op w' (f x') w'') (hc:qE S x x' T) (hM:I x' (bJ S i) w''):nS P n L T I S i ⟨some d,op,ty,pos,after,none⟩ L' w':=
 .inl ⟨d,f x',w'',rfl,by rw [fK hs hk hag];exact hr _ _ _ _ _,x',(InvX.chg hI (nL hc)).put (ku hU) (List.mem_map.2 ⟨_,hp,rfl⟩),hM⟩
theorem iT (M:List (Nat×Value)) (hI:ej L (gT T x) S L') (hi:∀ p∈T,p.1≠i)
 (hs:bF op=false) (hk:(((⟨none,op,ty,pos,after,none⟩:Oper).looksAt #[]).all fun t=>(M.map Prod.fst).elem t)=true) (hag:l_ L' M) (hr:RS P (ev n M) op w' w'') (hM:I x (bJ S i) w''):nS P n L T I S i ⟨none,op,ty,pos,after,none⟩ L' w':=
 .inr (.inl ⟨w'',rfl,by rw [fK hs hk hag];exact hr _ _ _ _ _,x,hI.skip (fun p hp=>by
  obtain ⟨y,hy,rfl⟩:=List.mem_map.1 hp;exact hi y hy),hM⟩)
def mU (P:Program) (n:Fr) (L:List (Nat×Value)) (T:XT X) (Mu:List Nat) (I:X→(Nat→Bool)→World→Prop) (l:List Oper):Nat→List Oper→Prop
 |_,[]=>True
 |i,o::r=>(∀ S L' w' x,ib (T.map fun p=>(p.1,p.2.1))→(∀ x S i w1 w2,Mu.elem i=false→ag w1 w2→I x S w1→I x (bJ S i) w2)→ej L (gT T x) S L'→I x S w'→eC l S→S i=false→eB S o.after.toList→nS P n L T I S i o L' w')∧mU P n L T Mu I l (i+1) r
theorem jV {Mu:List Nat} {L0:List (Nat×Value)} {l0:List Oper}:∀ {r:List Oper} {k:Nat},mU P n L0 T Mu I l0 k r→ib (T.map fun p=>(p.1,p.2.1))→(∀ x S i w1 w2,Mu.elem i=false→ag w1 w2→I x S w1→I x (bJ S i) w2)→∀ (i:Nat) (o:Oper),r[i]? =some o→∀ S L' w' x,ej L0 (gT T x) S L'→I x S w'→eC l0 S→S (k+i)=false→eB S o.after.toList→nS P n L0 T I S (k+i) o L' w'
 |[],_,_,_,_,i,o,h=>by simp at h
 |y::r,k,⟨h1,h2⟩,a,b,0,o,h=>by
  simp only [List.getElem?_cons_zero,Option.some.injEq] at h;subst h;exact fun S L' w' x=>h1 S L' w' x a b
 |y::r,k,⟨h1,h2⟩,a,b,i+1,o,h=>by
  have:=jV h2 a b i o (by simpa using h)
  rwa [show k+1+i=k+(i+1) by omega] at this
theorem pI {id:Nat} (T:XT X) (Mu:List Nat) (I:X→(Nat→Bool)→World→Prop) (hm:P.follows .mixedOrders=true) (hwf:jr l=true) (hlt:(T.all fun p=>Nat.blt p.1 l.length)=true) (hU:oH (T.map fun p=>(p.1,p.2.1))=true) (hme:∀ x S i w1 w2,Mu.elem i=false→ag w1 w2→I x S w1→I x (bJ S i) w2) (h0:∃ x,I x (fun _=>false) { w with drawn:=w.drawn+1 })
 (hstep:mU P n L T Mu I l 0 l) (hend:∀ x w',I x (fun i=>decide (i<l.length)) w'→Q .normal (mkA n ((gT T x).map (fun p=>(p.2.1,p.2.2))++L)) w'):Cd P (.region id l.toArray true) Q n L w:=
 mP (fun S L' w'=>(∃ x,ej L (gT T x) S L'∧I x S w')∧eC l S) hm hwf ⟨let ⟨x,hx⟩:=h0;⟨x,⟨fun _ _=>rfl,fun _ _ h=>(by cases h),fun _ _ _=>rfl⟩,hx⟩,fun _ _ _ h=>by cases h⟩ (fun i o S L' w' ho ⟨⟨x,hI,hM⟩,hC⟩ hS hE=>by
  have:=jV hstep (iI hU) hme i o ho S L' w' x hI hM hC (by rw [Nat.zero_add];exact hS) (gN fun e he=>hE e (by simpa using he));rw [Nat.zero_add] at this;exact eZ.mono (fun L2 w2 h=>⟨h,iw hC ho hE⟩) this) fun L' w' ⟨⟨x,hI,hM⟩,_⟩=>by
  have h:=hend x w' hM
  have hlt':∀ p∈gT T x,decide (p.1<l.length)=true:=fun p hp=>by
   obtain ⟨y,hy,rfl⟩:=List.mem_map.1 hp;exact decide_eq_true (Nat.le_of_ble_eq_true (List.all_eq_true.1 hlt y hy))
  rw [qq (ku (iI hU)) hlt' hI];exact h
end
end Go.Proofs.Ytkpooenofjdpmaa
namespace Go.Proofs.Ytkpooenofjdpmaa
open Go.Proofs.Try (prog)
open Go.RowKit
open Go.ChangeShapes Go.WideShapes Go.ChangeAt
theorem gv:ph prog 29=some (3,8,.int .i64 0):=by kernel_rfl
theorem nj:aD prog 52=true:=by kernel_rfl
theorem nk:aD prog 51=true:=by kernel_rfl
theorem ni:aD prog 53=true:=by kernel_rfl
theorem jI:aD prog 26=true:=by kernel_rfl
theorem nh:aD prog 54=true:=by kernel_rfl
theorem mm {P:Program} {ρ:Operand→Value} {w:World} {t:TypeId} {x y:Operand} {e by_ m:Nat} {z:Value} {kl kc:IntKind} (ht:ph P t=some (e,by_,z)) (hz:z.cells=#[z]) (hx:ρ x=.int kl (m:Nat)) (hy:ρ y=.int kc (m:Nat)) (hm:m≤9223372036854775807) (hb:by_*m≤281474976710656) :
 RO P ρ (.makeSlice t x y) w (.slice (some ⟨w.heap.size,0,none⟩) m m) (w.alloc (.cells (List.replicate m z).toArray e)):=by
 unfold ph at ht;split at ht
 ·rename_i e' hu;cases hi:P.info? e' with
  |none=>simp [hi] at ht
  |some i=>
   rw [hi] at ht;simp only [Option.bind_some] at ht;split at ht
   ·rename_i hs;cases hzz:i.zero with
    |none=>simp [hzz] at ht
    |some z'=>
     simp only [hzz,Option.map_some,Option.some.injEq,Prod.mk.injEq] at ht;obtain ⟨rfl,rfl,rfl⟩:=ht
     have hr:=run_make (P:=P) w t e' i z' hu hi hzz kl kc (m:Int) (m:Int) (by omega) (Int.le_refl _) (by
      have:((i.bytes*m:Nat):Int)≤281474976710656:=by omega
      rwa [Int.natCast_mul] at this) (by omega)
     have hcells:madeCells z'.cells ((m:Int).toNat*i.size)=(List.replicate m z').toArray:=by
      rw [hs,Int.toNat_natCast,Nat.mul_one,hz];apply Array.ext_getElem?;intro j;simp only [madeCells,Array.getElem?_map];by_cases hj:j<m
      ·simp [hj,Nat.mod_one]
      ·simp [hj]
     rw [hcells,Int.toNat_natCast] at hr;exact fun _ _ _ _ _=>by simp [execOp,hx,hy,hr]
   ·cases ht
 ·cases ht
structure G3 where
 x:Nat
 m:Nat
 s:Nat
def lv (s:Rf) (a:Ra) (p q r:Value):List Value:=[.int .i64 s.id,.int .i64 s.nodes,.int .i64 s.role,.int .i64 s.term,.int .i64 s.vote,.int .i64 s.leader,.int .i64 s.b,.int .i64 s.t,.slice a.E s.es.length a.Ec,.string s.snap,.int .i64 s.commit,.int .i64 s.elapsed,.int .i64 s.timeout,.int .u64 s.seed,.slice a.V s.votes.length a.Vc,p,q,r,.int .i64 s.round,.slice a.Q a.L.length a.Qc,.string s.part,.int .i64 s.partOf]
def lvX (s:Rf) (a:Ra) (n:Nat) (x:G3) (S:Nat→Bool):List Value:=lv s a (bif S 28 then .slice (some ⟨x.x,0,none⟩) n n else .slice a.X s.next.length a.Xc) (bif S 33 then .slice (some ⟨x.m,0,none⟩) n n else .slice a.M s.mtch.length a.Mc) (bif S 38 then .slice (some ⟨x.s,0,none⟩) n n else .slice a.S s.sent.length a.Sc)
def MK (w0 w:World) (n k:Nat):Prop:=w0.heap.size≤k∧Blk w k 3 (List.replicate n (Value.int .i64 0)).toArray
structure LI (w0:World) (T g n:Nat) (s:Rf) (a:Ra) (R:Value) (x:G3) (S:Nat→Bool) (w:World):Prop where
 c:Chg (fun k=>k=g) w0 w
 b:Blk w g T (lvX s a n x S++[R]).toArray
 h9:S 9=true→MK w0 w n x.x
 h16:S 16=true→MK w0 w n x.m
 h23:S 23=true→MK w0 w n x.s
 a1:S 9=true→S 16=true→x.x≠x.m
 a2:S 9=true→S 23=true→x.x≠x.s
 a3:S 16=true→S 23=true→x.m≠x.s
 lt:g<w0.heap.size
section
variable {w0 w1 w2:World} {T g n i:Nat} {s:Rf} {a:Ra} {R:Value} {x:G3} {S:Nat→Bool}
theorem MK.from_ {k:Nat} (h:MK w0 w1 n k) (hF:ag w1 w2):MK w0 w2 n k:=⟨h.1,h.2.from_ hF⟩
theorem iN {i:Nat} (h28:i≠28) (h33:i≠33) (h38:i≠38):lvX s a n x (bJ S i)=lvX s a n x S:=by
 unfold lvX;rw [cY h28.symm,cY h33.symm,cY h38.symm]
theorem LI.rd (h:LI w0 T g n s a R x S w1) (hq:[9,16,23,28,33,38].elem i=false) (hF:ag w1 w2):LI w0 T g n s a R x (bJ S i) w2:=by
 have hm:i≠9∧i≠16∧i≠23∧i≠28∧i≠33∧i≠38:=by
  refine ⟨?_,?_,?_,?_,?_,?_⟩ <;> rintro rfl <;> exact absurd hq (by decide)
 obtain ⟨m1,m2,m3,m4,m5,m6⟩:=hm;refine ⟨h.c.next hF.toChg,by rw [iN m4 m5 m6];exact h.b.from_ hF,fun e=>?_,fun e=>?_,fun e=>?_,fun e f=>?_,fun e f=>?_,fun e f=>?_,h.lt⟩
 ·rw [cY m1.symm] at e;exact (h.h9 e).from_ hF
 ·rw [cY m2.symm] at e;exact (h.h16 e).from_ hF
 ·rw [cY m3.symm] at e;exact (h.h23 e).from_ hF
 ·rw [cY m1.symm] at e;rw [cY m2.symm] at f;exact h.a1 e f
 ·rw [cY m1.symm] at e;rw [cY m3.symm] at f;exact h.a2 e f
 ·rw [cY m2.symm] at e;rw [cY m3.symm] at f;exact h.a3 e f
theorem MK.fresh {k:Nat} (h:MK w0 w1 n k):k≠w1.heap.size:=by have:=h.2.lt;omega
theorem LI.mk9 (h:LI w0 T g n s a R x S w1) (h28:S 28=false) (hk:MK w0 w2 n w1.heap.size) (hF:ag w1 w2):LI w0 T g n s a R ⟨w1.heap.size,x.m,x.s⟩ (bJ S 9) w2:=by
 refine ⟨h.c.next hF.toChg,?_,fun _=>hk,fun e=>?_,fun e=>?_,fun _ f=>?_,fun _ f=>?_,fun e f=>?_,h.lt⟩
 ·rw [iN (by decide) (by decide) (by decide)];have:=h.b.from_ hF;unfold lvX at this ⊢;rw [h28] at this ⊢;exact this
 ·rw [cY (by decide)] at e;exact (h.h16 e).from_ hF
 ·rw [cY (by decide)] at e;exact (h.h23 e).from_ hF
 ·rw [cY (by decide)] at f;exact (h.h16 f).fresh.symm
 ·rw [cY (by decide)] at f;exact (h.h23 f).fresh.symm
 ·rw [cY (by decide)] at e f;exact h.a3 e f
theorem LI.mk16 (h:LI w0 T g n s a R x S w1) (h33:S 33=false) (hk:MK w0 w2 n w1.heap.size) (hF:ag w1 w2):LI w0 T g n s a R ⟨x.x,w1.heap.size,x.s⟩ (bJ S 16) w2:=by
 refine ⟨h.c.next hF.toChg,?_,fun e=>?_,fun _=>hk,fun e=>?_,fun e _=>?_,fun e f=>?_,fun _ f=>?_,h.lt⟩
 ·rw [iN (by decide) (by decide) (by decide)];have:=h.b.from_ hF;unfold lvX at this ⊢;rw [h33] at this ⊢;exact this
 ·rw [cY (by decide)] at e;exact (h.h9 e).from_ hF
 ·rw [cY (by decide)] at e;exact (h.h23 e).from_ hF
 ·rw [cY (by decide)] at e;exact (h.h9 e).fresh
 ·rw [cY (by decide)] at e f;exact h.a2 e f
 ·rw [cY (by decide)] at f;exact (h.h23 f).fresh.symm
theorem LI.mk23 (h:LI w0 T g n s a R x S w1) (h38:S 38=false) (hk:MK w0 w2 n w1.heap.size) (hF:ag w1 w2):LI w0 T g n s a R ⟨x.x,x.m,w1.heap.size⟩ (bJ S 23) w2:=by
 refine ⟨h.c.next hF.toChg,?_,fun e=>?_,fun e=>?_,fun _=>hk,fun e f=>?_,fun e _=>?_,fun e _=>?_,h.lt⟩
 ·rw [iN (by decide) (by decide) (by decide)];have:=h.b.from_ hF;unfold lvX at this ⊢;rw [h38] at this ⊢;exact this
 ·rw [cY (by decide)] at e;exact (h.h9 e).from_ hF
 ·rw [cY (by decide)] at e;exact (h.h16 e).from_ hF
 ·rw [cY (by decide)] at e f;exact h.a1 e f
 ·rw [cY (by decide)] at e;exact (h.h9 e).fresh
 ·rw [cY (by decide)] at e;exact (h.h16 e).fresh
theorem MK.only {k:Nat} (h:MK w0 w1 n k) (hO:da g w1 w2) (hg:g<w0.heap.size):MK w0 w2 n k:=⟨h.1,h.2.only hO (by have:=h.1;omega)⟩
theorem LI.st (h:LI w0 T g n s a R x S w1) (hi:i=28∨i=33∨i=38) (hO:da g w1 w2) (hb:Blk w2 g T (lvX s a n x (bJ S i)++[R]).toArray):LI w0 T g n s a R x (bJ S i) w2:=by
 refine ⟨h.c.next (hO.toChg rfl),hb,fun e=>?_,fun e=>?_,fun e=>?_,fun e f=>?_,fun e f=>?_,fun e f=>?_,h.lt⟩
 ·rw [cY (by omega)] at e;exact (h.h9 e).only hO h.lt
 ·rw [cY (by omega)] at e;exact (h.h16 e).only hO h.lt
 ·rw [cY (by omega)] at e;exact (h.h23 e).only hO h.lt
 ·rw [cY (by omega)] at e f;exact h.a1 e f
 ·rw [cY (by omega)] at e f;exact h.a2 e f
 ·rw [cY (by omega)] at e f;exact h.a3 e f
theorem rR {S:Nat→Bool}:(lvX s a n x S++[R]).toArray.setIfInBounds 15 (.slice (some ⟨x.x,0,none⟩) n n)=(lvX s a n x (bJ S 28)++[R]).toArray:=by
 unfold lvX;rw [mi,cY (by decide),cY (by decide)];rfl
theorem rQ {S:Nat→Bool}:(lvX s a n x S++[R]).toArray.setIfInBounds 16 (.slice (some ⟨x.m,0,none⟩) n n)=(lvX s a n x (bJ S 33)++[R]).toArray:=by
 unfold lvX;rw [mi,cY (by decide),cY (by decide)];rfl
theorem rP {S:Nat→Bool}:(lvX s a n x S++[R]).toArray.setIfInBounds 17 (.slice (some ⟨x.s,0,none⟩) n n)=(lvX s a n x (bJ S 38)++[R]).toArray:=by
 unfold lvX;rw [mi,cY (by decide),cY (by decide)];rfl
end
theorem kD {w0 w:World} {n k:Nat} (h:MK w0 w n k) (hn:n≤1000):w.ownsRow 0 3 1 (.slice (some ⟨k,0,none⟩) n n) n ((List.replicate n (0:Int)).map iV):=by
 refine o1 (Nat.zero_le _) h.2 (Nat.le_refl _) (by unfold maxLen;omega) (by simp) ?_;simp
theorem aS.three {w0 w:World} {g n:Nat} {tag:Nat→Nat} {s:Rf} {a:Ra} {x:G3} (h:aS w0 tag s a) (hC:Chg (fun k=>k=g) w0 w) (hg:tag g=7) (hn:n≤1000) (h1:MK w0 w n x.x) (h2:MK w0 w n x.m) (h3:MK w0 w n x.s) (a1:x.x≠x.m) (a2:x.x≠x.s) (a3:x.m≠x.s) :
 aS w (fun k=>if k<w0.heap.size then tag k else if k=x.x then 2 else if k=x.m then 3 else 4) { s with next:=List.replicate n 0,mtch:=List.replicate n 0,sent:=List.replicate n 0 } { a with X:=some ⟨x.x,0,none⟩,Xc:=n,M:=some ⟨x.m,0,none⟩,Mc:=n,S:=some ⟨x.s,0,none⟩,Sc:=n }:=by
 have hh:=h.chgG hC hg
 have re:∀ {c:Nat} {A:Option Addr},Col tag c A→(∀ k,A.map (·.block)=some k→k<w0.heap.size)→Col (fun k=>if k<w0.heap.size then tag k else if k=x.x then 2 else if k=x.m then 3 else 4) c A:=fun hc hl k hk=>by
  show (if k<w0.heap.size then tag k else _)=_;rw [if_pos (hl k hk)];exact hc k hk
 have l:(List.replicate n (0:Int)).length=n:=List.length_replicate;refine ⟨fun hx=>⟨(hh.e hx).1,re (h.e hx).2 (cQ (h.e hx).1)⟩,fun hx=>⟨(hh.v hx).1,re (h.v hx).2 (cQ (h.v hx).1)⟩,fun _=>⟨by show World.ownsRow _ _ _ _ (.slice _ (List.replicate n (0:Int)).length _) (List.replicate n (0:Int)).length _;rw [l];exact kD h1 hn,fun k hk=>?_⟩,fun _=>⟨by show World.ownsRow _ _ _ _ (.slice _ (List.replicate n (0:Int)).length _) (List.replicate n (0:Int)).length _;rw [l];exact kD h2 hn,fun k hk=>?_⟩,fun _=>⟨by show World.ownsRow _ _ _ _ (.slice _ (List.replicate n (0:Int)).length _) (List.replicate n (0:Int)).length _;rw [l];exact kD h3 hn,fun k hk=>?_⟩,hh.r,fun hx=>⟨(hh.q hx).1,re (h.q hx).2 (cQ (h.q hx).1)⟩,fun i hi hx=>⟨(hh.k i hi hx).1,re (h.k i hi hx).2 (cQ (h.k i hi hx).1)⟩⟩
 ·cases hk;have:=h1.1;show (if x.x<w0.heap.size then _ else _)=2;rw [if_neg (by omega),if_pos rfl]
 ·cases hk;have:=h2.1;show (if x.m<w0.heap.size then _ else _)=3;rw [if_neg (by omega),if_neg (Ne.symm a1),if_pos rfl]
 ·cases hk;have:=h3.1;show (if x.s<w0.heap.size then _ else _)=4;rw [if_neg (by omega),if_neg (Ne.symm a2),if_neg (Ne.symm a3)]
theorem aR.three {wa w0 w:World} {Z:Nat→Prop} {T g n oc:Nat} {tag:Nat→Nat} {s:Rf} {out:List Msg} {O:Option Addr} {L:List Msg} {a:Ra} {x:G3} (h:aR wa Z w0 T g ⟨s,out⟩) (hs:ey w0 Z T g tag ⟨s,out⟩ a O oc L) (hC:Chg (fun k=>k=g) w0 w) (hn:n≤1000) (h1:MK w0 w n x.x) (h2:MK w0 w n x.m) (h3:MK w0 w n x.s) (a1:x.x≠x.m) (a2:x.x≠x.s) (a3:x.m≠x.s)
 (hb:Blk w g T (rfV { s with next:=List.replicate n 0,mtch:=List.replicate n 0,sent:=List.replicate n 0 } { a with X:=some ⟨x.x,0,none⟩,Xc:=n,M:=some ⟨x.m,0,none⟩,Mc:=n,S:=some ⟨x.s,0,none⟩,Sc:=n }++[Value.slice O L.length oc]).toArray) :
 aR wa Z w T g ⟨{ s with next:=List.replicate n 0,mtch:=List.replicate n 0,sent:=List.replicate n 0 },out⟩∧∃ tag',ey w Z T g tag' ⟨{ s with next:=List.replicate n 0,mtch:=List.replicate n 0,sent:=List.replicate n 0 },out⟩ { a with X:=some ⟨x.x,0,none⟩,Xc:=n,M:=some ⟨x.m,0,none⟩,Mc:=n,S:=some ⟨x.s,0,none⟩,Sc:=n } O oc L:=by
 have hm:=hs.m.chgG hC hs.gc;have hz:=h.zw
 have re:∀ {c:Nat} {A:Option Addr},Col tag c A→(∀ k,A.map (·.block)=some k→k<w0.heap.size)→Col (fun k=>if k<w0.heap.size then tag k else if k=x.x then 2 else if k=x.m then 3 else 4) c A:=fun hc hl k hk=>by
  show (if k<w0.heap.size then tag k else _)=_;rw [if_pos (hl k hk)];exact hc k hk
 have h9:ey w Z T g (fun k=>if k<w0.heap.size then tag k else if k=x.x then 2 else if k=x.m then 3 else 4) ⟨{ s with next:=List.replicate n 0,mtch:=List.replicate n 0,sent:=List.replicate n 0 },out⟩ { a with X:=some ⟨x.x,0,none⟩,Xc:=n,M:=some ⟨x.m,0,none⟩,Mc:=n,S:=some ⟨x.s,0,none⟩,Sc:=n } O oc L:=
  ⟨hb,hs.f.three hC hs.gc hn h1 h2 h3 a1 a2 a3,⟨hm.o,hm.l,fun j hj=>⟨(hm.e j hj).1,re (hm.e j hj).2 (cQ (hs.m.e j hj).1)⟩,re hm.c (cQ hs.m.o)⟩,(if_pos hs.b.lt).trans hs.gc,fun k hk=>(if_pos (hz k hk)).trans (hs.z k hk)⟩
 refine ⟨⟨⟨_,_,_,_,_,h9⟩,h.zl,h.fr.next (hC.wide fun k hk=>.inl fun hz1=>?_)⟩,_,h9⟩;have:=hs.z k hz1;rw [show k=g from hk,hs.gc] at this;cases this
theorem aS.novotes {w:World} {tag:Nat→Nat} {s:Rf} {a:Ra} (h:aS w tag s a):aS w tag { s with votes:=[] } { a with V:=none,Vc:=0 }:=
 ⟨fun _=>h.e (by decide),fun _=>⟨cC,Col.none⟩,fun _=>h.x (by decide),fun _=>h.m (by decide),fun _=>h.n (by decide),fun _=>h.r (by decide),fun _=>h.q (by decide),fun i hi _=>h.k i hi (by omega)⟩
theorem aS.noreads {w:World} {tag:Nat→Nat} {s:Rf} {a:Ra} (h:aS w tag s a):aS w tag { s with reads:=[] } { a with Q:=none,Qc:=0,L:=[] }:=
 ⟨fun _=>h.e (by decide),fun _=>h.v (by decide),fun _=>h.x (by decide),fun _=>h.m (by decide),fun _=>h.n (by decide),fun _=>rfl,fun _=>⟨cC,Col.none⟩,fun i hi _=>absurd hi (Nat.not_lt_zero _)⟩
def ep (n i:Nat) (v:Int):List Int:=List.replicate i v++List.replicate (n-i) 0
theorem k_ {n i:Nat} {v:Int} (h:i≤n):(ep n i v).length=n:=by unfold ep;rw [List.length_append,List.length_replicate,List.length_replicate];omega
theorem oW {n i:Nat} {v:Int} (h:i<n):(ep n i v).set i v=ep n (i+1) v:=by
 unfold ep;rw [List.set_append_right _ _ (by rw [List.length_replicate];exact Nat.le_refl _),List.length_replicate,Nat.sub_self,show n-i=(n-(i+1))+1 by omega,List.replicate_succ,List.set_cons_zero,List.replicate_succ',List.append_assoc];rfl
theorem oX {n:Nat} {v:Int}:ep n 0 v=List.replicate n 0:=by unfold ep;rw [Nat.sub_zero];rfl
theorem qZ {n:Nat} {v:Int}:ep n n v=List.replicate n v:=by unfold ep;rw [Nat.sub_self];simp
theorem qn (w0:World) (Z:Nat→Prop) (T g:Nat) (p:Sp) (w:World) (h:aR w0 Z w T g p) (hF:RfF p.s) (hl:p.out.length≤700) :
 Rt prog 45 [.pointer (some ⟨g,0,none⟩)] w (fun v w'=>v=.tuple #[]∧aR w0 Z w' T g (lr p)):=by
 obtain ⟨s,out⟩:=p;obtain ⟨tag,a,O,oc,L,hs⟩:=h.ex;obtain ⟨E,Ec,V,Vc,X,Xc,M,Mc,Sn,Sc,Q,Qc,LL⟩:=a;have hb:Blk w g T (rfV s (⟨E,Ec,V,Vc,X,Xc,M,Mc,Sn,Sc,Q,Qc,LL⟩:Ra)++[Value.slice O L.length oc]).toArray:=hs.b
 have hll:L.length=out.length:=by
  have h9:=congrArg List.length hs.m.l;rw [List.length_map] at h9;exact h9
 have hF:RfF s:=hF;have hl:out.length≤700:=hl;have hB0:ag w w:=ag.rfl_;have hbl:=hF.last;have hlb:bH s.b s.es=aE s:=rfl;have he:bY w (.slice E s.es.length Ec) s.es:=hs.f.rd.e;have hnn:=hF.n;have hid:=hF.i;have hzw:=h.zw;obtain ⟨n,hn0⟩:∃ n,n=s.nodes.toNat:=⟨_,rfl⟩;have hn:s.nodes=((n:Nat):Int):=by omega
 refine enter (n:=124) Try.func45 rfl rfl rfl (an (an (ah (mvp rfl (ab (ao rfl) (ab (aa aw rfl) (aA nk (qt T g s _ _ _ (hb.from_ ag.rfl_) (he.from_ ag.rfl_) hF.lg) ?_)))))));rintro v8 w1 ⟨rfl,E8⟩;refine ak (ai (aT rfl (fun Q2=>?_) (fun Q2=>?_)))
 ·have h8t:en s=true:=Q2;refine an ?_;apply kM [(0,9,fun _ v _=>v=_),(1,10,fun _ v _=>v=_),(2,11,fun _ v _=>v=_),(3,12,fun _ v _=>v=_),(4,13,fun _ v _=>v=_),(5,14,fun _ v _=>v=_),(6,15,fun _ v _=>v=_),(7,16,fun _ v _=>v=_),(8,17,fun _ v _=>v=_),(9,18,fun _ v _=>v=_)] [9] (fun S w'=>(S 9=false→ag w1 w')∧(S 9=true→aR w0 Z w' T g ⟨gn s s.term,out⟩)) (by kernel_rfl) (by kernel_rfl) rfl rfl ⟨fun _ _ _ _ _ _ _ h=>h,fun _ _ _ _ _ _ _ h=>h,fun _ _ _ _ _ _ _ h=>h,fun _ _ _ _ _ _ _ h=>h,fun _ _ _ _ _ _ _ h=>h,fun _ _ _ _ _ _ _ h=>h,fun _ _ _ _ _ _ _ h=>h,fun _ _ _ _ _ _ _ h=>h,fun _ _ _ _ _ _ _ h=>h,fun _ _ _ _ _ _ _ h=>h,trivial⟩ (fun S i w1 w2 hq hF h=>⟨fun h0=>(h.1 (p3 h0)).next hF,fun h1=>(fun h=>h.from_ hF) (h.2 (oR (show 9≠i by rintro rfl;exact absurd hq (by decide)) h1))⟩) ⟨fun _=>ag.rfl_.d1,fun h=>by cases h⟩
  case hstep=>
   constructor
   ·rintro S L' w3 hU hmo hme hI hM hC hS ⟨-⟩;have hS0:S 9=false:=(ae hC (j:=9) rfl (by kernel_rfl) (ae hC (j:=2) rfl (by kernel_rfl) (ae hC (j:=1) rfl (by kernel_rfl) hS)));have hM3:=hM.1 hS0;have e0:=hI.1 0 (fb rfl);exact az [(0,_)] hU hmo hme hI hM (.head _) rfl rfl (by kernel_rfl) ⟨e0,trivial⟩ (aB (v:=.pointer _) rfl) ag.rfl_ (rfl)
   constructor
   ·rintro S L' w4 hU hmo hme hI hM hC hS ⟨d0,-⟩;have hS0:S 9=false:=(ae hC (j:=9) rfl (by kernel_rfl) (ae hC (j:=2) rfl (by kernel_rfl) hS));have hM4:=hM.1 hS0;obtain ⟨v4_9,e9,h9⟩:=hI.get (i:=0) (.head _) d0;obtain rfl:=h9;exact az [(9,_)] hU hmo hme hI hM (.tail _ (.head _)) rfl rfl (by kernel_rfl) ⟨e9,trivial⟩ (ao rfl) ag.rfl_ (rfl)
   constructor
   ·rintro S L' w5 hU hmo hme hI hM hC hS ⟨d1,-⟩;have hS0:S 9=false:=(ae hC (j:=9) rfl (by kernel_rfl) hS);have hM5:=hM.1 hS0;obtain ⟨v5_10,e10,h10⟩:=hI.get (i:=1) (.tail _ (.head _)) d1;obtain rfl:=h10;exact az [(10,_)] hU hmo hme hI hM (.tail _ (.tail _ (.head _))) rfl rfl (by kernel_rfl) ⟨e10,trivial⟩ (aa aw rfl) ag.rfl_ (rfl)
   constructor
   ·rintro S L' w6 hU hmo hme hI hM hC hS ⟨-⟩;have hS0:S 9=false:=(ae hC (j:=9) rfl (by kernel_rfl) (ae hC (j:=8) rfl (by kernel_rfl) (ae hC (j:=7) rfl (by kernel_rfl) (ae hC (j:=6) rfl (by kernel_rfl) (ae hC (j:=5) rfl (by kernel_rfl) (ae hC (j:=4) rfl (by kernel_rfl) hS))))));have hM6:=hM.1 hS0;have e0:=hI.1 0 (fb rfl);exact az [(0,_)] hU hmo hme hI hM (.tail _ (.tail _ (.tail _ (.head _)))) rfl rfl (by kernel_rfl) ⟨e0,trivial⟩ (aB (v:=.pointer _) rfl) ag.rfl_ (rfl)
   constructor
   ·rintro S L' w7 hU hmo hme hI hM hC hS ⟨d3,-⟩;have hS0:S 9=false:=(ae hC (j:=9) rfl (by kernel_rfl) (ae hC (j:=8) rfl (by kernel_rfl) (ae hC (j:=7) rfl (by kernel_rfl) (ae hC (j:=6) rfl (by kernel_rfl) (ae hC (j:=5) rfl (by kernel_rfl) hS)))));have hM7:=hM.1 hS0;obtain ⟨v7_12,e12,h12⟩:=hI.get (i:=3) (.tail _ (.tail _ (.tail _ (.head _)))) d3;obtain rfl:=h12;exact az [(12,_)] hU hmo hme hI hM (.tail _ (.tail _ (.tail _ (.tail _ (.head _))))) rfl rfl (by kernel_rfl) ⟨e12,trivial⟩ (ao rfl) ag.rfl_ (rfl)
   constructor
   ·rintro S L' w8 hU hmo hme hI hM hC hS ⟨d4,-⟩;have hS0:S 9=false:=(ae hC (j:=9) rfl (by kernel_rfl) (ae hC (j:=8) rfl (by kernel_rfl) (ae hC (j:=7) rfl (by kernel_rfl) (ae hC (j:=6) rfl (by kernel_rfl) hS))));have hM8:=hM.1 hS0;obtain ⟨v8_13,e13,h13⟩:=hI.get (i:=4) (.tail _ (.tail _ (.tail _ (.tail _ (.head _))))) d4;obtain rfl:=h13;exact az [(13,_)] hU hmo hme hI hM (.tail _ (.tail _ (.tail _ (.tail _ (.tail _ (.head _)))))) rfl rfl (by kernel_rfl) ⟨e13,trivial⟩ (aa aw rfl) ag.rfl_ (rfl)
   constructor
   ·rintro S L' w9 hU hmo hme hI hM hC hS ⟨d5,-⟩;have hS0:S 9=false:=(ae hC (j:=9) rfl (by kernel_rfl) (ae hC (j:=8) rfl (by kernel_rfl) (ae hC (j:=7) rfl (by kernel_rfl) hS)));have hM9:=hM.1 hS0;obtain ⟨v9_14,e14,h14⟩:=hI.get (i:=5) (.tail _ (.tail _ (.tail _ (.tail _ (.tail _ (.head _)))))) d5;obtain rfl:=h14;exact az [(14,_)] hU hmo hme hI hM (.tail _ (.tail _ (.tail _ (.tail _ (.tail _ (.tail _ (.head _))))))) rfl rfl (by kernel_rfl) ⟨e14,trivial⟩ (aa aq rfl) ag.rfl_ (rfl)
   constructor
   ·rintro S L' w10 hU hmo hme hI hM hC hS ⟨d6,-⟩;have hS0:S 9=false:=(ae hC (j:=9) rfl (by kernel_rfl) (ae hC (j:=8) rfl (by kernel_rfl) hS));have hM10:=hM.1 hS0;obtain ⟨v10_15,e15,h15⟩:=hI.get (i:=6) (.tail _ (.tail _ (.tail _ (.tail _ (.tail _ (.tail _ (.head _))))))) d6;obtain rfl:=h15;exact az [(15,_)] hU hmo hme hI hM (.tail _ (.tail _ (.tail _ (.tail _ (.tail _ (.tail _ (.tail _ (.head _)))))))) rfl rfl (by kernel_rfl) ⟨e15,trivial⟩ (aa bk rfl) ag.rfl_ (rfl)
   constructor
   ·rintro S L' w11 hU hmo hme hI hM hC hS ⟨d7,-⟩;have hS0:S 9=false:=(ae hC (j:=9) rfl (by kernel_rfl) hS);have hM11:=hM.1 hS0;obtain ⟨v11_16,e16,h16⟩:=hI.get (i:=7) (.tail _ (.tail _ (.tail _ (.tail _ (.tail _ (.tail _ (.tail _ (.head _)))))))) d7;obtain rfl:=h16;exact az [(16,_)] hU hmo hme hI hM (.tail _ (.tail _ (.tail _ (.tail _ (.tail _ (.tail _ (.tail _ (.tail _ (.head _))))))))) rfl rfl (by kernel_rfl) ⟨e16,trivial⟩ (ar au rfl (by exact (show _=some (Value.int .i64 s.term) from bB (hb.from_ ((ag.rfl_.next E8).next hM11)) 3 rfl))) ag.rfl_ (rfl)
   constructor
   ·rintro S L' w12 hU hmo hme hI hM hC hS ⟨d2,d8,-⟩;have hS0:S 9=false:=hS;have hM12:=hM.1 hS0;obtain ⟨v12_11,e11,h11⟩:=hI.get (i:=2) (.tail _ (.tail _ (.head _))) d2;obtain rfl:=h11;obtain ⟨v12_17,e17,h17⟩:=hI.get (i:=8) (.tail _ (.tail _ (.tail _ (.tail _ (.tail _ (.tail _ (.tail _ (.tail _ (.head _))))))))) d8;obtain rfl:=h17;refine gi (al:=[.tmp 11,.tmp 17]) [(11,_),(17,_)] hU hI (.tail _ (.tail _ (.tail _ (.tail _ (.tail _ (.tail _ (.tail _ (.tail _ (.tail _ (.head _)))))))))) (by kernel_rfl) ⟨e11,e17,trivial⟩ nj ((og w0 Z T g ⟨s,out⟩ _ (h.from_ ((ag.rfl_.next E8).next hM12)) s.term).mono ?_);rintro v9 w2 ⟨rfl,hS2⟩;exact ⟨⟨fun h0=>(by rw [mi] at h0;cases h0),fun _=>hS2⟩,rfl,⟨fun _ _ _ h=>h,fun _ _ _ h=>h,fun _ _ _ h=>h,fun _ _ _ h=>h,fun _ _ _ h=>h,fun _ _ _ h=>h,fun _ _ _ h=>h,fun _ _ _ h=>h,fun _ _ _ h=>h,fun _ _ _ h=>h,trivial⟩⟩
   exact trivial
  case hend=>
   intro w13 hM;obtain hS9:=hM.2 rfl;rintro v13_9 rfl v13_10 rfl v13_11 rfl v13_12 rfl v13_13 rfl v13_14 rfl v13_15 rfl v13_16 rfl v13_17 rfl v13_18 rfl;refine jA (ai (aG (aN (fa rfl ?_))));unfold lr
   first
    |(rw [if_pos h8t];exact ⟨rfl,hS9.from_ ag.rfl_⟩)
    |(rw [if_neg (by show ¬ en s=true;rw [h8];decide)]
      refine ⟨rfl,?_⟩;show aR w0 Z _ T g ⟨bw (Sp.all ⟨cW (cp s) ⟨#[]⟩,out⟩).s,(Sp.all ⟨cW (cp s) ⟨#[]⟩,out⟩).out⟩;rw [show (Sp.all ⟨cW (cp s) ⟨#[]⟩,out⟩).s=cW (cp s) ⟨#[]⟩ by rw [jz]];exact h12.from_ (ag.rfl_ (a:=w1)))
 have h8:en s=false:=by simpa using Q2
 refine aO (ai (an (ah (mvp rfl (ab (ao rfl) (ab (aa aw rfl) (aA ec (fI T g s _ _ _ (hb.from_ (ag.rfl_.next E8)) (he.from_ (ag.rfl_.next E8)) hF.lg) ?_)))))));rintro v23 w14 ⟨rfl,E23⟩;refine mvt rfl (ab (aM rfl rfl) (ab (aM rfl rfl) (asi rfl (asi rfl (ak (ai (an (ah (mvp rfl (mvp rfl (mvp rfl ?_)))))))))));refine mvp rfl (mvp rfl (ab (ao rfl) (ab (aa aw rfl) (ab (aa aq rfl) (ab (aa ch rfl) (ab (ar au rfl (by exact (show _=some (Value.int .i64 s.id) from bB (hb.from_ ((ag.rfl_.next E8).next E23)) 0 rfl))) ?_))))));refine ab (ao rfl) (ab (aa aw rfl) (ab (aa aq rfl) (ab (aa ck rfl) ?_)));have hB0:ag w w14:=((ag.rfl_.next E8).next E23);refine bm (s':=({ s with role:=2 }:Rf)) (a':=(⟨E,Ec,V,Vc,X,Xc,M,Mc,Sn,Sc,Q,Qc,LL⟩:Ra)) (v:=.int _ _) aW rfl rfl rfl ((hb.from_ ((ag.rfl_.next E8).next E23))) (by exact ⟨by decide,rfl⟩) ?_;intro w15 O3_0 P3_0;have hC1:Chg (fun k=>k=g) w w15:=(ag.toChg hB0).only O3_0 rfl;refine ab (ao rfl) (ab (aa aw rfl) (ab (aa aq rfl) (ab (aa dc rfl) (bm (s':=({ s with role:=2,leader:=s.id }:Rf)) (a':=(⟨E,Ec,V,Vc,X,Xc,M,Mc,Sn,Sc,Q,Qc,LL⟩:Ra)) (v:=.int _ _) aW rfl rfl rfl (P3_0) (by exact ⟨by decide,rfl⟩) ?_))));intro w16 O3_1 P3_1;replace hC1:=hC1.only O3_1 rfl;refine ab (ao rfl) (ab (aa aw rfl) (ab (aa aq rfl) (ab (aa bX rfl) (bm (s':=({ s with role:=2,leader:=s.id,votes:=[] }:Rf)) (a':=(⟨E,Ec,none,0,X,Xc,M,Mc,Sn,Sc,Q,Qc,LL⟩:Ra)) (v:=.slice _ _ _) bI rfl rfl rfl (P3_1) (by exact ⟨by decide,rfl⟩) ?_))));intro w17 O3_2 P3_2;replace hC1:=hC1.only O3_2 rfl;refine ab (ao rfl) (ab (aa aw rfl) (ab (aa aq rfl) (ab (aa bM rfl) (bm (s':=({ s with role:=2,leader:=s.id,votes:=[],elapsed:=0 }:Rf)) (a':=(⟨E,Ec,none,0,X,Xc,M,Mc,Sn,Sc,Q,Qc,LL⟩:Ra)) (v:=.int _ _) aW rfl rfl rfl (P3_2) (by exact ⟨by decide,rfl⟩) ?_))));intro w18 O3_3 P3_3;replace hC1:=hC1.only O3_3 rfl;obtain ⟨hs3,h3⟩:=h.set (s':=({ s with role:=2,leader:=s.id,votes:=[],elapsed:=0 }:Rf)) (a':=(⟨E,Ec,none,0,X,Xc,M,Mc,Sn,Sc,Q,Qc,LL⟩:Ra)) hs hC1 (aS.same hs.f.novotes rfl rfl rfl rfl rfl rfl) P3_3;refine ak (ai (an (pI (X:=G3) [(0,52,fun x=>.pointer (some ⟨g,0,none⟩)),(1,53,fun x=>.pointer (some ⟨g,0,none⟩)),(2,54,fun x=>.pointer (some ⟨g,0,none⟩)),(3,55,fun x=>.pointer (some ⟨g,0,none⟩)),(4,56,fun x=>.pointer (some ⟨g,0,none⟩)),(5,57,fun x=>.pointer (some ⟨g,0+0,none⟩)),(6,58,fun x=>.pointer (some ⟨g,0+0+0,none⟩)),(7,59,fun x=>.pointer (some ⟨g,0+0+0+1,none⟩)),(8,60,fun x=>.int .i64 (n:Nat)),(9,61,fun x=>.slice (some ⟨x.x,0,none⟩) n n),(10,62,fun x=>.pointer (some ⟨g,0,none⟩)),(11,63,fun x=>.pointer (some ⟨g,0,none⟩)),(12,64,fun x=>.pointer (some ⟨g,0+0,none⟩)),(13,65,fun x=>.pointer (some ⟨g,0+0+0,none⟩)),(14,66,fun x=>.pointer (some ⟨g,0+0+0+1,none⟩)),(15,67,fun x=>.int .i64 (n:Nat)),(16,68,fun x=>.slice (some ⟨x.m,0,none⟩) n n),(17,69,fun x=>.pointer (some ⟨g,0,none⟩)),(18,70,fun x=>.pointer (some ⟨g,0,none⟩)),(19,71,fun x=>.pointer (some ⟨g,0+0,none⟩)),(20,72,fun x=>.pointer (some ⟨g,0+0+0,none⟩)),(21,73,fun x=>.pointer (some ⟨g,0+0+0+1,none⟩)),(22,74,fun x=>.int .i64 (n:Nat)),(23,75,fun x=>.slice (some ⟨x.s,0,none⟩) n n),(24,76,fun x=>.pointer (some ⟨g,0,none⟩)),(25,77,fun x=>.pointer (some ⟨g,0+0,none⟩)),(26,78,fun x=>.pointer (some ⟨g,0+0+0,none⟩)),(27,79,fun x=>.pointer (some ⟨g,0+0+0+15,none⟩)),(29,80,fun x=>.pointer (some ⟨g,0,none⟩)),(30,81,fun x=>.pointer (some ⟨g,0+0,none⟩)),(31,82,fun x=>.pointer (some ⟨g,0+0+0,none⟩)),(32,83,fun x=>.pointer (some ⟨g,0+0+0+16,none⟩)),(34,84,fun x=>.pointer (some ⟨g,0,none⟩)),(35,85,fun x=>.pointer (some ⟨g,0+0,none⟩)),(36,86,fun x=>.pointer (some ⟨g,0+0+0,none⟩)),(37,87,fun x=>.pointer (some ⟨g,0+0+0+17,none⟩))] [9,16,23,28,33,38] (fun x S w'=>LI w18 T g n ({ s with role:=2,leader:=s.id,votes:=[],elapsed:=0 }:Rf) (⟨E,Ec,none,0,X,Xc,M,Mc,Sn,Sc,Q,Qc,LL⟩:Ra) (Value.slice O L.length oc) x S w') (by kernel_rfl) (by kernel_rfl) rfl rfl (fun x S i w1 w2 hq hF h=>LI.rd h hq hF) (⟨⟨0,0,0⟩,⟨ag.rfl_.d1.toChg,(hs3.b.from_ ((ag.rfl_).d1)),fun h=>(by cases h),fun h=>(by cases h),fun h=>(by cases h),fun h=>(by cases h),fun h=>(by cases h),fun h=>(by cases h),(hs3.b.from_ ag.rfl_).lt⟩⟩) ?_ ?_)))
 ·constructor
  ·rintro S L' w19 x hU hme hI hM hC hS ⟨-⟩;have hM':=hM;obtain ⟨hc19,hb19,u919,u1619,u2319,q119,q219,q319,lt19⟩:=hM';have e0:=InvX.out hI (t:=0) rfl;exact aU [(0,_)] x hU hI (.head _) rfl (by kernel_rfl) ⟨e0,trivial⟩ (aB (v:=.pointer _) rfl) aX (hme _ _ _ _ _ rfl ag.rfl_ hM)
  constructor
  ·rintro S L' w20 x hU hme hI hM hC hS ⟨-,-⟩;have hM':=hM;obtain ⟨hc20,hb20,u920,u1620,u2320,q120,q220,q320,lt20⟩:=hM';have e0:=InvX.out hI (t:=0) rfl;exact aU [(0,_)] x hU hI (.tail _ (.head _)) rfl (by kernel_rfl) ⟨e0,trivial⟩ (aB (v:=.pointer _) rfl) aX (hme _ _ _ _ _ rfl ag.rfl_ hM)
  constructor
  ·rintro S L' w21 x hU hme hI hM hC hS ⟨-,-⟩;have hM':=hM;obtain ⟨hc21,hb21,u921,u1621,u2321,q121,q221,q321,lt21⟩:=hM';have e0:=InvX.out hI (t:=0) rfl;exact aU [(0,_)] x hU hI (.tail _ (.tail _ (.head _))) rfl (by kernel_rfl) ⟨e0,trivial⟩ (aB (v:=.pointer _) rfl) aX (hme _ _ _ _ _ rfl ag.rfl_ hM)
  constructor
  ·rintro S L' w22 x hU hme hI hM hC hS ⟨-⟩;have hM':=hM;obtain ⟨hc22,hb22,u922,u1622,u2322,q122,q222,q322,lt22⟩:=hM';have e0:=InvX.out hI (t:=0) rfl;exact aU [(0,_)] x hU hI (.tail _ (.tail _ (.tail _ (.head _)))) rfl (by kernel_rfl) ⟨e0,trivial⟩ (aB (v:=.pointer _) rfl) aX (hme _ _ _ _ _ rfl ag.rfl_ hM)
  constructor
  ·rintro S L' w23 x hU hme hI hM hC hS ⟨d3,-⟩;have hM':=hM;obtain ⟨hc23,hb23,u923,u1623,u2323,q123,q223,q323,lt23⟩:=hM';have e55:=InvX.get hI (i:=3) (.tail _ (.tail _ (.tail _ (.head _)))) d3;exact aU [(55,_)] x hU hI (.tail _ (.tail _ (.tail _ (.tail _ (.head _))))) rfl (by kernel_rfl) ⟨e55,trivial⟩ (ao rfl) aX (hme _ _ _ _ _ rfl ag.rfl_ hM)
  constructor
  ·rintro S L' w24 x hU hme hI hM hC hS ⟨d4,-⟩;have hM':=hM;obtain ⟨hc24,hb24,u924,u1624,u2324,q124,q224,q324,lt24⟩:=hM';have e56:=InvX.get hI (i:=4) (.tail _ (.tail _ (.tail _ (.tail _ (.head _))))) d4;exact aU [(56,_)] x hU hI (.tail _ (.tail _ (.tail _ (.tail _ (.tail _ (.head _)))))) rfl (by kernel_rfl) ⟨e56,trivial⟩ (aa aw rfl) aX (hme _ _ _ _ _ rfl ag.rfl_ hM)
  constructor
  ·rintro S L' w25 x hU hme hI hM hC hS ⟨d5,-⟩;have hM':=hM;obtain ⟨hc25,hb25,u925,u1625,u2325,q125,q225,q325,lt25⟩:=hM';have e57:=InvX.get hI (i:=5) (.tail _ (.tail _ (.tail _ (.tail _ (.tail _ (.head _)))))) d5;exact aU [(57,_)] x hU hI (.tail _ (.tail _ (.tail _ (.tail _ (.tail _ (.tail _ (.head _))))))) rfl (by kernel_rfl) ⟨e57,trivial⟩ (aa aq rfl) aX (hme _ _ _ _ _ rfl ag.rfl_ hM)
  constructor
  ·rintro S L' w26 x hU hme hI hM hC hS ⟨d6,-⟩;have hM':=hM;obtain ⟨hc26,hb26,u926,u1626,u2326,q126,q226,q326,lt26⟩:=hM';have e58:=InvX.get hI (i:=6) (.tail _ (.tail _ (.tail _ (.tail _ (.tail _ (.tail _ (.head _))))))) d6;exact aU [(58,_)] x hU hI (.tail _ (.tail _ (.tail _ (.tail _ (.tail _ (.tail _ (.tail _ (.head _)))))))) rfl (by kernel_rfl) ⟨e58,trivial⟩ (aa bc rfl) aX (hme _ _ _ _ _ rfl ag.rfl_ hM)
  constructor
  ·rintro S L' w27 x hU hme hI hM hC hS ⟨d7,-⟩;have hM':=hM;obtain ⟨hc27,hb27,u927,u1627,u2327,q127,q227,q327,lt27⟩:=hM';have e59:=InvX.get hI (i:=7) (.tail _ (.tail _ (.tail _ (.tail _ (.tail _ (.tail _ (.tail _ (.head _)))))))) d7;exact aU [(59,_)] x hU hI (.tail _ (.tail _ (.tail _ (.tail _ (.tail _ (.tail _ (.tail _ (.tail _ (.head _))))))))) rfl (by kernel_rfl) ⟨e59,trivial⟩ (jb (ar au rfl (show _=some (Value.int .i64 s.nodes) from hM.b.rd 1 rfl)) (aZ hn)) aX (hme _ _ _ _ _ rfl ag.rfl_ hM)
  constructor
  ·rintro S L' w28 x hU hme hI hM hC hS ⟨d8,d8,-⟩;have hM':=hM;obtain ⟨hc28,hb28,u928,u1628,u2328,q128,q228,q328,lt28⟩:=hM';have e60:=InvX.get hI (i:=8) (.tail _ (.tail _ (.tail _ (.tail _ (.tail _ (.tail _ (.tail _ (.tail _ (.head _))))))))) d8;have h28:S 28=false:=ae hC (j:=28) rfl (by kernel_rfl) hS;exact aU [(60,_)] ⟨w28.heap.size,x.m,x.s⟩ hU hI (.tail _ (.tail _ (.tail _ (.tail _ (.tail _ (.tail _ (.tail _ (.tail _ (.tail _ (.head _)))))))))) rfl (by kernel_rfl) ⟨e60,trivial⟩ (mm gv rfl rfl rfl (by omega) (by omega)) ⟨fun _=>rfl,fun _=>rfl,fun _=>rfl,fun _=>rfl,fun _=>rfl,fun _=>rfl,fun _=>rfl,fun _=>rfl,fun _=>rfl,fun h=>(by rw [hS] at h;cases h),fun _=>rfl,fun _=>rfl,fun _=>rfl,fun _=>rfl,fun _=>rfl,fun _=>rfl,fun _=>rfl,fun _=>rfl,fun _=>rfl,fun _=>rfl,fun _=>rfl,fun _=>rfl,fun _=>rfl,fun _=>rfl,fun _=>rfl,fun _=>rfl,fun _=>rfl,fun _=>rfl,fun _=>rfl,fun _=>rfl,fun _=>rfl,fun _=>rfl,fun _=>rfl,fun _=>rfl,fun _=>rfl,fun _=>rfl,trivial⟩ (LI.mk9 hM h28 ⟨hM.c.size,Blk.new _ _ _⟩ (ag.rfl_.new _))
  constructor
  ·rintro S L' w29 x hU hme hI hM hC hS ⟨-⟩;have hM':=hM;obtain ⟨hc29,hb29,u929,u1629,u2329,q129,q229,q329,lt29⟩:=hM';have e0:=InvX.out hI (t:=0) rfl;exact aU [(0,_)] x hU hI (.tail _ (.tail _ (.tail _ (.tail _ (.tail _ (.tail _ (.tail _ (.tail _ (.tail _ (.tail _ (.head _))))))))))) rfl (by kernel_rfl) ⟨e0,trivial⟩ (aB (v:=.pointer _) rfl) aX (hme _ _ _ _ _ rfl ag.rfl_ hM)
  constructor
  ·rintro S L' w30 x hU hme hI hM hC hS ⟨d10,-⟩;have hM':=hM;obtain ⟨hc30,hb30,u930,u1630,u2330,q130,q230,q330,lt30⟩:=hM';have e62:=InvX.get hI (i:=10) (.tail _ (.tail _ (.tail _ (.tail _ (.tail _ (.tail _ (.tail _ (.tail _ (.tail _ (.tail _ (.head _))))))))))) d10;exact aU [(62,_)] x hU hI (.tail _ (.tail _ (.tail _ (.tail _ (.tail _ (.tail _ (.tail _ (.tail _ (.tail _ (.tail _ (.tail _ (.head _)))))))))))) rfl (by kernel_rfl) ⟨e62,trivial⟩ (ao rfl) aX (hme _ _ _ _ _ rfl ag.rfl_ hM)
  constructor
  ·rintro S L' w31 x hU hme hI hM hC hS ⟨d11,-⟩;have hM':=hM;obtain ⟨hc31,hb31,u931,u1631,u2331,q131,q231,q331,lt31⟩:=hM';have e63:=InvX.get hI (i:=11) (.tail _ (.tail _ (.tail _ (.tail _ (.tail _ (.tail _ (.tail _ (.tail _ (.tail _ (.tail _ (.tail _ (.head _)))))))))))) d11;exact aU [(63,_)] x hU hI (.tail _ (.tail _ (.tail _ (.tail _ (.tail _ (.tail _ (.tail _ (.tail _ (.tail _ (.tail _ (.tail _ (.tail _ (.head _))))))))))))) rfl (by kernel_rfl) ⟨e63,trivial⟩ (aa aw rfl) aX (hme _ _ _ _ _ rfl ag.rfl_ hM)
  constructor
  ·rintro S L' w32 x hU hme hI hM hC hS ⟨d12,-⟩;have hM':=hM;obtain ⟨hc32,hb32,u932,u1632,u2332,q132,q232,q332,lt32⟩:=hM';have e64:=InvX.get hI (i:=12) (.tail _ (.tail _ (.tail _ (.tail _ (.tail _ (.tail _ (.tail _ (.tail _ (.tail _ (.tail _ (.tail _ (.tail _ (.head _))))))))))))) d12;exact aU [(64,_)] x hU hI (.tail _ (.tail _ (.tail _ (.tail _ (.tail _ (.tail _ (.tail _ (.tail _ (.tail _ (.tail _ (.tail _ (.tail _ (.tail _ (.head _)))))))))))))) rfl (by kernel_rfl) ⟨e64,trivial⟩ (aa aq rfl) aX (hme _ _ _ _ _ rfl ag.rfl_ hM)
  constructor
  ·rintro S L' w33 x hU hme hI hM hC hS ⟨d13,-⟩;have hM':=hM;obtain ⟨hc33,hb33,u933,u1633,u2333,q133,q233,q333,lt33⟩:=hM';have e65:=InvX.get hI (i:=13) (.tail _ (.tail _ (.tail _ (.tail _ (.tail _ (.tail _ (.tail _ (.tail _ (.tail _ (.tail _ (.tail _ (.tail _ (.tail _ (.head _)))))))))))))) d13;exact aU [(65,_)] x hU hI (.tail _ (.tail _ (.tail _ (.tail _ (.tail _ (.tail _ (.tail _ (.tail _ (.tail _ (.tail _ (.tail _ (.tail _ (.tail _ (.tail _ (.head _))))))))))))))) rfl (by kernel_rfl) ⟨e65,trivial⟩ (aa bc rfl) aX (hme _ _ _ _ _ rfl ag.rfl_ hM)
  constructor
  ·rintro S L' w34 x hU hme hI hM hC hS ⟨d14,-⟩;have hM':=hM;obtain ⟨hc34,hb34,u934,u1634,u2334,q134,q234,q334,lt34⟩:=hM';have e66:=InvX.get hI (i:=14) (.tail _ (.tail _ (.tail _ (.tail _ (.tail _ (.tail _ (.tail _ (.tail _ (.tail _ (.tail _ (.tail _ (.tail _ (.tail _ (.tail _ (.head _))))))))))))))) d14;exact aU [(66,_)] x hU hI (.tail _ (.tail _ (.tail _ (.tail _ (.tail _ (.tail _ (.tail _ (.tail _ (.tail _ (.tail _ (.tail _ (.tail _ (.tail _ (.tail _ (.tail _ (.head _)))))))))))))))) rfl (by kernel_rfl) ⟨e66,trivial⟩ (jb (ar au rfl (show _=some (Value.int .i64 s.nodes) from hM.b.rd 1 rfl)) (aZ hn)) aX (hme _ _ _ _ _ rfl ag.rfl_ hM)
  constructor
  ·rintro S L' w35 x hU hme hI hM hC hS ⟨d15,d15,-⟩;have hM':=hM;obtain ⟨hc35,hb35,u935,u1635,u2335,q135,q235,q335,lt35⟩:=hM';have e67:=InvX.get hI (i:=15) (.tail _ (.tail _ (.tail _ (.tail _ (.tail _ (.tail _ (.tail _ (.tail _ (.tail _ (.tail _ (.tail _ (.tail _ (.tail _ (.tail _ (.tail _ (.head _)))))))))))))))) d15;have h28:S 33=false:=ae hC (j:=33) rfl (by kernel_rfl) hS;exact aU [(67,_)] ⟨x.x,w35.heap.size,x.s⟩ hU hI (.tail _ (.tail _ (.tail _ (.tail _ (.tail _ (.tail _ (.tail _ (.tail _ (.tail _ (.tail _ (.tail _ (.tail _ (.tail _ (.tail _ (.tail _ (.tail _ (.head _))))))))))))))))) rfl (by kernel_rfl) ⟨e67,trivial⟩ (mm gv rfl rfl rfl (by omega) (by omega)) ⟨fun _=>rfl,fun _=>rfl,fun _=>rfl,fun _=>rfl,fun _=>rfl,fun _=>rfl,fun _=>rfl,fun _=>rfl,fun _=>rfl,fun _=>rfl,fun _=>rfl,fun _=>rfl,fun _=>rfl,fun _=>rfl,fun _=>rfl,fun _=>rfl,fun h=>(by rw [hS] at h;cases h),fun _=>rfl,fun _=>rfl,fun _=>rfl,fun _=>rfl,fun _=>rfl,fun _=>rfl,fun _=>rfl,fun _=>rfl,fun _=>rfl,fun _=>rfl,fun _=>rfl,fun _=>rfl,fun _=>rfl,fun _=>rfl,fun _=>rfl,fun _=>rfl,fun _=>rfl,fun _=>rfl,fun _=>rfl,trivial⟩ (LI.mk16 hM h28 ⟨hM.c.size,Blk.new _ _ _⟩ (ag.rfl_.new _))
  constructor
  ·rintro S L' w36 x hU hme hI hM hC hS ⟨-⟩;have hM':=hM;obtain ⟨hc36,hb36,u936,u1636,u2336,q136,q236,q336,lt36⟩:=hM';have e0:=InvX.out hI (t:=0) rfl;exact aU [(0,_)] x hU hI (.tail _ (.tail _ (.tail _ (.tail _ (.tail _ (.tail _ (.tail _ (.tail _ (.tail _ (.tail _ (.tail _ (.tail _ (.tail _ (.tail _ (.tail _ (.tail _ (.tail _ (.head _)))))))))))))))))) rfl (by kernel_rfl) ⟨e0,trivial⟩ (aB (v:=.pointer _) rfl) aX (hme _ _ _ _ _ rfl ag.rfl_ hM)
  constructor
  ·rintro S L' w37 x hU hme hI hM hC hS ⟨d17,-⟩;have hM':=hM;obtain ⟨hc37,hb37,u937,u1637,u2337,q137,q237,q337,lt37⟩:=hM';have e69:=InvX.get hI (i:=17) (.tail _ (.tail _ (.tail _ (.tail _ (.tail _ (.tail _ (.tail _ (.tail _ (.tail _ (.tail _ (.tail _ (.tail _ (.tail _ (.tail _ (.tail _ (.tail _ (.tail _ (.head _)))))))))))))))))) d17;exact aU [(69,_)] x hU hI (.tail _ (.tail _ (.tail _ (.tail _ (.tail _ (.tail _ (.tail _ (.tail _ (.tail _ (.tail _ (.tail _ (.tail _ (.tail _ (.tail _ (.tail _ (.tail _ (.tail _ (.tail _ (.head _))))))))))))))))))) rfl (by kernel_rfl) ⟨e69,trivial⟩ (ao rfl) aX (hme _ _ _ _ _ rfl ag.rfl_ hM)
  constructor
  ·rintro S L' w38 x hU hme hI hM hC hS ⟨d18,-⟩;have hM':=hM;obtain ⟨hc38,hb38,u938,u1638,u2338,q138,q238,q338,lt38⟩:=hM';have e70:=InvX.get hI (i:=18) (.tail _ (.tail _ (.tail _ (.tail _ (.tail _ (.tail _ (.tail _ (.tail _ (.tail _ (.tail _ (.tail _ (.tail _ (.tail _ (.tail _ (.tail _ (.tail _ (.tail _ (.tail _ (.head _))))))))))))))))))) d18;exact aU [(70,_)] x hU hI (.tail _ (.tail _ (.tail _ (.tail _ (.tail _ (.tail _ (.tail _ (.tail _ (.tail _ (.tail _ (.tail _ (.tail _ (.tail _ (.tail _ (.tail _ (.tail _ (.tail _ (.tail _ (.tail _ (.head _)))))))))))))))))))) rfl (by kernel_rfl) ⟨e70,trivial⟩ (aa aw rfl) aX (hme _ _ _ _ _ rfl ag.rfl_ hM)
  constructor
  ·rintro S L' w39 x hU hme hI hM hC hS ⟨d19,-⟩;have hM':=hM;obtain ⟨hc39,hb39,u939,u1639,u2339,q139,q239,q339,lt39⟩:=hM';have e71:=InvX.get hI (i:=19) (.tail _ (.tail _ (.tail _ (.tail _ (.tail _ (.tail _ (.tail _ (.tail _ (.tail _ (.tail _ (.tail _ (.tail _ (.tail _ (.tail _ (.tail _ (.tail _ (.tail _ (.tail _ (.tail _ (.head _)))))))))))))))))))) d19;exact aU [(71,_)] x hU hI (.tail _ (.tail _ (.tail _ (.tail _ (.tail _ (.tail _ (.tail _ (.tail _ (.tail _ (.tail _ (.tail _ (.tail _ (.tail _ (.tail _ (.tail _ (.tail _ (.tail _ (.tail _ (.tail _ (.tail _ (.head _))))))))))))))))))))) rfl (by kernel_rfl) ⟨e71,trivial⟩ (aa aq rfl) aX (hme _ _ _ _ _ rfl ag.rfl_ hM)
  constructor
  ·rintro S L' w40 x hU hme hI hM hC hS ⟨d20,-⟩;have hM':=hM;obtain ⟨hc40,hb40,u940,u1640,u2340,q140,q240,q340,lt40⟩:=hM';have e72:=InvX.get hI (i:=20) (.tail _ (.tail _ (.tail _ (.tail _ (.tail _ (.tail _ (.tail _ (.tail _ (.tail _ (.tail _ (.tail _ (.tail _ (.tail _ (.tail _ (.tail _ (.tail _ (.tail _ (.tail _ (.tail _ (.tail _ (.head _))))))))))))))))))))) d20;exact aU [(72,_)] x hU hI (.tail _ (.tail _ (.tail _ (.tail _ (.tail _ (.tail _ (.tail _ (.tail _ (.tail _ (.tail _ (.tail _ (.tail _ (.tail _ (.tail _ (.tail _ (.tail _ (.tail _ (.tail _ (.tail _ (.tail _ (.tail _ (.head _)))))))))))))))))))))) rfl (by kernel_rfl) ⟨e72,trivial⟩ (aa bc rfl) aX (hme _ _ _ _ _ rfl ag.rfl_ hM)
  constructor
  ·rintro S L' w41 x hU hme hI hM hC hS ⟨d21,-⟩;have hM':=hM;obtain ⟨hc41,hb41,u941,u1641,u2341,q141,q241,q341,lt41⟩:=hM';have e73:=InvX.get hI (i:=21) (.tail _ (.tail _ (.tail _ (.tail _ (.tail _ (.tail _ (.tail _ (.tail _ (.tail _ (.tail _ (.tail _ (.tail _ (.tail _ (.tail _ (.tail _ (.tail _ (.tail _ (.tail _ (.tail _ (.tail _ (.tail _ (.head _)))))))))))))))))))))) d21;exact aU [(73,_)] x hU hI (.tail _ (.tail _ (.tail _ (.tail _ (.tail _ (.tail _ (.tail _ (.tail _ (.tail _ (.tail _ (.tail _ (.tail _ (.tail _ (.tail _ (.tail _ (.tail _ (.tail _ (.tail _ (.tail _ (.tail _ (.tail _ (.tail _ (.head _))))))))))))))))))))))) rfl (by kernel_rfl) ⟨e73,trivial⟩ (jb (ar au rfl (show _=some (Value.int .i64 s.nodes) from hM.b.rd 1 rfl)) (aZ hn)) aX (hme _ _ _ _ _ rfl ag.rfl_ hM)
  constructor
  ·rintro S L' w42 x hU hme hI hM hC hS ⟨d22,d22,-⟩;have hM':=hM;obtain ⟨hc42,hb42,u942,u1642,u2342,q142,q242,q342,lt42⟩:=hM';have e74:=InvX.get hI (i:=22) (.tail _ (.tail _ (.tail _ (.tail _ (.tail _ (.tail _ (.tail _ (.tail _ (.tail _ (.tail _ (.tail _ (.tail _ (.tail _ (.tail _ (.tail _ (.tail _ (.tail _ (.tail _ (.tail _ (.tail _ (.tail _ (.tail _ (.head _))))))))))))))))))))))) d22;have h28:S 38=false:=ae hC (j:=38) rfl (by kernel_rfl) hS;exact aU [(74,_)] ⟨x.x,x.m,w42.heap.size⟩ hU hI (.tail _ (.tail _ (.tail _ (.tail _ (.tail _ (.tail _ (.tail _ (.tail _ (.tail _ (.tail _ (.tail _ (.tail _ (.tail _ (.tail _ (.tail _ (.tail _ (.tail _ (.tail _ (.tail _ (.tail _ (.tail _ (.tail _ (.tail _ (.head _)))))))))))))))))))))))) rfl (by kernel_rfl) ⟨e74,trivial⟩ (mm gv rfl rfl rfl (by omega) (by omega)) ⟨fun _=>rfl,fun _=>rfl,fun _=>rfl,fun _=>rfl,fun _=>rfl,fun _=>rfl,fun _=>rfl,fun _=>rfl,fun _=>rfl,fun _=>rfl,fun _=>rfl,fun _=>rfl,fun _=>rfl,fun _=>rfl,fun _=>rfl,fun _=>rfl,fun _=>rfl,fun _=>rfl,fun _=>rfl,fun _=>rfl,fun _=>rfl,fun _=>rfl,fun _=>rfl,fun h=>(by rw [hS] at h;cases h),fun _=>rfl,fun _=>rfl,fun _=>rfl,fun _=>rfl,fun _=>rfl,fun _=>rfl,fun _=>rfl,fun _=>rfl,fun _=>rfl,fun _=>rfl,fun _=>rfl,fun _=>rfl,trivial⟩ (LI.mk23 hM h28 ⟨hM.c.size,Blk.new _ _ _⟩ (ag.rfl_.new _))
  constructor
  ·rintro S L' w43 x hU hme hI hM hC hS ⟨d0,d0,-,-,d3,d4,d5,d6,d7,d8,d9,-,-,-,-,-,d15,-,-,-,-,-,-,d22,-,-⟩;have hM':=hM;obtain ⟨hc43,hb43,u943,u1643,u2343,q143,q243,q343,lt43⟩:=hM';have e52:=InvX.get hI (i:=0) (.head _) d0;exact aU [(52,_)] x hU hI (.tail _ (.tail _ (.tail _ (.tail _ (.tail _ (.tail _ (.tail _ (.tail _ (.tail _ (.tail _ (.tail _ (.tail _ (.tail _ (.tail _ (.tail _ (.tail _ (.tail _ (.tail _ (.tail _ (.tail _ (.tail _ (.tail _ (.tail _ (.tail _ (.head _))))))))))))))))))))))))) rfl (by kernel_rfl) ⟨e52,trivial⟩ (ao rfl) aX (hme _ _ _ _ _ rfl ag.rfl_ hM)
  constructor
  ·rintro S L' w44 x hU hme hI hM hC hS ⟨d24,d0,-,-,d3,d4,d5,d6,d7,d8,d9,-,-,-,-,-,d15,-,-,-,-,-,-,d22,-,-⟩;have hM':=hM;obtain ⟨hc44,hb44,u944,u1644,u2344,q144,q244,q344,lt44⟩:=hM';have e76:=InvX.get hI (i:=24) (.tail _ (.tail _ (.tail _ (.tail _ (.tail _ (.tail _ (.tail _ (.tail _ (.tail _ (.tail _ (.tail _ (.tail _ (.tail _ (.tail _ (.tail _ (.tail _ (.tail _ (.tail _ (.tail _ (.tail _ (.tail _ (.tail _ (.tail _ (.tail _ (.head _))))))))))))))))))))))))) d24;exact aU [(76,_)] x hU hI (.tail _ (.tail _ (.tail _ (.tail _ (.tail _ (.tail _ (.tail _ (.tail _ (.tail _ (.tail _ (.tail _ (.tail _ (.tail _ (.tail _ (.tail _ (.tail _ (.tail _ (.tail _ (.tail _ (.tail _ (.tail _ (.tail _ (.tail _ (.tail _ (.tail _ (.head _)))))))))))))))))))))))))) rfl (by kernel_rfl) ⟨e76,trivial⟩ (aa aw rfl) aX (hme _ _ _ _ _ rfl ag.rfl_ hM)
  constructor
  ·rintro S L' w45 x hU hme hI hM hC hS ⟨d25,d0,-,-,d3,d4,d5,d6,d7,d8,d9,-,-,-,-,-,d15,-,-,-,-,-,-,d22,-,-⟩;have hM':=hM;obtain ⟨hc45,hb45,u945,u1645,u2345,q145,q245,q345,lt45⟩:=hM';have e77:=InvX.get hI (i:=25) (.tail _ (.tail _ (.tail _ (.tail _ (.tail _ (.tail _ (.tail _ (.tail _ (.tail _ (.tail _ (.tail _ (.tail _ (.tail _ (.tail _ (.tail _ (.tail _ (.tail _ (.tail _ (.tail _ (.tail _ (.tail _ (.tail _ (.tail _ (.tail _ (.tail _ (.head _)))))))))))))))))))))))))) d25;exact aU [(77,_)] x hU hI (.tail _ (.tail _ (.tail _ (.tail _ (.tail _ (.tail _ (.tail _ (.tail _ (.tail _ (.tail _ (.tail _ (.tail _ (.tail _ (.tail _ (.tail _ (.tail _ (.tail _ (.tail _ (.tail _ (.tail _ (.tail _ (.tail _ (.tail _ (.tail _ (.tail _ (.tail _ (.head _))))))))))))))))))))))))))) rfl (by kernel_rfl) ⟨e77,trivial⟩ (aa aq rfl) aX (hme _ _ _ _ _ rfl ag.rfl_ hM)
  constructor
  ·rintro S L' w46 x hU hme hI hM hC hS ⟨d26,d0,-,-,d3,d4,d5,d6,d7,d8,d9,-,-,-,-,-,d15,-,-,-,-,-,-,d22,-,-⟩;have hM':=hM;obtain ⟨hc46,hb46,u946,u1646,u2346,q146,q246,q346,lt46⟩:=hM';have e78:=InvX.get hI (i:=26) (.tail _ (.tail _ (.tail _ (.tail _ (.tail _ (.tail _ (.tail _ (.tail _ (.tail _ (.tail _ (.tail _ (.tail _ (.tail _ (.tail _ (.tail _ (.tail _ (.tail _ (.tail _ (.tail _ (.tail _ (.tail _ (.tail _ (.tail _ (.tail _ (.tail _ (.tail _ (.head _))))))))))))))))))))))))))) d26;exact aU [(78,_)] x hU hI (.tail _ (.tail _ (.tail _ (.tail _ (.tail _ (.tail _ (.tail _ (.tail _ (.tail _ (.tail _ (.tail _ (.tail _ (.tail _ (.tail _ (.tail _ (.tail _ (.tail _ (.tail _ (.tail _ (.tail _ (.tail _ (.tail _ (.tail _ (.tail _ (.tail _ (.tail _ (.tail _ (.head _)))))))))))))))))))))))))))) rfl (by kernel_rfl) ⟨e78,trivial⟩ (aa br rfl) aX (hme _ _ _ _ _ rfl ag.rfl_ hM)
  constructor
  ·rintro S L' w47 x hU hme hI hM hC hS ⟨d27,d9,d0,-,-,d3,d4,d5,d6,d7,d8,d9,-,-,-,-,-,d15,-,-,-,-,-,-,d22,-,-⟩;have hM':=hM;obtain ⟨hc47,hb47,u947,u1647,u2347,q147,q247,q347,lt47⟩:=hM';have e61:=InvX.get hI (i:=9) (.tail _ (.tail _ (.tail _ (.tail _ (.tail _ (.tail _ (.tail _ (.tail _ (.tail _ (.head _)))))))))) d9;have e79:=InvX.get hI (i:=27) (.tail _ (.tail _ (.tail _ (.tail _ (.tail _ (.tail _ (.tail _ (.tail _ (.tail _ (.tail _ (.tail _ (.tail _ (.tail _ (.tail _ (.tail _ (.tail _ (.tail _ (.tail _ (.tail _ (.tail _ (.tail _ (.tail _ (.tail _ (.tail _ (.tail _ (.tail _ (.tail _ (.head _)))))))))))))))))))))))))))) d27;obtain ⟨w2,hR,hO,hb2⟩:=gV (n:=124) (L:=[(61,_),(79,_)]) (x:=.tmp 79) (y:=.tmp 61) (v:=.slice (some ⟨x.x,0,none⟩) n n) bI rfl rfl rfl hM.b (show 15<23 by decide)
   have hb3:Blk w2 g T (lvX ({ s with role:=2,leader:=s.id,votes:=[],elapsed:=0 }:Rf) (⟨E,Ec,none,0,X,Xc,M,Mc,Sn,Sc,Q,Qc,LL⟩:Ra) n x (bJ S 28)++[Value.slice O L.length oc]).toArray:=by
    rw [←rR];exact hb2
   exact iT [(61,_),(79,_)] hI (q9 rfl) rfl (by kernel_rfl) ⟨e61,e79,trivial⟩ hR (LI.st hM (.inl rfl) hO hb3)
  constructor
  ·rintro S L' w48 x hU hme hI hM hC hS ⟨d1,d0,d1,-,d3,d4,d5,d6,d7,d8,d9,d10,d11,d12,d13,d14,d15,d16,-,-,-,-,-,d22,-,d24,d25,d26,d27,d28,-⟩;have hM':=hM;obtain ⟨hc48,hb48,u948,u1648,u2348,q148,q248,q348,lt48⟩:=hM';have e53:=InvX.get hI (i:=1) (.tail _ (.head _)) d1;exact aU [(53,_)] x hU hI (.tail _ (.tail _ (.tail _ (.tail _ (.tail _ (.tail _ (.tail _ (.tail _ (.tail _ (.tail _ (.tail _ (.tail _ (.tail _ (.tail _ (.tail _ (.tail _ (.tail _ (.tail _ (.tail _ (.tail _ (.tail _ (.tail _ (.tail _ (.tail _ (.tail _ (.tail _ (.tail _ (.tail _ (.head _))))))))))))))))))))))))))))) rfl (by kernel_rfl) ⟨e53,trivial⟩ (ao rfl) aX (hme _ _ _ _ _ rfl ag.rfl_ hM)
  constructor
  ·rintro S L' w49 x hU hme hI hM hC hS ⟨d29,d0,d1,-,d3,d4,d5,d6,d7,d8,d9,d10,d11,d12,d13,d14,d15,d16,-,-,-,-,-,d22,-,d24,d25,d26,d27,d28,-⟩;have hM':=hM;obtain ⟨hc49,hb49,u949,u1649,u2349,q149,q249,q349,lt49⟩:=hM';have e80:=InvX.get hI (i:=29) (.tail _ (.tail _ (.tail _ (.tail _ (.tail _ (.tail _ (.tail _ (.tail _ (.tail _ (.tail _ (.tail _ (.tail _ (.tail _ (.tail _ (.tail _ (.tail _ (.tail _ (.tail _ (.tail _ (.tail _ (.tail _ (.tail _ (.tail _ (.tail _ (.tail _ (.tail _ (.tail _ (.tail _ (.head _))))))))))))))))))))))))))))) d29;exact aU [(80,_)] x hU hI (.tail _ (.tail _ (.tail _ (.tail _ (.tail _ (.tail _ (.tail _ (.tail _ (.tail _ (.tail _ (.tail _ (.tail _ (.tail _ (.tail _ (.tail _ (.tail _ (.tail _ (.tail _ (.tail _ (.tail _ (.tail _ (.tail _ (.tail _ (.tail _ (.tail _ (.tail _ (.tail _ (.tail _ (.tail _ (.head _)))))))))))))))))))))))))))))) rfl (by kernel_rfl) ⟨e80,trivial⟩ (aa aw rfl) aX (hme _ _ _ _ _ rfl ag.rfl_ hM)
  constructor
  ·rintro S L' w50 x hU hme hI hM hC hS ⟨d30,d0,d1,-,d3,d4,d5,d6,d7,d8,d9,d10,d11,d12,d13,d14,d15,d16,-,-,-,-,-,d22,-,d24,d25,d26,d27,d28,-⟩;have hM':=hM;obtain ⟨hc50,hb50,u950,u1650,u2350,q150,q250,q350,lt50⟩:=hM';have e81:=InvX.get hI (i:=30) (.tail _ (.tail _ (.tail _ (.tail _ (.tail _ (.tail _ (.tail _ (.tail _ (.tail _ (.tail _ (.tail _ (.tail _ (.tail _ (.tail _ (.tail _ (.tail _ (.tail _ (.tail _ (.tail _ (.tail _ (.tail _ (.tail _ (.tail _ (.tail _ (.tail _ (.tail _ (.tail _ (.tail _ (.tail _ (.head _)))))))))))))))))))))))))))))) d30;exact aU [(81,_)] x hU hI (.tail _ (.tail _ (.tail _ (.tail _ (.tail _ (.tail _ (.tail _ (.tail _ (.tail _ (.tail _ (.tail _ (.tail _ (.tail _ (.tail _ (.tail _ (.tail _ (.tail _ (.tail _ (.tail _ (.tail _ (.tail _ (.tail _ (.tail _ (.tail _ (.tail _ (.tail _ (.tail _ (.tail _ (.tail _ (.tail _ (.head _))))))))))))))))))))))))))))))) rfl (by kernel_rfl) ⟨e81,trivial⟩ (aa aq rfl) aX (hme _ _ _ _ _ rfl ag.rfl_ hM)
  constructor
  ·rintro S L' w51 x hU hme hI hM hC hS ⟨d31,d0,d1,-,d3,d4,d5,d6,d7,d8,d9,d10,d11,d12,d13,d14,d15,d16,-,-,-,-,-,d22,-,d24,d25,d26,d27,d28,-⟩;have hM':=hM;obtain ⟨hc51,hb51,u951,u1651,u2351,q151,q251,q351,lt51⟩:=hM';have e82:=InvX.get hI (i:=31) (.tail _ (.tail _ (.tail _ (.tail _ (.tail _ (.tail _ (.tail _ (.tail _ (.tail _ (.tail _ (.tail _ (.tail _ (.tail _ (.tail _ (.tail _ (.tail _ (.tail _ (.tail _ (.tail _ (.tail _ (.tail _ (.tail _ (.tail _ (.tail _ (.tail _ (.tail _ (.tail _ (.tail _ (.tail _ (.tail _ (.head _))))))))))))))))))))))))))))))) d31;exact aU [(82,_)] x hU hI (.tail _ (.tail _ (.tail _ (.tail _ (.tail _ (.tail _ (.tail _ (.tail _ (.tail _ (.tail _ (.tail _ (.tail _ (.tail _ (.tail _ (.tail _ (.tail _ (.tail _ (.tail _ (.tail _ (.tail _ (.tail _ (.tail _ (.tail _ (.tail _ (.tail _ (.tail _ (.tail _ (.tail _ (.tail _ (.tail _ (.tail _ (.head _)))))))))))))))))))))))))))))))) rfl (by kernel_rfl) ⟨e82,trivial⟩ (aa bA rfl) aX (hme _ _ _ _ _ rfl ag.rfl_ hM)
  constructor
  ·rintro S L' w52 x hU hme hI hM hC hS ⟨d32,d16,d28,d0,d1,-,d3,d4,d5,d6,d7,d8,d9,d10,d11,d12,d13,d14,d15,d16,-,-,-,-,-,d22,-,d24,d25,d26,d27,d28,-⟩;have hM':=hM;obtain ⟨hc52,hb52,u952,u1652,u2352,q152,q252,q352,lt52⟩:=hM';have e68:=InvX.get hI (i:=16) (.tail _ (.tail _ (.tail _ (.tail _ (.tail _ (.tail _ (.tail _ (.tail _ (.tail _ (.tail _ (.tail _ (.tail _ (.tail _ (.tail _ (.tail _ (.tail _ (.head _))))))))))))))))) d16;have e83:=InvX.get hI (i:=32) (.tail _ (.tail _ (.tail _ (.tail _ (.tail _ (.tail _ (.tail _ (.tail _ (.tail _ (.tail _ (.tail _ (.tail _ (.tail _ (.tail _ (.tail _ (.tail _ (.tail _ (.tail _ (.tail _ (.tail _ (.tail _ (.tail _ (.tail _ (.tail _ (.tail _ (.tail _ (.tail _ (.tail _ (.tail _ (.tail _ (.tail _ (.head _)))))))))))))))))))))))))))))))) d32;obtain ⟨w2,hR,hO,hb2⟩:=gV (n:=124) (L:=[(68,_),(83,_)]) (x:=.tmp 83) (y:=.tmp 68) (v:=.slice (some ⟨x.m,0,none⟩) n n) bI rfl rfl rfl hM.b (show 16<23 by decide)
   have hb3:Blk w2 g T (lvX ({ s with role:=2,leader:=s.id,votes:=[],elapsed:=0 }:Rf) (⟨E,Ec,none,0,X,Xc,M,Mc,Sn,Sc,Q,Qc,LL⟩:Ra) n x (bJ S 33)++[Value.slice O L.length oc]).toArray:=by
    rw [←rQ];exact hb2
   exact iT [(68,_),(83,_)] hI (q9 rfl) rfl (by kernel_rfl) ⟨e68,e83,trivial⟩ hR (LI.st hM (.inr (.inl rfl)) hO hb3)
  constructor
  ·rintro S L' w53 x hU hme hI hM hC hS ⟨d2,d0,d1,d2,d3,d4,d5,d6,d7,d8,d9,d10,d11,d12,d13,d14,d15,d16,d17,d18,d19,d20,d21,d22,d23,d24,d25,d26,d27,d28,d29,d30,d31,d32,d33,-⟩;have hM':=hM;obtain ⟨hc53,hb53,u953,u1653,u2353,q153,q253,q353,lt53⟩:=hM';have e54:=InvX.get hI (i:=2) (.tail _ (.tail _ (.head _))) d2;exact aU [(54,_)] x hU hI (.tail _ (.tail _ (.tail _ (.tail _ (.tail _ (.tail _ (.tail _ (.tail _ (.tail _ (.tail _ (.tail _ (.tail _ (.tail _ (.tail _ (.tail _ (.tail _ (.tail _ (.tail _ (.tail _ (.tail _ (.tail _ (.tail _ (.tail _ (.tail _ (.tail _ (.tail _ (.tail _ (.tail _ (.tail _ (.tail _ (.tail _ (.tail _ (.head _))))))))))))))))))))))))))))))))) rfl (by kernel_rfl) ⟨e54,trivial⟩ (ao rfl) aX (hme _ _ _ _ _ rfl ag.rfl_ hM)
  constructor
  ·rintro S L' w54 x hU hme hI hM hC hS ⟨d34,d0,d1,d2,d3,d4,d5,d6,d7,d8,d9,d10,d11,d12,d13,d14,d15,d16,d17,d18,d19,d20,d21,d22,d23,d24,d25,d26,d27,d28,d29,d30,d31,d32,d33,-⟩;have hM':=hM;obtain ⟨hc54,hb54,u954,u1654,u2354,q154,q254,q354,lt54⟩:=hM';have e84:=InvX.get hI (i:=34) (.tail _ (.tail _ (.tail _ (.tail _ (.tail _ (.tail _ (.tail _ (.tail _ (.tail _ (.tail _ (.tail _ (.tail _ (.tail _ (.tail _ (.tail _ (.tail _ (.tail _ (.tail _ (.tail _ (.tail _ (.tail _ (.tail _ (.tail _ (.tail _ (.tail _ (.tail _ (.tail _ (.tail _ (.tail _ (.tail _ (.tail _ (.tail _ (.head _))))))))))))))))))))))))))))))))) d34;exact aU [(84,_)] x hU hI (.tail _ (.tail _ (.tail _ (.tail _ (.tail _ (.tail _ (.tail _ (.tail _ (.tail _ (.tail _ (.tail _ (.tail _ (.tail _ (.tail _ (.tail _ (.tail _ (.tail _ (.tail _ (.tail _ (.tail _ (.tail _ (.tail _ (.tail _ (.tail _ (.tail _ (.tail _ (.tail _ (.tail _ (.tail _ (.tail _ (.tail _ (.tail _ (.tail _ (.head _)))))))))))))))))))))))))))))))))) rfl (by kernel_rfl) ⟨e84,trivial⟩ (aa aw rfl) aX (hme _ _ _ _ _ rfl ag.rfl_ hM)
  constructor
  ·rintro S L' w55 x hU hme hI hM hC hS ⟨d35,d0,d1,d2,d3,d4,d5,d6,d7,d8,d9,d10,d11,d12,d13,d14,d15,d16,d17,d18,d19,d20,d21,d22,d23,d24,d25,d26,d27,d28,d29,d30,d31,d32,d33,-⟩;have hM':=hM;obtain ⟨hc55,hb55,u955,u1655,u2355,q155,q255,q355,lt55⟩:=hM';have e85:=InvX.get hI (i:=35) (.tail _ (.tail _ (.tail _ (.tail _ (.tail _ (.tail _ (.tail _ (.tail _ (.tail _ (.tail _ (.tail _ (.tail _ (.tail _ (.tail _ (.tail _ (.tail _ (.tail _ (.tail _ (.tail _ (.tail _ (.tail _ (.tail _ (.tail _ (.tail _ (.tail _ (.tail _ (.tail _ (.tail _ (.tail _ (.tail _ (.tail _ (.tail _ (.tail _ (.head _)))))))))))))))))))))))))))))))))) d35;exact aU [(85,_)] x hU hI (.tail _ (.tail _ (.tail _ (.tail _ (.tail _ (.tail _ (.tail _ (.tail _ (.tail _ (.tail _ (.tail _ (.tail _ (.tail _ (.tail _ (.tail _ (.tail _ (.tail _ (.tail _ (.tail _ (.tail _ (.tail _ (.tail _ (.tail _ (.tail _ (.tail _ (.tail _ (.tail _ (.tail _ (.tail _ (.tail _ (.tail _ (.tail _ (.tail _ (.tail _ (.head _))))))))))))))))))))))))))))))))))) rfl (by kernel_rfl) ⟨e85,trivial⟩ (aa aq rfl) aX (hme _ _ _ _ _ rfl ag.rfl_ hM)
  constructor
  ·rintro S L' w56 x hU hme hI hM hC hS ⟨d36,d0,d1,d2,d3,d4,d5,d6,d7,d8,d9,d10,d11,d12,d13,d14,d15,d16,d17,d18,d19,d20,d21,d22,d23,d24,d25,d26,d27,d28,d29,d30,d31,d32,d33,-⟩;have hM':=hM;obtain ⟨hc56,hb56,u956,u1656,u2356,q156,q256,q356,lt56⟩:=hM';have e86:=InvX.get hI (i:=36) (.tail _ (.tail _ (.tail _ (.tail _ (.tail _ (.tail _ (.tail _ (.tail _ (.tail _ (.tail _ (.tail _ (.tail _ (.tail _ (.tail _ (.tail _ (.tail _ (.tail _ (.tail _ (.tail _ (.tail _ (.tail _ (.tail _ (.tail _ (.tail _ (.tail _ (.tail _ (.tail _ (.tail _ (.tail _ (.tail _ (.tail _ (.tail _ (.tail _ (.tail _ (.head _))))))))))))))))))))))))))))))))))) d36;exact aU [(86,_)] x hU hI (.tail _ (.tail _ (.tail _ (.tail _ (.tail _ (.tail _ (.tail _ (.tail _ (.tail _ (.tail _ (.tail _ (.tail _ (.tail _ (.tail _ (.tail _ (.tail _ (.tail _ (.tail _ (.tail _ (.tail _ (.tail _ (.tail _ (.tail _ (.tail _ (.tail _ (.tail _ (.tail _ (.tail _ (.tail _ (.tail _ (.tail _ (.tail _ (.tail _ (.tail _ (.tail _ (.head _)))))))))))))))))))))))))))))))))))) rfl (by kernel_rfl) ⟨e86,trivial⟩ (aa bN rfl) aX (hme _ _ _ _ _ rfl ag.rfl_ hM)
  constructor
  ·rintro S L' w57 x hU hme hI hM hC hS ⟨d37,d23,d33,d0,d1,d2,d3,d4,d5,d6,d7,d8,d9,d10,d11,d12,d13,d14,d15,d16,d17,d18,d19,d20,d21,d22,d23,d24,d25,d26,d27,d28,d29,d30,d31,d32,d33,-⟩;have hM':=hM;obtain ⟨hc57,hb57,u957,u1657,u2357,q157,q257,q357,lt57⟩:=hM';have e75:=InvX.get hI (i:=23) (.tail _ (.tail _ (.tail _ (.tail _ (.tail _ (.tail _ (.tail _ (.tail _ (.tail _ (.tail _ (.tail _ (.tail _ (.tail _ (.tail _ (.tail _ (.tail _ (.tail _ (.tail _ (.tail _ (.tail _ (.tail _ (.tail _ (.tail _ (.head _)))))))))))))))))))))))) d23;have e87:=InvX.get hI (i:=37) (.tail _ (.tail _ (.tail _ (.tail _ (.tail _ (.tail _ (.tail _ (.tail _ (.tail _ (.tail _ (.tail _ (.tail _ (.tail _ (.tail _ (.tail _ (.tail _ (.tail _ (.tail _ (.tail _ (.tail _ (.tail _ (.tail _ (.tail _ (.tail _ (.tail _ (.tail _ (.tail _ (.tail _ (.tail _ (.tail _ (.tail _ (.tail _ (.tail _ (.tail _ (.tail _ (.head _)))))))))))))))))))))))))))))))))))) d37;obtain ⟨w2,hR,hO,hb2⟩:=gV (n:=124) (L:=[(75,_),(87,_)]) (x:=.tmp 87) (y:=.tmp 75) (v:=.slice (some ⟨x.s,0,none⟩) n n) bI rfl rfl rfl hM.b (show 17<23 by decide)
   have hb3:Blk w2 g T (lvX ({ s with role:=2,leader:=s.id,votes:=[],elapsed:=0 }:Rf) (⟨E,Ec,none,0,X,Xc,M,Mc,Sn,Sc,Q,Qc,LL⟩:Ra) n x (bJ S 38)++[Value.slice O L.length oc]).toArray:=by
    rw [←rP];exact hb2
   exact iT [(75,_),(87,_)] hI (q9 rfl) rfl (by kernel_rfl) ⟨e75,e87,trivial⟩ hR (LI.st hM (.inr (.inr rfl)) hO hb3)
  exact trivial
 ·intro x58 w58 hM;obtain ⟨hc58,hb58,u958,u1658,u2358,q158,q258,q358,lt58⟩:=hM;obtain ⟨xx,xm,xs⟩:=x58;have hbr:=hb58
  have hb4:Blk w58 g T (rfV ({ s with role:=2,leader:=s.id,votes:=[],elapsed:=0,next:=List.replicate n 0,mtch:=List.replicate n 0,sent:=List.replicate n 0 }:Rf) (⟨E,Ec,none,0,some ⟨xx,0,none⟩,n,some ⟨xm,0,none⟩,n,some ⟨xs,0,none⟩,n,Q,Qc,LL⟩:Ra)++[Value.slice O L.length oc]).toArray:=by
   unfold rfV;simp only [List.length_replicate];exact hb58
  obtain ⟨h4,tag4,hs4⟩:=h3.three hs3 hc58 (by omega) (u958 rfl) (u1658 rfl) (u2358 rfl) (q158 rfl rfl) (q258 rfl rfl) (q358 rfl rfl) hb4;refine ai (an (an (ah (mvp rfl (ab (ao rfl) (ab (aa aw rfl) (ab (aa aq rfl) (ab (aa br rfl) (ab (ar aL rfl (by exact (show _=some (Value.slice (some ⟨xx,0,none⟩) n n) from (hbr.from_ ag.rfl_).rd 15 rfl))) ?_)))))))));refine ab (bU bj rfl) (mvi rfl (ak (ai (bd (df (G:=Nat×(Nat→Nat)) [4,96,97,98,99,100,101,102,103,104,105,106,107,108] (fun (i,_)=>[(95,.int .i64 (i:Nat))]) (fun (i,tg) w'=>i≤n∧aR w0 Z w' T g ⟨({ s with role:=2,leader:=s.id,votes:=[],elapsed:=0,next:=ep n i (aE s+1),mtch:=List.replicate n 0,sent:=List.replicate n 0 }:Rf),out⟩∧ey w' Z T g tg ⟨({ s with role:=2,leader:=s.id,votes:=[],elapsed:=0,next:=ep n i (aE s+1),mtch:=List.replicate n 0,sent:=List.replicate n 0 }:Rf),out⟩ (⟨E,Ec,none,0,some ⟨xx,0,none⟩,n,some ⟨xm,0,none⟩,n,some ⟨xs,0,none⟩,n,Q,Qc,LL⟩:Ra) O oc L) (fun (i,_)=>n-i) ((0,tag4)) ⟨rfl,trivial⟩ ?_ ?_)))))
  ·exact ⟨Nat.zero_le _,(by rw [oX];exact h4.from_ (ag.rfl_ (a:=w58))),(by rw [oX];exact hs4.from_ (ag.rfl_ (a:=w58)))⟩
  rintro ⟨i,tg⟩ ρ59 w59 ⟨hi,h5,hs5⟩;refine an (ah (ab (cO rfl rfl) (ak (ai (an (r7 rfl (fun Q60=>?_) (fun Q60=>?_)))))))
  ·have hb5:=hs5.b;have hil:(ep n i (aE s+1)).length=n:=k_ hi
   have hr15:∀ w9,ag w59 w9→w9.cell? ⟨g,15,none⟩=some (.slice (some ⟨xx,0,none⟩) n n):=fun w9 hF9=>by
    have h9:=bB (hb5.from_ hF9) 15 rfl;rw [show ({ s with role:=2,leader:=s.id,votes:=[],elapsed:=0,next:=ep n i (aE s+1),mtch:=List.replicate n 0,sent:=List.replicate n 0 }:Rf).next.length=n from hil] at h9;exact h9
   have hxo:(w59).ownsRow 0 3 1 (.slice (some ⟨xx,0,none⟩) n n) n ((ep n i (aE s+1)).map iV):=by
    have h9:=(hs5.f.x (by decide)).1;rw [show (Sp.s ⟨({ s with role:=2,leader:=s.id,votes:=[],elapsed:=0,next:=ep n i (aE s+1),mtch:=List.replicate n 0,sent:=List.replicate n 0 }:Rf),out⟩).next.length=n from hil] at h9;exact h9
   refine aO (ai (an (bd (an (ah (mvi rfl (asi rfl (ak (ai (ah (mvp rfl (ab (ao rfl) (ab (aa aw rfl) (ab (aa aq rfl) (ab (aa br rfl) ?_)))))))))))))));refine ab (ar aL rfl (by exact hr15 _ (ag.rfl_ (a:=w59)))) ?_;refine mvi rfl (mvi rfl (ab (cd rfl rfl (by omega)) (ab (cK bR rfl rfl (by omega)) ?_)));have hB8:ag _ w59:=(ag.rfl_ (a:=w59));refine jZ (xs:=(ep n i (aE s+1)).map iV) aW rfl rfl rfl (hxo.kept_from (ag.rfl_ (a:=w59))) (by omega) ?_;intro w61 O8 P8;have hgx:tg xx=2:=(hs5.f.x (by decide)).2 xx rfl;have hC8:Chg (fun k=>tg k=2) _ w61:=(ag.toChg hB8).only O8 hgx;have hil2:(ep n (i+1) (aE s+1)).length=n:=k_ (by omega)
   have hxo8:(w61).ownsRow 0 3 1 (.slice (some ⟨xx,0,none⟩) n n) n ((ep n (i+1) (aE s+1)).map iV):=by
    rw [←oW (by omega),←oQ];exact P8
   have hb8:Blk w61 g T (rfV ({ s with role:=2,leader:=s.id,votes:=[],elapsed:=0,next:=ep n (i+1) (aE s+1),mtch:=List.replicate n 0,sent:=List.replicate n 0 }:Rf) (⟨E,Ec,none,0,some ⟨xx,0,none⟩,n,some ⟨xm,0,none⟩,n,some ⟨xs,0,none⟩,n,Q,Qc,LL⟩:Ra)++[Value.slice O L.length oc]).toArray:=by
    have h9:=(hb5.from_ hB8).only O8 (fun e=>by have:=hs5.gc;rw [e,hgx] at this;cases this)
    have e9:rfV ({ s with role:=2,leader:=s.id,votes:=[],elapsed:=0,next:=ep n (i+1) (aE s+1),mtch:=List.replicate n 0,sent:=List.replicate n 0 }:Rf) (⟨E,Ec,none,0,some ⟨xx,0,none⟩,n,some ⟨xm,0,none⟩,n,some ⟨xs,0,none⟩,n,Q,Qc,LL⟩:Ra)=rfV ({ s with role:=2,leader:=s.id,votes:=[],elapsed:=0,next:=ep n i (aE s+1),mtch:=List.replicate n 0,sent:=List.replicate n 0 }:Rf) (⟨E,Ec,none,0,some ⟨xx,0,none⟩,n,some ⟨xm,0,none⟩,n,some ⟨xs,0,none⟩,n,Q,Qc,LL⟩:Ra):=by
     unfold rfV;simp only [hil,hil2]
    rw [e9];exact h9
   have hf8:=(hs5.f.but hC8).next (l:=ep n (i+1) (aE s+1)) hil2.symm hxo8 (fun q hq=>by cases hq;rw [bD (cQ hxo _ rfl)];exact hgx);obtain ⟨hs6a,h6⟩:=h5.put (s':=({ s with role:=2,leader:=s.id,votes:=[],elapsed:=0,next:=ep n (i+1) (aE s+1),mtch:=List.replicate n 0,sent:=List.replicate n 0 }:Rf)) (a':=(⟨E,Ec,none,0,some ⟨xx,0,none⟩,n,some ⟨xm,0,none⟩,n,some ⟨xs,0,none⟩,n,Q,Qc,LL⟩:Ra)) hs5 hC8 (.inl (by decide)) hf8 (Chg.rfl_ (U:=fun k=>k=g)) hb8;obtain ⟨tg6,hs6⟩:∃ t,ey w61 Z T g t ⟨({ s with role:=2,leader:=s.id,votes:=[],elapsed:=0,next:=ep n (i+1) (aE s+1),mtch:=List.replicate n 0,sent:=List.replicate n 0 }:Rf),out⟩ (⟨E,Ec,none,0,some ⟨xx,0,none⟩,n,some ⟨xm,0,none⟩,n,some ⟨xs,0,none⟩,n,Q,Qc,LL⟩:Ra) O oc L:=⟨_,hs6a⟩;refine ak (cx (ai (ah (ab (cd rfl rfl (by omega)) (mvi rfl (ak ?_))))));refine cy ((i+1,tg6)) ⟨(by first | rfl | (refine aZ ?_;omega)),trivial⟩ (by (iterate 30 refine bu rfl ?_);exact bT) ⟨?_,?_⟩
   ·exact ⟨by omega,h6.from_ (ag.rfl_ (a:=w61)),hs6.from_ (ag.rfl_ (a:=w61))⟩
   ·show n-(i+1)<n-i;omega
  have hin:i=n:=by omega
  rw [hin,qZ] at h5 hs5;have hb7:=hs5.b;refine cF (bg (bg (cf (ai (an (ah (mvp rfl (ab (ao rfl) (ab (aa aw rfl) (ab (aa aq rfl) (ab (aa bq rfl) ?_)))))))))));have hB7:ag _ w59:=(ag.rfl_ (a:=w59));refine bm (s':=({ s with role:=2,leader:=s.id,votes:=[],elapsed:=0,next:=List.replicate n (aE s+1),mtch:=List.replicate n 0,reads:=[],sent:=List.replicate n 0 }:Rf)) (a':=(⟨E,Ec,none,0,some ⟨xx,0,none⟩,n,some ⟨xm,0,none⟩,n,some ⟨xs,0,none⟩,n,none,0,[]⟩:Ra)) (v:=.slice _ _ _) fR rfl rfl rfl ((hb7.from_ (ag.rfl_ (a:=w59)))) (by exact ⟨by decide,rfl⟩) ?_;intro w62 O10_0 P10_0;obtain ⟨hs7,h7a⟩:=h5.set (s':=({ s with role:=2,leader:=s.id,votes:=[],elapsed:=0,next:=List.replicate n (aE s+1),mtch:=List.replicate n 0,reads:=[],sent:=List.replicate n 0 }:Rf)) (a':=(⟨E,Ec,none,0,some ⟨xx,0,none⟩,n,some ⟨xm,0,none⟩,n,some ⟨xs,0,none⟩,n,none,0,[]⟩:Ra)) hs5 ((ag.toChg hB7).only O10_0 rfl) (aS.same hs5.f.noreads rfl rfl rfl rfl rfl rfl) P10_0;rw [hn0] at h7a;have h7:aR w0 Z w62 T g ⟨cp s,out⟩:=h7a;refine ak (ai (an (ah (mvp rfl (ab (ao rfl) (ab (aa aw rfl) (aA ni (rj w0 Z T g ⟨(cp s),out⟩ _ (h7.from_ (ag.rfl_ (a:=w62))) hF.chief h8 ⟨#[]⟩ (by decide)) ?_)))))));rintro v117 w63 ⟨rfl,h9⟩;refine ak (ai (an (ah (mvp rfl (aA jI (iX w0 Z T g ⟨cW (cp s) ⟨#[]⟩,out⟩ _ (h9.from_ (ag.rfl_ (a:=w63))) (hF.lead h8) rfl (show out.length≤800 by omega)) ?_)))));rintro v119 w64 ⟨rfl,h10⟩;refine ak (ai (ah (mvp rfl (ab (ao rfl) (ab (aa aw rfl) ?_)))))
  have h11:aR w0 Z w64 T g ⟨cW (cp s) ⟨#[]⟩,((⟨cW (cp s) ⟨#[]⟩,out⟩:Sp).all).out⟩:=by
   have e9:(⟨cW (cp s) ⟨#[]⟩,out⟩:Sp).all=⟨cW (cp s) ⟨#[]⟩,((⟨cW (cp s) ⟨#[]⟩,out⟩:Sp).all).out⟩:=by rw [jz]
   rw [←e9];exact h10.from_ (ag.rfl_ (a:=w64))
  obtain ⟨tag11,a11,O11,oc11,L11,hs11⟩:=h11.ex;refine aA nh (nY w0 Z T g (cW (cp s) ⟨#[]⟩) ((⟨cW (cp s) ⟨#[]⟩,out⟩:Sp).all).out _ (h11.from_ (ag.rfl_ (a:=w64))) _ _ _ _ _ (hs11.from_ (ag.rfl_ (a:=w64))) (hF.lead h8) rfl) ?_;rintro v123 w65 ⟨rfl,h12,_⟩;refine ak (cN (fa rfl ?_));unfold lr
  first
   |(rw [if_pos h8t];exact ⟨rfl,hS9.from_ ag.rfl_⟩)
   |(rw [if_neg (by show ¬ en s=true;rw [h8];decide)]
     refine ⟨rfl,?_⟩;show aR w0 Z _ T g ⟨bw (Sp.all ⟨cW (cp s) ⟨#[]⟩,out⟩).s,(Sp.all ⟨cW (cp s) ⟨#[]⟩,out⟩).out⟩;rw [show (Sp.all ⟨cW (cp s) ⟨#[]⟩,out⟩).s=cW (cp s) ⟨#[]⟩ by rw [jz]];exact h12.from_ (ag.rfl_ (a:=w65)))
end Go.Proofs.Ytkpooenofjdpmaa
namespace Go.Proofs.Ytkpooenofjdpmaa
open Go.Proofs.Try (prog)
open Go.RowKit
open Go.ChangeShapes Go.WideShapes Go.ChangeAt
theorem lP:aD prog 44=true:=by kernel_rfl
theorem lO:aD prog 45=true:=by kernel_rfl
theorem fO:aD prog 11=true:=by kernel_rfl
theorem eS:∀ (a0:Int) (a1:Int),prog.built 86 [(0,.int .i64 1),(4,.int .i64 a0),(5,.int .i64 a1)]=some #[.int .i64 1,.int .i64 0,.int .i64 0,.int .i64 0,.int .i64 a0,.int .i64 a1,.int .i64 0,.int .i64 0,.bool false,.slice none 0 0,.int .i64 0,.string ⟨#[]⟩,.bool false]:=by intros;kernel_rfl
theorem lQ:aD prog 40=true:=by kernel_rfl
theorem lR:aD prog 25=true:=by kernel_rfl
def jR (s:Rf) (k:Int):Msg:={ zM with k:=1,t:=k,ix:=aE s,lt:=bZ s.t s.es }
theorem pN (s:Rf):∀ (l:List Int) (p:Sp),(l.foldl (fun (p:Sp) k=>p.tell (jR s k)) p).s=p.s
 |[],_=>rfl
 |_::l,p=>pN s l (p.tell _)
theorem jx (s:Rf):∀ (l:List Int) (p:Sp),(l.foldl (fun (p:Sp) k=>p.tell (jR s k)) p).out.length=p.out.length+l.length
 |[],_=>rfl
 |x::l,p=>by
  show (l.foldl _ (p.tell (jR s x))).out.length=_;rw [jx s l (p.tell _)];show (p.out++[_]).length+l.length=p.out.length+(l.length+1);rw [List.length_append,List.length_singleton];omega
theorem pO {s:Rf} {l:List Int} {i:Nat} (h:i<l.length) (p:Sp):(l.take (i+1)).foldl (fun (p:Sp) k=>p.tell (jR s k)) p=((l.take i).foldl (fun (p:Sp) k=>p.tell (jR s k)) p).tell (jR s l[i]):=by
 rw [List.take_succ_eq_append_getElem h,List.foldl_append];rfl
theorem lE {s:Rf} (h:s.term≠cz):eP s=il ((bx (b0 s)).foldl (fun (p:Sp) k=>p.tell (jR (b0 s) k)) (⟨b0 s,[]⟩:Sp)):=by
 unfold eP;rw [if_neg h];rfl
theorem qw {s:Rf} (h:RfF s) (hr:s.role≠2):dP { s with term:=s.term+1,vote:=s.id,role:=1,leader:=0,votes:=[s.id],part:=⟨#[]⟩,partOf:=0 }=b0 s:=by
 obtain ⟨h1,h2,h3,h4⟩:=h.free hr;unfold b0 dP fy;simp only [h1,h2,h3,h4]
theorem pE (w0:World) (Z:Nat→Prop) (T g:Nat) (p:Sp) (w:World) (h:aR w0 Z w T g p) (hF:RfF p.s) (hl:p.out.length≤700) :
 Rt prog 40 [.pointer (some ⟨g,0,none⟩)] w (fun v w'=>v=.tuple #[]∧aR w0 Z w' T g (il p)):=by
 obtain ⟨s,out⟩:=p;obtain ⟨tag,a,O,oc,L,hs⟩:=h.ex;obtain ⟨E,Ec,V,Vc,X,Xc,M,Mc,Sn,Sc,Q,Qc,LL⟩:=a;have hb:Blk w g T (rfV s (⟨E,Ec,V,Vc,X,Xc,M,Mc,Sn,Sc,Q,Qc,LL⟩:Ra)++[Value.slice O L.length oc]).toArray:=hs.b
 have hll:L.length=out.length:=by
  have h9:=congrArg List.length hs.m.l;rw [List.length_map] at h9;exact h9
 have hF:RfF s:=hF;have hl:out.length≤700:=hl;have hvr:IR w V Vc s.votes:=gZ (hs.f.v (by decide)).1;have hvl:=hF.vl;have hnn:=hF.n;refine enter (n:=14) Try.func40 rfl rfl rfl (an ?_);apply dF 10 [(2,eqp _),(3,eqp _),(4,eqp _),(5,eqp _),(6,eqp _),(7,eqp _),(8,eqp _),(9,eqp _),(10,eqp (.slice V s.votes.length Vc)),(11,eqp _)] (by repeat first | exact et | refine er ?_ | refine dL ?_) (by kernel_rfl) (by kernel_rfl) ⟨av _,av _,av _,av _,av _,av _,av _,av _,av _,av _,trivial⟩
 case hop=>
  constructor
  ·rintro-w2 D2;exact ax (aB (v:=.pointer _) rfl) rfl
  constructor
  ·rintro-w3 D3;rintro _ rfl;exact ax (ao rfl) rfl
  constructor
  ·rintro-w4 D4;rintro _ rfl;exact ax (aa aw rfl) rfl
  constructor
  ·rintro-w5 D5;exact ax (aB (v:=.pointer _) rfl) rfl
  constructor
  ·rintro-w6 D6;rintro _ rfl;exact ax (ao rfl) rfl
  constructor
  ·rintro-w7 D7;rintro _ rfl;exact ax (aa aw rfl) rfl
  constructor
  ·rintro-w8 D8;rintro _ rfl;exact ax (aa aq rfl) rfl
  constructor
  ·rintro-w9 D9;rintro _ rfl;exact ax (aa bX rfl) rfl
  constructor
  ·rintro-w10 D10;rintro _ rfl;exact ax (ar aL rfl (by exact (show _=some (Value.slice V s.votes.length Vc) from bB (hb.from_ (ag.rfl_.next D10)) 14 rfl))) rfl
  constructor
  ·rintro-w11 D11;rintro _ rfl v11_10 rfl;refine gG lP ((mL T g s _ _ _ (hb.from_ (ag.rfl_.next D11)) V Vc s.votes (hvr.1.from_ (ag.rfl_.next D11)) (by omega) hnn).mono ?_);rintro v _ ⟨rfl,E11'⟩;exact ⟨E11',rfl⟩
  exact trivial
 case hend=>
  intro w12 D12;rintro _ rfl _ rfl _ rfl _ rfl _ rfl _ rfl _ rfl _ rfl v10 rfl _ rfl;show St ..;refine ak (ai (r7 rfl (fun Q13=>?_) (fun Q13=>?_)))
  ·have h11t:cM s.nodes s.votes=true:=by
    unfold cM;exact decide_eq_true Q13
   refine ah (mvp rfl (aA lO (qn w0 Z T g ⟨s,out⟩ _ (h.from_ (ag.rfl_.next D12)) hF hl) ?_));rintro v13 w14 ⟨rfl,h13⟩;refine ak (cN (fa rfl ?_));unfold il
   first
    |(rw [if_pos h11t];exact ⟨rfl,h13.from_ (ag.rfl_ (a:=w14))⟩)
    |(rw [if_neg (by show ¬ cM s.nodes s.votes=true;rw [h11f];decide)];exact ⟨rfl,h.from_ (ag.rfl_ (a:=w14))⟩)
  have h11f:cM s.nodes s.votes=false:=by
   unfold cM;exact decide_eq_false (by omega)
  refine aO (cN (fa rfl ?_));unfold il
  first
   |(rw [if_pos h11t];exact ⟨rfl,h13.from_ (ag.rfl_.next D12)⟩)
   |(rw [if_neg (by show ¬ cM s.nodes s.votes=true;rw [h11f];decide)];exact ⟨rfl,h.from_ (ag.rfl_.next D12)⟩)
theorem pA (w0:World) (Z:Nat→Prop) (T g:Nat) (s:Rf) (w:World) (h:aR w0 Z w T g ⟨s,[]⟩) (hF:RfF s) (hr:s.role≠2) :
 Rt prog 25 [.pointer (some ⟨g,0,none⟩)] w (fun v w'=>v=.tuple #[]∧aR w0 Z w' T g (eP s)):=by
 obtain ⟨tag,a,O,oc,L,hs⟩:=h.ex;obtain ⟨E,Ec,V,Vc,X,Xc,M,Mc,Sn,Sc,Q,Qc,LL⟩:=a;have hb:Blk w g T (rfV s (⟨E,Ec,V,Vc,X,Xc,M,Mc,Sn,Sc,Q,Qc,LL⟩:Ra)++[Value.slice O L.length oc]).toArray:=hs.b
 have hll:L.length=0:=by
  have h9:=congrArg List.length hs.m.l;rw [List.length_map] at h9;exact h9
 have hB0:ag w w:=ag.rfl_;have hte:=hF.te;refine enter (n:=100) Try.func25 rfl rfl rfl (an (an (ah (mvp rfl (ab (ao rfl) (ab (aa aw rfl) (ab (aa aq rfl) (ab (aa bk rfl) (ab (ar au rfl (by exact (show _=some (Value.int .i64 s.term) from bB (hb.from_ ag.rfl_) 3 rfl))) ?_)))))))));refine ab (bW rfl rfl) (ak (ai (r7 rfl (fun Q1=>?_) (fun Q1=>?_))))
 ·have hte8:s.term=cz:=Q1;refine an (ah (mvp rfl (ab (ao rfl) (ab (aa aw rfl) ?_))));have hB16:ag w w:=ag.rfl_;refine aA fO (kK T g s _ _ _ (hb.from_ ag.rfl_)) ?_;rintro v16 w2 ⟨rfl,hb16,hC16⟩;refine ak (ai (aG (aN (fa rfl ?_))));unfold eP;rw [if_pos hte8];exact ⟨rfl,((h.set (s':=dP s) hs ((ag.toChg hB16).next hC16) (aS.same hs.f rfl rfl rfl rfl rfl rfl) hb16).2).from_ (ag.rfl_ (a:=w2))⟩
 have hte9:s.term≠cz:=Q1;have hFc:RfF (b0 s):=hF.cand hte9;refine aO (ai (an (ah (mvp rfl (ab (ao rfl) (ab (aa aw rfl) (ab (aa aq rfl) (ab (aa bk rfl) (ab (ar au rfl (by exact (show _=some (Value.int .i64 s.term) from bB (hb.from_ ag.rfl_) 3 rfl))) ?_)))))))));refine ab (cd rfl rfl (by omega)) (ab (ao rfl) (ab (aa aw rfl) (ab (aa aq rfl) ?_)));have hB0:ag w w:=ag.rfl_;refine ab (aa bk rfl) (bm (s':=({ s with term:=s.term+1 }:Rf)) (a':=(⟨E,Ec,V,Vc,X,Xc,M,Mc,Sn,Sc,Q,Qc,LL⟩:Ra)) (v:=.int _ _) aW rfl rfl rfl ((hb.from_ ag.rfl_)) (by exact ⟨by decide,rfl⟩) ?_);intro w3 O2_0 P2_0;have hC1:Chg (fun k=>k=g) w w3:=(ag.toChg hB0).only O2_0 rfl;refine ak (ai (an (ah (mvp rfl (mvp rfl (mvp rfl (mvp rfl (ab (ao rfl) (ab (aa aw rfl) (ab (aa aq rfl) (ab (aa ch rfl) ?_)))))))))));refine ab (ar au rfl (by exact (show _=some (Value.int .i64 s.id) from bB (P2_0.from_ (ag.rfl_ (a:=w3))) 0 rfl))) ?_;refine ab (ao rfl) (ab (aa aw rfl) (ab (aa aq rfl) ?_));have hM0:ag _ w3:=ag.rfl_;refine ab (aa dA rfl) (bm (s':=({ s with term:=s.term+1,vote:=s.id }:Rf)) (a':=(⟨E,Ec,V,Vc,X,Xc,M,Mc,Sn,Sc,Q,Qc,LL⟩:Ra)) (v:=.int _ _) aW rfl rfl rfl ((P2_0.from_ ag.rfl_)) (by exact ⟨by decide,rfl⟩) ?_);intro w4 O3_0 P3_0;replace hC1:=(hC1.next (ag.toChg hM0)).only O3_0 rfl;refine ab (ao rfl) (ab (aa aw rfl) (ab (aa aq rfl) (ab (aa ck rfl) (bm (s':=({ s with term:=s.term+1,vote:=s.id,role:=1 }:Rf)) (a':=(⟨E,Ec,V,Vc,X,Xc,M,Mc,Sn,Sc,Q,Qc,LL⟩:Ra)) (v:=.int _ _) aW rfl rfl rfl (P3_0) (by exact ⟨by decide,rfl⟩) ?_))));intro w5 O3_1 P3_1;replace hC1:=hC1.only O3_1 rfl;refine ab (ao rfl) (ab (aa aw rfl) (ab (aa aq rfl) (ab (aa dc rfl) (bm (s':=({ s with term:=s.term+1,vote:=s.id,role:=1,leader:=0 }:Rf)) (a':=(⟨E,Ec,V,Vc,X,Xc,M,Mc,Sn,Sc,Q,Qc,LL⟩:Ra)) (v:=.int _ _) aW rfl rfl rfl (P3_1) (by exact ⟨by decide,rfl⟩) ?_))));intro w6 O3_2 P3_2;replace hC1:=hC1.only O3_2 rfl;obtain ⟨hs3,h3⟩:=h.set (s':=({ s with term:=s.term+1,vote:=s.id,role:=1,leader:=0 }:Rf)) (a':=(⟨E,Ec,V,Vc,X,Xc,M,Mc,Sn,Sc,Q,Qc,LL⟩:Ra)) hs hC1 (aS.same hs.f rfl rfl rfl rfl rfl rfl) P3_2;have hb3:=P3_2;refine ak (ai (an (ah (mvp rfl (mvp rfl (ab (ao rfl) (ab (aa aw rfl) (ab (aa aq rfl) (ab (aa ch rfl) (ab (ar au rfl (by exact (show _=some (Value.int .i64 s.id) from bB (hb3.from_ (ag.rfl_ (a:=w6))) 0 rfl))) ?_))))))))));have hz55:=((ag.rfl_ (a:=w6))).size;refine dq (v:=.int _ _) bf rfl rfl rfl ?_;intro b56 w7 E56 hb56 hk56;refine ab (ao rfl) (ab (aa aw rfl) (ab (aa aq rfl) (ab (aa bX rfl) ?_)));have hB56:ag _ w7:=((ag.rfl_ (a:=w6)).next E56);refine bm (s':=({ s with term:=s.term+1,vote:=s.id,role:=1,leader:=0,votes:=[s.id] }:Rf)) (a':=(⟨E,Ec,some ⟨b56,0,none⟩,1,X,Xc,M,Mc,Sn,Sc,Q,Qc,LL⟩:Ra)) (v:=.slice _ _ _) bI rfl rfl rfl ((hb3.from_ ((ag.rfl_ (a:=w6)).next E56))) (by exact ⟨by decide,rfl⟩) ?_;intro w8 O4_0 P4_0;have hC4:Chg (fun k=>k=g) _ w8:=Chg.rfl_.only O4_0 rfl;refine ak (ai (an (ah (mvp rfl (mvp rfl (ab (ao rfl) (ab (aa aw rfl) (ab (aa aq rfl) ?_))))))));have hM0:ag _ w8:=ag.rfl_;refine ab (aa cV rfl) (bm (s':=({ s with term:=s.term+1,vote:=s.id,role:=1,leader:=0,votes:=[s.id],part:=⟨#[]⟩ }:Rf)) (a':=(⟨E,Ec,some ⟨b56,0,none⟩,1,X,Xc,M,Mc,Sn,Sc,Q,Qc,LL⟩:Ra)) (v:=.string _) kp rfl rfl rfl ((P4_0.from_ ag.rfl_)) (by exact ⟨by decide,rfl⟩) ?_);intro w9 O5_0 P5_0;replace hC4:=(hC4.next (ag.toChg hM0)).only O5_0 rfl;refine ab (ao rfl) (ab (aa aw rfl) (ab (aa aq rfl) (ab (aa cU rfl) (bm (s':=({ s with term:=s.term+1,vote:=s.id,role:=1,leader:=0,votes:=[s.id],part:=⟨#[]⟩,partOf:=0 }:Rf)) (a':=(⟨E,Ec,some ⟨b56,0,none⟩,1,X,Xc,M,Mc,Sn,Sc,Q,Qc,LL⟩:Ra)) (v:=.int _ _) aW rfl rfl rfl (P5_0) (by exact ⟨by decide,rfl⟩) ?_))));intro w10 O5_1 P5_1;replace hC4:=hC4.only O5_1 rfl;refine ak (ai (an (ah (mvp rfl (ab (ao rfl) (ab (aa aw rfl) ?_))))));have hM74:ag _ w10:=(ag.rfl_ (a:=w10));refine aA fO (kK T g ({ s with term:=s.term+1,vote:=s.id,role:=1,leader:=0,votes:=[s.id],part:=⟨#[]⟩,partOf:=0 }:Rf) (⟨E,Ec,some ⟨b56,0,none⟩,1,X,Xc,M,Mc,Sn,Sc,Q,Qc,LL⟩:Ra) _ _ (P5_1.from_ (ag.rfl_ (a:=w10)))) ?_;rintro v74 w11 ⟨rfl,hb74,hC74⟩;have hf4:=(hs3.f.but (c:=1) (ag.toChg hB56)).votes (l:=[s.id]) rfl (o1 (Nat.zero_le _) hk56 (Nat.le_refl _) (by show 1≤maxLen;unfold maxLen;omega) rfl rfl) (fun q hq=>by cases hq;exact cP (by rw [hb56];exact hz55));obtain ⟨hs7,h7⟩:=h3.put (s':=dP ({ s with term:=s.term+1,vote:=s.id,role:=1,leader:=0,votes:=[s.id],part:=⟨#[]⟩,partOf:=0 }:Rf)) (a':=(⟨E,Ec,some ⟨b56,0,none⟩,1,X,Xc,M,Mc,Sn,Sc,Q,Qc,LL⟩:Ra)) hs3 (ag.toChg hB56) (.inl (by decide)) (aS.same hf4 rfl rfl rfl rfl rfl rfl) ((hC4.next (ag.toChg hM74)).next hC74) hb74;rw [qw hF hr] at hs7 h7;refine ak (ai (an (ah (mvp rfl (ab (ao rfl) (ab (aa aw rfl) (aA ec (fI T g (b0 s) _ _ _ (hs7.b.from_ (ag.rfl_ (a:=w11))) (hs7.f.rd.e.from_ (ag.rfl_ (a:=w11))) hFc.lg) ?_)))))));rintro v79 w12 ⟨rfl,E79⟩;refine mvt rfl (ab (aM rfl rfl) (ab (aM rfl rfl) (asi rfl (asi rfl (ak (ai (an (an (ah (mvp rfl (ab (ao rfl) (ab (aa aw rfl) ?_))))))))))));have hz84:=(((ag.rfl_ (a:=w11)).next E79)).size;refine aA jE (j_ T g (b0 s) _ _ _ (hs7.b.from_ ((ag.rfl_ (a:=w11)).next E79)) (by have:=hFc.n;omega)) ?_;rintro v85 w13 ⟨⟨A85,c85,rfl,ho85⟩,E85⟩
 have h8:=h7.at_ (Z':=fun k=>Z k∨A85.map (·.block)=some k) (((ag.rfl_ (a:=w11)).next E79).next E85) (fun k hk=>by
  have hz7:=((((ag.rfl_ (a:=w11)).next E79).next E85)).size;rcases hk with e | e
  ·exact ⟨Nat.lt_of_lt_of_le (h7.zw k e) hz7,.inl e⟩
  ·have:=dT ho85 k e;exact ⟨this.2,.inr (by omega)⟩)
 have hB7:ag _ w13:=(((ag.rfl_ (a:=w11)).next E79).next E85);have ho7:=ho85;obtain ⟨Z7,hZ7⟩:∃ Z7,Z7=fun k=>Z k∨A85.map (·.block)=some k:=⟨_,rfl⟩
 rw [←hZ7] at h8;have hzi:∀ k,Z k→Z7 k:=fun k hk=>by rw [hZ7];exact .inl hk
 have hzr:∀ k,A85.map (·.block)=some k→Z7 k:=fun k hk=>by rw [hZ7];exact .inr hk
 have hol:=jf (b0 s);have hnn:=hFc.n;refine ab (bU bj rfl) (mvi rfl (ak (ai (bd (df (G:=Nat) [5,88,89,90,91,92,93,94,95,96,97] (fun i=>[(87,.int .i64 (i:Nat))]) (fun i w'=>i≤(bx (b0 s)).length∧aR w13 Z7 w' T g (((bx (b0 s)).take i).foldl (fun (p:Sp) k=>p.tell (jR (b0 s) k)) (⟨b0 s,[]⟩:Sp))) (fun i=>(bx (b0 s)).length-i) (0) ⟨rfl,trivial⟩ ?_ ?_)))))
 ·exact ⟨Nat.zero_le _,h8⟩
 rintro i ρ14 w14 ⟨hi,h15⟩;refine an (ah (ab (cO rfl rfl) (ak (ai (an (r7 rfl (fun Q15=>?_) (fun Q15=>?_)))))))
 ·have hi9:i<(bx (b0 s)).length:=by omega
  obtain ⟨g7,rfl⟩:=ea ho7 (by omega);have ho8:=fV ho7 h15.fr (fun q hq e=>e (hzr q hq));have hc8:=fi (l:=(bx (b0 s))) ho8 i hi9;obtain ⟨tg9,a9,O9,oc9,L9,hs9⟩:=h15.ex
  have hl9:L9.length≤7:=by
   have h1:=congrArg List.length hs9.m.l;rw [List.length_map,jx,List.length_take] at h1;have h2:((⟨b0 s,[]⟩:Sp).out).length=0:=rfl;omega
  refine aO (ai (an (bd (an (ah (ab (cK bR rfl rfl (by omega)) (ab (ar au rfl (by exact eQ (ag.rfl_ (a:=w14)) hc8)) ?_)))))));refine asi rfl (ak (ai (ah (mvp rfl (mvi rfl (mvi rfl (mvi rfl (ab (c8 (l:=[(0,.const (.int .i64 1)),(4,.tmp 93),(5,.tmp 94)]) (eS _ _)) (aA gr (mw _ Z7 T g (((bx (b0 s)).take i).foldl (fun (p:Sp) k=>p.tell (jR (b0 s) k)) (⟨b0 s,[]⟩:Sp)) _ (h15.from_ (ag.rfl_ (a:=w14))) tg9 a9 O9 oc9 L9 (hs9.from_ (ag.rfl_ (a:=w14))) (by omega) { zM with k:=1,ix:=aE (b0 s),lt:=bZ (b0 s).t (b0 s).es } (bx (b0 s))[i] ⟨cC,Col.none⟩) ?_)))))))));rintro v96 w16 ⟨rfl,h16⟩;refine ak (cx (ai (ah (ab (cd rfl rfl (by omega)) (mvi rfl (ak ?_))))));refine cy (i+1) ⟨(by first | rfl | (refine aZ ?_;omega)),trivial⟩ (by (iterate 24 refine bu rfl ?_);exact bT) ⟨?_,?_⟩
  ·exact ⟨by omega,by rw [pO hi9];exact h16.from_ (ag.rfl_ (a:=w16))⟩
  ·omega
 obtain rfl:i=(bx (b0 s)).length:=by omega
 rw [List.take_length] at h15;have h9:=h7.back hB7 h15 hzi;refine cF (bg (bg (cf (ai (ah (mvp rfl (aA lQ (pE w0 Z T g ((bx (b0 s)).foldl (fun (p:Sp) k=>p.tell (jR (b0 s) k)) (⟨b0 s,[]⟩:Sp)) _ (h9.from_ (ag.rfl_ (a:=w14))) (by rw [pN];exact hFc) (by rw [jx];show 0+_≤700;have:=hFc.n;omega)) ?_)))))));rintro v99 w17 ⟨rfl,h17⟩;refine ak (cN (fa rfl ?_));rw [lE hte9];exact ⟨rfl,h17.from_ (ag.rfl_ (a:=w17))⟩
theorem p0 (w0:World) (Z:Nat→Prop) (T g:Nat) (s:Rf) (w:World) (h:aR w0 Z w T g ⟨s,[]⟩) (hF:RfF s) :
 Rt prog 21 [.pointer (some ⟨g,0,none⟩)] w (fun v w'=>v=.tuple #[]∧aR w0 Z w' T g (ek s)):=by
 obtain ⟨tag,a,O,oc,L,hs⟩:=h.ex;obtain ⟨E,Ec,V,Vc,X,Xc,M,Mc,Sn,Sc,Q,Qc,LL⟩:=a;have hb:Blk w g T (rfV s (⟨E,Ec,V,Vc,X,Xc,M,Mc,Sn,Sc,Q,Qc,LL⟩:Ra)++[Value.slice O L.length oc]).toArray:=hs.b
 have hll:L.length=0:=by
  have h9:=congrArg List.length hs.m.l;rw [List.length_map] at h9;exact h9
 have hB0:ag w w:=ag.rfl_;have hel:=hF.el;have hrn:=hF.rn;have hti:=hF.ti;have hFe:RfF ({ s with elapsed:=min (s.elapsed+1) 1099511627775 }:Rf):=hF.elapse (by omega);refine enter (n:=64) Try.func21 rfl rfl rfl (an (ah (mvp rfl (mvp rfl (ab (ao rfl) (ab (aa aw rfl) (ab (aa aq rfl) (ab (aa bM rfl) (ab (ar au rfl (by exact (show _=some (Value.int .i64 s.elapsed) from bB (hb.from_ ag.rfl_) 11 rfl))) ?_)))))))));refine ab (cd rfl rfl (by omega)) (ab (ky rfl rfl) (dJ (t:=10) (v:=.int _ _) (v':=.int .i64 (min (s.elapsed+1) 1099511627775)) rfl (by exact aZ (by omega)) ?_));refine ab (ao rfl) (ab (aa aw rfl) (ab (aa aq rfl) (ab (aa bM rfl) ?_)));have hB0:ag w w:=ag.rfl_;refine bm (s':=({ s with elapsed:=(min (s.elapsed+1) 1099511627775) }:Rf)) (a':=(⟨E,Ec,V,Vc,X,Xc,M,Mc,Sn,Sc,Q,Qc,LL⟩:Ra)) (v:=.int _ _) aW rfl rfl rfl ((hb.from_ ag.rfl_)) (by exact ⟨by decide,rfl⟩) ?_;intro w1 O0_0 P0_0;have hC1:Chg (fun k=>k=g) w w1:=(ag.toChg hB0).only O0_0 rfl;obtain ⟨hs3,h3⟩:=h.set (s':=({ s with elapsed:=(min (s.elapsed+1) 1099511627775) }:Rf)) (a':=(⟨E,Ec,V,Vc,X,Xc,M,Mc,Sn,Sc,Q,Qc,LL⟩:Ra)) hs hC1 (aS.same hs.f rfl rfl rfl rfl rfl rfl) P0_0;have hb3:=P0_0;refine ak (ai (an (an (ah (mvp rfl (ab (ao rfl) (ab (aa aw rfl) (ab (aa aq rfl) (ab (aa ck rfl) (ab (ar au rfl (by exact (show _=some (Value.int .i64 s.role) from bB (hb3.from_ (ag.rfl_ (a:=w1))) 2 rfl))) ?_))))))))));refine ab (dK rfl rfl) (ak (ai (r4 rfl (fun Q2=>?_) (fun Q2=>?_))))
 ·refine an (an ?_);apply dF 13 [(22,eqp _),(23,eqp _),(24,eqp _),(25,eqp _),(26,eqp _),(27,eqp _),(28,eqp _),(29,eqp _),(30,eqp _),(31,eqp _),(32,eqp _),(33,eqp _),(34,eqp _)] (by repeat first | exact et | refine er ?_ | refine dL ?_) (by kernel_rfl) (by kernel_rfl) ⟨av _,av _,av _,av _,av _,av _,av _,av _,av _,av _,av _,av _,av _,trivial⟩
  case hop=>
   constructor
   ·rintro-w4 D4;exact ax (aB (v:=.pointer _) rfl) rfl
   constructor
   ·rintro-w5 D5;rintro _ rfl;exact ax (ao rfl) rfl
   constructor
   ·rintro-w6 D6;rintro _ rfl;exact ax (aa aw rfl) rfl
   constructor
   ·rintro-w7 D7;rintro _ rfl;exact ax (aa aq rfl) rfl
   constructor
   ·rintro-w8 D8;rintro _ rfl;exact ax (aa bM rfl) rfl
   constructor
   ·rintro-w9 D9;rintro _ rfl;exact ax (ar au rfl (by exact (show _=some (Value.int .i64 (min (s.elapsed+1) 1099511627775)) from bB (hb3.from_ ((ag.rfl_ (a:=w1)).next D9)) 11 rfl))) rfl
   constructor
   ·rintro-w10 D10;exact ax (aB (v:=.pointer _) rfl) rfl
   constructor
   ·rintro-w11 D11;rintro _ rfl;exact ax (ao rfl) rfl
   constructor
   ·rintro-w12 D12;rintro _ rfl;exact ax (aa aw rfl) rfl
   constructor
   ·rintro-w13 D13;rintro _ rfl;exact ax (aa aq rfl) rfl
   constructor
   ·rintro-w14 D14;rintro _ rfl;exact ax (aa cT rfl) rfl
   constructor
   ·rintro-w15 D15;rintro _ rfl;exact ax (ar au rfl (by exact (show _=some (Value.int .i64 s.timeout) from bB (hb3.from_ ((ag.rfl_ (a:=w1)).next D15)) 12 rfl))) rfl
   constructor
   ·rintro-w16 D16;rintro _ rfl _ rfl;exact ax (i_ rfl rfl) rfl
   exact trivial
  case hend=>
   intro w17 D17;rintro _ rfl _ rfl _ rfl _ rfl _ rfl _ rfl _ rfl _ rfl _ rfl _ rfl _ rfl _ rfl _ rfl;show St ..;refine ak (ai (r7 rfl (fun Q18=>?_) (fun Q18=>?_)))
   ·refine ah (mvp rfl (aA lR (pA w0 Z T g ({ s with elapsed:=min (s.elapsed+1) 1099511627775 }:Rf) _ (h3.from_ ((ag.rfl_ (a:=w1)).next D17)) hFe (show s.role≠2 by omega)) ?_));rintro v36 w19 ⟨rfl,h7⟩;refine ak (ai (aG (aN (fa rfl (⟨rfl,?_⟩)))));show aR w0 Z _ T g (if s.role=2 then (if 2≤min (s.elapsed+1) 1099511627775 then Sp.all ⟨({ s with elapsed:=0,round:=min (s.round+1) 1099511627775 }:Rf),[]⟩ else ⟨({ s with elapsed:=min (s.elapsed+1) 1099511627775 }:Rf),[]⟩) else if s.timeout≤min (s.elapsed+1) 1099511627775 then eP ({ s with elapsed:=min (s.elapsed+1) 1099511627775 }:Rf) else ⟨({ s with elapsed:=min (s.elapsed+1) 1099511627775 }:Rf),[]⟩)
    first
     |(rw [if_neg (show ¬ s.role=2 by omega),if_pos (by omega)];exact h7.from_ (ag.rfl_ (a:=w19)))
     |(rw [if_neg (show ¬ s.role=2 by omega),if_neg (by omega)];exact h3.from_ (ag.rfl_ (a:=w19)))
     |(rw [if_pos (show s.role=2 by omega),if_pos (by omega)];exact h8.from_ (ag.rfl_ (a:=w19)))
     |(rw [if_pos (show s.role=2 by omega),if_neg (by omega)];exact h3.from_ (ag.rfl_ (a:=w19)))
   refine aO (ai (aG (aN (fa rfl (⟨rfl,?_⟩)))));show aR w0 Z _ T g (if s.role=2 then (if 2≤min (s.elapsed+1) 1099511627775 then Sp.all ⟨({ s with elapsed:=0,round:=min (s.round+1) 1099511627775 }:Rf),[]⟩ else ⟨({ s with elapsed:=min (s.elapsed+1) 1099511627775 }:Rf),[]⟩) else if s.timeout≤min (s.elapsed+1) 1099511627775 then eP ({ s with elapsed:=min (s.elapsed+1) 1099511627775 }:Rf) else ⟨({ s with elapsed:=min (s.elapsed+1) 1099511627775 }:Rf),[]⟩)
   first
    |(rw [if_neg (show ¬ s.role=2 by omega),if_pos (by omega)];exact h7.from_ ((ag.rfl_ (a:=w1)).next D17))
    |(rw [if_neg (show ¬ s.role=2 by omega),if_neg (by omega)];exact h3.from_ ((ag.rfl_ (a:=w1)).next D17))
    |(rw [if_pos (show s.role=2 by omega),if_pos (by omega)];exact h8.from_ ((ag.rfl_ (a:=w1)).next D17))
    |(rw [if_pos (show s.role=2 by omega),if_neg (by omega)];exact h3.from_ ((ag.rfl_ (a:=w1)).next D17))
 refine aO (ai (an (ah (mvp rfl (ab (ao rfl) (ab (aa aw rfl) (ab (aa aq rfl) (ab (aa bM rfl) (ab (ar au rfl (by exact (show _=some (Value.int .i64 (min (s.elapsed+1) 1099511627775)) from bB (hb3.from_ (ag.rfl_ (a:=w1))) 11 rfl))) ?_)))))))));refine ab (i_ rfl rfl) (ak (ai (r7 rfl (fun Q20=>?_) (fun Q20=>?_))))
 ·refine an (ah (mvp rfl (ab (ao rfl) (ab (aa aw rfl) (ab (aa aq rfl) (ab (aa bM rfl) ?_))))));have hB5:ag _ w1:=(ag.rfl_ (a:=w1));refine bm (s':=({ s with elapsed:=0 }:Rf)) (a':=(⟨E,Ec,V,Vc,X,Xc,M,Mc,Sn,Sc,Q,Qc,LL⟩:Ra)) (v:=.int _ _) aW rfl rfl rfl ((hb3.from_ (ag.rfl_ (a:=w1)))) (by exact ⟨by decide,rfl⟩) ?_;intro w21 O5_0 P5_0;have hC5:Chg (fun k=>k=g) _ w21:=(ag.toChg hB5).only O5_0 rfl;refine ak (ai (an (ah (mvp rfl (mvp rfl (ab (ao rfl) (ab (aa aw rfl) (ab (aa aq rfl) (ab (aa cq rfl) (ab (ar au rfl (by exact (show _=some (Value.int .i64 s.round) from bB (P5_0.from_ (ag.rfl_ (a:=w21))) 18 rfl))) ?_))))))))));refine ab (cd rfl rfl (by omega)) (ab (ky rfl rfl) (dJ (t:=57) (v:=.int _ _) (v':=.int .i64 (min (s.round+1) 1099511627775)) rfl (by exact aZ (by omega)) ?_));refine ab (ao rfl) (ab (aa aw rfl) (ab (aa aq rfl) (ab (aa cq rfl) ?_)));have hB6:ag _ w21:=(ag.rfl_ (a:=w21));refine bm (s':=({ s with elapsed:=0,round:=min (s.round+1) 1099511627775 }:Rf)) (a':=(⟨E,Ec,V,Vc,X,Xc,M,Mc,Sn,Sc,Q,Qc,LL⟩:Ra)) (v:=.int _ _) aW rfl rfl rfl ((P5_0.from_ (ag.rfl_ (a:=w21)))) (by exact ⟨by decide,rfl⟩) ?_;intro w22 O6_0 P6_0;obtain ⟨hs6,h6⟩:=h3.set (s':=({ s with elapsed:=0,round:=min (s.round+1) 1099511627775 }:Rf)) (a':=(⟨E,Ec,V,Vc,X,Xc,M,Mc,Sn,Sc,Q,Qc,LL⟩:Ra)) hs3 ((hC5.next (ag.toChg hB6)).only O6_0 rfl) (aS.same hs3.f rfl rfl rfl rfl rfl rfl) P6_0;refine ak (ai (ah (mvp rfl (aA jI (iX w0 Z T g ⟨({ s with elapsed:=0,round:=min (s.round+1) 1099511627775 }:Rf),[]⟩ _ (h6.from_ (ag.rfl_ (a:=w22))) (hF.beat (by omega) (by omega)) (show s.role=2 by omega) (by show 0≤800;omega)) ?_))));rintro v63 w23 ⟨rfl,h8⟩;refine ak (cN (fa rfl (⟨rfl,?_⟩)));show aR w0 Z _ T g (if s.role=2 then (if 2≤min (s.elapsed+1) 1099511627775 then Sp.all ⟨({ s with elapsed:=0,round:=min (s.round+1) 1099511627775 }:Rf),[]⟩ else ⟨({ s with elapsed:=min (s.elapsed+1) 1099511627775 }:Rf),[]⟩) else if s.timeout≤min (s.elapsed+1) 1099511627775 then eP ({ s with elapsed:=min (s.elapsed+1) 1099511627775 }:Rf) else ⟨({ s with elapsed:=min (s.elapsed+1) 1099511627775 }:Rf),[]⟩)
  first
   |(rw [if_neg (show ¬ s.role=2 by omega),if_pos (by omega)];exact h7.from_ (ag.rfl_ (a:=w23)))
   |(rw [if_neg (show ¬ s.role=2 by omega),if_neg (by omega)];exact h3.from_ (ag.rfl_ (a:=w23)))
   |(rw [if_pos (show s.role=2 by omega),if_pos (by omega)];exact h8.from_ (ag.rfl_ (a:=w23)))
   |(rw [if_pos (show s.role=2 by omega),if_neg (by omega)];exact h3.from_ (ag.rfl_ (a:=w23)))
 refine aO (cN (fa rfl (⟨rfl,?_⟩)));show aR w0 Z _ T g (if s.role=2 then (if 2≤min (s.elapsed+1) 1099511627775 then Sp.all ⟨({ s with elapsed:=0,round:=min (s.round+1) 1099511627775 }:Rf),[]⟩ else ⟨({ s with elapsed:=min (s.elapsed+1) 1099511627775 }:Rf),[]⟩) else if s.timeout≤min (s.elapsed+1) 1099511627775 then eP ({ s with elapsed:=min (s.elapsed+1) 1099511627775 }:Rf) else ⟨({ s with elapsed:=min (s.elapsed+1) 1099511627775 }:Rf),[]⟩)
 first
  |(rw [if_neg (show ¬ s.role=2 by omega),if_pos (by omega)];exact h7.from_ (ag.rfl_ (a:=w1)))
  |(rw [if_neg (show ¬ s.role=2 by omega),if_neg (by omega)];exact h3.from_ (ag.rfl_ (a:=w1)))
  |(rw [if_pos (show s.role=2 by omega),if_pos (by omega)];exact h8.from_ (ag.rfl_ (a:=w1)))
  |(rw [if_pos (show s.role=2 by omega),if_neg (by omega)];exact h3.from_ (ag.rfl_ (a:=w1)))
theorem eF:f_ prog 32=some (.agg #[.int .i64 0,.int .i64 0,.int .i64 0,.int .i64 0,.int .i64 0,.int .i64 0,.int .i64 0,.int .i64 0,.slice none 0 0,.string ⟨#[]⟩,.int .i64 0,.int .i64 0,.int .i64 0,.int .u64 0,.slice none 0 0,.slice none 0 0,.slice none 0 0,.slice none 0 0,.int .i64 0,.slice none 0 0,.string ⟨#[]⟩,.int .i64 0]):=by kernel_rfl
theorem jD:prog.built 32 []=some #[.int .i64 0,.int .i64 0,.int .i64 0,.int .i64 0,.int .i64 0,.int .i64 0,.int .i64 0,.int .i64 0,.slice none 0 0,.string ⟨#[]⟩,.int .i64 0,.int .i64 0,.int .i64 0,.int .u64 0,.slice none 0 0,.slice none 0 0,.slice none 0 0,.slice none 0 0,.int .i64 0,.slice none 0 0,.string ⟨#[]⟩,.int .i64 0]:=by kernel_rfl
theorem ic:∀ (a0:Int) (a1:Int) (a2:Int),prog.built 32 [(0,.int .i64 a0),(1,.int .i64 a1),(11,.int .u64 a2)]=some #[.int .i64 a0,.int .i64 a1,.int .i64 0,.int .i64 0,.int .i64 0,.int .i64 0,.int .i64 0,.int .i64 0,.slice none 0 0,.string ⟨#[]⟩,.int .i64 0,.int .i64 0,.int .i64 0,.int .u64 a2,.slice none 0 0,.slice none 0 0,.slice none 0 0,.slice none 0 0,.int .i64 0,.slice none 0 0,.string ⟨#[]⟩,.int .i64 0]:=by intros;kernel_rfl
theorem lK:∀ (a0:Int) (a1:Int) (a2:Int) (a3:Int) (a4:Int) (a5:Int) (a6:Int) (a7:Int) (a8:Option Addr) (a9 a10:Nat) (a11:ByteArray) (a12:Int) (a13:Int) (a14:Int) (a15:Int) (a16:Option Addr) (a17 a18:Nat) (a19:Option Addr) (a20 a21:Nat) (a22:Option Addr) (a23 a24:Nat) (a25:Option Addr) (a26 a27:Nat) (a28:Int) (a29:Option Addr) (a30 a31:Nat) (a32:ByteArray) (a33:Int),prog.built 47 [(0,.agg #[.int .i64 a0,.int .i64 a1,.int .i64 a2,.int .i64 a3,.int .i64 a4,.int .i64 a5,.int .i64 a6,.int .i64 a7,.slice a8 a9 a10,.string a11,.int .i64 a12,.int .i64 a13,.int .i64 a14,.int .u64 a15,.slice a16 a17 a18,.slice a19 a20 a21,.slice a22 a23 a24,.slice a25 a26 a27,.int .i64 a28,.slice a29 a30 a31,.string a32,.int .i64 a33])]=some #[.int .i64 a0,.int .i64 a1,.int .i64 a2,.int .i64 a3,.int .i64 a4,.int .i64 a5,.int .i64 a6,.int .i64 a7,.slice a8 a9 a10,.string a11,.int .i64 a12,.int .i64 a13,.int .i64 a14,.int .u64 a15,.slice a16 a17 a18,.slice a19 a20 a21,.slice a22 a23 a24,.slice a25 a26 a27,.int .i64 a28,.slice a29 a30 a31,.string a32,.int .i64 a33]:=by intros;kernel_rfl
theorem ov:aD prog 20=true:=by kernel_rfl
theorem ou:aD prog 21=true:=by kernel_rfl
theorem p5 {P:Program} {n:Fr} {L:List (Nat×Value)} {w:World} {t:TypeId} {x y:Operand} {g:Nat} {u:TypeId} {cs:Array Value} {vs:List Value} (ht:cr P t=some vs.length) (hx:ev n L x=.pointer (some ⟨g,0,none⟩)) (hy:ev n L y=.agg vs.toArray) (h1:∀ v∈vs,v.oneCell'=true) (hb:Blk w g u cs) (hi:vs.length=cs.size) :
 ∃ w',RS P (ev n L) (.store t x y) w w'∧da g w w'∧Blk w' g u vs.toArray:=by
 have hb':Blk w g u cs.toList.toArray:=by simpa using hb
 refine ⟨_,j7 ht hx hy h1 (hb'.there 0 vs.length (by simp;omega)),da.sets vs 0 w,?_⟩;have:=Blk.sets vs 0 hb' (by simp;omega)
 rwa [lh cs.toList vs (by simp;omega)] at this
theorem jY {w w':World} {T g:Nat} {p:Sp} (h:aR w (fun k=>k<w.heap.size) w' T g p):ag w w':=
 ⟨h.fr.os,h.fr.tape,h.fr.output,h.fr.size,fun k hk=>h.fr.block k hk fun e=>e hk⟩
def qC (w w':World) (p:Sp) (v:Value):Prop:=∃ tag a O oc L,v=.tuple #[.agg (rfV p.s a).toArray,.slice O L.length oc,.int .i64 0]∧aS w' tag p.s a∧eR w' tag p.out O oc L∧∀ k,k<w.heap.size→tag k=8
theorem qC.mk_ {w w1 w':World} {T g oc:Nat} {tag:Nat→Nat} {p:Sp} {a:Ra} {O:Option Addr} {L:List Msg} {Z:Nat→Prop} (hs:ey w1 Z T g tag p a O oc L) (hz:∀ k,k<w.heap.size→Z k) (hC:Chg (fun k=>Z k) w1 w'):qC w w' p (.tuple #[.agg (rfV p.s a).toArray,.slice O L.length oc,.int .i64 0]):=by
 have ne:∀ {d:Nat} {A:Option Addr},d≠8→Col tag d A→∀ k,A.map (·.block)=some k→¬ Z k:=fun hd hc k hk e=>hd ((hc k hk).symm.trans (hs.z k e))
 have mv:∀ {d e s n cc:Nat} {A:Option Addr} {xs:List Value},d≠8→w1.ownsRow 0 e s (.slice A n cc) n xs∧Col tag d A→w'.ownsRow 0 e s (.slice A n cc) n xs∧Col tag d A:=fun hd h=>⟨fV h.1 hC (ne hd h.2),h.2⟩
 refine ⟨tag,a,O,oc,L,rfl,⟨fun hx=>mv (by decide) (hs.f.e hx),fun hx=>mv (by decide) (hs.f.v hx),fun hx=>mv (by decide) (hs.f.x hx),fun hx=>mv (by decide) (hs.f.m hx),fun hx=>mv (by decide) (hs.f.n hx),hs.f.r,fun hx=>mv (by decide) (hs.f.q hx),fun i hi hx=>mv (by omega) (hs.f.k i hi hx)⟩,⟨(mv (d:=6) (by decide) ⟨hs.m.o,hs.m.c⟩).1,hs.m.l,fun j hj=>mv (by omega) (hs.m.e j hj),hs.m.c⟩,fun k hk=>hs.z k (hz k hk)⟩
def dH (id n:Int):Prop:=(1≤n∧n≤7)∧(1≤id∧id≤n)
instance (id n:Int):Decidable (dH id n):=by unfold dH;exact inferInstance
theorem nI (id n seed:Int) (w:World) :
 Rt prog 5 [.int .i64 id,.int .i64 n,.int .u64 seed] w (fun v w'=>((dH id n∧v=.tuple #[.agg (rfV (gI id n seed) a0).toArray,.int .i64 0])∨(¬ dH id n∧v=.tuple #[.agg (rfV zR a0).toArray,.int .i64 1]))∧ag w w'):=by
 refine enter (n:=29) Try.func5 rfl rfl rfl (an (ah (dg eF ?_)));intro b6 w1 E6 hb6 hk6;have hg6:w.heap.size≤b6:=Nat.le_of_eq hb6.symm;refine asi rfl (ak (ai (an (an (ah (mvi rfl (dq (v:=.int _ _) bf rfl rfl rfl ?_)))))));intro b10 w2 E10 hb10 hk10;refine aA bt (cw 1 7 (some ⟨b10,0,none⟩) 1 [n] _ (dr hk10) (by simp)) ?_;rintro v11 w3 ⟨rfl,rfl⟩;refine ab (di rfl) (mvb rfl (aP (t:=13) rfl (fun Q4=>?_) (fun Q4=>?_)))
 ·with_reducible (replace Q4:=eh Q4;replace Q4:=dF_ Q4)
  (try simp only [aC,aH,and_true] at Q4)
  refine aj rfl rfl (aj rfl rfl (aj rfl rfl (aj rfl rfl (aj rfl rfl (ab (ay (v:=.bool _) rfl rfl) (ak (ai (bL rfl (an (ah ?_))))))))));refine ab (c8 (l:=[]) (jD)) (dp (vs:=[_,_,_,_,_,_,_,_,_,_,_,_,_,_,_,_,_,_,_,_,_,_]) aQ rfl rfl (by simp [Value.oneCell']) ((hk6.from_ (ag.rfl_.next E10))) rfl ?_);intro w5 O2 P2;refine asi rfl (ak (ai (aG (aN (oV rfl (fh (cs:=[_,_,_,_,_,_,_,_,_,_,_,_,_,_,_,_,_,_,_,_,_,_]) a_ aQ rfl (by first | exact P5.whole | exact P2.whole)) (iY (v:=.int _ _) rfl) ?_)))));exact ⟨.inr ⟨by unfold dH;omega,rfl⟩,(((ag.rfl_.next E6).next E10).only O2 (hg6))⟩
 with_reducible (replace Q4:=ei Q4;replace Q4:=dT_ Q4)
 (try simp only [aC,aH,and_true] at Q4)
 refine af rfl (mvi rfl (af rfl (mvi rfl (af rfl (dq (v:=.int _ _) bf rfl rfl rfl ?_)))));intro b16 w6 E16 hb16 hk16;refine af rfl (aA bt (cw 1 n (some ⟨b16,0,none⟩) 1 [id] _ (dr hk16) (by simp)) ?_);rintro v17 w7 ⟨rfl,rfl⟩;refine af rfl (ab (di rfl) (ab (aF (v:=.bool _) rfl rfl) (ak (ai (aT rfl (fun Q8=>?_) (fun Q8=>?_))))))
 ·with_reducible (replace Q8:=eh Q8;replace Q8:=dF_ Q8)
  (try simp only [aC,aH,and_true] at Q8)
  refine an (ah (ab (c8 (l:=[]) (jD)) (dp (vs:=[_,_,_,_,_,_,_,_,_,_,_,_,_,_,_,_,_,_,_,_,_,_]) aQ rfl rfl (by simp [Value.oneCell']) ((hk6.from_ ((ag.rfl_.next E10).next E16))) rfl ?_)));intro w9 O2 P2;refine asi rfl (ak (ai (aG (aN (oV rfl (fh (cs:=[_,_,_,_,_,_,_,_,_,_,_,_,_,_,_,_,_,_,_,_,_,_]) a_ aQ rfl (by first | exact P5.whole | exact P2.whole)) (iY (v:=.int _ _) rfl) ?_)))));exact ⟨.inr ⟨by unfold dH;omega,rfl⟩,((((ag.rfl_.next E6).next E10).next E16).only O2 (hg6))⟩
 with_reducible (replace Q8:=ei Q8;replace Q8:=dT_ Q8)
 (try simp only [aC,aH,and_true] at Q8)
 refine aO (ai (an (ah (mvi rfl (mvi rfl (mvi rfl (ab (c8 (l:=[(0,.tmp 21),(1,.tmp 22),(11,.tmp 23)]) (ic _ _ _)) (ab (c8 (l:=[(0,.tmp 24)]) (lK _ _ _ _ _ _ _ _ _ _ _ _ _ _ _ _ _ _ _ _ _ _ _ _ _ _ _ _ _ _ _ _ _ _)) ?_))))))));have hM8:ag _ w6:=((ag.rfl_.next E10).next E16);have hz8:=((((ag.rfl_.next E6).next E10).next E16)).size;refine dg iD ?_;intro b8 w10 E8 hb8 hk8;have hg8:w.heap.size≤b8:=by omega
 have hk6b:=hk6.from_ (hM8.next E8);have h68:b6≠b8:=by have:=(hk6.from_ hM8).lt;omega
 refine dp (vs:=[_,_,_,_,_,_,_,_,_,_,_,_,_,_,_,_,_,_,_,_,_,_]) fQ rfl rfl (by simp [Value.oneCell']) (hk8) rfl ?_;intro w11 O3 P3;have hb8:Blk w11 b8 47 (rfV ({ zR with id:=id,nodes:=n,seed:=seed }:Rf) a0++[]).toArray:=P3;have hk6c:=hk6b.only O3 h68;refine ak (ai (an (ah ?_)));have hB8:ag w w11:=(((((ag.rfl_.next E6).next E10).next E16).next E8).only O3 (hg8));refine aA fO (kK 47 b8 { zR with id:=id,nodes:=n,seed:=seed } a0 [] _ hb8) ?_;rintro v26 w12 ⟨rfl,hb26,hC26⟩;have hk6d:=hk6c.chg hC26 h68;refine ak (ai (an (ah (ab (aa aq rfl) (ab (bh (cs:=rfV (gI id n seed) a0) a_ aQ rfl (mr (hb26.from_ ag.rfl_))) (dp (vs:=[_,_,_,_,_,_,_,_,_,_,_,_,_,_,_,_,_,_,_,_,_,_]) aQ rfl rfl (by simp [Value.oneCell']) ((hk6d.from_ ag.rfl_)) rfl ?_))))));intro w13 O5 P5;refine asi rfl (ak (ai (aG (oV rfl (fh (cs:=[_,_,_,_,_,_,_,_,_,_,_,_,_,_,_,_,_,_,_,_,_,_]) a_ aQ rfl (by first | exact P5.whole | exact P2.whole)) (iY (v:=.int _ _) rfl) ?_))));exact ⟨.inl ⟨by unfold dH;omega,rfl⟩,((hB8.chg hC26 (fun k hk=>by rw [show k=b8 from hk];exact hg8)).only O5 (hg6))⟩
theorem oI (s:Rf) (a:Ra) (w:World) (hrd:gu w s a) (hl:s.votes.length≤1000000∧s.next.length≤1000000∧s.mtch.length≤1000000∧s.sent.length≤1000000∧s.reads.length≤1000000∧∀ q∈s.reads,q.acks.length≤1000000) (hel:s.es.length≤1000000) (hm:jQ s=true) :
 Rt prog 15 [.agg (rfV s a).toArray] w (fun v w'=>qC w w' (ek s) v∧ag w w'):=by
 refine enter (n:=27) Try.func15 rfl rfl rfl (an (ah (dw (v:=.agg _) rfl ?_)));intro b1 w1 E1 hb1 hk1;refine dg eF ?_;intro b2 w2 E2 hb2 hk2;have hg2:w.heap.size≤b2:=by rw [hb2];exact ((ag.rfl_.next E1)).size
 refine ass rfl (asi rfl (ak (ai (an (ah (ab (bh (cs:=rfV s a) a_ aQ rfl (((hk1.from_ E2).from_ ag.rfl_).whole)) ?_))))));have hB9:ag w w2:=((ag.rfl_.next E1).next E2);have hk2b:=hk2.from_ ag.rfl_;have hlt2:=hk2b.lt;refine aA ov (pL s a _ (hrd.from_ ((ag.rfl_.next E1).next E2)) hl hel hm) ?_;rintro v9 w3 ⟨g,rfl,h9⟩;refine mvt rfl (ab (aM rfl rfl) (ab (aM rfl rfl) (asp rfl (asi rfl (ak (ai (an (an (ah (mvi rfl (ab (gE (dK rfl rfl) rfl) (ak (ai ?_)))))))))))));refine cS rfl (aO (ai (an (ah (mvp rfl (aA ou (p0 _ _ 65 g s _ (h9.from_ ag.rfl_) (mC hm)) ?_))))));rintro v17 w4 ⟨rfl,h17⟩;obtain ⟨tag9,a9,O9,oc9,L9,hs9⟩:=h17.ex;have hF17:=jY h17;have hk2c:=hk2b.from_ hF17;have hz9:=hB9.size;have hBq:ag w w4:=(hB9.next (jY h17));have hn2:b2≠g:=fun e=>by have h1:=hs9.z b2 hlt2;rw [e,hs9.gc] at h1;cases h1
 replace hn2:=hn2.symm;refine ak (ai (an ?_));have hU5:jB [(0,18,.pointer (some ⟨g,0,none⟩)),(1,19,.pointer (some ⟨g,0,none⟩)),(2,20,.pointer (some ⟨g,0+0,none⟩)),(3,21,.pointer (some ⟨g,0+0+0,none⟩)),(4,22,.agg (rfV (ek s).s a9).toArray),(5,23,.pointer (some ⟨g,0,none⟩)),(6,24,.pointer (some ⟨g,0,none⟩)),(7,25,.pointer (some ⟨g,0+22,none⟩)),(8,26,.slice O9 L9.length oc9),(10,3,.slice O9 L9.length oc9),(11,4,.int .i64 0)]:=by simp [jB]
 refine nQ [(0,18,.pointer (some ⟨g,0,none⟩)),(1,19,.pointer (some ⟨g,0,none⟩)),(2,20,.pointer (some ⟨g,0+0,none⟩)),(3,21,.pointer (some ⟨g,0+0+0,none⟩)),(4,22,.agg (rfV (ek s).s a9).toArray),(5,23,.pointer (some ⟨g,0,none⟩)),(6,24,.pointer (some ⟨g,0,none⟩)),(7,25,.pointer (some ⟨g,0+22,none⟩)),(8,26,.slice O9 L9.length oc9),(10,3,.slice O9 L9.length oc9),(11,4,.int .i64 0)] (fun S w'=>Blk w' g 65 ((rfV (ek s).s a9)++[Value.slice O9 L9.length oc9]).toArray∧(∃ cs:Array Value,cs.size=22∧Blk w' b2 32 cs∧(S 9=true→cs=(rfV (ek s).s a9).toArray))∧Chg (fun k=>k=b2) w4 w') (by kernel_rfl) (by kernel_rfl) hU5 (by simp) (⟨(hs9.b.from_ ag.rfl_).from_ ag.rfl_.d1,⟨_,rfl,(hk2c.from_ ag.rfl_).from_ ag.rfl_.d1,fun h=>(by cases h)⟩,ag.rfl_.d1.toChg⟩) ?_ ?_
 ·constructor
  ·rintro S L' wS hI hM hS0 ⟨-⟩;have e5:=hI.1 5 (by simp);have hM':=hM;obtain ⟨hgB,⟨cs9,hs9z,hq9,hqe⟩,hC9⟩:=hM';exact bC (aB e5) ⟨hI.put hU5 (.head _),hM⟩
  constructor
  ·rintro S L' wS hI hM hS0 ⟨d0,-⟩;have e18:aK L' 18=.pointer (some ⟨g,0,none⟩):=hI.get (i:=0) (.head _) d0;have hM':=hM;obtain ⟨hgB,⟨cs9,hs9z,hq9,hqe⟩,hC9⟩:=hM';exact bC (ao e18) ⟨hI.put hU5 (.tail _ (.head _)),hM⟩
  constructor
  ·rintro S L' wS hI hM hS0 ⟨d1,-⟩;have e19:aK L' 19=.pointer (some ⟨g,0,none⟩):=hI.get (i:=1) (.tail _ (.head _)) d1;have hM':=hM;obtain ⟨hgB,⟨cs9,hs9z,hq9,hqe⟩,hC9⟩:=hM';exact bC (aa aw e19) ⟨hI.put hU5 (.tail _ (.tail _ (.head _))),hM⟩
  constructor
  ·rintro S L' wS hI hM hS0 ⟨d2,-⟩;have e20:aK L' 20=.pointer (some ⟨g,0+0,none⟩):=hI.get (i:=2) (.tail _ (.tail _ (.head _))) d2;have hM':=hM;obtain ⟨hgB,⟨cs9,hs9z,hq9,hqe⟩,hC9⟩:=hM';exact bC (aa aq e20) ⟨hI.put hU5 (.tail _ (.tail _ (.tail _ (.head _)))),hM⟩
  constructor
  ·rintro S L' wS hI hM hS0 ⟨d3,-⟩;have e21:aK L' 21=.pointer (some ⟨g,0+0+0,none⟩):=hI.get (i:=3) (.tail _ (.tail _ (.tail _ (.head _)))) d3;have hM':=hM;obtain ⟨hgB,⟨cs9,hs9z,hq9,hqe⟩,hC9⟩:=hM';exact bC (bh (cs:=(rfV (ek s).s a9)) a_ aQ e21 (mr hgB)) ⟨hI.put hU5 (.tail _ (.tail _ (.tail _ (.tail _ (.head _))))),hM⟩
  constructor
  ·rintro S L' wS hI hM hS0 ⟨-,-⟩;have e5:=hI.1 5 (by simp);have hM':=hM;obtain ⟨hgB,⟨cs9,hs9z,hq9,hqe⟩,hC9⟩:=hM';exact bC (aB e5) ⟨hI.put hU5 (.tail _ (.tail _ (.tail _ (.tail _ (.tail _ (.head _)))))),hM⟩
  constructor
  ·rintro S L' wS hI hM hS0 ⟨d5,-,-⟩;have e23:aK L' 23=.pointer (some ⟨g,0,none⟩):=hI.get (i:=5) (.tail _ (.tail _ (.tail _ (.tail _ (.tail _ (.head _)))))) d5;have hM':=hM;obtain ⟨hgB,⟨cs9,hs9z,hq9,hqe⟩,hC9⟩:=hM';exact bC (ao e23) ⟨hI.put hU5 (.tail _ (.tail _ (.tail _ (.tail _ (.tail _ (.tail _ (.head _))))))),hM⟩
  constructor
  ·rintro S L' wS hI hM hS0 ⟨d6,-,-⟩;have e24:aK L' 24=.pointer (some ⟨g,0,none⟩):=hI.get (i:=6) (.tail _ (.tail _ (.tail _ (.tail _ (.tail _ (.tail _ (.head _))))))) d6;have hM':=hM;obtain ⟨hgB,⟨cs9,hs9z,hq9,hqe⟩,hC9⟩:=hM';exact bC (aa fA e24) ⟨hI.put hU5 (.tail _ (.tail _ (.tail _ (.tail _ (.tail _ (.tail _ (.tail _ (.head _)))))))),hM⟩
  constructor
  ·rintro S L' wS hI hM hS0 ⟨d7,-,-⟩;have e25:aK L' 25=.pointer (some ⟨g,0+22,none⟩):=hI.get (i:=7) (.tail _ (.tail _ (.tail _ (.tail _ (.tail _ (.tail _ (.tail _ (.head _)))))))) d7;have hM':=hM;obtain ⟨hgB,⟨cs9,hs9z,hq9,hqe⟩,hC9⟩:=hM';exact bC (ar jH e25 (by exact (show _=some (Value.slice O9 L9.length oc9) from hgB.rd 22 rfl))) ⟨hI.put hU5 (.tail _ (.tail _ (.tail _ (.tail _ (.tail _ (.tail _ (.tail _ (.tail _ (.head _))))))))),hM⟩
  constructor
  ·rintro S L' wS hI hM hS0 ⟨d4,d0,d1,d2,d3,d4,-,-,-,-,-⟩;have e2:=hI.1 2 (by simp);have e22:aK L' 22=.agg (rfV (ek s).s a9).toArray:=hI.get (i:=4) (.tail _ (.tail _ (.tail _ (.tail _ (.head _))))) d4;have hM':=hM;obtain ⟨hgB,⟨cs9,hs9z,hq9,hqe⟩,hC9⟩:=hM';obtain ⟨w2,hR,hO,hb⟩:=p5 (n:=27) (L:=L') (x:=.tmp 2) (y:=.tmp 22) (vs:=(rfV (ek s).s a9)) aQ e2 e22 (by simp [rfV,Value.oneCell']) hq9 (by rw [hs9z];rfl);exact iK hR ⟨hI.skip (by simp),hgB.only hO hn2,⟨_,rfl,hb,fun _=>rfl⟩,hC9.next (hO.toChg rfl)⟩
  constructor
  ·rintro S L' wS hI hM hS0 ⟨d8,d9,d0,d1,d2,d3,d4,d5,d6,d7,d8,d9,-⟩;have e26:aK L' 26=.slice O9 L9.length oc9:=hI.get (i:=8) (.tail _ (.tail _ (.tail _ (.tail _ (.tail _ (.tail _ (.tail _ (.tail _ (.head _))))))))) d8;have hM':=hM;obtain ⟨hgB,⟨cs9,hs9z,hq9,hqe⟩,hC9⟩:=hM';exact bC (dD e26) ⟨hI.put hU5 (.tail _ (.tail _ (.tail _ (.tail _ (.tail _ (.tail _ (.tail _ (.tail _ (.tail _ (.head _)))))))))),hM⟩
  constructor
  ·rintro S L' wS hI hM hS0 ⟨d10,d0,d1,d2,d3,d4,d5,d6,d7,d8,d9,d10,-⟩;have hM':=hM;obtain ⟨hgB,⟨cs9,hs9z,hq9,hqe⟩,hC9⟩:=hM';exact bC (dD rfl) ⟨hI.put hU5 (.tail _ (.tail _ (.tail _ (.tail _ (.tail _ (.tail _ (.tail _ (.tail _ (.tail _ (.tail _ (.head _))))))))))),hM⟩
  exact trivial
 ·intro w6 hM;obtain ⟨hgB,⟨cs9,hs9z,hq9,hqe⟩,hC9⟩:=hM;have hqe:=hqe rfl;subst hqe;refine ai (aG (rG rfl (fh (cs:=[_,_,_,_,_,_,_,_,_,_,_,_,_,_,_,_,_,_,_,_,_,_]) a_ aQ rfl (by exact hq9.whole)) (iY (v:=.slice _ _ _) rfl) (iY (v:=.int _ _) rfl) ?_));exact ⟨qC.mk_ hs9 (fun k hk=>Nat.lt_of_lt_of_le hk hz9) (hC9.wide (fun k hk=>.inl (by rw [show k=b2 from hk];exact hlt2))),(hBq.chg hC9 (fun k hk=>by rw [show k=b2 from hk];exact hg2))⟩
theorem jC:aD prog 5=true:=by kernel_rfl
theorem gq:aD prog 6=true:=by kernel_rfl
theorem lJ:aD prog 15=true:=by kernel_rfl
def wkA (k:Int):Rf:={ gI 1 1 1 with elapsed:=k }
def wkB (e r:Int):Rf:=⟨1,1,2,1,1,1,0,0,[⟨1,1,⟨#[]⟩⟩],⟨#[]⟩,1,e,10+bl (nx 1) 10,nx (nx 1),[],[1],[1],[0],r,[],⟨#[]⟩,0⟩
def wkR:Nat→Rf
 |0=>gI 1 1 1
 |k+1=>(ek (wkR k)).s
theorem qm:med [1]=1:=by
 have h:srt [1]=[1]:=List.perm_singleton.1 (iU [1]);unfold med;rw [h];rfl
theorem oD (k:Int):(eP (wkA k)).s=wkB 0 0:=by
 rw [lE (show (wkA k).term≠cz by show (0:Int)≠1099511627775;decide)];show (il ⟨b0 (wkA k),[]⟩).s=_;unfold il;rw [if_pos (show cM (⟨b0 (wkA k),[]⟩:Sp).s.nodes (⟨b0 (wkA k),[]⟩:Sp).s.votes=true from (by decide:cM 1 [1]=true))];unfold lr;rw [if_neg (show ¬ en (⟨b0 (wkA k),[]⟩:Sp).s=true from fun h=>Bool.noConfusion (show false=true from h))];show bw (Sp.all ⟨cW (cp (b0 (wkA k))) ⟨#[]⟩,[]⟩).s=_;rw [jz];show bw (cW (cp (b0 (wkA k))) ⟨#[]⟩)=_;unfold bw;simp only;rw [show cH (cW (cp (b0 (wkA k))) ⟨#[]⟩).mtch (cW (cp (b0 (wkA k))) ⟨#[]⟩).id (aE (cW (cp (b0 (wkA k))) ⟨#[]⟩))=[1] from rfl,qm];rfl
theorem pY {k:Int} (h:0≤k∧k≤20):jQ (wkA k)=true:=by
 have hb:=lH 1;refine eb.2 ⟨?_,?_,rfl,?_,?_⟩
 ·unfold eA wkA gI dP zR;simp only;omega
 ·exact ⟨rfl,Int.le_refl 0,⟨Int.le_refl 0,Int.le_refl 0⟩,Nat.zero_le _,.inr rfl⟩
 ·exact (fZ (show (0:Int)≠2 by decide)).2 rfl
 ·exact ⟨Nat.zero_le _,⟨Int.le_refl 0,z11⟩,.inr rfl⟩
theorem pX {e r:Int} (he:0≤e∧e≤1) (hr:0≤r∧r≤20):jQ (wkB e r)=true:=by
 have hb:=lH (nx 1);refine eb.2 ⟨?_,?_,rfl,?_,?_⟩
 ·unfold eA wkB;simp only;omega
 ·exact ⟨(by decide:bn 0 0 [⟨1,1,⟨#[]⟩⟩]=true),Int.le_refl 1,⟨(by decide:(0:Int)≤1),Int.le_refl 1⟩,Nat.zero_le _,.inr rfl⟩
 ·exact (bS rfl).2 ⟨⟨rfl,rfl,rfl,Nat.zero_le _⟩,⟨fun x hx=>by rw [List.mem_singleton.1 hx];exact ⟨Int.le_refl 1,(by decide:(1:Int)≤1+1)⟩,fun x hx=>by rw [List.mem_singleton.1 hx];exact ⟨(by decide:(0:Int)≤1),Int.le_refl 1⟩,fun x hx=>by rw [List.mem_singleton.1 hx];exact ⟨Int.le_refl 0,Int.le_refl 0⟩⟩,fun q hq=>by cases hq⟩
 ·exact ⟨Nat.zero_le _,⟨Int.le_refl 0,z11⟩,.inr rfl⟩
theorem oE:∀ k:Nat,k≤20→((k:Int)<10+bl 1 10∧wkR k=wkA k)∨(10+bl 1 10≤(k:Int)∧∃ e r:Int,(0≤e∧e≤1)∧(0≤r∧r≤k)∧wkR k=wkB e r)
 |0,_=>by
  have hb:=lH 1;exact .inl ⟨by show (0:Int)<_;omega,rfl⟩
 |k+1,hk=>by
  have hb:=lH 1;rcases oE k (by omega) with ⟨h1,h2⟩ | ⟨h1,e,r,he,hr,h2⟩
  ·have ht:wkR (k+1)=(ek (wkA k)).s:=by rw [←h2];rfl
   have hm:min ((k:Int)+1) cz=((k+1:Nat):Int):=by unfold cz;omega
   have h3:ek (wkA k)=if 10+bl 1 10≤((k+1:Nat):Int) then eP (wkA ((k+1:Nat):Int)) else ⟨wkA ((k+1:Nat):Int),[]⟩:=by
    unfold ek;simp only;rw [if_neg (show ¬ (wkA k).role=2 by show ¬ (0:Int)=2;decide),show min ((wkA (k:Int)).elapsed+1) cz=((k+1:Nat):Int) from hm];rfl
   rw [ht,h3];by_cases h4:10+bl 1 10≤((k+1:Nat):Int)
   ·rw [if_pos h4,oD];exact .inr ⟨h4,0,0,⟨by omega,by omega⟩,⟨by omega,by omega⟩,rfl⟩
   ·rw [if_neg h4];exact .inl ⟨by omega,rfl⟩
  ·have ht:wkR (k+1)=(ek (wkB e r)).s:=by rw [←h2];rfl
   have hm:min (e+1) cz=e+1:=by unfold cz;omega
   have hm2:min (r+1) cz=r+1:=by unfold cz;omega
   have h3:(ek (wkB e r)).s=if 2≤e+1 then wkB 0 (r+1) else wkB (e+1) r:=by
    unfold ek;simp only;rw [if_pos (show (wkB e r).role=2 from rfl),show min ((wkB e r).elapsed+1) cz=e+1 from hm,show min ((wkB e r).round+1) cz=r+1 from hm2];split
    ·rw [jz];rfl
    ·rfl
   rw [ht,h3];refine .inr ⟨by omega,?_⟩;split
   ·exact ⟨0,r+1,⟨by omega,by omega⟩,⟨by omega,by omega⟩,rfl⟩
   ·exact ⟨e+1,r,⟨by omega,by omega⟩,⟨by omega,by omega⟩,rfl⟩
theorem qO {k:Nat} (hk:k≤20):jQ (wkR k)=true:=by
 rcases oE k hk with ⟨_,h2⟩ | ⟨_,e,r,he,hr,h2⟩
 ·rw [h2];exact pY (by omega)
 ·rw [h2];exact pX he (by omega)
theorem qP:(wkR 20).role=2∧(wkR 20).term=1∧(wkR 20).commit=1:=by
 have hb:=lH 1;rcases oE 20 (Nat.le_refl _) with ⟨h1,_⟩ | ⟨_,e,r,_,_,h2⟩
 ·omega
 ·rw [h2];exact ⟨rfl,rfl,rfl⟩
theorem RfF.sizes {s:Rf} (h:RfF s):(s.votes.length≤1000000∧s.next.length≤1000000∧s.mtch.length≤1000000∧s.sent.length≤1000000∧s.reads.length≤1000000∧∀ q∈s.reads,q.acks.length≤1000000)∧s.es.length≤1000000:=by
 have h1:=h.vl;have h2:=h.n
 have h3:dE s≤7:=by
  by_cases hr:s.role=2
  ·rw [eX hr];omega
  ·rw [iO hr];omega
 have h4:=h.nx.1;have h5:=h.ma.1;have h6:=h.se.1;have h7:=h.rl;have h8:=h.last;refine ⟨⟨by omega,by omega,by omega,by omega,by omega,fun q hq=>?_⟩,by omega⟩;have h9:=(eD.1 (h.rd q hq)).2.2.2;have h10:=lk h9;have h11:=gW q.acks 0 s.nodes h10.2 fun x hx=>⟨by have:=(h10.1 x hx).1;omega,(h10.1 x hx).2⟩
 omega
theorem qI {w:World} {id n seed:Int}:gu w (gI id n seed) a0:=aS.rd (aS.same (s':=gI id n seed) (aS.zero (w:=w) (tag:=fun _=>8)) rfl rfl rfl rfl rfl rfl)
theorem q4 (w:World):Rt prog 5 [.int .i64 1,.int .i64 1,.int .u64 1] w fun v w'=>v=.tuple #[.agg (rfV (gI 1 1 1) a0).toArray,.int .i64 0]∧ag w w':=
 (nI 1 1 1 w).mono fun v w' h=>⟨h.1.elim (fun e=>e.2) (fun e=>absurd (by unfold dH;omega) e.1),h.2⟩
theorem ji (e:Int) (w:World) :
 Rt prog 6 [.int .i64 e] w (fun v w'=>v=.int .i64 e∧w=w'):=by
 refine enter (n:=4) Try.func6 rfl rfl rfl (an (ah (asi rfl (ak (ai (an (ah (mvi rfl (asi rfl (ak (ai (aG (bK (v:=.int _ _) rfl rfl (⟨rfl,rfl⟩))))))))))))))
theorem kV (w:World) :
 Rt prog 8 [] w (fun v w'=>v=.bool true∧ag w w'):=by
 refine enter (n:=37) Try.func8 rfl rfl rfl (an (ah (asb rfl (ak (ai (an (ah (aA jC (q4 _) ?_))))))));rintro v5 w1 ⟨rfl,E5⟩;refine mvt rfl (ab (aM rfl rfl) (ab (aM rfl rfl) ?_));have hz1:=((ag.rfl_.next E5)).size;refine dg eF ?_;intro b1 w2 E1 hb1 hk1;have hg1:w.heap.size≤b1:=by omega
 refine dp (vs:=[_,_,_,_,_,_,_,_,_,_,_,_,_,_,_,_,_,_,_,_,_,_]) aQ rfl rfl (by simp [Value.oneCell']) (hk1) rfl ?_;intro w3 O1 P1;refine asi rfl (ak (ai (an (an (ah (mvi rfl (aA gq (ji _ _) ?_)))))));rintro v9 w4 ⟨rfl,rfl⟩;refine ab (gE (dK rfl rfl) rfl) (ak (ai (cS rfl (aO (ai (an (an (ah (asi rfl (ak (ai (bd (df (G:=Nat×Ra) [0,11,12,13,14,15,16,17,18,19,20,21,22,23] (fun (k,_)=>[(2,.int .i64 0),(3,.int .i64 (k:Nat))]) (fun (k,a) w'=>k≤20∧Blk w' b1 32 (rfV (wkR k) a).toArray∧gu w' (wkR k) a∧ag w w') (fun (k,_)=>20-k) ((0,a0)) ⟨rfl,rfl,trivial⟩ ?_ ?_)))))))))))))
 ·exact ⟨Nat.zero_le _,P1.from_ ag.rfl_,qI,(((ag.rfl_.next E5).next E1).only O1 (hg1))⟩
 rintro ⟨k,a⟩ ρ5 w5 ⟨hk,hkb,hrd,hB⟩;refine an (an (ah (mvi rfl (ab (cO rfl rfl) (ak (ai (r7 rfl (fun Q6=>?_) (fun Q6=>?_))))))))
 ·have hmk:=qO (k:=k) (by omega);have hszs:=(mC hmk).sizes;refine aO (ai (an (bd (an (ah (ab (bh (cs:=rfV (wkR k) a) a_ aQ rfl ((hkb.from_ ag.rfl_).whole)) ?_))))));have hM17:ag _ w5:=ag.rfl_;have hlt1:b1<(w5).heap.size:=(hkb.from_ ag.rfl_).lt;refine aA lJ (oI (wkR k) a _ (hrd.from_ ag.rfl_) hszs.1 hszs.2 hmk) ?_;rintro v17 w7 ⟨⟨tag9,a9,O9,oc9,L9,rfl,hf9,hm9,ht9⟩,E17⟩;refine mvt rfl (ab (aM rfl rfl) (ab (aM rfl rfl) (ab (aM rfl rfl) (dp (vs:=[_,_,_,_,_,_,_,_,_,_,_,_,_,_,_,_,_,_,_,_,_,_]) aQ rfl rfl (by simp [Value.oneCell']) (((hkb.from_ hM17).from_ E17)) rfl ?_))));intro w8 O7 P7;have hrd9:gu w8 (wkR (k+1)) a9:=aS.rd (bQ.chg8 hf9 (O7.toChg rfl) (ht9 b1 hlt1));refine asi rfl (ak (ai (an (ah (mvi rfl (aA gq (ji _ _) ?_))))));rintro v22 w9 ⟨rfl,rfl⟩;refine ab (gE (dK rfl rfl) rfl) (ak (ai (cS rfl (aO (cx (ai (ah (mvi rfl (ab (cd rfl rfl (by omega)) (asi rfl (ak ?_)))))))))));refine cy ((k+1,a9)) ⟨(by first | rfl | (refine aZ ?_;omega)),(by first | rfl | (refine aZ ?_;omega)),trivial⟩ (by (iterate 31 refine bu rfl ?_);exact bT) ⟨?_,?_⟩
  ·exact ⟨by omega,P7.from_ ag.rfl_,hrd9.from_ ag.rfl_,((hB.next E17).only O7 (hg1))⟩
  ·show 20-(k+1)<20-k;omega
 have h20:k=20:=by omega
 have hwe:=qP;rw [←h20] at hwe;refine cF (bg (bg (cf (ai (an (ah (ab (aa ck rfl) (ab (ar au rfl (by exact (show _=some (Value.int .i64 (wkR k).role) from (hkb.from_ ag.rfl_).rd 2 rfl))) ?_))))))));refine ab (c9 (bW rfl rfl) (by rw [hwe.1];rfl)) ?_;refine mvb rfl (af rfl (ab (aa bk rfl) (af rfl (ab (ar au rfl (by exact (show _=some (Value.int .i64 (wkR k).term) from (hkb.from_ ag.rfl_).rd 3 rfl))) ?_))));refine af rfl (ab (c9 (bW rfl rfl) (by rw [hwe.2.1];rfl)) ?_);refine ab (ay (v:=.bool _) rfl rfl) (mvb rfl (af rfl (ab (aa cj rfl) (af rfl (ab (ar au rfl (by exact (show _=some (Value.int .i64 (wkR k).commit) from (hkb.from_ ag.rfl_).rd 10 rfl))) ?_)))));refine af rfl (ab (c9 (bW rfl rfl) (by rw [hwe.2.2];rfl)) ?_);refine ab (ay (v:=.bool _) rfl rfl) (asb rfl (ak (ai (aG (bK (v:=.bool _) rfl rfl (⟨rfl,hB⟩))))))
theorem fN:aD prog 13=true:=by kernel_rfl
theorem pQ:aD prog 19=true:=by kernel_rfl
theorem pS:aD prog 12=true:=by kernel_rfl
theorem pR:aD prog 14=true:=by kernel_rfl
theorem rW (A B:Option Addr) (ca cb:Nat) (a b:List Int) (w:World) (ha:cD iV w A a) (hb:cD iV w B b) (hla:a.length*8≤140737488351232) :
 Rt prog 13 [.slice A a.length ca,.slice B b.length cb] w (fun v w'=>v=.bool (decide (a=b))∧ag w w'):=by
 refine enter (n:=26) Try.func13 rfl rfl rfl (an (ah (asb rfl (ak (ai (an (an (ah (mvs rfl (ab (bU bj rfl) (mvs rfl (ab (bU bj rfl) (ab (dK rfl rfl) ?_)))))))))))));refine ak (ai (aT rfl (fun Q1=>?_) (fun Q1=>?_)))
 ·replace Q1:=eh Q1;replace Q1:=jw Q1;refine an (ah (asb rfl (ak (ai (aG (aN (bK (v:=.bool _) rfl rfl ?_)))))));exact ⟨by rw [decide_eq_false];rintro rfl;omega,ag.rfl_⟩
 replace Q1:=ei Q1;replace Q1:=jv Q1;refine aO (ai (an (an (ah (asi rfl (ak (ai (bd (df (G:=Nat) [4,11,12,13,14,15,16,17,18,19,20,21,22,23,24,25] (fun k=>[(5,.int .i64 (k:Nat))]) (fun k w'=>k≤a.length∧a.take k=b.take k∧ag w w') (fun k=>a.length-k) (0) ⟨rfl,trivial⟩ ?_ ?_)))))))))
 ·exact ⟨Nat.zero_le _,rfl,ag.rfl_⟩
 rintro k ρ2 w2 ⟨hk,ht,hB⟩;refine an (an (ah (mvi rfl (mvs rfl (ab (bU bj rfl) (ab (cO rfl rfl) (ak (ai (r7 rfl (fun Q3=>?_) (fun Q3=>?_))))))))))
 ·obtain ⟨ba,oa,rfl,ca⟩:=ha (by omega);obtain ⟨bb,ob,rfl,cb⟩:=hb (by omega);refine aO (ai (an (bd (an ?_))));apply pJ 9 [(17,eqp _),(18,eqp _),(19,eqp _),(20,eqp _),(21,eqp _),(22,eqp _),(23,eqp _),(24,eqp _),(25,eqp _)] (by kernel_rfl) (by kernel_rfl) ⟨av _,av _,av _,av _,av _,av _,av _,av _,av _,trivial⟩
  case hop=>
   constructor
   ·intro w5 D5;exact ax (aB (v:=.slice _ _ _) rfl) rfl
   constructor
   ·intro w6 D6;exact ax (aB (v:=.int _ _) rfl) rfl
   constructor
   ·intro w7 D7;rintro _ rfl _ rfl;exact ax (cg bR rfl rfl (by omega)) rfl
   constructor
   ·intro w8 D8;rintro _ rfl;exact ax (ar au rfl (by first | (exact eQ (hB.next D8) (ca k (by omega))) | (exact eQ (hB.next D8) (cb k (by omega))))) rfl
   constructor
   ·intro w9 D9;exact ax (aB (v:=.slice _ _ _) rfl) rfl
   constructor
   ·intro w10 D10;exact ax (aB (v:=.int _ _) rfl) rfl
   constructor
   ·intro w11 D11;rintro _ rfl _ rfl;exact ax (cg bR rfl rfl (by omega)) rfl
   constructor
   ·intro w12 D12;rintro _ rfl;exact ax (ar au rfl (by first | (exact eQ (hB.next D12) (ca k (by omega))) | (exact eQ (hB.next D12) (cb k (by omega))))) rfl
   constructor
   ·intro w13 D13;rintro _ rfl _ rfl;exact ax (dK rfl rfl) rfl
   exact trivial
  case hend=>
   intro w14 D14;rintro _ rfl _ rfl _ rfl _ rfl _ rfl _ rfl _ rfl _ rfl _ rfl;show St ..;refine ak (ai (aT rfl (fun Q15=>?_) (fun Q15=>?_)))
   ·replace Q15:=eh Q15;replace Q15:=jw Q15;refine an (ah (asb rfl (ak (ai (aG (b_ (aN (aN (b_ (aN (bK (v:=.bool _) rfl rfl ?_)))))))))));exact ⟨by rw [decide_eq_false];rintro rfl;exact absurd rfl (by assumption),(hB.next D14)⟩
   replace Q15:=ei Q15;replace Q15:=jv Q15;refine aO (cx (ai (ah (mvi rfl (ab (cd rfl rfl (by omega)) (asi rfl (ak ?_)))))));refine cy (k+1) ⟨(by first | rfl | (refine aZ ?_;omega)),trivial⟩ (by (iterate 33 refine bu rfl ?_);exact bT) ⟨?_,?_⟩
   ·exact ⟨by omega,p2 (by omega) (by omega) ht (by omega),(hB.next D14)⟩
   ·omega
 refine cF (bg (bg (cf (ai (an (ah (asb rfl (ak (ai (aG (bK (v:=.bool _) rfl rfl (⟨by rw [decide_eq_true (rV (by omega) (by omega) ht)],hB⟩))))))))))))
theorem jo (A B:Option Addr) (ca cb:Nat) (l:List Int) (w:World) (ha:cD iV w A l) (hb:cD iV w B l) (hl:l.length≤1000000):Rt prog 13 [.slice A l.length ca,.slice B l.length cb] w fun v w'=>v=.bool true∧ag w w':=
 (rW A B ca cb l l w ha hb (by omega)).mono fun v w' h=>⟨by rw [h.1,decide_eq_true rfl],h.2⟩
theorem q_ (B T:Int) (A A':Option Addr) (n n' c c':Nat) (xs:List Ent) (w:World) (h1:bY w (.slice A n c) xs) (h2:bY w (.slice A' n' c') xs) (hl:xs.length≤1000000):Rt prog 12 [.agg #[.int .i64 B,.int .i64 T,.slice A n c],.agg #[.int .i64 B,.int .i64 T,.slice A' n' c']] w fun v w'=>v=.bool true∧ag w w':=Rt.of (mK B T _ _ xs w h1 h2 (by omega))
theorem oh (q:Rd) (A B:Option Addr) (ca cb:Nat) (w:World) (ha:cD iV w A q.acks) (hb:cD iV w B q.acks) (hl:q.acks.length≤1000000) :
 Rt prog 19 [.agg (rdV (q,A,ca)).toArray,.agg (rdV (q,B,cb)).toArray] w (fun v w'=>v=.bool true∧ag w w'):=by
 refine enter (n:=31) Try.func19 rfl rfl rfl (an (ah (dw (v:=.agg _) rfl ?_)));intro b2 w1 E2 hb2 hk2;refine dw (v:=.agg _) rfl ?_;intro b3 w2 E3 hb3 hk3;replace hk2:=hk2.from_ E3;refine asb rfl (ak (ai (an (ah (ab (aa ff rfl) (ab (ar au rfl (by exact (show _=some (Value.int .i64 q.id) from (hk2.from_ ag.rfl_).rd 0 rfl))) ?_))))));refine ab (aa ff rfl) (ab (ar au rfl (by exact (show _=some (Value.int .i64 q.id) from (hk3.from_ ag.rfl_).rd 0 rfl))) ?_);refine ab (c9 (bW rfl rfl) (beq_self_eq_true _)) (mvb rfl (af rfl (ab (aa fe rfl) (af rfl (ab (ar au rfl (by exact (show _=some (Value.int .i64 q.ix) from (hk2.from_ ag.rfl_).rd 1 rfl))) ?_)))));refine af rfl (ab (aa fe rfl) (af rfl (ab (ar au rfl (by exact (show _=some (Value.int .i64 q.ix) from (hk3.from_ ag.rfl_).rd 1 rfl))) ?_)));refine af rfl (ab (c9 (bW rfl rfl) (beq_self_eq_true _)) (ab (ay (v:=.bool _) rfl rfl) (mvb rfl (af rfl (ab (aa fc rfl) (af rfl (ab (ar au rfl (by exact (show _=some (Value.int .i64 q.rn) from (hk2.from_ ag.rfl_).rd 2 rfl))) ?_)))))));refine af rfl (ab (aa fc rfl) (af rfl (ab (ar au rfl (by exact (show _=some (Value.int .i64 q.rn) from (hk3.from_ ag.rfl_).rd 2 rfl))) ?_)));refine af rfl (ab (c9 (bW rfl rfl) (beq_self_eq_true _)) (ab (ay (v:=.bool _) rfl rfl) (mvb rfl (af rfl (ab (aa dz rfl) (af rfl (ab (ar aL rfl (by exact (show _=some (Value.slice A q.acks.length ca) from (hk2.from_ ag.rfl_).rd 3 rfl))) ?_)))))));refine af rfl (ab (aa dz rfl) (af rfl (ab (ar aL rfl (by exact (show _=some (Value.slice B q.acks.length cb) from (hk3.from_ ag.rfl_).rd 3 rfl))) ?_)));refine af rfl (aA fN (jo A B ca cb q.acks _ (ha.from_ ((ag.rfl_.next E2).next E3)) (hb.from_ ((ag.rfl_.next E2).next E3)) hl) ?_);rintro v29 w3 ⟨rfl,E29⟩;refine ab (ay (v:=.bool _) rfl rfl) (asb rfl (ak (ai (aG (bK (v:=.bool _) rfl rfl (⟨rfl,(((ag.rfl_.next E2).next E3).next E29)⟩))))))
theorem mJ (x y:Rd×Option Addr×Nat) (w:World) (h:x.1=y.1) (ha:cD iV w x.2.1 x.1.acks) (hb:cD iV w y.2.1 y.1.acks) (hl:x.1.acks.length≤1000000):Rt prog 19 [.agg (rdV x).toArray,.agg (rdV y).toArray] w fun v w'=>v=.bool true∧ag w w':=by
 obtain ⟨q,A,ca⟩:=x;obtain ⟨q2,B,cb⟩:=y;obtain rfl:q=q2:=h;exact oh q A B ca cb w ha hb hl
theorem mI (A B:Option Addr) (ca cb n:Nat) (X Y:List (Rd×Option Addr×Nat)) (w:World) (hr:gp 4 rdV w A X) (hr2:gp 4 rdV w B Y) (hX:X.length=n) (hY:Y.length=n) (hp:X.map (fun q=>q.1)=Y.map (fun q=>q.1)) (hE:∀ x∈X,IR w x.2.1 x.2.2 x.1.acks) (hE2:∀ x∈Y,IR w x.2.1 x.2.2 x.1.acks) (hle:∀ x∈X,x.1.acks.length≤1000000) (hn:n≤1000000) :
 Rt prog 14 [.slice A n ca,.slice B n cb] w (fun v w'=>v=.bool true∧ag w w'):=by
 refine enter (n:=27) Try.func14 rfl rfl rfl (an (ah (asb rfl (ak (ai (an (an (ah (mvs rfl (ab (bU dm rfl) (mvs rfl (ab (bU dm rfl) (ab (gE (dK rfl rfl) (bne_self_eq_false _)) ?_)))))))))))));refine ak (ai (cS rfl (aO (ai (an (an (ah (asi rfl (ak (ai (bd (df (G:=Nat) [4,11,12,13,14,15,16,17,18,19,20,21,22,23,24,25,26] (fun k=>[(5,.int .i64 (k:Nat))]) (fun k w'=>k≤n∧ag w w') (fun k=>n-k) (0) ⟨rfl,trivial⟩ ?_ ?_))))))))))))
 ·exact ⟨Nat.zero_le _,ag.rfl_⟩
 rintro k ρ1 w1 ⟨hk,hB⟩;refine an (an (ah (mvi rfl (mvs rfl (ab (bU dm rfl) (ab (cO rfl rfl) (ak (ai (r7 rfl (fun Q2=>?_) (fun Q2=>?_))))))))))
 ·have hkX:k<X.length:=by omega
  have hkY:k<Y.length:=by omega
  obtain ⟨ba,oa,rfl,hca⟩:=hr (by omega);obtain ⟨bb,ob,rfl,hcb⟩:=hr2 (by omega);have hxk:=hE _ (List.getElem_mem hkX);have hyk:=hE2 _ (List.getElem_mem hkY);have hlk:=hle _ (List.getElem_mem hkX)
  have hpk:X[k].1=Y[k].1:=by
   have h9:(X.map (fun q=>q.1))[k]? =(Y.map (fun q=>q.1))[k]? :=by rw [hp]
   rw [List.getElem?_map,List.getElem?_map,List.getElem?_eq_getElem hkX,List.getElem?_eq_getElem hkY] at h9;exact Option.some.inj h9
  refine aO (ai (an (bd (an ?_))));apply dF 10 [(17,eqp _),(18,eqp _),(19,eqp _),(20,eqp (.agg (rdV X[k]).toArray)),(21,eqp _),(22,eqp _),(23,eqp _),(24,eqp (.agg (rdV Y[k]).toArray)),(25,eqp _),(26,eqp _)] (by repeat first | exact et | refine er ?_ | refine dL ?_) (by kernel_rfl) (by kernel_rfl) ⟨av _,av _,av _,av _,av _,av _,av _,av _,av _,av _,trivial⟩
  case hop=>
   constructor
   ·rintro-w4 D4;exact ax (aB (v:=.slice _ _ _) rfl) rfl
   constructor
   ·rintro-w5 D5;exact ax (aB (v:=.int _ _) rfl) rfl
   constructor
   ·rintro-w6 D6;rintro _ rfl _ rfl;exact ax (cJ ed rfl rfl (by omega)) rfl
   constructor
   ·rintro-w7 D7;rintro _ rfl;exact ax (bh (cs:=rdV X[k]) fP e_ rfl (gk (hB.next D7) (hca k hkX))) rfl
   constructor
   ·rintro-w8 D8;exact ax (aB (v:=.slice _ _ _) rfl) rfl
   constructor
   ·rintro-w9 D9;exact ax (aB (v:=.int _ _) rfl) rfl
   constructor
   ·rintro-w10 D10;rintro _ rfl _ rfl;exact ax (cJ ed rfl rfl (by omega)) rfl
   constructor
   ·rintro-w11 D11;rintro _ rfl;exact ax (bh (cs:=rdV Y[k]) fP e_ rfl (gk (hB.next D11) (hcb k hkY))) rfl
   constructor
   ·rintro-w12 D12;rintro v12_20 rfl v12_24 rfl;refine gG pQ ((mJ X[k] Y[k] _ hpk (hxk.1.from_ (hB.next D12)) (hyk.1.from_ (hB.next D12)) hlk).mono ?_);rintro v _ ⟨rfl,E12'⟩;exact ⟨E12',rfl⟩
   constructor
   ·rintro-w13 D13;rintro _ rfl;exact ax (di rfl) rfl
   exact trivial
  case hend=>
   intro w14 D14;rintro _ rfl _ rfl _ rfl v20 rfl _ rfl _ rfl _ rfl v24 rfl _ rfl _ rfl;show St ..;refine ak (ai (r5 rfl (fun Q15=>?_) (fun Q15=>?_)))
   ·exfalso;contradiction
   refine aO (cx (ai (ah (mvi rfl (ab (cL (b:=1) rfl rfl (by omega)) (asi rfl (ak ?_)))))));refine cy (k+1) ⟨(by first | rfl | (refine aZ ?_;omega)),trivial⟩ (by (iterate 35 refine bu rfl ?_);exact bT) ⟨?_,?_⟩
   ·exact ⟨by omega,(hB.next D14)⟩
   ·omega
 refine cF (bg (bg (cf (ai (an (ah (asb rfl (ak (ai (aG (bK (v:=.bool _) rfl rfl (⟨rfl,hB⟩))))))))))))
theorem nF {s:Rf} {a:Ra} {w:World} {b T:Nat} (hb:Blk w b T (rfV s a).toArray):w.rangeAt b 6 [.int .i64 s.b,.int .i64 s.t,.slice a.E s.es.length a.Ec]:=hb.range 6 _ (fun j v hj=>by
 match j,hj with
 |0,hj=>exact hj
 |1,hj=>exact hj
 |2,hj=>exact hj
 |j+3,hj=>simp at hj)
theorem oi (s:Rf) (a b:Ra) (w:World) (ha:gu w s a) (hb:gu w s b) (hl:s.es.length≤1000000∧s.votes.length≤1000000∧s.next.length≤1000000∧s.mtch.length≤1000000∧s.sent.length≤1000000∧s.reads.length≤1000000∧∀ q∈s.reads,q.acks.length≤1000000) :
 Rt prog 7 [.agg (rfV s a).toArray,.agg (rfV s b).toArray] w (fun v w'=>v=.bool true∧ag w w'):=by
 obtain ⟨hl0,hl1,hl2,hl3,hl4,hl5,hl6⟩:=hl;have hla:a.L.length=s.reads.length:=by rw [←ha.r,List.length_map]
 have hlb:a.L.length=b.L.length:=by rw [hla,←hb.r,List.length_map]
 refine enter (n:=143) Try.func7 rfl rfl rfl (an (ah (dw (v:=.agg _) rfl ?_)));intro b2 w1 E2 hb2 hk2;refine dw (v:=.agg _) rfl ?_;intro b3 w2 E3 hb3 hk3;replace hk2:=hk2.from_ E3;refine asb rfl (ak (ai (an (ah (ab (aa ch rfl) (ab (ar au rfl (by exact (show _=some (Value.int .i64 s.id) from (hk2.from_ ag.rfl_).rd 0 rfl))) ?_))))));refine ab (aa ch rfl) (ab (ar au rfl (by exact (show _=some (Value.int .i64 s.id) from (hk3.from_ ag.rfl_).rd 0 rfl))) ?_);refine ab (c9 (bW rfl rfl) (beq_self_eq_true _)) (mvb rfl (af rfl (ab (aa bc rfl) (af rfl (ab (ar au rfl (by exact (show _=some (Value.int .i64 s.nodes) from (hk2.from_ ag.rfl_).rd 1 rfl))) ?_)))));refine af rfl (ab (aa bc rfl) (af rfl (ab (ar au rfl (by exact (show _=some (Value.int .i64 s.nodes) from (hk3.from_ ag.rfl_).rd 1 rfl))) ?_)));refine af rfl (ab (c9 (bW rfl rfl) (beq_self_eq_true _)) (ab (ay (v:=.bool _) rfl rfl) (mvb rfl (af rfl (ab (aa ck rfl) (af rfl (ab (ar au rfl (by exact (show _=some (Value.int .i64 s.role) from (hk2.from_ ag.rfl_).rd 2 rfl))) ?_)))))));refine af rfl (ab (aa ck rfl) (af rfl (ab (ar au rfl (by exact (show _=some (Value.int .i64 s.role) from (hk3.from_ ag.rfl_).rd 2 rfl))) ?_)));refine af rfl (ab (c9 (bW rfl rfl) (beq_self_eq_true _)) (ab (ay (v:=.bool _) rfl rfl) (mvb rfl (af rfl (ab (aa bk rfl) (af rfl (ab (ar au rfl (by exact (show _=some (Value.int .i64 s.term) from (hk2.from_ ag.rfl_).rd 3 rfl))) ?_)))))));refine af rfl (ab (aa bk rfl) (af rfl (ab (ar au rfl (by exact (show _=some (Value.int .i64 s.term) from (hk3.from_ ag.rfl_).rd 3 rfl))) ?_)));refine af rfl (ab (c9 (bW rfl rfl) (beq_self_eq_true _)) (ab (ay (v:=.bool _) rfl rfl) (mvb rfl (af rfl (ab (aa dA rfl) (af rfl (ab (ar au rfl (by exact (show _=some (Value.int .i64 s.vote) from (hk2.from_ ag.rfl_).rd 4 rfl))) ?_)))))));refine af rfl (ab (aa dA rfl) (af rfl (ab (ar au rfl (by exact (show _=some (Value.int .i64 s.vote) from (hk3.from_ ag.rfl_).rd 4 rfl))) ?_)));refine af rfl (ab (c9 (bW rfl rfl) (beq_self_eq_true _)) (ab (ay (v:=.bool _) rfl rfl) (mvb rfl (af rfl (ab (aa dc rfl) (af rfl (ab (ar au rfl (by exact (show _=some (Value.int .i64 s.leader) from (hk2.from_ ag.rfl_).rd 5 rfl))) ?_)))))));refine af rfl (ab (aa dc rfl) (af rfl (ab (ar au rfl (by exact (show _=some (Value.int .i64 s.leader) from (hk3.from_ ag.rfl_).rd 5 rfl))) ?_)));refine af rfl (ab (c9 (bW rfl rfl) (beq_self_eq_true _)) (ab (ay (v:=.bool _) rfl rfl) (mvb rfl (af rfl (ab (aa aY rfl) (af rfl (ab (bh (cs:=[.int .i64 s.b,.int .i64 s.t,.slice a.E s.es.length a.Ec]) cX cA rfl (nF (hk2.from_ ag.rfl_))) (af rfl ?_))))))));refine ab (aa aY rfl) (af rfl (ab (bh (cs:=[.int .i64 s.b,.int .i64 s.t,.slice b.E s.es.length b.Ec]) cX cA rfl (nF (hk3.from_ ag.rfl_))) (af rfl (aA pS (q_ s.b s.t a.E b.E s.es.length s.es.length a.Ec b.Ec s.es _ (ha.e.from_ ((ag.rfl_.next E2).next E3)) (hb.e.from_ ((ag.rfl_.next E2).next E3)) hl0) ?_))));rintro v50 w3 ⟨rfl,E50⟩;refine ab (ay (v:=.bool _) rfl rfl) (mvb rfl (af rfl (ab (aa cB rfl) (af rfl (ab (ar cu rfl (by exact (show _=some (Value.string s.snap) from (hk2.from_ (ag.rfl_.next E50)).rd 9 rfl))) ?_)))));refine af rfl (ab (aa cB rfl) (af rfl (ab (ar cu rfl (by exact (show _=some (Value.string s.snap) from (hk3.from_ (ag.rfl_.next E50)).rd 9 rfl))) ?_)));refine af rfl (ab (c9 (iM rfl rfl) (beq_self_eq_true _)) (ab (ay (v:=.bool _) rfl rfl) (mvb rfl (af rfl (ab (aa cj rfl) (af rfl (ab (ar au rfl (by exact (show _=some (Value.int .i64 s.commit) from (hk2.from_ (ag.rfl_.next E50)).rd 10 rfl))) ?_)))))));refine af rfl (ab (aa cj rfl) (af rfl (ab (ar au rfl (by exact (show _=some (Value.int .i64 s.commit) from (hk3.from_ (ag.rfl_.next E50)).rd 10 rfl))) ?_)));refine af rfl (ab (c9 (bW rfl rfl) (beq_self_eq_true _)) (ab (ay (v:=.bool _) rfl rfl) (mvb rfl (af rfl (ab (aa bM rfl) (af rfl (ab (ar au rfl (by exact (show _=some (Value.int .i64 s.elapsed) from (hk2.from_ (ag.rfl_.next E50)).rd 11 rfl))) ?_)))))));refine af rfl (ab (aa bM rfl) (af rfl (ab (ar au rfl (by exact (show _=some (Value.int .i64 s.elapsed) from (hk3.from_ (ag.rfl_.next E50)).rd 11 rfl))) ?_)));refine af rfl (ab (c9 (bW rfl rfl) (beq_self_eq_true _)) (ab (ay (v:=.bool _) rfl rfl) (mvb rfl (af rfl (ab (aa cT rfl) (af rfl (ab (ar au rfl (by exact (show _=some (Value.int .i64 s.timeout) from (hk2.from_ (ag.rfl_.next E50)).rd 12 rfl))) ?_)))))));refine af rfl (ab (aa cT rfl) (af rfl (ab (ar au rfl (by exact (show _=some (Value.int .i64 s.timeout) from (hk3.from_ (ag.rfl_.next E50)).rd 12 rfl))) ?_)));refine af rfl (ab (c9 (bW rfl rfl) (beq_self_eq_true _)) (ab (ay (v:=.bool _) rfl rfl) (mvb rfl (af rfl (ab (aa cE rfl) (af rfl (ab (ar dk rfl (by exact (show _=some (Value.int .u64 s.seed) from (hk2.from_ (ag.rfl_.next E50)).rd 13 rfl))) ?_)))))));refine af rfl (ab (aa cE rfl) (af rfl (ab (ar dk rfl (by exact (show _=some (Value.int .u64 s.seed) from (hk3.from_ (ag.rfl_.next E50)).rd 13 rfl))) ?_)));refine af rfl (ab (c9 (bW rfl rfl) (beq_self_eq_true _)) (ab (ay (v:=.bool _) rfl rfl) (mvb rfl (af rfl (ab (aa bX rfl) (af rfl (ab (ar aL rfl (by exact (show _=some (Value.slice a.V s.votes.length a.Vc) from (hk2.from_ (ag.rfl_.next E50)).rd 14 rfl))) ?_)))))));refine af rfl (ab (aa bX rfl) (af rfl (ab (ar aL rfl (by exact (show _=some (Value.slice b.V s.votes.length b.Vc) from (hk3.from_ (ag.rfl_.next E50)).rd 14 rfl))) ?_)));refine af rfl (aA fN (jo a.V b.V a.Vc b.Vc s.votes _ (ha.v.1.from_ (((ag.rfl_.next E2).next E3).next E50)) (hb.v.1.from_ (((ag.rfl_.next E2).next E3).next E50)) hl1) ?_);rintro v92 w4 ⟨rfl,E92⟩;refine ab (ay (v:=.bool _) rfl rfl) (mvb rfl (af rfl (ab (aa br rfl) (af rfl (ab (ar aL rfl (by exact (show _=some (Value.slice a.X s.next.length a.Xc) from (hk2.from_ ((ag.rfl_.next E50).next E92)).rd 15 rfl))) ?_)))));refine af rfl (ab (aa br rfl) (af rfl (ab (ar aL rfl (by exact (show _=some (Value.slice b.X s.next.length b.Xc) from (hk3.from_ ((ag.rfl_.next E50).next E92)).rd 15 rfl))) ?_)));refine af rfl (aA fN (jo a.X b.X a.Xc b.Xc s.next _ (ha.x.1.from_ ((((ag.rfl_.next E2).next E3).next E50).next E92)) (hb.x.1.from_ ((((ag.rfl_.next E2).next E3).next E50).next E92)) hl2) ?_);rintro v99 w5 ⟨rfl,E99⟩;refine ab (ay (v:=.bool _) rfl rfl) (mvb rfl (af rfl (ab (aa bA rfl) (af rfl (ab (ar aL rfl (by exact (show _=some (Value.slice a.M s.mtch.length a.Mc) from (hk2.from_ (((ag.rfl_.next E50).next E92).next E99)).rd 16 rfl))) ?_)))));refine af rfl (ab (aa bA rfl) (af rfl (ab (ar aL rfl (by exact (show _=some (Value.slice b.M s.mtch.length b.Mc) from (hk3.from_ (((ag.rfl_.next E50).next E92).next E99)).rd 16 rfl))) ?_)));refine af rfl (aA fN (jo a.M b.M a.Mc b.Mc s.mtch _ (ha.m.1.from_ (((((ag.rfl_.next E2).next E3).next E50).next E92).next E99)) (hb.m.1.from_ (((((ag.rfl_.next E2).next E3).next E50).next E92).next E99)) hl3) ?_);rintro v106 w6 ⟨rfl,E106⟩;refine ab (ay (v:=.bool _) rfl rfl) (mvb rfl (af rfl (ab (aa bN rfl) (af rfl (ab (ar aL rfl (by exact (show _=some (Value.slice a.S s.sent.length a.Sc) from (hk2.from_ ((((ag.rfl_.next E50).next E92).next E99).next E106)).rd 17 rfl))) ?_)))));refine af rfl (ab (aa bN rfl) (af rfl (ab (ar aL rfl (by exact (show _=some (Value.slice b.S s.sent.length b.Sc) from (hk3.from_ ((((ag.rfl_.next E50).next E92).next E99).next E106)).rd 17 rfl))) ?_)));refine af rfl (aA fN (jo a.S b.S a.Sc b.Sc s.sent _ (ha.n.1.from_ ((((((ag.rfl_.next E2).next E3).next E50).next E92).next E99).next E106)) (hb.n.1.from_ ((((((ag.rfl_.next E2).next E3).next E50).next E92).next E99).next E106)) hl4) ?_);rintro v113 w7 ⟨rfl,E113⟩;refine ab (ay (v:=.bool _) rfl rfl) (mvb rfl (af rfl (ab (aa cq rfl) (af rfl (ab (ar au rfl (by exact (show _=some (Value.int .i64 s.round) from (hk2.from_ (((((ag.rfl_.next E50).next E92).next E99).next E106).next E113)).rd 18 rfl))) ?_)))));refine af rfl (ab (aa cq rfl) (af rfl (ab (ar au rfl (by exact (show _=some (Value.int .i64 s.round) from (hk3.from_ (((((ag.rfl_.next E50).next E92).next E99).next E106).next E113)).rd 18 rfl))) ?_)));refine af rfl (ab (c9 (bW rfl rfl) (beq_self_eq_true _)) (ab (ay (v:=.bool _) rfl rfl) (mvb rfl (af rfl (ab (aa bq rfl) (af rfl (ab (ar cI rfl (by exact (show _=some (Value.slice a.Q a.L.length a.Qc) from (hk2.from_ (((((ag.rfl_.next E50).next E92).next E99).next E106).next E113)).rd 19 rfl))) ?_)))))));refine af rfl (ab (aa bq rfl) (af rfl ?_));refine ab (ar cI rfl (by have h9:=(hk3.from_ (((((ag.rfl_.next E50).next E92).next E99).next E106).next E113)).rd 19 rfl;exact (show _=some (Value.slice b.Q a.L.length b.Qc) from by rw [hlb];exact h9))) ?_;refine af rfl (aA pR (mI a.Q b.Q a.Qc b.Qc a.L.length a.L b.L _ (ha.q.from_ (((((((ag.rfl_.next E2).next E3).next E50).next E92).next E99).next E106).next E113)) (hb.q.from_ (((((((ag.rfl_.next E2).next E3).next E50).next E92).next E99).next E106).next E113)) rfl hlb.symm (ha.r.trans hb.r.symm) (fun x hx=>(ha.k x hx).from_ (((((((ag.rfl_.next E2).next E3).next E50).next E92).next E99).next E106).next E113)) (fun x hx=>(hb.k x hx).from_ (((((((ag.rfl_.next E2).next E3).next E50).next E92).next E99).next E106).next E113)) (fun x hx=>hl6 _ (by rw [←ha.r];exact List.mem_map_of_mem hx)) (by omega)) ?_);rintro v127 w8 ⟨rfl,E127⟩;refine ab (ay (v:=.bool _) rfl rfl) (mvb rfl (af rfl (ab (aa cV rfl) (af rfl (ab (ar cu rfl (by exact (show _=some (Value.string s.part) from (hk2.from_ ((((((ag.rfl_.next E50).next E92).next E99).next E106).next E113).next E127)).rd 20 rfl))) ?_)))));refine af rfl (ab (aa cV rfl) (af rfl (ab (ar cu rfl (by exact (show _=some (Value.string s.part) from (hk3.from_ ((((((ag.rfl_.next E50).next E92).next E99).next E106).next E113).next E127)).rd 20 rfl))) ?_)));refine af rfl (ab (c9 (iM rfl rfl) (beq_self_eq_true _)) (ab (ay (v:=.bool _) rfl rfl) (mvb rfl (af rfl (ab (aa cU rfl) (af rfl (ab (ar au rfl (by exact (show _=some (Value.int .i64 s.partOf) from (hk2.from_ ((((((ag.rfl_.next E50).next E92).next E99).next E106).next E113).next E127)).rd 21 rfl))) ?_)))))));refine af rfl (ab (aa cU rfl) (af rfl (ab (ar au rfl (by exact (show _=some (Value.int .i64 s.partOf) from (hk3.from_ ((((((ag.rfl_.next E50).next E92).next E99).next E106).next E113).next E127)).rd 21 rfl))) ?_)));refine af rfl (ab (c9 (bW rfl rfl) (beq_self_eq_true _)) (ab (ay (v:=.bool _) rfl rfl) (asb rfl (ak (ai (aG (bK (v:=.bool _) rfl rfl (⟨rfl,((((((((ag.rfl_.next E2).next E3).next E50).next E92).next E99).next E106).next E113).next E127)⟩))))))))
theorem nr:fz prog 25=some true:=by kernel_rfl
theorem jJ:cr prog 25=some 3:=by kernel_rfl
theorem dv:bo prog 44 0=some 0:=by kernel_rfl
theorem nq:aD prog 16=true:=by kernel_rfl
theorem nm:(prog.underlying 23).isSome=true:=by kernel_rfl
theorem oA:prog.underlying 3=some (.int .i64):=by kernel_rfl
theorem gQ:∀ (a0:Int) (a1:Int) (a2:Int),prog.built 32 [(0,.int .i64 a0),(1,.int .i64 a1),(11,.int .u64 a2)]=some #[.int .i64 a0,.int .i64 a1,.int .i64 0,.int .i64 0,.int .i64 0,.int .i64 0,.int .i64 0,.int .i64 0,.slice none 0 0,.string ⟨#[]⟩,.int .i64 0,.int .i64 0,.int .i64 0,.int .u64 a2,.slice none 0 0,.slice none 0 0,.slice none 0 0,.slice none 0 0,.int .i64 0,.slice none 0 0,.string ⟨#[]⟩,.int .i64 0]:=by intros;kernel_rfl
theorem kU:∀ (a0:Int) (a1:Int) (a2:Int) (a3:Int) (a4:Int) (a5:Int) (a6:Int) (a7:Int) (a8:Option Addr) (a9 a10:Nat) (a11:ByteArray) (a12:Int) (a13:Int) (a14:Int) (a15:Int) (a16:Option Addr) (a17 a18:Nat) (a19:Option Addr) (a20 a21:Nat) (a22:Option Addr) (a23 a24:Nat) (a25:Option Addr) (a26 a27:Nat) (a28:Int) (a29:Option Addr) (a30 a31:Nat) (a32:ByteArray) (a33:Int),prog.built 44 [(0,.agg #[.int .i64 a0,.int .i64 a1,.int .i64 a2,.int .i64 a3,.int .i64 a4,.int .i64 a5,.int .i64 a6,.int .i64 a7,.slice a8 a9 a10,.string a11,.int .i64 a12,.int .i64 a13,.int .i64 a14,.int .u64 a15,.slice a16 a17 a18,.slice a19 a20 a21,.slice a22 a23 a24,.slice a25 a26 a27,.int .i64 a28,.slice a29 a30 a31,.string a32,.int .i64 a33])]=some #[.int .i64 a0,.int .i64 a1,.int .i64 a2,.int .i64 a3,.int .i64 a4,.int .i64 a5,.int .i64 a6,.int .i64 a7,.slice a8 a9 a10,.string a11,.int .i64 a12,.int .i64 a13,.int .i64 a14,.int .u64 a15,.slice a16 a17 a18,.slice a19 a20 a21,.slice a22 a23 a24,.slice a25 a26 a27,.int .i64 a28,.slice a29 a30 a31,.string a32,.int .i64 a33,.slice none 0 0]:=by intros;kernel_rfl
theorem ox:aD prog 9=true:=by kernel_rfl
theorem np:(eY prog 22).isSome=true:=by kernel_rfl
theorem ns:eY prog 22=some (25,3):=by kernel_rfl
theorem nn:f_ prog 25=some (.agg #[.int .i64 0,.int .i64 0,.int .u64 0]):=by kernel_rfl
theorem dQ:bo prog 25 1=some 1:=by kernel_rfl
theorem ez:bo prog 25 0=some 0:=by kernel_rfl
theorem gP:bo prog 25 2=some 2:=by kernel_rfl
theorem oz:aD prog 4=true:=by kernel_rfl
theorem oy:aD prog 7=true:=by kernel_rfl
theorem kq:aD prog 8=true:=by kernel_rfl
abbrev mR:Ty:=.pr (.int .i64) (.pr (.int .i64) (.pr (.int .u64) .unit))
theorem sa {w:World} {b o:Nat} {x:mR.den} (h:mR.At w (fun j=>w.cell? ⟨b,o+j,none⟩) x):w.rangeAt b o [.int .i64 x.1,.int .i64 x.2.1,.int .u64 x.2.2.1]:=fun j v hv=>by
 obtain ⟨g0,g1,g2,_⟩:=h
 match j,hv with
 |0,hv=>cases hv;exact g0.1
 |1,hv=>cases hv;exact g1.1
 |2,hv=>cases hv;exact g2.1
 |j+3,hv=>simp at hv
def gH (id n seed:Int):Rf:=if dH id n then gI id n seed else zR
def ll (id n:Int):Int:=if dH id n then 0 else 1
theorem rN (id n seed:Int) (w:World):Rt prog 5 [.int .i64 id,.int .i64 n,.int .u64 seed] w fun v w'=>v=.tuple #[.agg (rfV (gH id n seed) a0).toArray,.int .i64 (ll id n)]∧ag w w':=
 (nI id n seed w).mono fun v w' h=>⟨by
  unfold gH ll;rcases h.1 with ⟨h1,h2⟩ | ⟨h1,h2⟩
  ·rw [if_pos h1,if_pos h1];exact h2
  ·rw [if_neg h1,if_neg h1];exact h2,h.2⟩
theorem kF (id n seed:Int):gH id n seed=gI id n seed∨gH id n seed=zR:=by
 unfold gH;split
 ·exact .inl rfl
 ·exact .inr rfl
theorem rO {w:World} {id n seed:Int} {s:Rf} (h:s=gI id n seed∨s=zR):gu w s a0:=by
 rcases h with rfl | rfl
 ·exact qI
 ·exact aS.rd (aS.zero (w:=w) (tag:=fun _=>8))
theorem rM {id n seed:Int} {s:Rf} (h:s=gI id n seed∨s=zR):s.es.length≤1000000∧s.votes.length≤1000000∧s.next.length≤1000000∧s.mtch.length≤1000000∧s.sent.length≤1000000∧s.reads.length≤1000000∧∀ q∈s.reads,q.acks.length≤1000000:=by
 rcases h with rfl | rfl <;> exact ⟨Nat.zero_le _,Nat.zero_le _,Nat.zero_le _,Nat.zero_le _,Nat.zero_le _,Nat.zero_le _,fun q hq=>by cases hq⟩
theorem qx (s:Int):IntKind.i64.wrap ((nx s).tmod 10)=bl s 10:=by
 rw [r8,IntKind.wrap_i64];unfold wrap64
 first | rfl | omega
theorem pC (T g:Nat) (s:Rf) (a:Ra) (R:List Value) (w:World) (hb:Blk w g T (rfV s a++R).toArray) :
 Rt prog 9 [.pointer (some ⟨g,0,none⟩)] w (fun v w'=>v=.tuple #[]∧Blk w' g T (rfV (dP s) a++R).toArray∧Chg (fun k=>k=g) w w'):=by
 have hbl:=lH s.seed;refine enter (n:=28) Try.func9 rfl rfl rfl (an (ah (mvp rfl (mvp rfl (ab (ao rfl) (ab (aa dv rfl) (ab (aa cE rfl) (ab (ar dk rfl (by exact (show _=some (Value.int .u64 s.seed) from bB (hb.from_ ag.rfl_) 13 rfl))) ?_))))))));refine aA nq (oY s.seed _) ?_;rintro v8 w1 ⟨rfl,rfl⟩;refine ab (ao rfl) (ab (aa dv rfl) (ab (aa cE rfl) (bm (s':=({ s with seed:=nx s.seed }:Rf)) (a':=a) (v:=.int _ _) iy rfl rfl rfl (hb) (by exact ⟨by decide,rfl⟩) ?_)));intro w2 O0a P0a;have hC1:Chg (fun k=>k=g) w w2:=(Chg.rfl_ (w:=w)).only O0a rfl;refine ak (ai (an (ah (mvp rfl (mvp rfl (ab (ao rfl) (ab (aa dv rfl) (ab (aa cE rfl) (ab (ar dk rfl (by exact (show _=some (Value.int .u64 (nx s.seed)) from bB (P0a.from_ (ag.rfl_ (a:=w2))) 13 rfl))) ?_)))))))));refine ab (qT rfl rfl (by omega)) (ab (p_ nm oA rfl) (dJ (t:=19) (v:=.int _ _) (v':=.int .i64 (bl s.seed 10)) rfl (by exact congrArg (Value.int .i64) (qx _)) ?_));refine ab (cd rfl rfl (by omega)) (ab (ao rfl) (ab (aa dv rfl) ?_));have hB1:ag _ w2:=(ag.rfl_ (a:=w2));refine ab (aa cT rfl) (bm (s':=({ s with seed:=nx s.seed,timeout:=10+bl s.seed 10 }:Rf)) (a':=a) (v:=.int _ _) aW rfl rfl rfl ((P0a.from_ (ag.rfl_ (a:=w2)))) (by exact ⟨by decide,rfl⟩) ?_);intro w3 O1a P1a;have hC2:=(hC1.next (ag.toChg hB1)).only O1a rfl;refine ak (ai (ah (mvp rfl (ab (ao rfl) (ab (aa dv rfl) (ab (aa bM rfl) ?_))))));have hB2:ag _ w3:=(ag.rfl_ (a:=w3));refine bm (s':=dP s) (a':=a) (v:=.int _ _) aW rfl rfl rfl ((P1a.from_ (ag.rfl_ (a:=w3)))) (by exact ⟨by decide,rfl⟩) ?_;intro w4 O2a P2a;have hC3:=(hC2.next (ag.toChg hB2)).only O2a rfl;refine ak (cN (fa rfl (⟨rfl,P2a,hC3⟩)))
theorem n7 (id n seed:Int) (w:World) :
 Rt prog 4 [.int .i64 id,.int .i64 n,.int .u64 seed] w (fun v w'=>v=.agg (rfV (gI id n seed) a0).toArray∧ag w w'):=by
 refine enter (n:=20) Try.func4 rfl rfl rfl (an (ah (dg eF ?_)));intro b6 w1 E6 hb6 hk6;have hg6:w.heap.size≤b6:=Nat.le_of_eq hb6.symm;refine ak (ai (an (ah (mvi rfl (mvi rfl (mvi rfl (ab (c8 (l:=[(0,.tmp 8),(1,.tmp 9),(11,.tmp 10)]) (gQ _ _ _)) (ab (c8 (l:=[(0,.tmp 11)]) (kU _ _ _ _ _ _ _ _ _ _ _ _ _ _ _ _ _ _ _ _ _ _ _ _ _ _ _ _ _ _ _ _ _ _)) ?_))))))));have hM13:ag _ w1:=ag.rfl_;have hz13:=((ag.rfl_.next E6)).size;refine dw (v:=.agg _) rfl ?_;intro b13 w2 E13 hb13 hk13;have hg13:w.heap.size≤b13:=by omega
 have hk6b:=hk6.from_ (hM13.next E13);have h613:b6≠b13:=by have:=(hk6.from_ hM13).lt;omega
 have hb13z:=hb13;have hb13:Blk w2 b13 44 (rfV ({ zR with id:=id,nodes:=n,seed:=seed }:Rf) a0++[Value.slice none 0 0]).toArray:=hk13;refine asp rfl (ak (ai (an (ah (mvp rfl ?_)))));have hB13:ag w w2:=((ag.rfl_.next E6).next E13);refine aA ox (pC 44 b13 { zR with id:=id,nodes:=n,seed:=seed } a0 [Value.slice none 0 0] _ hb13) ?_;rintro v15 w3 ⟨rfl,hb15,hC15⟩;have hk6d:=hk6b.chg (U:=fun k=>k=b13) hC15 h613;refine ak (ai (an (ah (mvp rfl (ab (ao rfl) (ab (aa dv rfl) (ab (bh (cs:=rfV (gI id n seed) a0) a_ aQ rfl (mr (hb15.from_ ag.rfl_))) (dp (vs:=[_,_,_,_,_,_,_,_,_,_,_,_,_,_,_,_,_,_,_,_,_,_]) aQ rfl rfl (by simp [Value.oneCell']) ((hk6d.from_ ag.rfl_)) rfl ?_))))))));intro w4 O3 P3;refine ak (ai (aG (qH rfl (fh (cs:=[_,_,_,_,_,_,_,_,_,_,_,_,_,_,_,_,_,_,_,_,_,_]) a_ aQ rfl (by exact P3.whole)) ?_)));exact ⟨rfl,((hB13.chg hC15 (fun k hk=>by rw [show k=b13 from hk];exact hg13)).only O3 (hg6))⟩
theorem qj (A:Option Addr) (c:Nat) (xs:List mR.den) (w:World) (_:xs.length*mR.bytes≤140737488351232) (hx:0<xs.length→∃ b o,A=some ⟨b,o,none⟩∧∀ (i:Nat) (hi:i<xs.length),mR.At w (fun j=>w.cell? ⟨b,o+i*mR.size+j,none⟩) xs[i]) :
 Rt prog 3 [.slice A xs.length c] w (fun v w'=>v=.bool true∧ag w w'):=by
 refine enter (n:=71) Try.func3 rfl rfl rfl (an (ah (asb rfl (ak (ai (an (an (ah (asi rfl (ak (ai (bd (df (G:=Nat) (2::4::5::6::7::8::9::10::11::12::13::14::15::16::17::18::19::20::21::22::23::24::25::26::27::28::29::30::31::32::33::34::35::36::37::38::39::40::41::42::43::44::45::46::47::48::49::50::51::52::53::54::55::56::57::58::59::60::61::62::63::64::65::66::67::68::69::[]) (fun k=>[(3,.int .i64 (k:Nat))]) (fun k w'=>k≤xs.length∧ag w w') (fun k=>xs.length-k) (0) ⟨rfl,trivial⟩ ?_ ?_)))))))))))))
 ·exact ⟨Nat.zero_le _,ag.rfl_⟩
 rintro k ρ1 w1 ⟨hk,hB⟩;refine an (an (ah (mvi rfl (mvs rfl (ab (bU np rfl) (ab (cO rfl rfl) (mvb rfl (rz (t:=13) rfl (fun Q2=>?_) (fun Q2=>?_)))))))))
 ·refine af rfl (mvi rfl (af rfl (ab (cO rfl rfl) (ab (ay (v:=.bool _) rfl rfl) (ak (ai (r7 rfl (fun Q3=>?_) (fun Q3=>?_))))))))
  ·have hkx:k<xs.length:=by omega
   obtain ⟨ba,oa,rfl,hcs⟩:=hx (by omega);have hrk:=sa (hcs k hkx);obtain ⟨id,hid⟩:∃ id:Int,id=xs[k].1:=⟨_,rfl⟩;obtain ⟨n,hn⟩:∃ n:Int,n=xs[k].2.1:=⟨_,rfl⟩;obtain ⟨seed,hseed⟩:∃ seed:Int,seed=xs[k].2.2.1:=⟨_,rfl⟩;rw [←hid,←hn,←hseed] at hrk;refine aO (ai (an (bd (an (ah (mvs rfl (mvi rfl (ab (cJ ns rfl rfl (by omega)) (ab (bh (cs:=[.int .i64 id,.int .i64 n,.int .u64 seed]) nr jJ rfl (gk hB hrk)) (dg nn ?_))))))))));intro b4 w4 E4 hb4 hk4;have hg4:w.heap.size≤b4:=by rw [hb4];exact (hB).size
   refine dp (vs:=[_,_,_]) jJ rfl rfl (by simp [Value.oneCell']) (hk4) rfl ?_;intro w5 O4 P4;refine ak (ai (an (ah (asi rfl (ak (ai (an (ah (dg eF ?_)))))))));intro b6 w6 E6 hb6 hk6;have hg6:w.heap.size≤b6:=by rw [hb6];exact (((hB.next E4).only O4 (hg4))).size
   have h46:b4≠b6:=by have:=hk6.lt;have:=P4.lt;omega
   have hP4:=P4.from_ E6;refine ak (ai (rf (G:=Unit) [23,24,25,26,27,28,29,30,31,32,33,34,35,36,37,38,39,40,41,42,43,44,45,46,47,48,49] (fun _=>[(5,.int .i64 (ll id n))]) (fun _ w'=>Blk w' b6 32 (rfV (gH id n seed) a0).toArray∧Blk w' b4 25 #[.int .i64 id,.int .i64 n,.int .u64 seed]∧ag w w') ?_ ?_))
   ·refine an (ah (ab (aa dQ rfl) (ab (ar au rfl (by exact (show _=some (Value.int .i64 n) from (hP4.from_ ag.rfl_).rd 1 rfl))) ?_)));refine ab (i_ rfl rfl) (mvb rfl (rz (t:=26) rfl (fun Q7=>?_) (fun Q7=>?_)))
    ·refine af rfl (ab (aa dQ rfl) (af rfl (ab (ar au rfl (by exact (show _=some (Value.int .i64 n) from (hP4.from_ ag.rfl_).rd 1 rfl))) ?_)));refine af rfl (ab (gj rfl rfl) (ab (ay (v:=.bool _) rfl rfl) (mvb rfl (rz (t:=31) rfl (fun Q8=>?_) (fun Q8=>?_)))))
     ·refine af rfl (ab (aa ez rfl) (af rfl (ab (ar au rfl (by exact (show _=some (Value.int .i64 id) from (hP4.from_ ag.rfl_).rd 0 rfl))) ?_)));refine af rfl (ab (i_ rfl rfl) (ab (ay (v:=.bool _) rfl rfl) (mvb rfl (rz (t:=36) rfl (fun Q9=>?_) (fun Q9=>?_)))))
      ·refine af rfl (ab (aa ez rfl) (af rfl (ab (ar au rfl (by exact (show _=some (Value.int .i64 id) from (hP4.from_ ag.rfl_).rd 0 rfl))) ?_)));refine af rfl (ab (aa dQ rfl) (af rfl (ab (ar au rfl (by exact (show _=some (Value.int .i64 n) from (hP4.from_ ag.rfl_).rd 1 rfl))) ?_)));refine af rfl (ab (gj rfl rfl) (ab (ay (v:=.bool _) rfl rfl) (ak (ai (r7 rfl (fun Q10=>?_) (fun Q10=>?_))))))
       ·refine ah (ab (aa ez rfl) (ab (ar au rfl (by exact (show _=some (Value.int .i64 id) from (hP4.from_ ag.rfl_).rd 0 rfl))) ?_));refine ab (aa dQ rfl) (ab (ar au rfl (by exact (show _=some (Value.int .i64 n) from (hP4.from_ ag.rfl_).rd 1 rfl))) ?_);refine ab (aa gP rfl) (ab (ar dk rfl (by exact (show _=some (Value.int .u64 seed) from (hP4.from_ ag.rfl_).rd 2 rfl))) ?_);refine aA oz (n7 id n seed _) ?_;rintro v49 w11 ⟨rfl,E49⟩;have hM8:ag _ w11:=(ag.rfl_.next E49);refine dp (vs:=[_,_,_,_,_,_,_,_,_,_,_,_,_,_,_,_,_,_,_,_,_,_]) aQ rfl rfl (by simp [Value.oneCell']) ((hk6.from_ (ag.rfl_.next E49))) rfl ?_;intro w12 O8 P8;replace hP4:=(hP4.from_ hM8).only O8 h46;refine asi rfl (ak ?_);refine cy (()) ⟨aZ (by unfold ll;rw [if_pos (by unfold dH;omega)]),trivial⟩ (by (iterate 31 refine bu rfl ?_);exact bT) ?_;exact ⟨by unfold gH;rw [if_pos (by unfold dH;omega)];exact P8.from_ ag.rfl_,hP4.from_ ag.rfl_,(((((hB.next E4).only O4 (hg4)).next E6).next E49).only O8 (hg6))⟩
       refine aO ?_;refine cy (()) ⟨aZ (by unfold ll;rw [if_neg (by unfold dH;omega)]),trivial⟩ (by (iterate 23 refine bu rfl ?_);exact bT) ?_;exact ⟨by unfold gH;rw [if_neg (by unfold dH;omega)];exact hk6.from_ ag.rfl_,hP4.from_ ag.rfl_,(((hB.next E4).only O4 (hg4)).next E6)⟩
      refine aj rfl rfl (aj rfl rfl (aj rfl rfl (aj rfl rfl (aj rfl rfl (ab (aF (v:=.bool _) rfl rfl) (ak (ai (cS rfl (aO ?_)))))))));refine cy (()) ⟨aZ (by unfold ll;rw [if_neg (by unfold dH;omega)]),trivial⟩ (by (iterate 23 refine bu rfl ?_);exact bT) ?_;exact ⟨by unfold gH;rw [if_neg (by unfold dH;omega)];exact hk6.from_ ag.rfl_,hP4.from_ ag.rfl_,(((hB.next E4).only O4 (hg4)).next E6)⟩
     refine aj rfl rfl (aj rfl rfl (aj rfl rfl (ab (aF (v:=.bool _) rfl rfl) (mvb rfl (aj rfl rfl (aj rfl rfl (aj rfl rfl (aj rfl rfl ?_))))))));refine aj rfl rfl (ab (aF (v:=.bool _) rfl rfl) (ak (ai (cS rfl (aO ?_)))));refine cy (()) ⟨aZ (by unfold ll;rw [if_neg (by unfold dH;omega)]),trivial⟩ (by (iterate 22 refine bu rfl ?_);exact bT) ?_;exact ⟨by unfold gH;rw [if_neg (by unfold dH;omega)];exact hk6.from_ ag.rfl_,hP4.from_ ag.rfl_,(((hB.next E4).only O4 (hg4)).next E6)⟩
    refine aj rfl rfl (aj rfl rfl (aj rfl rfl (ab (aF (v:=.bool _) rfl rfl) (mvb rfl (aj rfl rfl (aj rfl rfl (aj rfl rfl (ab (aF (v:=.bool _) rfl rfl) ?_))))))));refine mvb rfl (aj rfl rfl (aj rfl rfl (aj rfl rfl (aj rfl rfl (aj rfl rfl (ab (aF (v:=.bool _) rfl rfl) (ak (ai (cS rfl ?_)))))))));refine aO ?_;refine cy (()) ⟨aZ (by unfold ll;rw [if_neg (by unfold dH;omega)]),trivial⟩ (by (iterate 21 refine bu rfl ?_);exact bT) ?_;exact ⟨by unfold gH;rw [if_neg (by unfold dH;omega)];exact hk6.from_ ag.rfl_,hP4.from_ ag.rfl_,(((hB.next E4).only O4 (hg4)).next E6)⟩
   rintro u ρ13 hw9 ⟨hW,hP4,hB⟩;refine an (ah (ab (aa ez rfl) (ab (ar au rfl (by exact (show _=some (Value.int .i64 id) from (hP4.from_ ag.rfl_).rd 0 rfl))) ?_)));refine ab (aa dQ rfl) (ab (ar au rfl (by exact (show _=some (Value.int .i64 n) from (hP4.from_ ag.rfl_).rd 1 rfl))) ?_);refine ab (aa gP rfl) (ab (ar dk rfl (by exact (show _=some (Value.int .u64 seed) from (hP4.from_ ag.rfl_).rd 2 rfl))) ?_);refine aA jC (rN id n seed _) ?_;rintro v57 w14 ⟨rfl,E57⟩;refine mvt rfl (ab (aM rfl rfl) (ab (aM rfl rfl) ?_));have hz7:=((ag.rfl_.next E57)).size;refine dg eF ?_;intro b7 w15 E7 hb7 hk7;have hg7:w.heap.size≤b7:=by rw [hb7];exact ((hB.next E57)).size
   have h47:b4≠b7:=by have:=hz7;have:=hP4.lt;omega
   have h67:b6≠b7:=by have:=hz7;have:=hW.lt;omega
   replace hP4:=hP4.from_ ((ag.rfl_.next E57).next E7);replace hW:=hW.from_ ((ag.rfl_.next E57).next E7);refine dp (vs:=[_,_,_,_,_,_,_,_,_,_,_,_,_,_,_,_,_,_,_,_,_,_]) aQ rfl rfl (by simp [Value.oneCell']) (hk7) rfl ?_;intro w16 O9 P9;replace hP4:=hP4.only O9 h47;replace hW:=hW.only O9 h67;refine asi rfl (ak (ai (an (ah (mvi rfl (aA gq (ji _ _) ?_))))));rintro v61 w17 ⟨rfl,rfl⟩;refine mvi rfl (ab (gE (dK rfl rfl) (bne_self_eq_false _)) (mvb rfl (af rfl (ab (bh (cs:=rfV (gH id n seed) a0) a_ aQ rfl ((P9.from_ ag.rfl_).whole)) (af rfl (ab (bh (cs:=rfV (gH id n seed) a0) a_ aQ rfl ((hW.from_ ag.rfl_).whole)) (af rfl (aA oy (oi (gH id n seed) a0 a0 _ (rO (kF _ _ _)) (rO (kF _ _ _)) (rM (kF _ _ _))) ?_))))))));rintro v67 w18 ⟨rfl,E67⟩;refine af rfl (ab (gE (di rfl) rfl) (ab (aF (v:=.bool _) rfl rfl) (ak (ai (cS rfl (aO (cx (ai (ah (mvi rfl (ab (cL (b:=1) rfl rfl (by omega)) (asi rfl ?_))))))))))));refine ak ?_;refine cy (k+1) ⟨(by first | rfl | (refine aZ ?_;omega)),trivial⟩ (by (iterate 137 refine bu rfl ?_);exact bT) ⟨?_,?_⟩
   ·exact ⟨by omega,((((hB.next E57).next E7).only O9 (hg7)).next E67)⟩
   ·omega
  refine cF (bg (bg (cf (ai (an (ah (aA kq (kV _) ?_)))))));rintro v70 w19 ⟨rfl,E70⟩;refine asb rfl (ak (ai (aG (bK (v:=.bool _) rfl rfl (⟨rfl,(hB.next E70)⟩)))))
 refine aj rfl rfl (aj rfl rfl (ab (aF (v:=.bool _) rfl rfl) (ak (ai (cS rfl (cF (bg (bg (cf (ai (an (ah (aA kq (kV _) ?_)))))))))))));rintro v70 w20 ⟨rfl,E70⟩;refine asb rfl (ak (ai (aG (bK (v:=.bool _) rfl rfl (⟨rfl,(hB.next E70)⟩)))))
theorem jK (os:Os) (started:os.Started) (H:Type) (enc:TypeId×Value→H) :
 ReturnsInHanded {} Try.checked os 3 .any (Rows.raftNewSpec.pre6 enc prog Try.f3 Rows.raftNewRow.domain false) (Rows.raftNewSpec.post enc prog Try.f3 false true false false):=by
 refine returnsInHanded_of_change_sized (C:=Try.checked) Try.own started (by kernel_rfl) Try.func3
  (ChangeSpec.witness6 (enc:=enc) (C:=Try.checked) false ⟨#[],#[.slice none 0 0],[]⟩ 8 (by kernel_rfl) (by kernel_rfl) (by kernel_rfl) (by kernel_rfl)) ?_
 intro W base args ds gs before hval hW _ hsz _;exact pn 3 Try.f3 22 4 Rows.raftNewSpec Try.params3 (by kernel_rfl) Try.underlying4 rfl (fun _=>rfl) (by kernel_rfl) (dT_ (by kernel_rfl)) (pZ mR (by kernel_rfl) qj) W base args ds gs before hval hW hsz
theorem RaftNew_holds:Rows.RaftNewSaid:=
 OpenClaim.holds_of_wide 3 Try.f3 rfl rfl rfl rfl rfl rfl rfl ⟨rfl,rfl,rfl,rfl,rfl⟩ rfl rfl rfl rfl rfl (by kernel_rfl) Try.func3 (by kernel_rfl)
  (dT_ (by kernel_rfl)) (by unfold Func.isWrapper;first | (rw [if_pos (by decide+kernel)];kernel_rfl) | (rw [if_neg (by decide+kernel)];exact ⟨rfl,rfl⟩))
  (fun os started H enc _=>jK os started H enc)
end Go.Proofs.Ytkpooenofjdpmaa
