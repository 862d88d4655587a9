/- The law WalDrops. -/
import Derived.Test.YtaohnmneccbljaaGreatDoorSlWlLawM6

set_option maxRecDepth 100000
set_option maxHeartbeats 4000000
namespace Go.Proofs.YtaohnmneccbljaaGreatDoor
open Go.Proofs.Tryz (prog)
open Go.RowKit
open Go.ChangeShapes Go.WideShapes Go.ChangeAt
theorem Cx:∀ (a0:Int) (a1:Int),prog.built 49 [(0,.int .i64 a0),(1,.int .i64 a1),(2,.string ⟨#[100]⟩)]=some #[.int .i64 a0,.int .i64 a1,.string ⟨#[100]⟩]:=by intros;kernel_rfl
theorem Cv:∀ (a0:Option Addr) (a1 a2:Nat),prog.built 36 [(0,.int .i64 4),(1,.int .i64 2),(2,.slice a0 a1 a2)]=some #[.int .i64 4,.int .i64 2,.slice a0 a1 a2]:=by intros;kernel_rfl
theorem Cw:prog.built 49 [(0,.int .i64 21),(1,.int .i64 8)]=some #[.int .i64 21,.int .i64 8,.string ⟨#[]⟩]:=by kernel_rfl
theorem Cs:prog.built 49 [(0,.int .i64 21),(1,.int .i64 9)]=some #[.int .i64 21,.int .i64 9,.string ⟨#[]⟩]:=by kernel_rfl
theorem Cu:∀ (a0:Option Addr) (a1 a2:Nat),prog.built 36 [(0,.int .i64 20),(1,.int .i64 9),(2,.slice a0 a1 a2)]=some #[.int .i64 20,.int .i64 9,.slice a0 a1 a2]:=by intros;kernel_rfl
structure WD (w0 w:World) (N b1:Nat) (cs:Array Value) (U:Nat→Prop) (p d g:Nat) (recs:List Rc) (M:Lg) (qs:Bool) (E:Option Addr) (n c:Nat) (es:List Ent):Prop where
 wt:WAt w U p d g recs M qs
 u:∀ x,U x→N≤x
 pN:N≤p
 P:Blk w b1 25 cs
 hb:b1<N
 hE:bm w (.slice E n c) es
 fE:kg w U p E
 hN:w0.heap.size≤N
 f:ag w0 w
section
variable {w0 w w':World} {N b1:Nat} {cs:Array Value} {U:Nat→Prop} {p d g:Nat} {recs:List Rc} {M:Lg} {qs:Bool} {E:Option Addr} {n c:Nat} {es:List Ent}
theorem WD.from_ (h:WD w0 w N b1 cs U p d g recs M qs E n c es) (hF:ag w w'):WD w0 w' N b1 cs U p d g recs M qs E n c es:=
 ⟨h.wt.from_ hF,h.u,h.pN,h.P.from_ hF,h.hb,h.hE.from_ hF,fun z hz=>⟨Nat.lt_of_lt_of_le (h.fE z hz).1 hF.size,(h.fE z hz).2⟩,h.hN,h.f.next hF⟩
theorem WD.step {KB:Nat} {M':Lg} {qs':Bool} (h:WD w0 w N b1 cs U p d g recs M qs E n c es) (hx:∃ (g':Nat) (recs':List Rc),g'≤g+1∧(ax (sG g') recs').1.length≤KB∧WEx w w' U p d g' recs' M' qs') (hC:Chg (fun k=>U k∨k=p) w w') :
 ∃ (V:Nat→Prop) (g':Nat) (recs':List Rc),g'≤g+1∧(ax (sG g') recs').1.length≤KB∧WD w0 w' N b1 cs V p d g' recs' M' qs' E n c es:=by
 obtain ⟨g',recs',b1',b2,V,b4,b5,b6'⟩:=hx;have hp:=h.wt.plt;have hpN:=h.pN;have hbN:=h.hb;have hz:=hC.size;refine ⟨V,g',recs',b1',b2,b5,fun x hx=>(b4 x hx).elim (h.u x) fun e=>by omega,h.pN,h.P.chg hC (fun e=>by rcases e with e | e;have:=h.u _ e;omega;omega),h.hb,h.hE.chg hC (fun z hz e=>by have:=h.fE z hz;rcases e with e | e;exact this.2.1 e;exact this.2.2 e),fun z hz=>?_,h.hN,h.f.chg hC fun k hk=>?_⟩
 ·have:=h.fE z hz;exact ⟨by omega,fun e=>(b4 z e).elim this.2.1 fun e=>by omega,this.2.2⟩
 ·have:=h.hN;rcases hk with hk | hk
  ·have:=h.u k hk;omega
  ·omega
end
def eD (k:Nat):Ent:=⟨((k+1:Nat):Int),(((k+1+1)/2:Nat):Int),⟨#[100]⟩⟩
def Cz:List Ent:=(List.range 10).map eD
abbrev e21:Ent:=⟨21,9,⟨#[]⟩⟩
abbrev CV:Ent:=⟨21,8,⟨#[]⟩⟩
abbrev dM1:Lg:=⟨0,0,Cz⟩
abbrev dM2:Lg:=⟨4,2,Cz.drop 4⟩
abbrev dM3:Lg:=⟨4,2,(Cz.drop 4).take 4⟩
abbrev dM4:Lg:=⟨20,9,[]⟩
abbrev dM5:Lg:=⟨20,9,[e21]⟩
theorem CO:cG Cz (bo lg0.b lg0.t lg0.es).1 (bo lg0.b lg0.t lg0.es).2=true:=by decide
theorem CJ:cu Cz=320:=by decide
theorem CU:(Cz.take 8).drop 4=(Cz.drop 4).take 4:=rfl
theorem CR:eC dM1 4 2=dM2:=by unfold eC;rw [if_neg (by decide)];rfl
theorem CQ:eC dM3 20 9=dM4:=by unfold eC;rw [if_pos (by decide)]
theorem CY:32+cu dM2.es≤2000:=by decide
theorem CX:32+cu (dM2.es.take 4)≤3000:=by decide
theorem CP:cu [e21]=32:=by decide
theorem C7:¬ mh dM1 4 1:=by
 rintro ⟨_,h | ⟨k,hk,hi,ht⟩⟩
 ·revert h;decide
 ·have hi:(4:Int)=0+(k:Int)+1:=hi;obtain rfl:k=3:=by omega
  have h1:(dM1.es[3]'hk).t=1:=ht;have h2:(dM1.es[3]'hk).t=2:=rfl;omega
theorem C6:mh dM1 4 2:=⟨by unfold okD;decide,.inr ⟨3,by decide,by decide,by decide⟩⟩
theorem C5:¬ mh dM2 4 2:=fun h=>absurd h.1.1 (by decide)
theorem C4:¬ mh dM3 20 1:=fun h=>absurd h.1.2.2.1 (by decide)
theorem C3:mh dM3 20 9:=⟨by unfold okD;decide,.inl (by decide)⟩
theorem no9:cG (Cz.drop 9) (bo dM3.b dM3.t dM3.es).1 (bo dM3.b dM3.t dM3.es).2=false:=by decide
theorem C0:cG [CV] (bo dM4.b dM4.t dM4.es).1 (bo dM4.b dM4.t dM4.es).2=false:=by decide
theorem CZ:cG [e21] (bo dM4.b dM4.t dM4.es).1 (bo dM4.b dM4.t dM4.es).2=true:=by decide
theorem CG (A B:Option Addr) (ca cb m:Nat) (L:List Aw) (w:World) (_:wx w A m L) (hT:cO w) :
 Rt prog 4 [.agg #[.slice A L.length ca,.slice B m cb]] w (fun v w'=>v=.bool true∧ag w w'):=by
 refine enter (n:=160) Tryz.func4 rfl rfl rfl (af (ab (bu (v:=.agg _) rfl ?_)));intro b1 w1 E1 hb1 hk1;refine asb rfl (ah (ae (af (ab ?_))));obtain ⟨N,hN⟩:∃ N,N=(w1).heap.size:=⟨_,rfl⟩;have hNw:w.heap.size≤N:=by rw [hN];exact ((ag.rfl_.next E1)).size
 have hP11:=hk1.from_ (ag.rfl_);have hNb:b1<N:=by rw [hN];exact hP11.lt
 refine av oo (uE _) ?_;rintro v11 w2 ⟨⟨d,rfl,hd11⟩,E11⟩;rw [←hN] at hd11;have hP11b:=hP11.from_ E11;refine asp rfl (ah (ae (af (ab (mvp rfl ?_)))));have hz14:N≤(w2).heap.size:=by rw [hN];exact E11.size
 refine av gX (nf _ d 0 [] lg0 [] (-1) _ hd11 (.inl ⟨rfl,rfl,rfl,rfl⟩) (fun e he=>by cases he) (fun x hx=>hx.2) (by decide) nQ (fun r hr=>by cases hr) (.inl rfl) rfl (hT.from_ ((ag.rfl_.next E1).next E11))) ?_;rintro v14 w3 ⟨⟨p,rfl,hp14,hW14,_⟩,E14⟩;have hP14:=hP11b.from_ E14;have hB6:ag w w3:=(((ag.rfl_.next E1).next E11).next E14);obtain ⟨K6,hK6⟩:∃ x,x=(w3).heap.size:=⟨_,rfl⟩;refine mvt rfl (aa (ar rfl rfl) (aa (ar rfl rfl) (asp rfl (asi rfl (ah (ae (af (af (ab (mvi rfl (av dF (dY _ _) ?_)))))))))));rintro v18 w4 ⟨rfl,rfl⟩;refine aa (bh (cv rfl rfl) rfl) (mvb rfl (ak rfl (mvp rfl (ak rfl (aa (bh (fb (by kernel_rfl) rfl rfl) rfl) (aa (aQ (v:=.bool _) rfl rfl) (ah (ae (aI rfl ?_)))))))));refine aE (ae (af (ab (ass rfl (ah (ae (af (af (ab (asi rfl (ah (ae (aP (cH (G:=Option Addr×Nat×Nat) [24,25,26,27,28,29,30,31,32,33,34,35] (fun (X,c,k)=>[(6,.slice X k c),(7,.int .i64 ((k+1:Nat):Int))]) (fun (X,c,k) w'=>k≤10∧dp w' K6 X k c ((List.range k).map eD)∧ag w3 w') (fun (_,_,k)=>10-k) ((none,0,0)) ⟨rfl,rfl,trivial⟩ ?_ ?_))))))))))))))
 ·exact ⟨Nat.zero_le _,cJ.of_own (World.ownsRow_nil _ _ _ _),ag.rfl_⟩
 rintro ⟨X,c,k⟩ ρ5 w5 ⟨hk,ho,hF⟩;refine af (af (ab (mvi rfl (aa (kC rfl rfl) (ah (ae (BM rfl (fun Q6=>?_) (fun Q6=>?_))))))))
 ·refine aE (ae (af (aP (ab (mvs rfl (mvi rfl (mvi rfl (aa (cf (b:=1) rfl rfl (by omega)) (aa (za (b:=2) rfl rfl (by omega)) (aa (bN (l:=[(0,.tmp 29),(1,.tmp 32),(2,.const (.string ⟨#[100]⟩))]) (Cx _ _)) ?_))))))))));refine gi (l:=[(0,.tmp 33)]) (cells:=#[.int .i64 ((k+1:Nat):Int),.int .i64 (((k+1+1)/2:Nat):Int),.string ⟨#[100]⟩]) eG rfl rfl (by show Instr.fill _ _ [(0,Value.agg #[.int .i64 ((k+1:Nat):Int),.int .i64 (((k+1+1)/2:Nat):Int),.string ⟨#[100]⟩])]=_;kernel_rfl) ?_;intro b34 w7 E34 hb34 hk34;refine sI (base:=K6) (news:=[.int .i64 ((k+1:Nat):Int),.int .i64 (((k+1+1)/2:Nat):Int),.string ⟨#[100]⟩]) eG rfl (by decide) rfl (ho.from_ (ag.rfl_.next E34)) (by rw [hK6];exact (hF.next (ag.rfl_.next E34)).size) rfl rfl ⟨b34,0,rfl,hk34.whole⟩ (by simp [Value.oneCell']) (by omega) (by omega) ?_;intro A35 c35 w8 ho35 hg35;have hF35:=(hF.next (ag.rfl_.next E34)).grew hg35 (fun q hq=>by rw [←hK6];exact (ho.at_ q hq).1)
  have hx35:dp w8 K6 A35 (k+1) c35 ((List.range (k+1)).map eD):=by
   have h9:bJ ((List.range (k+1)).map eD)=bJ ((List.range k).map eD)++[.int .i64 ((k+1:Nat):Int),.int .i64 (((k+1+1)/2:Nat):Int),.string ⟨#[100]⟩]:=by
    rw [List.range_succ,List.map_append,dz];rfl
   show cJ _ _ _ _ _ _ _ (bJ ((List.range (k+1)).map eD));rw [h9];exact ho35
  refine ass rfl (ah (bI (ae (ab (mvi rfl (aa (cf (b:=1) rfl rfl (by omega)) (asi rfl (ah ?_))))))));refine bW ((A35,c35,k+1)) ⟨(by first | rfl | (refine bD ?_;omega)),(by first | rfl | (refine bD ?_;omega)),trivial⟩ (by (iterate 28 refine bg rfl ?_);exact bw) ⟨?_,?_⟩
  ·exact ⟨by omega,hx35.from_ ag.rfl_,hF35.next ag.rfl_⟩
  ·show 10-(k+1)<10-k;omega
 refine cx (bc (bc (bX (ae (af (af (ab (mvp rfl (mvs rfl ?_)))))))));obtain rfl:k=10:=by omega
 have hoz:=ho.from_ ag.rfl_;have hes:bm w5 (.slice X 10 c) Cz:=dp.ents hoz;have hc10:10≤c:=(dy hes).2.2.2;have hU14:=hW14.lt;have hpl:=hW14.plt;rw [←hK6] at hpl hU14;have hD0:WD w w5 N b1 #[.slice A L.length ca,.slice B m cb] _ p d 0 [] lg0 true X 10 c Cz:=⟨hW14.from_ (hF.next ag.rfl_),fun x hx=>hx.1,Nat.le_trans hz14 hp14,hP14.from_ (hF.next ag.rfl_),hNb,hes,fun q hq=>by have:=hoz.at_ q hq;exact ⟨this.2,fun e=>by have:=hU14 q e;omega,by omega⟩,hNw,(hB6.next hF)⟩;have hM38:ag _ w5:=ag.rfl_;refine av oI (mB _ p d 0 [] lg0 true _ (hD0.wt.from_ ag.rfl_) X c 10 Cz (hD0.hE.from_ ag.rfl_) rfl (by decide) CO (by decide) 1000 (by decide) (by decide) (by have:=CJ;show 0+cu Cz≤1000;omega) (by have:=CJ;show 32+cu Cz≤1000;omega) (by decide) (hT.from_ (hB6.next hF))) ?_;rintro v38 w9 ⟨rfl,h38,hC38⟩;obtain ⟨V1,g1,r1,hg1,hk1',hD1a⟩:=(hD0.from_ hM38).step h38 hC38;have hD1:WD w w9 N b1 #[.slice A L.length ca,.slice B m cb] V1 p d g1 r1 dM1 false X 10 c Cz:=hD1a;refine av dF (dY _ _) ?_;rintro v39 w10 ⟨rfl,rfl⟩;refine aa (bh (cv rfl rfl) rfl) (mvb rfl (ak rfl (mvp rfl (ak rfl (av tW (vQ V1 p d g1 r1 dM1 false _ (hD1.wt.from_ ag.rfl_) 4 1 C7) ?_)))));rintro v43 w11 ⟨rfl,E43⟩;refine ak rfl (av dF (dY _ _) ?_);rintro v44 w12 ⟨rfl,rfl⟩;refine ak rfl (aa (bh (cv rfl rfl) rfl) (aa (aQ (v:=.bool _) rfl rfl) (mvb rfl (ak rfl (mvp rfl (ak rfl ?_))))));have hM49:ag _ w11:=(ag.rfl_.next E43);refine av tW (vP V1 p d g1 r1 dM1 false _ (hD1.wt.from_ (ag.rfl_.next E43)) 4 2 C6 2000 (by omega) (by omega) (by rw [CR];exact CY) (by decide) (hT.from_ (hD1.f.next E43))) ?_;rintro v49 w13 ⟨rfl,h49,hC49⟩;obtain ⟨V2,g2,r2,hg2,hk2',hD2a⟩:=(hD1.from_ hM49).step h49 hC49;rw [CR] at hD2a;have hD2:WD w w13 N b1 #[.slice A L.length ca,.slice B m cb] V2 p d g2 r2 dM2 false X 10 c Cz:=hD2a;refine ak rfl (av dF (dY _ _) ?_);rintro v50 w14 ⟨rfl,rfl⟩;refine ak rfl (aa (bh (cv rfl rfl) rfl) (aa (aQ (v:=.bool _) rfl rfl) (mvb rfl (ak rfl (mvp rfl (ak rfl (av tW (vQ V2 p d g2 r2 dM2 false _ (hD2.wt.from_ ag.rfl_) 4 2 C5) ?_)))))));rintro v55 w15 ⟨rfl,E55⟩;refine ak rfl (av dF (dY _ _) ?_);rintro v56 w16 ⟨rfl,rfl⟩;refine ak rfl (aa (bh (cv rfl rfl) rfl) (aa (aQ (v:=.bool _) rfl rfl) (mvb rfl (ak rfl (mvp rfl (ak rfl ?_))))));have hM61:ag _ w15:=(ag.rfl_.next E55);refine av tV (yl V2 p d g2 r2 dM2 false _ (hD2.wt.from_ (ag.rfl_.next E55)) 8 (by decide) 4 (by decide) (by decide) 3000 (by decide) (by omega) (by omega) CX (by decide) (hT.from_ (hD2.f.next E55))) ?_;rintro v61 w17 ⟨rfl,h61,hC61⟩;obtain ⟨V3,g3,r3,hg3,hk3',hD3a⟩:=(hD2.from_ hM61).step h61 hC61;have hD3:WD w w17 N b1 #[.slice A L.length ca,.slice B m cb] V3 p d g3 r3 dM3 false X 10 c Cz:=hD3a;refine ak rfl (av dF (dY _ _) ?_);rintro v62 w18 ⟨rfl,rfl⟩;refine ak rfl (aa (bh (cv rfl rfl) rfl) (aa (aQ (v:=.bool _) rfl rfl) (mvb rfl (ak rfl (mvp rfl (ak rfl (av tV (ym V3 p d g3 r3 dM3 false _ (hD3.wt.from_ ag.rfl_) 9 (by decide) (by decide)) ?_)))))));rintro v67 w19 ⟨rfl,E67⟩;refine ak rfl (av dF (dY _ _) ?_);rintro v68 w20 ⟨rfl,rfl⟩;refine ak rfl (aa (bh (cv rfl rfl) rfl) (aa (aQ (v:=.bool _) rfl rfl) (mvb rfl (ak rfl (mvp rfl (ak rfl (av tV (ym V3 p d g3 r3 dM3 false _ (hD3.wt.from_ (ag.rfl_.next E67)) 3 (by decide) (by decide)) ?_)))))));rintro v73 w21 ⟨rfl,E73⟩;refine ak rfl (av dF (dY _ _) ?_);rintro v74 w22 ⟨rfl,rfl⟩;refine ak rfl (aa (bh (cv rfl rfl) rfl) (aa (aQ (v:=.bool _) rfl rfl) (ah (ae (aI rfl (aE (ae (af (af ?_)))))))));apply bO 7 [(77,eqp _),(78,fun v w'=>∃ A' c',v=.agg (lgV dM3.b dM3.t A' dM3.es.length c').toArray∧bm w' (.slice A' dM3.es.length c') dM3.es),(79,eqp _),(80,eqp (.slice (dm X c 4 3) (8-4) (c-4))),(81,eqp (.agg #[.int .i64 4,.int .i64 2,.slice (dm X c 4 3) (8-4) (c-4)])),(82,eqp _),(83,eqp (.bool false))] (by repeat first | exact cr | refine cq ?_ | refine bU ?_) (by kernel_rfl) (by kernel_rfl) ⟨aj _,(fun _ _ _ hF ⟨a,b,h1,h2⟩=>⟨a,b,h1,h2.from_ hF⟩),aj _,aj _,aj _,aj _,aj _,trivial⟩
 case hop=>
  constructor
  ·rintro-w24 D24;exact an (aB (v:=.pointer _) rfl) rfl
  constructor
  ·rintro-w25 D25;rintro _ rfl;refine cX jR ((pW V3 p d g3 r3 dM3 false _ (hD3.wt.from_ (((ag.rfl_.next E67).next E73).next D25))).mono ?_);rintro v _ ⟨⟨a,b,rfl,h⟩,hF⟩;exact ⟨hF,a,b,rfl,dp.ents (cJ.of_own h)⟩
  constructor
  ·rintro-w26 D26;exact an (aB (v:=.slice _ _ _) rfl) rfl
  constructor
  ·rintro-w27 D27;rintro _ rfl;exact an (bk (l:=4) (h:=8) cM rfl (.inr ⟨_,_,_,rfl,rfl,rfl⟩) (.inr ⟨_,_,_,rfl,rfl,rfl⟩) (by decide) (by omega)) rfl
  constructor
  ·rintro-w28 D28;rintro v28_80 rfl;exact an (bN (l:=[(0,.const (.int .i64 4)),(1,.const (.int .i64 2)),(2,.tmp 80)]) (Cv _ _ _)) rfl
  constructor
  ·rintro-w29 D29;rintro v29_78 ⟨A29,c29,rfl,he29⟩ v29_81 rfl;refine cX jQ ((tl dM3 A29 (dm X c 4 3) dM3.es.length c29 (8-4) (c-4) _ he29 (by have h9:=((hD3.hE.from_ (((ag.rfl_.next E67).next E73).next D29)).cut (k:=8) (by decide)).restA (k:=4) (by decide);rw [CU] at h9;exact h9) (by decide)).mono ?_);rintro v _ ⟨rfl,E29'⟩;exact ⟨E29',rfl⟩
  constructor
  ·rintro-w30 D30;rintro _ rfl;exact an (bh (bG rfl) rfl) rfl
  exact trivial
 case hend=>
  intro w31 D31;rintro _ rfl v78 ⟨A31,c31,rfl,he31⟩ _ rfl v80 rfl v81 rfl _ rfl v83 rfl;show St ..;refine ah (ae (aM rfl (fun Q32=>?_) (fun Q32=>?_)))
  ·exfalso;contradiction
  refine aE (ae (af (af (ab (mvp rfl (mvs rfl (aa (bk (l:=9) (h:=10) cM rfl (.inr ⟨_,_,_,rfl,rfl,rfl⟩) (.inl ⟨rfl,rfl⟩) (by decide) hc10) (av oI (CA V3 p d g3 r3 dM3 false _ (hD3.wt.from_ (((ag.rfl_.next E67).next E73).next D31)) (dm X c 9 3) (c-9) (10-9) (Cz.drop 9) ((hD3.hE.from_ (((ag.rfl_.next E67).next E73).next D31)).restA (k:=9) (by decide)) rfl (by decide) no9) ?_))))))));rintro v87 w33 ⟨rfl,E87⟩;refine av dF (dY _ _) ?_;rintro v88 w34 ⟨rfl,rfl⟩;refine aa (bh (cv rfl rfl) rfl) (mvb rfl (ak rfl (mvp rfl (ak rfl (av tW (vQ V3 p d g3 r3 dM3 false _ (hD3.wt.from_ ((((ag.rfl_.next E67).next E73).next D31).next E87)) 20 1 C4) ?_)))));rintro v92 w35 ⟨rfl,E92⟩;refine ak rfl (av dF (dY _ _) ?_);rintro v93 w36 ⟨rfl,rfl⟩;refine ak rfl (aa (bh (cv rfl rfl) rfl) (aa (aQ (v:=.bool _) rfl rfl) (mvb rfl (ak rfl (mvp rfl (ak rfl ?_))))));have hM98:ag _ w35:=(((((ag.rfl_.next E67).next E73).next D31).next E87).next E92);refine av tW (vP V3 p d g3 r3 dM3 false _ (hD3.wt.from_ (((((ag.rfl_.next E67).next E73).next D31).next E87).next E92)) 20 9 C3 4000 (by omega) (by omega) (by rw [CQ];decide) (by decide) (hT.from_ (((((hD3.f.next E67).next E73).next D31).next E87).next E92))) ?_;rintro v98 w37 ⟨rfl,h98,hC98⟩;obtain ⟨V4,g4,r4,hg4,hk4',hD4a⟩:=(hD3.from_ hM98).step h98 hC98;rw [CQ] at hD4a;have hD4:WD w w37 N b1 #[.slice A L.length ca,.slice B m cb] V4 p d g4 r4 dM4 false X 10 c Cz:=hD4a;refine ak rfl (av dF (dY _ _) ?_);rintro v99 w38 ⟨rfl,rfl⟩;refine ak rfl (aa (bh (cv rfl rfl) rfl) (aa (aQ (v:=.bool _) rfl rfl) (mvb rfl (ak rfl (mvp rfl (ak rfl (aa (bN (l:=[(0,.const (.int .i64 21)),(1,.const (.int .i64 8))]) (Cw)) (ak rfl ?_))))))));refine gi (l:=[(0,.tmp 104)]) (cells:=#[.int .i64 21,.int .i64 8,.string ⟨#[]⟩]) eG rfl rfl (by show Instr.fill _ _ [(0,Value.agg #[.int .i64 21,.int .i64 8,.string ⟨#[]⟩])]=_;kernel_rfl) ?_;intro b105 w39 E105 hb105 hk105;have hl105:bm w39 (.slice (some ⟨b105,0,none⟩) 1 1) [CV]:=nZ (e:=CV) hk105;refine ak rfl (av oI (CA V4 p d g4 r4 dM4 false _ (hD4.wt.from_ (ag.rfl_.next E105)) (some ⟨b105,0,none⟩) 1 1 [CV] (hl105.from_ ag.rfl_) rfl (by decide) C0) ?_);rintro v106 w40 ⟨rfl,E106⟩;refine ak rfl (av dF (dY _ _) ?_);rintro v107 w41 ⟨rfl,rfl⟩;refine ak rfl (aa (bh (cv rfl rfl) rfl) (aa (aQ (v:=.bool _) rfl rfl) (mvb rfl (ak rfl (mvp rfl (ak rfl (aa (bN (l:=[(0,.const (.int .i64 21)),(1,.const (.int .i64 9))]) (Cs)) (ak rfl ?_))))))));refine gi (l:=[(0,.tmp 112)]) (cells:=#[.int .i64 21,.int .i64 9,.string ⟨#[]⟩]) eG rfl rfl (by show Instr.fill _ _ [(0,Value.agg #[.int .i64 21,.int .i64 9,.string ⟨#[]⟩])]=_;kernel_rfl) ?_;intro b113 w42 E113 hb113 hk113;have hl113:bm w42 (.slice (some ⟨b113,0,none⟩) 1 1) [e21]:=nZ (e:=e21) hk113;refine ak rfl ?_;have hM114:ag _ w42:=(((ag.rfl_.next E105).next E106).next E113);refine av oI (mB V4 p d g4 r4 dM4 false _ (hD4.wt.from_ (((ag.rfl_.next E105).next E106).next E113)) (some ⟨b113,0,none⟩) 1 1 [e21] (hl113.from_ ag.rfl_) rfl (by decide) CZ (by decide) 5000 (by decide) (by omega) (by have:=CP;omega) (by show 32+cu [e21]≤5000;have:=CP;omega) (by decide) (hT.from_ (((hD4.f.next E105).next E106).next E113))) ?_;rintro v114 w43 ⟨rfl,h114,hC114⟩;obtain ⟨V5,g5,r5,hg5,hk5',hD5a⟩:=(hD4.from_ hM114).step h114 hC114;have hD5:WD w w43 N b1 #[.slice A L.length ca,.slice B m cb] V5 p d g5 r5 dM5 false X 10 c Cz:=hD5a;refine ak rfl (av dF (dY _ _) ?_);rintro v115 w44 ⟨rfl,rfl⟩;refine ak rfl (aa (bh (cv rfl rfl) rfl) (aa (aQ (v:=.bool _) rfl rfl) (ah (ae (aI rfl (aE (ae (af (ab (aa (bN (l:=[(0,.const (.int .i64 21)),(1,.const (.int .i64 9))]) (Cs)) ?_))))))))));obtain ⟨K7,hK7⟩:∃ x,x=(w43).heap.size:=⟨_,rfl⟩;have hV5:=(hD5.wt.from_ ag.rfl_).lt;have hp5:=(hD5.wt.from_ ag.rfl_).plt;rw [←hK7] at hV5 hp5;refine gi (l:=[(0,.tmp 118)]) (cells:=#[.int .i64 21,.int .i64 9,.string ⟨#[]⟩]) eG rfl rfl (by show Instr.fill _ _ [(0,Value.agg #[.int .i64 21,.int .i64 9,.string ⟨#[]⟩])]=_;kernel_rfl) ?_;intro b119 w45 E119 hb119 hk119;have hl119:bm w45 (.slice (some ⟨b119,0,none⟩) 1 1) [e21]:=nZ (e:=e21) hk119;refine aa (bN (l:=[(0,.const (.int .i64 20)),(1,.const (.int .i64 9)),(2,.tmp 119)]) (Cu _ _ _)) (aZ bA ?_);intro b8 w46 E8 hb8 hk8;have hz8:K7<b8:=by have:=E119.size;have:=hk119.lt;omega
  have hM16:ag _ w46:=((ag.rfl_.next E119).next E8);refine aV (vs:=[_,_,_]) aq rfl rfl (by simp [Value.oneCell']) (hk8) rfl ?_;intro w47 O16 P16;have hP8:Blk w47 b8 36 (lgV 20 9 (some ⟨b119,0,none⟩) 1 1).toArray:=P16;have hF16:=hM16.only O16 (by have:=hM16.size;omega);have hD5c:=hD5.from_ hF16;have hl119c:=(hl119.from_ E8).chg (O16.toChg (U:=fun k=>k=b8) rfl) (fun q hq e=>by have hq:b119=q:=(by simpa using hq);have e:q=b8:=e;omega);refine ah (ae (af (af ?_)));apply CS [(0,121,fun _ v _=>v=_),(1,122,fun S v w9=>S 7=false→(fun v w'=>∃ A' c',v=.agg (lgV dM5.b dM5.t A' dM5.es.length c').toArray∧bm w' (.slice A' dM5.es.length c') dM5.es) v w9),(2,123,fun _ v _=>v=_),(3,124,fun _ v _=>v=_),(4,125,fun _ v _=>v=.bool false),(5,126,fun _ v _=>v=.bool false),(6,127,fun _ v _=>v=_),(7,128,fun _ v _=>v=_),(8,129,fun _ v _=>v=_),(9,130,fun _ v _=>v=_),(10,131,fun _ v _=>v=.bool false)] [7] (fun S w'=>(S 7=false→ag w47 w')∧(S 7=true→(∃ (V:Nat→Prop) (g':Nat) (r':List Rc),g'≤10∧WD w w' N b1 #[.slice A L.length ca,.slice B m cb] V p d g' r' dM5 true X 10 c Cz)∧Chg (fun k=>V5 k∨k=p) w47 w')) (by kernel_rfl) (by kernel_rfl) (by exact ⟨trivial,trivial,trivial,trivial,trivial,trivial,⟨by kernel_rfl,_,_,(.tail _ (.tail _ (.tail _ (.tail _ (.tail _ (.head _)))))),rfl,rfl,fun _ _ _ h=>h⟩,⟨by kernel_rfl,_,_,(.tail _ (.tail _ (.tail _ (.tail _ (.tail _ (.head _)))))),rfl,rfl,fun _ _ _ h=>h⟩,⟨by kernel_rfl,_,_,(.tail _ (.tail _ (.tail _ (.tail _ (.tail _ (.head _)))))),rfl,rfl,fun _ _ _ h=>h⟩,⟨by kernel_rfl,_,_,(.tail _ (.tail _ (.tail _ (.tail _ (.tail _ (.head _)))))),rfl,rfl,fun _ _ _ h=>h⟩,trivial,trivial⟩) rfl rfl ⟨fun _ _ _ _ _ _ _ h=>h,fun S i v w1 w2 hq hF h h0=>((fun _ _ _ hF ⟨a,b,h1,h2⟩=>⟨a,b,h1,h2.from_ hF⟩)) v w1 w2 hF (h (lP h0)),fun _ _ _ _ _ _ _ h=>h,fun _ _ _ _ _ _ _ h=>h,fun _ _ _ _ _ _ _ h=>h,fun _ _ _ _ _ _ _ h=>h,fun _ _ _ _ _ _ _ h=>h,fun _ _ _ _ _ _ _ h=>h,fun _ _ _ _ _ _ _ h=>h,fun _ _ _ _ _ _ _ h=>h,fun _ _ _ _ _ _ _ h=>h,trivial⟩ (fun S i w1 w2 hq hF h=>⟨fun h0=>(h.1 (lP h0)).next hF,fun h1=>(fun h=>⟨h.1.imp fun _ h=>h.imp fun _ h=>h.imp fun _ h=>⟨h.1,h.2.from_ hF⟩,h.2.next hF.toChg⟩) (h.2 (mP (show 7≠i by rintro rfl;exact absurd hq (by decide)) h1))⟩) ⟨fun _=>ag.rfl_.d1,fun h=>by cases h⟩
  case hstep=>
   constructor
   ·rintro S L' w48 hU hmo hme hI hM hC hS ⟨-⟩;have hS0:S 7=false:=(ay hC (j:=7) rfl (by kernel_rfl) (ay hC (j:=6) rfl (by kernel_rfl) (ay hC (j:=5) rfl (by kernel_rfl) (ay hC (j:=4) rfl (by kernel_rfl) (ay hC (j:=3) rfl (by kernel_rfl) (ay hC (j:=1) rfl (by kernel_rfl) hS))))));have hM48:=hM.1 hS0;have e4:=hI.1 4 (fj rfl);exact aN [(4,_)] hU hmo hme hI hM (.head _) rfl rfl (by kernel_rfl) ⟨e4,trivial⟩ (aB (v:=.pointer _) rfl) ag.rfl_ (rfl)
   constructor
   ·rintro S L' w49 hU hmo hme hI hM hC hS ⟨d0,-⟩;have hS0:S 7=false:=(ay hC (j:=7) rfl (by kernel_rfl) (ay hC (j:=6) rfl (by kernel_rfl) (ay hC (j:=5) rfl (by kernel_rfl) (ay hC (j:=4) rfl (by kernel_rfl) (ay hC (j:=3) rfl (by kernel_rfl) hS)))));have hM49:=hM.1 hS0;obtain ⟨v49_121,e121,h121⟩:=hI.get (i:=0) (.head _) d0;obtain rfl:=h121;refine fB (al:=[.tmp 121]) [(121,_)] hU hmo hme hI hM (.tail _ (.head _)) rfl (by kernel_rfl) ⟨e121,trivial⟩ jR ((pW V5 p d g5 r5 dM5 false _ (hD5c.wt.from_ (ag.rfl_.next hM49))).mono ?_);rintro v w2 ⟨⟨a,b,rfl,h⟩,hF⟩;exact ⟨hF,fun _=>⟨a,b,rfl,dp.ents (cJ.of_own h)⟩⟩
   constructor
   ·rintro S L' w50 hU hmo hme hI hM hC hS ⟨-⟩;have hS0:S 7=false:=(ay hC (j:=7) rfl (by kernel_rfl) (ay hC (j:=6) rfl (by kernel_rfl) (ay hC (j:=5) rfl (by kernel_rfl) (ay hC (j:=4) rfl (by kernel_rfl) (ay hC (j:=3) rfl (by kernel_rfl) hS)))));have hM50:=hM.1 hS0;have e8:=hI.1 8 (fj rfl);exact aN [(8,_)] hU hmo hme hI hM (.tail _ (.tail _ (.head _))) rfl rfl (by kernel_rfl) ⟨e8,trivial⟩ ((aG (cs:=lgV 20 9 (some ⟨b119,0,none⟩) 1 1) az aq rfl ((hP8.from_ (ag.rfl_.next hM50)).whole))) (ag.rfl_) (rfl)
   constructor
   ·rintro S L' w51 hU hmo hme hI hM hC hS ⟨d1,d2,d1,-⟩;have hS0:S 7=false:=(ay hC (j:=7) rfl (by kernel_rfl) (ay hC (j:=6) rfl (by kernel_rfl) (ay hC (j:=5) rfl (by kernel_rfl) hS)));have hM51:=hM.1 hS0;obtain ⟨v51_122,e122,h122⟩:=hI.get (i:=1) (.tail _ (.head _)) d1;obtain ⟨A51,c51,rfl,he51⟩:=h122 hS0;obtain ⟨v51_123,e123,h123⟩:=hI.get (i:=2) (.tail _ (.tail _ (.head _))) d2;obtain rfl:=h123;refine fB (al:=[.tmp 122,.tmp 123]) [(122,_),(123,_)] hU hmo hme hI hM (.tail _ (.tail _ (.tail _ (.head _)))) rfl (by kernel_rfl) ⟨e122,e123,trivial⟩ jQ ((tl dM5 A51 (some ⟨b119,0,none⟩) dM5.es.length c51 1 1 _ he51 (hl119c.from_ (ag.rfl_.next hM51)) (by decide)).mono ?_);rintro v w2 ⟨rfl,E51'⟩;exact ⟨E51',rfl⟩
   constructor
   ·rintro S L' w52 hU hmo hme hI hM hC hS ⟨d3,-⟩;have hS0:S 7=false:=(ay hC (j:=7) rfl (by kernel_rfl) (ay hC (j:=6) rfl (by kernel_rfl) (ay hC (j:=5) rfl (by kernel_rfl) hS)));have hM52:=hM.1 hS0;obtain ⟨v52_124,e124,h124⟩:=hI.get (i:=3) (.tail _ (.tail _ (.tail _ (.head _)))) d3;obtain rfl:=h124;exact aN [(124,_)] hU hmo hme hI hM (.tail _ (.tail _ (.tail _ (.tail _ (.head _))))) rfl rfl (by kernel_rfl) ⟨e124,trivial⟩ ((bh (bG rfl) rfl)) (ag.rfl_) (rfl)
   constructor
   ·rintro S L' w53 hU hmo hme hI hM hC hS ⟨d4,d3,-⟩;have hS0:S 7=false:=(ay hC (j:=7) rfl (by kernel_rfl) hS);have hM53:=hM.1 hS0;obtain ⟨v53_125,e125,h125⟩:=hI.get (i:=4) (.tail _ (.tail _ (.tail _ (.tail _ (.head _))))) d4;obtain rfl:=h125;exact aN [(125,_)] hU hmo hme hI hM (.tail _ (.tail _ (.tail _ (.tail _ (.tail _ (.head _)))))) rfl rfl (by kernel_rfl) ⟨e125,trivial⟩ (aB (v:=.bool _) rfl) ag.rfl_ (rfl)
   constructor
   ·rintro S L' w54 hU hmo hme hI hM hC hS ⟨d5,-⟩;have hS0:S 7=false:=(ay hC (j:=7) rfl (by kernel_rfl) hS);have hM54:=hM.1 hS0;have e4:=hI.1 4 (fj rfl);exact aN [(4,_)] hU hmo hme hI hM (.tail _ (.tail _ (.tail _ (.tail _ (.tail _ (.tail _ (.head _))))))) rfl rfl (by kernel_rfl) ⟨e4,trivial⟩ (aB (v:=.pointer _) rfl) ag.rfl_ (rfl)
   constructor
   ·rintro S L' w55 hU hmo hme hI hM hC hS ⟨d6,d5,d5,-⟩;have hS0:S 7=false:=hS;have hM55:=hM.1 hS0;obtain ⟨v55_127,e127,h127⟩:=hI.get (i:=6) (.tail _ (.tail _ (.tail _ (.tail _ (.tail _ (.tail _ (.head _))))))) d6;obtain rfl:=h127;refine eY (al:=[.tmp 127]) [(127,_)] hU hI (.tail _ (.tail _ (.tail _ (.tail _ (.tail _ (.tail _ (.tail _ (.head _)))))))) (by kernel_rfl) ⟨e127,trivial⟩ kN ((qS V5 p d g5 r5 dM5 false _ (hD5c.wt.from_ (ag.rfl_.next hM55))).mono ?_);rintro v9 w2 ⟨rfl,hb2,hl2,hC2⟩;obtain ⟨V6,g6,r6,hg6,_,hD6⟩:=(hD5c.from_ (ag.rfl_.next hM55)).step ⟨g5,r5,Nat.le_succ _,Nat.le_refl _,WEx.of hb2 (Nat.le_refl _) (fun q hq=>.inl (hl2 q hq)) ag.rfl_⟩ hC2;exact ⟨⟨fun h0=>(by rw [mQ] at h0;cases h0),fun _=>⟨⟨V6,g6,r6,by omega,hD6⟩,(ag.toChg (U:=fun k=>V5 k∨k=p) hM55).next hC2⟩⟩,rfl,⟨fun _ _ _ h=>h,fun _ _ _ _ h0=>(by rw [mQ] at h0;cases h0),fun _ _ _ h=>h,fun _ _ _ h=>h,fun _ _ _ h=>h,fun _ _ _ h=>h,fun _ _ _ h=>h,fun _ _ _ h=>h,fun _ _ _ h=>h,fun _ _ _ h=>h,fun _ _ _ h=>h,trivial⟩⟩
   constructor
   ·rintro S L' w56 hU hmo hme hI hM hC hS ⟨d7,d7,d5,-⟩;obtain ⟨v56_128,e128,h128⟩:=hI.get (i:=7) (.tail _ (.tail _ (.tail _ (.tail _ (.tail _ (.tail _ (.tail _ (.head _)))))))) d7;obtain rfl:=h128;refine fB (al:=[.tmp 128]) [(128,_)] hU hmo hme hI hM (.tail _ (.tail _ (.tail _ (.tail _ (.tail _ (.tail _ (.tail _ (.tail _ (.head _))))))))) rfl (by kernel_rfl) ⟨e128,trivial⟩ dF ((dY _ _).mono ?_);rintro v w2 ⟨rfl,rfl⟩;exact ⟨ag.rfl_,rfl⟩
   constructor
   ·rintro S L' w57 hU hmo hme hI hM hC hS ⟨d8,d5,-⟩;obtain ⟨v57_129,e129,h129⟩:=hI.get (i:=8) (.tail _ (.tail _ (.tail _ (.tail _ (.tail _ (.tail _ (.tail _ (.tail _ (.head _))))))))) d8;obtain rfl:=h129;exact aN [(129,_)] hU hmo hme hI hM (.tail _ (.tail _ (.tail _ (.tail _ (.tail _ (.tail _ (.tail _ (.tail _ (.tail _ (.head _)))))))))) rfl rfl (by kernel_rfl) ⟨e129,trivial⟩ ((bh (cv rfl rfl) rfl)) (ag.rfl_) (rfl)
   constructor
   ·rintro S L' w58 hU hmo hme hI hM hC hS ⟨d5,d9,-⟩;obtain ⟨v58_126,e126,h126⟩:=hI.get (i:=5) (.tail _ (.tail _ (.tail _ (.tail _ (.tail _ (.head _)))))) d5;obtain rfl:=h126;obtain ⟨v58_130,e130,h130⟩:=hI.get (i:=9) (.tail _ (.tail _ (.tail _ (.tail _ (.tail _ (.tail _ (.tail _ (.tail _ (.tail _ (.head _)))))))))) d9;obtain rfl:=h130;exact aN [(126,_),(130,_)] hU hmo hme hI hM (.tail _ (.tail _ (.tail _ (.tail _ (.tail _ (.tail _ (.tail _ (.tail _ (.tail _ (.tail _ (.head _))))))))))) rfl rfl (by kernel_rfl) ⟨e126,e130,trivial⟩ ((aQ (v:=.bool _) rfl rfl)) (ag.rfl_) (rfl)
   exact trivial
  case hend=>
   intro w59 hM;obtain ⟨⟨V6,g6,r6,hg6,hD6⟩,hC6⟩:=hM.2 rfl;rintro v59_121 rfl v59_122-v59_123 rfl v59_124 rfl v59_125 rfl v59_126 rfl v59_127 rfl v59_128 rfl v59_129 rfl v59_130 rfl v59_131 rfl;refine fq ?_;have hP8b:=hP8.chg hC6 (fun e=>by rcases e with e | e;have:=hV5 _ e;omega;omega);have hl8b:=hl119c.chg hC6 (fun q hq e=>by have hq:b119=q:=(by simpa using hq);subst hq;rcases e with e | e;have:=hV5 _ e;omega;omega);refine ae (aI rfl (aE (ae (af (ab (mvp rfl ?_))))));obtain ⟨la6,Ew,nw,cw,D6,hw6,hDk6,hqs6,hd6,_⟩:=hD6.wt.ex;have hq6:=hqs6 rfl;refine av tO (yB d g6 V6 D6 r6 la6 none 0 [] _ (hd6.from_ ag.rfl_) hDk6 (by omega) hq6 (fun h=>absurd h (by simp)) ⟨by decide,by decide⟩ (fun q hq=>by cases hq)) ?_;rintro v134 w60 ⟨⟨d2,rfl,hd134⟩,E134⟩;refine av gX (nf _ d2 g6 r6 dM5 D6 la6 _ hd134 hDk6 hq6 (fun x hx=>hx.2) (by omega) hD6.wt.ok hD6.wt.rk hD6.wt.fin hD6.wt.ap (hT.from_ (hD6.f.next E134))) ?_;rintro v135 w61 ⟨⟨p2,rfl,hp2,hW2,hl2⟩,E135⟩;have hP8d:=hP8b.from_ (((ag.rfl_.next E134).next E135));have hl8d:=hl8b.from_ (((ag.rfl_.next E134).next E135));have hD7:=hD6.from_ (((ag.rfl_.next E134).next E135));refine mvt rfl (aa (ar rfl rfl) (aa (ar rfl rfl) (asp rfl (asi rfl (ah (ae (af ?_)))))));have hz20:True:=trivial;apply bO 23 [(138,eqp _),(139,eqp _),(140,eqp (.bool true)),(141,eqp _),(142,eqp _),(143,eqp (.bool true)),(144,eqp _),(145,eqp _),(146,eqp _),(147,fun v w'=>∃ A' c',v=.agg (lgV dM5.b dM5.t A' dM5.es.length c').toArray∧bm w' (.slice A' dM5.es.length c') dM5.es),(148,eqp (.agg (lgV 20 9 (some ⟨b119,0,none⟩) 1 1).toArray)),(149,eqp _),(150,eqp _),(151,eqp _),(152,eqp _),(153,eqp (.slice A L.length ca)),(154,eqp _),(155,eqp (.bool true)),(156,eqp _),(157,eqp _),(158,eqp _),(159,eqp _),(2,eqp _)] (by repeat first | exact cr | refine cq ?_ | refine bU ?_) (by kernel_rfl) (by kernel_rfl) ⟨aj _,aj _,aj _,aj _,aj _,aj _,aj _,aj _,aj _,(fun _ _ _ hF ⟨a,b,h1,h2⟩=>⟨a,b,h1,h2.from_ hF⟩),aj _,aj _,aj _,aj _,aj _,aj _,aj _,aj _,aj _,aj _,aj _,aj _,aj _,trivial⟩
   case hop=>
    constructor
    ·rintro-w63 D63;exact an (aB (v:=.int _ _) rfl) rfl
    constructor
    ·rintro-w64 D64;rintro _ rfl;refine cX dF ((dY _ _).mono ?_);rintro v _ ⟨rfl,rfl⟩;exact ⟨ag.rfl_,rfl⟩
    constructor
    ·rintro-w65 D65;rintro _ rfl;exact an (cU (a7 rfl rfl) rfl) rfl
    constructor
    ·rintro-w66 D66;rintro v66_140 rfl;exact an (aB (v:=.bool _) rfl) rfl
    constructor
    ·rintro-w67 D67;rintro _ rfl;exact aL rfl (aB (v:=.pointer _) rfl) rfl
    constructor
    ·rintro-w68 D68;rintro _ rfl _ rfl;exact aL rfl (cU (CN (by kernel_rfl) rfl rfl) rfl) rfl
    constructor
    ·rintro-w69 D69;rintro _ rfl v69_143 rfl;exact an (aO (v:=.bool _) rfl rfl) rfl
    constructor
    ·rintro-w70 D70;rintro _ rfl;exact an (aB (v:=.bool _) rfl) rfl
    constructor
    ·rintro-w71 D71;rintro _ rfl;exact aL rfl (aB (v:=.pointer _) rfl) rfl
    constructor
    ·rintro-w72 D72;rintro _ rfl _ rfl;refine nN rfl jR ((pW _ p2 d2 g6 r6 dM5 true _ (hW2.from_ (ag.rfl_.next D72))).mono ?_);rintro v _ ⟨⟨a,b,rfl,h⟩,hF⟩;exact ⟨hF,a,b,rfl,dp.ents (cJ.of_own h)⟩
    constructor
    ·rintro-w73 D73;rintro _ rfl;exact aL rfl (aG (cs:=lgV 20 9 (some ⟨b119,0,none⟩) 1 1) az aq rfl ((hP8d.from_ (ag.rfl_.next D73)).whole)) rfl
    constructor
    ·rintro-w74 D74;rintro _ rfl v74_147 ⟨A74,c74,rfl,he74⟩ v74_148 rfl;refine nN rfl jQ ((tl dM5 A74 (some ⟨b119,0,none⟩) dM5.es.length c74 1 1 _ he74 (hl8d.from_ (ag.rfl_.next D74)) (by decide)).mono ?_);rintro v _ ⟨rfl,E74'⟩;exact ⟨E74',rfl⟩
    constructor
    ·rintro-w75 D75;rintro _ rfl _ rfl;exact an (aO (v:=.bool _) rfl rfl) rfl
    constructor
    ·rintro-w76 D76;rintro _ rfl;exact an (aB (v:=.bool _) rfl) rfl
    constructor
    ·rintro-w77 D77;rintro _ rfl;exact aL rfl (ai eQ rfl) rfl
    constructor
    ·rintro-w78 D78;rintro _ rfl _ rfl;exact aL rfl (ao (v:=.slice A L.length ca) fM rfl ((hD7.P.from_ (ag.rfl_.next D78)).rd 0 rfl)) rfl
    constructor
    ·rintro-w79 D79;rintro _ rfl v79_153 rfl;exact aL rfl (bb oF rfl) rfl
    constructor
    ·rintro-w80 D80;rintro _ rfl _ rfl;exact aL rfl (cU (gQ rfl rfl) (decide_eq_true (by omega))) rfl
    constructor
    ·rintro-w81 D81;rintro _ rfl v81_155 rfl;exact an (aO (v:=.bool _) rfl rfl) rfl
    constructor
    ·rintro-w82 D82;rintro _ rfl;exact an (aB (v:=.bool _) rfl) rfl
    constructor
    ·rintro-w83 D83;rintro _ rfl;refine nN rfl oE ((qU _ (hT.from_ (((hD6.f.next E134).next E135).next D83))).mono ?_);rintro v _ ⟨rfl,E83'⟩;exact ⟨E83',rfl⟩
    constructor
    ·rintro-w84 D84;rintro _ rfl _ rfl;exact an (aO (v:=.bool _) rfl rfl) rfl
    constructor
    ·rintro-w85 D85;rintro _ rfl;exact an (bn (v:=.bool _) rfl) rfl
    exact trivial
   case hend=>
    intro w86 D86;rintro _ rfl _ rfl v140 rfl _ rfl _ rfl v143 rfl _ rfl _ rfl _ rfl v147 ⟨A86,c86,rfl,he86⟩ v148 rfl _ rfl _ rfl _ rfl _ rfl v153 rfl _ rfl v155 rfl _ rfl _ rfl _ rfl _ rfl _ rfl;show St ..;refine ah (ae (aC (bz (v:=.bool _) rfl rfl (⟨rfl,(((hD6.f.next E134).next E135).next D86)⟩))))
theorem CC {W:World} (h:laidMetH prog Rows.walDropsRow.laid W):cO W:=by
 have gTab : prog.globalNamed "lectern/sum.remainders" = some 3 := by kernel_rfl
 have gType:(prog.globals[3]?).map (·.type)=some 199:=by kernel_rfl
 have c1:prog.cellsOf 166=1:=by kernel_rfl
 have c16:prog.cellsOf 199=16:=by kernel_rfl
 have ht : Lib.TabIs prog W "lectern/sum.remainders" .u32 [0, 498536548, 997073096, 651767980, 1994146192, 1802195444, 1303535960, 1342533948, 3988292384, 4027552580, 3604390888, 3412177804, 2607071920, 2262029012, 2685067896, 3183342108] :=
  Lib.tabIs_of_head (rest:=_) gTab gType Tryz.underlying199 Tryz.underlying166 c1 c16 ((MakeChecks.laidMetH_plain _ _ _ (by kernel_rfl)).mp h)
 intro i hi;rw [ht.cell gTab i hi];have:i=0∨i=1∨i=2∨i=3∨i=4∨i=5∨i=6∨i=7∨i=8∨i=9∨i=10∨i=11∨i=12∨i=13∨i=14∨i=15:=by omega
 rcases this with rfl | rfl | rfl | rfl | rfl | rfl | rfl | rfl | rfl | rfl | rfl | rfl | rfl | rfl | rfl | rfl <;> rfl
theorem CH (cs:Array Value) (x:y8.den) (w:World) (hs:cs.size=2) (h:y8.At w (fun j=>cs[j]?) x) (hT:cO w):Rt prog 4 [.agg cs] w fun v w'=>v=.bool true∧ag w w':=by
 obtain ⟨A,B,ca,cb,m,L,rfl,ha⟩:=yy hs h;exact CG A B ca cb m L w ha hT
noncomputable def Cy (os:Os):World:=
 World.laidAll prog os Rows.walDropsRow.laid
theorem CI (os:Os):laidMet prog Rows.walDropsRow.laid ((Cy os).forCall (fun _ _=>0) ⟨#[],#[.agg #[.slice none 0 0,.slice none 0 0]],[]⟩).memory:=
 laidMet_laidAll _ (by kernel_rfl) (by kernel_rfl)
theorem CD (os:Os) {H:Type} (enc:TypeId×Value→H):∃ places,DataW.whole enc prog ((Cy os).forCall (fun _ _=>0) ⟨#[],#[.agg #[.slice none 0 0,.slice none 0 0]],[]⟩).memory Tryz.f4.params.toList Rows.walDropsSpec.vars false #[(.agg #[.slice none 0 0,.slice none 0 0]:Value)].toList 8=some ([.agg [.nil,.nil]],[],places):=
 ⟨[],by kernel_rfl⟩
theorem CB (os:Os) (started:os.Started) (H:Type) (enc:TypeId×Value→H) (F:Stop.Interp) :
 ReturnsInHanded {} Tryz.checked os 4 .any ((OpenSpec.ofChange Rows.walDropsSpec).preRow enc prog Tryz.f4 Rows.walDropsRow.domain false Rows.walDropsRow.laid) (((OpenSpec.ofChange Rows.walDropsSpec).at F).post enc prog Tryz.f4 false true false false):=by
 obtain ⟨places,hx⟩:=CD os enc
 refine returnsInHanded_of_row (C:=Tryz.checked) (s:=OpenSpec.ofChange Rows.walDropsSpec) Tryz.own started (by kernel_rfl) Tryz.func4
  (ky (enc:=enc) (C:=Tryz.checked) false (Cy os) #[.agg #[.slice none 0 0,.slice none 0 0]] (World.laidAll_os _ _ _) (World.shaped_of_ZipB (by kernel_rfl) (by kernel_rfl)) (by kernel_rfl)
   (OpenSpec.preRow_of_cond 8 hx (by kernel_rfl) (fun k hk=>by cases hk) (by kernel_rfl) (CI os))) ?_
 intro W base args ds gs before hval hW _ _ hsz hL hS _;exact oU 4 Tryz.f4 25 4 Rows.walDropsSpec Tryz.params4 (by kernel_rfl) Tryz.underlying4 rfl (fun _=>rfl) (by kernel_rfl) (dT_ (by kernel_rfl)) Rows.walDropsRow.laid (uP (.sl Ai) (.pr (.sl (.int .i64)) .unit) (by kernel_rfl) Rows.walDropsRow.laid (fun _ h=>CC h) CH) W base args ds gs before hval hW hsz hL hS
theorem CF:Rows.WalDropsSaid:=
 OpenClaim.holds_of_cond 4 Tryz.f4 rfl rfl rfl rfl rfl rfl rfl ⟨rfl,rfl,rfl,rfl,rfl⟩ rfl rfl rfl rfl rfl (by kernel_rfl) Tryz.func4 (by kernel_rfl)
  (dT_ (by kernel_rfl)) (by unfold Func.isWrapper;first | (rw [if_pos (by decide+kernel)];kernel_rfl) | (rw [if_neg (by decide+kernel)];exact ⟨rfl,rfl⟩))
  (fun os started H enc _ F=>by rw [OpenClaim.pre_eq_preRow];exact CB os started H enc F)
theorem CE (f : FuncId) (fn : Func) (hf : Tryz.pinned.checked.prog.funcNamed "lectern/lecternlaw19.WalDrops" = some f) (hfn : Tryz.pinned.checked.prog.funcs[f]? = some fn) :
 true=Tryz.pinned.checked.prog.looks []∧∀ (j:Nat) t,fn.params[j]? =some t→Tryz.pinned.checked.prog.wantsStandIn t=false:=by
 obtain rfl : f = 4 := Option.some.inj ((show prog.funcNamed "lectern/lecternlaw19.WalDrops" = some 4 by kernel_rfl).symm.trans hf) |>.symm
 obtain rfl:fn=Tryz.f4:=(Option.some.inj (Tryz.func4.symm.trans hfn)).symm;refine ⟨by kernel_rfl,fun j t ht=>?_⟩;rw [(Tryz.params4)] at ht;obtain rfl:t=25:=by simpa using Array.mem_of_getElem? ht
 exact (show prog.wantsStandIn 25=false by kernel_rfl)
theorem WalDrops_holds:Rows.WalDropsCardSaid:=
 Claim7.holds_tied_plain_at .later [] _ _ _ _ CF (fun _ h=>by cases h) (by kernel_rfl) (fun _ h=>by cases h) walDrops_row_tie rfl ⟨rfl,rfl⟩ (by kernel_rfl) rfl CE (by kernel_rfl)
end Go.Proofs.YtaohnmneccbljaaGreatDoor
