/- The law SnapVotes. -/
import Derived.Test.YtdimnaiiaekngaaDoorSlSnLawM3
import Derived.Test.YtdimnaiiaekngaaDoorCards
import Derived.Test.YtdimnaiiaekngaaDoorTie
set_option maxRecDepth 100000
set_option maxHeartbeats 4000000
namespace Go.Proofs.YtdimnaiiaekngaaDoor
open Go.Proofs.Tryd (prog)
open Go.RowKit
open Go.ChangeShapes Go.WideShapes Go.ChangeAt
theorem kj:aI prog 17=true:=by kernel_rfl
theorem kh:aI prog 18=true:=by kernel_rfl
theorem nO:aI prog 28=true:=by kernel_rfl
theorem kg:aI prog 25=true:=by kernel_rfl
theorem nP:aI prog 26=true:=by kernel_rfl
theorem eH:bQ prog 36 0=some 0:=by kernel_rfl
theorem eG:bQ prog 36 1=some 1:=by kernel_rfl
theorem fP:bQ prog 36 2=some 2:=by kernel_rfl
theorem fO:bQ prog 36 3=some 3:=by kernel_rfl
theorem fN:bQ prog 36 4=some 4:=by kernel_rfl
theorem mn {α:Type} {n:Nat} {P:Nat→α→Prop} (h:∀ i,i<n→∃ x,P i x):∃ L:List α,L.length=n∧∀ i (hi:i<L.length),P i L[i]:=
 ⟨List.ofFn fun i:Fin n=>Classical.choose (h i i.2),by simp,fun i hi=>by
  rw [List.getElem_ofFn];exact Classical.choose_spec (h i (by simpa using hi))⟩
theorem mL {w:World} {c:Nat→Option Value} {xs:List Int} (h:(Ty.sl (.int .i64)).At w c xs) :
 ∃ (A:Option Addr) (cap:Nat),c 0=some (.slice A xs.length cap)∧dx iV w A xs∧(∀ x∈xs,-9223372036854775808≤x∧x≤9223372036854775807)∧xs.length*8≤140737488351232∧xs.length≤cap∧cap≤9223372036854775807:=by
 obtain ⟨A,cap,h0,hr,hb,hl,hc⟩:=rO h;obtain ⟨A',cap',h0',_,h3,_⟩:=h;rw [h0] at h0';simp only [Option.some.injEq,Value.slice.injEq] at h0';obtain ⟨rfl,_,rfl⟩:=h0';exact ⟨A,cap,h0,hr,hb,hl,hc,h3.2.1⟩
theorem sr {w:World} {b a:Nat} {v0 v1 v2 v3 v4 v5:Value} (h0:w.cell? ⟨b,a+0,none⟩=some v0) (h1:w.cell? ⟨b,a+1,none⟩=some v1) (h2:w.cell? ⟨b,a+2,none⟩=some v2) (h3:w.cell? ⟨b,a+3,none⟩=some v3) (h4:w.cell? ⟨b,a+4,none⟩=some v4) (h5:w.cell? ⟨b,a+5,none⟩=some v5):w.rangeAt b a [v0,v1,v2,v3,v4,v5]:=fun j v hv=>by
 match j,hv with
 |0,hv=>simp at hv;subst hv;exact h0
 |1,hv=>simp at hv;subst hv;exact h1
 |2,hv=>simp at hv;subst hv;exact h2
 |3,hv=>simp at hv;subst hv;exact h3
 |4,hv=>simp at hv;subst hv;exact h4
 |5,hv=>simp at hv;subst hv;exact h5
 |j+6,hv=>simp at hv
structure Ac where
 d:Int
 a:Int
 b:Int
 i:Int
 t:ByteArray
 Y:Option Addr
 yc:Nat
 ys:List Int
def acV (x:Ac):List Value:=[.int .i64 x.d,.int .i64 x.a,.int .i64 x.b,.int .i64 x.i,.string x.t,.slice x.Y x.ys.length x.yc]
structure pt (w:World) (x:Ac):Prop where
 ht:x.t.size≤140737488351232
 ry:dx iV w x.Y x.ys
 fy:∀ y∈x.ys,-9223372036854775808≤y∧y≤9223372036854775807
 ly:x.ys.length≤140737488351232
 cy:x.ys.length≤x.yc∧x.yc≤9223372036854775807
abbrev qF:Ty:=.pr (.int .i64) (.pr (.int .i64) (.pr (.int .i64) (.pr (.int .i64) (.pr .str (.pr (.sl (.int .i64)) .unit)))))
abbrev oJ:Ty:=.pr (.sl qF) (.pr (.sl (.int .i64)) .unit)
theorem rQ {w:World} {c:Nat→Option Value} {xs:List qF.den} (h:(Ty.sl qF).At w c xs):∃ (A:Option Addr) (cap:Nat) (L:List Ac),c 0=some (.slice A L.length cap)∧fU 6 acV w A L∧(∀ x∈L,pt w x)∧L.length≤140737488351232:=by
 obtain ⟨A,cap,h0,hb,_,hi⟩:=h;have hb2:xs.length*72≤140737488351232:=hb;rcases Nat.eq_zero_or_pos (List.length xs) with hz | hz
 ·exact ⟨A,cap,[],by rw [h0,hz];rfl,fun h=>absurd h (by simp),fun f hf=>(by cases hf),by simp⟩
 ·obtain ⟨b,o,hA,_,hx⟩:=hi hz
  obtain ⟨L,hL,hP⟩:=mn (α:=Ac) (n:=xs.length) (P:=fun i x=>w.rangeAt b (o+i*6) (acV x)∧pt w x) (fun i hi=>by
   obtain ⟨g0,g1,g2,g3,g4,g5,_⟩:=hx i _ (List.getElem?_eq_getElem hi);obtain ⟨Y,yc,m0,m1,m2,m3,m4⟩:=mL g5;exact ⟨⟨_,_,_,_,_,Y,yc,_⟩,sr (a:=o+i*6) g0.1 g1.1 g2.1 g3.1 g4.1 m0,g4.2,m1,m2,Nat.le_trans (Nat.le_mul_of_pos_right _ (by decide)) m3,m4⟩)
  refine ⟨A,cap,L,by rw [h0,hL],fun _=>⟨b,o,hA,fun i hi=>(hP i hi).1⟩,fun f hf=>?_,by omega⟩;obtain ⟨i,hi,rfl⟩:=List.getElem_of_mem hf;exact (hP i hi).2
structure nT (w:World) (A:Option Addr) (m:Nat) (L:List Ac):Prop where
 rowL:fU 6 acV w A L
 okL:∀ x∈L,pt w x
 lenL:L.length≤140737488351232
 lenM:m≤140737488351232
theorem pt.from_ {w w':World} {x:Ac} (h:pt w x) (hF:ai w w'):pt w' x:=⟨h.ht,h.ry.from_ hF,h.fy,h.ly,h.cy⟩
theorem nT.from_ {w w':World} {A:Option Addr} {m:Nat} {L:List Ac} (h:nT w A m L) (hF:ai w w'):nT w' A m L:=⟨h.rowL.from_ hF,fun x hx=>(h.okL x hx).from_ hF,h.lenL,h.lenM⟩
theorem mM {w:World} {cs:Array Value} {x:oJ.den} (hs:cs.size=2) (h:oJ.At w (fun j=>cs[j]?) x) :
 ∃ (A B:Option Addr) (ca cb m:Nat) (L:List Ac),cs=#[.slice A L.length ca,.slice B m cb]∧nT w A m L:=by
 obtain ⟨h1,h2,_⟩:=h;obtain ⟨A,ca,L,a0,a1,a2,a3⟩:=rQ h1;obtain ⟨B,cb,b0,_,_,b3,_⟩:=mL h2;have e0:cs[0]? =some _:=a0;have e1:cs[1]? =some _:=b0;refine ⟨A,B,ca,cb,_,L,?_,⟨a1,a2,a3,Nat.le_trans (Nat.le_mul_of_pos_right _ (by decide)) b3⟩⟩;obtain ⟨l⟩:=cs
 match l,hs with
 |[a,b],_=>
  simp only [List.getElem?_toArray,List.getElem?_cons_zero,List.getElem?_cons_succ,Option.some.injEq] at e0 e1;rw [e0,e1]
theorem kH {H:Type} {enc:TypeId×Value→H} {F:FuncId} {T:TypeId} (t u:Ty) (hf:(Ty.pr t u).fits prog (.inl T)=true) (laid:List (String×DataW Unit)) (hl:∀ W,laidMetH prog laid W→cQ W)
 (h:∀ (cs:Array Value) (x:(Ty.pr t u).den) (w:World),cs.size=(Ty.pr t u).size→(Ty.pr t u).At w (fun j=>cs[j]?) x→cQ w→Rt prog F [.agg cs] w fun v w'=>v=.bool true∧ai w w')
 (W:World) (base:Nat) (v:Value) (d:DataW H) (p:List MemPlace) (hL:laidMetH prog laid W) (_:W.ShapedOpen prog) (hok:Value.okWide prog W .any base T v) (ht:DataW.Trod enc prog W 0 (fun _=>true) true T v d p) (hsz:∀ n∈d.weights prog T,n≤140737488351232) :
 Calls prog F #[v] W fun e W'=>e=.returned (.bool true)∧ai W W':=by
 obtain ⟨cs,x,rfl,hs,ha⟩:=sI t u hf hok ht hsz;exact Rt.to (h cs x W hs ha (hl W hL))
def kV (k:Kt):List Value:=[.int .i64 k.a,.int .i64 k.b,.int .i64 k.i,.int .i64 k.o,.string k.t]
def wiN (i:Int) (n:Nat):Nat:=(IntKind.u64.wrap i).toNat%n
def k0:Kt:=⟨0,0,0,0,⟨#[]⟩⟩
theorem ll (a b:Int):bK a b ⟨#[]⟩=(inT a&&(decide (0≤b)&&decide (b≤7))):=by unfold bK;rw [beq_self_eq_true,Bool.and_true]
theorem qg:rU k0:=⟨by rw [ll];rfl,by decide⟩
theorem bJ.up {w w1 w9:World} {U:Nat→Prop} {s d:Nat} {k k':Kt} (h:bJ w U s d k) (hF:ai w w1) (h9:bJ w9 (Nx U w1 w9) s d k'):bJ w9 (Nx U w w9) s d k':=by
 obtain ⟨v,dt,r,x⟩:=h9.ex;exact ⟨h9.blk,fun e=>e.elim h.ns fun e=>by have:=h.blk.lt;omega,⟨v,dt,r,x.wide fun k hk _=>oe hk hF.size⟩,fun x hx=>hx.elim (fun hx=>h9.lt x (.inl hx)) And.right,h9.ok⟩
theorem nB:rS k0 none none:=⟨.inl ⟨rfl,rfl,rfl⟩,.inl ⟨rfl,rfl,rfl,rfl⟩⟩
def nxE (m:Nat) (x:Ac):Int:=if m≤2 then (if bK x.a x.b ⟨#[]⟩ then 0 else 1) else if m≤4 then (if cg x.i x.a x.t then 0 else 1) else 0
def nxK (k:Kt) (m:Nat) (x:Ac):Kt:=if m≤2 then (if bK x.a x.b ⟨#[]⟩ then { k with a:=x.a,b:=x.b } else k) else if m≤4 then (if cg x.i x.a x.t then { k with i:=x.i,o:=x.a,t:=x.t } else k) else k
theorem sB {D:List Fe} {gs:List Af} (h:gs.map afB=D.map fun e=>(e.1,e.2.1)) (hD:DOk D) (hn:∀ e∈D,okN e.1=true):sw gs:=by
 have hl:gs.length=D.length:=by have:=congrArg List.length h;simpa using this
 have hat:∀ j (h1:j<gs.length),afB gs[j]=((D[j]'(by omega)).1,(D[j]'(by omega)).2.1):=fun j h1=>by
  have h2:(gs.map afB)[j]? =(D.map fun e=>(e.1,e.2.1))[j]? :=by rw [h]
  rw [List.getElem?_map,List.getElem?_map,List.getElem?_eq_getElem h1,List.getElem?_eq_getElem (by omega)] at h2;simpa using h2
 have hnm:∀ j (h1:j<gs.length),gs[j].nm=(D[j]'(by omega)).1:=fun j h1=>congrArg Prod.fst (hat j h1)
 refine ⟨by rw [hl];exact hD.2.1,fun j hj=>⟨?_,?_,fun h0=>?_⟩⟩
 ·rw [hnm j hj];exact hn _ (List.getElem_mem _)
 ·rw [show gs[j].bs=(D[j]'(by omega)).2.1 from congrArg Prod.snd (hat j hj)];exact (hD.2.2 _ (List.getElem_mem _)).1
 ·rw [hnm j hj,hnm (j-1) (by omega)];exact hD.1.cmp (by omega) (by omega)
theorem sC {v d:Option (List Nat)} {gs:List Af} (h:gs.map afB=(SDk v d).map fun e=>(e.1,e.2.1)):gs.map afE=SDk v d:=by
 have:gs.map afE=(gs.map afB).map fun p=>(p.1,p.2,p.2):=by rw [List.map_map];rfl
 rw [this,h,List.map_map];cases v <;> cases d <;> rfl
theorem rY {v d:Option (List Nat)}:∀ e∈SDk v d,okN e.1=true:=by
 intro e he;cases v <;> cases d <;> simp [SDk,oD] at he
 ·rw [he];exact rn
 ·rw [he];exact rm
 ·rcases he with rfl | rfl
  ·exact rn
  ·exact rm
theorem sU {v d:Option (List Nat)}:∀ e∈SDk v d,e.1.size≤140737488351232:=fun e he=>by
 have h:=rY e he;unfold okN at h;simp only [Bool.and_eq_true,decide_eq_true_eq] at h;omega
theorem o3 (w:World):Rt prog 17 [.slice none 0 0] w fun v w'=>(∃ d,v=.tuple #[.pointer (some ⟨d,0,none⟩),.int .i64 0]∧cR w' (fun k=>w.heap.size≤k∧k<w'.heap.size) d [] 0 false)∧ai w w':=
 (p6 none 0 0 [] w (fun h=>absurd h (Nat.lt_irrefl _)) rfl (fun f hf=>by cases hf)).mono fun v w' h=>by
  obtain ⟨h,hF⟩:=h;rcases h with ⟨h,_⟩ | ⟨_,d,h,hd⟩
  ·exact absurd ⟨Nat.zero_le _,fun j hj=>absurd hj (Nat.not_lt_zero _)⟩ h
  ·exact ⟨⟨d,h,hd.wide fun k h1 h2=>⟨h1,h2⟩⟩,hF⟩
theorem cz (e:Int) (w:World) :
 Rt prog 8 [.int .i64 e] w (fun v w'=>v=.int .i64 e∧w=w'):=by
 refine enter (n:=4) Tryd.func8 rfl rfl rfl (ag (ab (asi rfl (ah (ae (ag (ab (mvi rfl (asi rfl (ah (ae (aw (bb (v:=.int _ _) rfl rfl (⟨rfl,rfl⟩))))))))))))))
theorem mj (e:Int) (w:World) :
 Rt prog 18 [.int .i64 e] w (fun v w'=>v=.int .i64 e∧w=w'):=by
 refine enter (n:=4) Tryd.func18 rfl rfl rfl (ag (ab (asi rfl (ah (ae (ag (ab (mvi rfl (asi rfl (ah (ae (aw (bb (v:=.int _ _) rfl rfl (⟨rfl,rfl⟩))))))))))))))
theorem jw (i:Int) (n:Nat) (w:World) (hn:0<n∧n≤1000) :
 Rt prog 12 [.int .i64 i,.int .i64 (n:Nat)] w (fun v w'=>v=.int .i64 (wiN i n:Nat)∧w=w'):=by
 obtain ⟨a,ha,ha2⟩:∃ a:Nat,IntKind.u64.wrap i=(a:Int)∧a<18446744073709551616:=⟨(IntKind.u64.wrap i).toNat,by rw [IntKind.wrap_u64];omega,by rw [IntKind.wrap_u64];omega⟩;have hm:a%n<n:=Nat.mod_lt _ hn.1;have hwi:wiN i n=a%n:=by unfold wiN;rw [ha];rfl
 refine enter (n:=11) Tryd.func12 rfl rfl rfl (ag (ab (asi rfl (ah (ae (ag (ab (mvi rfl (aa (n7 iz iQ rfl) (fX (t:=6) (v:=.int _ _) (v':=.int .u64 (a:Nat)) rfl (by rw [ha]) ?_))))))))));refine mvi rfl (aa (kM iz iQ rfl (by omega)) (aa (nk rfl rfl (by omega)) ?_));refine fX (t:=9) (v:=.int _ _) (v':=.int .u64 ((a%n:Nat):Int)) rfl (by rw [Int.tmod_eq_emod_of_nonneg (by omega)];rfl) ?_;refine aa (fY k_ gx rfl (by omega)) (asi rfl (ah (ae (aw (bb (v:=.int _ _) rfl rfl ?_)))));rw [hwi];exact ⟨rfl,rfl⟩
theorem lN (w:World) :
 Rt prog 6 [] w (fun v w'=>(∃ d,v=.pointer (some ⟨d,0,none⟩)∧cR w' (fun k=>w.heap.size≤k∧k<w'.heap.size) d (SDk none none) 0 false)∧ai w w'):=by
 refine enter (n:=11) Tryd.func6 rfl rfl rfl (ag (ab (asp rfl (ah (ae (ag (ab (av kj (o3 _) ?_))))))));rintro v4 w1 ⟨⟨d,rfl,hd4⟩,E4⟩;refine mvt rfl (aa (ax rfl rfl) (aa (ax rfl rfl) (asp rfl (asi rfl (ah (ae (ag (ag (ab (mvi rfl (av kh (mj _ _) ?_)))))))))));rintro v8 w2 ⟨rfl,rfl⟩;refine aa (bx (cc rfl rfl) rfl) (ah (ae (aY rfl (aC (ae (ag (ab (mvp rfl (asp rfl (ah (ae (aw (bb (v:=.pointer _) rfl rfl (⟨⟨d,rfl,hd4⟩,(ai.rfl_.next E4)⟩))))))))))))))
theorem mN (d:Nat) (U:Nat→Prop) (v dt:Option (List Nat)) (PA:Option Addr) (pc:Nat) (ps:List Int) (w:World) (hd:cR w U d (SDk v dt) 0 false) (hr:dx iV w PA ps) (hpc:ps.length≤pc∧pc≤9223372036854775807) (hpb:∀ q∈ps,-9223372036854775808≤q∧q≤9223372036854775807) :
 Rt prog 13 [.pointer (some ⟨d,0,none⟩),.slice PA ps.length pc] w (fun r w'=>(∃ x,r=.pointer (some ⟨x,0,none⟩)∧cR w' (fun k=>w.heap.size≤k∧k<w'.heap.size) x (SDk v dt) 0 false)∧ai w w'):=by
 refine enter (n:=18) Tryd.func13 rfl rfl rfl (ag (ab (asp rfl (ah (ae (ag (ab (mvp rfl (mvs rfl (av nO (qv _ d _ _ _ _ (hd.from_ ai.rfl_) PA pc ps.length ps (hr.from_ ai.rfl_) rfl hpc.1 hpc.2 hpb sU) ?_))))))))));rintro v10 w1 ⟨⟨A10,c10,n10,gs,rfl,hn10,hgs,ho10,hown⟩,E10⟩;rw [pM] at hgs;have hmy:=sB hgs hd.ok rY;have hz11:=((ai.rfl_.next E10)).size;refine av kj (p6 A10 c10 _ gs _ ((fU.own rR (by decide) ho10).2.from_ ai.rfl_) hn10 (fun f hf=>((hown f hf).from_ ai.rfl_).ok)) ?_;rintro v11 w2 ⟨hn11,E11⟩;rcases hn11 with ⟨hno,_⟩ | ⟨_,x,rfl,hx⟩
 ·exact absurd hmy hno
 rw [sC hgs] at hx;refine mvt rfl (aa (ax rfl rfl) (aa (ax rfl rfl) (asp rfl (asi rfl (ah (ae (ag (ag (ab (mvi rfl (av kh (mj _ _) ?_)))))))))));rintro v15 w3 ⟨rfl,rfl⟩;refine aa (bx (cc rfl rfl) rfl) (ah (ae (aY rfl (aC (ae (ag (ab (mvp rfl (asp rfl (ah (ae (aw (bb (v:=.pointer _) rfl rfl (⟨⟨x,rfl,hx.wide fun k h1 h2=>⟨Nat.le_trans hz11 h1,h2⟩⟩,((ai.rfl_.next E10).next E11)⟩))))))))))))))
theorem js (s d:Nat) (k:Kt) (U:Nat→Prop) (w:World) (h:bJ w U s d k) :
 Rt prog 9 [.pointer (some ⟨s,0,none⟩),.agg (kV k).toArray] w (fun v w'=>v=.bool true∧ai w w'):=by
 refine enter (n:=49) Tryd.func9 rfl rfl rfl (ag (ab (de (v:=.agg _) rfl ?_)));intro b3 w1 E3 hb3 hk3;refine asb rfl (ah (ae (ag (ab (mvp rfl (av kg (nU s d k U _ (h.from_ (ai.rfl_.next E3))) ?_))))));rintro v12 w2 ⟨rfl,E12⟩;refine mvt rfl (aa (ax rfl rfl) (aa (ax rfl rfl) (asi rfl (asi rfl (ah (ae (ag (ab (mvp rfl (av nP (l4 s d k U _ (h.from_ ((ai.rfl_.next E3).next E12))) ?_))))))))));rintro v17 w3 ⟨rfl,E17⟩;refine mvt rfl (aa (ax rfl rfl) (aa (ax rfl rfl) (aa (ax rfl rfl) (asi rfl (asi rfl (asg rfl (ah (ae (ag (ab (mvi rfl ?_)))))))))));refine aa (af eH rfl) (aa (ao aL rfl (by exact (hk3.from_ ((ai.rfl_.next E12).next E17)).rd 0 rfl)) ?_);refine aa (dB (br rfl rfl) (beq_self_eq_true _)) (mvb rfl (ak rfl (mvi rfl (ak rfl (aa (af eG rfl) (ak rfl (aa (ao aL rfl (by exact (hk3.from_ ((ai.rfl_.next E12).next E17)).rd 1 rfl)) ?_)))))));refine ak rfl (aa (dB (br rfl rfl) (beq_self_eq_true _)) (aa (aG (v:=.bool _) rfl rfl) (mvb rfl (ak rfl (mvi rfl (ak rfl (aa (af fP rfl) (ak rfl ?_))))))));refine aa (ao aL rfl (by exact (hk3.from_ ((ai.rfl_.next E12).next E17)).rd 2 rfl)) ?_;refine ak rfl (aa (dB (br rfl rfl) (beq_self_eq_true _)) (aa (aG (v:=.bool _) rfl rfl) (mvb rfl (ak rfl (mvi rfl (ak rfl (aa (af fO rfl) (ak rfl ?_))))))));refine aa (ao aL rfl (by exact (hk3.from_ ((ai.rfl_.next E12).next E17)).rd 3 rfl)) ?_;refine ak rfl (aa (dB (br rfl rfl) (beq_self_eq_true _)) (aa (aG (v:=.bool _) rfl rfl) (mvb rfl (ak rfl (mvg rfl (ak rfl (aa (af fN rfl) (ak rfl ?_))))))));refine aa (ao a7 rfl (by exact (hk3.from_ ((ai.rfl_.next E12).next E17)).rd 4 rfl)) ?_;refine ak rfl (aa (dB (gD rfl rfl) (beq_self_eq_true _)) (aa (aG (v:=.bool _) rfl rfl) (asb rfl (ah (ae (aw (bb (v:=.bool _) rfl rfl (⟨rfl,(((ai.rfl_.next E3).next E12).next E17)⟩))))))))
theorem gp:iT prog 36=some (.agg #[.int .i64 0,.int .i64 0,.int .i64 0,.int .i64 0,.string ⟨#[]⟩]):=by kernel_rfl
theorem fm:bQ prog 40 0=some 0:=by kernel_rfl
theorem gr:aI prog 12=true:=by kernel_rfl
theorem bf:bQ prog 40 1=some 1:=by kernel_rfl
theorem di:aI prog 27=true:=by kernel_rfl
theorem aE:fj prog 36=some true:=by kernel_rfl
theorem ar:cr prog 36=some 5:=by kernel_rfl
theorem bG:bQ prog 40 2=some 2:=by kernel_rfl
theorem c9:bQ prog 40 3=some 3:=by kernel_rfl
theorem cL:bQ prog 40 4=some 4:=by kernel_rfl
theorem kk:cr prog 9=some 1:=by kernel_rfl
theorem ei:aI prog 15=true:=by kernel_rfl
theorem bU:aI prog 8=true:=by kernel_rfl
theorem gq:aI prog 16=true:=by kernel_rfl
theorem rr (k:Kt) (x:Ac) (w:World) (_:x.t.size≤140737488351232) :
 Rt prog 10 [.agg (kV k).toArray,.agg (acV x).toArray] w (fun v w'=>v=.tuple #[.agg (kV (nxK k (wiN x.d 6) x)).toArray,.int .i64 (nxE (wiN x.d 6) x)]∧ai w w'):=by
 have hmx:wiN x.d 6<6:=Nat.mod_lt _ (by decide);refine enter (n:=64) Tryd.func10 rfl rfl rfl (ag (ab (de (v:=.agg _) rfl ?_)));intro b2 w1 E2 hb2 hk2;have hl2:=hk2.lt;have hg2:w.heap.size≤b2:=by rw [hb2];exact (ai.rfl_).size
 refine de (v:=.agg _) rfl ?_;intro b3 w2 E3 hb3 hk3;replace hk2:=hk2.from_ E3;have hl3:=hk3.lt;have hg3:w.heap.size≤b3:=by rw [hb3];exact ((ai.rfl_.next E2)).size
 refine cM gp ?_;intro b4 w3 E4 hb4 hk4;replace hk2:=hk2.from_ E4;replace hk3:=hk3.from_ E4;have hl4:=hk4.lt;have hg4:w.heap.size≤b4:=by rw [hb4];exact (((ai.rfl_.next E2).next E3)).size
 refine asi rfl (ah (ae (ag (ag (ab (aa (af fm rfl) (aa (ao aL rfl (by exact (hk3.from_ ai.rfl_).rd 0 rfl)) ?_)))))));refine av gr (jw x.d 6 _ (by decide)) ?_;rintro v8 w4 ⟨rfl,rfl⟩;refine ah (ae (bu (ag (ag (ab (aa (br rfl rfl) (asb rfl (ah (ae (tc rfl (fun Q5=>?_) (fun Q5=>?_)))))))))))
 ·refine aC (ae (tc rfl (fun Q6=>?_) (fun Q6=>?_)));rotate_left
  ·exfalso;omega
  refine ag (ag (ab (aa (af bf rfl) (aa (ao aL rfl (by exact (hk3.from_ ai.rfl_).rd 1 rfl)) ?_))));refine av di (fH _ _) ?_;rintro v15 w34 ⟨rfl,rfl⟩;refine aa (bl rfl) (mvb rfl (sL (t:=17) rfl (fun Q35=>?_) (fun Q35=>?_)))
  ·refine aq rfl rfl (aq rfl rfl (aq rfl rfl (aa (aG (v:=.bool _) rfl rfl) (mvb rfl (aq rfl rfl (aq rfl rfl (aq rfl rfl (aa (aG (v:=.bool _) rfl rfl) ?_))))))));refine ah (ae (bR rfl (ag (ab (aa (aQ (cs:=[_,_,_,_,_]) aE ar rfl (by exact (hk2.from_ ai.rfl_).whole)) ?_)))));refine bh (vs:=[_,_,_,_,_]) ar rfl rfl (by simp [Value.oneCell']) (hk4) rfl ?_;intro w36 O6 P6;refine asi rfl (ah (ae (aw (aD (aX (aD (dg rfl (bw (cs:=[_,_,_,_,_]) aE ar rfl (by first | exact P6.whole | exact P11.whole | exact P13.whole)) (cu (v:=.int _ _) rfl) ?_)))))));have hvb:bK x.a x.b ⟨#[]⟩=false:=by unfold bK;first | (simp_all;done) | (simp_all;omega)
   have hm:wiN x.d 6≤2:=by omega
   unfold nxE nxK;rw [if_pos hm,if_pos hm,hvb];exact ⟨rfl,((((ai.rfl_.next E2).next E3).next E4).only O6 (hg4))⟩
  refine ak rfl (aa (af bG rfl) (ak rfl (aa (ao aL rfl (by exact (hk3.from_ ai.rfl_).rd 2 rfl)) ?_)));refine ak rfl (aa (cv rfl rfl) (aa (aF (v:=.bool _) rfl rfl) (mvb rfl (sO (t:=22) rfl (fun Q37=>?_) (fun Q37=>?_)))))
  ·refine aq rfl rfl (aq rfl rfl (aq rfl rfl (aa (aG (v:=.bool _) rfl rfl) (ah (ae (bR rfl (ag (ab (aa (aQ (cs:=[_,_,_,_,_]) aE ar rfl (by exact (hk2.from_ ai.rfl_).whole)) ?_)))))))));refine bh (vs:=[_,_,_,_,_]) ar rfl rfl (by simp [Value.oneCell']) (hk4) rfl ?_;intro w38 O6 P6;refine asi rfl (ah (ae (aw (aD (aX (aD (dg rfl (bw (cs:=[_,_,_,_,_]) aE ar rfl (by first | exact P6.whole | exact P11.whole | exact P13.whole)) (cu (v:=.int _ _) rfl) ?_)))))));have hvb:bK x.a x.b ⟨#[]⟩=false:=by unfold bK;first | (simp_all;done) | (simp_all;omega)
   have hm:wiN x.d 6≤2:=by omega
   unfold nxE nxK;rw [if_pos hm,if_pos hm,hvb];exact ⟨rfl,((((ai.rfl_.next E2).next E3).next E4).only O6 (hg4))⟩
  refine ak rfl (aa (af bG rfl) (ak rfl (aa (ao aL rfl (by exact (hk3.from_ ai.rfl_).rd 2 rfl)) ?_)));refine ak rfl (aa (cm rfl rfl) (aa (aF (v:=.bool _) rfl rfl) (ah (ae (tc rfl (fun Q39=>?_) (fun Q39=>?_))))))
  ·refine ag (ab (aa (aQ (cs:=[_,_,_,_,_]) aE ar rfl (by exact (hk2.from_ ai.rfl_).whole)) ?_));refine bh (vs:=[_,_,_,_,_]) ar rfl rfl (by simp [Value.oneCell']) (hk4) rfl ?_;intro w40 O6 P6;refine asi rfl (ah (ae (aw (aD (aX (aD (dg rfl (bw (cs:=[_,_,_,_,_]) aE ar rfl (by first | exact P6.whole | exact P11.whole | exact P13.whole)) (cu (v:=.int _ _) rfl) ?_)))))));have hvb:bK x.a x.b ⟨#[]⟩=false:=by unfold bK;first | (simp_all;done) | (simp_all;omega)
   have hm:wiN x.d 6≤2:=by omega
   unfold nxE nxK;rw [if_pos hm,if_pos hm,hvb];exact ⟨rfl,((((ai.rfl_.next E2).next E3).next E4).only O6 (hg4))⟩
  have hvb:bK x.a x.b ⟨#[]⟩=true:=by unfold bK;first | (simp_all;done) | (simp_all;omega)
  have hm:wiN x.d 6≤2:=by omega
  refine aC (ae ?_);have hU41:gW [(0,28,.pointer (some ⟨b3,0+1,none⟩)),(1,29,.int .i64 x.a),(2,30,.pointer (some ⟨b3,0+2,none⟩)),(3,31,.int .i64 x.b),(4,32,.pointer (some ⟨b2,0+0,none⟩)),(6,33,.pointer (some ⟨b2,0+1,none⟩))]:=by simp [gW]
  refine iu [(0,28,.pointer (some ⟨b3,0+1,none⟩)),(1,29,.int .i64 x.a),(2,30,.pointer (some ⟨b3,0+2,none⟩)),(3,31,.int .i64 x.b),(4,32,.pointer (some ⟨b2,0+0,none⟩)),(6,33,.pointer (some ⟨b2,0+1,none⟩))] (fun S w'=>Blk w' b3 40 (acV x).toArray∧Blk w' b2 36 #[bif S 5 then .int .i64 x.a else .int .i64 k.a,bif S 7 then .int .i64 x.b else .int .i64 k.b,.int .i64 k.i,.int .i64 k.o,.string k.t]∧Blk w' b4 36 #[.int .i64 0,.int .i64 0,.int .i64 0,.int .i64 0,.string ⟨#[]⟩]∧ai w w') (by kernel_rfl) (by kernel_rfl) hU41 (by simp) (⟨hk3.from_ ((ai.rfl_).d1),hk2.from_ ((ai.rfl_).d1),hk4.from_ ((ai.rfl_).d1),((((ai.rfl_.next E2).next E3).next E4)).d1⟩) ?_ ?_
  ·constructor
   ·rintro S L' wS hI hM hS0 ⟨-⟩;have e3:=hI.1 3 (by simp);have hM':=hM;obtain ⟨hk3,hk2,hk4,hB⟩:=hM';exact a8 (af bf e3) ⟨hI.put hU41 (.head _),hM⟩
   constructor
   ·rintro S L' wS hI hM hS0 ⟨d0,-⟩;have e28:aM L' 28=.pointer (some ⟨b3,0+1,none⟩):=hI.get (i:=0) (.head _) d0;have hM':=hM;obtain ⟨hk3,hk2,hk4,hB⟩:=hM';exact a8 (ao aL e28 (by exact hk3.rd 1 rfl)) ⟨hI.put hU41 (.tail _ (.head _)),hM⟩
   constructor
   ·rintro S L' wS hI hM hS0 ⟨-,-⟩;have e3:=hI.1 3 (by simp);have hM':=hM;obtain ⟨hk3,hk2,hk4,hB⟩:=hM';exact a8 (af bG e3) ⟨hI.put hU41 (.tail _ (.tail _ (.head _))),hM⟩
   constructor
   ·rintro S L' wS hI hM hS0 ⟨d2,-,-⟩;have e30:aM L' 30=.pointer (some ⟨b3,0+2,none⟩):=hI.get (i:=2) (.tail _ (.tail _ (.head _))) d2;have hM':=hM;obtain ⟨hk3,hk2,hk4,hB⟩:=hM';exact a8 (ao aL e30 (by exact hk3.rd 2 rfl)) ⟨hI.put hU41 (.tail _ (.tail _ (.tail _ (.head _)))),hM⟩
   constructor
   ·rintro S L' wS hI hM hS0 ⟨d0,d1,-,-,-⟩;have e2:=hI.1 2 (by simp);have hM':=hM;obtain ⟨hk3,hk2,hk4,hB⟩:=hM';exact a8 (af eH e2) ⟨hI.put hU41 (.tail _ (.tail _ (.tail _ (.tail _ (.head _))))),hM⟩
   constructor
   ·rintro S L' wS hI hM hS0 ⟨d4,d1,d0,d1,-,-,-⟩;have e29:aM L' 29=.int .i64 x.a:=hI.get (i:=1) (.tail _ (.head _)) d1;have e32:aM L' 32=.pointer (some ⟨b2,0+0,none⟩):=hI.get (i:=4) (.tail _ (.tail _ (.tail _ (.tail _ (.head _))))) d4;have hM':=hM;obtain ⟨hk3,hk2,hk4,hB⟩:=hM';obtain ⟨w2,hR,hO,hb⟩:=en (n:=64) (L:=L') (x:=.tmp 32) (y:=.tmp 29) cZ e32 e29 rfl hk2 (by simp);exact dy hR ⟨hI.skip (by simp),hk3.only hO (by omega),hb,hk4.only hO (by omega),hB.only hO hg2⟩
   constructor
   ·rintro S L' wS hI hM hS0 ⟨d0,d1,d2,d3,d4,d5,-⟩;have e2:=hI.1 2 (by simp);have hM':=hM;obtain ⟨hk3,hk2,hk4,hB⟩:=hM';exact a8 (af eG e2) ⟨hI.put hU41 (.tail _ (.tail _ (.tail _ (.tail _ (.tail _ (.head _)))))),hM⟩
   constructor
   ·rintro S L' wS hI hM hS0 ⟨d6,d3,d5,d0,d1,d2,d3,d4,d5,-⟩;have e31:aM L' 31=.int .i64 x.b:=hI.get (i:=3) (.tail _ (.tail _ (.tail _ (.head _)))) d3;have e33:aM L' 33=.pointer (some ⟨b2,0+1,none⟩):=hI.get (i:=6) (.tail _ (.tail _ (.tail _ (.tail _ (.tail _ (.head _)))))) d6;have hM':=hM;obtain ⟨hk3,hk2,hk4,hB⟩:=hM';obtain ⟨w2,hR,hO,hb⟩:=en (n:=64) (L:=L') (x:=.tmp 33) (y:=.tmp 31) cZ e33 e31 rfl hk2 (by simp);exact dy hR ⟨hI.skip (by simp),hk3.only hO (by omega),hb,hk4.only hO (by omega),hB.only hO hg2⟩
   exact trivial
  ·intro w42 hM;obtain ⟨hk3,hk2,hk4,hB⟩:=hM;replace hk2:Blk w42 b2 36 (kV { k with a:=x.a,b:=x.b }).toArray:=hk2;refine bA (ae (ag (ab (aa (aQ (cs:=[_,_,_,_,_]) aE ar rfl (by exact (hk2.from_ ai.rfl_).whole)) ?_))));refine bh (vs:=[_,_,_,_,_]) ar rfl rfl (by simp [Value.oneCell']) (hk4) rfl ?_;intro w43 O13 P13;refine asi rfl (ah (ae (aw (dg rfl (bw (cs:=[_,_,_,_,_]) aE ar rfl (by first | exact P6.whole | exact P11.whole | exact P13.whole)) (cu (v:=.int _ _) rfl) ?_))));unfold nxE nxK
   first
    |(rw [if_pos hm,if_pos hm,hvb];exact ⟨rfl,(hB.only O13 (hg4))⟩)
    |(rw [if_neg hm,if_neg hm,if_pos hm4,if_pos hm4,hvb];exact ⟨rfl,(hB.only O13 (hg4))⟩)
    |(rw [if_neg (show ¬ wiN x.d 6≤2 by omega),if_neg (show ¬ wiN x.d 6≤2 by omega),if_neg (show ¬ wiN x.d 6≤4 by omega),if_neg (show ¬ wiN x.d 6≤4 by omega)];exact ⟨rfl,(hB.only O13 (hg4))⟩)
 refine ag (ab (aa (br rfl rfl) (asb rfl (ah (ae (tc rfl (fun Q44=>?_) (fun Q44=>?_)))))))
 ·refine aC (ae (tc rfl (fun Q45=>?_) (fun Q45=>?_)));rotate_left
  ·exfalso;omega
  refine ag (ag (ab (aa (af bf rfl) (aa (ao aL rfl (by exact (hk3.from_ ai.rfl_).rd 1 rfl)) ?_))));refine av di (fH _ _) ?_;rintro v15 w73 ⟨rfl,rfl⟩;refine aa (bl rfl) (mvb rfl (sL (t:=17) rfl (fun Q74=>?_) (fun Q74=>?_)))
  ·refine aq rfl rfl (aq rfl rfl (aq rfl rfl (aa (aG (v:=.bool _) rfl rfl) (mvb rfl (aq rfl rfl (aq rfl rfl (aq rfl rfl (aa (aG (v:=.bool _) rfl rfl) ?_))))))));refine ah (ae (bR rfl (ag (ab (aa (aQ (cs:=[_,_,_,_,_]) aE ar rfl (by exact (hk2.from_ ai.rfl_).whole)) ?_)))));refine bh (vs:=[_,_,_,_,_]) ar rfl rfl (by simp [Value.oneCell']) (hk4) rfl ?_;intro w75 O6 P6;refine asi rfl (ah (ae (aw (aD (aX (aD (dg rfl (bw (cs:=[_,_,_,_,_]) aE ar rfl (by first | exact P6.whole | exact P11.whole | exact P13.whole)) (cu (v:=.int _ _) rfl) ?_)))))));have hvb:bK x.a x.b ⟨#[]⟩=false:=by unfold bK;first | (simp_all;done) | (simp_all;omega)
   have hm:wiN x.d 6≤2:=by omega
   unfold nxE nxK;rw [if_pos hm,if_pos hm,hvb];exact ⟨rfl,((((ai.rfl_.next E2).next E3).next E4).only O6 (hg4))⟩
  refine ak rfl (aa (af bG rfl) (ak rfl (aa (ao aL rfl (by exact (hk3.from_ ai.rfl_).rd 2 rfl)) ?_)));refine ak rfl (aa (cv rfl rfl) (aa (aF (v:=.bool _) rfl rfl) (mvb rfl (sO (t:=22) rfl (fun Q76=>?_) (fun Q76=>?_)))))
  ·refine aq rfl rfl (aq rfl rfl (aq rfl rfl (aa (aG (v:=.bool _) rfl rfl) (ah (ae (bR rfl (ag (ab (aa (aQ (cs:=[_,_,_,_,_]) aE ar rfl (by exact (hk2.from_ ai.rfl_).whole)) ?_)))))))));refine bh (vs:=[_,_,_,_,_]) ar rfl rfl (by simp [Value.oneCell']) (hk4) rfl ?_;intro w77 O6 P6;refine asi rfl (ah (ae (aw (aD (aX (aD (dg rfl (bw (cs:=[_,_,_,_,_]) aE ar rfl (by first | exact P6.whole | exact P11.whole | exact P13.whole)) (cu (v:=.int _ _) rfl) ?_)))))));have hvb:bK x.a x.b ⟨#[]⟩=false:=by unfold bK;first | (simp_all;done) | (simp_all;omega)
   have hm:wiN x.d 6≤2:=by omega
   unfold nxE nxK;rw [if_pos hm,if_pos hm,hvb];exact ⟨rfl,((((ai.rfl_.next E2).next E3).next E4).only O6 (hg4))⟩
  refine ak rfl (aa (af bG rfl) (ak rfl (aa (ao aL rfl (by exact (hk3.from_ ai.rfl_).rd 2 rfl)) ?_)));refine ak rfl (aa (cm rfl rfl) (aa (aF (v:=.bool _) rfl rfl) (ah (ae (tc rfl (fun Q78=>?_) (fun Q78=>?_))))))
  ·refine ag (ab (aa (aQ (cs:=[_,_,_,_,_]) aE ar rfl (by exact (hk2.from_ ai.rfl_).whole)) ?_));refine bh (vs:=[_,_,_,_,_]) ar rfl rfl (by simp [Value.oneCell']) (hk4) rfl ?_;intro w79 O6 P6;refine asi rfl (ah (ae (aw (aD (aX (aD (dg rfl (bw (cs:=[_,_,_,_,_]) aE ar rfl (by first | exact P6.whole | exact P11.whole | exact P13.whole)) (cu (v:=.int _ _) rfl) ?_)))))));have hvb:bK x.a x.b ⟨#[]⟩=false:=by unfold bK;first | (simp_all;done) | (simp_all;omega)
   have hm:wiN x.d 6≤2:=by omega
   unfold nxE nxK;rw [if_pos hm,if_pos hm,hvb];exact ⟨rfl,((((ai.rfl_.next E2).next E3).next E4).only O6 (hg4))⟩
  have hvb:bK x.a x.b ⟨#[]⟩=true:=by unfold bK;first | (simp_all;done) | (simp_all;omega)
  have hm:wiN x.d 6≤2:=by omega
  refine aC (ae ?_);have hU80:gW [(0,28,.pointer (some ⟨b3,0+1,none⟩)),(1,29,.int .i64 x.a),(2,30,.pointer (some ⟨b3,0+2,none⟩)),(3,31,.int .i64 x.b),(4,32,.pointer (some ⟨b2,0+0,none⟩)),(6,33,.pointer (some ⟨b2,0+1,none⟩))]:=by simp [gW]
  refine iu [(0,28,.pointer (some ⟨b3,0+1,none⟩)),(1,29,.int .i64 x.a),(2,30,.pointer (some ⟨b3,0+2,none⟩)),(3,31,.int .i64 x.b),(4,32,.pointer (some ⟨b2,0+0,none⟩)),(6,33,.pointer (some ⟨b2,0+1,none⟩))] (fun S w'=>Blk w' b3 40 (acV x).toArray∧Blk w' b2 36 #[bif S 5 then .int .i64 x.a else .int .i64 k.a,bif S 7 then .int .i64 x.b else .int .i64 k.b,.int .i64 k.i,.int .i64 k.o,.string k.t]∧Blk w' b4 36 #[.int .i64 0,.int .i64 0,.int .i64 0,.int .i64 0,.string ⟨#[]⟩]∧ai w w') (by kernel_rfl) (by kernel_rfl) hU80 (by simp) (⟨hk3.from_ ((ai.rfl_).d1),hk2.from_ ((ai.rfl_).d1),hk4.from_ ((ai.rfl_).d1),((((ai.rfl_.next E2).next E3).next E4)).d1⟩) ?_ ?_
  ·constructor
   ·rintro S L' wS hI hM hS0 ⟨-⟩;have e3:=hI.1 3 (by simp);have hM':=hM;obtain ⟨hk3,hk2,hk4,hB⟩:=hM';exact a8 (af bf e3) ⟨hI.put hU80 (.head _),hM⟩
   constructor
   ·rintro S L' wS hI hM hS0 ⟨d0,-⟩;have e28:aM L' 28=.pointer (some ⟨b3,0+1,none⟩):=hI.get (i:=0) (.head _) d0;have hM':=hM;obtain ⟨hk3,hk2,hk4,hB⟩:=hM';exact a8 (ao aL e28 (by exact hk3.rd 1 rfl)) ⟨hI.put hU80 (.tail _ (.head _)),hM⟩
   constructor
   ·rintro S L' wS hI hM hS0 ⟨-,-⟩;have e3:=hI.1 3 (by simp);have hM':=hM;obtain ⟨hk3,hk2,hk4,hB⟩:=hM';exact a8 (af bG e3) ⟨hI.put hU80 (.tail _ (.tail _ (.head _))),hM⟩
   constructor
   ·rintro S L' wS hI hM hS0 ⟨d2,-,-⟩;have e30:aM L' 30=.pointer (some ⟨b3,0+2,none⟩):=hI.get (i:=2) (.tail _ (.tail _ (.head _))) d2;have hM':=hM;obtain ⟨hk3,hk2,hk4,hB⟩:=hM';exact a8 (ao aL e30 (by exact hk3.rd 2 rfl)) ⟨hI.put hU80 (.tail _ (.tail _ (.tail _ (.head _)))),hM⟩
   constructor
   ·rintro S L' wS hI hM hS0 ⟨d0,d1,-,-,-⟩;have e2:=hI.1 2 (by simp);have hM':=hM;obtain ⟨hk3,hk2,hk4,hB⟩:=hM';exact a8 (af eH e2) ⟨hI.put hU80 (.tail _ (.tail _ (.tail _ (.tail _ (.head _))))),hM⟩
   constructor
   ·rintro S L' wS hI hM hS0 ⟨d4,d1,d0,d1,-,-,-⟩;have e29:aM L' 29=.int .i64 x.a:=hI.get (i:=1) (.tail _ (.head _)) d1;have e32:aM L' 32=.pointer (some ⟨b2,0+0,none⟩):=hI.get (i:=4) (.tail _ (.tail _ (.tail _ (.tail _ (.head _))))) d4;have hM':=hM;obtain ⟨hk3,hk2,hk4,hB⟩:=hM';obtain ⟨w2,hR,hO,hb⟩:=en (n:=64) (L:=L') (x:=.tmp 32) (y:=.tmp 29) cZ e32 e29 rfl hk2 (by simp);exact dy hR ⟨hI.skip (by simp),hk3.only hO (by omega),hb,hk4.only hO (by omega),hB.only hO hg2⟩
   constructor
   ·rintro S L' wS hI hM hS0 ⟨d0,d1,d2,d3,d4,d5,-⟩;have e2:=hI.1 2 (by simp);have hM':=hM;obtain ⟨hk3,hk2,hk4,hB⟩:=hM';exact a8 (af eG e2) ⟨hI.put hU80 (.tail _ (.tail _ (.tail _ (.tail _ (.tail _ (.head _)))))),hM⟩
   constructor
   ·rintro S L' wS hI hM hS0 ⟨d6,d3,d5,d0,d1,d2,d3,d4,d5,-⟩;have e31:aM L' 31=.int .i64 x.b:=hI.get (i:=3) (.tail _ (.tail _ (.tail _ (.head _)))) d3;have e33:aM L' 33=.pointer (some ⟨b2,0+1,none⟩):=hI.get (i:=6) (.tail _ (.tail _ (.tail _ (.tail _ (.tail _ (.head _)))))) d6;have hM':=hM;obtain ⟨hk3,hk2,hk4,hB⟩:=hM';obtain ⟨w2,hR,hO,hb⟩:=en (n:=64) (L:=L') (x:=.tmp 33) (y:=.tmp 31) cZ e33 e31 rfl hk2 (by simp);exact dy hR ⟨hI.skip (by simp),hk3.only hO (by omega),hb,hk4.only hO (by omega),hB.only hO hg2⟩
   exact trivial
  ·intro w81 hM;obtain ⟨hk3,hk2,hk4,hB⟩:=hM;replace hk2:Blk w81 b2 36 (kV { k with a:=x.a,b:=x.b }).toArray:=hk2;refine bA (ae (ag (ab (aa (aQ (cs:=[_,_,_,_,_]) aE ar rfl (by exact (hk2.from_ ai.rfl_).whole)) ?_))));refine bh (vs:=[_,_,_,_,_]) ar rfl rfl (by simp [Value.oneCell']) (hk4) rfl ?_;intro w82 O13 P13;refine asi rfl (ah (ae (aw (dg rfl (bw (cs:=[_,_,_,_,_]) aE ar rfl (by first | exact P6.whole | exact P11.whole | exact P13.whole)) (cu (v:=.int _ _) rfl) ?_))));unfold nxE nxK
   first
    |(rw [if_pos hm,if_pos hm,hvb];exact ⟨rfl,(hB.only O13 (hg4))⟩)
    |(rw [if_neg hm,if_neg hm,if_pos hm4,if_pos hm4,hvb];exact ⟨rfl,(hB.only O13 (hg4))⟩)
    |(rw [if_neg (show ¬ wiN x.d 6≤2 by omega),if_neg (show ¬ wiN x.d 6≤2 by omega),if_neg (show ¬ wiN x.d 6≤4 by omega),if_neg (show ¬ wiN x.d 6≤4 by omega)];exact ⟨rfl,(hB.only O13 (hg4))⟩)
 refine ab (aa (br rfl rfl) (asb rfl (ah (ae (tc rfl (fun Q83=>?_) (fun Q83=>?_))))))
 ·refine ag (ag (ab (aa (af bf rfl) (aa (ao aL rfl (by exact (hk3.from_ ai.rfl_).rd 1 rfl)) ?_))));refine av di (fH _ _) ?_;rintro v15 w84 ⟨rfl,rfl⟩;refine aa (bl rfl) (mvb rfl (sL (t:=17) rfl (fun Q85=>?_) (fun Q85=>?_)))
  ·refine aq rfl rfl (aq rfl rfl (aq rfl rfl (aa (aG (v:=.bool _) rfl rfl) (mvb rfl (aq rfl rfl (aq rfl rfl (aq rfl rfl (aa (aG (v:=.bool _) rfl rfl) ?_))))))));refine ah (ae (bR rfl (ag (ab (aa (aQ (cs:=[_,_,_,_,_]) aE ar rfl (by exact (hk2.from_ ai.rfl_).whole)) ?_)))));refine bh (vs:=[_,_,_,_,_]) ar rfl rfl (by simp [Value.oneCell']) (hk4) rfl ?_;intro w86 O6 P6;refine asi rfl (ah (ae (aw (aD (aX (aD (dg rfl (bw (cs:=[_,_,_,_,_]) aE ar rfl (by first | exact P6.whole | exact P11.whole | exact P13.whole)) (cu (v:=.int _ _) rfl) ?_)))))));have hvb:bK x.a x.b ⟨#[]⟩=false:=by unfold bK;first | (simp_all;done) | (simp_all;omega)
   have hm:wiN x.d 6≤2:=by omega
   unfold nxE nxK;rw [if_pos hm,if_pos hm,hvb];exact ⟨rfl,((((ai.rfl_.next E2).next E3).next E4).only O6 (hg4))⟩
  refine ak rfl (aa (af bG rfl) (ak rfl (aa (ao aL rfl (by exact (hk3.from_ ai.rfl_).rd 2 rfl)) ?_)));refine ak rfl (aa (cv rfl rfl) (aa (aF (v:=.bool _) rfl rfl) (mvb rfl (sO (t:=22) rfl (fun Q87=>?_) (fun Q87=>?_)))))
  ·refine aq rfl rfl (aq rfl rfl (aq rfl rfl (aa (aG (v:=.bool _) rfl rfl) (ah (ae (bR rfl (ag (ab (aa (aQ (cs:=[_,_,_,_,_]) aE ar rfl (by exact (hk2.from_ ai.rfl_).whole)) ?_)))))))));refine bh (vs:=[_,_,_,_,_]) ar rfl rfl (by simp [Value.oneCell']) (hk4) rfl ?_;intro w88 O6 P6;refine asi rfl (ah (ae (aw (aD (aX (aD (dg rfl (bw (cs:=[_,_,_,_,_]) aE ar rfl (by first | exact P6.whole | exact P11.whole | exact P13.whole)) (cu (v:=.int _ _) rfl) ?_)))))));have hvb:bK x.a x.b ⟨#[]⟩=false:=by unfold bK;first | (simp_all;done) | (simp_all;omega)
   have hm:wiN x.d 6≤2:=by omega
   unfold nxE nxK;rw [if_pos hm,if_pos hm,hvb];exact ⟨rfl,((((ai.rfl_.next E2).next E3).next E4).only O6 (hg4))⟩
  refine ak rfl (aa (af bG rfl) (ak rfl (aa (ao aL rfl (by exact (hk3.from_ ai.rfl_).rd 2 rfl)) ?_)));refine ak rfl (aa (cm rfl rfl) (aa (aF (v:=.bool _) rfl rfl) (ah (ae (tc rfl (fun Q89=>?_) (fun Q89=>?_))))))
  ·refine ag (ab (aa (aQ (cs:=[_,_,_,_,_]) aE ar rfl (by exact (hk2.from_ ai.rfl_).whole)) ?_));refine bh (vs:=[_,_,_,_,_]) ar rfl rfl (by simp [Value.oneCell']) (hk4) rfl ?_;intro w90 O6 P6;refine asi rfl (ah (ae (aw (aD (aX (aD (dg rfl (bw (cs:=[_,_,_,_,_]) aE ar rfl (by first | exact P6.whole | exact P11.whole | exact P13.whole)) (cu (v:=.int _ _) rfl) ?_)))))));have hvb:bK x.a x.b ⟨#[]⟩=false:=by unfold bK;first | (simp_all;done) | (simp_all;omega)
   have hm:wiN x.d 6≤2:=by omega
   unfold nxE nxK;rw [if_pos hm,if_pos hm,hvb];exact ⟨rfl,((((ai.rfl_.next E2).next E3).next E4).only O6 (hg4))⟩
  have hvb:bK x.a x.b ⟨#[]⟩=true:=by unfold bK;first | (simp_all;done) | (simp_all;omega)
  have hm:wiN x.d 6≤2:=by omega
  refine aC (ae ?_);have hU91:gW [(0,28,.pointer (some ⟨b3,0+1,none⟩)),(1,29,.int .i64 x.a),(2,30,.pointer (some ⟨b3,0+2,none⟩)),(3,31,.int .i64 x.b),(4,32,.pointer (some ⟨b2,0+0,none⟩)),(6,33,.pointer (some ⟨b2,0+1,none⟩))]:=by simp [gW]
  refine iu [(0,28,.pointer (some ⟨b3,0+1,none⟩)),(1,29,.int .i64 x.a),(2,30,.pointer (some ⟨b3,0+2,none⟩)),(3,31,.int .i64 x.b),(4,32,.pointer (some ⟨b2,0+0,none⟩)),(6,33,.pointer (some ⟨b2,0+1,none⟩))] (fun S w'=>Blk w' b3 40 (acV x).toArray∧Blk w' b2 36 #[bif S 5 then .int .i64 x.a else .int .i64 k.a,bif S 7 then .int .i64 x.b else .int .i64 k.b,.int .i64 k.i,.int .i64 k.o,.string k.t]∧Blk w' b4 36 #[.int .i64 0,.int .i64 0,.int .i64 0,.int .i64 0,.string ⟨#[]⟩]∧ai w w') (by kernel_rfl) (by kernel_rfl) hU91 (by simp) (⟨hk3.from_ ((ai.rfl_).d1),hk2.from_ ((ai.rfl_).d1),hk4.from_ ((ai.rfl_).d1),((((ai.rfl_.next E2).next E3).next E4)).d1⟩) ?_ ?_
  ·constructor
   ·rintro S L' wS hI hM hS0 ⟨-⟩;have e3:=hI.1 3 (by simp);have hM':=hM;obtain ⟨hk3,hk2,hk4,hB⟩:=hM';exact a8 (af bf e3) ⟨hI.put hU91 (.head _),hM⟩
   constructor
   ·rintro S L' wS hI hM hS0 ⟨d0,-⟩;have e28:aM L' 28=.pointer (some ⟨b3,0+1,none⟩):=hI.get (i:=0) (.head _) d0;have hM':=hM;obtain ⟨hk3,hk2,hk4,hB⟩:=hM';exact a8 (ao aL e28 (by exact hk3.rd 1 rfl)) ⟨hI.put hU91 (.tail _ (.head _)),hM⟩
   constructor
   ·rintro S L' wS hI hM hS0 ⟨-,-⟩;have e3:=hI.1 3 (by simp);have hM':=hM;obtain ⟨hk3,hk2,hk4,hB⟩:=hM';exact a8 (af bG e3) ⟨hI.put hU91 (.tail _ (.tail _ (.head _))),hM⟩
   constructor
   ·rintro S L' wS hI hM hS0 ⟨d2,-,-⟩;have e30:aM L' 30=.pointer (some ⟨b3,0+2,none⟩):=hI.get (i:=2) (.tail _ (.tail _ (.head _))) d2;have hM':=hM;obtain ⟨hk3,hk2,hk4,hB⟩:=hM';exact a8 (ao aL e30 (by exact hk3.rd 2 rfl)) ⟨hI.put hU91 (.tail _ (.tail _ (.tail _ (.head _)))),hM⟩
   constructor
   ·rintro S L' wS hI hM hS0 ⟨d0,d1,-,-,-⟩;have e2:=hI.1 2 (by simp);have hM':=hM;obtain ⟨hk3,hk2,hk4,hB⟩:=hM';exact a8 (af eH e2) ⟨hI.put hU91 (.tail _ (.tail _ (.tail _ (.tail _ (.head _))))),hM⟩
   constructor
   ·rintro S L' wS hI hM hS0 ⟨d4,d1,d0,d1,-,-,-⟩;have e29:aM L' 29=.int .i64 x.a:=hI.get (i:=1) (.tail _ (.head _)) d1;have e32:aM L' 32=.pointer (some ⟨b2,0+0,none⟩):=hI.get (i:=4) (.tail _ (.tail _ (.tail _ (.tail _ (.head _))))) d4;have hM':=hM;obtain ⟨hk3,hk2,hk4,hB⟩:=hM';obtain ⟨w2,hR,hO,hb⟩:=en (n:=64) (L:=L') (x:=.tmp 32) (y:=.tmp 29) cZ e32 e29 rfl hk2 (by simp);exact dy hR ⟨hI.skip (by simp),hk3.only hO (by omega),hb,hk4.only hO (by omega),hB.only hO hg2⟩
   constructor
   ·rintro S L' wS hI hM hS0 ⟨d0,d1,d2,d3,d4,d5,-⟩;have e2:=hI.1 2 (by simp);have hM':=hM;obtain ⟨hk3,hk2,hk4,hB⟩:=hM';exact a8 (af eG e2) ⟨hI.put hU91 (.tail _ (.tail _ (.tail _ (.tail _ (.tail _ (.head _)))))),hM⟩
   constructor
   ·rintro S L' wS hI hM hS0 ⟨d6,d3,d5,d0,d1,d2,d3,d4,d5,-⟩;have e31:aM L' 31=.int .i64 x.b:=hI.get (i:=3) (.tail _ (.tail _ (.tail _ (.head _)))) d3;have e33:aM L' 33=.pointer (some ⟨b2,0+1,none⟩):=hI.get (i:=6) (.tail _ (.tail _ (.tail _ (.tail _ (.tail _ (.head _)))))) d6;have hM':=hM;obtain ⟨hk3,hk2,hk4,hB⟩:=hM';obtain ⟨w2,hR,hO,hb⟩:=en (n:=64) (L:=L') (x:=.tmp 33) (y:=.tmp 31) cZ e33 e31 rfl hk2 (by simp);exact dy hR ⟨hI.skip (by simp),hk3.only hO (by omega),hb,hk4.only hO (by omega),hB.only hO hg2⟩
   exact trivial
  ·intro w92 hM;obtain ⟨hk3,hk2,hk4,hB⟩:=hM;replace hk2:Blk w92 b2 36 (kV { k with a:=x.a,b:=x.b }).toArray:=hk2;refine bA (ae (ag (ab (aa (aQ (cs:=[_,_,_,_,_]) aE ar rfl (by exact (hk2.from_ ai.rfl_).whole)) ?_))));refine bh (vs:=[_,_,_,_,_]) ar rfl rfl (by simp [Value.oneCell']) (hk4) rfl ?_;intro w93 O13 P13;refine asi rfl (ah (ae (aw (dg rfl (bw (cs:=[_,_,_,_,_]) aE ar rfl (by first | exact P6.whole | exact P11.whole | exact P13.whole)) (cu (v:=.int _ _) rfl) ?_))));unfold nxE nxK
   first
    |(rw [if_pos hm,if_pos hm,hvb];exact ⟨rfl,(hB.only O13 (hg4))⟩)
    |(rw [if_neg hm,if_neg hm,if_pos hm4,if_pos hm4,hvb];exact ⟨rfl,(hB.only O13 (hg4))⟩)
    |(rw [if_neg (show ¬ wiN x.d 6≤2 by omega),if_neg (show ¬ wiN x.d 6≤2 by omega),if_neg (show ¬ wiN x.d 6≤4 by omega),if_neg (show ¬ wiN x.d 6≤4 by omega)];exact ⟨rfl,(hB.only O13 (hg4))⟩)
 refine ag (ag (ab (aa (br rfl rfl) (asb rfl (ah (ae (tc rfl (fun Q94=>?_) (fun Q94=>?_))))))))
 ·refine aC (ae (tc rfl (fun Q95=>?_) (fun Q95=>?_)));rotate_left
  ·exfalso;omega
  refine ag (ag (ab (aa (af c9 rfl) (aa (ao aL rfl (by exact (hk3.from_ ai.rfl_).rd 3 rfl)) ?_))));refine av di (fH _ _) ?_;rintro v39 w97 ⟨rfl,rfl⟩;refine aa (bl rfl) (mvb rfl (sL (t:=41) rfl (fun Q98=>?_) (fun Q98=>?_)))
  ·refine aq rfl rfl (aq rfl rfl (aq rfl rfl (aq rfl rfl (aa (aG (v:=.bool _) rfl rfl) (mvb rfl (aq rfl rfl (aq rfl rfl (aq rfl rfl ?_))))))));refine aq rfl rfl (aa (aG (v:=.bool _) rfl rfl) (ah (ae (bR rfl (ag (ab (aa (aQ (cs:=[_,_,_,_,_]) aE ar rfl (by exact (hk2.from_ ai.rfl_).whole)) ?_)))))));refine bh (vs:=[_,_,_,_,_]) ar rfl rfl (by simp [Value.oneCell']) (hk4) rfl ?_;intro w99 O11 P11;refine asi rfl (ah (ae (aw (aD (aX (aD (dg rfl (bw (cs:=[_,_,_,_,_]) aE ar rfl (by first | exact P6.whole | exact P11.whole | exact P13.whole)) (cu (v:=.int _ _) rfl) ?_)))))));have hvb:cg x.i x.a x.t=false:=by unfold cg;first | (simp_all;done) | (simp_all;omega)
   have hm:¬ wiN x.d 6≤2:=by omega
   have hm4:wiN x.d 6≤4:=by omega
   unfold nxE nxK;rw [if_neg hm,if_neg hm,if_pos hm4,if_pos hm4,hvb];exact ⟨rfl,((((ai.rfl_.next E2).next E3).next E4).only O11 (hg4))⟩
  refine ak rfl (aa (af bf rfl) (ak rfl (aa (ao aL rfl (by exact (hk3.from_ ai.rfl_).rd 1 rfl)) ?_)));refine ak rfl (av di (fH _ _) ?_);rintro v44 w100 ⟨rfl,rfl⟩;refine ak rfl (aa (bl rfl) (aa (aF (v:=.bool _) rfl rfl) (mvb rfl (sL (t:=47) rfl (fun Q101=>?_) (fun Q101=>?_)))))
  ·refine aq rfl rfl (aq rfl rfl (aq rfl rfl (aq rfl rfl (aa (aG (v:=.bool _) rfl rfl) (ah (ae (bR rfl (ag (ab (aa (aQ (cs:=[_,_,_,_,_]) aE ar rfl (by exact (hk2.from_ ai.rfl_).whole)) ?_))))))))));refine bh (vs:=[_,_,_,_,_]) ar rfl rfl (by simp [Value.oneCell']) (hk4) rfl ?_;intro w102 O11 P11;refine asi rfl (ah (ae (aw (aD (aX (aD (dg rfl (bw (cs:=[_,_,_,_,_]) aE ar rfl (by first | exact P6.whole | exact P11.whole | exact P13.whole)) (cu (v:=.int _ _) rfl) ?_)))))));have hvb:cg x.i x.a x.t=false:=by unfold cg;first | (simp_all;done) | (simp_all;omega)
   have hm:¬ wiN x.d 6≤2:=by omega
   have hm4:wiN x.d 6≤4:=by omega
   unfold nxE nxK;rw [if_neg hm,if_neg hm,if_pos hm4,if_pos hm4,hvb];exact ⟨rfl,((((ai.rfl_.next E2).next E3).next E4).only O11 (hg4))⟩
  refine ak rfl (aa (af cL rfl) (ak rfl (aa (ao a7 rfl (by exact (hk3.from_ ai.rfl_).rd 4 rfl)) ?_)));refine ak rfl (aa (gC (by kernel_rfl) rfl) (ak rfl (aa (cm rfl rfl) (aa (aF (v:=.bool _) rfl rfl) (ah (ae (tc rfl (fun Q103=>?_) (fun Q103=>?_))))))))
  ·refine ag (ab (aa (aQ (cs:=[_,_,_,_,_]) aE ar rfl (by exact (hk2.from_ ai.rfl_).whole)) ?_));refine bh (vs:=[_,_,_,_,_]) ar rfl rfl (by simp [Value.oneCell']) (hk4) rfl ?_;intro w104 O11 P11;refine asi rfl (ah (ae (aw (aD (aX (aD (dg rfl (bw (cs:=[_,_,_,_,_]) aE ar rfl (by first | exact P6.whole | exact P11.whole | exact P13.whole)) (cu (v:=.int _ _) rfl) ?_)))))));have hvb:cg x.i x.a x.t=false:=by unfold cg;first | (simp_all;done) | (simp_all;omega)
   have hm:¬ wiN x.d 6≤2:=by omega
   have hm4:wiN x.d 6≤4:=by omega
   unfold nxE nxK;rw [if_neg hm,if_neg hm,if_pos hm4,if_pos hm4,hvb];exact ⟨rfl,((((ai.rfl_.next E2).next E3).next E4).only O11 (hg4))⟩
  have hvb:cg x.i x.a x.t=true:=by unfold cg;first | (simp_all;done) | (simp_all;omega)
  have hm:¬ wiN x.d 6≤2:=by omega
  have hm4:wiN x.d 6≤4:=by omega
  refine aC (ae ?_);have hU105:gW [(0,54,.pointer (some ⟨b3,0+3,none⟩)),(1,55,.int .i64 x.i),(2,56,.pointer (some ⟨b3,0+1,none⟩)),(3,57,.int .i64 x.a),(4,58,.pointer (some ⟨b3,0+4,none⟩)),(5,59,.string x.t),(6,60,.pointer (some ⟨b2,0+2,none⟩)),(8,61,.pointer (some ⟨b2,0+3,none⟩)),(10,62,.pointer (some ⟨b2,0+4,none⟩))]:=by simp [gW]
  refine iu [(0,54,.pointer (some ⟨b3,0+3,none⟩)),(1,55,.int .i64 x.i),(2,56,.pointer (some ⟨b3,0+1,none⟩)),(3,57,.int .i64 x.a),(4,58,.pointer (some ⟨b3,0+4,none⟩)),(5,59,.string x.t),(6,60,.pointer (some ⟨b2,0+2,none⟩)),(8,61,.pointer (some ⟨b2,0+3,none⟩)),(10,62,.pointer (some ⟨b2,0+4,none⟩))] (fun S w'=>Blk w' b3 40 (acV x).toArray∧Blk w' b2 36 #[.int .i64 k.a,.int .i64 k.b,bif S 7 then .int .i64 x.i else .int .i64 k.i,bif S 9 then .int .i64 x.a else .int .i64 k.o,bif S 11 then .string x.t else .string k.t]∧Blk w' b4 36 #[.int .i64 0,.int .i64 0,.int .i64 0,.int .i64 0,.string ⟨#[]⟩]∧ai w w') (by kernel_rfl) (by kernel_rfl) hU105 (by simp) (⟨hk3.from_ ((ai.rfl_).d1),hk2.from_ ((ai.rfl_).d1),hk4.from_ ((ai.rfl_).d1),((((ai.rfl_.next E2).next E3).next E4)).d1⟩) ?_ ?_
  ·constructor
   ·rintro S L' wS hI hM hS0 ⟨-⟩;have e3:=hI.1 3 (by simp);have hM':=hM;obtain ⟨hk3,hk2,hk4,hB⟩:=hM';exact a8 (af c9 e3) ⟨hI.put hU105 (.head _),hM⟩
   constructor
   ·rintro S L' wS hI hM hS0 ⟨d0,-⟩;have e54:aM L' 54=.pointer (some ⟨b3,0+3,none⟩):=hI.get (i:=0) (.head _) d0;have hM':=hM;obtain ⟨hk3,hk2,hk4,hB⟩:=hM';exact a8 (ao aL e54 (by exact hk3.rd 3 rfl)) ⟨hI.put hU105 (.tail _ (.head _)),hM⟩
   constructor
   ·rintro S L' wS hI hM hS0 ⟨-,-⟩;have e3:=hI.1 3 (by simp);have hM':=hM;obtain ⟨hk3,hk2,hk4,hB⟩:=hM';exact a8 (af bf e3) ⟨hI.put hU105 (.tail _ (.tail _ (.head _))),hM⟩
   constructor
   ·rintro S L' wS hI hM hS0 ⟨d2,-,-⟩;have e56:aM L' 56=.pointer (some ⟨b3,0+1,none⟩):=hI.get (i:=2) (.tail _ (.tail _ (.head _))) d2;have hM':=hM;obtain ⟨hk3,hk2,hk4,hB⟩:=hM';exact a8 (ao aL e56 (by exact hk3.rd 1 rfl)) ⟨hI.put hU105 (.tail _ (.tail _ (.tail _ (.head _)))),hM⟩
   constructor
   ·rintro S L' wS hI hM hS0 ⟨-,-⟩;have e3:=hI.1 3 (by simp);have hM':=hM;obtain ⟨hk3,hk2,hk4,hB⟩:=hM';exact a8 (af cL e3) ⟨hI.put hU105 (.tail _ (.tail _ (.tail _ (.tail _ (.head _))))),hM⟩
   constructor
   ·rintro S L' wS hI hM hS0 ⟨d4,-,-⟩;have e58:aM L' 58=.pointer (some ⟨b3,0+4,none⟩):=hI.get (i:=4) (.tail _ (.tail _ (.tail _ (.tail _ (.head _))))) d4;have hM':=hM;obtain ⟨hk3,hk2,hk4,hB⟩:=hM';exact a8 (ao a7 e58 (by exact hk3.rd 4 rfl)) ⟨hI.put hU105 (.tail _ (.tail _ (.tail _ (.tail _ (.tail _ (.head _)))))),hM⟩
   constructor
   ·rintro S L' wS hI hM hS0 ⟨d0,d1,-,-,-,-,-⟩;have e2:=hI.1 2 (by simp);have hM':=hM;obtain ⟨hk3,hk2,hk4,hB⟩:=hM';exact a8 (af fP e2) ⟨hI.put hU105 (.tail _ (.tail _ (.tail _ (.tail _ (.tail _ (.tail _ (.head _))))))),hM⟩
   constructor
   ·rintro S L' wS hI hM hS0 ⟨d6,d1,d0,d1,-,-,-,-,-⟩;have e55:aM L' 55=.int .i64 x.i:=hI.get (i:=1) (.tail _ (.head _)) d1;have e60:aM L' 60=.pointer (some ⟨b2,0+2,none⟩):=hI.get (i:=6) (.tail _ (.tail _ (.tail _ (.tail _ (.tail _ (.tail _ (.head _))))))) d6;have hM':=hM;obtain ⟨hk3,hk2,hk4,hB⟩:=hM';obtain ⟨w2,hR,hO,hb⟩:=en (n:=64) (L:=L') (x:=.tmp 60) (y:=.tmp 55) cZ e60 e55 rfl hk2 (by simp);exact dy hR ⟨hI.skip (by simp),hk3.only hO (by omega),hb,hk4.only hO (by omega),hB.only hO hg2⟩
   constructor
   ·rintro S L' wS hI hM hS0 ⟨d0,d1,d2,d3,-,-,d6,d7,-⟩;have e2:=hI.1 2 (by simp);have hM':=hM;obtain ⟨hk3,hk2,hk4,hB⟩:=hM';exact a8 (af fO e2) ⟨hI.put hU105 (.tail _ (.tail _ (.tail _ (.tail _ (.tail _ (.tail _ (.tail _ (.head _)))))))),hM⟩
   constructor
   ·rintro S L' wS hI hM hS0 ⟨d8,d3,d7,d0,d1,d2,d3,-,-,d6,d7,-⟩;have e57:aM L' 57=.int .i64 x.a:=hI.get (i:=3) (.tail _ (.tail _ (.tail _ (.head _)))) d3;have e61:aM L' 61=.pointer (some ⟨b2,0+3,none⟩):=hI.get (i:=8) (.tail _ (.tail _ (.tail _ (.tail _ (.tail _ (.tail _ (.tail _ (.head _)))))))) d8;have hM':=hM;obtain ⟨hk3,hk2,hk4,hB⟩:=hM';obtain ⟨w2,hR,hO,hb⟩:=en (n:=64) (L:=L') (x:=.tmp 61) (y:=.tmp 57) cZ e61 e57 rfl hk2 (by simp);exact dy hR ⟨hI.skip (by simp),hk3.only hO (by omega),hb,hk4.only hO (by omega),hB.only hO hg2⟩
   constructor
   ·rintro S L' wS hI hM hS0 ⟨d0,d1,d2,d3,d4,d5,d6,d7,d8,d9,-⟩;have e2:=hI.1 2 (by simp);have hM':=hM;obtain ⟨hk3,hk2,hk4,hB⟩:=hM';exact a8 (af fN e2) ⟨hI.put hU105 (.tail _ (.tail _ (.tail _ (.tail _ (.tail _ (.tail _ (.tail _ (.tail _ (.head _))))))))),hM⟩
   constructor
   ·rintro S L' wS hI hM hS0 ⟨d10,d5,d9,d0,d1,d2,d3,d4,d5,d6,d7,d8,d9,-⟩;have e59:aM L' 59=.string x.t:=hI.get (i:=5) (.tail _ (.tail _ (.tail _ (.tail _ (.tail _ (.head _)))))) d5;have e62:aM L' 62=.pointer (some ⟨b2,0+4,none⟩):=hI.get (i:=10) (.tail _ (.tail _ (.tail _ (.tail _ (.tail _ (.tail _ (.tail _ (.tail _ (.head _))))))))) d10;have hM':=hM;obtain ⟨hk3,hk2,hk4,hB⟩:=hM';obtain ⟨w2,hR,hO,hb⟩:=en (n:=64) (L:=L') (x:=.tmp 62) (y:=.tmp 59) kk e62 e59 rfl hk2 (by simp);exact dy hR ⟨hI.skip (by simp),hk3.only hO (by omega),hb,hk4.only hO (by omega),hB.only hO hg2⟩
   exact trivial
  ·intro w106 hM;obtain ⟨hk3,hk2,hk4,hB⟩:=hM;replace hk2:Blk w106 b2 36 (kV { k with i:=x.i,o:=x.a,t:=x.t }).toArray:=hk2;refine bA (ae (ag (ab (aa (aQ (cs:=[_,_,_,_,_]) aE ar rfl (by exact (hk2.from_ ai.rfl_).whole)) ?_))));refine bh (vs:=[_,_,_,_,_]) ar rfl rfl (by simp [Value.oneCell']) (hk4) rfl ?_;intro w107 O13 P13;refine asi rfl (ah (ae (aw (dg rfl (bw (cs:=[_,_,_,_,_]) aE ar rfl (by first | exact P6.whole | exact P11.whole | exact P13.whole)) (cu (v:=.int _ _) rfl) ?_))));unfold nxE nxK
   first
    |(rw [if_pos hm,if_pos hm,hvb];exact ⟨rfl,(hB.only O13 (hg4))⟩)
    |(rw [if_neg hm,if_neg hm,if_pos hm4,if_pos hm4,hvb];exact ⟨rfl,(hB.only O13 (hg4))⟩)
    |(rw [if_neg (show ¬ wiN x.d 6≤2 by omega),if_neg (show ¬ wiN x.d 6≤2 by omega),if_neg (show ¬ wiN x.d 6≤4 by omega),if_neg (show ¬ wiN x.d 6≤4 by omega)];exact ⟨rfl,(hB.only O13 (hg4))⟩)
 refine ab (aa (br rfl rfl) (asb rfl (ah (ae (tc rfl (fun Q108=>?_) (fun Q108=>?_))))))
 ·refine ag (ag (ab (aa (af c9 rfl) (aa (ao aL rfl (by exact (hk3.from_ ai.rfl_).rd 3 rfl)) ?_))));refine av di (fH _ _) ?_;rintro v39 w109 ⟨rfl,rfl⟩;refine aa (bl rfl) (mvb rfl (sL (t:=41) rfl (fun Q110=>?_) (fun Q110=>?_)))
  ·refine aq rfl rfl (aq rfl rfl (aq rfl rfl (aq rfl rfl (aa (aG (v:=.bool _) rfl rfl) (mvb rfl (aq rfl rfl (aq rfl rfl (aq rfl rfl ?_))))))));refine aq rfl rfl (aa (aG (v:=.bool _) rfl rfl) (ah (ae (bR rfl (ag (ab (aa (aQ (cs:=[_,_,_,_,_]) aE ar rfl (by exact (hk2.from_ ai.rfl_).whole)) ?_)))))));refine bh (vs:=[_,_,_,_,_]) ar rfl rfl (by simp [Value.oneCell']) (hk4) rfl ?_;intro w111 O11 P11;refine asi rfl (ah (ae (aw (aD (aX (aD (dg rfl (bw (cs:=[_,_,_,_,_]) aE ar rfl (by first | exact P6.whole | exact P11.whole | exact P13.whole)) (cu (v:=.int _ _) rfl) ?_)))))));have hvb:cg x.i x.a x.t=false:=by unfold cg;first | (simp_all;done) | (simp_all;omega)
   have hm:¬ wiN x.d 6≤2:=by omega
   have hm4:wiN x.d 6≤4:=by omega
   unfold nxE nxK;rw [if_neg hm,if_neg hm,if_pos hm4,if_pos hm4,hvb];exact ⟨rfl,((((ai.rfl_.next E2).next E3).next E4).only O11 (hg4))⟩
  refine ak rfl (aa (af bf rfl) (ak rfl (aa (ao aL rfl (by exact (hk3.from_ ai.rfl_).rd 1 rfl)) ?_)));refine ak rfl (av di (fH _ _) ?_);rintro v44 w112 ⟨rfl,rfl⟩;refine ak rfl (aa (bl rfl) (aa (aF (v:=.bool _) rfl rfl) (mvb rfl (sL (t:=47) rfl (fun Q113=>?_) (fun Q113=>?_)))))
  ·refine aq rfl rfl (aq rfl rfl (aq rfl rfl (aq rfl rfl (aa (aG (v:=.bool _) rfl rfl) (ah (ae (bR rfl (ag (ab (aa (aQ (cs:=[_,_,_,_,_]) aE ar rfl (by exact (hk2.from_ ai.rfl_).whole)) ?_))))))))));refine bh (vs:=[_,_,_,_,_]) ar rfl rfl (by simp [Value.oneCell']) (hk4) rfl ?_;intro w114 O11 P11;refine asi rfl (ah (ae (aw (aD (aX (aD (dg rfl (bw (cs:=[_,_,_,_,_]) aE ar rfl (by first | exact P6.whole | exact P11.whole | exact P13.whole)) (cu (v:=.int _ _) rfl) ?_)))))));have hvb:cg x.i x.a x.t=false:=by unfold cg;first | (simp_all;done) | (simp_all;omega)
   have hm:¬ wiN x.d 6≤2:=by omega
   have hm4:wiN x.d 6≤4:=by omega
   unfold nxE nxK;rw [if_neg hm,if_neg hm,if_pos hm4,if_pos hm4,hvb];exact ⟨rfl,((((ai.rfl_.next E2).next E3).next E4).only O11 (hg4))⟩
  refine ak rfl (aa (af cL rfl) (ak rfl (aa (ao a7 rfl (by exact (hk3.from_ ai.rfl_).rd 4 rfl)) ?_)));refine ak rfl (aa (gC (by kernel_rfl) rfl) (ak rfl (aa (cm rfl rfl) (aa (aF (v:=.bool _) rfl rfl) (ah (ae (tc rfl (fun Q115=>?_) (fun Q115=>?_))))))))
  ·refine ag (ab (aa (aQ (cs:=[_,_,_,_,_]) aE ar rfl (by exact (hk2.from_ ai.rfl_).whole)) ?_));refine bh (vs:=[_,_,_,_,_]) ar rfl rfl (by simp [Value.oneCell']) (hk4) rfl ?_;intro w116 O11 P11;refine asi rfl (ah (ae (aw (aD (aX (aD (dg rfl (bw (cs:=[_,_,_,_,_]) aE ar rfl (by first | exact P6.whole | exact P11.whole | exact P13.whole)) (cu (v:=.int _ _) rfl) ?_)))))));have hvb:cg x.i x.a x.t=false:=by unfold cg;first | (simp_all;done) | (simp_all;omega)
   have hm:¬ wiN x.d 6≤2:=by omega
   have hm4:wiN x.d 6≤4:=by omega
   unfold nxE nxK;rw [if_neg hm,if_neg hm,if_pos hm4,if_pos hm4,hvb];exact ⟨rfl,((((ai.rfl_.next E2).next E3).next E4).only O11 (hg4))⟩
  have hvb:cg x.i x.a x.t=true:=by unfold cg;first | (simp_all;done) | (simp_all;omega)
  have hm:¬ wiN x.d 6≤2:=by omega
  have hm4:wiN x.d 6≤4:=by omega
  refine aC (ae ?_);have hU117:gW [(0,54,.pointer (some ⟨b3,0+3,none⟩)),(1,55,.int .i64 x.i),(2,56,.pointer (some ⟨b3,0+1,none⟩)),(3,57,.int .i64 x.a),(4,58,.pointer (some ⟨b3,0+4,none⟩)),(5,59,.string x.t),(6,60,.pointer (some ⟨b2,0+2,none⟩)),(8,61,.pointer (some ⟨b2,0+3,none⟩)),(10,62,.pointer (some ⟨b2,0+4,none⟩))]:=by simp [gW]
  refine iu [(0,54,.pointer (some ⟨b3,0+3,none⟩)),(1,55,.int .i64 x.i),(2,56,.pointer (some ⟨b3,0+1,none⟩)),(3,57,.int .i64 x.a),(4,58,.pointer (some ⟨b3,0+4,none⟩)),(5,59,.string x.t),(6,60,.pointer (some ⟨b2,0+2,none⟩)),(8,61,.pointer (some ⟨b2,0+3,none⟩)),(10,62,.pointer (some ⟨b2,0+4,none⟩))] (fun S w'=>Blk w' b3 40 (acV x).toArray∧Blk w' b2 36 #[.int .i64 k.a,.int .i64 k.b,bif S 7 then .int .i64 x.i else .int .i64 k.i,bif S 9 then .int .i64 x.a else .int .i64 k.o,bif S 11 then .string x.t else .string k.t]∧Blk w' b4 36 #[.int .i64 0,.int .i64 0,.int .i64 0,.int .i64 0,.string ⟨#[]⟩]∧ai w w') (by kernel_rfl) (by kernel_rfl) hU117 (by simp) (⟨hk3.from_ ((ai.rfl_).d1),hk2.from_ ((ai.rfl_).d1),hk4.from_ ((ai.rfl_).d1),((((ai.rfl_.next E2).next E3).next E4)).d1⟩) ?_ ?_
  ·constructor
   ·rintro S L' wS hI hM hS0 ⟨-⟩;have e3:=hI.1 3 (by simp);have hM':=hM;obtain ⟨hk3,hk2,hk4,hB⟩:=hM';exact a8 (af c9 e3) ⟨hI.put hU117 (.head _),hM⟩
   constructor
   ·rintro S L' wS hI hM hS0 ⟨d0,-⟩;have e54:aM L' 54=.pointer (some ⟨b3,0+3,none⟩):=hI.get (i:=0) (.head _) d0;have hM':=hM;obtain ⟨hk3,hk2,hk4,hB⟩:=hM';exact a8 (ao aL e54 (by exact hk3.rd 3 rfl)) ⟨hI.put hU117 (.tail _ (.head _)),hM⟩
   constructor
   ·rintro S L' wS hI hM hS0 ⟨-,-⟩;have e3:=hI.1 3 (by simp);have hM':=hM;obtain ⟨hk3,hk2,hk4,hB⟩:=hM';exact a8 (af bf e3) ⟨hI.put hU117 (.tail _ (.tail _ (.head _))),hM⟩
   constructor
   ·rintro S L' wS hI hM hS0 ⟨d2,-,-⟩;have e56:aM L' 56=.pointer (some ⟨b3,0+1,none⟩):=hI.get (i:=2) (.tail _ (.tail _ (.head _))) d2;have hM':=hM;obtain ⟨hk3,hk2,hk4,hB⟩:=hM';exact a8 (ao aL e56 (by exact hk3.rd 1 rfl)) ⟨hI.put hU117 (.tail _ (.tail _ (.tail _ (.head _)))),hM⟩
   constructor
   ·rintro S L' wS hI hM hS0 ⟨-,-⟩;have e3:=hI.1 3 (by simp);have hM':=hM;obtain ⟨hk3,hk2,hk4,hB⟩:=hM';exact a8 (af cL e3) ⟨hI.put hU117 (.tail _ (.tail _ (.tail _ (.tail _ (.head _))))),hM⟩
   constructor
   ·rintro S L' wS hI hM hS0 ⟨d4,-,-⟩;have e58:aM L' 58=.pointer (some ⟨b3,0+4,none⟩):=hI.get (i:=4) (.tail _ (.tail _ (.tail _ (.tail _ (.head _))))) d4;have hM':=hM;obtain ⟨hk3,hk2,hk4,hB⟩:=hM';exact a8 (ao a7 e58 (by exact hk3.rd 4 rfl)) ⟨hI.put hU117 (.tail _ (.tail _ (.tail _ (.tail _ (.tail _ (.head _)))))),hM⟩
   constructor
   ·rintro S L' wS hI hM hS0 ⟨d0,d1,-,-,-,-,-⟩;have e2:=hI.1 2 (by simp);have hM':=hM;obtain ⟨hk3,hk2,hk4,hB⟩:=hM';exact a8 (af fP e2) ⟨hI.put hU117 (.tail _ (.tail _ (.tail _ (.tail _ (.tail _ (.tail _ (.head _))))))),hM⟩
   constructor
   ·rintro S L' wS hI hM hS0 ⟨d6,d1,d0,d1,-,-,-,-,-⟩;have e55:aM L' 55=.int .i64 x.i:=hI.get (i:=1) (.tail _ (.head _)) d1;have e60:aM L' 60=.pointer (some ⟨b2,0+2,none⟩):=hI.get (i:=6) (.tail _ (.tail _ (.tail _ (.tail _ (.tail _ (.tail _ (.head _))))))) d6;have hM':=hM;obtain ⟨hk3,hk2,hk4,hB⟩:=hM';obtain ⟨w2,hR,hO,hb⟩:=en (n:=64) (L:=L') (x:=.tmp 60) (y:=.tmp 55) cZ e60 e55 rfl hk2 (by simp);exact dy hR ⟨hI.skip (by simp),hk3.only hO (by omega),hb,hk4.only hO (by omega),hB.only hO hg2⟩
   constructor
   ·rintro S L' wS hI hM hS0 ⟨d0,d1,d2,d3,-,-,d6,d7,-⟩;have e2:=hI.1 2 (by simp);have hM':=hM;obtain ⟨hk3,hk2,hk4,hB⟩:=hM';exact a8 (af fO e2) ⟨hI.put hU117 (.tail _ (.tail _ (.tail _ (.tail _ (.tail _ (.tail _ (.tail _ (.head _)))))))),hM⟩
   constructor
   ·rintro S L' wS hI hM hS0 ⟨d8,d3,d7,d0,d1,d2,d3,-,-,d6,d7,-⟩;have e57:aM L' 57=.int .i64 x.a:=hI.get (i:=3) (.tail _ (.tail _ (.tail _ (.head _)))) d3;have e61:aM L' 61=.pointer (some ⟨b2,0+3,none⟩):=hI.get (i:=8) (.tail _ (.tail _ (.tail _ (.tail _ (.tail _ (.tail _ (.tail _ (.head _)))))))) d8;have hM':=hM;obtain ⟨hk3,hk2,hk4,hB⟩:=hM';obtain ⟨w2,hR,hO,hb⟩:=en (n:=64) (L:=L') (x:=.tmp 61) (y:=.tmp 57) cZ e61 e57 rfl hk2 (by simp);exact dy hR ⟨hI.skip (by simp),hk3.only hO (by omega),hb,hk4.only hO (by omega),hB.only hO hg2⟩
   constructor
   ·rintro S L' wS hI hM hS0 ⟨d0,d1,d2,d3,d4,d5,d6,d7,d8,d9,-⟩;have e2:=hI.1 2 (by simp);have hM':=hM;obtain ⟨hk3,hk2,hk4,hB⟩:=hM';exact a8 (af fN e2) ⟨hI.put hU117 (.tail _ (.tail _ (.tail _ (.tail _ (.tail _ (.tail _ (.tail _ (.tail _ (.head _))))))))),hM⟩
   constructor
   ·rintro S L' wS hI hM hS0 ⟨d10,d5,d9,d0,d1,d2,d3,d4,d5,d6,d7,d8,d9,-⟩;have e59:aM L' 59=.string x.t:=hI.get (i:=5) (.tail _ (.tail _ (.tail _ (.tail _ (.tail _ (.head _)))))) d5;have e62:aM L' 62=.pointer (some ⟨b2,0+4,none⟩):=hI.get (i:=10) (.tail _ (.tail _ (.tail _ (.tail _ (.tail _ (.tail _ (.tail _ (.tail _ (.head _))))))))) d10;have hM':=hM;obtain ⟨hk3,hk2,hk4,hB⟩:=hM';obtain ⟨w2,hR,hO,hb⟩:=en (n:=64) (L:=L') (x:=.tmp 62) (y:=.tmp 59) kk e62 e59 rfl hk2 (by simp);exact dy hR ⟨hI.skip (by simp),hk3.only hO (by omega),hb,hk4.only hO (by omega),hB.only hO hg2⟩
   exact trivial
  ·intro w118 hM;obtain ⟨hk3,hk2,hk4,hB⟩:=hM;replace hk2:Blk w118 b2 36 (kV { k with i:=x.i,o:=x.a,t:=x.t }).toArray:=hk2;refine bA (ae (ag (ab (aa (aQ (cs:=[_,_,_,_,_]) aE ar rfl (by exact (hk2.from_ ai.rfl_).whole)) ?_))));refine bh (vs:=[_,_,_,_,_]) ar rfl rfl (by simp [Value.oneCell']) (hk4) rfl ?_;intro w119 O13 P13;refine asi rfl (ah (ae (aw (dg rfl (bw (cs:=[_,_,_,_,_]) aE ar rfl (by first | exact P6.whole | exact P11.whole | exact P13.whole)) (cu (v:=.int _ _) rfl) ?_))));unfold nxE nxK
   first
    |(rw [if_pos hm,if_pos hm,hvb];exact ⟨rfl,(hB.only O13 (hg4))⟩)
    |(rw [if_neg hm,if_neg hm,if_pos hm4,if_pos hm4,hvb];exact ⟨rfl,(hB.only O13 (hg4))⟩)
    |(rw [if_neg (show ¬ wiN x.d 6≤2 by omega),if_neg (show ¬ wiN x.d 6≤2 by omega),if_neg (show ¬ wiN x.d 6≤4 by omega),if_neg (show ¬ wiN x.d 6≤4 by omega)];exact ⟨rfl,(hB.only O13 (hg4))⟩)
 refine aC (bA (ae (ag (ab (aa (aQ (cs:=[_,_,_,_,_]) aE ar rfl (by exact (hk2.from_ ai.rfl_).whole)) ?_)))));refine bh (vs:=[_,_,_,_,_]) ar rfl rfl (by simp [Value.oneCell']) (hk4) rfl ?_;intro w120 O13 P13;refine asi rfl (ah (ae (aw (dg rfl (bw (cs:=[_,_,_,_,_]) aE ar rfl (by first | exact P6.whole | exact P11.whole | exact P13.whole)) (cu (v:=.int _ _) rfl) ?_))));unfold nxE nxK
 first
  |(rw [if_pos hm,if_pos hm,hvb];exact ⟨rfl,((((ai.rfl_.next E2).next E3).next E4).only O13 (hg4))⟩)
  |(rw [if_neg hm,if_neg hm,if_pos hm4,if_pos hm4,hvb];exact ⟨rfl,((((ai.rfl_.next E2).next E3).next E4).only O13 (hg4))⟩)
  |(rw [if_neg (show ¬ wiN x.d 6≤2 by omega),if_neg (show ¬ wiN x.d 6≤2 by omega),if_neg (show ¬ wiN x.d 6≤4 by omega),if_neg (show ¬ wiN x.d 6≤4 by omega)];exact ⟨rfl,((((ai.rfl_.next E2).next E3).next E4).only O13 (hg4))⟩)
theorem rJ (s d:Nat) (k:Kt) (U:Nat→Prop) (w:World) (h:bJ w U s d k) (x:Ac) (hx:x.t.size≤140737488351232) (hT:cQ w) :
 Rt prog 11 [.pointer (some ⟨s,0,none⟩),.agg (acV x).toArray] w (fun v w'=>v=.int .i64 (nxE (wiN x.d 6) x)∧bJ w' (Nx U w w') s d (nxK k (wiN x.d 6) x)∧Chg (fun x=>U x∨x=s) w w'):=by
 have hmx:wiN x.d 6<6:=Nat.mod_lt _ (by decide);refine enter (n:=31) Tryd.func11 rfl rfl rfl (ag (ab (de (v:=.agg _) rfl ?_)));intro b3 w1 E3 hb3 hk3;refine asi rfl (ah (ae (ag (ag (ab (aa (af fm rfl) (aa (ao aL rfl (by exact (hk3.from_ ai.rfl_).rd 0 rfl)) ?_)))))));refine av gr (jw x.d 6 _ (by decide)) ?_;rintro v7 w2 ⟨rfl,rfl⟩;refine ah (ae (bu (ag (ag (ab (aa (br rfl rfl) (asb rfl (ah (ae (tc rfl (fun Q3=>?_) (fun Q3=>?_)))))))))))
 ·refine aC (ae (tc rfl (fun Q4=>?_) (fun Q4=>?_)));rotate_left
  ·exfalso;omega
  refine ag (ab (mvp rfl (aa (af bf rfl) (aa (ao aL rfl (by exact (hk3.from_ ai.rfl_).rd 1 rfl)) ?_))));refine aa (af bG rfl) (aa (ao aL rfl (by exact (hk3.from_ ai.rfl_).rd 2 rfl)) ?_);have hB9:ai w w1:=(ai.rfl_.next E3);refine av ei (eN s d k U _ (h.from_ (ai.rfl_.next E3)) x.a x.b (hT.from_ (ai.rfl_.next E3))) ?_;rintro v17 w12 ⟨rfl,hs9,hC9⟩;refine av bU (cz _ _) ?_;rintro v18 w13 ⟨rfl,rfl⟩;refine asi rfl (ah (ae (aw (aX (aD (bb (v:=.int _ _) rfl rfl ?_))))));have hm:wiN x.d 6≤2:=by omega
  unfold nxE nxK;rw [if_pos hm,if_pos hm];exact ⟨rfl,h.up hB9 hs9,(ai.toChg (U:=fun x=>U x∨x=s) hB9).next hC9⟩
 refine ag (ab (aa (br rfl rfl) (asb rfl (ah (ae (tc rfl (fun Q14=>?_) (fun Q14=>?_)))))))
 ·refine aC (ae (tc rfl (fun Q15=>?_) (fun Q15=>?_)));rotate_left
  ·exfalso;omega
  refine ag (ab (mvp rfl (aa (af bf rfl) (aa (ao aL rfl (by exact (hk3.from_ ai.rfl_).rd 1 rfl)) ?_))));refine aa (af bG rfl) (aa (ao aL rfl (by exact (hk3.from_ ai.rfl_).rd 2 rfl)) ?_);have hB9:ai w w1:=(ai.rfl_.next E3);refine av ei (eN s d k U _ (h.from_ (ai.rfl_.next E3)) x.a x.b (hT.from_ (ai.rfl_.next E3))) ?_;rintro v17 w23 ⟨rfl,hs9,hC9⟩;refine av bU (cz _ _) ?_;rintro v18 w24 ⟨rfl,rfl⟩;refine asi rfl (ah (ae (aw (aX (aD (bb (v:=.int _ _) rfl rfl ?_))))));have hm:wiN x.d 6≤2:=by omega
  unfold nxE nxK;rw [if_pos hm,if_pos hm];exact ⟨rfl,h.up hB9 hs9,(ai.toChg (U:=fun x=>U x∨x=s) hB9).next hC9⟩
 refine ab (aa (br rfl rfl) (asb rfl (ah (ae (tc rfl (fun Q25=>?_) (fun Q25=>?_))))))
 ·refine ag (ab (mvp rfl (aa (af bf rfl) (aa (ao aL rfl (by exact (hk3.from_ ai.rfl_).rd 1 rfl)) ?_))));refine aa (af bG rfl) (aa (ao aL rfl (by exact (hk3.from_ ai.rfl_).rd 2 rfl)) ?_);have hB9:ai w w1:=(ai.rfl_.next E3);refine av ei (eN s d k U _ (h.from_ (ai.rfl_.next E3)) x.a x.b (hT.from_ (ai.rfl_.next E3))) ?_;rintro v17 w26 ⟨rfl,hs9,hC9⟩;refine av bU (cz _ _) ?_;rintro v18 w27 ⟨rfl,rfl⟩;refine asi rfl (ah (ae (aw (aX (aD (bb (v:=.int _ _) rfl rfl ?_))))));have hm:wiN x.d 6≤2:=by omega
  unfold nxE nxK;rw [if_pos hm,if_pos hm];exact ⟨rfl,h.up hB9 hs9,(ai.toChg (U:=fun x=>U x∨x=s) hB9).next hC9⟩
 refine ag (ag (ab (aa (br rfl rfl) (asb rfl (ah (ae (tc rfl (fun Q28=>?_) (fun Q28=>?_))))))))
 ·refine aC (ae (tc rfl (fun Q29=>?_) (fun Q29=>?_)));rotate_left
  ·exfalso;omega
  refine ag (ab (mvp rfl (aa (af c9 rfl) (aa (ao aL rfl (by exact (hk3.from_ ai.rfl_).rd 3 rfl)) ?_))));refine aa (af bf rfl) (aa (ao aL rfl (by exact (hk3.from_ ai.rfl_).rd 1 rfl)) ?_);refine aa (af cL rfl) (aa (ao a7 rfl (by exact (hk3.from_ ai.rfl_).rd 4 rfl)) ?_);have hB9:ai w w1:=(ai.rfl_.next E3);refine av gq (gS s d k U _ (h.from_ (ai.rfl_.next E3)) x.i x.a x.t hx (hT.from_ (ai.rfl_.next E3))) ?_;rintro v29 w30 ⟨rfl,hs9,hC9⟩;refine av bU (cz _ _) ?_;rintro v30 w31 ⟨rfl,rfl⟩;refine asi rfl (ah (ae (aw (aX (aD (bb (v:=.int _ _) rfl rfl ?_))))));have hm:¬ wiN x.d 6≤2:=by omega
  have hm4:wiN x.d 6≤4:=by omega
  unfold nxE nxK;rw [if_neg hm,if_neg hm,if_pos hm4,if_pos hm4];exact ⟨rfl,h.up hB9 hs9,(ai.toChg (U:=fun x=>U x∨x=s) hB9).next hC9⟩
 refine ab (aa (br rfl rfl) (asb rfl (ah (ae (tc rfl (fun Q32=>?_) (fun Q32=>?_))))))
 ·refine ag (ab (mvp rfl (aa (af c9 rfl) (aa (ao aL rfl (by exact (hk3.from_ ai.rfl_).rd 3 rfl)) ?_))));refine aa (af bf rfl) (aa (ao aL rfl (by exact (hk3.from_ ai.rfl_).rd 1 rfl)) ?_);refine aa (af cL rfl) (aa (ao a7 rfl (by exact (hk3.from_ ai.rfl_).rd 4 rfl)) ?_);have hB9:ai w w1:=(ai.rfl_.next E3);refine av gq (gS s d k U _ (h.from_ (ai.rfl_.next E3)) x.i x.a x.t hx (hT.from_ (ai.rfl_.next E3))) ?_;rintro v29 w33 ⟨rfl,hs9,hC9⟩;refine av bU (cz _ _) ?_;rintro v30 w34 ⟨rfl,rfl⟩;refine asi rfl (ah (ae (aw (aX (aD (bb (v:=.int _ _) rfl rfl ?_))))));have hm:¬ wiN x.d 6≤2:=by omega
  have hm4:wiN x.d 6≤4:=by omega
  unfold nxE nxK;rw [if_neg hm,if_neg hm,if_pos hm4,if_pos hm4];exact ⟨rfl,h.up hB9 hs9,(ai.toChg (U:=fun x=>U x∨x=s) hB9).next hC9⟩
 refine aC (bA (ae (ag (ab (asi rfl (ah (ae (aw (bb (v:=.int _ _) rfl rfl ?_)))))))));unfold nxE nxK;rw [if_neg (show ¬ wiN x.d 6≤2 by omega),if_neg (show ¬ wiN x.d 6≤2 by omega),if_neg (show ¬ wiN x.d 6≤4 by omega),if_neg (show ¬ wiN x.d 6≤4 by omega)];exact ⟨rfl,h.nx (ai.rfl_.next E3),((ai.rfl_.next E3)).toChg⟩
theorem bY:fj prog 22=some false:=by kernel_rfl
theorem ek:fj prog 23=some false:=by kernel_rfl
theorem bH:bQ prog 25 0=some 0:=by kernel_rfl
theorem ej:(cH prog 22).isSome=true:=by kernel_rfl
theorem dm:cH prog 22=some (40,6):=by kernel_rfl
theorem fo:bQ prog 40 5=some 5:=by kernel_rfl
theorem gQ:bQ prog 25 1=some 1:=by kernel_rfl
theorem gX:aI prog 6=true:=by kernel_rfl
theorem dz:aI prog 7=true:=by kernel_rfl
theorem mA (A B:Option Addr) (ca cb m:Nat) (L:List Ac) (w:World) (ha:nT w A m L) :
 Rt prog 5 [.agg #[.slice A L.length ca,.slice B m cb]] w (fun v w'=>(∃ hv:Bool,v=.bool hv)∧ai w w'):=by
 have hlL:=ha.lenL;have hlM:=ha.lenM;refine enter (n:=47) Tryd.func5 rfl rfl rfl (ag (ab (de (v:=.agg _) rfl ?_)));intro b1 w1 E1 hb1 hk1;refine asb rfl (ah (ae (ag (ab (asi rfl (ah (ae (ag (ag (ab (asi rfl (ah (ae (bu (dJ (G:=Nat×Nat) [5,6,7,8,9,10,11,12,13,14,15,16,17,18,19,20,21,22,23,24,25,26,27,28,29,30,31,32] (fun (n,i)=>[(3,.int .i64 (n:Nat)),(4,.int .i64 (i:Nat))]) (fun (n,i) w'=>i≤L.length∧n≤300000000000000∧Blk w' b1 25 #[.slice A L.length ca,.slice B m cb]∧ai w w') (fun (_,i)=>L.length-i) ((0,0)) ⟨rfl,rfl,trivial⟩ ?_ ?_)))))))))))))))
 ·exact ⟨Nat.zero_le _,Nat.zero_le _,hk1.from_ ai.rfl_,(ai.rfl_.next E1)⟩
 rintro ⟨n,i⟩ ρ2 w2 ⟨hi,hn,hP,hB⟩;refine ag (ag (ab (mvi rfl (aa (af bH rfl) (aa (ao bY rfl (by exact (hP.from_ ai.rfl_).rd 0 rfl)) ?_)))));refine aa (bC ej rfl) (aa (cv rfl rfl) (mvb rfl (sO (t:=10) rfl (fun Q3=>?_) (fun Q3=>?_))))
 ·refine ak rfl (mvi rfl (ak rfl (aa (cv rfl rfl) (aa (aG (v:=.bool _) rfl rfl) (ah (ae (tc rfl (fun Q4=>?_) (fun Q4=>?_))))))))
  ·have hil:i<L.length:=by omega
   obtain ⟨bL,oL,hAL,hcL⟩:=ha.rowL (by omega);have hce:=hcL i hil;have hok:=ha.okL _ (List.getElem_mem hil);have hot:=hok.ht;have hoy:=hok.ly;refine aC (ae (ag (bu ?_)));apply cE 18 [(16,eqp _),(17,eqp _),(18,eqp _),(19,eqp _),(20,eqp _),(21,eqp _),(22,eqp (.string L[i].t)),(23,eqp _),(24,eqp _),(25,eqp _),(26,eqp _),(27,eqp _),(28,eqp _),(29,eqp _),(30,eqp (.slice L[i].Y L[i].ys.length L[i].yc)),(31,eqp _),(32,eqp _),(3,eqp _)] (by repeat first | exact cV | refine cU ?_ | refine cx ?_) (by kernel_rfl) (by kernel_rfl) ⟨aj _,aj _,aj _,aj _,aj _,aj _,aj _,aj _,aj _,aj _,aj _,aj _,aj _,aj _,aj _,aj _,aj _,aj _,trivial⟩
   case hop=>
    constructor
    ·rintro-w6 D6;exact an (aB (v:=.int _ _) rfl) rfl
    constructor
    ·rintro-w7 D7;exact an (af bH rfl) rfl
    constructor
    ·rintro-w8 D8;rintro _ rfl;exact an (ao (v:=.slice (some ⟨bL,oL,none⟩) L.length ca) bY rfl (by rw [←hAL];exact (hP.from_ (ai.rfl_.next D8)).rd 0 rfl)) rfl
    constructor
    ·rintro-w9 D9;exact an (aB (v:=.int _ _) rfl) rfl
    constructor
    ·rintro-w10 D10;rintro _ rfl _ rfl;exact an (aV dm rfl rfl (by omega)) rfl
    constructor
    ·rintro-w11 D11;rintro _ rfl;exact an (af cL rfl) rfl
    constructor
    ·rintro-w12 D12;rintro _ rfl;exact an (ao (v:=.string L[i].t) a7 rfl (eA (hB.next D12) (hce 4 _ rfl))) rfl
    constructor
    ·rintro-w13 D13;rintro v13_22 rfl;exact an (gC (by kernel_rfl) rfl) rfl
    constructor
    ·rintro-w14 D14;rintro _ rfl _ rfl;exact an (bz rfl rfl (by omega)) rfl
    constructor
    ·rintro-w15 D15;exact an (af bH rfl) rfl
    constructor
    ·rintro-w16 D16;rintro _ rfl;exact an (ao (v:=.slice (some ⟨bL,oL,none⟩) L.length ca) bY rfl (by rw [←hAL];exact (hP.from_ (ai.rfl_.next D16)).rd 0 rfl)) rfl
    constructor
    ·rintro-w17 D17;exact an (aB (v:=.int _ _) rfl) rfl
    constructor
    ·rintro-w18 D18;rintro _ rfl _ rfl;exact an (aV dm rfl rfl (by omega)) rfl
    constructor
    ·rintro-w19 D19;rintro _ rfl;exact an (af fo rfl) rfl
    constructor
    ·rintro-w20 D20;rintro _ rfl;exact an (ao (v:=.slice L[i].Y L[i].ys.length L[i].yc) ek rfl (eA (hB.next D20) (hce 5 _ rfl))) rfl
    constructor
    ·rintro-w21 D21;rintro v21_30 rfl;exact an (bC eI rfl) rfl
    constructor
    ·rintro-w22 D22;rintro _ rfl _ rfl;exact an (bz rfl rfl (by omega)) rfl
    constructor
    ·rintro-w23 D23;rintro _ rfl;exact an (bI (v:=.int _ _) rfl) rfl
    exact trivial
   case hend=>
    intro w24 D24;rintro _ rfl _ rfl _ rfl _ rfl _ rfl _ rfl v22 rfl _ rfl _ rfl _ rfl _ rfl _ rfl _ rfl _ rfl v30 rfl _ rfl _ rfl _ rfl;show St ..;refine ah (bA (ae (ab (mvi rfl (aa (bz (b:=1) rfl rfl (by omega)) (asi rfl (ah ?_)))))));refine cd ((n+L[i].t.size+L[i].ys.length,i+1)) ⟨(by first | rfl | (refine bP ?_;omega)),(by first | rfl | (refine bP ?_;omega)),trivial⟩ (by (iterate 61 refine bm rfl ?_);exact bO) ⟨?_,?_⟩
    ·exact ⟨by omega,by omega,hP.from_ (ai.rfl_.next D24),(hB.next D24)⟩
    ·show L.length-(i+1)<L.length-i;omega
  refine dd (bB (bB (cG (ae (ag (ab (mvi rfl (aa (cm rfl rfl) (mvb rfl (sO (t:=35) rfl (fun Q25=>?_) (fun Q25=>?_)))))))))))
  ·refine aq rfl rfl (aq rfl rfl (aq rfl rfl (aq rfl rfl (aa (aG (v:=.bool _) rfl rfl) (mvb rfl (aq rfl rfl (aq rfl rfl (aq rfl rfl ?_))))))));refine aq rfl rfl (aa (aG (v:=.bool _) rfl rfl) (asb rfl (ah (ae (aw (bb (v:=.bool _) rfl rfl (⟨⟨_,rfl⟩,hB⟩)))))))
  refine ak rfl (aa (af gQ rfl) (ak rfl (aa (ao ek rfl (by exact (hP.from_ ai.rfl_).rd 1 rfl)) ?_)));refine ak rfl (aa (bC eI rfl) (ak rfl (aa (cm rfl rfl) (aa (aF (v:=.bool _) rfl rfl) (mvb rfl (sO (t:=41) rfl (fun Q26=>?_) (fun Q26=>?_)))))))
  ·refine aq rfl rfl (aq rfl rfl (aq rfl rfl (aq rfl rfl (aa (aG (v:=.bool _) rfl rfl) (asb rfl (ah (ae (aw (bb (v:=.bool _) rfl rfl (⟨⟨_,rfl⟩,hB⟩))))))))))
  refine ak rfl (aa (af bH rfl) (ak rfl (aa (ao bY rfl (by exact (hP.from_ ai.rfl_).rd 0 rfl)) ?_)));refine ak rfl (aa (bC ej rfl) (ak rfl (aa (cm rfl rfl) (aa (aF (v:=.bool _) rfl rfl) (asb rfl (ah (ae (aw (bb (v:=.bool _) rfl rfl (⟨⟨_,rfl⟩,hB⟩))))))))))
 refine aq rfl rfl (aq rfl rfl (aa (aF (v:=.bool _) rfl rfl) (ah (ae (aY rfl (dd (bB (bB (cG (ae (ag (ab (mvi rfl (aa (cm rfl rfl) ?_))))))))))))));refine mvb rfl (sO (t:=35) rfl (fun Q27=>?_) (fun Q27=>?_))
 ·refine aq rfl rfl (aq rfl rfl (aq rfl rfl (aq rfl rfl (aa (aG (v:=.bool _) rfl rfl) (mvb rfl (aq rfl rfl (aq rfl rfl (aq rfl rfl ?_))))))));refine aq rfl rfl (aa (aG (v:=.bool _) rfl rfl) (asb rfl (ah (ae (aw (bb (v:=.bool _) rfl rfl (⟨⟨_,rfl⟩,hB⟩)))))))
 refine ak rfl (aa (af gQ rfl) (ak rfl (aa (ao ek rfl (by exact (hP.from_ ai.rfl_).rd 1 rfl)) ?_)));refine ak rfl (aa (bC eI rfl) (ak rfl (aa (cm rfl rfl) (aa (aF (v:=.bool _) rfl rfl) (mvb rfl (sO (t:=41) rfl (fun Q28=>?_) (fun Q28=>?_)))))))
 ·refine aq rfl rfl (aq rfl rfl (aq rfl rfl (aq rfl rfl (aa (aG (v:=.bool _) rfl rfl) (asb rfl (ah (ae (aw (bb (v:=.bool _) rfl rfl (⟨⟨_,rfl⟩,hB⟩))))))))))
 refine ak rfl (aa (af bH rfl) (ak rfl (aa (ao bY rfl (by exact (hP.from_ ai.rfl_).rd 0 rfl)) ?_)));refine ak rfl (aa (bC ej rfl) (ak rfl (aa (cm rfl rfl) (aa (aF (v:=.bool _) rfl rfl) (asb rfl (ah (ae (aw (bb (v:=.bool _) rfl rfl (⟨⟨_,rfl⟩,hB⟩))))))))))
theorem hG (w:World) (hT:cQ w) :
 Rt prog 14 [] w (fun v w'=>v=.bool true∧ai w w'):=by
 have hvb:bK 3 1 ⟨#[]⟩=true:=by rw [ll];rfl
 refine enter (n:=34) Tryd.func14 rfl rfl rfl (ag (ab (asb rfl (ah (ae (ag (ab (av gX (lN _) ?_))))))));rintro v6 w1 ⟨⟨d,rfl,hd6⟩,E6⟩;have hz7:=((ai.rfl_.next E6)).size;refine av dz (fZ d k0 _ none none _ hd6 nB qg (fun x hx=>hx.2) (hT.from_ (ai.rfl_.next E6))) ?_;rintro v7 w2 ⟨⟨s,rfl,hgs,hsn⟩,E7⟩;have hg7:w.heap.size≤s:=Nat.le_trans hz7 hgs;refine mvt rfl (aa (ax rfl rfl) (aa (ax rfl rfl) (asp rfl (asi rfl (ah (ae (ag (ag (ab (mvi rfl (av bU (cz _ _) ?_)))))))))));rintro v11 w3 ⟨rfl,rfl⟩;refine aa (bx (cc rfl rfl) rfl) (mvb rfl (ak rfl (mvp rfl (ak rfl (aa (bx (cN (by kernel_rfl) rfl rfl) rfl) (aa (aF (v:=.bool _) rfl rfl) (mvb rfl (ak rfl ?_))))))));refine mvp rfl (ak rfl ?_);have hB19:ai w w2:=((ai.rfl_.next E6).next E7);refine av ei (eN s d k0 _ _ (hsn.from_ ai.rfl_) 3 1 (hT.from_ ((ai.rfl_.next E6).next E7))) ?_;rintro v19 w4 ⟨rfl,hs19,hC19⟩;rw [if_pos hvb] at hs19;rw [if_pos hvb];have hF19:=hB19.chg hC19 (fun x hx=>hx.elim (fun h=>h.1) (fun e=>by rw [show x=s from e];exact hg7));refine ak rfl (av bU (cz _ _) ?_);rintro v20 w5 ⟨rfl,rfl⟩;refine ak rfl (aa (bx (cc rfl rfl) rfl) (aa (aF (v:=.bool _) rfl rfl) (ah (ae (aY rfl (aC (ae (ag (ab (mvp rfl (av kg (nU s d _ _ _ (hs19.from_ ai.rfl_)) ?_)))))))))));rintro v25 w6 ⟨rfl,E25⟩;refine mvt rfl (aa (ax rfl rfl) (aa (ax rfl rfl) (asi rfl (asi rfl (ah (ae (ag (ab (mvi rfl (aa (dB (br rfl rfl) rfl) (mvb rfl ?_)))))))))));refine ak rfl (mvi rfl (ak rfl (aa (dB (br rfl rfl) rfl) (aa (aG (v:=.bool _) rfl rfl) (asb rfl (ah (ae (aw (bb (v:=.bool _) rfl rfl (⟨rfl,(hF19.next E25)⟩))))))))))
theorem ke:fj prog 40=some true:=by kernel_rfl
theorem j9:cr prog 40=some 6:=by kernel_rfl
theorem kf:fj prog 25=some true:=by kernel_rfl
theorem j_:cr prog 25=some 2:=by kernel_rfl
theorem k6:aI prog 5=true:=by kernel_rfl
theorem mV:prog.built 36 []=some #[.int .i64 0,.int .i64 0,.int .i64 0,.int .i64 0,.string ⟨#[]⟩]:=by kernel_rfl
theorem gH:aI prog 9=true:=by kernel_rfl
theorem nN:aI prog 10=true:=by kernel_rfl
theorem nM:aI prog 11=true:=by kernel_rfl
theorem kd:aI prog 13=true:=by kernel_rfl
theorem fM:aI prog 14=true:=by kernel_rfl
structure SnI (w0 w:World) (N b1 b6:Nat) (cs:Array Value) (U:Nat→Prop) (s d:Nat) (k kb:Kt):Prop where
 sn:bJ w U s d k
 u:∀ x,U x→N≤x
 sN:N≤s
 p:Blk w b1 25 cs
 hb:b1<N
 q:Blk w b6 36 (kV kb).toArray
 n6:¬ U b6
 s6:s≠b6
 g6:N≤b6
 hN:w0.heap.size≤N
 f:ai w0 w
section
variable {w0 w w1 w':World} {N b1 b6:Nat} {cs:Array Value} {U U2:Nat→Prop} {s d s2 d2:Nat} {k k' kb kb':Kt}
theorem SnI.from_ (h:SnI w0 w N b1 b6 cs U s d k kb) (hF:ai w w'):SnI w0 w' N b1 b6 cs U s d k kb:=
 ⟨h.sn.from_ hF,h.u,h.sN,h.p.from_ hF,h.hb,h.q.from_ hF,h.n6,h.s6,h.g6,h.hN,h.f.next hF⟩
theorem SnI.step (h:SnI w0 w N b1 b6 cs U s d k kb) (hF:ai w w1) (hs:bJ w' (Nx U w1 w') s d k') (hC:Chg (fun x=>U x∨x=s) w1 w'):SnI w0 w' N b1 b6 cs (Nx U w1 w') s d k' kb:=by
 have h1:=h.from_ hF;have hl:=h1.sn.blk.lt;have h6:=h1.q.lt;refine ⟨hs,fun x hx=>hx.elim (h.u x) fun e=>by have:=h.sN;omega,h.sN,h1.p.chg hC fun e=>?_,h.hb,h1.q.chg hC fun e=>e.elim h.n6 fun e=>h.s6 e.symm,fun e=>e.elim h.n6 fun e=>by omega,h.s6,h.g6,h.hN,h1.f.chg hC fun x hx=>?_⟩
 ·have:=h.hb;have:=h.sN;rcases e with e | e
  ·have:=h.u _ e;omega
  ·omega
 ·have:=h.hN;have:=h.sN;rcases hx with e | e
  ·have:=h.u _ e;omega
  ·omega
theorem SnI.setq (h:SnI w0 w N b1 b6 cs U s d k kb) (O:b_ b6 w w') (hb:Blk w' b6 36 (kV kb').toArray):SnI w0 w' N b1 b6 cs U s d k kb':=by
 have hC:Chg (fun x=>x=b6) w w':=O.toChg rfl;obtain ⟨v,dt,r,x⟩:=h.sn.ex;exact ⟨⟨h.sn.blk.only O h.s6,h.sn.ns,⟨v,dt,r,x.chg hC fun y hy e=>h.n6 (by rw [←show y=b6 from e];exact hy)⟩,fun y hy=>by rw [O.size];exact h.sn.lt y hy,h.sn.ok⟩,h.u,h.sN,h.p.only O (by have:=h.hb;have:=h.g6;omega),h.hb,hb,h.n6,h.s6,h.g6,h.hN,h.f.only O (Nat.le_trans h.hN h.g6)⟩
theorem SnI.anew (h:SnI w0 w N b1 b6 cs U s d k kb) {M:Nat} (hs:bJ w U2 s2 d2 k') (hu:∀ x,U2 x→M≤x) (hs2:M≤s2) (hM:b6<M):SnI w0 w N b1 b6 cs U2 s2 d2 k' kb:=
 ⟨hs,fun x hx=>by have:=hu x hx;have:=h.g6;omega,by have:=h.g6;omega,h.p,h.hb,h.q,fun e=>by have:=hu _ e;omega,by omega,h.g6,h.hN,h.f⟩
end
theorem kv (A B:Option Addr) (ca cb m:Nat) (L:List Ac) (w:World) (ha:nT w A m L) (hT:cQ w) :
 Rt prog 3 [.agg #[.slice A L.length ca,.slice B m cb]] w (fun v w'=>v=.bool true∧ai w w'):=by
 have hlL:=ha.lenL;have hlM:=ha.lenM;refine enter (n:=117) Tryd.func3 rfl rfl rfl (ag (ab (de (v:=.agg _) rfl ?_)));intro b1 w1 E1 hb1 hk1;refine asb rfl (ah (ae (ag (ag (ab (aa (aQ (cs:=[_,_]) kf j_ rfl (by exact (hk1.from_ ai.rfl_).whole)) ?_))))));refine av k6 (mA A B ca cb m L _ (ha.from_ (ai.rfl_.next E1))) ?_;rintro v12 w2 ⟨⟨hv,rfl⟩,E12⟩;replace hk1:=hk1.from_ E12;refine ah (ae (aJ rfl (fun Q3=>?_) (fun Q3=>?_)))
 ·refine ag (ab (asb rfl (ah (ae (aw (aD (bb (v:=.bool _) rfl rfl (⟨rfl,((ai.rfl_.next E1).next E12)⟩))))))))
 refine aC (ae (ag (ab ?_)));obtain ⟨N,hN⟩:∃ N,N=(w2).heap.size:=⟨_,rfl⟩;have hNw:w.heap.size≤N:=by rw [hN];exact (((ai.rfl_.next E1).next E12)).size
 have hP13:=hk1.from_ (ai.rfl_);have hNb:b1<N:=by rw [hN];exact hP13.lt
 refine av gX (lN _) ?_;rintro v13 w4 ⟨⟨d,rfl,hd13⟩,E13⟩;rw [←hN] at hd13;have hP13b:=hP13.from_ E13;refine asp rfl (ah (ae (ag (ab (mvp rfl ?_)))));have hz16:N≤(w4).heap.size:=by rw [hN];exact E13.size
 refine av dz (fZ d k0 _ none none _ hd13 nB qg (fun x hx=>hx.2) (hT.from_ (((ai.rfl_.next E1).next E12).next E13))) ?_;rintro v16 w5 ⟨⟨s,rfl,hgs,hsn⟩,E16⟩;have hP16:=hP13b.from_ ((ai.rfl_.next E16));refine mvt rfl (aa (ax rfl rfl) (aa (ax rfl rfl) (asp rfl (asi rfl (ah (ae (ag (ag (ab (mvi rfl (av bU (cz _ _) ?_)))))))))));rintro v20 w6 ⟨rfl,rfl⟩;refine aa (bx (cc rfl rfl) rfl) (mvb rfl (ak rfl (mvp rfl (ak rfl (aa (bx (cN (by kernel_rfl) rfl rfl) rfl) (aa (aF (v:=.bool _) rfl rfl) (mvb rfl (ak rfl ?_))))))));refine mvp rfl (ak rfl (aa (bW (l:=[]) (mV)) (ak rfl (av gH (js s d k0 _ _ (hsn.from_ ai.rfl_)) ?_))));rintro v29 w7 ⟨rfl,E29⟩;refine ak rfl (aa (bx (bl rfl) rfl) (aa (aF (v:=.bool _) rfl rfl) (ah (ae (aY rfl (aC (ae (ag (ab ?_)))))))));have hz6b:=((ai.rfl_.next E29)).size;refine cM gp ?_;intro b6 w8 E6 hb6 hk6;have hI0:SnI w w8 N b1 b6 #[.slice A L.length ca,.slice B m cb] _ s d k0 k0:=⟨hsn.from_ ((ai.rfl_.next E29).next E6),fun x hx=>hx.1,Nat.le_trans hz16 hgs,hP16.from_ ((ai.rfl_.next E29).next E6),hNb,hk6,fun h=>by have:=hsn.lt _ h;omega,by have:=hsn.blk.lt;omega,by have:=hsn.blk.lt;omega,hNw,((((((ai.rfl_.next E1).next E12).next E13).next E16).next E29).next E6)⟩;refine ah (ae (ag (ag (ab (asi rfl (ah (ae (bu (dJ (G:=Nat×Nat×Nat) (2::8::9::32::33::34::35::36::37::38::39::40::41::42::43::44::45::46::47::48::49::50::51::52::53::54::55::56::57::58::59::60::61::62::63::64::65::66::67::68::69::70::71::72::73::74::75::76::77::78::79::80::81::82::83::84::85::86::87::88::89::90::91::92::93::94::95::96::97::98::99::100::101::102::[]) (fun (i,d,s)=>[(3,.pointer (some ⟨d,0,none⟩)),(4,.pointer (some ⟨s,0,none⟩)),(5,.int .i64 0),(7,.int .i64 (i:Nat))]) (fun (i,d,s) w'=>i≤L.length∧∃ U k,SnI w w' N b1 b6 #[.slice A L.length ca,.slice B m cb] U s d k k) (fun (i,_)=>L.length-i) ((0,d,s)) ⟨rfl,rfl,rfl,rfl,trivial⟩ ?_ ?_)))))))))
 ·exact ⟨Nat.zero_le _,_,_,hI0.from_ ai.rfl_⟩
 rintro ⟨i,d,s⟩ ρ9 w9 ⟨hi,U,k,hI⟩;obtain ⟨M0,hM0⟩:∃ x,x=(w9).heap.size:=⟨_,rfl⟩;refine ag (ag (ab (mvi rfl (aa (af bH rfl) (aa (ao bY rfl (by exact (hI.p.from_ ai.rfl_).rd 0 rfl)) ?_)))));refine aa (bC ej rfl) (aa (cv rfl rfl) (mvb rfl (sO (t:=37) rfl (fun Q10=>?_) (fun Q10=>?_))))
 ·refine ak rfl (mvi rfl (ak rfl (aa (cv rfl rfl) (aa (aG (v:=.bool _) rfl rfl) (ah (ae (tc rfl (fun Q11=>?_) (fun Q11=>?_))))))))
  ·have hil:i<L.length:=by omega
   obtain ⟨bL,oL,hAL,hcL⟩:=ha.rowL (by omega);have hce:=hcL i hil;have hok:=ha.okL _ (List.getElem_mem hil);refine aC (ae (jZ (G:=Nat×Nat) [2,8,9,43,44,45,46,47,48,49,50,51,52,53,54,55,56,57,58,59,60,61,62,63,64,65,66,67,68,69,70,71,72,73,74,75,76,77,78,79,80,81,82,83,84,85,86,87,88,89,90,91,92,93,94,95,96,97,98,99,100,101,102] (fun (d,s)=>[(3,.pointer (some ⟨d,0,none⟩)),(4,.pointer (some ⟨s,0,none⟩)),(5,.int .i64 0)]) (fun (d,s) w'=>∃ U k,SnI w w' N b1 b6 #[.slice A L.length ca,.slice B m cb] U s d k k) ?_ ?_))
   ·refine bu (ag ?_);apply cE 11 [(44,eqp (.agg (kV k).toArray)),(45,eqp _),(46,eqp (.slice (some ⟨bL,oL,none⟩) L.length ca)),(47,eqp _),(48,eqp _),(49,eqp (.agg (acV L[i]).toArray)),(50,eqp (.tuple #[.agg (kV (nxK k (wiN L[i].d 6) L[i])).toArray,.int .i64 (nxE (wiN L[i].d 6) L[i])])),(43,eqp (.tuple #[.agg (kV (nxK k (wiN L[i].d 6) L[i])).toArray,.int .i64 (nxE (wiN L[i].d 6) L[i])])),(51,eqp (.agg (kV (nxK k (wiN L[i].d 6) L[i])).toArray)),(52,eqp _),(8,fun v w'=>∃ g,v=.pointer (some ⟨g,0,none⟩)∧M0≤g∧Blk w' g 36 #[.int .i64 0,.int .i64 0,.int .i64 0,.int .i64 0,.string ⟨#[]⟩])] (by repeat first | exact cV | refine cU ?_ | refine cx ?_) (by kernel_rfl) (by kernel_rfl) ⟨aj _,aj _,aj _,aj _,aj _,aj _,aj _,aj _,aj _,aj _,(fun _ _ _ hF ⟨g,h1,h2,h3⟩=>⟨g,h1,h2,h3.from_ hF⟩),trivial⟩
    case hop=>
     constructor
     ·rintro-w13 D13;exact an (aQ (cs:=kV k) aE ar rfl ((hI.q.from_ (ai.rfl_.next D13)).whole)) rfl
     constructor
     ·rintro-w14 D14;exact an (af bH rfl) rfl
     constructor
     ·rintro-w15 D15;rintro _ rfl;exact an (ao (v:=.slice (some ⟨bL,oL,none⟩) L.length ca) bY rfl (by rw [←hAL];exact (hI.p.from_ (ai.rfl_.next D15)).rd 0 rfl)) rfl
     constructor
     ·rintro-w16 D16;exact an (aB (v:=.int _ _) rfl) rfl
     constructor
     ·rintro-w17 D17;rintro v17_46 rfl _ rfl;exact an (aV dm rfl rfl (by omega)) rfl
     constructor
     ·rintro-w18 D18;rintro _ rfl;exact an (aQ (cs:=acV L[i]) ke j9 rfl (ep (hI.f.next D18) hce)) rfl
     constructor
     ·rintro-w19 D19;rintro v19_44 rfl v19_49 rfl;refine dZ nN ((rr k L[i] _ hok.ht).mono ?_);rintro v _ ⟨rfl,E50⟩;exact ⟨E50,rfl⟩
     constructor
     ·rintro-w20 D20;rintro v20_50 rfl;exact an (aB (v:=.tuple _) rfl) rfl
     constructor
     ·rintro-w21 D21;rintro v21_43 rfl;exact an (ax rfl rfl) rfl
     constructor
     ·rintro-w22 D22;rintro v22_43 rfl;exact an (ax rfl rfl) rfl
     constructor
     ·rintro-w23 D23;exact fh (ma gp) (ai.rfl_.new _) ⟨_,rfl,by rw [hM0];exact ((ai.rfl_.next D23)).size,Blk.new _ _ _⟩
     exact trivial
    case hend=>
     intro w24 D24;rintro v44 rfl _ rfl v46 rfl _ rfl _ rfl v49 rfl v50 rfl v43 rfl v51 rfl _ rfl v8 ⟨b8,rfl,hm8,hk8⟩;show St ..;have hM11:ai _ w24:=(ai.rfl_.next D24);have hg8:w.heap.size≤b8:=Nat.le_trans hI.f.size (by rw [←hM0];exact hm8);refine bh (vs:=[_,_,_,_,_]) ar rfl rfl (by simp [Value.oneCell']) (hk8) rfl ?_;intro w25 O11 P11;have hF11:=hM11.only O11 (by rw [←hM0];exact hm8);have hJ:=hI.from_ hF11;refine asi rfl (ah (ae (ag (ag (ab (mvp rfl (aa (af bH rfl) ?_)))))));refine aa (ao (v:=.slice (some ⟨bL,oL,none⟩) L.length ca) bY rfl (by rw [←hAL];exact (hJ.p.from_ ai.rfl_).rd 0 rfl)) ?_;refine mvi rfl (aa (aV dm rfl rfl (by omega)) (aa (aQ (cs:=acV L[i]) ke j9 rfl (ep ((hI.f.next D24).only O11 (hg8)) hce)) (av nM (rJ s d k _ _ (hJ.sn.from_ ai.rfl_) L[i] hok.ht (hT.from_ ((hI.f.next D24).only O11 (hg8)))) ?_)));rintro v59 w26 ⟨rfl,hs59,hC59⟩;have hJ2:=hJ.step (ai.rfl_) hs59 hC59;have P11b:=(P11.from_ (ai.rfl_)).chg hC59 (fun h=>h.elim (fun h=>by have:=hI.sn.lt _ h;omega) (fun h=>by have:=hI.sn.blk.lt;omega));refine mvi rfl (aa (bx (cc rfl rfl) (bne_self_eq_false _)) (ah (ae (aY rfl (aC (ae (ag (ab (aa (aQ (cs:=[_,_,_,_,_]) aE ar rfl (by exact (P11b.from_ ai.rfl_).whole)) ?_)))))))));have hM14:ai _ w26:=ai.rfl_;refine bh (vs:=[_,_,_,_,_]) ar rfl rfl (by simp [Value.oneCell']) ((hJ2.q.from_ ai.rfl_)) rfl ?_;intro w27 O14 P14;have hJ3:=(hJ2.from_ hM14).setq (kb':=(nxK k (wiN L[i].d 6) L[i])) O14 P14;refine ah (ae (ag (ag (ab (mvp rfl (aa (aQ (cs:=[_,_,_,_,_]) aE ar rfl (by exact (hJ3.q.from_ ai.rfl_).whole)) ?_))))));refine av gH (js s d (nxK k (wiN L[i].d 6) L[i]) _ _ (hJ3.sn.from_ ai.rfl_)) ?_;rintro v65 w28 ⟨rfl,E65⟩;refine aa (bx (bl rfl) rfl) (ah (ae (aY rfl (aC (ae (ag (ab (aa (af bH rfl) ?_))))))));refine aa (ao (v:=.slice (some ⟨bL,oL,none⟩) L.length ca) bY rfl (by rw [←hAL];exact (hJ3.p.from_ (ai.rfl_.next E65)).rd 0 rfl)) ?_;refine mvi rfl (aa (aV dm rfl rfl (by omega)) (aa (af fm rfl) (aa (ao aL rfl (by exact eA ((hJ2.f.only O14 (Nat.le_trans hJ2.hN hJ2.g6)).next E65) (hce 0 _ rfl))) ?_)));refine av gr (jw L[i].d 6 _ (by decide)) ?_;rintro v73 w29 ⟨rfl,rfl⟩;refine aa (br rfl rfl) (ah (ae (tc rfl (fun Q30=>?_) (fun Q30=>?_))))
     ·refine ag (ab (mvp rfl (aa (af bH rfl) ?_)));refine aa (ao (v:=.slice (some ⟨bL,oL,none⟩) L.length ca) bY rfl (by rw [←hAL];exact (hJ3.p.from_ (ai.rfl_.next E65)).rd 0 rfl)) ?_;refine mvi rfl (aa (aV dm rfl rfl (by omega)) (aa (af fo rfl) (aa (ao (v:=.slice L[i].Y L[i].ys.length L[i].yc) ek rfl (eA ((hJ2.f.only O14 (Nat.le_trans hJ2.hN hJ2.g6)).next E65) (hce 5 _ rfl))) ?_)));obtain ⟨v,dt,hrl,hdk⟩:=hJ3.sn.ex;obtain ⟨M2,hM2⟩:∃ x,x=(w28).heap.size:=⟨_,rfl⟩;have hq6:b6<M2:=by rw [hM2];exact (hJ3.q.from_ (ai.rfl_.next E65)).lt
      refine av kd (mN d _ v dt L[i].Y L[i].yc L[i].ys _ (hdk.from_ (ai.rfl_.next E65)) (hok.ry.from_ ((hJ2.f.only O14 (Nat.le_trans hJ2.hN hJ2.g6)).next E65)) hok.cy hok.fy) ?_;rintro v82 w31 ⟨⟨d2,rfl,hd82⟩,E82⟩;rw [←hM2] at hd82;have hJ4:=hJ3.from_ (((ai.rfl_.next E65).next E82));refine asp rfl (ah (ae (ag (ag (ab (mvp rfl (aa (bx (cN (by kernel_rfl) rfl rfl) rfl) (ah (ae (aY rfl (aC (ae (ag (ab (mvp rfl ?_)))))))))))))));have hz87:M2≤(w31).heap.size:=by rw [hM2];exact E82.size
      refine av dz (fZ d2 (nxK k (wiN L[i].d 6) L[i]) _ v dt _ hd82 hrl hJ4.sn.ok (fun x hx=>hx.2) (hT.from_ (((hJ2.f.only O14 (Nat.le_trans hJ2.hN hJ2.g6)).next E65).next E82))) ?_;rintro v87 w32 ⟨⟨s2,rfl,hgs2,hsn2⟩,E87⟩;have hJ5:=hJ4.from_ ((ai.rfl_.next E87));have hK:=hJ5.anew (M:=M2) hsn2 (fun x hx=>hx.1) (Nat.le_trans hz87 hgs2) hq6;refine mvt rfl (aa (ax rfl rfl) (aa (ax rfl rfl) (asp rfl (asi rfl (ah (ae (ag (ab (mvi rfl (av bU (cz _ _) ?_))))))))));rintro v91 w33 ⟨rfl,rfl⟩;refine aa (bx (cc rfl rfl) rfl) (mvb rfl (ak rfl (mvp rfl (ak rfl (aa (bx (cN (by kernel_rfl) rfl rfl) rfl) (aa (aF (v:=.bool _) rfl rfl) (mvb rfl (ak rfl ?_))))))));refine mvp rfl (ak rfl (aa (aQ (cs:=[_,_,_,_,_]) aE ar rfl (by exact (hJ5.q.from_ ai.rfl_).whole)) ?_));refine ak rfl (av gH (js s2 d2 (nxK k (wiN L[i].d 6) L[i]) _ _ (hsn2.from_ ai.rfl_)) ?_);rintro v100 w34 ⟨rfl,E100⟩;refine ak rfl (aa (bx (bl rfl) rfl) (aa (aF (v:=.bool _) rfl rfl) (ah (ae (aY rfl (aC (bA ?_)))))));refine cd ((d2,s2)) ⟨(by first | rfl | (refine bP ?_;omega)),(by first | rfl | (refine bP ?_;omega)),(by first | rfl | (refine bP ?_;omega)),trivial⟩ (by (iterate 65 refine bm rfl ?_);exact bO) ?_;exact ⟨_,_,hK.from_ (ai.rfl_.next E100)⟩
     refine aC (bA ?_);refine cd ((d,s)) ⟨(by first | rfl | (refine bP ?_;omega)),(by first | rfl | (refine bP ?_;omega)),(by first | rfl | (refine bP ?_;omega)),trivial⟩ (by (iterate 34 refine bm rfl ?_);exact bO) ?_;exact ⟨_,_,hJ3.from_ (ai.rfl_.next E65)⟩
   rintro ⟨d9,s9⟩ ρ35 w35 ⟨U9,k9,hI9⟩;refine ab (mvi rfl (aa (bz (b:=1) rfl rfl (by omega)) (asi rfl (ah ?_))));refine cd ((i+1,d9,s9)) ⟨(by first | rfl | (refine bP ?_;omega)),(by first | rfl | (refine bP ?_;omega)),(by first | rfl | (refine bP ?_;omega)),(by first | rfl | (refine bP ?_;omega)),trivial⟩ (by (iterate 157 refine bm rfl ?_);exact bO) ⟨?_,?_⟩
   ·exact ⟨by omega,_,_,hI9.from_ ai.rfl_⟩
   ·show L.length-(i+1)<L.length-i;omega
  refine dd (bB (bB (cG (ae (ag (ab (av dz (mh _) ?_)))))));rintro v104 w36 ⟨rfl,rfl⟩;refine mvt rfl (aa (ax rfl rfl) (aa (ax rfl rfl) (asp rfl (asi rfl (ah (ae (ag (ab (mvi rfl (av bU (cz _ _) ?_))))))))));rintro v108 w37 ⟨rfl,rfl⟩;refine aa (dB (br rfl rfl) rfl) (mvb rfl (ak rfl (mvp rfl (ak rfl (aa (dB (cN (by kernel_rfl) rfl rfl) rfl) (aa (aG (v:=.bool _) rfl rfl) (mvb rfl (ak rfl ?_))))))));refine av fM (hG _ (hT.from_ hI.f)) ?_;rintro v115 w38 ⟨rfl,E115⟩;refine aa (aG (v:=.bool _) rfl rfl) (asb rfl (ah (ae (aw (bb (v:=.bool _) rfl rfl (⟨rfl,(hI.f.next E115)⟩))))))
 refine aq rfl rfl (aq rfl rfl (aa (aF (v:=.bool _) rfl rfl) (ah (ae (aY rfl (dd (bB (bB (cG (ae (ag (ab (av dz (mh _) ?_)))))))))))));rintro v104 w39 ⟨rfl,rfl⟩;refine mvt rfl (aa (ax rfl rfl) (aa (ax rfl rfl) (asp rfl (asi rfl (ah (ae (ag (ab (mvi rfl (av bU (cz _ _) ?_))))))))));rintro v108 w40 ⟨rfl,rfl⟩;refine aa (dB (br rfl rfl) rfl) (mvb rfl (ak rfl (mvp rfl (ak rfl (aa (dB (cN (by kernel_rfl) rfl rfl) rfl) (aa (aG (v:=.bool _) rfl rfl) (mvb rfl (ak rfl ?_))))))));refine av fM (hG _ (hT.from_ hI.f)) ?_;rintro v115 w41 ⟨rfl,E115⟩;refine aa (aG (v:=.bool _) rfl rfl) (asb rfl (ah (ae (aw (bb (v:=.bool _) rfl rfl (⟨rfl,(hI.f.next E115)⟩))))))
theorem jh {W:World} (h:laidMetH prog Rows.snapModelRow.laid W):cQ W:=by
 have gTab : prog.globalNamed "lectern/sum.remainders" = some 1 := by kernel_rfl
 have gType:(prog.globals[1]?).map (·.type)=some 120:=by kernel_rfl
 have c1:prog.cellsOf 110=1:=by kernel_rfl
 have c16:prog.cellsOf 120=16:=by kernel_rfl
 have ht : Lib.TabIs prog W "lectern/sum.remainders" .u32 [0, 498536548, 997073096, 651767980, 1994146192, 1802195444, 1303535960, 1342533948, 3988292384, 4027552580, 3604390888, 3412177804, 2607071920, 2262029012, 2685067896, 3183342108] :=
  Lib.tabIs_of_head (rest:=[]) gTab gType Tryd.underlying120 Tryd.underlying110 c1 c16 h
 intro i hi;rw [ht.cell gTab i hi];have:i=0∨i=1∨i=2∨i=3∨i=4∨i=5∨i=6∨i=7∨i=8∨i=9∨i=10∨i=11∨i=12∨i=13∨i=14∨i=15:=by omega
 rcases this with rfl | rfl | rfl | rfl | rfl | rfl | rfl | rfl | rfl | rfl | rfl | rfl | rfl | rfl | rfl | rfl <;> rfl
theorem kx (cs:Array Value) (x:oJ.den) (w:World) (hs:cs.size=2) (h:oJ.At w (fun j=>cs[j]?) x) (hT:cQ w):Rt prog 3 [.agg cs] w fun v w'=>v=.bool true∧ai w w':=by
 obtain ⟨A,B,ca,cb,m,L,rfl,ha⟩:=mM hs h;exact kv A B ca cb m L w ha hT
noncomputable def eu (os:Os):World:=
 { World.holding prog os ⟨#[],#[],[]⟩ with heap:=(World.holding prog os ⟨#[],#[],[]⟩).heap.modify 1 fun | .cells _ t frozen=>.cells #[.int .u32 0,.int .u32 498536548,.int .u32 997073096,.int .u32 651767980,.int .u32 1994146192,.int .u32 1802195444,.int .u32 1303535960,.int .u32 1342533948,.int .u32 3988292384,.int .u32 4027552580,.int .u32 3604390888,.int .u32 3412177804,.int .u32 2607071920,.int .u32 2262029012,.int .u32 2685067896,.int .u32 3183342108] t frozen | o=>o }
theorem kE (os:Os):laidMet prog Rows.snapModelRow.laid ((eu os).forCall (fun _ _=>0) ⟨#[],#[.agg #[.slice none 0 0,.slice none 0 0]],[]⟩).memory:=
 laidMet_of_run' 8 (by kernel_rfl) (by kernel_rfl)
theorem jl (os:Os) {H:Type} (enc:TypeId×Value→H):∃ places,DataW.whole enc prog ((eu os).forCall (fun _ _=>0) ⟨#[],#[.agg #[.slice none 0 0,.slice none 0 0]],[]⟩).memory Tryd.f3.params.toList Rows.snapModelSpec.vars false #[(.agg #[.slice none 0 0,.slice none 0 0]:Value)].toList 8=some ([.agg [.nil,.nil]],[],places):=
 ⟨[],by kernel_rfl⟩
theorem iO (os:Os) (started:os.Started) (H:Type) (enc:TypeId×Value→H) (F:Stop.Interp) :
 ReturnsInHanded {} Tryd.checked os 3 .any ((OpenSpec.ofChange Rows.snapModelSpec).preRow enc prog Tryd.f3 Rows.snapModelRow.domain false Rows.snapModelRow.laid) (((OpenSpec.ofChange Rows.snapModelSpec).at F).post enc prog Tryd.f3 false true false false):=by
 obtain ⟨places,hx⟩:=jl os enc
 refine returnsInHanded_of_row (C:=Tryd.checked) (s:=OpenSpec.ofChange Rows.snapModelSpec) Tryd.own started (by kernel_rfl) Tryd.func3
  (witness_row_at (enc:=enc) (C:=Tryd.checked) false (eu os) #[.agg #[.slice none 0 0,.slice none 0 0]] rfl (by kernel_rfl) (by kernel_rfl) (by kernel_rfl)
   (OpenSpec.preRow_of_cond 8 hx (by kernel_rfl) (fun k hk=>by cases hk) (by kernel_rfl) (kE os))) ?_
 intro W base args ds gs before hval hW _ _ hsz hL hS _;exact gO 3 Tryd.f3 25 4 Rows.snapModelSpec Tryd.params3 (by kernel_rfl) Tryd.underlying4 rfl (fun _=>rfl) (by kernel_rfl) (dT_ (by kernel_rfl)) Rows.snapModelRow.laid (kH (.sl qF) (.pr (.sl (.int .i64)) .unit) (by kernel_rfl) Rows.snapModelRow.laid (fun _ h=>jh h) kx) W base args ds gs before hval hW hsz hL hS
theorem j6:Rows.SnapModelSaid:=
 OpenClaim.holds_of_cond 3 Tryd.f3 rfl rfl rfl rfl rfl rfl rfl ⟨rfl,rfl,rfl,rfl,rfl⟩ rfl rfl rfl rfl rfl (by kernel_rfl) Tryd.func3 (by kernel_rfl)
  (dT_ (by kernel_rfl)) (by unfold Func.isWrapper;first | (rw [if_pos (by decide+kernel)];kernel_rfl) | (rw [if_neg (by decide+kernel)];exact ⟨rfl,rfl⟩))
  (fun os started H enc _ F=>by rw [OpenClaim.pre_eq_preRow];exact iO os started H enc F)
theorem jm (f : FuncId) (fn : Func) (hf : Tryd.pinned.checked.prog.funcNamed "lectern/lecternlaw20.SnapModel" = some f) (hfn : Tryd.pinned.checked.prog.funcs[f]? = some fn) :
 false=Tryd.pinned.checked.prog.looks []∧∀ (j:Nat) t,fn.params[j]? =some t→Tryd.pinned.checked.prog.wantsStandIn t=false:=by
 obtain rfl : f = 3 := Option.some.inj ((show prog.funcNamed "lectern/lecternlaw20.SnapModel" = some 3 by kernel_rfl).symm.trans hf) |>.symm
 obtain rfl:fn=Tryd.f3:=(Option.some.inj (Tryd.func3.symm.trans hfn)).symm;refine ⟨by kernel_rfl,fun j t ht=>?_⟩;rw [(Tryd.params3)] at ht;obtain rfl:t=25:=by simpa using Array.mem_of_getElem? ht
 exact (show prog.wantsStandIn 25=false by kernel_rfl)
theorem SnapModel_holds:Rows.SnapModelCardSaid:=
 Claim7.holds_tied_plain_at .later [] _ _ _ _ j6 (fun _ h=>by cases h) (by kernel_rfl) (fun _ h=>by cases h) snapModel_row_tie rfl ⟨rfl,rfl⟩ (by kernel_rfl) rfl jm (by kernel_rfl)
end Go.Proofs.YtdimnaiiaekngaaDoor
namespace Go.Proofs.YtdimnaiiaekngaaDoor
open Go.Proofs.Tryd (prog)
open Go.RowKit
open Go.ChangeShapes Go.WideShapes Go.ChangeAt
theorem cl:∀ (a0:Int) (a1:Int) (a2:Int),prog.built 36 [(0,.int .i64 a0),(1,.int .i64 a1),(2,.int .i64 a2),(3,.int .i64 2),(4,.string ⟨#[97,32,115,116,97,116,101]⟩)]=some #[.int .i64 a0,.int .i64 a1,.int .i64 a2,.int .i64 2,.string ⟨#[97,32,115,116,97,116,101]⟩]:=by intros;kernel_rfl
structure VtI (w0 w:World) (N b1:Nat) (cs:Array Value) (U:Nat→Prop) (d:Nat) (v dt:Option (List Nat)) (k:Kt):Prop where
 dk:cR w U d (SDk v dt) 0 false
 r:rS k v dt
 ok:rU k
 u:∀ x,U x→N≤x∧x<w.heap.size
 p:Blk w b1 25 cs
 hb:b1<N
 hN:w0.heap.size≤N
 f:ai w0 w
theorem VtI.from_ {w0 w w':World} {N b1 d:Nat} {cs:Array Value} {U:Nat→Prop} {v dt:Option (List Nat)} {k:Kt} (h:VtI w0 w N b1 cs U d v dt k) (hF:ai w w'):VtI w0 w' N b1 cs U d v dt k:=
 ⟨h.dk.from_ hF,h.r,h.ok,fun x hx=>⟨(h.u x hx).1,Nat.lt_of_lt_of_le (h.u x hx).2 hF.size⟩,h.p.from_ hF,h.hb,h.hN,h.f.next hF⟩
abbrev stN:ByteArray:=⟨#[97,32,115,116,97,116,101]⟩
theorem sP {i:Nat} (h:i≤6):bK ((i+1:Nat):Int) ((i%8:Nat):Int) ⟨#[]⟩=true:=by
 rw [ll];unfold inT;simp only [Bool.and_eq_true,decide_eq_true_eq];omega
theorem sQ {x:Nat} (h:x≤20):cg ((x:Nat):Int) 2 stN=true:=by
 unfold cg inT;simp only [Bool.and_eq_true,decide_eq_true_eq];refine ⟨by omega,by omega,by decide⟩
theorem cR.mem1 {w:World} {U:Nat→Prop} {d fu:Nat} {D:List Fe} {off:Bool} (h:cR w U d D fu off):U d:=by
 obtain ⟨fs,Ap,cp,ca,h1,h2,h3,h4,h5⟩:=h;exact h5 _ (.inl rfl)
theorem bJ.memd {w:World} {U:Nat→Prop} {s d:Nat} {k:Kt} (h:bJ w U s d k):U d:=by
 obtain ⟨v,dt,r,x⟩:=h.ex;exact x.mem1
theorem bJ.nxN {w w':World} {V:Nat→Prop} {N s d:Nat} {k:Kt} (_:bJ w' (Nx V w w') s d k) (hV:∀ y,V y→N≤y) (hz:N≤w.heap.size):∀ y,Nx V w w' y→N≤y:=fun y hy=>hy.elim (hV y) fun h=>Nat.le_trans hz h.1
theorem kr (A B:Option Addr) (ca cb m:Nat) (L:List Ac) (w:World) (ha:nT w A m L) (hT:cQ w) :
 Rt prog 4 [.agg #[.slice A L.length ca,.slice B m cb]] w (fun v w'=>v=.bool true∧ai w w'):=by
 have hlL:=ha.lenL;have hlM:=ha.lenM;refine enter (n:=90) Tryd.func4 rfl rfl rfl (ag (ab (de (v:=.agg _) rfl ?_)));intro b1 w1 E1 hb1 hk1;refine asb rfl (ah (ae (ag (ag (ab (aa (aQ (cs:=[_,_]) kf j_ rfl (by exact (hk1.from_ ai.rfl_).whole)) ?_))))));refine av k6 (mA A B ca cb m L _ (ha.from_ (ai.rfl_.next E1))) ?_;rintro v11 w2 ⟨⟨hv,rfl⟩,E11⟩;replace hk1:=hk1.from_ E11;refine ah (ae (aJ rfl (fun Q3=>?_) (fun Q3=>?_)))
 ·refine ag (ab (asb rfl (ah (ae (aw (aD (bb (v:=.bool _) rfl rfl (⟨rfl,((ai.rfl_.next E1).next E11)⟩))))))))
 refine aC (ae (ag (ab ?_)));obtain ⟨N,hN⟩:∃ N,N=(w2).heap.size:=⟨_,rfl⟩;have hNw:w.heap.size≤N:=by rw [hN];exact (((ai.rfl_.next E1).next E11)).size
 have hP12:=hk1.from_ (ai.rfl_);have hNb:b1<N:=by rw [hN];exact hP12.lt
 refine av gX (lN _) ?_;rintro v12 w4 ⟨⟨d,rfl,hd12⟩,E12⟩;rw [←hN] at hd12;have hI0:VtI w w4 N b1 #[.slice A L.length ca,.slice B m cb] _ d none none ⟨0,0,0,0,⟨#[]⟩⟩:=⟨hd12,nB,qg,fun x hx=>hx,hP12.from_ E12,hNb,hNw,(((ai.rfl_.next E1).next E11).next E12)⟩;refine asp rfl (ah (ae (ag (ab (asi rfl (ah (ae (ag (ag (ab (asi rfl (ah (ae (bu (dJ (G:=Nat×Nat×Nat) (2::6::7::8::9::13::14::15::16::17::18::19::20::21::22::23::24::25::26::27::28::29::30::31::32::33::34::35::36::37::38::39::40::41::42::43::44::45::46::47::48::49::50::51::52::53::54::55::56::57::58::59::60::61::62::63::64::65::66::67::68::69::70::71::72::73::74::75::76::77::78::79::80::81::82::83::84::85::86::87::88::[]) (fun (i,d,x)=>[(3,.pointer (some ⟨d,0,none⟩)),(4,.int .i64 (x:Nat)),(5,.int .i64 (i:Nat))]) (fun (i,d,x) w'=>i≤L.length∧i≤6∧5≤x∧x≤5+i∧∃ U v dt a b ci co t,VtI w w' N b1 #[.slice A L.length ca,.slice B m cb] U d v dt ⟨a,b,ci,co,t⟩∧(i=0∨ci=(x:Nat)∧co=2∧t=stN)) (fun (i,_)=>L.length-i) ((0,d,5)) ⟨rfl,rfl,rfl,trivial⟩ ?_ ?_)))))))))))))))
 ·exact ⟨Nat.zero_le _,Nat.zero_le _,Nat.le_refl _,Nat.le_refl _,_,_,_,_,_,_,_,_,hI0.from_ ai.rfl_,.inl rfl⟩
 rintro ⟨i,d,x⟩ ρ5 w5 ⟨hi,hi6,hx5,hxi,U,v,dt,ka,kb,ki,ko,kt,hV,hk⟩;obtain ⟨M0,hM0⟩:∃ x,x=(w5).heap.size:=⟨_,rfl⟩;refine ag (ag (ab (mvi rfl (aa (af bH rfl) (aa (ao bY rfl (by exact (hV.p.from_ ai.rfl_).rd 0 rfl)) ?_)))));refine aa (bC ej rfl) (aa (cv rfl rfl) (mvb rfl (sO (t:=18) rfl (fun Q6=>?_) (fun Q6=>?_))))
 ·refine ak rfl (mvi rfl (ak rfl (aa (cv rfl rfl) (aa (aG (v:=.bool _) rfl rfl) (ah (ae (tc rfl (fun Q7=>?_) (fun Q7=>?_))))))))
  ·have hil:i<L.length:=by omega
   obtain ⟨bL,oL,hAL,hcL⟩:=ha.rowL (by omega);have hce:=hcL i hil;have hok:=ha.okL _ (List.getElem_mem hil);refine aC (ae (ag (bu (ag (ab (mvp rfl ?_))))));have hz26a:N≤M0:=by have:=hV.u d hV.dk.mem1;omega
   have hz26:N≤(w5).heap.size:=Nat.le_trans hz26a (by rw [hM0];exact (ai.rfl_).size);have hV26:=hV.from_ (ai.rfl_);refine av dz (fZ d ⟨ka,kb,ki,ko,kt⟩ U v dt _ (hV.dk.from_ ai.rfl_) hV.r hV.ok (fun x hx=>Nat.lt_of_lt_of_le (hV.u x hx).2 (ai.rfl_).size) (hT.from_ hV.f)) ?_;rintro v26 w8 ⟨⟨s,rfl,hgs,hsn⟩,E26⟩;have hz27:N≤(w8).heap.size:=Nat.le_trans hz26 E26.size;have hV27:=hV26.from_ E26;have hsN:N≤s:=Nat.le_trans hz26 hgs;refine mvt rfl (aa (ax rfl rfl) (aa (ax rfl rfl) (asp rfl (asi rfl (ah (ae (ag (ag (ab (mvi rfl (av bU (cz _ _) ?_)))))))))));rintro v30 w9 ⟨rfl,rfl⟩;refine aa (bx (cc rfl rfl) rfl) (mvb rfl (ak rfl (mvp rfl (ak rfl (aa (bx (cN (by kernel_rfl) rfl rfl) rfl) (aa (aF (v:=.bool _) rfl rfl) (mvb rfl (ak rfl ?_))))))));refine mvp rfl (ak rfl (mvi rfl (ak rfl (aa (bz (b:=1) rfl rfl (by omega)) (ak rfl (mvi rfl (ak rfl (aa (lz (b:=8) rfl rfl (by decide)) ?_))))))));refine ak rfl ?_;have hB42a:ai w w8:=(hV.f.next E26);have hz42:=((hV.f.next E26)).size;have hz42N:N≤(w8).heap.size:=Nat.le_trans hz27 (ai.rfl_).size;have hV42:=hV27.from_ (ai.rfl_);have hl42:=(hsn.from_ (ai.rfl_)).blk.lt;refine av ei (eN s d _ _ _ (hsn.from_ ai.rfl_) ((i+1:Nat):Int) ((i%8:Nat):Int) (hT.from_ (hV.f.next E26))) ?_;rintro v42 w10 ⟨rfl,hs42,hC42⟩;rw [if_pos (sP hi6)] at hs42;rw [if_pos (sP hi6)];have hU42:=hs42.nxN (fun y hy=>(hV.u y hy).1) hz42N;have hz43:N≤(w10).heap.size:=Nat.le_trans hz42N hC42.size;have hB42:=hB42a.chg hC42 (fun y hy=>by have:=hV.hN;exact hy.elim (fun h=>by have:=(hV.u y h).1;omega) (fun h=>by omega));have hP42:=hV42.p.chg hC42 (fun h=>by have:=hV.hb;exact h.elim (fun h=>by have:=(hV.u _ h).1;omega) (fun h=>by omega));refine ak rfl (av bU (cz _ _) ?_);rintro v43 w11 ⟨rfl,rfl⟩;refine ak rfl (aa (bx (cc rfl rfl) rfl) (aa (aF (v:=.bool _) rfl rfl) (ah (ae (aY rfl (aC (ae (jZ (G:=Nat) [2,46,47,48,49,50,51,52,53,54,55] (fun x=>[(4,.int .i64 (x:Nat))]) (fun x2 w'=>5≤x2∧x2≤6+i∧∃ U2,bJ w' U2 s d ⟨((i+1:Nat):Int),((i%8:Nat):Int),((x2:Nat):Int),2,stN⟩∧(∀ y,U2 y→N≤y)∧Blk w' b1 25 #[.slice A L.length ca,.slice B m cb]∧ai w w') ?_ ?_))))))))
   ·refine ag (ab (mvi rfl (aa (lz (b:=2) rfl rfl (by decide)) (aa (br rfl rfl) (ah (ae (tc rfl (fun Q12=>?_) (fun Q12=>?_))))))))
    ·refine ag (ab (mvi rfl (aa (bz (b:=1) rfl rfl (by omega)) (asi rfl (ah (ae (ag (ab (mvp rfl (mvi rfl ?_))))))))));have hB53a:ai w w10:=hB42;have hz53N:N≤(w10).heap.size:=Nat.le_trans hz43 (ai.rfl_).size;have hP53a:=hP42.from_ (ai.rfl_);have hl53:=(hs42.from_ (ai.rfl_)).blk.lt;refine av gq (gS s d _ _ _ (hs42.from_ ai.rfl_) ((x+1:Nat):Int) 2 stN (by decide) (hT.from_ hB42)) ?_;rintro v53 w13 ⟨rfl,hs53,hC53⟩;rw [if_pos (sQ (by omega))] at hs53;rw [if_pos (sQ (by omega))];have hU53:=hs53.nxN hU42 hz53N;have hB53:=hB53a.chg hC53 (fun y hy=>by have:=hV.hN;exact hy.elim (fun h=>by have:=(hU42 y h);omega) (fun h=>by omega));have hP53:=hP53a.chg hC53 (fun h=>by have:=hV.hb;exact h.elim (fun h=>by have:=(hU42 _ h);omega) (fun h=>by omega));refine av bU (cz _ _) ?_;rintro v54 w14 ⟨rfl,rfl⟩;refine aa (bx (cc rfl rfl) rfl) (ah (ae (aY rfl (aC ?_))));refine cd ((x+1)) ⟨(by first | rfl | (refine bP ?_;omega)),trivial⟩ (by (iterate 11 refine bm rfl ?_);exact bO) ?_;exact ⟨by omega,by omega,_,hs53.from_ ai.rfl_,hU53,hP53.from_ ai.rfl_,hB53⟩
    refine aC ?_;refine cd (x) ⟨(by first | rfl | (refine bP ?_;omega)),trivial⟩ (by (iterate 3 refine bm rfl ?_);exact bO) ?_;have hks:ki=(x:Nat)∧ko=2∧kt=stN:=hk.resolve_left (fun h=>by subst h;omega);obtain ⟨h1,h2,h3⟩:=hks;subst h1 h2 h3;exact ⟨by omega,by omega,_,hs42.from_ ai.rfl_,hU42,hP42.from_ ai.rfl_,hB42⟩
   rintro x2 ρ15 w15 ⟨hx25,hx26,U2,hs2,hU2,hP2,hB2⟩;refine ag (ab (mvp rfl (aa (af bH rfl) ?_)));refine aa (ao (v:=.slice (some ⟨bL,oL,none⟩) L.length ca) bY rfl (by rw [←hAL];exact (hP2.from_ ai.rfl_).rd 0 rfl)) ?_;refine mvi rfl (aa (aV dm rfl rfl (by omega)) (aa (af fo rfl) (aa (ao (v:=.slice L[i].Y L[i].ys.length L[i].yc) ek rfl (eA hB2 (hce 5 _ rfl))) ?_)));obtain ⟨v2,dt2,hr2,hdk2⟩:=hs2.ex;obtain ⟨M2,hM2⟩:∃ x,x=(w15).heap.size:=⟨_,rfl⟩;have hN2:N≤M2:=by rw [hM2];have:=(hU2 d (hs2.memd));have:=(hs2.from_ (ai.rfl_)).lt d hs2.memd;omega
   have hP63:=hP2.from_ (ai.rfl_);refine av kd (mN d _ v2 dt2 L[i].Y L[i].yc L[i].ys _ (hdk2.from_ ai.rfl_) (hok.ry.from_ hB2) hok.cy hok.fy) ?_;rintro v63 w16 ⟨⟨d2,rfl,hd63⟩,E63⟩;rw [←hM2] at hd63;have hP64:=hP63.from_ E63;have hV1:VtI w w16 N b1 #[.slice A L.length ca,.slice B m cb] _ d2 v2 dt2 ⟨((i+1:Nat):Int),((i%8:Nat):Int),((x2:Nat):Int),2,stN⟩:=⟨hd63,hr2,hs2.ok,fun x hx=>⟨Nat.le_trans hN2 hx.1,hx.2⟩,hP64,hV.hb,hV.hN,(hB2.next E63)⟩;refine asp rfl (ah (ae (ag (ag (ab (mvp rfl (aa (bx (cN (by kernel_rfl) rfl rfl) rfl) (ah (ae (aY rfl (aC (ae (ag (ab (mvp rfl (av dz (fZ d2 ⟨((i+1:Nat):Int),((i%8:Nat):Int),((x2:Nat):Int),2,stN⟩ _ v2 dt2 _ hd63 hr2 hs2.ok (fun x hx=>hx.2) (hT.from_ (hB2.next E63))) ?_))))))))))))))));rintro v68 w17 ⟨⟨s2,rfl,hgs2,hsn2⟩,E68⟩;have hV2:=hV1.from_ ((ai.rfl_.next E68));refine mvt rfl (aa (ax rfl rfl) (aa (ax rfl rfl) (asp rfl (asi rfl (ah (ae (ag (ab (mvi rfl (av bU (cz _ _) ?_))))))))));rintro v72 w18 ⟨rfl,rfl⟩;refine aa (bx (cc rfl rfl) rfl) (mvb rfl (ak rfl (mvp rfl (ak rfl (aa (bx (cN (by kernel_rfl) rfl rfl) rfl) (aa (aF (v:=.bool _) rfl rfl) (mvb rfl (ak rfl ?_))))))));refine mvp rfl (ak rfl (mvi rfl (ak rfl (aa (bz (b:=1) rfl rfl (by omega)) (ak rfl (mvi rfl (ak rfl (aa (lz (b:=8) rfl rfl (by decide)) ?_))))))));refine ak rfl (mvi rfl (ak rfl (aa (bW (l:=[(0,.tmp 81),(1,.tmp 83),(2,.tmp 84),(3,.const (.int .i64 2)),(4,.const (.string ⟨#[97,32,115,116,97,116,101]⟩))]) (cl _ _ _)) (ak rfl (av gH (js s2 d2 ⟨((i+1:Nat):Int),((i%8:Nat):Int),((x2:Nat):Int),2,stN⟩ _ _ (hsn2.from_ ai.rfl_)) ?_)))));rintro v86 w19 ⟨rfl,E86⟩;refine ak rfl (aa (bx (bl rfl) rfl) (aa (aF (v:=.bool _) rfl rfl) (ah (ae (aY rfl (aC (bA (ae (ab (mvi rfl (aa (bz (b:=1) rfl rfl (by omega)) (asi rfl ?_))))))))))));refine ah ?_;refine cd ((i+1,d2,x2)) ⟨(by first | rfl | (refine bP ?_;omega)),(by first | rfl | (refine bP ?_;omega)),(by first | rfl | (refine bP ?_;omega)),trivial⟩ (by (iterate 169 refine bm rfl ?_);exact bO) ⟨?_,?_⟩
   ·exact ⟨by omega,by omega,by omega,by omega,_,_,_,_,_,_,_,_,hV2.from_ (ai.rfl_.next E86),.inr ⟨rfl,rfl,rfl⟩⟩
   ·show L.length-(i+1)<L.length-i;omega
  refine dd (bB (bB (cG (ae (ag (ab (av fM (hG _ (hT.from_ hV.f)) ?_)))))));rintro v89 w20 ⟨rfl,E89⟩;refine asb rfl (ah (ae (aw (bb (v:=.bool _) rfl rfl (⟨rfl,(hV.f.next E89)⟩)))))
 refine aq rfl rfl (aq rfl rfl (aa (aF (v:=.bool _) rfl rfl) (ah (ae (aY rfl (dd (bB (bB (cG (ae (ag (ab (av fM (hG _ (hT.from_ hV.f)) ?_)))))))))))));rintro v89 w21 ⟨rfl,E89⟩;refine asb rfl (ah (ae (aw (bb (v:=.bool _) rfl rfl (⟨rfl,(hV.f.next E89)⟩)))))
theorem jg {W:World} (h:laidMetH prog Rows.snapVotesRow.laid W):cQ W:=by
 have gTab : prog.globalNamed "lectern/sum.remainders" = some 1 := by kernel_rfl
 have gType:(prog.globals[1]?).map (·.type)=some 120:=by kernel_rfl
 have c1:prog.cellsOf 110=1:=by kernel_rfl
 have c16:prog.cellsOf 120=16:=by kernel_rfl
 have ht : Lib.TabIs prog W "lectern/sum.remainders" .u32 [0, 498536548, 997073096, 651767980, 1994146192, 1802195444, 1303535960, 1342533948, 3988292384, 4027552580, 3604390888, 3412177804, 2607071920, 2262029012, 2685067896, 3183342108] :=
  Lib.tabIs_of_head (rest:=[]) gTab gType Tryd.underlying120 Tryd.underlying110 c1 c16 h
 intro i hi;rw [ht.cell gTab i hi];have:i=0∨i=1∨i=2∨i=3∨i=4∨i=5∨i=6∨i=7∨i=8∨i=9∨i=10∨i=11∨i=12∨i=13∨i=14∨i=15:=by omega
 rcases this with rfl | rfl | rfl | rfl | rfl | rfl | rfl | rfl | rfl | rfl | rfl | rfl | rfl | rfl | rfl | rfl <;> rfl
theorem ku (cs:Array Value) (x:oJ.den) (w:World) (hs:cs.size=2) (h:oJ.At w (fun j=>cs[j]?) x) (hT:cQ w):Rt prog 4 [.agg cs] w fun v w'=>v=.bool true∧ai w w':=by
 obtain ⟨A,B,ca,cb,m,L,rfl,ha⟩:=mM hs h;exact kr A B ca cb m L w ha hT
noncomputable def et (os:Os):World:=
 { World.holding prog os ⟨#[],#[],[]⟩ with heap:=(World.holding prog os ⟨#[],#[],[]⟩).heap.modify 1 fun | .cells _ t frozen=>.cells #[.int .u32 0,.int .u32 498536548,.int .u32 997073096,.int .u32 651767980,.int .u32 1994146192,.int .u32 1802195444,.int .u32 1303535960,.int .u32 1342533948,.int .u32 3988292384,.int .u32 4027552580,.int .u32 3604390888,.int .u32 3412177804,.int .u32 2607071920,.int .u32 2262029012,.int .u32 2685067896,.int .u32 3183342108] t frozen | o=>o }
theorem kD (os:Os):laidMet prog Rows.snapVotesRow.laid ((et os).forCall (fun _ _=>0) ⟨#[],#[.agg #[.slice none 0 0,.slice none 0 0]],[]⟩).memory:=
 laidMet_of_run' 8 (by kernel_rfl) (by kernel_rfl)
theorem jj (os:Os) {H:Type} (enc:TypeId×Value→H):∃ places,DataW.whole enc prog ((et os).forCall (fun _ _=>0) ⟨#[],#[.agg #[.slice none 0 0,.slice none 0 0]],[]⟩).memory Tryd.f4.params.toList Rows.snapVotesSpec.vars false #[(.agg #[.slice none 0 0,.slice none 0 0]:Value)].toList 8=some ([.agg [.nil,.nil]],[],places):=
 ⟨[],by kernel_rfl⟩
theorem iN (os:Os) (started:os.Started) (H:Type) (enc:TypeId×Value→H) (F:Stop.Interp) :
 ReturnsInHanded {} Tryd.checked os 4 .any ((OpenSpec.ofChange Rows.snapVotesSpec).preRow enc prog Tryd.f4 Rows.snapVotesRow.domain false Rows.snapVotesRow.laid) (((OpenSpec.ofChange Rows.snapVotesSpec).at F).post enc prog Tryd.f4 false true false false):=by
 obtain ⟨places,hx⟩:=jj os enc
 refine returnsInHanded_of_row (C:=Tryd.checked) (s:=OpenSpec.ofChange Rows.snapVotesSpec) Tryd.own started (by kernel_rfl) Tryd.func4
  (witness_row_at (enc:=enc) (C:=Tryd.checked) false (et os) #[.agg #[.slice none 0 0,.slice none 0 0]] rfl (by kernel_rfl) (by kernel_rfl) (by kernel_rfl)
   (OpenSpec.preRow_of_cond 8 hx (by kernel_rfl) (fun k hk=>by cases hk) (by kernel_rfl) (kD os))) ?_
 intro W base args ds gs before hval hW _ _ hsz hL hS _;exact gO 4 Tryd.f4 25 4 Rows.snapVotesSpec Tryd.params4 (by kernel_rfl) Tryd.underlying4 rfl (fun _=>rfl) (by kernel_rfl) (dT_ (by kernel_rfl)) Rows.snapVotesRow.laid (kH (.sl qF) (.pr (.sl (.int .i64)) .unit) (by kernel_rfl) Rows.snapVotesRow.laid (fun _ h=>jg h) ku) W base args ds gs before hval hW hsz hL hS
theorem j5:Rows.SnapVotesSaid:=
 OpenClaim.holds_of_cond 4 Tryd.f4 rfl rfl rfl rfl rfl rfl rfl ⟨rfl,rfl,rfl,rfl,rfl⟩ rfl rfl rfl rfl rfl (by kernel_rfl) Tryd.func4 (by kernel_rfl)
  (dT_ (by kernel_rfl)) (by unfold Func.isWrapper;first | (rw [if_pos (by decide+kernel)];kernel_rfl) | (rw [if_neg (by decide+kernel)];exact ⟨rfl,rfl⟩))
  (fun os started H enc _ F=>by rw [OpenClaim.pre_eq_preRow];exact iN os started H enc F)
theorem jk (f : FuncId) (fn : Func) (hf : Tryd.pinned.checked.prog.funcNamed "lectern/lecternlaw20.SnapVotes" = some f) (hfn : Tryd.pinned.checked.prog.funcs[f]? = some fn) :
 false=Tryd.pinned.checked.prog.looks []∧∀ (j:Nat) t,fn.params[j]? =some t→Tryd.pinned.checked.prog.wantsStandIn t=false:=by
 obtain rfl : f = 4 := Option.some.inj ((show prog.funcNamed "lectern/lecternlaw20.SnapVotes" = some 4 by kernel_rfl).symm.trans hf) |>.symm
 obtain rfl:fn=Tryd.f4:=(Option.some.inj (Tryd.func4.symm.trans hfn)).symm;refine ⟨by kernel_rfl,fun j t ht=>?_⟩;rw [(Tryd.params4)] at ht;obtain rfl:t=25:=by simpa using Array.mem_of_getElem? ht
 exact (show prog.wantsStandIn 25=false by kernel_rfl)
theorem SnapVotes_holds:Rows.SnapVotesCardSaid:=
 Claim7.holds_tied_plain_at .later [] _ _ _ _ j5 (fun _ h=>by cases h) (by kernel_rfl) (fun _ h=>by cases h) snapVotes_row_tie rfl ⟨rfl,rfl⟩ (by kernel_rfl) rfl jk (by kernel_rfl)
end Go.Proofs.YtdimnaiiaekngaaDoor
