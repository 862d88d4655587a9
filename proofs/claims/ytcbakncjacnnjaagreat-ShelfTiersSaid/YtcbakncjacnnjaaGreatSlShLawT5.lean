/- texts that the claim stands on. -/
import Derived.Test.YtcbakncjacnnjaaGreatSlShLawT4
import Derived.Sort.OwnSortedInts
set_option maxRecDepth 100000
set_option maxHeartbeats 4000000
namespace Go.Proofs.YtcbakncjacnnjaaGreat
open Go.Proofs.Tryz (prog)
open Go.RowKit
open Go.ChangeShapes Go.WideShapes Go.ChangeAt
theorem oh:fH prog 170=some (175,3,24,(.agg #[.pointer none,.int .i64 0,.int .i64 0])):=by kernel_rfl
theorem uL:az prog 130=true:=by kernel_rfl
theorem uK:az prog 131=true:=by kernel_rfl
theorem pq:∀ (a0:Option Addr) (a1 a2:Nat) (a3:Int),prog.built 172 [(1,.slice a0 a1 a2),(2,.int .i64 a3)]=some #[.slice none 0 0,.slice a0 a1 a2,.int .i64 a3]:=by intros;kernel_rfl
theorem wT:az prog 80=true:=by kernel_rfl
theorem uJ:az prog 132=true:=by kernel_rfl
theorem uI:dK prog 170=some 1:=by kernel_rfl
theorem JM (v z s:Nat):Instr.fill (fun i=>some (i*3,3)) ((Array.range (1*3)).map ((Value.agg #[.pointer none,.int .i64 0,.int .i64 0]).cells[·%(Value.agg #[.pointer none,.int .i64 0,.int .i64 0]).cells.size]!)) [(0,.agg (iU v z s).toArray)]=some (iU v z s).toArray:=by
 first
  |kernel_rfl
  |rfl
theorem r0.off {w0 w w':World} {A B:Option Addr} {L:List Nat} {bs m c:Nat} {xs:List Value} (h:r0 w0 w A L) (ho:w.ownsRow bs 175 3 (.slice B m c) m xs) (hbs:w0.heap.size≤bs) (hg:w.grownBy w' (B.map (·.block))):r0 w0 w' A L:=by
 have hne:∀ q,0<L.length→A.map (·.block)=some q→some q≠B.map (·.block):=fun q h0 hq e=>by
  rcases h.2 q h0 hq with a | ⟨cs,hb⟩
  ·have:=(cd ho q e.symm).1;omega
  ·exact cY ho hb (by decide) q e.symm rfl
 refine ⟨fun h0=>?_,fun q h0 hq=>(h.2 q h0 hq).imp id fun ⟨cs,hb⟩=>⟨cs,hb.grown hg fun k hk e=>hne q h0 hq (by rw [hk,e])⟩⟩;obtain ⟨b,o,hA,hc⟩:=h.1 h0;exact ⟨b,o,hA,fun i hi=>hg.cell (hc i hi) (hne b h0 (by rw [hA];rfl))⟩
theorem r0.only {w0 w w':World} {A:Option Addr} {L:List Nat} {g t:Nat} {cs0:Array Value} (h:r0 w0 w A L) (o:cH g w w') (hb:Blk w g t cs0) (ht:t≠3) (hg:w0.heap.size≤g):r0 w0 w' A L:=by
 have hne:∀ q,0<L.length→A.map (·.block)=some q→q≠g:=fun q h0 hq e=>by
  subst e;rcases h.2 q h0 hq with a | ⟨cs,hb2⟩
  ·omega
  ·unfold Blk at hb hb2;rw [hb] at hb2;simp only [Option.some.injEq,Obj.cells.injEq] at hb2;exact ht hb2.2.1
 refine ⟨fun h0=>?_,fun q h0 hq=>(h.2 q h0 hq).imp id fun ⟨cs,hb2⟩=>⟨cs,hb2.only o (hne q h0 hq)⟩⟩;obtain ⟨b,o',hA,hc⟩:=h.1 h0;exact ⟨b,o',hA,fun i hi=>(o.cell (hne b h0 (by rw [hA];rfl))).trans (hc i hi)⟩
theorem Fo (A:Option Addr) (c n:Nat) (L:List Nat) (w:World) (hn:n=L.length) (hr:bA nV w A L) (hl:n≤131072) (s:Nat) (hs:s≤9) (h10:∀ x∈L,x<1024):Rt prog 132 [.slice A n c,.int .i64 (s:Nat)] w
 fun v w'=>(∃ b A' c',v=.tuple #[.agg (iU b (bX s L).length s).toArray,.slice A' n c',.int .i64 0]∧Vec w' w.heap.size b (L.map (cC s))∧w'.ownsRow w.heap.size 3 1 (.slice A' n c') n ((ky s L).map nV))∧aj w w':=by
 subst hn;exact dc A c L w hr hl s hs h10
theorem Is (k:Nat) (hk:k≤512) (A:Option Addr) (c n:Nat) (L:List Nat) (w:World) (hn:n=L.length) (hr:bA nV w A L) (hl:n≤131072) (hlt:∀ x∈L,x<k):Rt prog 131 [.int .i64 (k:Nat),.slice A n c] w
 fun v w'=>(∃ g,v=.slice (some ⟨g,0,none⟩) (k+1) (k+1)∧w.heap.size≤g∧Blk w' g 3 (tab (k+1) (fK L)))∧aj w w':=by
 subst hn;exact uk k hk A c L w hr hl hlt
theorem G6 (k:Int) (A:Option Addr) (c n:Nat) (xs:List Int) (w:World) (hn:n=xs.length) (hr:bA iV w A xs) (hl:xs.length*8≤140737488351232):Rt prog 130 [.int .i64 k,.slice A n c] w fun v w'=>v=.int .i64 (iw k xs)∧w=w':=by
 subst hn;exact EA k A c xs w hr hl
theorem Ho (k:Int) (A:Option Addr) (c nn:Nat) (xs:List Int) (w:World) (hr:bA iV w A xs) (hnn:nn=xs.length) (hl:xs.length*8≤140737488351232) (hA0:∀ q,0<xs.length→A.map (·.block)=some q→q<w.heap.size) :
 Rt prog 93 [.int .i64 k,.slice A nn c] w (fun v w'=>((iw k xs≠0∧v=.tuple #[.pointer none,.int .i64 (iw k xs)])∨(∃ (K:Nat) (L:List Nat) (b:Nat),k=(K:Nat)∧xs=L.map (fun x:Nat=>(x:Int))∧v=.tuple #[.pointer (some ⟨b,0,none⟩),.int .i64 0]∧fe w' w.heap.size b K L))∧aj w w'):=by
 refine enter (n:=57) Tryz.func93 rfl rfl rfl (af (aa (asp rfl (asi rfl (ah (ab (af (af (aa (mvi rfl (mvs rfl (aF uL (G6 k A c nn xs _ hnn (hr.from_ aj.rfl_) hl) ?_))))))))))));rintro v15 w1 ⟨rfl,rfl⟩;refine asi rfl (ah (ab (af (aa (mvi rfl (ae (cD rfl rfl) (ah (ab (JR rfl (fun Q2=>?_) (fun Q2=>?_))))))))))
 ·have hch1:iw k xs≠0:=by simpa using Q2
  refine af (aa (mvi rfl (asp rfl (asi rfl (ah (ab (ay (aD (cV (v:=.pointer _) (v':=.int _ _) rfl rfl rfl (⟨.inl ⟨hch1,rfl⟩,aj.rfl_⟩))))))))))
 have hch0:iw k xs=0:=by simpa using Q2
 obtain ⟨K,L,rfl,hxs,hK1,hK2,hlt,hLl⟩:=HR hch0;have hrn:bA nV w A L:=FF (hxs ▸ hr);have hnL:nn=L.length:=by rw [hnn,hxs,List.length_map]
 have hnl:nn≤131072:=by omega
 have hArow:∀ q,0<L.length→A.map (·.block)=some q→q<w.heap.size∨∃ cs,Blk w q 3 cs:=fun q h0 hq=>.inl (hA0 q (by rw [hxs,List.length_map];exact h0) hq)
 refine av (ab (af (aa (mvi rfl (mvs rfl (aF uK (Is K hK2 A c nn L _ hnL (hrn.from_ aj.rfl_) hnl hlt) ?_))))));rintro v21 w3 ⟨⟨g,rfl,hg0,hgB⟩,E21⟩;refine mvi rfl (ae (cM (l:=[(1,.tmp 21),(2,.tmp 22)]) (pq _ _ _ _)) (cK (v:=.agg _) rfl ?_));intro b24 w4 E24 hb24 hk24;have hl24:=hk24.lt;have hg24:w.heap.size≤b24:=by rw [hb24];exact ((aj.rfl_.next E21)).size
 have hgb:g≠b24:=by have:=hgB.lt;omega
 have hArow:∀ q,0<L.length→A.map (·.block)=some q→q<w.heap.size∨∃ cs,Blk w4 q 3 cs:=fun q h0 hq=>.inl (hA0 q (by rw [hxs,List.length_map];exact h0) hq)
 refine asp rfl (ah (ab (af (aa (mvs rfl (ass rfl (ah (ab (af (af (aa (mvi rfl (ae (bP (a:=K) (b:=1) rfl rfl ⟨hK1,by omega⟩) ?_)))))))))))));refine ae (fq dP fS rfl (by omega)) (aF wT (Iv (K-1) _ (by omega)) ?_);rintro v29 w5 ⟨rfl,rfl⟩;refine ae (fi rfl rfl (by show _≤((nlv K:Nat):Int)-1∧((nlv K:Nat):Int)-1≤_;have:=jK hK2;omega)) ?_;refine asi rfl (ah (ab (aw (a_ (G:=Nat×Option Addr×Nat×Option Addr×Nat×(Nat→Nat)) [4,5,10,11,12,31,32,33,34,35,36,37,38,39,40,41,42,43,44,45,46,47,48,49,50,51,52,53,54,55] (fun (j,A8,c8,_,_,_)=>[(8,.slice A8 nn c8),(9,.int .i64 ((nlv K:Nat)-1-(j:Nat):Int))]) (fun (j,A8,c8,AT,cT,vs) w'=>j≤nlv K∧r0 w w' A8 (lvl (nlv K) L j)∧Blk w' b24 172 #[.slice AT j cT,.slice (some ⟨g,0,none⟩) (K+1) (K+1),.int .i64 (K:Nat)]∧w'.ownsRow w.heap.size 175 3 (.slice AT j cT) j (nY (nlv K) L vs j)∧(∀ i,i<j→Vec w' w.heap.size (vs i) ((lvl (nlv K) L i).map (cC (nlv K-1-i))))∧Blk w' g 3 (tab (K+1) (fK L))∧aj w w') (fun (j,_,_,_,_,_)=>nlv K-j) ((0,A,c,none,0,fun _=>0)) ⟨rfl,(aK (by show _=_;simp [nlv])),trivial⟩ ?_ ?_))))
 ·exact ⟨Nat.zero_le _,⟨hrn.from_ ((aj.rfl_.next E21).next E24),hArow⟩,hk24,World.ownsRow_nil _ _ _ _,fun i h=>absurd h (by omega),hgB.from_ E24,((aj.rfl_.next E21).next E24)⟩
 rintro ⟨j,A8,c8,AT,cT,vs⟩ ρ6 w6 ⟨hj,hS,hT,ho,hVs,hg2,hB⟩;refine af (af (aa (mvi rfl (ae (eA rfl rfl) (ah (ab (JV rfl (fun Q7=>?_) (fun Q7=>?_))))))))
 ·have hjn:j<nlv K:=by omega
  refine av (ab (af (aw (af (aa (mvs rfl (mvi rfl (dh (t:=37) (v:=.int _ _) (v':=.int .i64 ((nlv K-1-j:Nat):Int)) rfl (by refine aK ?_;omega) ?_))))))));have hB38:aj w w6:=hB;refine aF uJ (Fo A8 c8 nn (lvl (nlv K) L j) _ (by rw [kZ];exact hnL) (hS.from_ aj.rfl_).1 hnl (nlv K-1-j) (by have:=jK hK2;omega) (fun x hx=>by have:=hlt x (zG hx);omega)) ?_;rintro v38 w8 ⟨⟨v38,A40,c40,rfl,hV38,hn40⟩,E38⟩;refine mvt rfl (ae (ax rfl rfl) (ae (ax rfl rfl) (ae (ax rfl rfl) (dI iQ ?_))));intro b10 w9 E10 hb10 hk10;have hF10:=E38.next E10;refine fR (vs:=[_,_,_]) cB rfl rfl (by simp [Value.oneCell']) (hk10) rfl ?_;intro w10 O9 P9;have hF9:aj _ w10:=hF10.only O9 (by rw [hb10];exact E38.size);have hF9n:aj _ w10:=E10.only O9 (by rw [hb10];exact Nat.le_refl _);have hTq:=hT.from_ hF9;have hoq:=ho.kept_from hF9;have hVq:∀ i,i<j→Vec w10 w.heap.size (vs i) ((lvl (nlv K) L i).map (cC (nlv K-1-i))):=fun i hi=>(hVs i hi).from_ hF9
  have hg2q:=hg2.from_ hF9;have hVn:=(hV38.from_ hF9n).le hB38.size;replace hn40:=(gx hn40 hB38.size).kept_from hF9n;have hBq:aj w w10:=hB38.next hF9;refine ass rfl (asi rfl (ah (ab (af (af (aa (mvi rfl (ae (dS (cD rfl rfl) rfl) (ah (ab (de rfl (av (ab (af ?_))))))))))))));apply uu 10 7 [51] [(45,eqp _),(46,eqp _),(47,eqp _),(48,eqp _),(49,eqp _),(50,eqp (.agg (iU v38 (bX (nlv K-1-j) (lvl (nlv K) L j)).length (nlv K-1-j)).toArray)),(51,fun v w'=>∃ q,v=.slice (some ⟨q,0,none⟩) 1 1∧Blk w' q 175 (iU v38 (bX (nlv K-1-j) (lvl (nlv K) L j)).length (nlv K-1-j)).toArray),(52,fun v w'=>∃ A2 c2,v=.slice A2 (j+1) c2∧w'.ownsRow w.heap.size 175 3 (.slice A2 (j+1) c2) (j+1) (nY (nlv K) L vs j++(iU v38 (bX (nlv K-1-j) (lvl (nlv K) L j)).length (nlv K-1-j)))),(53,eqp _),(54,eqp _)] (fun w'=>aj w10 w') (fun w'=>(w10).grownBy w' (AT.map (·.block))) (by repeat first | exact cy | refine cm ?_ | refine bO ?_) (by kernel_rfl) (by kernel_rfl) (by kernel_rfl) ⟨ag _,ag _,ag _,ag _,ag _,ag _,(fun _ _ _ hF ⟨q,h1,h2⟩=>⟨q,h1,h2.from_ hF⟩),(fun _ _ _ hF ⟨A2,c2,h1,h2⟩=>⟨A2,c2,h1,h2.kept_from hF⟩),ag _,ag _,trivial⟩ (aj.rfl_.d1) (aj.rfl_.d1.grown _) (fun _ _ hF h=>h.next hF) (fun _ _ hF h=>aN h (hF.grown _))
  case hop=>
   constructor
   ·rintro-w12 hG12;exact ai (aq (v:=.pointer _) rfl) rfl
   constructor
   ·rintro-w13 hG13;exact ai (aq (v:=.pointer _) rfl) rfl
   constructor
   ·rintro-w14 hG14;rintro _ rfl;exact ai (ar rfl) rfl
   constructor
   ·rintro-w15 D15;rintro _ rfl;exact ai (ak ig rfl) rfl
   constructor
   ·rintro-w16 D16;rintro _ rfl;exact ai (an lh rfl ((hTq.from_ D16).rd 0 rfl)) rfl
   constructor
   ·rintro-w17 D17;exact ai (bn (cs:=(iU v38 (bX (nlv K-1-j) (lvl (nlv K) L j)).length (nlv K-1-j))) dy cB rfl ((P9.from_ D17).whole)) rfl
   constructor
   ·rintro-w18 D18;rintro v18_50 rfl;exact fG (qT (l:=[(0,.tmp 50)]) (cells:=(iU v38 (bX (nlv K-1-j) (lvl (nlv K) L j)).length (nlv K-1-j)).toArray) oh rfl rfl (JM _ _ _)) (aj.rfl_.new _) ⟨_,rfl,Blk.new _ _ _⟩
   constructor
   ·intro h;cases h
   constructor
   ·rintro-w20 hG20;rintro _ rfl;exact ai (ar rfl) rfl
   constructor
   ·rintro-w21 hG21;rintro _ rfl;exact ai (ak ig rfl) rfl
   exact trivial
  case hmu=>
   rintro w22 D22;rintro _ rfl v22_51 ⟨q22,rfl,hq22⟩;show mM ..;have hoD:=hoq.kept_from D22;have hbz:w.heap.size≤(w10).heap.size:=hBq.size;refine mB oh rfl (by decide) rfl hoD (Nat.le_trans hbz D22.size) rfl rfl ⟨_,_,rfl,hq22.whole⟩ (by simp [iU,Value.oneCell']) (by have:=jK hK2;omega) (by have:=jK hK2;omega) ?_;intro A3 c3 w3 ho3 hg3;exact ⟨aN (D22.grown _) hg3,⟨A3,c3,rfl,ho3⟩,fun t u ht h=>iT (by repeat first | exact trivial | refine ⟨.inl rfl,?_⟩ | refine ⟨.inr (fun _ h=>h),?_⟩) t u ht h⟩
  case hend=>
   rintro w23 hG23;rintro _ rfl _ rfl _ rfl _ rfl _ rfl v50 rfl v51 _ v52 ⟨A52,c52,rfl,ho52⟩ _ rfl _ rfl;show St ..;have hgq:=hG23;have hTb2:=hTq.grown hgq (cY hoq hTq (by decide));have hBg:aj w _:=hBq.grew hgq (fun k hk=>(cd hoq k hk).1);refine bH (v:=.slice _ _ _) uI rfl rfl rfl (hTb2) (by show 0<3;decide) ?_;intro w24 O12 P12;refine ah (ab (aa (mvs rfl (ass rfl (ah (aI (ab (aa (mvi rfl (ae (fi rfl rfl (by have:=jK hK2;omega)) ?_))))))))));refine asi rfl (ah ?_);refine aO ((j+1,A40,c40,A52,c52,fun i=>if i=j then v38 else vs i)) ⟨rfl,(by first | rfl | (refine aK ?_;omega)),trivial⟩ (by (iterate 62 refine aB rfl ?_);exact aJ) ⟨?_,?_⟩
   ·have hTb:=hTq;refine ⟨by omega,?_,P12,?_,fun i hi=>?_,?_,(hBg.only O12 hg24)⟩
    ·exact ((Ci (w0:=w) hn40).off hoq (Nat.le_refl _) hgq).only O12 hTb2 (by decide) hg24
    ·rw [Be];exact cf ho52 O12 (cY ho52 hTb2 (by decide))
    ·by_cases hij:i=j
     ·subst hij;simp only [if_true];exact (hVn.off hoq hgq).only O12 hTb2 (by decide) (by decide) (by decide)
     ·simp only [if_neg hij];exact ((hVq i (by omega)).off hoq hgq).only O12 hTb2 (by decide) (by decide) (by decide)
    ·exact (hg2q.grown hgq (cY hoq hg2q (by decide))).only O12 hgb
   ·show nlv K-(j+1)<nlv K-j;omega
 refine bc (aC (aC (aS (ab (af (aa (mvp rfl (asp rfl (asi rfl (ah (ab (ay (cV (v:=.pointer _) (v':=.int _ _) rfl rfl rfl ?_)))))))))))));obtain rfl:j=nlv K:=by omega
 exact ⟨.inr ⟨K,L,b24,rfl,hxs,rfl,hg24,AT,cT,g,vs,hT,ho,hVs,hg0,hg2,hK1,hK2,hlt,by omega⟩,hB⟩
end Go.Proofs.YtcbakncjacnnjaaGreat
namespace Go.Proofs.YtcbakncjacnnjaaGreat
open Go.Proofs.Tryz (prog)
open Go.RowKit
open Go.ChangeShapes Go.WideShapes Go.ChangeAt
open Go.Proofs.YtcbakncjacnnjaaGreat.SA
theorem oB:fH prog 138=some (181,2,8,(.agg #[.int .i32 0,.int .i32 0])):=by kernel_rfl
theorem il:cG prog 140 2=some 2:=by kernel_rfl
theorem lC:fp prog 138=some false:=by kernel_rfl
theorem pB:∀ (a0:Int) (a1:Int),prog.built 181 [(0,.int .i32 a0),(1,.int .i32 a1)]=some #[.int .i32 a0,.int .i32 a1]:=by intros;kernel_rfl
theorem vb:dK prog 138=some 1:=by kernel_rfl
theorem sB:cG prog 140 3=some 3:=by kernel_rfl
noncomputable def rwJ (L:List Nat) (k j:Nat):Nat:=if rank (L.length+1) (bQ L) (8*j)<k then rank (L.length+1) (bQ L) (8*j) else 0
theorem CF (L:List Nat) (j:Nat):rwJ L 0 j=0:=by unfold rwJ;rw [if_neg (by omega)]
theorem FB {L:List Nat} {j:Nat} (h:j<L.length/8+1):rwJ L (L.length+1) j=rank (L.length+1) (bQ L) (8*j):=by
 unfold rwJ;rw [if_pos (jd (by omega))]
theorem CG {L F:List Nat} (hS:gT L F) {k j:Nat} (hk:k≤L.length) (hj:8*j≤L.length):rank (L.length+1) (bQ L) (8*j)=k↔8*j=dx L F k:=by
 constructor
 ·intro e;rw [←e,iz hS hj]
 ·intro e;rw [e];exact (dU hS hk).2
theorem H4 {L F:List Nat} (hS:gT L F) {k j:Nat} (hk:k≤L.length) (hj:j<L.length/8+1) (h:dx L F k%8≠0):rwJ L (k+1) j=rwJ L k j:=by
 have:=CG hS hk (show 8*j≤L.length by omega);unfold rwJ;have hne:rank (L.length+1) (bQ L) (8*j)≠k:=fun e=>by have:=this.1 e;omega
 by_cases x:rank (L.length+1) (bQ L) (8*j)<k
 ·rw [if_pos x,if_pos (by omega)]
 ·rw [if_neg x,if_neg (by omega)]
theorem FA {L F:List Nat} (hS:gT L F) {k:Nat} (hk:k≤L.length) (h:dx L F k%8=0) (j:Nat) (hj:j<L.length/8+1):upd (fun j=>((rwJ L k j:Nat):Int)) (dx L F k/8) ((k:Nat):Int) j=((rwJ L (k+1) j:Nat):Int):=by
 have:=CG hS hk (show 8*j≤L.length by omega);unfold upd;split
 ·rename_i e;have e2:=this.2 (by omega);unfold rwJ;rw [e2,if_pos (by omega)]
 ·rename_i e;have hne:rank (L.length+1) (bQ L) (8*j)≠k:=fun e2=>by have:=this.1 e2;omega
  show ((rwJ L k j:Nat):Int)=_;unfold rwJ;by_cases x:rank (L.length+1) (bQ L) (8*j)<k
  ·rw [if_pos x,if_pos (by omega)]
  ·rw [if_neg x,if_neg (by omega)]
section
variable {P:Program} {ops:Array Oper} {Q:Exit→Act→World→Prop} {rest:List Oper} {n:Fr} {L:List (Nat×Value)} {w:World} {ty:TypeId} {pos:String} {after:Array Edge} {d:Nat} {t:TypeId} {x:Operand}
theorem Fj {e by_:Nat} {z v z0 z1 u0 u1:Value} (hq:fH P t=some (e,2,by_,z)) (hz:z.cells=#[z0,z1]) (hx:ev n L x=v) (hv:v.cells=#[u0,u1])
 (k:∀ g w',aj w w'→g=w.heap.size→Blk w' g e #[u0,u1]→St P ops Q rest n ((d,.slice (some ⟨g,0,none⟩) 1 1)::L) w'):St P ops Q (⟨some d,.buildSlice t 1 #[(0,x)],ty,pos,after,none⟩::rest) n L w:=by
 refine xB (l:=[(0,x)]) (cells:=#[u0,u1]) hq rfl rfl ?_ k
 have e1:(Array.range (1*2)).map (z.cells[·%z.cells.size]!)=#[z0,z1]:=by
  rw [hz,show Array.range (1*2)=#[0,1] from rfl];simp
 rw [e1];simp [Instr.fill,hx,hv]
end
def wU (w W0:World) (b tb k a:Nat) (L F:List Nat):Prop:=aj W0 w∧W0.heap.size≤b∧∃ (AS:Option Addr) (cs gr:Nat),W0.heap.size≤gr∧
 Blk w b 140 #[.pointer (some ⟨tb,0,none⟩),.int .i64 (a:Nat),.slice AS (smp L F k).length cs,.slice (some ⟨gr,0,none⟩) (L.length/8+1) (L.length/8+1)]∧
 w.ownsRow W0.heap.size 181 2 (.slice AS (smp L F k).length cs) (smp L F k).length (sF L F (smp L F k))∧
 Blk w gr 21 (fA (L.length/8+1) fun j=>((rwJ L k j:Nat):Int))
theorem AG {L F l:List Nat} {k:Nat}:sF L F (l++[k])=sF L F l++[jV ((k:Nat):Int),jV ((dx L F k:Nat):Int)]:=by simp [sF]
theorem vu (W0:World) (b tb a k:Nat) (L F:List Nat) (w:World) (hS:gT L F) (hk:k≤L.length) (hn:L.length≤131072) (h:wU w W0 b tb k a L F) :
 Rt prog 95 [.pointer (some ⟨b,0,none⟩),.int .i64 (k:Nat),.int .i64 ((dx L F k:Nat):Int)] w (fun _ w'=>wU w' W0 b tb (k+1) a L F):=by
 obtain ⟨hFz,hb0,AS,cs,gr,hg0,hI,ho,hJ⟩:=h;have hrk:=(dU hS hk).1;have hsl:=Cv (L:=L) (F:=F) (k:=k);refine enter (n:=32) Tryz.func95 rfl rfl rfl (af (af (aa (mvi rfl (ae (mv (b:=8) rfl rfl (by omega)) (ae (cD rfl rfl) (ah (ab (JR rfl (fun Q1=>?_) (fun Q1=>?_))))))))))
 ·refine ay (aD (kh rfl ?_));have hno:dx L F k%8≠0:=by omega
  refine ⟨hFz,hb0,AS,cs,gr,hg0,?_,?_,?_⟩
  ·rw [Ct hno];exact hI
  ·rw [Ct hno];exact ho
  ·rw [eM (fun j hj=>by rw [H4 hS hk hj hno])];exact hJ
 refine av (ab (af (aa (mvp rfl (mvp rfl (ae (ar rfl) (ae (ak il rfl) (ae (an lC rfl (by exact (hI.from_ aj.rfl_).rd 2 rfl)) ?_))))))));refine mvi rfl (ae (gH (by kernel_rfl) (by kernel_rfl) rfl (by omega)) (mvi rfl (ae (gH (by kernel_rfl) (by kernel_rfl) rfl (by omega)) (ae (cM (l:=[(0,.tmp 15),(1,.tmp 17)]) (pB _ _)) (Fj oB rfl rfl rfl ?_)))));intro b19 w2 E19 hb19 hk19;refine dB oB rfl (by decide) rfl (A:=AS) (xs:=sF L F (smp L F k)) (news:=[jV ((k:Nat):Int),jV ((dx L F k:Nat):Int)]) (ho.kept_from E19) ((hFz.next E19).size) rfl rfl (fun _=>⟨b19,0,rfl,hk19.whole⟩) (fun h=>by cases h) (by simp [Value.oneCell']) (by omega) (by omega) ?_;intro A20 c20 w3 ho20 hg20;have HF20:=(hFz.next E19).grew hg20 (fun k hk=>(cd ho k hk).1);have hI20:=(hI.from_ E19).grown hg20 (oZ (ho.kept_from E19) (hI.from_ E19) (by decide));have hJ20:=(hJ.from_ E19).grown hg20 (oZ (ho.kept_from E19) (hJ.from_ E19) (by decide));refine ae (ar rfl) (ae (ak il rfl) (bH (v:=.slice _ _ _) vb rfl rfl rfl (hI20) (by simp) ?_));intro w4 O1 P1;have hgb:gr≠b:=fun e=>by subst e;exact absurd (hJ20.symm.trans hI20) (by simp)
 have ho1:=cf ho20 O1 (cY ho20 hI20 (by decide));have hJ1:=hJ20.only O1 hgb;have hI1:=P1;have HF1:=HF20.only O1 hb0;refine ah (ab (aa (mvp rfl (ae (ar rfl) (ae (ak sB rfl) (ae (an aR rfl (by exact hI1.rd 3 rfl)) ?_))))));refine mvi rfl (ae (kU (b:=8) rfl rfl (by omega)) (mvi rfl (ae (gH (by kernel_rfl) (by kernel_rfl) rfl (by omega)) (ae (aA aH rfl rfl (by omega)) (bH (v:=.int _ _) cJ rfl rfl rfl (hJ1) (by rw [fQ];omega) ?_)))));intro w5 O2 P2;refine ah (gk (kh rfl ?_));have hy:dx L F k%8=0:=by omega
 refine ⟨HF1.only O2 hg0,hb0,A20,c20,gr,hg0,?_,?_,?_⟩
 ·rw [zl hy,List.length_append];exact hI1.only O2 (Ne.symm hgb)
 ·rw [zl hy,List.length_append,AG];exact cf ho1 O2 (cY ho1 hJ1 (by decide))
 ·rw [←eM (fun j hj=>FA hS hk hy j hj),←nF];exact P2
end Go.Proofs.YtcbakncjacnnjaaGreat
namespace Go.Proofs.YtcbakncjacnnjaaGreat
open Go.Proofs.Tryz (prog)
open Go.RowKit
open Go.ChangeShapes Go.WideShapes Go.ChangeAt
open Go.Proofs.YtcbakncjacnnjaaGreat.SA
theorem va:az prog 173=true:=by kernel_rfl
theorem sw:cG prog 181 1=some 1:=by kernel_rfl
theorem u_:az prog 175=true:=by kernel_rfl
theorem Gj {L F:List Nat} {n i r:Nat} {fd:Bool} (hi:i≤(smp L F (n+1)).length) (hlo:∀ x,x<i→(smp L F (n+1)).getD x 0<r) (hhi:∀ x,i≤x→x<(smp L F (n+1)).length→r≤(smp L F (n+1)).getD x 0) (hfd:fd=true↔i<(smp L F (n+1)).length∧(smp L F (n+1)).getD i 0=r) (hf:fd=false) (hr:r≤n):dx L F r%8≠0:=fun h=>by
 have:=hfd.2 (Cw hi hlo hhi (by omega) h);rw [hf] at this;cases this
theorem nH (base b K a:Nat) (L B F:List Nat) (w:World) (hf:kp w base b K a L B F) (r:Nat) (hr:r≤L.length) :
 Rt prog 139 [.pointer (some ⟨b,0,none⟩),.int .i64 (r:Nat)] w (fun v w'=>v=.int .i64 ((dx L F r:Nat):Int)∧aj w w'):=by
 have hff:=hf;obtain ⟨hb0,hSA,hbw,hLn,hK,tb,AS,cs,gr,hI,hT,ho,hR,hgr⟩:=hf;have hsm:=Cv (L:=L) (F:=F) (k:=L.length+1);have hrS:=(dU hSA hr).1;refine enter (n:=39) Tryz.func139 rfl rfl rfl (af (aa (asi rfl (ah (ab (af (af (aa (mvi rfl (ah (ab (aw (a_ (G:=Nat×Nat) [4,5,6,7,9,10,11,12,13,14,15,16,17,18,19,20,21,22,23,24,25,26,27,28,29,30,31,32,33,34,35,36,37,38] (fun (q,k)=>[(1,.int .i64 (q:Nat)),(8,.int .i64 (k:Nat))]) (fun (q,k) w'=>k≤8∧q≤L.length∧dx L F q+k=dx L F r∧k≤dx L F r%8∧aj w w') (fun (_,k)=>8-k) ((r,0)) ⟨rfl,rfl,trivial⟩ ?_ ?_)))))))))))))
 ·exact ⟨by omega,hr,by omega,by omega,aj.rfl_⟩
 rintro ⟨q,k⟩ ρ1 w1 ⟨hk,hq,hS,hk8,hB⟩;refine af (aa (ae (aW rfl rfl) (ah (ab (af (JV rfl (fun Q2=>?_) (fun Q2=>?_)))))));rotate_left
 ·exfalso;omega
 refine av (ab (af (aw (af (aa (mvi rfl (asi rfl (ah (ab (af (aa (mvp rfl (ae (ar rfl) (ae (ak il rfl) (ae (an lC rfl (by exact (hI.from_ hB).rd 2 rfl)) ?_)))))))))))))));refine mvi rfl ?_;refine aF va (yp base AS cs (smp L F (L.length+1)).length q L F (smp L F (L.length+1)) _ (ho.kept_from hB) rfl (by omega) (by omega) (fun i hi=>by have:=(Fp hi).1;omega) (fun i j hij hj=>Cu hij hj)) ?_;rintro v17 w3 ⟨⟨i,fd,rfl,hi,hlo,hhi,hfd⟩,E17⟩;refine mvt rfl (ae (ax rfl rfl) (ae (ax rfl rfl) (asi rfl (asb rfl (ah (ab (af (af (aa (mvb rfl (ah (ab (au rfl (fun Q4=>?_) (fun Q4=>?_))))))))))))))
 ·obtain ⟨hi1,hi2⟩:=hfd.1 (by simpa using Q4);have hi3:=congrArg (dx L F) hi2;obtain ⟨g,rfl,hrg⟩:=oI ho rfl (by omega);refine af (aa (mvp rfl (ae (ar rfl) (ae (ak il rfl) (ae (an lC rfl (by exact (hI.from_ (hB.next E17)).rd 2 rfl)) ?_)))));refine mvi rfl (ae (aM lB rfl rfl (by omega)) (ae (ak sw rfl) ?_));refine ae (an aZ rfl (by rw [Nat.zero_add];exact bx (hB.next E17) ((hrg i hi1) 1 _ rfl))) ?_;refine ae (ef iR eK rfl (by omega)) (mvi rfl (ae (aG rfl rfl (by omega)) (asi rfl (ah (ab (ay (aD (bj (aD (aD (bj (aD (bE (v:=.int _ _) rfl rfl (⟨aK (by rw [hi2];omega),(hB.next E17)⟩))))))))))))))
 have hns:=Gj hi hlo hhi hfd (by simpa using Q4) hq;have hqa:q≠a:=fun e=>by rw [e,FH hSA hbw] at hns;exact hns rfl
 have hlf:=FG hSA hbw hq hqa;refine av (ab (aa (mvp rfl (mvi rfl (aF u_ (ya base b K a L B F _ (hff.from_ (hB.next E17)) q hq hqa) ?_)))));rintro v35 w5 ⟨rfl,E35⟩;refine mvt rfl (ae (ax rfl rfl) (ae (ax rfl rfl) (asi rfl (ah (aI (ab (aa (ae (aG (b:=1) rfl rfl (by omega)) (mvi rfl (ah ?_))))))))));refine aO ((lf L.length (fun i=>B.getD i 0) a q,k+1)) ⟨(by first | rfl | (refine aK ?_;omega)),(by first | rfl | (refine aK ?_;omega)),trivial⟩ (by (iterate 60 refine aB rfl ?_);exact aJ) ⟨?_,?_⟩
 ·exact ⟨by omega,hlf.1,by omega,by omega,((hB.next E17).next E35)⟩
 ·show 8-(k+1)<8-k;omega
theorem y7:az prog 92=true:=by kernel_rfl
theorem sA:az prog 93=true:=by kernel_rfl
theorem oA:∀ (a0:Option Addr) (a1:Int) (a2:Option Addr) (a3 a4:Nat),prog.built 140 [(0,.pointer a0),(1,.int .i64 a1),(3,.slice a2 a3 a4)]=some #[.pointer a0,.int .i64 a1,.slice none 0 0,.slice a2 a3 a4]:=by intros;kernel_rfl
theorem sx:az prog 95=true:=by kernel_rfl
theorem fe.le {w:World} {base base2 b k:Nat} {B:List Nat} (h:fe w base b k B) (hl:base2≤base):fe w base2 b k B:=by
 obtain ⟨hb0,AT,cT,g,vs,hT,ho,hVs,hg0,hg2,hrest⟩:=h;exact ⟨Nat.le_trans hl hb0,AT,cT,g,vs,hT,gx ho hl,fun j hj=>(hVs j hj).le hl,Nat.le_trans hl hg0,hg2,hrest⟩
theorem EE {L B:List Nat} {a:Nat} (h:lM L B a) (x:Nat):x∈B↔x∈L:=by
 have hl:=h.len;have ha:=h.le;constructor
 ·intro hx;obtain ⟨q,hq,rfl⟩:=List.getElem_of_mem hx;obtain ⟨i,hi,e⟩:=C2 (L:=L) (r:=if q<a then q else q+1) (by split <;> omega);have hne:rank (L.length+1) (bQ L) i≠a:=by rw [e];split <;> omega
  have hi0:0<i:=by
   rcases Nat.eq_zero_or_pos i with y | y
   ·subst y;exact absurd h.at0.symm hne
   ·exact y
  have hs:sy a (rank (L.length+1) (bQ L) i)=q:=by rw [e];unfold sy;split <;> split <;> omega
  have e1:=h.sym i hi0 hi;rw [hs,List.getD_eq_getElem?_getD,List.getElem?_eq_getElem hq,List.getD_eq_getElem?_getD,List.getElem?_eq_getElem (by omega)] at e1;simp only [Option.getD_some] at e1;rw [e1];exact List.getElem_mem _
 ·intro hx;obtain ⟨i,hi,rfl⟩:=List.getElem_of_mem hx;have e1:=h.sym (i+1) (by omega) (by omega);have hne:rank (L.length+1) (bQ L) (i+1)≠a:=by rw [h.at0];exact nO (by omega) (by omega) (by omega)
  have hs:=qG ha (gj (show i+1≤L.length by omega)) hne;rw [List.getD_eq_getElem?_getD,List.getElem?_eq_getElem (by omega),List.getD_eq_getElem?_getD,show i+1-1=i by omega,List.getElem?_eq_getElem hi] at e1;simp only [Option.getD_some] at e1;rw [←e1];exact List.getElem_mem _
theorem Ez {L B:List Nat} {a:Nat} (h:lM L B a) (k:Int):iw k (cI B)=iw k (cI L):=by
 have e:(cI B).any (ia k)=(cI L).any (ia k):=by
  rw [Bool.eq_iff_iff,List.any_eq_true,List.any_eq_true];constructor
  ·rintro ⟨x,hx,hb⟩;obtain ⟨y,hy,rfl⟩:=List.mem_map.1 hx;exact ⟨_,List.mem_map.2 ⟨y,(EE h y).1 hy,rfl⟩,hb⟩
  ·rintro ⟨x,hx,hb⟩;obtain ⟨y,hy,rfl⟩:=List.mem_map.1 hx;exact ⟨_,List.mem_map.2 ⟨y,(EE h y).2 hy,rfl⟩,hb⟩
 unfold iw;rw [e,List.length_map,List.length_map,h.len]
theorem Jp {α:Type} {f:α→Value} {w:World} {A:Option Addr} {l:List α} (h:bA f w A l):∀ q,0<l.length→A.map (·.block)=some q→q<w.heap.size:=fun q h0 hq=>by
 obtain ⟨b,o,rfl,hc⟩:=h h0;cases hq;exact rl (hc 0 h0)
theorem Gl (k:Int) (A:Option Addr) (c n:Nat) (xs:List Int) (w:World) (hr:bA iV w A xs) (hn:n=xs.length) (hl:n≤131072) (hbad:xs.all (okS 512)=false):Rt prog 93 [.int .i64 k,.slice A n c] w fun v w'=>(iw k xs≠0∧v=.tuple #[.pointer none,.int .i64 (iw k xs)])∧aj w w':=by
 refine (Ho k A c n xs w hr hn (by omega) (Jp hr)).mono fun v w' h=>?_
 obtain ⟨h,hF⟩:=h;refine ⟨?_,hF⟩;rcases h with h | ⟨K,L,b,rfl,rfl,rfl,ht⟩
 ·exact h
 ·exfalso;obtain ⟨hb0,AT,cT,g,vs,hT,ho,hVs,hg0,hg2,hK1,hK2,hlt,hLl⟩:=ht;rw [Ag (fun x hx=>Nat.lt_of_lt_of_le (hlt x hx) hK2)] at hbad;cases hbad
theorem Dq (k:Int) (A:Option Addr) (c n a:Nat) (L B:List Nat) (w:World) (hr:bA iV w A (cI B)) (hn:n=B.length) (hl:n≤131072) (hb:lM L B a):Rt prog 93 [.int .i64 k,.slice A n c] w fun v w'=>((iw k (cI L)≠0∧v=.tuple #[.pointer none,.int .i64 (iw k (cI L))])∨(iw k (cI L)=0∧∃ K tb:Nat,k=(K:Nat)∧K≤512∧v=.tuple #[.pointer (some ⟨tb,0,none⟩),.int .i64 0]∧fe w' w.heap.size tb K B))∧aj w w':=by
 refine (Ho k A c n (cI B) w hr (by rw [List.length_map];exact hn) (by rw [List.length_map];omega) (Jp hr)).mono fun v w' h=>?_
 obtain ⟨h,hF⟩:=h;refine ⟨?_,hF⟩;rw [Ez hb] at h;rcases h with h | ⟨K,L2,tb,rfl,e,rfl,ht⟩
 ·exact .inl h
 ·obtain rfl:=yo e;have ht2:=ht;obtain ⟨hb0,AT,cT,g,vs,hT,ho,hVs,hg0,hg2,hK1,hK2,hlt,hLl⟩:=ht2;refine .inr ⟨?_,K,tb,rfl,hK2,rfl,ht⟩;rw [←Ez hb];unfold iw;rw [if_neg (by omega),if_neg,if_neg (by rw [List.length_map];omega)];rw [List.any_eq_true];rintro ⟨x,hx,hbs⟩;obtain ⟨y,hy,rfl⟩:=List.mem_map.1 hx;have:=hlt y hy;unfold ia at hbs;have:=dT_ hbs;omega
theorem Cr (A:Option Addr) (c n:Nat) (L:List Nat) (w:World) (hr:bA iV w A (cI L)) (hn:n=L.length) (hl:n≤131072) (hlt:∀ x∈L,x<512):Rt prog 94 [.slice A n c] w fun v w'=>(∃ F A',gT L F∧v=.tuple #[.slice A' n n,.int .i64 0]∧bA iV w' A' (cI F))∧aj w w':=by
 refine (zk A c n (cI L) w hr (hn.trans (by rw [List.length_map])) hl).mono fun v w' h=>?_
 obtain ⟨h,hF⟩:=h;refine ⟨?_,hF⟩;rcases h with ⟨a,_⟩ | ⟨L2,F2,A',a1,_,a3,rfl,ho⟩
 ·rw [cI,Ag hlt] at a;cases a
 ·obtain rfl:=yo a1;exact ⟨F2,A',a3,rfl,(s4 ho).2⟩
def Jg (w':World) (base:Nat) (k:Int) (xs:List Int) (v:Value):Prop:=
 (iw k xs≠0∧v=.tuple #[.pointer none,.int .i64 (iw k xs)])∨
 (iw k xs=0∧∃ (K b a:Nat) (L B F:List Nat),k=(K:Nat)∧xs=cI L∧(∀ x∈L,x<512)∧kp w' base b K a L B F∧v=.tuple #[.pointer (some ⟨b,0,none⟩),.int .i64 0])
theorem HW (W0:World) (b tb a n:Nat) (L F:List Nat) (w:World) (hn:n=L.length) (hS:gT L F) (hl:L.length≤131072) (h:wU w W0 b tb 0 a L F):Rt prog 95 [.pointer (some ⟨b,0,none⟩),.int .i64 0,.int .i64 (n:Nat)] w fun _ w'=>wU w' W0 b tb 1 a L F:=by
 subst hn;exact vu W0 b tb a 0 L F w hS (Nat.zero_le _) hl h
theorem HV (W0:World) (b tb a k:Nat) (L F:List Nat) (w:World) (hk:k<L.length) (hS:gT L F) (hl:L.length≤131072) (h:wU w W0 b tb (k+1) a L F):Rt prog 95 [.pointer (some ⟨b,0,none⟩),.int .i64 ((k+1:Nat):Int),.int .i64 ((F.getD k 0:Nat):Int)] w fun _ w'=>wU w' W0 b tb (k+1+1) a L F:=by
 have:=vu W0 b tb a (k+1) L F w hS hk hl h;rw [mr] at this;exact this
theorem EG (k:Int) (A:Option Addr) (c n:Nat) (xs:List Int) (w:World) (hr:bA iV w A xs) (hn:n=xs.length) (hl:n≤131072) :
 Rt prog 63 [.int .i64 k,.slice A n c] w (fun v w'=>Jg w' w.heap.size k xs v∧aj w w'):=by
 refine enter (n:=73) Tryz.func63 rfl rfl rfl (af (aa (asp rfl (asi rfl (ah (ab (af (aa (mvs rfl (aF y7 (Gt A c n xs _ (hr.from_ aj.rfl_) hn hl) ?_))))))))));rintro v16 w1 ⟨hs16,E16⟩;rcases hs16 with ⟨hbad,rfl⟩ | ⟨Ln,Bs,a,A',c',hLn,hlt,hbw,rfl,ho16⟩
 ·refine mvt rfl (ae (ax rfl rfl) (ae (ax rfl rfl) (ae (ax rfl rfl) (ass rfl (asi rfl (asi rfl (ah (ab (af (af (aa (mvi rfl ?_))))))))))));refine ae (cD rfl rfl) (ah (ab (JR rfl (fun Q2=>?_) (fun Q2=>?_))));rotate_left
  ·exfalso;omega
  refine af (aa (mvi rfl (mvs rfl (aF sA (Gl k A c n xs _ (hr.from_ (aj.rfl_.next E16)) hn hl hbad) ?_))));rintro v25 w22 ⟨⟨hck,rfl⟩,E25⟩;refine mvt rfl (ae (ax rfl rfl) (ae (ax rfl rfl) (asi rfl (ah (ab (af (aa (mvi rfl (asp rfl (asi rfl (ah (ab (ay (aD ?_))))))))))))));refine cV (v:=.pointer _) (v':=.int _ _) rfl rfl rfl (⟨.inl ⟨hck,rfl⟩,((aj.rfl_.next E16).next E25)⟩)
 have hLl:Ln.length=n:=by rw [hn,hLn,List.length_map]
 have hBl:=hbw.len;refine mvt rfl (ae (ax rfl rfl) (ae (ax rfl rfl) (ae (ax rfl rfl) (ass rfl (asi rfl (asi rfl (ah (ab (af (af (aa (mvi rfl ?_))))))))))));refine ae (cD rfl rfl) (ah (ab (JR rfl (fun Q23=>?_) (fun Q23=>?_))))
 ·exfalso;omega
 refine av (ab (af (aa (mvi rfl (mvs rfl (aF sA (Dq k A' c' Bs.length a Ln Bs _ (bA.own ho16).2 rfl (by omega) hbw) ?_))))));rintro v32 w25 ⟨hs32,E32⟩;rcases hs32 with ⟨hck,rfl⟩ | ⟨hck,K,tb,rfl,hK,rfl,hT⟩
 ·refine mvt rfl (ae (ax rfl rfl) (ae (ax rfl rfl) (asp rfl (asi rfl (ah (ab (af (af (aa (mvi rfl (ae (cD rfl rfl) (ah (ab ?_)))))))))))));refine JR rfl (fun Q26=>?_) (fun Q26=>?_);rotate_left
  ·exfalso;omega
  refine af (aa (mvi rfl (asp rfl (asi rfl (ah (ab (ay (aD (cV (v:=.pointer _) (v':=.int _ _) rfl rfl rfl ?_)))))))));exact ⟨.inl ⟨by rw [hLn];exact hck,by rw [hLn]⟩,((aj.rfl_.next E16).next E32)⟩
 refine mvt rfl (ae (ax rfl rfl) (ae (ax rfl rfl) (asp rfl (asi rfl (ah (ab (af (af (aa (mvi rfl (ae (cD rfl rfl) (ah (ab ?_)))))))))))));refine JR rfl (fun Q35=>?_) (fun Q35=>?_)
 ·exfalso;omega
 refine av (ab (af (aa (mvs rfl ?_))));refine aF pT (Cr A c n Ln _ (by rw [←hLn];exact hr.from_ ((aj.rfl_.next E16).next E32)) (by omega) hl hlt) ?_;rintro v40 w36 ⟨⟨F,A40,hSA,rfl,hrF⟩,E40⟩;have hBz:aj w w36:=(((aj.rfl_.next E16).next E32).next E40);have hT40:=hT.from_ E40;have hFl:=hSA.len;refine mvt rfl (ae (ax rfl rfl) (ae (ax rfl rfl) (ass rfl (asi rfl (ah (ab (af (af (aa (mvi rfl (ae (cD rfl rfl) (ah (ab ?_)))))))))))));refine JR rfl (fun Q37=>?_) (fun Q37=>?_)
 ·exfalso;omega
 refine av (ab (af (aa (mvp rfl (mvi rfl (mvs rfl (ae (aQ bu rfl) (ae (kU (b:=8) rfl rfl (by omega)) (ae (aG (b:=1) rfl rfl (by omega)) (gi eO rfl rfl rfl (by omega) (by omega) ?_))))))))));intro b52 w38 E52 hb52 hk52;refine ae (cM (l:=[(0,.tmp 46),(1,.tmp 47),(3,.tmp 52)]) (oA _ _ _ _ _)) (cK (v:=.agg _) rfl ?_);intro b54 w39 E54 hb54 hk54;have hz52:(w36).heap.size≤b52:=by rw [hb52];exact Nat.le_refl _
 have hz54:(w36).heap.size≤b54:=by rw [hb54];exact E52.size
 have hSt:wU w39 w36 b54 tb 0 a Ln F:=⟨((aj.rfl_.next E52).next E54),hz54,none,0,b52,hz52,by rw [hLl];exact hk54,World.ownsRow_nil _ _ _ _,by rw [hLl,eM (g:=fun _=>0) (fun j _=>by rw [CF];rfl),←iy];exact hk52.from_ E54⟩;refine asp rfl (ah (ab (af (aa (mvp rfl (mvs rfl (ae (aQ bu rfl) (aF sx (HW w36 b54 tb a n Ln F _ (by omega) hSA (by omega) hSt) ?_))))))));rintro v58 w40 hSt;refine ah (ab (af (af (aa (mvs rfl (ae (aQ bu rfl) (mvi rfl (ah (ab (aw (a_ (G:=Nat) [12,13,62,63,64,65,66,67,68,69,70,71] (fun q=>[(61,.int .i64 (q:Nat))]) (fun q w'=>q≤n∧wU w' w36 b54 tb (q+1) a Ln F) (fun q=>n-q) (0) ⟨rfl,trivial⟩ ?_ ?_)))))))))))
 ·exact ⟨Nat.zero_le _,hSt⟩
 rintro q ρ41 w41 ⟨hq,hSt⟩;refine af (aa (ae (aW rfl rfl) (ah (ab (af (JV rfl (fun Q42=>?_) (fun Q42=>?_)))))))
 ·obtain ⟨bF,oF,rfl,hcF⟩:=CQ hrF (by omega);refine av (ab (af (aw (af (aa (mvi rfl (ae (aX bJ rfl rfl (by omega)) (ae (an aU rfl (by exact bx hSt.1 (hcF q (by omega)))) ?_))))))));refine asi rfl (asi rfl (ah (ab (aa (mvp rfl (mvi rfl (ae (aG (b:=1) rfl rfl (by omega)) (mvi rfl (aF sx (HV w36 b54 tb a q Ln F _ (by omega) hSA (by omega) hSt) ?_)))))))));rintro v70 w43 hSt;refine ah (aI (ab (aa (ae (fE rfl rfl (by omega)) (mvi rfl (ah ?_))))));refine aO (q+1) ⟨(by first | rfl | (refine aK ?_;omega)),trivial⟩ (by (iterate 26 refine aB rfl ?_);exact aJ) ⟨?_,?_⟩
  ·exact ⟨by omega,hSt⟩
  ·show n-(q+1)<n-q;omega
 refine bc (aC (aC (aS (ab (af (aa (mvp rfl (asp rfl (asi rfl (ah (ab (ay (cV (v:=.pointer _) (v':=.int _ _) rfl rfl rfl ?_)))))))))))));obtain rfl:q=n:=by omega
 have hSt9:=hSt;obtain ⟨hF1,hb0,AS,cs,gr,hg0,hI,ho,hJ⟩:=hSt9;have hz:=hBz.size;refine ⟨.inr ⟨by rw [hLn];exact hck,K,b54,a,Ln,Bs,F,rfl,hLn,hlt,⟨Nat.le_trans hz hb0,hSA,hbw,by omega,hK,tb,AS,cs,gr,by rw [hLl];rw [hLl] at hI;exact hI,(hT40.from_ hF1).le (by exact E16.size),gx (by rw [hLl];exact ho) hz,?_,Nat.le_trans hz hg0⟩,rfl⟩,(hBz.next hSt.1)⟩;rw [eM (g:=fun j=>((rwJ Ln (Ln.length+1) j:Nat):Int)) (fun j hj=>by rw [FB hj]),hLl];rw [hLl] at hJ;exact hJ
end Go.Proofs.YtcbakncjacnnjaaGreat
namespace Go.Proofs.YtcbakncjacnnjaaGreat
open Go.Proofs.Tryz (prog)
open Go.RowKit
abbrev Gh:=Nat→Nat
def Kz (g:Gh) (i h:Nat):Gh:=fun j=>bif Nat.beq j i then h else g j
abbrev GT:=List (Nat×Nat×(Gh→Value))
abbrev Jm (T:GT) (g:Gh):List (Nat×Nat×Value):=T.map fun p=>(p.1,p.2.1,p.2.2 g)
abbrev MT:=List (Nat×TypeId×Array Value)
structure J9 (w0:World) (MK:MT) (S:Nat→Bool) (g:Gh) (w':World):Prop where
 from_:aj w0 w'
 blk:∀ p∈MK,S p.1=true→Blk w' (g p.1) p.2.1 p.2.2
 ge:∀ p∈MK,S p.1=true→w0.heap.size≤g p.1
 ne:∀ p∈MK,∀ q∈MK,p.1≠q.1→S p.1=true→S q.1=true→g p.1≠g q.1
def Ks (S:Nat→Bool) (g g':Gh):GT→Prop
 |[]=>True
 |p::r=>(S p.1=true→p.2.2 g'=p.2.2 g)∧Ks S g g' r
section
variable {P:Program} {Q:Exit→Act→World→Prop} {n:Fr} {L L' M:List (Nat×Value)} {w w' w'' w0:World} {l:List Oper} {T:GT} {MK:MT} {S:Nat→Bool} {op:Op} {ty:TypeId} {pos:String} {after:Array Edge} {i d:Nat} {f:Gh→Value} {g:Gh}
abbrev J6 (P:Program) (n:Fr) (L:List (Nat×Value)) (T:GT) (MK:MT) (w0:World) (S:Nat→Bool) (i:Nat) (o:Oper) (L':List (Nat×Value)) (w':World):Prop:=oq P n o (fun L2 w2=>∃ g,mN L (Jm T g) (j4 S i) L2∧J9 w0 MK (j4 S i) g w2) L' w'
def Je (P:Program) (n:Fr) (L:List (Nat×Value)) (T:GT) (MK:MT) (w0:World) (l:List Oper):Nat→List Oper→Prop
 |_,[]=>True
 |i,o::r=>(∀ S L' w' g,Hd (T.map fun p=>(p.1,p.2.1))→Hd (MK.map fun p=>(p.1,p.1))→mN L (Jm T g) S L'→J9 w0 MK S g w'→Am l S→S i=false→lD S o.after.toList→J6 P n L T MK w0 S i o L' w')∧Je P n L T MK w0 l (i+1) r
end
end Go.Proofs.YtcbakncjacnnjaaGreat
namespace Go.Proofs.YtcbakncjacnnjaaGreat
open Go.Proofs.Tryz (prog)
open Go.RowKit Go.Shelf
structure EV (P:Program) (gf:Nat) (lb:Array Value) (u v:Nat→Value) (N:Nat) (Rd:World→Prop):Prop where
 out:∀ (l:Nat) (J:Nat→World→Prop) (JS:World→Prop) (W:World),(∀ k W',J k W'→Rd W')→(∀ k W1,k<N→J k W1→YieldAt Fence.wide 0 P l #[u k,v k] W1 fun e W'=>(e=.returned (.bool true)∧J (k+1) W')∨(e=.returned (.bool false)∧JS W'))→J 0 W→
  CallsIn Fence.wide 1 P gf (#[.func (.yield l) #[] #[]]++lb) W fun e W'=>(∃ v,e=.returned v)∧(J N W'∨JS W')
def EU (K S:World→Prop):Exit→Act→World→Prop
 | .normal,_,w=>K w
 | .ret,_,w=>S w
 |_,_,_=>False
theorem yn {P:Program} {Q:Exit→Act→World→Prop} {n:Fr} {L:List (Nat×Value)} {w:World} {g:Operand} {p1 p2:Nat} {assign body:Code} {gf:Nat} {lb:Array Value} {u v:Nat→Value} {N:Nat} {Rd:World→Prop}
 (hg:ev n L g=.func (.func gf) #[] lb) (he:∀ args w,(callFunc gf args).run P w=.ok (.enter gf args) w) (hit:EV P gf lb u v N Rd) (I:Nat→World→Prop) (S:World→Prop) (LB:Nat→List (Nat×Value)) (hRd:∀ k W,I k W→Rd W)
 (hF:∀ k W W',I k W→aj W W'→I k W') (hO:∀ k W W' q o,W.heap[q]? =some o→o.isCells=false→cH q W W'→w.heap.size≤q→I k W→I k W') (hSO:∀ W W' q o,W.heap[q]? =some o→o.isCells=false→cH q W W'→w.heap.size≤q→S W→S W') (h0:I 0 w)
 (ha:∀ (l k:Nat) (W:World) (K:Act→World→Prop),K (mkA ⟨n.n,[]⟩ (LB k)) W→CdR l P assign (Exit.then K fun _ _ _=>False) ⟨n.n,[]⟩ ((p2,v k)::(p1,u k)::L) W)
 (hb:∀ (l k:Nat) (W:World),k<N→I k W→CdR l P body (EU (fun W'=>I (k+1) W'∧cX W W') fun W'=>S W'∧cX W W') ⟨n.n,[]⟩ (LB k) W)
 (hd:∀ (D:Nat) (W:World),w.heap.size≤D→I N W→W.heap[D]? =some (.deferred (some []))→Q .normal (mkA ⟨n.n,{ target:=.collected D,args:=#[] }::n.ds⟩ L) W)
 (hs:∀ (D:Nat) (W:World),w.heap.size≤D→S W→W.heap[D]? =some (.deferred (some []))→Q .ret (mkA ⟨n.n,{ target:=.collected D,args:=#[] }::n.ds⟩ L) W) :
 Cd P (.rangeFunc g #[p1,p2] assign body) Q n L w:=by
 refine ⟨(wpIn_wide (n:=2)).1 (wpIn_rangeFunc fun fn _=>?_)⟩;obtain ⟨rec,hrec⟩:∃ rec:LoopState→Option Code→Loop,rec=fun st pe=>{ state:=st,pending:=pe,fn,tmps:=mkT n.n L,params:=#[p1,p2],assign,body,defers:=w.heap.size }:=⟨_,rfl⟩
 obtain ⟨D,hD⟩:∃ D,D=w.heap.size:=⟨_,rfl⟩;obtain ⟨W1,hW1⟩:∃ W1,(w.alloc (.deferred (some []))).alloc (.loop (rec .ready none))=W1:=⟨_,rfl⟩
 have hL1:W1.heap[D+1]? =some (.loop (rec .ready none)):=by
  rw [←hW1,hD];have:=World.alloc_heap_new (w.alloc (.deferred (some []))) (.loop (rec .ready none))
  rwa [World.size_alloc] at this
 have hK1:W1.heap[D]? =some (.deferred (some [])):=by
  rw [←hW1,hD];exact (Below.heap_alloc _ _ _ (by simp)).trans (World.alloc_heap_new w _)
 have hI1:I 0 W1:=hF 0 w W1 h0 (by rw [←hW1];exact (aj.rfl_.new _).next (aj.rfl_.new _));refine ⟨D+1,[{ target:=.collected D,args:=#[] }],W1,{ target:=.fn (.func gf) lb,args:=#[.func (.yield (D+1)) #[] #[]] },W1,gf,#[.func (.yield (D+1)) #[] #[]]++lb,W1,?_,?_,fun _ _=>trivial,?_,(fun h=>by cases h),?_⟩
 ·rw [←hW1,hrec,hD];exact run_enterLoop_outer _ _ _ _ _
 ·simp only [resolve,bU,hg];simp [go_sem,ev]
 ·simp [invoke,go_sem,he]
 ·refine (hit.out (D+1) (fun k W=>I k W∧W.heap[D+1]? =some (.loop (rec .ready none))∧W.heap[D]? =some (.deferred (some []))) (fun W=>S W∧W.heap[D+1]? =some (.loop (rec .done (some .ret)))∧W.heap[D]? =some (.deferred (some []))) W1 (fun k W' h=>hRd k W' h.1) ?_ ⟨hI1,hL1,hK1⟩).mono ?_
  ·rintro k W hk ⟨hi,hl,hdf⟩;have hlt:D+1<W.heap.size:=(Array.getElem?_eq_some_iff.1 hl).1;have hy:=run_yield (P:=P) (args:=#[u k,v k]) hl (by rw [hrec];rfl);rw [hrec] at hy;refine ⟨fn,_,assign,body,hy,roundIn_of_wpIn trivial ?_⟩;obtain ⟨W2,hW2⟩:∃ W2,W.putObj (D+1) (.loop { rec .ready none with state:=.busy })=W2:=⟨_,rfl⟩;have hO2:cH (D+1) W W2:=by rw [←hW2];exact d_
   have hl2:W2.heap[D+1]? =some (.loop { rec .ready none with state:=.busy }):=by rw [←hW2];exact World.putObj_heap_same hlt
   have hd2:W2.heap[D]? =some (.deferred (some [])):=by rw [hO2.block D (by omega)];exact hdf
   have hi2:I k W2:=hO k W W2 (D+1) _ hl rfl hO2 (by omega) hi;have key:=(ha (D+1) k W (fun a₁ w₁=>∃ w₂,(Instr.beginRound (D+1)).run P w₁=.ok () w₂∧body.wpIn (Fence.wide.inRound (D+1)) 0 P (roundPost P (D+1) fun e W'=>(e=.returned (.bool true)∧I (k+1) W'∧W'.heap[D+1]? =some (.loop (rec .ready none))∧W'.heap[D]? =some (.deferred (some [])))∨(e=.returned (.bool false)∧S W'∧W'.heap[D+1]? =some (.loop (rec .done (some .ret)))∧W'.heap[D]? =some (.deferred (some [])))) a₁ w₂) ⟨W2,?_,?_⟩).out
   ·have e:({ tmps:=(Array.foldl (fun tmps (x:Tmp×Value)=>tmps.setIfInBounds x.1 x.2) (mkT n.n L) (#[p1,p2].zip #[u k,v k])),defers:=[] }:Act)=mkA ⟨n.n,[]⟩ ((p2,v k)::(p1,u k)::L):=by
     have e1:=dY ⟨n.n,[]⟩ L p1 (u k);have e2:=dY ⟨n.n,[]⟩ ((p1,u k)::L) p2 (v k);rw [←e2,←e1];simp [mkA,Act.put]
    rw [←e] at key;exact key
   ·rw [←hW2];exact run_beginRound hl (by rw [hrec])
   ·refine wpIn_mono (hb (D+1) k W2 hk hi2).out fun e a3 W3 hp=>?_
    cases e <;> first | exact hp.elim | skip
    ·obtain ⟨hi3,hk3⟩:=hp;have hl3:=hk3 _ _ hl2 rfl;have hd3:=hk3 _ _ hd2 rfl;have hlt3:=(Array.getElem?_eq_some_iff.1 hl3).1;have hr:=run_endRound (P:=P) none hl3;refine ⟨_,_,hr,.inl ⟨rfl,hO _ W3 _ (D+1) _ hl3 rfl d_ (by omega) hi3,?_,?_⟩⟩
     ·rw [World.putObj_heap_same hlt3,hrec];rfl
     ·rw [World.putObj_heap_other (by omega)];exact hd3
    ·obtain ⟨hi3,hk3⟩:=hp;have hl3:=hk3 _ _ hl2 rfl;have hd3:=hk3 _ _ hd2 rfl;have hlt3:=(Array.getElem?_eq_some_iff.1 hl3).1;have hr:=run_endRound (P:=P) (some .ret) hl3;refine ⟨_,_,hr,.inr ⟨rfl,hSO W3 _ (D+1) _ hl3 rfl d_ (by omega) hi3,?_,?_⟩⟩
     ·rw [World.putObj_heap_same hlt3,hrec];rfl
     ·rw [World.putObj_heap_other (by omega)];exact hd3
  ·rintro e W2 ⟨⟨x,rfl⟩,(⟨hi,hl,hdf⟩ | ⟨hi,hl,hdf⟩)⟩
   ·refine ⟨none,_,by have:=run_endLoop (P:=P) hl (by rw [hrec];simp);rw [hrec] at this;exact this,?_⟩;exact hd D _ (by omega) (hO _ W2 _ (D+1) _ hl rfl d_ (by omega) hi) ((World.putObj_heap_other (by omega)).trans hdf)
   ·refine ⟨some .ret,_,by have:=run_endLoop (P:=P) hl (by rw [hrec];simp);rw [hrec] at this;exact this,wpIn_ret ?_⟩;exact hs D _ (by omega) (hSO W2 _ (D+1) _ hl rfl d_ (by omega) hi) ((World.putObj_heap_other (by omega)).trans hdf)
attribute [local go_sem] Oper.semAt_some
def An (Bs b o m c:Nat) (f:Nat→Int) (W:World):Prop:=W.cell? ⟨Bs,0,none⟩=some (.slice (some ⟨b,o,none⟩) m c)∧∀ j,j<m→W.cell? ⟨b,o+j,none⟩=some (.int .i64 (f j))
theorem yu (Bs b o m c:Nat) (f:Nat→Int) (hm:m≤1000000) :
 EV prog 188 #[.pointer (some ⟨Bs,0,none⟩)] (fun k=>.int .i64 ((m-1-k:Nat):Int)) (fun k=>.int .i64 (f (m-1-k))) m (An Bs b o m c f):=by
 refine ⟨fun l J JS W hRd hY h0=>?_⟩;refine callsIn_of_wp Tryz.func188 rfl trivial ?_ rfl;simp only [Tryz.ntmps188,List.size_toArray,List.length_cons,List.length_nil,Nat.reduceAdd,Nat.reduceSub,Array.replicate_succ,Array.replicate_zero,List.push_toArray,List.append_toArray,List.nil_append,List.cons_append];have hBs:=(hRd 0 W h0).1
 gi_wp2
 gi_loopw [3] (fun i wr=>∃ k:Nat,k≤m∧i=.int .i64 ((m:Int)-1-k)∧J k wr) (fun i _=>(intOf i+1).toNat)
 case atStart=>exact ⟨0,Nat.zero_le _,by simp,h0⟩
 case round=>
  obtain ⟨k,hk,rfl,hJ⟩:=hrel;by_cases hlt:k<m
  ·obtain ⟨i,e1,e2,him⟩:∃ i:Nat,((m:Int)-1-k)=(i:Int)∧m-1-k=i∧i<m:=⟨m-1-k,by omega,rfl,by omega⟩;have hy:=hY k wr hlt hJ;simp only [e2] at hy;obtain ⟨fn,tmps,assign,body,hy,hR⟩:=hy;have hBk:=(hRd k wr hJ).1;have hck:=(hRd k wr hJ).2 i him;clear e2;rw [e1]
   gi_wp2
   refine hR.mono ?_;rintro e W3 (⟨rfl,hJ3⟩ | ⟨rfl,hS3⟩)
   ·gi_wp2
    go_roundw
    case rel=>exact ⟨k+1,by omega,by congr 1;omega,hJ3⟩
    case measure=>simp [intOf]
   ·gi_wp2
    refine ⟨rfl,_,results_none ?_ _ _ _,⟨_,rfl⟩,.inr hS3⟩;rfl
  ·obtain rfl:k=m:=by omega
   have e1:((k:Int)-1-k)=-1:=by omega
   rw [e1]
   gi_wp2
   go_end0
   exact ⟨⟨_,rfl⟩,.inl hJ⟩
end Go.Proofs.YtcbakncjacnnjaaGreat
namespace Go.Proofs.YtcbakncjacnnjaaGreat
open Go.Proofs.Tryz (prog)
open Go.RowKit
section
variable {l:Nat} {P:Program} {Q:Exit→Act→World→Prop} {n:Fr} {L:List (Nat×Value)} {w:World}
theorem G4 {c:Operand} {x y:Code} {t:Bool} (hc:ev n L c=.bool t) (ht:t=true→CdR l P x Q n L w) (hf:t=false→CdR l P y Q n L w):CdR l P (.cond c x y) Q n L w:=
 ⟨wpIn_cond_split (by rw [bU];exact hc) (fun h=>(ht h).out) (fun h=>(hf h).out)⟩
theorem G3 (h:Q .normal (mkA n L) w):CdR l P .skip Q n L w:=⟨wpIn_skip h⟩
theorem AV {K S:World→Prop}:PQ (EU K S):=⟨fun _ _ _ _ _ h=>h⟩
theorem BK {r:List Oper} {id:Nat} (K:Nat) (RL:List (Nat×(Value→World→Prop))) (hQ:PQ Q) (hm:P.follows .mixedOrders=true) (hc:jL r K=true) (hmono:kN RL) (hd:pJ r=true) (hL:¬ LetsOut Q)
 (hop:gC P r.toArray n L (aj w) (dX RL) (dX RL) r K r.length 0 (r.take K)) (hend:∀ w',aj w w'→gh (dX RL) w' (dW r K) fun M=>St P r.toArray Q (r.drop K) n (M++L) w'):CdR l P (.region id r.toArray true) Q n L w:=by
 have hKl:K≤r.length:=dT_ (Bool.and_eq_true_iff.1 (Bool.and_eq_true_iff.1 hc).1).1
 have:=nW (Q:=Q) (mu:=r.length) (I1:=aj w) (I2:=aj w) (R1:=dX RL) hQ hc (fun _ _ hF h=>h.next hF) (fun _ _ hF h=>h.next hF) (dD hmono) (dD hmono) hop (fun _ _ _ h=>h) (fun h=>absurd h (by omega)) (by simp [xj]) hend r.length (Array.replicate r.length false) L { w with drawn:=w.drawn+1 } (iX r _) (by simp) (by simp)
  (fun j _ hj=>by simp [Array.getD,hj]) aj.rfl_.d1 (fun _=>aj.rfl_.d1) (fun _ _=>rfl) (fun i o d hi _ hl=>by
   have:i<r.length:=by omega
   simp [Array.getD,this] at hl) (fun _ i o d hi _ hl=>by
   have:i<r.length:=by omega
   simp [Array.getD,this] at hl)
 exact ⟨wpIn_region_any hm (rZ (by simpa using hd) hL _ _ _ _ (by simpa using this))⟩
theorem IZ (h:Q .ret (mkA n L) w):CdR l P .ret Q n L w:=⟨wpIn_ret h⟩
end
section
variable {P:Program} {fn:Func} {m D:Nat} {L:List (Nat×Value)} {w:World} {r r' r'':ResultVar} {R:Value→World→Prop} {v v' v'':Value}
theorem vJ (hr:fn.results=#[r,r',r'']) (h1:RV P ⟨m,[]⟩ L w r v) (h2:RV P ⟨m,[]⟩ L w r' v') (h3:RV P ⟨m,[]⟩ L w r'' v''):(results fn (mkT m L)).run P w=.ok (.tuple #[v,v',v'']) w:=by
 have e1:=h1.out;have e2:=h2.out;have e3:=h3.out;cases r <;> cases r' <;> cases r'' <;> simp_all only [] <;> (try obtain ⟨_,_,_⟩:=e1) <;> (try obtain ⟨_,_,_⟩:=e2) <;> (try obtain ⟨_,_,_⟩:=e3) <;> simp_all [results,asAddr]
theorem C0 (hr:fn.results=#[r,r',r'']) (h1:RV P ⟨m,[]⟩ L w r v) (h2:RV P ⟨m,[]⟩ L w r' v') (h3:RV P ⟨m,[]⟩ L w r'' v'') (h:R (.tuple #[v,v',v'']) w) :
 wM P fn (fun e w'=>∃ v,e=.returned v∧R v w') .ret (mkA ⟨m,[]⟩ L) w:=
 ⟨_,vJ hr h1 h2 h3,_,rfl,h⟩
theorem Hj (hr:fn.results=#[r,r',r'']) (hD:w.heap[D]? =some (.deferred (some []))) (h:∀ w',cH D w w'→RV P ⟨m,[]⟩ L w' r v∧RV P ⟨m,[]⟩ L w' r' v'∧RV P ⟨m,[]⟩ L w' r'' v''∧R (.tuple #[v,v',v'']) w') :
 wM P fn (fun e w'=>∃ v,e=.returned v∧R v w') .ret (mkA ⟨m,[{ target:=.collected D,args:=#[] }]⟩ L) w:=by
 obtain ⟨h1,h2,h3,hR⟩:=h _ d_;exact ⟨by simp,.inl ⟨D,_,rfl,run_takeDeferred hD,⟨_,vJ hr h1 h2 h3,_,rfl,hR⟩⟩⟩
end
end Go.Proofs.YtcbakncjacnnjaaGreat
namespace Go.Proofs.YtcbakncjacnnjaaGreat
open Go.Proofs.Tryz (prog)
open Go.RowKit
open Go.ChangeShapes Go.WideShapes Go.ChangeAt
open Go.Proofs.YtcbakncjacnnjaaGreat.SA
theorem jW:dK prog 29=some 1:=by kernel_rfl
theorem tu:lN prog 3=some (.int .i64 0):=by kernel_rfl
theorem y6:lN prog 29=some (.int .i64 0):=by kernel_rfl
theorem jX:fp prog 29=some false:=by kernel_rfl
theorem iL:fp prog 99=some false:=by kernel_rfl
theorem xm:az prog 168=true:=by kernel_rfl
theorem xl:az prog 169=true:=by kernel_rfl
theorem xk:az prog 171=true:=by kernel_rfl
theorem uy (A:Option Addr) (m c:Nat) (w:World) :
 Rt prog 171 [.slice A m c] w (fun v w'=>(∃ Bs,v=.func (.func 188) #[] #[.pointer (some ⟨Bs,0,none⟩)]∧w.heap.size≤Bs∧Blk w' Bs 86 #[.slice A m c])∧aj w w'):=by
 refine enter (n:=4) Tryz.func171 rfl rfl rfl (af (aa (cK (v:=.slice _ _ _) rfl ?_)));intro b1 w1 E1 hb1 hk1;refine ae (bY (v:=_) rfl) (ah (ab (af (aa (ae (gG (l1:=[]) (l2:=[.tmp 1])) (ae (bY (v:=_) rfl) (ah (ab (ay (bE (v:=.func _ _ _) rfl rfl (⟨⟨b1,rfl,Nat.le_of_eq hb1.symm,hk1⟩,(aj.rfl_.next E1)⟩)))))))))))
def y4 (K:Nat) (L:List Nat) (q:List Int) (fr to e:Int):Prop:=
 (q=[]∧fr=0∧to=0∧e=5)∨(q≠[]∧q.all (okS (K:Nat))=false∧fr=0∧to=0∧e=1)∨
 (∃ p:List Nat,q=cI p∧p≠[]∧(∀ x∈p,x<K)∧fr=((rwF L p:Nat):Int)∧to=((rwT L p:Nat):Int)∧e=0)
theorem td {K:Nat}:∀ {xs:List Int},xs.all (okS (K:Nat))=true→∃ L:List Nat,xs=cI L∧∀ x∈L,x<K
 |[],_=>⟨[],rfl,fun _ h=>(by cases h)⟩
 |x::xs,h=>by
  rw [List.all_cons,Bool.and_eq_true] at h;obtain ⟨L,e,hL⟩:=td h.2;obtain ⟨h1,h2⟩:=zC.1 h.1;refine ⟨x.toNat::L,?_,fun y hy=>?_⟩
  ·rw [cI,List.map_cons,←cI,←e,Int.toNat_of_nonneg h1]
  ·rcases List.mem_cons.1 hy with rfl | hy
   ·omega
   ·exact hL y hy
theorem BH {p:List Nat} {k:Nat} (h:k<p.length):p.drop (p.length-(k+1))=p.getD (p.length-1-k) 0::p.drop (p.length-k):=by
 rw [List.drop_eq_getElem_cons (show p.length-(k+1)<p.length by omega),List.getD_eq_getElem?_getD,List.getElem?_eq_getElem (show p.length-1-k<p.length by omega)]
 congr 1
 ·show _=p[p.length-1-k]
  congr 1
  omega
 ·congr 1
  omega
structure RwI (w:World) (b b2 b4 b5 b6 Bs n c:Nat) (A:Option Addr) (fr to:Nat) (W:World):Prop where
 hF:aj w W
 h2:Blk W b2 99 #[.pointer (some ⟨b,0,none⟩)]
 h4:Blk W b4 3 #[.int .i64 (fr:Nat)]
 h5:Blk W b5 3 #[.int .i64 (to:Nat)]
 h6:Blk W b6 29 #[.int .i64 0]
 hs:Blk W Bs 86 #[.slice A n c]
section
variable {w W W':World} {b b2 b4 b5 b6 Bs n c fr to:Nat} {A:Option Addr}
theorem RwI.from_ (h:RwI w b b2 b4 b5 b6 Bs n c A fr to W) (hF:aj W W'):RwI w b b2 b4 b5 b6 Bs n c A fr to W':=⟨h.hF.next hF,h.h2.from_ hF,h.h4.from_ hF,h.h5.from_ hF,h.h6.from_ hF,h.hs.from_ hF⟩
theorem RwI.aside {q:Nat} {o:Obj} (h:RwI w b b2 b4 b5 b6 Bs n c A fr to W) (hq:W.heap[q]? =some o) (ho:o.isCells=false) (hO:cH q W W') (hw:w.heap.size≤q):RwI w b b2 b4 b5 b6 Bs n c A fr to W':=
 ⟨h.hF.only hO hw,h.h2.only hO (bw h.h2 hq ho),h.h4.only hO (bw h.h4 hq ho),h.h5.only hO (bw h.h5 hq ho),h.h6.only hO (bw h.h6 hq ho),h.hs.only hO (bw h.hs hq ho)⟩
end
theorem BA (base b K a:Nat) (L B F:List Nat) (w:World) (hf:kp w base b K a L B F) (A:Option Addr) (c n:Nat) (q:List Int) (hr:bA iV w A q) (hn:n=q.length) (hl:n≤1000000) :
 Rt prog 138 [.pointer (some ⟨b,0,none⟩),.slice A n c] w (fun v w'=>(∃ fr to e,v=.tuple #[.int .i64 fr,.int .i64 to,.int .i64 e]∧y4 K L q fr to e)∧aj w w'):=by
 have hff:=hf;obtain ⟨hb0,hSA,hbw,hLn,hK,tb,AS,cs,gr,hX,hT,ho,hR,hgr⟩:=hf;have hBl:=hbw.len;refine Eg (n:=60) Tryz.func138 rfl rfl rfl (af (aa (cK (v:=.pointer _) rfl ?_)));intro b2 w1 E2 hb2 hk2;refine dI tu ?_;intro b4 w2 E4 hb4 hk4;refine dI tu ?_;intro b5 w3 E5 hb5 hk5;refine dI y6 ?_;intro b6 w4 E6 hb6 hk6;have hg2:w.heap.size≤b2:=by rw [hb2];exact Nat.le_refl _
 have hg4:w.heap.size≤b4:=by rw [hb4];exact E2.size
 have hg5:w.heap.size≤b5:=by rw [hb5];exact (E2.next E4).size
 have hg6:w.heap.size≤b6:=by rw [hb6];exact (E2.next (E4.next E5)).size
 have h24:b2<b4:=by rw [hb4];exact hk2.lt
 have h45:b4<b5:=by rw [hb5];exact hk4.lt
 have h56:b5<b6:=by rw [hb6];exact hk5.lt
 replace hk2:Blk _ b2 99 #[.pointer (some ⟨b,0,none⟩)]:=hk2;replace hk4:Blk _ b4 3 #[.int .i64 0]:=hk4;replace hk5:Blk _ b5 3 #[.int .i64 0]:=hk5;replace hk6:Blk _ b6 29 #[.int .i64 0]:=hk6;refine ah (ab (af (af (aa (mvs rfl (ae (aQ bu rfl) (ae (cx rfl rfl) (ah (ab (JV rfl (fun Q5=>?_) (fun Q5=>?_)))))))))))
 ·refine af (aa (bH (v:=.int _ _) b_ rfl rfl rfl ((hk4.from_ (E5.next E6))) (by simp) ?_));intro w6 O2a P2a;refine bH (v:=.int _ _) b_ rfl rfl rfl (((hk5.from_ E6).only O2a (by omega))) (by simp) ?_;intro w7 O2b P2b;refine bH (v:=.int _ _) jW rfl rfl rfl (((hk6.only O2a (by omega)).only O2b (by omega))) (by simp) ?_;intro w8 O2c P2c;have hr4:=(P2a.only O2b (by omega)).only O2c (by omega);have hr5:=P2b.only O2c (by omega);have hr6:=P2c;refine ah (ab (ay (aD (C0 rfl (e_ aU rfl (by first | exact hr4.rd 0 rfl | exact (hr4.only OX (bw hr4 hK15 rfl)).rd 0 rfl | exact (hI.h4.only OX (bw hI.h4 hK rfl)).rd 0 rfl)) (e_ aU rfl (by first | exact hr5.rd 0 rfl | exact (hr5.only OX (bw hr5 hK15 rfl)).rd 0 rfl | exact (hI.h5.only OX (bw hI.h5 hK rfl)).rd 0 rfl)) (e_ jX rfl (by first | exact hr6.rd 0 rfl | exact (hr6.only OX (bw hr6 hK15 rfl)).rd 0 rfl | exact (hI.h6.only OX (bw hI.h6 hK rfl)).rd 0 rfl)) ?_))));exact ⟨⟨0,0,5,rfl,.inl ⟨List.eq_nil_of_length_eq_zero (by omega),rfl,rfl,rfl⟩⟩,(((((((aj.rfl_.next E2).next E4).next E5).next E6).only O2a (hg4)).only O2b (hg5)).only O2c (hg6))⟩
 refine av (ab (af (af (aa (mvs rfl (ae (aQ bu rfl) (mvi rfl (ah (ab (aw (a_ (G:=Nat) [8,17,18,19,20,21,22,23,24,25,26,27,28,29,30,31,32,33,34,35,36] (fun k=>[(16,.int .i64 (k:Nat))]) (fun k w'=>k≤n∧(q.take k).all (okS (K:Nat))=true∧aj w w'∧Blk w' b2 99 #[.pointer (some ⟨b,0,none⟩)]∧Blk w' b4 3 #[.int .i64 0]∧Blk w' b5 3 #[.int .i64 0]∧Blk w' b6 29 #[.int .i64 0]) (fun k=>n-k) (0) ⟨rfl,trivial⟩ ?_ ?_)))))))))))
 ·exact ⟨Nat.zero_le _,rfl,((((aj.rfl_.next E2).next E4).next E5).next E6),hk2.from_ (E4.next (E5.next E6)),hk4.from_ (E5.next E6),hk5.from_ E6,hk6⟩
 rintro k ρ9 w9 ⟨hk,hall,hB,h2,h4,h5,h6⟩;refine af (aa (ae (aW rfl rfl) (ah (ab (af (JV rfl (fun Q10=>?_) (fun Q10=>?_)))))))
 ·have hkx:k<q.length:=by omega
  obtain ⟨bp,op,rfl,hcq⟩:=hr (by omega);have hcqk:=hcq k hkx;refine av (ab (af (aw (af (aa (ae (aX bJ rfl rfl (by omega)) (ae (an aU rfl (by exact bx hB hcqk)) ?_)))))));refine asi rfl (ah (ab (af (aa (ae (an iL rfl (by exact (h2.from_ aj.rfl_).rd 0 rfl)) ?_)))));refine aF xm (Ft base b K a L B F _ (hff.from_ hB)) ?_;rintro v21 w11 ⟨rfl,E21⟩;have h4q:=h4.from_ (aj.rfl_.next E21);have h5q:=h5.from_ (aj.rfl_.next E21);have h6q:=h6.from_ (aj.rfl_.next E21);refine ae (aW rfl rfl) (mvb rfl (Jk (t:=23) rfl (fun Q12=>?_) (fun Q12=>?_)))
  ·exfalso;omega
  refine ao rfl (mvi rfl (ao rfl (ae (aW rfl rfl) (ae (bk (v:=.bool _) rfl rfl) (mvb rfl (Jk (t:=27) rfl (fun Q16=>?_) (fun Q16=>?_)))))))
  ·refine aL rfl rfl (aL rfl rfl (aL rfl rfl (aL rfl rfl (aL rfl rfl (aL rfl rfl (aL rfl rfl (ae (bB (v:=.bool _) rfl rfl) (ah (ab ?_)))))))));refine cW rfl (af (aa (bH (v:=.int _ _) b_ rfl rfl rfl (h4q) (by simp) ?_)));intro w17 O7a P7a;refine bH (v:=.int _ _) b_ rfl rfl rfl ((h5q.only O7a (by omega))) (by simp) ?_;intro w18 O7b P7b;refine bH (v:=.int _ _) jW rfl rfl rfl (((h6q.only O7a (by omega)).only O7b (by omega))) (by simp) ?_;intro w19 O7c P7c;have hr4:=(P7a.only O7b (by omega)).only O7c (by omega);have hr5:=P7b.only O7c (by omega);have hr6:=P7c;refine ah (ab (ay (bj (aD (aD (bj (aD (C0 rfl (e_ aU rfl (by first | exact hr4.rd 0 rfl | exact (hr4.only OX (bw hr4 hK15 rfl)).rd 0 rfl | exact (hI.h4.only OX (bw hI.h4 hK rfl)).rd 0 rfl)) (e_ aU rfl (by first | exact hr5.rd 0 rfl | exact (hr5.only OX (bw hr5 hK15 rfl)).rd 0 rfl | exact (hI.h5.only OX (bw hI.h5 hK rfl)).rd 0 rfl)) (e_ jX rfl (by first | exact hr6.rd 0 rfl | exact (hr6.only OX (bw hr6 hK15 rfl)).rd 0 rfl | exact (hI.h6.only OX (bw hI.h6 hK rfl)).rd 0 rfl)) ?_))))))));exact ⟨⟨0,0,1,rfl,.inr (.inl ⟨fun e=>by subst e;simp at hkx,uB hkx (tQ (by omega)),rfl,rfl,rfl⟩)⟩,((((hB.next E21).only O7a (hg4)).only O7b (hg5)).only O7c (hg6))⟩
  refine ao rfl (mvi rfl (ao rfl (ae (an iL rfl (by exact (h2.from_ (aj.rfl_.next E21)).rd 0 rfl)) ?_)));refine ao rfl (ae (ar rfl) (ao rfl (ae (ak el rfl) (ao rfl (ae (an ff rfl (by exact (hX.from_ (hB.next E21)).rd 0 rfl)) ?_)))));refine ao rfl (aF xl (Ix base tb K B _ (hT.from_ (hB.next E21))) ?_);rintro v33 w20 ⟨rfl,rfl⟩;refine ao rfl (ae (eA rfl rfl) (ae (bk (v:=.bool _) rfl rfl) (ah (ab (JV rfl (fun Q21=>?_) (fun Q21=>?_))))))
  ·refine af (aa (bH (v:=.int _ _) b_ rfl rfl rfl (h4q) (by simp) ?_));intro w22 O7a P7a;refine bH (v:=.int _ _) b_ rfl rfl rfl ((h5q.only O7a (by omega))) (by simp) ?_;intro w23 O7b P7b;refine bH (v:=.int _ _) jW rfl rfl rfl (((h6q.only O7a (by omega)).only O7b (by omega))) (by simp) ?_;intro w24 O7c P7c;have hr4:=(P7a.only O7b (by omega)).only O7c (by omega);have hr5:=P7b.only O7c (by omega);have hr6:=P7c;refine ah (ab (ay (bj (aD (aD (bj (aD (C0 rfl (e_ aU rfl (by first | exact hr4.rd 0 rfl | exact (hr4.only OX (bw hr4 hK15 rfl)).rd 0 rfl | exact (hI.h4.only OX (bw hI.h4 hK rfl)).rd 0 rfl)) (e_ aU rfl (by first | exact hr5.rd 0 rfl | exact (hr5.only OX (bw hr5 hK15 rfl)).rd 0 rfl | exact (hI.h5.only OX (bw hI.h5 hK rfl)).rd 0 rfl)) (e_ jX rfl (by first | exact hr6.rd 0 rfl | exact (hr6.only OX (bw hr6 hK15 rfl)).rd 0 rfl | exact (hI.h6.only OX (bw hI.h6 hK rfl)).rd 0 rfl)) ?_))))))));exact ⟨⟨0,0,1,rfl,.inr (.inl ⟨fun e=>by subst e;simp at hkx,uB hkx (tQ (by omega)),rfl,rfl,rfl⟩)⟩,((((hB.next E21).only O7a (hg4)).only O7b (hg5)).only O7c (hg6))⟩
  refine av (aI (ab (aa (ae (fE rfl rfl (by omega)) (mvi rfl (ah ?_))))));refine aO (k+1) ⟨(by first | rfl | (refine aK ?_;omega)),trivial⟩ (by (iterate 46 refine aB rfl ?_);exact aJ) ⟨?_,?_⟩
  ·exact ⟨by omega,wR hkx hall (qn (by omega) (by omega)),(hB.next E21),h2.from_ (aj.rfl_.next E21),h4.from_ (aj.rfl_.next E21),h5.from_ (aj.rfl_.next E21),h6.from_ (aj.rfl_.next E21)⟩
  ·show n-(k+1)<n-k;omega
 obtain ⟨p,hqp,hpK⟩:=td (Ah (show ¬ k<q.length by omega) hall);have hpn:p.length=n:=by rw [hn,hqp,List.length_map]
 obtain ⟨bp,op,rfl,hcp⟩:=CQ (show bA iV w A (cI p) by rw [←hqp];exact hr) (by omega);have hd0:p.drop (n-0)=[]:=by rw [Nat.sub_zero,←hpn,List.drop_length]
 refine bc (aC (aC (aS (ab (af (aa (ae (an iL rfl (by exact (h2.from_ aj.rfl_).rd 0 rfl)) ?_)))))));refine ae (ar rfl) (ae (ak el rfl) (ae (an ff rfl (by exact (hX.from_ hB).rd 0 rfl)) ?_));refine aF jm (GC base tb K B _ (hT.from_ hB)) ?_;rintro v41 w25 ⟨rfl,E41⟩;refine ae (aG (b:=1) rfl rfl (by omega)) ?_;have h2r:=h2.from_ (aj.rfl_.next E41);have h4r:=h4.from_ (aj.rfl_.next E41);have h5r:=h5.from_ (aj.rfl_.next E41);have h6r:=h6.from_ (aj.rfl_.next E41);refine bH (v:=.int _ _) b_ rfl rfl rfl (h4r) (by simp) ?_;intro w26 O9a P9a;refine bH (v:=.int _ _) b_ rfl rfl rfl ((h5r.only O9a (by omega))) (by simp) ?_;intro w27 O9b P9b;have h2s:=(h2r.only O9a (by omega)).only O9b (by omega);have h4s:=P9a.only O9b (by omega);have h5s:=P9b;have h6s:=(h6r.only O9a (by omega)).only O9b (by omega);refine ah (ab (af (af (aa (mvs rfl (aF xk (uy _ n c _) ?_))))));rintro v44 w28 ⟨⟨Bs,rfl,hgs,hks⟩,E44⟩;have hBs:b6<Bs:=Nat.lt_of_lt_of_le h6s.lt hgs;have hI0:RwI w b b2 b4 b5 b6 Bs n c (some ⟨bp,op,none⟩) (frP L (p.drop (n-0))) (toP L (p.drop (n-0))) w28:=⟨((((hB.next E41).only O9a (hg4)).only O9b (hg5)).next E44),h2s.from_ E44,by rw [hd0,GS];exact h4s.from_ E44,by rw [hd0,Fe,←hBl];exact h5s.from_ E44,h6s.from_ E44,hks⟩;have hz44:=(((((hB.next E41).only O9a (hg4)).only O9b (hg5)).next E44)).size;refine ah (ab (aw ?_));apply yn (u:=fun k=>.int .i64 ((n-1-k:Nat):Int)) (v:=fun k=>.int .i64 ((p.getD (n-1-k) 0:Nat):Int)) (N:=n) (Rd:=An Bs bp op n c fun j=>((p.getD j 0:Nat):Int)) rfl (fun _ _=>rfl) (yu Bs bp op n c (fun j=>((p.getD j 0:Nat):Int)) hl) (fun k W=>RwI w b b2 b4 b5 b6 Bs n c (some ⟨bp,op,none⟩) (frP L (p.drop (n-k))) (toP L (p.drop (n-k))) W∧(0<k→frP L (p.drop (n-k))<toP L (p.drop (n-k)))) (fun W=>RwI w b b2 b4 b5 b6 Bs n c (some ⟨bp,op,none⟩) (0) (0) W∧rwF L p=0∧rwT L p=0)
 case ha=>
  intro l k W K hK;refine mG rfl (fun ⟨_,_,h⟩=>h) ?_;refine ae (bY (v:=_) rfl) (ah hK)
 case hRd=>
  exact fun k W h=>⟨(h.1.hs).rd 0 rfl,fun j hj=>bx h.1.hF (hcp j (by omega))⟩
 case hF=>
  exact fun k W W' h hF=>⟨h.1.from_ hF,h.2⟩
 case hO=>
  exact fun k W W' q o hq ho hO hw h=>⟨h.1.aside hq ho hO (Nat.le_trans hz44 hw),h.2⟩
 case hSO=>
  exact fun W W' q o hq ho hO hw h=>⟨h.1.aside hq ho hO (Nat.le_trans hz44 hw),h.2⟩
 case h0=>
  exact ⟨hI0,fun h=>absurd h (by omega)⟩
 case hb=>
  intro l k WB hkN hI;obtain ⟨hI,hlt⟩:=hI;have hpk:p.drop (n-(k+1))=p.getD (n-1-k) 0::p.drop (n-k):=by have:=BH (p:=p) (k:=k) (by omega);rw [hpn] at this;exact this
  have hck:p.getD (n-1-k) 0<K:=zP hpK (by omega);have hs1:=DZ hbw (p.getD (n-1-k) 0) (p.drop (n-k));have hs2:=Ce hbw (p.getD (n-1-k) 0) (p.drop (n-k));rw [←hpk] at hs1 hs2;have hle1:=IN L (p.drop (n-k));have hle2:=qC L (p.drop (n-k));refine wJ (uj ?_);apply BK 8 [(47,eqp _),(48,eqp _),(49,eqp _),(50,eqp _),(51,eqp _),(52,eqp _),(53,eqp _),(54,eqp _)] (by repeat first | exact AV | exact vM | refine cm ?_ | refine bO ?_) (by kernel_rfl) (by kernel_rfl) ⟨ag _,ag _,ag _,ag _,ag _,ag _,ag _,ag _,trivial⟩ (by kernel_rfl) (fun ⟨_,_,h⟩=>h)
  case hop=>
   constructor
   ·rintro-w30 D30;exact ai (an iL rfl (by exact (hI.h2.from_ D30).rd 0 rfl)) rfl
   constructor
   ·rintro-w31 D31;exact ai (aq (v:=.int _ _) rfl) rfl
   constructor
   ·rintro-w32 D32;exact ai (an aU rfl (by exact (hI.h4.from_ D32).rd 0 rfl)) rfl
   constructor
   ·rintro-w33 D33;rintro _ rfl _ rfl _ rfl;refine er lA ((uz base b K a L B F _ (hff.from_ (hI.hF.next D33)) (p.getD (n-1-k) 0) (frP L (p.drop (n-k))) hck hle1).mono ?_);rintro v _ ⟨rfl,E33'⟩;exact ⟨E33',rfl⟩
   constructor
   ·rintro-w34 D34;exact ai (an iL rfl (by exact (hI.h2.from_ D34).rd 0 rfl)) rfl
   constructor
   ·rintro-w35 D35;exact ai (aq (v:=.int _ _) rfl) rfl
   constructor
   ·rintro-w36 D36;exact ai (an aU rfl (by exact (hI.h5.from_ D36).rd 0 rfl)) rfl
   constructor
   ·rintro-w37 D37;rintro _ rfl _ rfl _ rfl;refine er lA ((uz base b K a L B F _ (hff.from_ (hI.hF.next D37)) (p.getD (n-1-k) 0) (toP L (p.drop (n-k))) hck hle2).mono ?_);rintro v _ ⟨rfl,E37'⟩;exact ⟨E37',rfl⟩
   exact trivial
  case hend=>
   intro w38 D38;rintro _ rfl _ rfl _ rfl _ rfl _ rfl _ rfl _ rfl _ rfl;show St ..;have hID:=hI.from_ D38;have hkD:cX WB _:=cX.from_ D38;refine bH (v:=.int _ _) b_ rfl rfl rfl (hID.h4) (by simp) ?_;intro w39 O12a P12a;refine bH (v:=.int _ _) b_ rfl rfl rfl ((hID.h5.only O12a (by omega))) (by simp) ?_;intro w40 O12b P12b;have hI12:RwI w b b2 b4 b5 b6 Bs n c (some ⟨bp,op,none⟩) (frP L (p.drop (n-(k+1)))) (toP L (p.drop (n-(k+1)))) w40:=⟨(hID.hF.only O12a hg4).only O12b hg5,(hID.h2.only O12a (by omega)).only O12b (by omega),by rw [hs1];exact P12a.only O12b (by omega),by rw [hs2];exact P12b,(hID.h6.only O12a (by omega)).only O12b (by omega),(hID.hs.only O12a (by omega)).only O12b (by omega)⟩;have hk12:=hkD.trans ((cX.only O12a hID.h4).trans (cX.only O12b (hID.h5.only O12a (by omega))));refine ah (qo (uj (mG rfl (fun ⟨_,_,h⟩=>h) ?_)));refine ae (an aU rfl (by exact hI12.h4.rd 0 rfl)) ?_;refine ae (an aU rfl (by exact hI12.h5.rd 0 rfl)) ?_;refine ae (eA rfl rfl) (ah (qo (G4 rfl (fun Q41=>?_) (fun Q41=>?_))))
   ·with_reducible replace Q41:=dT_ Q41
    refine uj (mG rfl (fun ⟨_,_,h⟩=>h) ?_);refine bH (v:=.int _ _) b_ rfl rfl rfl (hI12.h4) (by simp) ?_;intro w42 O14a P14a;refine bH (v:=.int _ _) b_ rfl rfl rfl ((hI12.h5.only O14a (by omega))) (by simp) ?_;intro w43 O14b P14b;refine bH (v:=.int _ _) jW rfl rfl rfl (((hI12.h6.only O14a (by omega)).only O14b (by omega))) (by simp) ?_;intro w44 O14c P14c;have hI14:RwI w b b2 b4 b5 b6 Bs n c (some ⟨bp,op,none⟩) (0) (0) w44:=⟨((hI12.hF.only O14a hg4).only O14b hg5).only O14c hg6,((hI12.h2.only O14a (by omega)).only O14b (by omega)).only O14c (by omega),(P14a.only O14b (by omega)).only O14c (by omega),P14b.only O14c (by omega),P14c,((hI12.hs.only O14a (by omega)).only O14b (by omega)).only O14c (by omega)⟩;have hk14:=hk12.trans ((cX.only O14a hI12.h4).trans ((cX.only O14b (hI12.h5.only O14a (by omega))).trans (cX.only O14c ((hI12.h6.only O14a (by omega)).only O14b (by omega)))));have hz:=Fz (s:=p.take (n-(k+1))) hSA (show toP L (p.drop (n-(k+1)))≤frP L (p.drop (n-(k+1))) by omega);rw [List.take_append_drop] at hz;refine ah (qo (IZ (bj (⟨⟨hI14,hz⟩,hk14⟩))))
   with_reducible replace Q41:=dF_ Q41
   refine G3 (aI (⟨⟨hI12,fun _=>by omega⟩,hk12⟩))
 case hd=>
  intro D WD hD hI hK;obtain ⟨hI,hlt⟩:=hI;refine aI (ab (af ?_));have hU45:nt [(0,58,.int .i64 ((frP L (p.drop (n-n)):Nat):Int)),(1,59,.int .i64 ((toP L (p.drop (n-n)):Nat):Int))]:=by simp [nt]
  refine oc [(0,58,.int .i64 ((frP L (p.drop (n-n)):Nat):Int)),(1,59,.int .i64 ((toP L (p.drop (n-n)):Nat):Int))] (fun S w'=>RwI w b b2 b4 b5 b6 Bs n c (some ⟨bp,op,none⟩) (frP L (p.drop (n-n))) (toP L (p.drop (n-n))) w'∧w'.heap[D]? =some (.deferred (some []))) (by kernel_rfl) (by kernel_rfl) hU45 (by simp) (⟨hI.from_ aj.rfl_.d1,cX.from_ aj.rfl_.d1 _ _ hK rfl⟩) ?_ ?_
  ·constructor
   ·rintro S L' wS hI hM hS0 ⟨-⟩;have e4:=hI.1 4 (by simp);have hM':=hM;obtain ⟨hM1,hM2⟩:=hM';exact bf (an aU e4 (hM1.h4.rd 0 rfl)) ⟨hI.put hU45 (.head _),hM⟩
   constructor
   ·rintro S L' wS hI hM hS0 ⟨-⟩;have e5:=hI.1 5 (by simp);have hM':=hM;obtain ⟨hM1,hM2⟩:=hM';exact bf (an aU e5 (hM1.h5.rd 0 rfl)) ⟨hI.put hU45 (.tail _ (.head _)),hM⟩
   constructor
   ·rintro S L' wS hI hM hS0 ⟨d0,d0,-,-⟩;have e4:=hI.1 4 (by simp);have e58:aY L' 58=.int .i64 ((frP L (p.drop (n-n)):Nat):Int):=hI.get (i:=0) (.head _) d0;have hM':=hM;obtain ⟨hM1,hM2⟩:=hM';obtain ⟨w2,hR,hO,hb⟩:=xF (n:=⟨60,[{ target:=.collected D,args:=#[] }]⟩) (L:=L') (x:=.tmp 4) (y:=.tmp 58) b_ e4 e58 rfl hM1.h4 (by simp);exact gU hR ⟨hI.skip (by simp),⟨⟨hM1.hF.only hO hg4,hM1.h2.only hO (by omega),hb,hM1.h5.only hO (by omega),hM1.h6.only hO (by omega),hM1.hs.only hO (by omega)⟩,by rw [hO.block D (by intro e;subst e;exact absurd (hM1.h4.symm.trans hM2) (by simp))];exact hM2⟩⟩
   constructor
   ·rintro S L' wS hI hM hS0 ⟨d1,d2,d0,d1,d2,-⟩;have e5:=hI.1 5 (by simp);have e59:aY L' 59=.int .i64 ((toP L (p.drop (n-n)):Nat):Int):=hI.get (i:=1) (.tail _ (.head _)) d1;have hM':=hM;obtain ⟨hM1,hM2⟩:=hM';obtain ⟨w2,hR,hO,hb⟩:=xF (n:=⟨60,[{ target:=.collected D,args:=#[] }]⟩) (L:=L') (x:=.tmp 5) (y:=.tmp 59) b_ e5 e59 rfl hM1.h5 (by simp);exact gU hR ⟨hI.skip (by simp),⟨⟨hM1.hF.only hO hg5,hM1.h2.only hO (by omega),hM1.h4.only hO (by omega),hb,hM1.h6.only hO (by omega),hM1.hs.only hO (by omega)⟩,by rw [hO.block D (by intro e;subst e;exact absurd (hM1.h5.symm.trans hM2) (by simp))];exact hM2⟩⟩
   constructor
   ·rintro S L' wS hI hM hS0 ⟨d3,d0,d1,d2,d3,-⟩;have e6:=hI.1 6 (by simp);have hM':=hM;obtain ⟨hM1,hM2⟩:=hM';obtain ⟨w2,hR,hO,hb⟩:=xF (n:=⟨60,[{ target:=.collected D,args:=#[] }]⟩) (L:=L') (x:=.tmp 6) (y:=.const (.int .i64 0)) jW e6 rfl rfl hM1.h6 (by simp);exact gU hR ⟨hI.skip (by simp),⟨⟨hM1.hF.only hO hg6,hM1.h2.only hO (by omega),hM1.h4.only hO (by omega),hM1.h5.only hO (by omega),hb,hM1.hs.only hO (by omega)⟩,by rw [hO.block D (by intro e;subst e;exact absurd (hM1.h6.symm.trans hM2) (by simp))];exact hM2⟩⟩
   exact trivial
  ·intro w46 hM;obtain ⟨hM1,hM2⟩:=hM;have hr4:=hM1.h4;have hr5:=hM1.h5;have hr6:=hM1.h6;have hK15:=hM2;have hD15:=Nat.le_trans hz44 hD;have hh:=hlt (by omega);rw [Nat.sub_self,List.drop_zero] at hh hr4 hr5;obtain ⟨hw1,hw2⟩:=H2 hh;refine ab (ay (Hj rfl (by first | exact hK15 | exact hK) (fun wX OX=>⟨(e_ aU rfl (by first | exact hr4.rd 0 rfl | exact (hr4.only OX (bw hr4 hK15 rfl)).rd 0 rfl | exact (hI.h4.only OX (bw hI.h4 hK rfl)).rd 0 rfl)),(e_ aU rfl (by first | exact hr5.rd 0 rfl | exact (hr5.only OX (bw hr5 hK15 rfl)).rd 0 rfl | exact (hI.h5.only OX (bw hI.h5 hK rfl)).rd 0 rfl)),(e_ jX rfl (by first | exact hr6.rd 0 rfl | exact (hr6.only OX (bw hr6 hK15 rfl)).rd 0 rfl | exact (hI.h6.only OX (bw hI.h6 hK rfl)).rd 0 rfl)),?_⟩)));exact ⟨⟨_,_,_,rfl,.inr (.inr ⟨p,hqp,fun e=>by subst e;simp at hpn;omega,hpK,by rw [hw1],by rw [hw2],rfl⟩)⟩,(hM1.hF).only OX hD15⟩
 case hs=>
  intro D WS hD hS hK;obtain ⟨hI,hz1,hz2⟩:=hS;refine bj (aD (Hj rfl (by first | exact hK15 | exact hK) (fun wX OX=>⟨(e_ aU rfl (by first | exact hr4.rd 0 rfl | exact (hr4.only OX (bw hr4 hK15 rfl)).rd 0 rfl | exact (hI.h4.only OX (bw hI.h4 hK rfl)).rd 0 rfl)),(e_ aU rfl (by first | exact hr5.rd 0 rfl | exact (hr5.only OX (bw hr5 hK15 rfl)).rd 0 rfl | exact (hI.h5.only OX (bw hI.h5 hK rfl)).rd 0 rfl)),(e_ jX rfl (by first | exact hr6.rd 0 rfl | exact (hr6.only OX (bw hr6 hK15 rfl)).rd 0 rfl | exact (hI.h6.only OX (bw hI.h6 hK rfl)).rd 0 rfl)),?_⟩)));exact ⟨⟨_,_,_,rfl,.inr (.inr ⟨p,hqp,fun e=>by subst e;simp at hpn;omega,hpK,by rw [hz1],by rw [hz2],rfl⟩)⟩,hI.hF.only OX (Nat.le_trans hz44 hD)⟩
end Go.Proofs.YtcbakncjacnnjaaGreat
namespace Go.Proofs.YtcbakncjacnnjaaGreat
open Go.Proofs.Tryz (prog)
open Go.RowKit
def leB (x y:Int):Bool:=decide (x≤y)
def srt (L:List Int):List Int:=L.mergeSort leB
def cnt (L:List Int) (x:Int):Nat:=L.countP fun y=>decide (x≤y)
def med (L:List Int):Int:=(srt L).getD ((L.length-1)/2) 0
def Fit (L:List Int):Prop:=1≤L.length∧L.length≤7∧∀ x∈L,0≤x
theorem vx (L:List Int):(srt L).Perm L:=List.mergeSort_perm L leB
theorem zj (L:List Int):(srt L).length=L.length:=(vx L).length_eq
theorem HX (L:List Int):∀ i j (hi:i<(srt L).length) (hj:j<(srt L).length),i≤j→(srt L)[i]≤(srt L)[j]:=by
 have h:=List.pairwise_mergeSort (le:=leB) (fun a b c h1 h2=>by simp only [leB,decide_eq_true_eq] at*;omega) (fun a b=>by simp only [leB,Bool.or_eq_true,decide_eq_true_eq];omega) L;intro i j hi hj hij;rcases Nat.lt_or_ge i j with h1 | h1
 ·have:=List.pairwise_iff_getElem.1 h i j hi hj h1;exact dT_ this
 ·obtain rfl:i=j:=by omega
  exact Int.le_refl _
def cv (V:List Int) (n:Nat):Nat:=(List.range n).countP fun i=>decide (((i+1:Nat):Int)∈V)
def vt (V:List Int) (n i:Nat):Bool:=decide (1≤i∧i≤n∧(i:Int)∈V)
def Ky (V:List Int) (n:Nat):List Value:=(List.range 8).map fun i=>.bool (vt V n i)
end Go.Proofs.YtcbakncjacnnjaaGreat
namespace Go.Proofs.YtcbakncjacnnjaaGreat
open Go.Proofs.Tryz (prog)
open Go.RowKit
open Go.ChangeShapes Go.WideShapes Go.ChangeAt
open Go.Proofs.YtcbakncjacnnjaaGreat.SA
open Go.Shelf
theorem xp:az prog 138=true:=by kernel_rfl
theorem xo:az prog 139=true:=by kernel_rfl
theorem xn:az prog 140=true:=by kernel_rfl
def y8 (K:Nat) (L:List Nat) (q:List Int) (l:List Nat) (e:Int):Prop:=
 (q=[]∧l=[]∧e=5)∨(q≠[]∧q.all (okS (K:Nat))=false∧l=[]∧e=1)∨(∃ p:List Nat,q=cI p∧p≠[]∧(∀ x∈p,x<K)∧l=eC L p∧e=0)
theorem CK {K:Nat} {L:List Nat} {q:List Int} {fr to e:Int} (h:y4 K L q fr to e) (he:e≠0):y8 K L q [] e:=by
 rcases h with ⟨h1,_,_,rfl⟩ | ⟨h1,h2,_,_,rfl⟩ | ⟨p,_,_,_,_,_,rfl⟩
 ·exact .inl ⟨h1,rfl,rfl⟩
 ·exact .inr (.inl ⟨h1,h2,rfl,rfl⟩)
 ·exact absurd rfl he
theorem FE {K:Nat} {L:List Nat} {q:List Int} {fr to:Int} (h:y4 K L q fr to 0):∃ p:List Nat,q=cI p∧p≠[]∧(∀ x∈p,x<K)∧fr=((rwF L p:Nat):Int)∧to=((rwT L p:Nat):Int):=by
 rcases h with ⟨_,_,_,e⟩ | ⟨_,_,_,_,e⟩ | ⟨p,h1,h2,h3,h4,h5,_⟩
 ·cases e
 ·cases e
 ·exact ⟨p,h1,h2,h3,h4,h5⟩
theorem AD (base c g0 o0 n:Nat) (L:List Int) (w:World) (ho:w.ownsRow base 3 1 (.slice (some ⟨g0,o0,none⟩) n c) n (L.map iV)) (hn:n=L.length) (hl:L.length≤1000000) :
 Rt prog 140 [.slice (some ⟨g0,o0,none⟩) n c] w fun _ w'=>w'.ownsRow base 3 1 (.slice (some ⟨g0,o0,none⟩) n c) n ((srt L).map iV)∧w.grownBy w' (some g0):=by
 subst hn;rcases ho.2 with ⟨hz,_⟩ | ⟨g,cap,cur,hv,hbase,hb,h1,h2,h3,h4⟩
 ·cases hz
 ·simp only [Value.slice.injEq] at hv;obtain ⟨hA,_,rfl⟩:=hv;cases hA;refine Calls.mono (Tryz.slices_Sort_int g0 0 c L w (holds_of_blockI hb (by simpa using h4)) (Array.getElem?_eq_some_iff.1 hb).1 (by omega)) fun e w' ⟨he,n,os,hw⟩=>⟨_,he,?_,?_⟩
  ·rw [hw];exact ownsRow_sortedI (zj L) hbase hb h1 h2 h3
  ·rw [hw];exact grownBy_sortedI _
theorem v_:∀ {l:List Int},(∀ y∈l,0≤y)→l=cI (l.map Int.toNat)
 |[],_=>rfl
 |y::l,h=>by
  rw [List.map_cons,cI,List.map_cons,←cI,←v_ fun z hz=>h z (List.mem_cons_of_mem _ hz),Int.toNat_of_nonneg (h y (List.mem_cons_self ..))]
theorem zi {L F p:List Nat} (hS:gT L F) (hp:p≠[]):srt (cI (SA.plc L F (frP L p) (toP L p-frP L p)))=cI (eC L p):=by
 have hto:=qC L p;have hle:=DY L p
 generalize hX:SA.plc L F (frP L p) (toP L p-frP L p)=X
 have hnd:X.Nodup:=by rw [←hX];exact AW hS (by omega)
 have hmem:∀ x,x∈X↔x∈eC L p:=fun x=>by rw [←hX];exact F_ hS hp
 have hpm:=vx (cI X)
 have hnn:∀ y∈srt (cI X),0≤y:=fun y hy=>by
  obtain ⟨x,_,rfl⟩:=List.mem_map.1 (hpm.mem_iff.1 hy);omega
 have e:srt (cI X)=cI ((srt (cI X)).map Int.toNat):=v_ hnn;rw [e]
 congr 1
 refine wP ?_ (D1 L p) fun x=>?_
 ·refine List.pairwise_map.2 (List.pairwise_iff_getElem.2 fun i j hi hj hij=>?_);have h1:=HX (cI X) i j hi hj (Nat.le_of_lt hij);have h2:=hnn _ (List.getElem_mem hi);have hndI:(srt (cI X)).Nodup:=hpm.nodup_iff.2 (List.pairwise_map.2 (hnd.imp fun a b=>by simp only [ne_eq] at*;omega));have h3:=List.pairwise_iff_getElem.1 hndI i j hi hj hij;omega
 ·rw [←hmem,List.mem_map];constructor
  ·rintro ⟨y,hy,rfl⟩;obtain ⟨z,hz,rfl⟩:=List.mem_map.1 (hpm.mem_iff.1 hy);simpa using hz
  ·intro hx;exact ⟨(x:Int),hpm.mem_iff.2 (List.mem_map.2 ⟨x,hx,rfl⟩),by simp⟩
theorem Db (L F p:List Nat):SA.plc L F (rwF L p) (rwT L p-rwF L p)=SA.plc L F (frP L p) (toP L p-frP L p):=by
 unfold rwF rwT;by_cases h:frP L p<toP L p
 ·rw [if_pos h,if_pos h]
 ·rw [if_neg h,if_neg h,show toP L p-frP L p=0 by omega];rfl
theorem vU {w:World} {base e s n c m:Nat} {A:Option Addr} {xs:List Value} (h:w.ownsRow base e s (.slice A n c) m xs) (hA:A≠none):∃ g,A=some ⟨g,0,none⟩:=by
 rcases h.2 with ⟨h0,_⟩ | ⟨g,cap,cur,hv,_⟩
 ·simp only [Value.slice.injEq] at h0;exact absurd h0.1 hA
 ·simp only [Value.slice.injEq] at hv;exact ⟨g,hv.1⟩
theorem F9 {L F:List Nat} {fr k:Nat}:(cI (SA.plc L F fr (k+1))).map iV=(cI (SA.plc L F fr k)).map iV++[iV ((dx L F (fr+k):Nat):Int)]:=by rw [Da];simp [cI]
theorem BB (base b K a:Nat) (L B F:List Nat) (w:World) (hf:kp w base b K a L B F) (A:Option Addr) (c n:Nat) (q:List Int) (hr:bA iV w A q) (hn:n=q.length) (hl:n≤1000000) :
 Rt prog 102 [.pointer (some ⟨b,0,none⟩),.slice A n c] w (fun v w'=>(∃ l e A' c',y8 K L q l e∧v=.tuple #[.slice A' l.length c',.int .i64 e]∧w'.ownsRow w.heap.size 3 1 (.slice A' l.length c') l.length ((cI l).map iV))∧aj w w'):=by
 have hLn:=hf.2.2.2.1;have hSA:=hf.2.1;refine enter (n:=40) Tryz.func102 rfl rfl rfl (af (aa (ass rfl (asi rfl (ah (ab (af (aa (mvp rfl (mvs rfl (aF xp (BA base b K a L B F _ (hf.from_ aj.rfl_) A c n q (hr.from_ aj.rfl_) hn hl) ?_)))))))))));rintro v14 w1 ⟨⟨fr,to,e,rfl,hIs⟩,E14⟩;refine mvt rfl (ae (ax rfl rfl) (ae (ax rfl rfl) (ae (ax rfl rfl) (asi rfl (asi rfl (asi rfl (ah (ab (af (af (aa (mvi rfl ?_))))))))))));refine ae (cD rfl rfl) (ah (ab (JR rfl (fun Q2=>?_) (fun Q2=>?_))))
 ·have hbad:=CK hIs (by omega);refine af (aa (mvi rfl (ass rfl (asi rfl (ah (ab (ay (aD (cV (v:=.slice _ _ _) (v':=.int _ _) rfl rfl rfl (⟨⟨[],_,none,0,hbad,rfl,World.ownsRow_nil _ _ _ _⟩,(aj.rfl_.next E14)⟩))))))))))
 obtain rfl:e=0:=by omega
 obtain ⟨p,hqp,hp0,hpK,rfl,rfl⟩:=FE hIs;have hrs:=CE L p;refine av (ab (af (aa (mvi rfl (mvi rfl (ae (bP rfl rfl (by omega)) (nJ (m:=rwT L p-rwF L p) (base:=w.heap.size) dL rfl rfl rfl (by omega) (by omega) ((aj.rfl_.next E14).size) ?_)))))));intro g24 w3 E24 hb24 ho24;refine ass rfl (ah (ab (af (af (aa (mvi rfl (asi rfl (ah (ab (aw (a_ (G:=Nat×Option Addr×Nat) [26,27,28,29,30,31,32,33,34,35,36] (fun (j,A2,c2)=>[(9,.slice A2 j c2),(10,.int .i64 ((rwF L p+j:Nat):Int))]) (fun (j,A2,c2) w'=>rwF L p+j≤rwT L p∧w'.ownsRow w.heap.size 3 1 (.slice A2 j c2) j ((cI (SA.plc L F (rwF L p) j)).map iV)∧A2≠none∧aj w w') (fun (j,_,_)=>rwT L p-(rwF L p+j)) ((0,some ⟨g24,0,none⟩,rwT L p-rwF L p)) ⟨rfl,(aK (by omega)),trivial⟩ ?_ ?_)))))))))))
 ·exact ⟨by omega,ho24,fun h=>(by cases h),((aj.rfl_.next E14).next E24)⟩
 rintro ⟨j,A2,c2⟩ ρ4 w4 ⟨hj,ho,hA2,hB⟩;refine af (af (aa (mvi rfl (mvi rfl (ae (aW rfl rfl) (ah (ab (JV rfl (fun Q5=>?_) (fun Q5=>?_)))))))))
 ·refine av (ab (af (aw (aa (mvs rfl (mvp rfl (mvi rfl (aF xo (nH base b K a L B F _ (hf.from_ hB) (rwF L p+j) (by omega)) ?_))))))));rintro v34 w6 ⟨rfl,E34⟩;refine fy (v:=.int _ _) cF rfl rfl rfl ?_;intro b35 w7 E35 hb35 hk35;refine dB cF rfl (by decide) rfl (A:=A2) (xs:=(cI (SA.plc L F (rwF L p) j)).map iV) (news:=[iV ((dx L F (rwF L p+j):Nat):Int)]) (ho.kept_from ((aj.rfl_.next E34).next E35)) (((hB.next E34).next E35).size) rfl rfl (fun _=>⟨b35,0,rfl,hk35.whole⟩) (fun h=>by cases h) (by simp [Value.oneCell']) (by omega) (by omega) ?_;intro A36 c36 w8 ho36 hg36;have HF36:=(((hB.next E34).next E35)).grew hg36 (fun k hk=>(cd (ho.kept_from ((aj.rfl_.next E34).next E35)) k hk).1);refine ass rfl (ah (aI (ab (aa (mvi rfl (ae (aG (b:=1) rfl rfl (by omega)) (asi rfl (ah ?_))))))));refine aO ((j+1,A36,c36)) ⟨rfl,(aK (by omega)),trivial⟩ (by (iterate 26 refine aB rfl ?_);exact aJ) ⟨?_,?_⟩
  ·exact ⟨by omega,by rw [F9];exact ho36.kept_from aj.rfl_,by obtain ⟨g,e⟩:=dm ho36 (by omega);rw [e];exact fun h=>(by cases h),HF36⟩
  ·show rwT L p-(rwF L p+(j+1))<rwT L p-(rwF L p+j);omega
 obtain ⟨g2,rfl⟩:=vU ho hA2;refine bc (aC (aC (aS (ab (af (aa (mvs rfl (aF xn (AD _ c2 g2 0 j (cI (SA.plc L F (rwF L p) j)) _ (ho.kept_from aj.rfl_) (by rw [List.length_map,tM]) (by rw [List.length_map,tM];omega)) ?_))))))));rintro v38 w9 ⟨ho38,hg38⟩;refine ah (ab (af (aa (mvs rfl (ass rfl (asi rfl (ah (ab (ay (cV (v:=.slice _ _ _) (v':=.int _ _) rfl rfl rfl ?_))))))))));obtain rfl:j=rwT L p-rwF L p:=by omega
 have hs:=zi hSA hp0;rw [←Db] at hs;rw [hs] at ho38;have hl9:rwT L p-rwF L p=(eC L p).length:=by have:=(bA.own ho38).1;rwa [List.length_map] at this
 rw [hl9] at ho38 ⊢;exact ⟨⟨eC L p,0,_,_,.inr (.inr ⟨p,hqp,hp0,hpK,rfl,rfl⟩),rfl,ho38.kept_from aj.rfl_⟩,((hB).grew hg38 (fun k hk=>(cd (ho.kept_from aj.rfl_) k hk).1))⟩
end Go.Proofs.YtcbakncjacnnjaaGreat
namespace Go.Proofs.YtcbakncjacnnjaaGreat
open Go.Proofs.Tryz (prog)
open Go.RowKit
open Go.ChangeShapes Go.WideShapes Go.ChangeAt
open Go.Proofs.YtcbakncjacnnjaaGreat.SA
noncomputable def plV (L F:List Nat) (i:Int):Int:=if 0≤i∧i≤L.length then ((dx L F i.toNat:Nat):Int) else 0
noncomputable def plE (L:List Nat) (i:Int):Int:=if 0≤i∧i≤L.length then 0 else 3
def txF (L:List Nat) (fr t i:Nat):Int:=if t≤fr+i then ((L.getD (fr+i) 0:Nat):Int) else 0
theorem fe.grown {w w':World} {base b k:Nat} {L:List Nat} {r:Option Nat} (h:fe w base b k L) (hg:w.grownBy w' r) (hne:∀ q,r=some q→q<base):fe w' base b k L:=by
 obtain ⟨hb0,AT,cT,g,vs,hT,ho,hVs,hg0,hg2,hrest⟩:=h;exact ⟨hb0,AT,cT,g,vs,hT.grown hg (fun q hq=>by have:=hne q hq;omega),lV ho hg hne,fun j hj=>(hVs j hj).grown hg hne,hg0,hg2.grown hg (fun q hq=>by have:=hne q hq;omega),hrest⟩
theorem kp.grown {w w':World} {base b K a:Nat} {L B F:List Nat} {r:Option Nat} (h:kp w base b K a L B F) (hg:w.grownBy w' r) (hne:∀ q,r=some q→q<base):kp w' base b K a L B F:=by
 obtain ⟨hb0,hSA,hbw,hLn,hK,tb,AS,cs,gr,hI,hT,ho,hR,hgr⟩:=h;exact ⟨hb0,hSA,hbw,hLn,hK,tb,AS,cs,gr,hI.grown hg (fun q hq=>by have:=hne q hq;omega),hT.grown hg hne,lV ho hg hne,hR.grown hg (fun q hq=>by have:=hne q hq;omega),hgr⟩
theorem kp.le {w:World} {base base2 b K a:Nat} {L B F:List Nat} (h:kp w base b K a L B F) (hl:base2≤base):kp w base2 b K a L B F:=by
 obtain ⟨hb0,hSA,hbw,hLn,hK,tb,AS,cs,gr,hI,hT,ho,hR,hgr⟩:=h;exact ⟨by omega,hSA,hbw,hLn,hK,tb,AS,cs,gr,hI,hT.le hl,gx ho hl,hR,by omega⟩
def uA (k:Int) (q:List Int):Int:=if q.length=0 then 5 else if q.all (okS k) then 0 else 1
def Bad (n:Nat) (at_:Int) (xs:List Int):Prop:=∀ (B:List Nat) (a:Nat),xs=cI B→(∀ x∈B,x<512)→at_=(a:Nat)→a≤n→¬ Kc n (fun i=>B.getD i 0) a
def Kw (w':World) (base n:Nat) (at_:Int) (xs:List Int) (v:Value):Prop:=
 (∃ B a A',xs=cI B∧(∀ x∈B,x<512)∧at_=(a:Nat)∧a≤n∧Kc n (fun i=>B.getD i 0) a∧v=.tuple #[.slice A' n n,.int .i64 0]∧w'.ownsRow base 3 1 (.slice A' n n) n ((wl n (fun i=>B.getD i 0) a).map fun x:Nat=>iV (x:Nat)))∨
 (Bad n at_ xs∧v=.tuple #[.slice none 0 0,.int .i64 1])
noncomputable def rsF (K:Nat) (L:List Nat) (q:List Int):Int:=if uA (K:Nat) q=0 then ((rwF L (q.map Int.toNat):Nat):Int) else 0
noncomputable def rsT (K:Nat) (L:List Nat) (q:List Int):Int:=if uA (K:Nat) q=0 then ((rwT L (q.map Int.toNat):Nat):Int) else 0
noncomputable def fdL (K:Nat) (L:List Nat) (q:List Int):List Nat:=if uA (K:Nat) q=0 then eC L (q.map Int.toNat) else []
theorem rR (p:List Nat):(cI p).map Int.toNat=p:=by
 unfold cI;rw [List.map_map];refine (List.map_congr_left fun x _=>?_).trans (List.map_id p);rfl
theorem rW {K:Nat} {p:List Nat} (h0:p≠[]) (h:∀ x∈p,x<K):uA (K:Nat) (cI p)=0:=by
 unfold uA;rw [if_neg (by rw [List.length_map];exact fun e=>h0 (List.eq_nil_of_length_eq_zero e)),if_pos];rw [List.all_eq_true];intro y hy;obtain ⟨x,hx,rfl⟩:=List.mem_map.1 hy;exact qn (by omega) (by have:=h x hx;omega)
theorem GX {K:Nat} {L:List Nat} {q:List Int} {l:List Nat} {e:Int} (h:y8 K L q l e):l=fdL K L q∧e=uA (K:Nat) q:=by
 rcases h with ⟨rfl,rfl,rfl⟩ | ⟨h1,h2,rfl,rfl⟩ | ⟨p,rfl,h1,h2,rfl,rfl⟩
 ·exact ⟨rfl,rfl⟩
 ·have e:uA (K:Nat) q=1:=by unfold uA;rw [if_neg (fun e=>h1 (List.eq_nil_of_length_eq_zero e)),h2];rfl
  unfold fdL;rw [e];exact ⟨rfl,rfl⟩
 ·unfold fdL;rw [rW h1 h2,if_pos rfl,rR];exact ⟨rfl,rfl⟩
section
variable (base b K a:Nat) (L B F:List Nat) (w:World) (hf:kp w base b K a L B F) (A:Option Addr) (c n:Nat) (q:List Int) (hr:bA iV w A q) (hn:n=q.length) (hl:n≤1000000)
include hf hr hn hl
theorem IQ:Rt prog 102 [.pointer (some ⟨b,0,none⟩),.slice A n c] w fun v w'=>(∃ A' c',v=.tuple #[.slice A' (fdL K L q).length c',.int .i64 (uA (K:Nat) q)]∧w'.ownsRow w.heap.size 3 1 (.slice A' (fdL K L q).length c') (fdL K L q).length ((cI (fdL K L q)).map iV))∧aj w w':=by
 refine (BB base b K a L B F w hf A c n q hr hn hl).mono fun v w' h=>?_
 obtain ⟨⟨l,e,A',c',hi,rfl,ho⟩,hF⟩:=h;obtain ⟨rfl,rfl⟩:=GX hi;exact ⟨⟨A',c',rfl,ho⟩,hF⟩
end
end Go.Proofs.YtcbakncjacnnjaaGreat
namespace Go.Proofs.YtcbakncjacnnjaaGreat
open Go.Proofs.Tryz (prog)
open Go.RowKit
open Go.ChangeShapes Go.WideShapes Go.ChangeAt
open Go.Proofs.YtcbakncjacnnjaaGreat.SA
theorem H3 {L F p:List Nat} (hS:gT L F) (hp:p≠[]):((rwT L p:Nat):Int)-((rwF L p:Nat):Int)=((eC L p).length:Nat):=by
 have h:=congrArg List.length (zi hS hp);rw [←Db,zj,cI,List.length_map,tM,cI,List.length_map] at h;have:=CE L p;omega
theorem EI {t:Nat→Nat}:∀ {s q:List Nat} {i:Nat},pBg t i (s++q)→pBg t i s
 |[],_,_,_=>trivial
 |_::_,_,_,⟨h1,h2⟩=>⟨h1,EI h2⟩
open Classical in
theorem Ke {L s q:List Nat}:(eC L (s++q)).length≤(eC L s).length:=by
 unfold eC;rw [←List.countP_eq_length_filter,←List.countP_eq_length_filter];exact List.countP_mono_left fun x _ h=>decide_eq_true (EI (dT_ h))
theorem JJ {K:Nat} {L F p:List Nat} (hS:gT L F) (hp:p≠[]) (hK:∀ x∈p,x<K):rsT K L (cI p)-rsF K L (cI p)=((eC L p).length:Nat):=by
 unfold rsT rsF;rw [rW hp hK,if_pos rfl,if_pos rfl,rR];exact H3 hS hp
end Go.Proofs.YtcbakncjacnnjaaGreat
namespace Go.Proofs.YtcbakncjacnnjaaGreat
open Go.Proofs.Tryz (prog)
open Go.RowKit
namespace Bd
theorem im:(cN prog 86).isSome=true:=by kernel_rfl
theorem jr:cN prog 86=some (3,1):=by kernel_rfl
theorem e8:fp prog 3=some false:=by kernel_rfl
theorem sC:prog.built 129 []=some #[.slice none 0 0]:=by kernel_rfl
theorem eE:cG prog 129 0=some 0:=by kernel_rfl
theorem iq:fp prog 86=some false:=by kernel_rfl
theorem oC:fH prog 86=some (3,1,8,(.int .i64 0)):=by kernel_rfl
theorem vd:dK prog 86=some 1:=by kernel_rfl
theorem mV:az prog 144=true:=by kernel_rfl
theorem xq:(prog.underlying 3).isSome=true:=by kernel_rfl
theorem vf:prog.underlying 67=some (.int .u64):=by kernel_rfl
theorem ve:(prog.underlying 67).isSome=true:=by kernel_rfl
theorem xr:prog.underlying 3=some (.int .i64):=by kernel_rfl
theorem sS:az prog 143=true:=by kernel_rfl
theorem jq:fp prog 96=some false:=by kernel_rfl
theorem sW:az prog 141=true:=by kernel_rfl
theorem sU:az prog 142=true:=by kernel_rfl
def st (L:List Int):Nat→Int
 |0=>0
 |i+1=>st L i+L.getD i 0+1
theorem st_succ {L:List Int} {i:Nat} (h:i<L.length):st L (i+1)=st L i+L[i]+1:=by
 show st L i+L.getD i 0+1=_;rw [List.getD_eq_getElem?_getD,List.getElem?_eq_getElem h];rfl
def neg (L:List Int):Bool:=L.any fun x=>decide (x<0)
def fits (L:List Int):Bool:=(List.range L.length).all fun i=>decide (L.getD i 0<131072-st L i)
def lZ (L:List Int):Int:=if neg L=true then 1 else if 64<L.length then 2 else if fits L=true then 0 else 2
structure Gd (L:List Int):Prop where
 pos:∀ i (h:i<L.length),0≤L[i]
 len:L.length≤64
 fit:∀ i (h:i<L.length),L[i]<131072-st L i
theorem xS {L:List Int} (h:∀ i (h:i<L.length),0≤L[i]):neg L=false:=by
 unfold neg;rw [List.any_eq_false];intro x hx;obtain ⟨i,hi,rfl⟩:=List.mem_iff_getElem.1 hx;have:=h i hi;simp;omega
theorem Il {L:List Int} {i:Nat} (h:i<L.length) (hn:L[i]<0):neg L=true:=List.any_eq_true.2 ⟨L[i],List.getElem_mem h,by simpa using hn⟩
theorem Hw {L:List Int} {i:Nat} (h:i<L.length) (hn:L[i]<0):lZ L=1:=by unfold lZ;rw [if_pos (Il h hn)]
theorem Hv {L:List Int} (h:∀ i (h:i<L.length),0≤L[i]) (hl:64<L.length):lZ L=2:=by unfold lZ;rw [if_neg (by rw [xS h];decide),if_pos hl]
theorem Hu {L:List Int} (h:∀ i (h:i<L.length),0≤L[i]) (hl:L.length≤64) {i:Nat} (hi:i<L.length) (hn:¬ L[i]<131072-st L i):lZ L=2:=by
 unfold lZ
 have hf:fits L=false:=by
  rw [←Bool.not_eq_true];intro hf;have:=List.all_eq_true.1 hf i (List.mem_range.2 hi);rw [decide_eq_true_eq,List.getD_eq_getElem?_getD,List.getElem?_eq_getElem hi] at this;exact hn this
 rw [if_neg (by rw [xS h];decide),if_neg (by omega),if_neg (by rw [hf];decide)]
theorem lens0 {L:List Int} (h:Gd L):lZ L=0:=by
 unfold lZ
 have hf:fits L=true:=List.all_eq_true.2 fun i hi=>by
  have hi':=List.mem_range.1 hi;rw [decide_eq_true_eq,List.getD_eq_getElem?_getD,List.getElem?_eq_getElem hi'];exact h.fit i hi'
 rw [if_neg (by rw [xS h.pos];decide),if_neg (by have:=h.len;omega),if_pos hf]
theorem tC {L:List Int} (hp:∀ i (h:i<L.length),0≤L[i]):∀ k,k≤L.length→(∀ i (h:i<L.length),i<k→L[i]<131072-st L i)→0≤st L k∧st L k≤131072
 |0,_,_=>by simp [st]
 |k+1,hk,hf=>by
  have h1:=tC hp k (by omega) (fun i h hi=>hf i h (by omega));have h2:=hp k (by omega);have h3:=hf k (by omega) (by omega);rw [st_succ (by omega)];omega
theorem Gd.st {L:List Int} (h:Gd L) {k:Nat} (hk:k≤L.length):0≤st L k∧st L k≤131072:=tC h.pos k hk fun i hi _=>h.fit i hi
theorem Cn {L:List Int} (hp:∀ i (h:i<L.length),0≤L[i]) (i:Nat):st L i<st L (i+1):=by
 show st L i<st L i+L.getD i 0+1;rw [List.getD_eq_getElem?_getD];by_cases h:i<L.length
 ·rw [List.getElem?_eq_getElem h];have:=hp i h;show _<_+L[i]+1;omega
 ·rw [List.getElem?_eq_none (by omega)];show _<_+0+1;omega
theorem tD {L:List Int} (hp:∀ i (h:i<L.length),0≤L[i]) {i j:Nat} (h:i≤j):st L i≤st L j:=by
 obtain ⟨k,rfl⟩:=Nat.exists_eq_add_of_le h
 induction k with
 |zero=>exact Int.le_refl _
 |succ k ih=>have h1:=Cn hp (i+k);have h2:=ih (by omega);rw [←Nat.add_assoc];omega
def ko (L:List Int) (k:Nat):List Int:=(List.range k).map fun i=>st L (i+1)
theorem wx (L:List Int) (k:Nat):(ko L k).length=k:=by simp [ko]
theorem zT (L:List Int) (k i:Nat) (h:i<(ko L k).length):(ko L k)[i]=st L (i+1):=by simp [ko]
theorem BE (L:List Int) (k:Nat):(ko L (k+1)).map iV=(ko L k).map iV++[iV (st L (k+1))]:=by
 unfold ko;rw [List.range_succ,List.map_append,List.map_append];rfl
def BAt (w:World) (base b:Nat) (L:List Int):Prop:=∃ (E:Option Addr) (c:Nat),base≤b∧Blk w b 129 #[.slice E L.length c]∧w.ownsRow base 3 1 (.slice E L.length c) L.length ((ko L L.length).map iV)∧Gd L
theorem BAt.from_ {w w':World} {base b:Nat} {L:List Int} (h:BAt w base b L) (hF:aj w w'):BAt w' base b L:=
 let ⟨E,c,h1,h2,h3,h4⟩:=h
 ⟨E,c,h1,h2.from_ hF,h3.kept_from hF,h4⟩
theorem BAt.grown {w w':World} {base b:Nat} {L:List Int} {r:Option Nat} (h:BAt w base b L) (hg:w.grownBy w' r) (hne:∀ k,r=some k→k<base):BAt w' base b L:=
 let ⟨E,c,h1,h2,h3,h4⟩:=h
 ⟨E,c,h1,h2.grown hg (fun k hk=>by have:=hne k hk;omega),lV h3 hg hne,h4⟩
theorem BAt.le {w:World} {base base' b:Nat} {L:List Int} (h:BAt w base b L) (hb:base'≤base):BAt w base' b L:=
 let ⟨E,c,h1,h2,h3,h4⟩:=h
 ⟨E,c,Nat.le_trans hb h1,h2,gx h3 hb,h4⟩
def Jf (w w':World) (L:List Int) (v:Value):Prop:=(lZ L≠0∧v=.tuple #[.pointer none,.int .i64 (lZ L)])∨(lZ L=0∧∃ b,v=.tuple #[.pointer (some ⟨b,0,none⟩),.int .i64 0]∧BAt w' w.heap.size b L)
theorem new_rt (A:Option Addr) (c:Nat) (L:List Int) (w:World) (hr:bA iV w A L) (_:∀ x∈L,-9223372036854775808≤x∧x≤9223372036854775807) (hl:L.length≤1000000000000) :
 Rt prog 62 [.slice A L.length c] w (fun v w'=>Jf w w' L v∧aj w w'):=by
 refine enter (n:=50) Tryz.func62 rfl rfl rfl (af (aa (asp rfl (asi rfl (ah (ab (af (af (aa (mvs rfl (ae (aQ im rfl) (mvi rfl (ah (ab (aw ?_)))))))))))))));refine a_ (G:=Nat) [2,3,5,13,14,15,16,17,18] (fun k=>[(12,.int .i64 (k:Nat))]) (fun k w'=>k≤L.length∧(∀ i (h:i<L.length),i<k→0≤L[i])∧aj w w') (fun k=>L.length-k) (0) ⟨rfl,trivial⟩ ?_ ?_
 ·exact ⟨Nat.zero_le _,fun i h h0=>absurd h0 (by omega),aj.rfl_⟩
 rintro k ρ1 w1 ⟨hk,hp,hB⟩;refine af (aa (ae (aW rfl rfl) (ah (ab (af (JV rfl (fun Q2=>?_) (fun Q2=>?_)))))))
 ·obtain ⟨ba,oa,rfl,hca⟩:=hr (by omega);refine av (ab (af (aw (af (aa (ae (aX jr rfl rfl (by omega)) (ae (an e8 rfl (by exact bx hB (hca k (by omega)))) ?_)))))));refine asi rfl (ah (ab (af (aa (mvi rfl (ae (aW rfl rfl) (ah (ab (JV rfl (fun Q3=>?_) (fun Q3=>?_))))))))))
  ·refine af (aa (asp rfl (asi rfl (ah (ab (ay (bj (aD (aD (bj (aD (cV (v:=.pointer _) (v':=.int _ _) rfl rfl rfl ?_))))))))))));exact ⟨.inl ⟨by rw [Hw (i:=k) (by omega) (by omega)];decide,by rw [Hw (i:=k) (by omega) (by omega)]⟩,hB⟩
  refine av (aI (ab (aa (ae (aG (b:=1) rfl rfl (by omega)) (mvi rfl (ah ?_))))));refine aO (k+1) ⟨(by first | rfl | (refine aK ?_;omega)),trivial⟩ (by (iterate 18 refine aB rfl ?_);exact aJ) ⟨?_,?_⟩
  ·refine ⟨by omega,fun i h hi=>?_,hB⟩;rcases Nat.lt_or_ge i k with a | a
   ·exact hp i h a
   ·obtain rfl:i=k:=by omega
    omega
  ·omega
 refine bc (aC (aC (aS (ab (af (af (aa ?_)))))));have hpos:∀ i (h:i<L.length),0≤L[i]:=fun i h=>hp i h (by omega)
 refine mvs rfl (ae (aQ im rfl) (ae (cL rfl rfl) (ah (ab (JV rfl (fun Q4=>?_) (fun Q4=>?_))))))
 ·refine af (aa (asp rfl (asi rfl (ah (ab (ay (aD (cV (v:=.pointer _) (v':=.int _ _) rfl rfl rfl ?_))))))));exact ⟨.inl ⟨by rw [Hv hpos (by omega)];decide,by rw [Hv hpos (by omega)]⟩,hB⟩
 refine av (ab (af (aa (ae (cM (l:=[]) (sC)) (cK (v:=.agg _) rfl ?_)))));intro b23 w5 E23 hb23 hk23;have hg23:w.heap.size≤b23:=by rw [hb23];exact (hB).size
 refine asp rfl (ah (ab (af (aa (asi rfl (ah (ab (af (af (aa (mvs rfl (ae (aQ im rfl) (mvi rfl (ah (ab (aw (a_ (G:=Nat×Option Addr×Nat) [2,3,9,27,28,29,30,31,32,33,34,35,36,37,38,39,40,41,42,43,44,45,46,47,48] (fun (k,E,c2)=>[(26,.int .i64 (k:Nat)),(7,.int .i64 (st L k))]) (fun (k,E,c2) w'=>k≤L.length∧(∀ i (h:i<L.length),i<k→L[i]<131072-st L i)∧Blk w' b23 129 #[.slice E k c2]∧w'.ownsRow w.heap.size 3 1 (.slice E k c2) k ((ko L k).map iV)∧aj w w') (fun (k,_,_)=>L.length-k) ((0,none,0)) ⟨rfl,rfl,trivial⟩ ?_ ?_)))))))))))))))))
 ·exact ⟨Nat.zero_le _,fun i h h0=>absurd h0 (by omega),hk23,World.ownsRow_nil _ _ _ _,(hB.next E23)⟩
 rintro ⟨k,E,c2⟩ ρ6 w6 ⟨hk,hf,hV,ho,hB⟩;have hst:=tC hpos k hk hf;refine af (aa (ae (aW rfl rfl) (ah (ab (af (JV rfl (fun Q7=>?_) (fun Q7=>?_)))))))
 ·obtain ⟨ba,oa,rfl,hca⟩:=hr (by omega);have hpk:=hpos k (by omega);refine av (ab (af (aw (af (aa (ae (aX jr rfl rfl (by omega)) (ae (an e8 rfl (by exact bx hB (hca k (by omega)))) ?_)))))));refine asi rfl (ah (ab (af (af (aa (mvi rfl (mvi rfl (ae (fi rfl rfl (by omega)) (ae (eA rfl rfl) (ah (ab (JV rfl (fun Q8=>?_) (fun Q8=>?_)))))))))))))
  ·refine af (aa (asp rfl (asi rfl (ah (ab (ay (aD (bj (aD (aD (bj (aD (cV (v:=.pointer _) (v':=.int _ _) rfl rfl rfl ?_)))))))))))));exact ⟨.inl ⟨by rw [Hu hpos (by omega) (i:=k) (by omega) (by omega)];decide,by rw [Hu hpos (by omega) (i:=k) (by omega) (by omega)]⟩,hB⟩
  refine av (ab (af (aa (mvi rfl (mvi rfl (ae (fE rfl rfl (by omega)) (ae (fE rfl rfl (by omega)) (asi rfl (ah (ab (aa (mvp rfl (mvp rfl ?_)))))))))))));refine ae (ar rfl) (ae (ak eE rfl) (ae (an iq rfl (by exact hV.rd 0 rfl)) ?_));refine mvi rfl (fy (v:=.int _ _) oC rfl rfl rfl ?_);intro b44 w9 E44 hb44 hk44;refine qK (a0:=w) oC rfl rfl (ho.kept_from E44) (hB.next E44) rfl hk44 rfl (by omega) (by omega) ?_;intro A45 c45 w10 ho45 B45 hg45;replace hV:=(hV.from_ E44).grown hg45 (cY (ho.kept_from E44) (hV.from_ E44) (by decide));refine ae (ar rfl) (ae (ak eE rfl) (bH (v:=.slice _ _ _) vd rfl rfl rfl (hV) (by simp) ?_));intro w11 O17 P17;refine ah (aI (ab (aa (ae (aG (b:=1) rfl rfl (by omega)) (mvi rfl (ah ?_))))));refine aO ((k+1,A45,c45)) ⟨rfl,(aK (by rw [st_succ (by omega)];omega)),trivial⟩ (by (iterate 52 refine aB rfl ?_);exact aJ) ⟨?_,?_⟩
  ·refine ⟨by omega,fun i h hi=>?_,by simpa using P17,?_,(B45.only O17 (hg23))⟩
   ·rcases Nat.lt_or_ge i k with a | a
    ·exact hf i h a
    ·obtain rfl:i=k:=by omega
     omega
   ·rw [BE,st_succ (by omega),show st L k+L[k]+1=st L k+(L[k]+1) by omega];exact cf ho45 O17 (cY ho45 hV (by decide))
  ·show L.length-(k+1)<L.length-k;omega
 refine bc (aC (aC (aS (ab (af (aa (mvp rfl (asp rfl (asi rfl (ah (ab (ay (cV (v:=.pointer _) (v':=.int _ _) rfl rfl rfl ?_)))))))))))));obtain rfl:k=L.length:=by omega
 have hG:Gd L:=⟨hpos,by omega,fun i h=>hf i h h⟩;exact ⟨.inr ⟨lens0 hG,b23,rfl,E,c2,hg23,hV,ho,hG⟩,hB⟩
theorem nH (base b:Nat) (L:List Int) (w:World) (hv:BAt w base b L) (i:Nat) (hi:i≤L.length) :
 Rt prog 144 [.pointer (some ⟨b,0,none⟩),.int .i64 (i:Nat)] w (fun v w'=>v=.int .i64 (st L i)∧w=w'):=by
 obtain ⟨E,ce,hb0,hV,ho,hG⟩:=hv;have hGl:=hG.len;refine enter (n:=15) Tryz.func144 rfl rfl rfl (af (aa (asi rfl (ah (ab (af (af (aa (mvi rfl (ae (cx rfl rfl) (ah (ab (JU rfl (fun Q1=>?_) (fun Q1=>?_))))))))))))))
 ·refine af (aa (asi rfl (ah (ab (ay (aD (bE (v:=.int _ _) rfl rfl ?_)))))));obtain rfl:i=0:=by omega
  exact ⟨rfl,rfl⟩
 refine av (ab (af (aa ?_)));obtain ⟨ge,rfl⟩:=dm ho (by omega);refine mvp rfl (ae (ar rfl) (ae (ak eE rfl) (ae (an iq rfl (by exact hV.rd 0 rfl)) ?_)));refine mvi rfl (ae (bP (b:=1) rfl rfl (by omega)) (ae (aA jr rfl rfl (by omega)) (ae (an e8 rfl (by exact ra ho (i-1) (by rw [wx];omega))) ?_)));refine dh (t:=14) (v:=.int _ _) (v':=.int .i64 (st L i)) rfl (by rw [zT,show i-1+1=i by omega]) ?_;refine asi rfl (ah (ab (ay (bE (v:=.int _ _) rfl rfl (⟨rfl,rfl⟩)))))
theorem I9 (base b:Nat) (L:List Int) (w:World) (hv:BAt w base b L) :
 Rt prog 141 [.pointer (some ⟨b,0,none⟩)] w (fun v w'=>v=.int .i64 (st L L.length)∧w=w'):=by
 have hvv:=hv;obtain ⟨E,ce,hb0,hV,ho,hG⟩:=hv;refine enter (n:=10) Tryz.func141 rfl rfl rfl (af (aa (asi rfl (ah (ab (af (aa (mvp rfl (mvp rfl (ae (ar rfl) (ae (ak eE rfl) (ae (an iq rfl (by exact hV.rd 0 rfl)) ?_))))))))))));refine ae (aQ im rfl) (aF mV (nH base b L _ hvv L.length (Nat.le_refl _)) ?_);rintro v9 w1 ⟨rfl,rfl⟩;refine asi rfl (ah (ab (ay (bE (v:=.int _ _) rfl rfl (⟨rfl,rfl⟩)))))
def sV (L:List Int) (i:Int):Int:=if 0≤i∧i<L.length then st L i.toNat else 0
def nV (L:List Int) (i:Int):Int:=if 0≤i∧i<L.length then L.getD i.toNat 0 else 0
def sE (L:List Int) (i:Int):Int:=if 0≤i∧i<L.length then 0 else 3
theorem oM (n:Nat) (g:FuncId) (caps:List Value) (p:Nat→Bool) (w:World) (hn:n≤1000000000000) (hcal:az prog g=true) (hp:∀ w' h,aj w w'→h<n→Rt prog g ([.int .i64 (h:Nat)]++caps) w' fun v w''=>v=.bool (p h)∧aj w' w'') (hm:∀ i j,i≤j→p i=true→p j=true) :
 Rt prog 142 [.int .i64 (n:Nat),.func (.func g) #[] caps.toArray] w (fun v w'=>∃ r:Nat,v=.int .i64 (r:Nat)∧r≤n∧(∀ x,x<r→p x=false)∧(∀ x,r≤x→x<n→p x=true)∧aj w w'):=by
 refine enter (n:=26) Tryz.func142 rfl rfl rfl (af (aa (asi rfl (ah (ab (af (aa (mvi rfl (asi rfl (asi rfl (ah (ab (af (aw (a_ (G:=Nat×Nat) [7,9,10,11,12,13,14,15,16,17,18,19,20,21,22,23,24] (fun (i,j)=>[(5,.int .i64 (i:Nat)),(6,.int .i64 (j:Nat))]) (fun (i,j) w'=>i≤j∧j≤n∧(∀ x,x<i→p x=false)∧(∀ x,j≤x→x<n→p x=true)∧aj w w') (fun (i,j)=>j-i) ((0,n)) ⟨rfl,rfl,trivial⟩ ?_ ?_)))))))))))))))
 ·exact ⟨Nat.zero_le _,Nat.le_refl _,fun x h=>absurd h (by omega),fun x h1 h2=>absurd h1 (by omega),aj.rfl_⟩
 rintro ⟨i,j⟩ ρ1 w1 ⟨hij,hjn,hlo,hhi,hB⟩;refine af (af (aa (mvi rfl (mvi rfl (ae (aW rfl rfl) (ah (ab (JV rfl (fun Q2=>?_) (fun Q2=>?_)))))))))
 ·refine av (ab (aw (af (aa (mvi rfl (mvi rfl (ae (aG rfl rfl (by omega)) ?_)))))));obtain ⟨h,hh⟩:∃ h,h=(i+j)/2 ^ 1:=⟨_,rfl⟩;refine ae (fq xq vf rfl (by omega)) (ae (ep (b:=1) rfl rfl (by decide)) (ae (ef ve xr rfl (by omega)) (dh (t:=17) (v:=.int _ _) (v':=.int .i64 (h:Nat)) rfl (by rw [hh]) ?_)));refine asi rfl (ah (ab (af (aa (ae (aq (v:=.func _ _ _) rfl) (mvi rfl (fh (caps:=caps) rfl hcal (hp _ h hB (by omega)) ?_)))))));rintro v20 w3 ⟨rfl,E20⟩;refine ae (eQ rfl) (ah (ab (JT rfl (fun Q4=>?_) (fun Q4=>?_))))
  ·refine aa (mvi rfl (ae (aG (b:=1) rfl rfl (by omega)) (asi rfl (ah (aI ?_)))));refine aO ((h+1,j)) ⟨(by first | rfl | (refine aK ?_;omega)),(by first | rfl | (refine aK ?_;omega)),trivial⟩ (by (iterate 37 refine aB rfl ?_);exact aJ) ⟨?_,?_⟩
   ·refine ⟨by omega,hjn,fun x hx=>?_,hhi,(hB.next E20)⟩;rcases Nat.lt_or_ge x i with a | a
    ·exact hlo x a
    ·cases hb:p x with
     |false=>rfl
     |true=>
      have:=hm x h (by omega) hb
      simp_all
   ·show j-(h+1)<j-i;omega
  refine aa (mvi rfl (asi rfl (ah (aI ?_))));refine aO ((i,h)) ⟨(by first | rfl | (refine aK ?_;omega)),(by first | rfl | (refine aK ?_;omega)),trivial⟩ (by (iterate 36 refine aB rfl ?_);exact aJ) ⟨?_,?_⟩
  ·refine ⟨by omega,by omega,hlo,fun x h1 h2=>hm h x h1 ?_,(hB.next E20)⟩;assumption
  ·show h-i<j-i;omega
 refine bc (aC (aC (aS (ab (af (aa (mvi rfl (asi rfl (ah (ab (ay (bE (v:=.int _ _) rfl rfl ?_))))))))))));obtain rfl:i=j:=by omega
 exact ⟨i,rfl,hjn,hlo,hhi,hB⟩
theorem Ar (base b p2 p3 i:Nat) (at_:Int) (L:List Int) (w:World) (hv:BAt w base b L) (h2:w.cell? ⟨p2,0,none⟩=some (.pointer (some ⟨b,0,none⟩))) (h3:w.cell? ⟨p3,0,none⟩=some (.int .i64 at_)) (hi:i<L.length) :
 Rt prog 143 [.int .i64 (i:Nat),.pointer (some ⟨p2,0,none⟩),.pointer (some ⟨p3,0,none⟩)] w (fun v w'=>v=.bool (decide (at_<st L (i+1)))∧aj w w'):=by
 obtain ⟨E,ce,hb0,hV,ho,hG⟩:=hv;obtain ⟨ge,rfl⟩:=dm ho (by omega);refine enter (n:=14) Tryz.func143 rfl rfl rfl (af (aa (asb rfl (ah (ab (af ?_))))));apply dN 10 [(5,eqp _),(6,eqp _),(7,eqp _),(8,eqp _),(9,eqp _),(10,eqp _),(11,eqp _),(12,eqp _),(13,eqp _),(4,eqp _)] (by kernel_rfl) (by kernel_rfl) ⟨ag _,ag _,ag _,ag _,ag _,ag _,ag _,ag _,ag _,ag _,trivial⟩
 case hop=>
  constructor
  ·intro w2 D2;exact ai (an jq rfl (by exact bx (aj.rfl_.next D2) h2)) rfl
  constructor
  ·intro w3 D3;rintro _ rfl;exact ai (ar rfl) rfl
  constructor
  ·intro w4 D4;rintro _ rfl;exact ai (ak eE rfl) rfl
  constructor
  ·intro w5 D5;rintro _ rfl;exact ai (an iq rfl (by exact (hV.from_ (aj.rfl_.next D5)).rd 0 rfl)) rfl
  constructor
  ·intro w6 D6;exact ai (aq (v:=.int _ _) rfl) rfl
  constructor
  ·intro w7 D7;rintro _ rfl _ rfl;exact ai (aA jr rfl rfl (by omega)) rfl
  constructor
  ·intro w8 D8;rintro _ rfl;exact ai (an e8 rfl (by exact ra (ho.kept_from (aj.rfl_.next D8)) i (by rw [wx];omega))) rfl
  constructor
  ·intro w9 D9;exact ai (an e8 rfl (by exact bx (aj.rfl_.next D9) h3)) rfl
  constructor
  ·intro w10 D10;rintro _ rfl _ rfl;exact ai (cL rfl rfl) rfl
  constructor
  ·intro w11 D11;rintro _ rfl;exact ai (bY (v:=.bool _) rfl) rfl
  exact trivial
 case hend=>
  intro w12 D12;rintro _ rfl _ rfl _ rfl _ rfl _ rfl _ rfl _ rfl _ rfl _ rfl _ rfl;show St ..;refine ah (ab (ay (bE (v:=.bool _) rfl rfl (⟨congrArg Value.bool (decide_eq_decide.2 ?_),(aj.rfl_.next D12)⟩))));rw [zT]
theorem where_is (base b:Nat) (L:List Int) (w:World) (hv:BAt w base b L) (at_:Int) (q:Nat) (hq:q<L.length) (h1:st L q≤at_) (h2:at_<st L (q+1)) :
 Rt prog 103 [.pointer (some ⟨b,0,none⟩),.int .i64 at_] w (fun v w'=>v=.tuple #[.int .i64 (q:Nat),.int .i64 (at_-st L q),.int .i64 0]∧aj w w'):=by
 have hvv:=hv;obtain ⟨E,ce,hb0,hV,ho,hG⟩:=hv;have hs1:=hG.st (k:=q) (by omega);have hs2:=hG.st (k:=q+1) (by omega);have hs3:=tD hG.pos (show q+1≤L.length by omega);refine enter (n:=28) Tryz.func103 rfl rfl rfl (af (aa (cK (v:=.pointer _) rfl ?_)));intro b2 w1 E2 hb2 hk2;have hq2:=hk2.lt;refine cK (v:=.int _ _) rfl ?_;intro b3 w2 E3 hb3 hk3;replace hk2:=hk2.from_ E3;refine asi rfl (asi rfl (asi rfl (ah (ab (af (af ?_))))));have hz:(0:Nat)=0:=rfl;apply dN 8 [(7,eqp _),(8,eqp _),(9,eqp _),(10,eqp _),(11,eqp _),(12,eqp _),(13,eqp _),(14,eqp _)] (by kernel_rfl) (by kernel_rfl) ⟨ag _,ag _,ag _,ag _,ag _,ag _,ag _,ag _,trivial⟩
 case hop=>
  constructor
  ·intro w4 D4;exact ai (an e8 rfl (by exact (hk3.from_ (aj.rfl_.next D4)).rd 0 rfl)) rfl
  constructor
  ·intro w5 D5;rintro _ rfl;exact ai (dS (aW rfl rfl) (decide_eq_false (by omega))) rfl
  constructor
  ·intro w6 D6;rintro _ rfl;exact ai (aq (v:=.bool _) rfl) rfl
  constructor
  ·intro w7 D7;rintro _ rfl;exact aP rfl (an e8 rfl (by exact (hk3.from_ (aj.rfl_.next D7)).rd 0 rfl)) rfl
  constructor
  ·intro w8 D8;rintro _ rfl;exact aP rfl (an jq rfl (by exact (hk2.from_ (aj.rfl_.next D8)).rd 0 rfl)) rfl
  constructor
  ·intro w9 D9;rintro _ rfl _ rfl;refine rf rfl sW ((I9 base b L _ (hvv.from_ (((aj.rfl_.next E2).next E3).next D9))).mono ?_);rintro v _ ⟨rfl,rfl⟩;exact ⟨aj.rfl_,rfl⟩
  constructor
  ·intro w10 D10;rintro _ rfl _ rfl _ rfl;exact aP rfl (eA rfl rfl) rfl
  constructor
  ·intro w11 D11;rintro _ rfl _ rfl;exact ai (bk (v:=.bool _) rfl rfl) rfl
  exact trivial
 case hend=>
  intro w12 D12;rintro _ rfl _ rfl _ rfl _ rfl _ rfl _ rfl _ rfl _ rfl;show St ..;refine ah (ab (JV rfl (fun Q13=>?_) (fun Q13=>?_)))
  ·exfalso;omega
  refine av (ab (af (aa (ae (an jq rfl (by exact (hk2.from_ (aj.rfl_.next D12)).rd 0 rfl)) ?_))));refine ae (ar rfl) (ae (ak eE rfl) (ae (an iq rfl (by exact (hV.from_ (((aj.rfl_.next E2).next E3).next D12)).rd 0 rfl)) ?_));refine ae (aQ im rfl) (ae (gG (l1:=[]) (l2:=[.tmp 2,.tmp 3])) (aF sU (oM L.length 143 [.pointer (some ⟨b2,0,none⟩),.pointer (some ⟨b3,0,none⟩)] (fun i=>decide (at_<st L (i+1))) _ (by have:=hG.len;omega) sS (fun w2 h hF hh=>Ar base b b2 b3 h at_ L w2 (hvv.from_ ((((aj.rfl_.next E2).next E3).next D12).next hF)) (bx ((aj.rfl_.next D12).next hF) (hk2.rd 0 rfl)) (bx ((aj.rfl_.next D12).next hF) (hk3.rd 0 rfl)) hh) (fun i j hij hi=>decide_eq_true (Int.lt_of_lt_of_le (dT_ hi) (tD hG.pos (by omega))))) ?_));rintro v21 w14 ⟨r,rfl,hrn,hlo,hhi,E21⟩
  obtain rfl:r=q:=by
   rcases Nat.lt_trichotomy r q with a | a | a
   ·have h5:=dT_ (hhi r (Nat.le_refl _) (by omega));have h6:=tD hG.pos (show r+1≤q by omega);omega
   ·exact a
   ·have h5:=dF_ (hlo q a);omega
  refine asi rfl (ah (ab (af ?_)));apply bS 9 [(22,eqp _),(23,eqp _),(24,eqp _),(25,eqp _),(26,eqp _),(27,eqp _),(4,eqp _),(5,eqp _),(6,eqp _)] (by repeat first | exact cy | refine cm ?_ | refine bO ?_) (by kernel_rfl) (by kernel_rfl) ⟨ag _,ag _,ag _,ag _,ag _,ag _,ag _,ag _,ag _,trivial⟩
  case hop=>
   constructor
   ·rintro-w16 D16;exact ai (aq (v:=.int _ _) rfl) rfl
   constructor
   ·rintro-w17 D17;exact ai (an e8 rfl (by exact (hk3.from_ (((aj.rfl_.next D12).next E21).next D17)).rd 0 rfl)) rfl
   constructor
   ·rintro-w18 D18;exact ai (an jq rfl (by exact (hk2.from_ (((aj.rfl_.next D12).next E21).next D18)).rd 0 rfl)) rfl
   constructor
   ·rintro-w19 D19;exact ai (aq (v:=.int _ _) rfl) rfl
   constructor
   ·rintro-w20 D20;rintro _ rfl _ rfl;refine er mV ((nH base b L _ (hvv.from_ (((((aj.rfl_.next E2).next E3).next D12).next E21).next D20)) r (by omega)).mono ?_);rintro v _ ⟨rfl,rfl⟩;exact ⟨aj.rfl_,rfl⟩
   constructor
   ·rintro-w21 D21;rintro _ rfl _ rfl;exact ai (fi rfl rfl (by omega)) rfl
   constructor
   ·rintro-w22 D22;rintro _ rfl;exact ai (bY (v:=.int _ _) rfl) rfl
   constructor
   ·rintro-w23 D23;rintro _ rfl;exact ai (bY (v:=.int _ _) rfl) rfl
   constructor
   ·rintro-w24 D24;exact ai (bY (v:=.int _ _) rfl) rfl
   exact trivial
  case hend=>
   intro w25 D25;rintro _ rfl _ rfl _ rfl _ rfl _ rfl _ rfl _ rfl _ rfl _ rfl;show St ..;refine ah (ab (ay (sI (v:=.int _ _) (v':=.int _ _) (v'':=.int _ _) rfl rfl rfl rfl (⟨rfl,(((((aj.rfl_.next E2).next E3).next D12).next E21).next D25)⟩))))
end Bd
end Go.Proofs.YtcbakncjacnnjaaGreat
namespace Go.Proofs.YtcbakncjacnnjaaGreat
open Go.Proofs.Tryz (prog)
open Go.RowKit
open Go.ChangeShapes Go.WideShapes Go.ChangeAt
open Go.Proofs.YtcbakncjacnnjaaGreat.SA
theorem xd:(prog.underlying 5).isSome=true:=by kernel_rfl
theorem bq:cG prog 37 0=some 0:=by kernel_rfl
theorem df:cG prog 37 1=some 1:=by kernel_rfl
theorem uX:prog.underlying 22=some (.slice 37):=by kernel_rfl
theorem ik:az prog 46=true:=by kernel_rfl
theorem mU:az prog 135=true:=by kernel_rfl
def dd:Dc:=(⟨#[]⟩,⟨#[]⟩)
theorem bZ {ds:List Dc} {i:Nat} (h:i<ds.length):ds.getD i dd=ds[i]:=by rw [List.getD_eq_getElem?_getD,List.getElem?_eq_getElem h];rfl
def okI (ds:List Dc) (i:Nat):Prop:=1≤(ds.getD i dd).1.size∧(ds.getD i dd).1.size≤64∧(0<i→sLt (ds.getD (i-1) dd).1 (ds.getD i dd).1)
def jZ (ds:List Dc):Prop:=∀ i,i<ds.length→okI ds i
def kq (ds:List Dc):Prop:=ds.length≤64∧(∀ d∈ds,d.2.size≤2048)∧dsz ds≤16384
open Classical in
noncomputable def n9 (ds:List Dc):Int:=if jZ ds then (if kq ds then 0 else 2) else 1
theorem HD {ds:List Dc} (h:jZ ds) (k:kq ds):n9 ds=0:=by unfold n9;rw [if_pos h,if_pos k]
theorem HC {ds:List Dc} (h:¬ jZ ds):n9 ds=1:=by unfold n9;rw [if_neg h]
theorem HB {ds:List Dc} (h:jZ ds) (k:¬ kq ds):n9 ds=2:=by unfold n9;rw [if_pos h,if_neg k]
theorem jZ.lt {ds:List Dc} (h:jZ ds):∀ {i j:Nat},i<j→j<ds.length→sLt (ds.getD i dd).1 (ds.getD j dd).1
 |i,j+1,hij,hj=>by
  have h1:=(h (j+1) hj).2.2 (by omega);rw [show j+1-1=j by omega] at h1;rcases Nat.eq_or_lt_of_le (Nat.le_of_lt_succ hij) with e | e
  ·subst e;exact h1
  ·exact dQ (h.lt e (by omega)) h1
theorem jO {ds:List Dc} {i:Nat} (h:i<ds.length):dsz (ds.take (i+1))=dsz (ds.take i)+(ds.getD i dd).2.size:=by
 rw [List.take_succ_eq_append_getElem h,n5,bZ h];simp [dsz]
theorem ye {ds:List Dc} (i:Nat):dsz (ds.take i)≤dsz ds:=by
 have:=n5 (ds.take i) (ds.drop i);rw [List.take_append_drop] at this;omega
def syT (s:ByteArray) (k i:Nat):Int:=if i<k then (((txt s).getD i 0:Nat):Int) else 0
theorem Fg {s:ByteArray} {k i:Nat}:upd (syT s k) k (((txt s).getD k 0:Nat):Int) i=syT s (k+1) i:=by
 unfold upd syT;split
 ·rename_i e;subst e;rw [if_pos (by omega)]
 ·rename_i e;by_cases h:i<k
  ·rw [if_pos h,if_pos (by omega)]
  ·rw [if_neg h,if_neg (by omega)]
theorem Ck {s:ByteArray} (i:Nat):(0:Int)=syT s 0 i:=rfl
theorem ze {w:World} {g:Nat} {s:ByteArray} (h:Blk w g 3 (ku s.size (syT s s.size))):bA iV w (some ⟨g,0,none⟩) (cI (txt s)):=fun _=>⟨g,0,rfl,fun i hi=>by
 have hi2:i<s.size:=by rw [cI,List.length_map,eo] at hi;exact hi
 have e:(cI (txt s))[i]=syT s s.size i:=by
  unfold syT;rw [if_pos hi2,List.getD_eq_getElem?_getD,List.getElem?_eq_getElem (by rw [eo];exact hi2)];simp [cI]
 rw [e,Nat.zero_add];exact h.rd i (qe hi2)⟩
theorem zc (s:ByteArray) (w:World) (hs:s.size≤1000000) :
 Rt prog 61 [.string s] w (fun v w'=>(∃ g,v=.slice (some ⟨g,0,none⟩) s.size s.size∧w.heap.size≤g∧Blk w' g 3 (ku s.size (syT s s.size)))∧aj w w'):=by
 refine enter (n:=23) Tryz.func61 rfl rfl rfl (af (aa (ass rfl (ah (ab (af (aa (mvg rfl (ae (dR (by kernel_rfl) rfl) (gi dL rfl rfl rfl (by omega) (by omega) ?_))))))))));intro b7 w1 E7 hb7 hk7;have hg7:w.heap.size≤b7:=by rw [hb7];exact (aj.rfl_).size
 refine ass rfl (ah (ab (af (af (aa (mvg rfl (ae (dR (by kernel_rfl) rfl) (mvi rfl (ah (ab (aw (a_ (G:=Nat) [4,11,12,13,14,15,16,17,18,19,20,21] (fun k=>[(10,.int .i64 (k:Nat))]) (fun k w'=>k≤s.size∧Blk w' b7 3 (ku s.size (syT s k))∧aj w w') (fun k=>s.size-k) (0) ⟨rfl,trivial⟩ ?_ ?_))))))))))))
 ·exact ⟨Nat.zero_le _,by rw [←qF (fun i _=>Ck i),←sZ];exact hk7,(aj.rfl_.next E7)⟩
 rintro k ρ2 w2 ⟨hk,hT9,hB⟩;refine af (aa (ae (aW rfl rfl) (ah (ab (af (JV rfl (fun Q3=>?_) (fun Q3=>?_)))))))
 ·obtain ⟨u,hu,htu,_⟩:=HU (s:=s) (i:=k) (by omega);have hub:=u.toNat_lt;refine av (ab (af (aw (af (aa (mvi rfl (asi rfl (ah (ab (aa (mvs rfl (mvi rfl (mvg rfl (mvi rfl (ae (AP (by kernel_rfl) rfl rfl (by omega) hu) ?_)))))))))))))));refine ae (ef xd eK rfl (by omega)) (ae (aG (b:=1) rfl rfl (by omega)) (dh (t:=19) (v:=.int _ _) (v':=.int .i64 (((txt s).getD k 0:Nat):Int)) rfl (by rw [htu]) ?_));refine ae (aX bJ rfl rfl (by omega)) (bH (v:=.int _ _) b_ rfl rfl rfl ((hT9.from_ aj.rfl_)) (by rw [jv];omega) ?_);intro w4 O5 P5;refine ah (aI (ab (aa (ae (aG (b:=1) rfl rfl (by omega)) (mvi rfl (ah ?_))))));refine aO (k+1) ⟨(by first | rfl | (refine aK ?_;omega)),trivial⟩ (by (iterate 27 refine aB rfl ?_);exact aJ) ⟨?_,?_⟩
  ·exact ⟨by omega,by have h9:=P5;rw [Nat.zero_add] at h9;rw [←qF (fun i _=>Fg),←vp];exact h9,(hB.only O5 (hg7))⟩
  ·show s.size-(k+1)<s.size-k;omega
 refine bc (aC (aC (aS (ab (af (aa (mvs rfl (ass rfl (ah (ab (ay (bE (v:=.slice _ _ _) rfl rfl ?_))))))))))));obtain rfl:k=s.size:=by omega
 exact ⟨⟨b7,rfl,hg7,hT9⟩,hB⟩
theorem xO (A:Option Addr) (c n:Nat) (ds:List Dc) (w:World) (hr:dg 2 dV w A ds) (hn:n=ds.length) (hl:n≤100000000) :
 Rt prog 59 [.slice A n c] w (fun v w'=>(∃ b:Bool,v=.bool b∧(b=true↔jZ ds))∧aj w w'):=by
 refine enter (n:=38) Tryz.func59 rfl rfl rfl (af (aa (asb rfl (ah (ab (af (af (aa (mvs rfl (ae (aQ bG rfl) (mvi rfl (ah (ab (aw (a_ (G:=Nat) [2,3,4,8,9,10,11,12,13,14,15,16,17,18,19,20,21,22,23,24,25,26,27,28,29,30,31,32,33,34,35,36,37] (fun i=>[(7,.int .i64 (i:Nat))]) (fun i w'=>i≤ds.length∧(∀ x,x<i→okI ds x)∧aj w w') (fun i=>ds.length-i) (0) ⟨rfl,trivial⟩ ?_ ?_)))))))))))))))
 ·exact ⟨Nat.zero_le _,fun x h=>absurd h (by omega),aj.rfl_⟩
 rintro i ρ1 w1 ⟨hi,hok,hB⟩;refine af (aa (ae (aW rfl rfl) (ah (ab (af (JV rfl (fun Q2=>?_) (fun Q2=>?_)))))))
 ·obtain ⟨bd,od,rfl,hcd⟩:=hr (by omega);have hil:i<ds.length:=by omega
  have hce:=hcd i hil;obtain ⟨d,hd⟩:∃ d,ds[i]=d:=⟨_,rfl⟩;have hdi:ds.getD i dd=d:=by rw [bZ hil,hd]
  rw [hd] at hce
  have hcp:0<i→w.cell? ⟨bd,od+(i-1)*2+0,none⟩=some (.string (ds.getD (i-1) dd).1):=fun h=>by
   have h2:=hcd (i-1) (by omega);rw [←bZ (show i-1<ds.length by omega)] at h2;exact h2 0 _ rfl
  refine av (ab (af (aw (af (aa (mvi rfl (ae (aM aT rfl rfl (by omega)) (ae (bn (cs:=[_,_]) bK bh rfl (by exact du hB hce)) ?_))))))));refine dI jB ?_;intro b4 w3 E4 hb4 hk4;have hg4:w.heap.size≤b4:=by rw [hb4];exact (hB).size
  refine asi rfl (fR (vs:=[_,_]) bh rfl rfl (by simp [Value.oneCell']) (hk4) rfl ?_);intro w4 O3 P3;replace P3:Blk w4 b4 37 #[.string (ds.getD i dd).1,.string (ds.getD i dd).2]:=by rw [hdi];exact P3
  refine ah (ab (af ?_));have hsp:(ds.getD i dd).1.size<1∨(1≤(ds.getD i dd).1.size∧64<(ds.getD i dd).1.size)∨(1≤(ds.getD i dd).1.size∧(ds.getD i dd).1.size≤64∧i=0)∨(1≤(ds.getD i dd).1.size∧(ds.getD i dd).1.size≤64∧0<i):=by omega
  rcases hsp with hc1 | ⟨hc1,hc2⟩ | ⟨hc1,hc2,hc3⟩ | ⟨hc1,hc2,hc3⟩
  ·apply bS 25 [(12,eqp _),(13,eqp (.string (ds.getD i dd).1)),(14,eqp _),(15,eqp _),(16,eqp _),(17,eqp _),(18,eqp _),(19,eqp _),(20,eqp _),(21,eqp _),(22,eqp _),(23,eqp _),(24,eqp _),(25,eqp _),(26,eqp _),(27,eqp _),(28,eqp _),(29,eqp _),(30,eqp _),(31,eqp _),(32,eqp _),(33,eqp _),(34,eqp _),(35,eqp _),(36,eqp _)] (by repeat first | exact cy | refine cm ?_ | refine bO ?_) (by kernel_rfl) (by kernel_rfl) ⟨ag _,ag _,ag _,ag _,ag _,ag _,ag _,ag _,ag _,ag _,ag _,ag _,ag _,ag _,ag _,ag _,ag _,ag _,ag _,ag _,ag _,ag _,ag _,ag _,ag _,trivial⟩
   case hop=>
    constructor
    ·rintro-w6 D6;exact ai (ak bq rfl) rfl
    constructor
    ·rintro-w7 D7;rintro _ rfl;exact ai (an (v:=.string (ds.getD i dd).1) bC rfl ((P3.from_ D7).rd 0 rfl)) rfl
    constructor
    ·rintro-w8 D8;rintro v8_13 rfl;exact ai (dR (by kernel_rfl) rfl) rfl
    constructor
    ·rintro-w9 D9;rintro _ rfl;exact ai (jE (aW rfl rfl) (decide_eq_true (by omega))) rfl
    constructor
    ·rintro-w10 D10;rintro _ rfl;exact ai (aq (v:=.bool _) rfl) rfl
    constructor
    ·rintro-w11 D11;rintro _ rfl;exact bI rfl rfl rfl
    constructor
    ·rintro-w12 D12;rintro _ rfl _ rfl;exact bI rfl rfl rfl
    constructor
    ·rintro-w13 D13;rintro _ rfl _ rfl;exact bI rfl rfl rfl
    constructor
    ·rintro-w14 D14;rintro _ rfl _ rfl;exact bI rfl rfl rfl
    constructor
    ·rintro-w15 D15;rintro _ rfl _ rfl;exact ai (bB (v:=.bool _) rfl rfl) rfl
    constructor
    ·rintro-w16 D16;rintro _ rfl;exact ai (aq (v:=.bool _) rfl) rfl
    constructor
    ·rintro-w17 D17;rintro _ rfl;exact bI rfl rfl rfl
    constructor
    ·rintro-w18 D18;rintro _ rfl _ rfl;exact bI rfl rfl rfl
    constructor
    ·rintro-w19 D19;rintro _ rfl _ rfl;exact bI rfl rfl rfl
    constructor
    ·rintro-w20 D20;rintro _ rfl;exact c0 rfl rfl
    constructor
    ·rintro-w21 D21;rintro _ rfl;exact c0 rfl rfl
    constructor
    ·rintro-w22 D22;rintro _ rfl _ rfl;exact c0 rfl rfl
    constructor
    ·rintro-w23 D23;rintro _ rfl _ rfl _ rfl;exact c0 rfl rfl
    constructor
    ·rintro-w24 D24;rintro _ rfl _ rfl;exact c0 rfl rfl
    constructor
    ·rintro-w25 D25;rintro _ rfl _ rfl;exact c0 rfl rfl
    constructor
    ·rintro-w26 D26;rintro _ rfl;exact c0 rfl rfl
    constructor
    ·rintro-w27 D27;rintro _ rfl _ rfl;exact c0 rfl rfl
    constructor
    ·rintro-w28 D28;rintro _ rfl _ rfl _ rfl;exact c0 rfl rfl
    constructor
    ·rintro-w29 D29;rintro _ rfl _ rfl _ rfl;exact bI rfl rfl rfl
    constructor
    ·rintro-w30 D30;rintro _ rfl _ rfl;exact ai (bB (v:=.bool _) rfl rfl) rfl
    exact trivial
   case hend=>
    intro w31 D31;rintro _ rfl v13 rfl _ rfl _ rfl _ rfl _ rfl _ rfl _ rfl _ rfl _ rfl _ rfl _ rfl _ rfl _ rfl _ rfl _ rfl _ rfl _ rfl _ rfl _ rfl _ rfl _ rfl _ rfl _ rfl _ rfl;show St ..;refine ah (ab (cW rfl (af (aa (asb rfl (ah (ab (ay (bj (aD (aD (bj (aD (bE (v:=.bool _) rfl rfl (⟨⟨false,rfl,fun h=>(by cases h),fun h=>?_⟩,(((hB.next E4).only O3 (hg4)).next D31)⟩)))))))))))))));obtain ⟨x1,x2,x3⟩:=h i hil;exfalso
    first
     |omega
     |exact hnl (x3 (by omega))
  ·apply bS 25 [(12,eqp _),(13,eqp (.string (ds.getD i dd).1)),(14,eqp _),(15,eqp _),(16,eqp _),(17,eqp _),(18,eqp (.string (ds.getD i dd).1)),(19,eqp _),(20,eqp _),(21,eqp _),(22,eqp _),(23,eqp _),(24,eqp _),(25,eqp _),(26,eqp _),(27,eqp _),(28,eqp _),(29,eqp _),(30,eqp _),(31,eqp _),(32,eqp _),(33,eqp _),(34,eqp _),(35,eqp _),(36,eqp _)] (by repeat first | exact cy | refine cm ?_ | refine bO ?_) (by kernel_rfl) (by kernel_rfl) ⟨ag _,ag _,ag _,ag _,ag _,ag _,ag _,ag _,ag _,ag _,ag _,ag _,ag _,ag _,ag _,ag _,ag _,ag _,ag _,ag _,ag _,ag _,ag _,ag _,ag _,trivial⟩
   case hop=>
    constructor
    ·rintro-w33 D33;exact ai (ak bq rfl) rfl
    constructor
    ·rintro-w34 D34;rintro _ rfl;exact ai (an (v:=.string (ds.getD i dd).1) bC rfl ((P3.from_ D34).rd 0 rfl)) rfl
    constructor
    ·rintro-w35 D35;rintro v35_13 rfl;exact ai (dR (by kernel_rfl) rfl) rfl
    constructor
    ·rintro-w36 D36;rintro _ rfl;exact ai (dS (aW rfl rfl) (decide_eq_false (by omega))) rfl
    constructor
    ·rintro-w37 D37;rintro _ rfl;exact ai (aq (v:=.bool _) rfl) rfl
    constructor
    ·rintro-w38 D38;rintro _ rfl;exact aP rfl (ak bq rfl) rfl
    constructor
    ·rintro-w39 D39;rintro _ rfl _ rfl;exact aP rfl (an (v:=.string (ds.getD i dd).1) bC rfl ((P3.from_ D39).rd 0 rfl)) rfl
    constructor
    ·rintro-w40 D40;rintro _ rfl v40_18 rfl;exact aP rfl (dR (by kernel_rfl) rfl) rfl
    constructor
    ·rintro-w41 D41;rintro _ rfl _ rfl;exact aP rfl (jE (cL rfl rfl) (decide_eq_true (by omega))) rfl
    constructor
    ·rintro-w42 D42;rintro _ rfl _ rfl;exact ai (bk (v:=.bool _) rfl rfl) rfl
    constructor
    ·rintro-w43 D43;rintro _ rfl;exact ai (aq (v:=.bool _) rfl) rfl
    constructor
    ·rintro-w44 D44;rintro _ rfl;exact bI rfl rfl rfl
    constructor
    ·rintro-w45 D45;rintro _ rfl _ rfl;exact bI rfl rfl rfl
    constructor
    ·rintro-w46 D46;rintro _ rfl _ rfl;exact bI rfl rfl rfl
    constructor
    ·rintro-w47 D47;rintro _ rfl;exact c0 rfl rfl
    constructor
    ·rintro-w48 D48;rintro _ rfl;exact c0 rfl rfl
    constructor
    ·rintro-w49 D49;rintro _ rfl _ rfl;exact c0 rfl rfl
    constructor
    ·rintro-w50 D50;rintro _ rfl _ rfl _ rfl;exact c0 rfl rfl
    constructor
    ·rintro-w51 D51;rintro _ rfl _ rfl;exact c0 rfl rfl
    constructor
    ·rintro-w52 D52;rintro _ rfl _ rfl;exact c0 rfl rfl
    constructor
    ·rintro-w53 D53;rintro _ rfl;exact c0 rfl rfl
    constructor
    ·rintro-w54 D54;rintro _ rfl _ rfl;exact c0 rfl rfl
    constructor
    ·rintro-w55 D55;rintro _ rfl _ rfl _ rfl;exact c0 rfl rfl
    constructor
    ·rintro-w56 D56;rintro _ rfl _ rfl _ rfl;exact bI rfl rfl rfl
    constructor
    ·rintro-w57 D57;rintro _ rfl _ rfl;exact ai (bB (v:=.bool _) rfl rfl) rfl
    exact trivial
   case hend=>
    intro w58 D58;rintro _ rfl v13 rfl _ rfl _ rfl _ rfl _ rfl v18 rfl _ rfl _ rfl _ rfl _ rfl _ rfl _ rfl _ rfl _ rfl _ rfl _ rfl _ rfl _ rfl _ rfl _ rfl _ rfl _ rfl _ rfl _ rfl;show St ..;refine ah (ab (cW rfl (af (aa (asb rfl (ah (ab (ay (bj (aD (aD (bj (aD (bE (v:=.bool _) rfl rfl (⟨⟨false,rfl,fun h=>(by cases h),fun h=>?_⟩,(((hB.next E4).only O3 (hg4)).next D58)⟩)))))))))))))));obtain ⟨x1,x2,x3⟩:=h i hil;exfalso
    first
     |omega
     |exact hnl (x3 (by omega))
  ·apply bS 25 [(12,eqp _),(13,eqp (.string (ds.getD i dd).1)),(14,eqp _),(15,eqp _),(16,eqp _),(17,eqp _),(18,eqp (.string (ds.getD i dd).1)),(19,eqp _),(20,eqp _),(21,eqp _),(22,eqp _),(23,eqp _),(24,eqp _),(25,eqp _),(26,eqp _),(27,eqp _),(28,eqp _),(29,eqp _),(30,eqp _),(31,eqp _),(32,eqp _),(33,eqp _),(34,eqp _),(35,eqp _),(36,eqp _)] (by repeat first | exact cy | refine cm ?_ | refine bO ?_) (by kernel_rfl) (by kernel_rfl) ⟨ag _,ag _,ag _,ag _,ag _,ag _,ag _,ag _,ag _,ag _,ag _,ag _,ag _,ag _,ag _,ag _,ag _,ag _,ag _,ag _,ag _,ag _,ag _,ag _,ag _,trivial⟩
   case hop=>
    constructor
    ·rintro-w60 D60;exact ai (ak bq rfl) rfl
    constructor
    ·rintro-w61 D61;rintro _ rfl;exact ai (an (v:=.string (ds.getD i dd).1) bC rfl ((P3.from_ D61).rd 0 rfl)) rfl
    constructor
    ·rintro-w62 D62;rintro v62_13 rfl;exact ai (dR (by kernel_rfl) rfl) rfl
    constructor
    ·rintro-w63 D63;rintro _ rfl;exact ai (dS (aW rfl rfl) (decide_eq_false (by omega))) rfl
    constructor
    ·rintro-w64 D64;rintro _ rfl;exact ai (aq (v:=.bool _) rfl) rfl
    constructor
    ·rintro-w65 D65;rintro _ rfl;exact aP rfl (ak bq rfl) rfl
    constructor
    ·rintro-w66 D66;rintro _ rfl _ rfl;exact aP rfl (an (v:=.string (ds.getD i dd).1) bC rfl ((P3.from_ D66).rd 0 rfl)) rfl
    constructor
    ·rintro-w67 D67;rintro _ rfl v67_18 rfl;exact aP rfl (dR (by kernel_rfl) rfl) rfl
    constructor
    ·rintro-w68 D68;rintro _ rfl _ rfl;exact aP rfl (dS (cL rfl rfl) (decide_eq_false (by omega))) rfl
    constructor
    ·rintro-w69 D69;rintro _ rfl _ rfl;exact ai (bk (v:=.bool _) rfl rfl) rfl
    constructor
    ·rintro-w70 D70;rintro _ rfl;exact ai (aq (v:=.bool _) rfl) rfl
    constructor
    ·rintro-w71 D71;rintro _ rfl;exact aP rfl (aq (v:=.int _ _) rfl) rfl
    constructor
    ·rintro-w72 D72;rintro _ rfl _ rfl;exact aP rfl (dS (cL rfl rfl) (decide_eq_false (by omega))) rfl
    constructor
    ·rintro-w73 D73;rintro _ rfl _ rfl;exact aP rfl (aq (v:=.bool _) rfl) rfl
    constructor
    ·rintro-w74 D74;rintro _ rfl;exact bI rfl rfl rfl
    constructor
    ·rintro-w75 D75;rintro _ rfl;exact bI rfl rfl rfl
    constructor
    ·rintro-w76 D76;rintro _ rfl _ rfl;exact bI rfl rfl rfl
    constructor
    ·rintro-w77 D77;rintro _ rfl _ rfl _ rfl;exact bI rfl rfl rfl
    constructor
    ·rintro-w78 D78;rintro _ rfl _ rfl;exact bI rfl rfl rfl
    constructor
    ·rintro-w79 D79;rintro _ rfl _ rfl;exact bI rfl rfl rfl
    constructor
    ·rintro-w80 D80;rintro _ rfl;exact bI rfl rfl rfl
    constructor
    ·rintro-w81 D81;rintro _ rfl _ rfl;exact bI rfl rfl rfl
    constructor
    ·rintro-w82 D82;rintro _ rfl _ rfl _ rfl;exact bI rfl rfl rfl
    constructor
    ·rintro-w83 D83;rintro _ rfl _ rfl _ rfl;exact aP rfl (bk (v:=.bool _) rfl rfl) rfl
    constructor
    ·rintro-w84 D84;rintro _ rfl _ rfl;exact ai (bk (v:=.bool _) rfl rfl) rfl
    exact trivial
   case hend=>
    intro w85 D85;rintro _ rfl v13 rfl _ rfl _ rfl _ rfl _ rfl v18 rfl _ rfl _ rfl _ rfl _ rfl _ rfl _ rfl _ rfl _ rfl _ rfl _ rfl _ rfl _ rfl _ rfl _ rfl _ rfl _ rfl _ rfl _ rfl;show St ..;refine ah (ab (de rfl (av (aI (ab (aa (ae (aG (b:=1) rfl rfl (by omega)) (mvi rfl (ah ?_)))))))));refine aO (i+1) ⟨(by first | rfl | (refine aK ?_;omega)),trivial⟩ (by (iterate 67 refine aB rfl ?_);exact aJ) ⟨?_,?_⟩
    ·have hoi:okI ds i:=by first | exact ⟨by omega,by omega,fun h=>absurd h (by omega)⟩ | exact ⟨by omega,by omega,fun _=>hlt⟩
     exact ⟨by omega,fun x hx=>by
      rcases Nat.eq_or_lt_of_le (Nat.le_of_lt_succ hx) with e | e
      ·subst e;exact hoi
      ·exact hok x e,(((hB.next E4).only O3 (hg4)).next D85)⟩
    ·show ds.length-(i+1)<ds.length-i;omega
  apply bS 25 [(12,eqp _),(13,eqp (.string (ds.getD i dd).1)),(14,eqp _),(15,eqp _),(16,eqp _),(17,eqp _),(18,eqp (.string (ds.getD i dd).1)),(19,eqp _),(20,eqp _),(21,eqp _),(22,eqp _),(23,eqp _),(24,eqp _),(25,eqp _),(26,eqp _),(27,eqp _),(28,eqp _),(29,eqp _),(30,eqp _),(31,eqp (.string (ds.getD (i-1) dd).1)),(32,eqp _),(33,eqp (.string (ds.getD i dd).1)),(34,eqp _),(35,eqp _),(36,eqp _)] (by repeat first | exact cy | refine cm ?_ | refine bO ?_) (by kernel_rfl) (by kernel_rfl) ⟨ag _,ag _,ag _,ag _,ag _,ag _,ag _,ag _,ag _,ag _,ag _,ag _,ag _,ag _,ag _,ag _,ag _,ag _,ag _,ag _,ag _,ag _,ag _,ag _,ag _,trivial⟩
  case hop=>
   constructor
   ·rintro-w87 D87;exact ai (ak bq rfl) rfl
   constructor
   ·rintro-w88 D88;rintro _ rfl;exact ai (an (v:=.string (ds.getD i dd).1) bC rfl ((P3.from_ D88).rd 0 rfl)) rfl
   constructor
   ·rintro-w89 D89;rintro v89_13 rfl;exact ai (dR (by kernel_rfl) rfl) rfl
   constructor
   ·rintro-w90 D90;rintro _ rfl;exact ai (dS (aW rfl rfl) (decide_eq_false (by omega))) rfl
   constructor
   ·rintro-w91 D91;rintro _ rfl;exact ai (aq (v:=.bool _) rfl) rfl
   constructor
   ·rintro-w92 D92;rintro _ rfl;exact aP rfl (ak bq rfl) rfl
   constructor
   ·rintro-w93 D93;rintro _ rfl _ rfl;exact aP rfl (an (v:=.string (ds.getD i dd).1) bC rfl ((P3.from_ D93).rd 0 rfl)) rfl
   constructor
   ·rintro-w94 D94;rintro _ rfl v94_18 rfl;exact aP rfl (dR (by kernel_rfl) rfl) rfl
   constructor
   ·rintro-w95 D95;rintro _ rfl _ rfl;exact aP rfl (dS (cL rfl rfl) (decide_eq_false (by omega))) rfl
   constructor
   ·rintro-w96 D96;rintro _ rfl _ rfl;exact ai (bk (v:=.bool _) rfl rfl) rfl
   constructor
   ·rintro-w97 D97;rintro _ rfl;exact ai (aq (v:=.bool _) rfl) rfl
   constructor
   ·rintro-w98 D98;rintro _ rfl;exact aP rfl (aq (v:=.int _ _) rfl) rfl
   constructor
   ·rintro-w99 D99;rintro _ rfl _ rfl;exact aP rfl (jE (cL rfl rfl) (decide_eq_true (by omega))) rfl
   constructor
   ·rintro-w100 D100;rintro _ rfl _ rfl;exact aP rfl (aq (v:=.bool _) rfl) rfl
   constructor
   ·rintro-w101 D101;rintro _ rfl;exact aP rfl (aq (v:=.slice _ _ _) rfl) rfl
   constructor
   ·rintro-w102 D102;rintro _ rfl;exact aP rfl (aq (v:=.int _ _) rfl) rfl
   constructor
   ·rintro-w103 D103;rintro _ rfl _ rfl;exact aP rfl (bP (b:=1) rfl rfl (by omega)) rfl
   constructor
   ·rintro-w104 D104;rintro _ rfl _ rfl _ rfl;exact aP rfl (aM aT rfl rfl (by omega)) rfl
   constructor
   ·rintro-w105 D105;rintro _ rfl _ rfl;exact aP rfl (ak bq rfl) rfl
   constructor
   ·rintro-w106 D106;rintro _ rfl _ rfl;exact aP rfl (an (v:=.string (ds.getD (i-1) dd).1) bC rfl (bx (((hB.next E4).only O3 (hg4)).next D106) (hcp (by omega)))) rfl
   constructor
   ·rintro-w107 D107;rintro _ rfl;exact aP rfl (ak bq rfl) rfl
   constructor
   ·rintro-w108 D108;rintro _ rfl _ rfl;exact aP rfl (an (v:=.string (ds.getD i dd).1) bC rfl ((P3.from_ D108).rd 0 rfl)) rfl
   constructor
   ·rintro-w109 D109;rintro _ rfl v109_31 rfl v109_33 rfl;exact aP rfl (zr rfl rfl) rfl
   constructor
   ·rintro-w110 D110;rintro _ rfl _ rfl _ rfl;exact aP rfl (bB (v:=.bool _) rfl rfl) rfl
   constructor
   ·rintro-w111 D111;rintro _ rfl _ rfl;exact ai (bk (v:=.bool _) rfl rfl) rfl
   exact trivial
  case hend=>
   intro w112 D112;rintro _ rfl v13 rfl _ rfl _ rfl _ rfl _ rfl v18 rfl _ rfl _ rfl _ rfl _ rfl _ rfl _ rfl _ rfl _ rfl _ rfl _ rfl _ rfl _ rfl v31 rfl _ rfl v33 rfl _ rfl _ rfl _ rfl;show St ..;refine ah (ab (JT rfl (fun Q113=>?_) (fun Q113=>?_)))
   ·have hnl:¬ sLt (ds.getD (i-1) dd).1 (ds.getD i dd).1:=fun h=>by
     have h9:=(mq _ _).2 h
     simp_all
    refine af (aa (asb rfl (ah (ab (ay (bj (aD (aD (bj (aD (bE (v:=.bool _) rfl rfl (⟨⟨false,rfl,fun h=>(by cases h),fun h=>?_⟩,(((hB.next E4).only O3 (hg4)).next D112)⟩))))))))))));obtain ⟨x1,x2,x3⟩:=h i hil;exfalso
    first
     |omega
     |exact hnl (x3 (by omega))
   have hlt:sLt (ds.getD (i-1) dd).1 (ds.getD i dd).1:=(mq _ _).1 (by simpa using Q113);refine av (aI (ab (aa (ae (aG (b:=1) rfl rfl (by omega)) (mvi rfl (ah ?_))))));refine aO (i+1) ⟨(by first | rfl | (refine aK ?_;omega)),trivial⟩ (by (iterate 67 refine aB rfl ?_);exact aJ) ⟨?_,?_⟩
   ·have hoi:okI ds i:=by first | exact ⟨by omega,by omega,fun h=>absurd h (by omega)⟩ | exact ⟨by omega,by omega,fun _=>hlt⟩
    exact ⟨by omega,fun x hx=>by
     rcases Nat.eq_or_lt_of_le (Nat.le_of_lt_succ hx) with e | e
     ·subst e;exact hoi
     ·exact hok x e,(((hB.next E4).only O3 (hg4)).next D112)⟩
   ·show ds.length-(i+1)<ds.length-i;omega
 refine bc (aC (aC (aS (ab (af (aa (asb rfl (ah (ab (ay (bE (v:=.bool _) rfl rfl (⟨⟨true,rfl,fun _ x hx=>hok x (by omega),fun _=>rfl⟩,hB⟩))))))))))))
theorem Cc (A:Option Addr) (c n:Nat) (ds:List Dc) (w:World) (hr:dg 2 dV w A ds) (hn:n=ds.length) (hl:n≤100000000) :
 Rt prog 60 [.slice A n c] w (fun v w'=>(∃ (m:Nat) (b:Bool),v=.tuple #[.int .i64 (m:Nat),.bool b]∧(b=true↔kq ds)∧(b=true→m=dsz ds))∧aj w w'):=by
 refine enter (n:=28) Tryz.func60 rfl rfl rfl (af (aa (asi rfl (asb rfl (ah (ab (af (af (aa (mvs rfl (ae (aQ bG rfl) (ae (cL rfl rfl) (ah (ab ?_))))))))))))));refine JV rfl (fun Q1=>?_) (fun Q1=>?_)
 ·refine af (aa (asi rfl (asb rfl (ah (ab (ay (aD (cV (v:=.int _ _) (v':=.bool _) rfl rfl rfl (⟨⟨0,false,rfl,⟨fun h=>(by cases h),fun h=>?_⟩,fun h=>(by cases h)⟩,aj.rfl_⟩)))))))));have:=h.1;omega
 refine av (ab (af (af (aa (mvs rfl (ae (aQ bG rfl) (mvi rfl (ah (ab (aw (a_ (G:=Nat) [3,5,12,13,14,15,16,17,18,19,20,21,22,23,24] (fun i=>[(2,.int .i64 (dsz (ds.take i):Nat)),(11,.int .i64 (i:Nat))]) (fun i w'=>i≤ds.length∧(∀ x,x<i→(ds.getD x dd).2.size≤2048)∧dsz (ds.take i)≤i*2048∧aj w w') (fun i=>ds.length-i) (0) ⟨rfl,rfl,trivial⟩ ?_ ?_)))))))))))
 ·exact ⟨Nat.zero_le _,fun x h=>absurd h (by omega),by simp [dsz],aj.rfl_⟩
 rintro i ρ2 w2 ⟨hi,hok,hdz,hB⟩;refine af (aa (ae (aW rfl rfl) (ah (ab (af (JV rfl (fun Q3=>?_) (fun Q3=>?_)))))))
 ·obtain ⟨bd,od,rfl,hcd⟩:=hr (by omega);have hil:i<ds.length:=by omega
  have hce:=hcd i hil;obtain ⟨d,hd⟩:∃ d,ds[i]=d:=⟨_,rfl⟩;have hdi:ds.getD i dd=d:=by rw [bZ hil,hd]
  rw [hd] at hce;refine av (ab (af (aw (af (aa (ae (aM aT rfl rfl (by omega)) (ae (bn (cs:=[_,_]) bK bh rfl (by exact du hB hce)) ?_)))))));refine dI jB ?_;intro b5 w4 E5 hb5 hk5;have hg5:w.heap.size≤b5:=by rw [hb5];exact (hB).size
  refine fR (vs:=[_,_]) bh rfl rfl (by simp [Value.oneCell']) (hk5) rfl ?_;intro w5 O5 P5;refine ah (ab (af (af (aa (ae (ak df rfl) (ae (an bC rfl (by exact (P5.from_ aj.rfl_).rd 1 rfl)) ?_))))));refine ae (dR (by kernel_rfl) rfl) (ae (cL rfl rfl) (ah (ab (JV rfl (fun Q6=>?_) (fun Q6=>?_)))))
  ·refine af (aa (asi rfl (asb rfl (ah (ab (ay (aD (bj (aD (aD (bj (aD (cV (v:=.int _ _) (v':=.bool _) rfl rfl rfl (⟨⟨0,false,rfl,⟨fun h=>(by cases h),fun h=>?_⟩,fun h=>(by cases h)⟩,((hB.next E5).only O5 (hg5))⟩))))))))))))));have h2:=h.2.1 d (by rw [←hd];exact List.getElem_mem hil);omega
  refine av (ab (aa (mvi rfl (ae (ak df rfl) (ae (an bC rfl (by exact (P5.from_ aj.rfl_).rd 1 rfl)) ?_)))));refine ae (dR (by kernel_rfl) rfl) (ae (aG rfl rfl (by omega)) (asi rfl (ah (aI (ab (aa (ae (aG (b:=1) rfl rfl (by omega)) (mvi rfl (ah ?_)))))))));refine aO (i+1) ⟨(aK (by rw [jO hil,hdi])),rfl,trivial⟩ (by (iterate 33 refine aB rfl ?_);exact aJ) ⟨?_,?_⟩
  ·exact ⟨by omega,fun x hx=>by
    rcases Nat.eq_or_lt_of_le (Nat.le_of_lt_succ hx) with e | e
    ·subst e;rw [hdi];omega
    ·exact hok x e,by rw [jO hil,hdi];omega,((hB.next E5).only O5 (hg5))⟩
  ·show ds.length-(i+1)<ds.length-i;omega
 refine bc (aC (aC (aS (ab (af (aa (mvi rfl (mvi rfl (ae (qU rfl rfl) (asi rfl (asb rfl (ah (ab (ay (cV (v:=.int _ _) (v':=.bool _) rfl rfl rfl ?_)))))))))))))));obtain rfl:i=ds.length:=by omega
 rw [List.take_length] at hdz ⊢;refine ⟨⟨dsz ds,_,rfl,?_,fun _=>rfl⟩,hB⟩;rw [decide_eq_true_iff];refine ⟨fun h=>⟨by omega,fun d hd=>?_,by omega⟩,fun h=>by have:=h.2.2;omega⟩;obtain ⟨x,hx,rfl⟩:=List.getElem_of_mem hd;have:=hok x hx
 rwa [bZ hx] at this
theorem fL (A:Option Addr) (c n:Nat) (xs:List Value) (w:World) (hx:xs.length=n*2) (hr:0<n→∃ b o,A=some ⟨b,o,none⟩∧w.rangeAt b o xs) (hn0:A=none→n=0∧c=0) (h1:∀ u∈xs,u.oneCell'=true) (hl:n≤100000000000) :
 Rt prog 56 [.slice A n c] w (fun v w'=>(∃ A' c',v=.slice A' n c'∧w'.ownsRow w.heap.size 37 2 (.slice A' n c') n xs)∧aj w w'):=by
 refine enter (n:=8) Tryz.func56 rfl rfl rfl (af (aa (ass rfl (ah (ab (af (af (aa (mvs rfl (ae (nb uX rfl rfl) (ah (ab (au rfl (fun Q1=>?_) (fun Q1=>?_))))))))))))))
 ·(try first | (replace Q1 := fm Q1; trace "@MK N fL:c4+ 1.1") | (replace Q1 := fo Q1; trace "@MK N fL:c4+ 1.2"))
  (try first | (replace Q1 := eH Q1; trace "@MK N fL:c4+ 2.1") | (replace Q1 := eI Q1; trace "@MK N fL:c4+ 2.2") | (replace Q1 := fX Q1; trace "@MK N fL:c4+ 2.3") | (replace Q1 := fY Q1; trace "@MK N fL:c4+ 2.4") | (replace Q1 := dT_ Q1; trace "@MK N fL:c4+ 2.5") | (replace Q1 := dF_ Q1; trace "@MK N fL:c4+ 2.6"))
  obtain rfl:A=none:=Option.isNone_iff_eq_none.1 Q1;obtain ⟨rfl,rfl⟩:=hn0 rfl;obtain rfl:xs=[]:=List.eq_nil_of_length_eq_zero (by omega);refine af (aa (ass rfl (ah (ab (ay (aD (bE (v:=.slice _ _ _) rfl rfl (⟨⟨none,0,rfl,World.ownsRow_nil _ _ _ _⟩,aj.rfl_⟩))))))))
 (try first | (replace Q1 := fm Q1; trace "@MK N fL:c4- 1.1") | (replace Q1 := fo Q1; trace "@MK N fL:c4- 1.2"))
 (try first | (replace Q1 := eH Q1; trace "@MK N fL:c4- 2.1") | (replace Q1 := eI Q1; trace "@MK N fL:c4- 2.2") | (replace Q1 := fX Q1; trace "@MK N fL:c4- 2.3") | (replace Q1 := fY Q1; trace "@MK N fL:c4- 2.4") | (replace Q1 := dT_ Q1; trace "@MK N fL:c4- 2.5") | (replace Q1 := dF_ Q1; trace "@MK N fL:c4- 2.6"))
 have hA4:A=none→c=0:=fun h=>by rw [h] at Q1;cases Q1
 refine av (ab (af (aa (tE fv _ (aj.rfl_.size) ?_))));intro b5 w2 E5 hb5 ho5;refine mvs rfl ?_;refine mo (a0:=w) fv rfl (by decide) rfl ho5 (aj.rfl_.next E5) rfl hx (fun h=>(let ⟨b,o,hA,hc⟩:=hr h;⟨b,o,hA,du (aj.rfl_.next E5) hc⟩)) hA4 h1 (by omega) (by omega) ?_;intro A7 c7 w3 ho7 B7 hg7;refine ass rfl (ah (ab (ay (bE (v:=.slice _ _ _) rfl rfl (⟨⟨A7,c7,by rw [Nat.zero_add],by simpa using ho7⟩,B7⟩)))))
theorem ur (A:Option Addr) (c n:Nat) (ds:List Dc) (w:World) (hr:dg 2 dV w A ds) (hn:n=ds.length) (hn0:A=none→n=0∧c=0) (hl:n≤100000000):Rt prog 56 [.slice A n c] w fun v w'=>(∃ A' c',v=.slice A' n c'∧w'.ownsRow w.heap.size 37 2 (.slice A' n c') n (ds.flatMap dV))∧aj w w':=
 fL A c n (ds.flatMap dV) w (by rw [eW bz,hn]) (fun h=>hr.flat bz (by omega)) hn0 (rM ds) (by omega)
theorem rO (a b:ByteArray) (w:World):Rt prog 46 [.string a,.string b] w fun v w'=>v=.int .i64 (iW a b)∧w=w':=
 Calls.mono (Tryz.strings_Compare a b w) fun e w' h=>⟨_,h.1,by unfold iW;rw [Lib.toList_data,Lib.toList_data],h.2.symm⟩
theorem tl (a b id:ByteArray) (w:World) :
 Rt prog 135 [.agg #[.string a,.string b],.string id] w (fun v w'=>v=.int .i64 (iW a id)∧aj w w'):=by
 refine enter (n:=9) Tryz.func135 rfl rfl rfl (af (aa (cK (v:=.agg _) rfl ?_)));intro b2 w1 E2 hb2 hk2;refine asi rfl (ah (ab (af (aa (ae (ak bq rfl) (ae (an bC rfl (by exact hk2.rd 0 rfl)) ?_))))));refine mvg rfl (aF ik (rO a id _) ?_);rintro v8 w2 ⟨rfl,rfl⟩;refine asi rfl (ah (ab (ay (bE (v:=.int _ _) rfl rfl (⟨rfl,(aj.rfl_.next E2)⟩)))))
theorem uf (A:Option Addr) (c n:Nat) (ds:List Dc) (w:World) (hr:dg 2 dV w A ds) (hn:n=ds.length) (hl:n≤100000000) (id:ByteArray) (hO:jZ ds) :
 Rt prog 64 [.slice A n c,.string id,.func (.func 135) #[] #[]] w (fun v w'=>(∃ (i:Nat) (fd:Bool),v=.tuple #[.int .i64 (i:Nat),.bool fd]∧i≤n∧(∀ x,x<i→sLt (ds.getD x dd).1 id)∧(∀ x,i≤x→x<n→¬ sLt (ds.getD x dd).1 id)∧(fd=true↔i<n∧(ds.getD i dd).1=id))∧aj w w'):=by
 refine enter (n:=49) Tryz.func64 rfl rfl rfl (af (aa (asi rfl (asb rfl (ah (ab (af (aa (mvs rfl (ae (aQ bG rfl) (asi rfl (ah (ab (af (aa ?_)))))))))))))));refine mvi rfl (asi rfl (asi rfl (ah (ab (af (aw (a_ (G:=Nat×Nat) [11,15,16,17,18,19,20,21,22,23,24,25,26,27,28,29,30,31,32,33,34] (fun (i,j)=>[(9,.int .i64 (i:Nat)),(10,.int .i64 (j:Nat))]) (fun (i,j) w'=>i≤j∧j≤n∧(∀ x,x<i→sLt (ds.getD x dd).1 id)∧(∀ x,j≤x→x<n→¬ sLt (ds.getD x dd).1 id)∧aj w w') (fun (i,j)=>j-i) ((0,n)) ⟨rfl,rfl,trivial⟩ ?_ ?_)))))))
 ·exact ⟨Nat.zero_le _,Nat.le_refl _,fun x h=>absurd h (by omega),fun x h1 h2=>absurd h1 (by omega),aj.rfl_⟩
 rintro ⟨i,j⟩ ρ1 w1 ⟨hij,hjn,hlo,hhi,hB⟩;refine af (af (aa (mvi rfl (mvi rfl (ae (aW rfl rfl) (ah (ab (JV rfl (fun Q2=>?_) (fun Q2=>?_)))))))))
 ·obtain ⟨bd,od,rfl,hcd⟩:=hr (by omega);refine av (ab (aw (af (aa (mvi rfl (mvi rfl (ae (aG rfl rfl (by omega)) ?_)))))));obtain ⟨h,hh⟩:∃ h,h=(i+j)/2 ^ 1:=⟨_,rfl⟩;refine ae (fq dP fS rfl (by omega)) (ae (ep (b:=1) rfl rfl (by decide)) (ae (ef gQ eK rfl (by omega)) (dh (t:=23) (v:=.int _ _) (v':=.int .i64 (h:Nat)) rfl (by rw [hh]) ?_)));refine asi rfl (ah (ab (af (aa (ae (aq (v:=.func _ _ _) rfl) (mvs rfl (mvi rfl (ae (aM aT rfl rfl (by omega)) ?_))))))));refine ae (bn (cs:=[_,_]) bK bh rfl (by have h2:=hcd h (by omega);rw [←bZ (show h<ds.length by omega)] at h2;exact du hB h2)) ?_;refine mvg rfl (fh (caps:=[]) rfl mU (tl (ds.getD h dd).1 (ds.getD h dd).2 id _) ?_);rintro v3 w3 ⟨rfl,E30⟩;refine ae (aW rfl rfl) (ah (ab (JV rfl (fun Q4=>?_) (fun Q4=>?_))))
  ·have hlt:sLt (ds.getD h dd).1 id:=ka.1 (by omega);refine aa (mvi rfl (ae (aG (b:=1) rfl rfl (by omega)) (asi rfl (ah (aI ?_)))));refine aO ((h+1,j)) ⟨(by first | rfl | (refine aK ?_;omega)),(by first | rfl | (refine aK ?_;omega)),trivial⟩ (by (iterate 45 refine aB rfl ?_);exact aJ) ⟨?_,?_⟩
   ·exact ⟨by omega,hjn,fun x hx=>by
     rcases Nat.eq_or_lt_of_le (Nat.le_of_lt_succ hx) with e | e
     ·subst e;exact hlt
     ·exact dQ (hO.lt e (by omega)) hlt,hhi,(hB.next E30)⟩
   ·show j-(h+1)<j-i;omega
  have hnl:¬ sLt (ds.getD h dd).1 id:=fun h9=>by have:=ka.2 h9;omega
  refine aa (mvi rfl (asi rfl (ah (aI ?_))));refine aO ((i,h)) ⟨(by first | rfl | (refine aK ?_;omega)),(by first | rfl | (refine aK ?_;omega)),trivial⟩ (by (iterate 44 refine aB rfl ?_);exact aJ) ⟨?_,?_⟩
  ·exact ⟨by omega,by omega,hlo,fun x h1 h2=>by
    rcases Nat.eq_or_lt_of_le h1 with e | e
    ·subst e;exact hnl
    ·exact fun h9=>hnl (dQ (hO.lt e (by omega)) h9),(hB.next E30)⟩
  ·show h-i<j-i;omega
 refine bc (aC (aC (aS (ab (af (aa (mvi rfl (mvi rfl (mvi rfl (ae (aW rfl rfl) (mvb rfl (Jk (t:=39) rfl (fun Q5=>?_) (fun Q5=>?_)))))))))))))
 ·obtain ⟨bd,od,rfl,hcd⟩:=hr (by omega);refine ao rfl (ae (aq (v:=.func _ _ _) rfl) (ao rfl (mvs rfl (ao rfl (mvi rfl (ao rfl (ae (aM aT rfl rfl (by omega)) (ao rfl ?_))))))));refine ae (bn (cs:=[_,_]) bK bh rfl (by have h2:=hcd i (by omega);rw [←bZ (show i<ds.length by omega)] at h2;exact du hB h2)) ?_;refine ao rfl (mvg rfl (ao rfl (fh (caps:=[]) rfl mU (tl (ds.getD i dd).1 (ds.getD i dd).2 id _) ?_)));rintro v6 w6 ⟨rfl,E46⟩;refine ao rfl (ae (cx rfl rfl) (ae (bB (v:=.bool _) rfl rfl) (asi rfl (asb rfl (ah (ab (ay (cV (v:=.int _ _) (v':=.bool _) rfl rfl rfl ?_))))))));obtain rfl:i=j:=by omega
  refine ⟨⟨i,_,rfl,hjn,hlo,hhi,?_⟩,(hB.next E46)⟩
  first
   |(rw [beq_iff_eq,iO];exact ⟨fun h9=>⟨by omega,h9⟩,fun h9=>h9.2⟩)
   |(rw [decide_eq_true_iff,iO];exact ⟨fun h9=>⟨by omega,h9⟩,fun h9=>h9.2⟩)
   |exact ⟨fun h9=>(by cases h9),fun h9=>absurd h9.1 (by omega)⟩
 refine aL rfl rfl (aL rfl rfl (aL rfl rfl (aL rfl rfl (aL rfl rfl (aL rfl rfl (aL rfl rfl (aL rfl rfl (ae (bk (v:=.bool _) rfl rfl) ?_))))))));refine asi rfl (asb rfl (ah (ab (ay (cV (v:=.int _ _) (v':=.bool _) rfl rfl rfl ?_)))));obtain rfl:i=j:=by omega
 refine ⟨⟨i,_,rfl,hjn,hlo,hhi,?_⟩,hB⟩
 first
  |(rw [beq_iff_eq,iO];exact ⟨fun h9=>⟨by omega,h9⟩,fun h9=>h9.2⟩)
  |(rw [decide_eq_true_iff,iO];exact ⟨fun h9=>⟨by omega,h9⟩,fun h9=>h9.2⟩)
  |exact ⟨fun h9=>(by cases h9),fun h9=>absurd h9.1 (by omega)⟩
end Go.Proofs.YtcbakncjacnnjaaGreat
namespace Go.Proofs.YtcbakncjacnnjaaGreat
open Go.Proofs.Tryz (prog)
open Go.RowKit
open Go.ChangeShapes Go.WideShapes Go.ChangeAt
open Go.Proofs.YtcbakncjacnnjaaGreat.SA
theorem xh:az prog 59=true:=by kernel_rfl
theorem xg:az prog 60=true:=by kernel_rfl
theorem pS:az prog 61=true:=by kernel_rfl
theorem xf:az prog 62=true:=by kernel_rfl
theorem xe:az prog 63=true:=by kernel_rfl
theorem mi:az prog 56=true:=by kernel_rfl
theorem mj:∀ (a0:Option Addr) (a1:Option Addr) (a2 a3:Nat) (a4:Option Addr) (a5:Int),prog.built 103 [(0,.pointer a0),(1,.slice a1 a2 a3),(2,.pointer a4),(3,.int .i64 a5)]=some #[.pointer a0,.slice a1 a2 a3,.pointer a4,.int .i64 a5]:=by intros;kernel_rfl
theorem fO:cG prog 103 1=some 1:=by kernel_rfl
theorem cQ:fp prog 22=some false:=by kernel_rfl
theorem pR:az prog 64=true:=by kernel_rfl
theorem sn:cG prog 103 0=some 0:=by kernel_rfl
theorem uZ:az prog 102=true:=by kernel_rfl
theorem sk:cG prog 103 2=some 2:=by kernel_rfl
theorem xi:fp prog 96=some false:=by kernel_rfl
theorem uY:az prog 103=true:=by kernel_rfl
theorem qc:∀ (a0:ByteArray) (a1:Int),prog.built 57 [(0,.string a0),(1,.int .i64 a1)]=some #[.string a0,.int .i64 a1]:=by intros;kernel_rfl
theorem CP {w:World} {g:Nat} {l:List Int} (h:bA iV w (some ⟨g,0,none⟩) l):w.rangeAt g 0 (l.map iV):=fun j v hv=>by
 have hj:j<l.length:=by have:=(List.getElem?_eq_some_iff.1 hv).1;rwa [List.length_map] at this
 obtain ⟨b,o,e,hc⟩:=h (by omega);cases e;rw [hc j hj];rw [List.getElem?_map,List.getElem?_eq_getElem hj] at hv;exact hv
def lK (ds:List Dc):List Int:=ds.map fun d=>((d.2.size:Nat):Int)
theorem kF (ds:List Dc):(lK ds).length=ds.length:=List.length_map _
theorem Bh {ds:List Dc} {k:Nat} (h:k<ds.length):(lK (ds.take (k+1))).map iV=(lK (ds.take k)).map iV++[iV (((ds.getD k dd).2.size:Nat):Int)]:=by
 unfold lK;rw [List.take_succ_eq_append_getElem h,List.map_append,List.map_append,bZ h];rfl
theorem rn {ds:List Dc} {k:Nat} (h:k<(lK ds).length):(lK ds)[k]=(((ds.getD k dd).2.size:Nat):Int):=by
 have h2:k<ds.length:=by rwa [kF] at h
 rw [bZ h2];simp [lK]
theorem Av {ds:List Dc} {k:Nat} (h:k<ds.length):dA (ds.take (k+1))=dA (ds.take k)++txt (ds.getD k dd).2++[0]:=by
 rw [List.take_succ_eq_append_getElem h,vr,bZ h,List.append_assoc];rfl
theorem EC (a b:List Nat):cI (a++b)=cI a++cI b:=List.map_append ..
theorem qf {ds:List Dc}:∀ {k:Nat},k≤ds.length→Bd.st (lK ds) k=((dsz (ds.take k)+k:Nat):Int)
 |0,_=>by simp [Bd.st,dsz]
 |k+1,h=>by
  rw [Bd.st_succ (by rw [kF];omega),qf (Nat.le_of_succ_le h),rn,jO (by omega)];omega
theorem GB {ds:List Dc} (h:kq ds):Bd.Gd (lK ds):=by
 refine ⟨fun i hi=>by rw [rn];omega,by rw [kF];exact h.1,fun i hi=>?_⟩;have h2:i<ds.length:=by rwa [kF] at hi
 have h3:=jO h2;have h4:=ye (ds:=ds) (i+1);have h5:=h.2.2;have h6:=h.1;rw [rn,qf (by omega)];omega
theorem nZ:∀ {ds:List Dc} {x:Nat},x<(dA ds).length→(loc ds x).1<ds.length∧dsz (ds.take (loc ds x).1)+(loc ds x).1+(loc ds x).2=x∧(loc ds x).2≤(ds.getD (loc ds x).1 dd).2.size
 |[],x,h=>by cases h
 |d::ds,x,h=>by
  rw [dA,List.length_append,List.length_cons,eo] at h;unfold loc;by_cases hx:x≤d.2.size
  ·rw [if_pos hx];exact ⟨by simp,by simp [dsz],hx⟩
  ·rw [if_neg hx];obtain ⟨h1,h2,h3⟩:=nZ (ds:=ds) (x:=x-(d.2.size+1)) (by omega);refine ⟨by rw [List.length_cons];omega,?_,h3⟩;simp only [List.take_succ_cons,dsz];omega
theorem Iq {ds:List Dc} {x:Nat} (h:x<(dA ds).length):Bd.st (lK ds) (loc ds x).1≤(x:Int)∧(x:Int)<Bd.st (lK ds) ((loc ds x).1+1)∧(x:Int)-Bd.st (lK ds) (loc ds x).1=((loc ds x).2:Nat):=by
 obtain ⟨h1,h2,h3⟩:=nZ h;rw [qf (Nat.le_of_lt h1),qf h1,jO h1];omega
theorem Ey {ds:List Dc} (h:kq ds):iw 257 (cI (dA ds))=0:=by
 have hl:=lP ds;have h5:=h.2.2;have h6:=h.1;unfold iw;rw [if_neg (by omega),if_neg,if_neg (by rw [List.length_map];omega)];rw [List.any_eq_true];rintro ⟨x,hx,hb⟩;obtain ⟨y,hy,rfl⟩:=List.mem_map.1 hx;have:=zb ds y hy;have:=dT_ hb;omega
def ix (w:World) (base s:Nat) (ds:List Dc):Prop:=base≤s∧∃ (x bd a:Nat) (B F:List Nat) (A:Option Addr) (c:Nat),Blk w s 103 #[.pointer (some ⟨x,0,none⟩),.slice A ds.length c,.pointer (some ⟨bd,0,none⟩),.int .i64 ((dsz ds:Nat):Int)]∧
 kp w base x 257 a (dA ds) B F∧Bd.BAt w base bd (lK ds)∧w.ownsRow base 37 2 (.slice A ds.length c) ds.length (ds.flatMap dV)∧jZ ds∧kq ds
theorem ix.from_ {w w':World} {base s:Nat} {ds:List Dc} (h:ix w base s ds) (hF:aj w w'):ix w' base s ds:=by
 obtain ⟨h0,x,bd,a,B,F,A,c,h1,h2,h3,h4,h5⟩:=h;exact ⟨h0,x,bd,a,B,F,A,c,h1.from_ hF,h2.from_ hF,h3.from_ hF,h4.kept_from hF,h5⟩
theorem ix.grown {w w':World} {base s:Nat} {ds:List Dc} {r:Option Nat} (h:ix w base s ds) (hg:w.grownBy w' r) (hne:∀ q,r=some q→q<base):ix w' base s ds:=by
 obtain ⟨h0,x,bd,a,B,F,A,c,h1,h2,h3,h4,h5⟩:=h;exact ⟨h0,x,bd,a,B,F,A,c,h1.grown hg (fun q hq=>by have:=hne q hq;omega),h2.grown hg hne,h3.grown hg hne,lV h4 hg hne,h5⟩
theorem ix.docs {w:World} {base s:Nat} {ds:List Dc} (h:ix w base s ds):jZ ds∧kq ds:=by
 obtain ⟨h0,x,bd,a,B,F,A,c,h1,h2,h3,h4,h5⟩:=h;exact h5
def Kr (w':World) (base:Nat) (ds:List Dc) (v:Value):Prop:=(n9 ds≠0∧v=.tuple #[.pointer none,.int .i64 (n9 ds)])∨(n9 ds=0∧∃ s,v=.tuple #[.pointer (some ⟨s,0,none⟩),.int .i64 0]∧ix w' base s ds)
theorem I5 (A:Option Addr) (c n:Nat) (L:List Int) (w:World) (hr:bA iV w A L) (hG:Bd.Gd L) (hn:n=L.length):Rt prog 62 [.slice A n c] w fun v w'=>(∃ b,v=.tuple #[.pointer (some ⟨b,0,none⟩),.int .i64 0]∧Bd.BAt w' w.heap.size b L)∧aj w w':=by
 subst hn;have hl:=hG.len;refine (Bd.new_rt A c L w hr (fun x hx=>?_) (by omega)).mono fun v w' h=>?_
 ·obtain ⟨i,hi,rfl⟩:=List.getElem_of_mem hx;have h1:=hG.pos i hi;have h2:=hG.fit i hi;have h3:=hG.st (k:=i) (by omega);omega
 ·obtain ⟨h,hF⟩:=h;rcases h with ⟨hne,_⟩ | ⟨_,b,rfl,hb⟩
  ·exact absurd (Bd.lens0 hG) hne
  ·exact ⟨⟨b,rfl,hb⟩,hF⟩
theorem Eb (A:Option Addr) (c n:Nat) (ds:List Dc) (w:World) (hr:bA iV w A (cI (dA ds))) (hn:n=(dA ds).length) (h:kq ds):Rt prog 63 [.int .i64 257,.slice A n c] w fun v w'=>(∃ b a B F,v=.tuple #[.pointer (some ⟨b,0,none⟩),.int .i64 0]∧kp w' w.heap.size b 257 a (dA ds) B F)∧aj w w':=by
 have hl:=lP ds;have h5:=h.2.2;have h6:=h.1;refine (EG 257 A c n (cI (dA ds)) w hr (by rw [List.length_map];exact hn) (by omega)).mono fun v w' h7=>?_
 obtain ⟨h7,hF⟩:=h7;refine ⟨?_,hF⟩;rcases h7 with ⟨h8,_⟩ | ⟨_,K,b,a,L,B,F,hK,hL,_,hf,rfl⟩
 ·exact absurd (Ey h) h8
 ·obtain rfl:K=257:=by omega
  obtain rfl:=yo hL;exact ⟨b,a,B,F,rfl,hf⟩
theorem Aq (base b x:Nat) (ds:List Dc) (w:World) (hv:Bd.BAt w base b (lK ds)) (hx:x<(dA ds).length):Rt prog 103 [.pointer (some ⟨b,0,none⟩),.int .i64 (x:Nat)] w fun v w'=>v=.tuple #[.int .i64 ((loc ds x).1:Nat),.int .i64 ((loc ds x).2:Nat),.int .i64 0]∧aj w w':=by
 obtain ⟨h1,h2,h3⟩:=Iq hx;have:=Bd.where_is base b (lK ds) w hv x (loc ds x).1 (by rw [kF];exact (nZ hx).1) h1 h2;rw [h3] at this;exact this
theorem Dp (A:Option Addr) (c n:Nat) (ds:List Dc) (w:World) (hr:dg 2 dV w A ds) (hn:n=ds.length) (hl:n≤100000000) (hn0:A=none→n=0∧c=0) :
 Rt prog 31 [.slice A n c] w (fun v w'=>Kr w' w.heap.size ds v∧aj w w'):=by
 refine enter (n:=74) Tryz.func31 rfl rfl rfl (af (aa (asp rfl (asi rfl (ah (ab (af (af (aa (mvs rfl (aF xh (xO A c n ds _ (hr.from_ aj.rfl_) hn hl) ?_)))))))))));rintro v14 w1 ⟨⟨b14,rfl,hb14⟩,E14⟩;refine ae (eQ rfl) (ah (ab (JT rfl (fun Q2=>?_) (fun Q2=>?_))))
 ·have hno:¬ jZ ds:=fun h=>by have:=hb14.2 h;simp_all
  refine af (aa (asp rfl (asi rfl (ah (ab (ay (aD (cV (v:=.pointer _) (v':=.int _ _) rfl rfl rfl ?_))))))));exact ⟨.inl ⟨by rw [HC hno];decide,by rw [HC hno]⟩,(aj.rfl_.next E14)⟩
 have hord:jZ ds:=hb14.1 (by simpa using Q2);refine av (ab (af (aa (mvs rfl (aF xg (Cc A c n ds _ (hr.from_ (aj.rfl_.next E14)) hn hl) ?_)))));rintro v18 w3 ⟨⟨m18,b18,rfl,hb18,hm18⟩,E18⟩;refine mvt rfl (ae (ax rfl rfl) (ae (ax rfl rfl) (asi rfl (asb rfl (ah (ab (af (af (aa (mvb rfl (ae (eQ rfl) (ah (ab ?_)))))))))))));refine JT rfl (fun Q4=>?_) (fun Q4=>?_)
 ·have hnf:¬ kq ds:=fun h=>by have:=hb18.2 h;simp_all
  refine af (aa (asp rfl (asi rfl (ah (ab (ay (aD (cV (v:=.pointer _) (v':=.int _ _) rfl rfl rfl ?_))))))));exact ⟨.inl ⟨by rw [HB hord hnf];decide,by rw [HB hord hnf]⟩,((aj.rfl_.next E14).next E18)⟩
 have hfit:kq ds:=hb18.1 (by simpa using Q4);obtain rfl:=hm18 (hb18.2 hfit);have hf1:=hfit.1;have hf3:=hfit.2.2;refine av (ab (af (aa (mvs rfl (ae (aQ bG rfl) (nJ (m:=n) (base:=w.heap.size) dL rfl rfl rfl (by omega) (by omega) (((aj.rfl_.next E14).next E18).size) ?_))))));intro g25 w5 E25 hb25 ho25;refine ass rfl (ah (ab (af (aa (mvi rfl (mvs rfl (ae (aQ bG rfl) (ae (aG rfl rfl (by omega)) (nJ (m:=dsz ds+n) (base:=w.heap.size) dL rfl rfl rfl (by omega) (by omega) ((((aj.rfl_.next E14).next E18).next E25).size) ?_)))))))));intro g30 w6 E30 hb30 ho30;have hap0:eP (some ⟨g25,0,none⟩) (some ⟨g30,0,none⟩):=eP.fresh ho25 (fun q hq=>by cases hq;exact Nat.le_of_eq hb30.symm);refine ass rfl (ah (ab (af (af (aa (mvs rfl (ae (aQ bG rfl) (mvi rfl (ah (ab (aw (a_ (G:=Nat×(Option Addr×Nat)×Option Addr×Nat) [9,34,35,36,37,38,39,40,41,42,43,44,45,46,47,48,49,50] (fun (k,(A6,c6),A7,c7)=>[(33,.int .i64 (k:Nat)),(6,.slice A6 k c6),(7,.slice A7 (dA (ds.take k)).length c7)]) (fun (k,(A6,c6),A7,c7) w'=>k≤n∧w'.ownsRow w.heap.size 3 1 (.slice A6 k c6) k ((lK (ds.take k)).map iV)∧w'.ownsRow w.heap.size 3 1 (.slice A7 (dA (ds.take k)).length c7) (dA (ds.take k)).length ((cI (dA (ds.take k))).map iV)∧eP A6 A7∧aj w w') (fun (k,_,_)=>n-k) ((0,(some ⟨g25,0,none⟩,n),some ⟨g30,0,none⟩,dsz ds+n)) ⟨rfl,rfl,rfl,trivial⟩ ?_ ?_))))))))))))
 ·exact ⟨Nat.zero_le _,ho25.kept_from E30,ho30,hap0,((((aj.rfl_.next E14).next E18).next E25).next E30)⟩
 rintro ⟨k,⟨A6,c6⟩,A7,c7⟩ ρ7 w7 ⟨hk,ho6,ho7,hap,hB⟩;refine af (aa (ae (aW rfl rfl) (ah (ab (af (JV rfl (fun Q8=>?_) (fun Q8=>?_)))))))
 ·obtain ⟨bd,od,rfl,hcd⟩:=hr (by omega);have hil:k<ds.length:=by omega
  have hce:=hcd k hil;obtain ⟨d,hd⟩:∃ d,ds[k]=d:=⟨_,rfl⟩;have hdi:ds.getD k dd=d:=by rw [bZ hil,hd]
  rw [hd] at hce;have hds:d.2.size≤2048:=hfit.2.1 d (by rw [←hd];exact List.getElem_mem hil);have hsy:=Av hil;rw [hdi] at hsy;have hsl:(dA (ds.take (k+1))).length=(dA (ds.take k)).length+d.2.size+1:=by rw [hsy,List.length_append,List.length_append,eo];rfl
  have hsb:(dA (ds.take k)).length≤20000:=by rw [lP,List.length_take];have:=ye (ds:=ds) k;omega
  refine av (ab (af (aw (af (aa (ae (aM aT rfl rfl (by omega)) (ae (bn (cs:=[_,_]) bK bh rfl (by exact du hB hce)) ?_)))))));refine dI jB ?_;intro b9 w9 E9 hb9 hk9;have hg9:w.heap.size≤b9:=by rw [hb9];exact (hB).size
  refine fR (vs:=[_,_]) bh rfl rfl (by simp [Value.oneCell']) (hk9) rfl ?_;intro w10 O10 P10;replace ho6:=cf (ho6.kept_from E9) O10 (fun q hq=>by have:=(cd ho6 q hq).2;omega);replace ho7:=cf (ho7.kept_from E9) O10 (fun q hq=>by have:=(cd ho7 q hq).2;omega);refine ah (ab (af (aa (mvs rfl (ae (ak df rfl) (ae (an bC rfl (by exact (P10.from_ aj.rfl_).rd 1 rfl)) ?_))))));refine ae (dR (by kernel_rfl) rfl) (fy (v:=.int _ _) cF rfl rfl rfl ?_);intro b41 w11 E41 hb41 hk41;refine gn cF rfl (by decide) rfl (A:=A6) (xs:=(lK (ds.take k)).map iV) (news:=[iV ((d.2.size:Nat):Int)]) (ho6.kept_from (aj.rfl_.next E41)) ((((hB.next E9).only O10 (hg9)).next E41).size) rfl rfl ⟨b41,0,rfl,hk41.whole⟩ (by simp [Value.oneCell']) (by omega) (by omega) ?_;intro A42 c42 w12 ho42 hg42 hL42;have HF42:=((((hB.next E9).only O10 (hg9)).next E41)).grew hg42 (fun k hk=>(cd (ho6.kept_from (aj.rfl_.next E41)) k hk).1);have ho7b:=kz (ho7.kept_from (aj.rfl_.next E41)) hg42 hap;have hap42:=hap.new (fun q hq=>(cd (ho7.kept_from (aj.rfl_.next E41)) q hq).2) hL42;have P10b:=(P10.from_ (aj.rfl_.next E41)).grown hg42 (cY (ho6.kept_from (aj.rfl_.next E41)) (P10.from_ (aj.rfl_.next E41)) (by decide));refine ass rfl (ah (ab (aa (mvs rfl (ae (ak df rfl) (ae (an bC rfl (by exact P10b.rd 1 rfl)) ?_))))));refine aF pS (zc d.2 _ (by omega)) ?_;rintro v46 w13 ⟨⟨g46,rfl,hg46,hk46⟩,E46⟩;refine gn cF rfl (by decide) rfl (A:=A7) (xs:=(cI (dA (ds.take k))).map iV) (news:=(cI (txt d.2)).map iV) (ho7b.kept_from (aj.rfl_.next E46)) ((HF42.next E46).size) rfl (by rw [List.length_map,cI,List.length_map,eo,Nat.mul_one]) ⟨g46,0,rfl,CP (ze hk46)⟩ (by simp [Value.oneCell']) (by omega) (by omega) ?_;intro A47 c47 w14 ho47 hg47 hL47;have HF47:=((HF42.next E46)).grew hg47 (fun k hk=>(cd (ho7b.kept_from (aj.rfl_.next E46)) k hk).1);have ho42a:=kz (ho42.kept_from (aj.rfl_.next E46)) hg47 hap42.symm;have hap47:=hap42.symm.new (fun q hq=>(cd (ho42.kept_from (aj.rfl_.next E46)) q hq).2) hL47;refine fy (v:=.int _ _) cF rfl rfl rfl ?_;intro b48 w15 E48 hb48 hk48;refine gn cF rfl (by decide) rfl (A:=A47) (xs:=(cI (dA (ds.take k))).map iV++(cI (txt d.2)).map iV) (news:=[iV 0]) (ho47.kept_from (aj.rfl_.next E48)) ((HF47.next E48).size) rfl rfl ⟨b48,0,rfl,hk48.whole⟩ (by simp [Value.oneCell']) (by omega) (by omega) ?_;intro A49 c49 w16 ho49 hg49 hL49;have HF49:=((HF47.next E48)).grew hg49 (fun k hk=>(cd (ho47.kept_from (aj.rfl_.next E48)) k hk).1);have ho42b:=kz (ho42a.kept_from (aj.rfl_.next E48)) hg49 hap47;have hap49:=hap47.new (fun q hq=>(cd (ho42a.kept_from (aj.rfl_.next E48)) q hq).2) hL49;refine ass rfl (ah (aI (ab (aa (ae (aG (b:=1) rfl rfl (by omega)) (mvi rfl (ah ?_)))))));refine aO ((k+1,(A42,c42),A49,c49)) ⟨rfl,rfl,(by rw [hsl];rfl),trivial⟩ (by (iterate 42 refine aB rfl ?_);exact aJ) ⟨?_,?_⟩
  ·exact ⟨by omega,by rw [Bh hil,hdi];exact ho42b,by rw [hsl,hsy,EC,EC,List.map_append,List.map_append];exact ho49,hap49.symm,HF49⟩
  ·show n-(k+1)<n-k;omega
 have hkn:ds.take k=ds:=List.take_of_length_le (by omega);refine bc (aC (aC (aS (ab (af (aa (mvs rfl ?_)))))));have hz53:=(hB).size;refine aF xf (I5 A6 c6 k (lK (ds.take k)) _ (bA.own ho6).2 (by rw [hkn];exact GB hfit) (by rw [kF,List.length_take];omega)) ?_;rintro v53 w17 ⟨⟨bd,rfl,hbd⟩,E53⟩;refine mvt rfl (ae (ax rfl rfl) (ae (ax rfl rfl) (asp rfl (asi rfl (ah (ab (af (af (aa (mvi rfl (ae (cD rfl rfl) (ah (ab ?_)))))))))))));refine JR rfl (fun Q18=>?_) (fun Q18=>?_)
 ·exfalso;omega
 refine av (ab (af (aa (mvs rfl ?_))));have hz61:=((hB.next E53)).size;refine aF xe (Eb A7 c7 _ (ds.take k) _ ((bA.own ho7).2.from_ E53) rfl (by rw [hkn];exact hfit)) ?_;rintro v61 w19 ⟨⟨xb,a,Bs,F,rfl,hfm⟩,E61⟩;refine mvt rfl (ae (ax rfl rfl) (ae (ax rfl rfl) (asp rfl (asi rfl (ah (ab (af (af (aa (mvi rfl (ae (cD rfl rfl) (ah (ab ?_)))))))))))));refine JR rfl (fun Q20=>?_) (fun Q20=>?_)
 ·exfalso;omega
 refine av (ab (af (aa (mvp rfl (mvs rfl ?_)))));have hz69:=(((hB.next E53).next E61)).size;refine aF mi (ur A c n ds _ (hr.from_ ((hB.next E53).next E61)) hn hn0 hl) ?_;rintro v69 w21 ⟨⟨A69,c69,rfl,ho69⟩,E69⟩;refine mvp rfl (mvi rfl (ae (cM (l:=[(0,.tmp 67),(1,.tmp 69),(2,.tmp 70),(3,.tmp 71)]) (mj _ _ _ _ _ _)) ?_));have hz73q:=((((hB.next E53).next E61).next E69)).size;refine cK (v:=.agg _) rfl ?_;intro b73 w22 E73 hb73 hk73;have hz73:w.heap.size≤b73:=by rw [hb73];exact hz73q
 refine asp rfl (asi rfl (ah (ab (ay (cV (v:=.pointer _) (v':=.int _ _) rfl rfl rfl ?_)))));subst hn;rw [hkn] at hfm hbd;exact ⟨.inr ⟨HD hord hfit,b73,rfl,⟨hz73,xb,bd,a,Bs,F,A69,c69,hk73,(hfm.from_ (E69.next E73)).le hz61,(hbd.from_ (E61.next (E69.next E73))).le hz53,gx (ho69.kept_from E73) hz69,hord,hfit⟩⟩,((((hB.next E53).next E61).next E69).next E73)⟩
theorem IU (base s:Nat) (ds:List Dc) (w:World) (hs:ix w base s ds) (id:ByteArray) :
 Rt prog 96 [.pointer (some ⟨s,0,none⟩),.string id] w (fun v w'=>((∃ i,i<ds.length∧(ds.getD i dd).1=id∧v=.tuple #[.string (ds.getD i dd).2,.int .i64 0])∨((∀ i,i<ds.length→(ds.getD i dd).1≠id)∧v=.tuple #[.string ⟨#[]⟩,.int .i64 3]))∧aj w w'):=by
 obtain ⟨hb0,x,bd,a,B,F,A,c,hI,hf,hb,ho,hO,hD⟩:=hs;have hDl:=hD.1;have hrD:=(dg.own bz (by decide) ho).2;refine enter (n:=27) Tryz.func96 rfl rfl rfl (af (aa (asg rfl (asi rfl (ah (ab (af (aa (mvp rfl (ae (ar rfl) (ae (ak fO rfl) (ae (an cQ rfl (by exact (hI.from_ aj.rfl_).rd 1 rfl)) ?_))))))))))));refine mvg rfl (aF pR (uf A c ds.length ds _ (hrD.from_ aj.rfl_) rfl (by omega) id hO) ?_);rintro v14 w1 ⟨⟨i,fd,rfl,hi1,hlo,hhi,hfd⟩,E14⟩;refine mvt rfl (ae (ax rfl rfl) (ae (ax rfl rfl) (asi rfl (asb rfl (ah (ab (af (af (aa (mvb rfl (ae (eQ rfl) (ah (ab ?_)))))))))))));refine JT rfl (fun Q2=>?_) (fun Q2=>?_)
 ·have hnf:∀ q,q<ds.length→(ds.getD q dd).1≠id:=fun q hq e=>by
   have h9:¬ (i<ds.length∧(ds.getD i dd).1=id):=fun h=>by have:=hfd.2 h;simp_all
   rcases Nat.lt_trichotomy q i with a1 | a1 | a1
   ·have:=hlo q a1;rw [e] at this;exact fC _ this
   ·subst a1;exact h9 ⟨hq,e⟩
   ·have h7:=hO.lt a1 hq;rw [e] at h7;exact hhi i (Nat.le_refl _) (by omega) h7
  refine af (aa (asg rfl (asi rfl (ah (ab (ay (aD (cV (v:=.string _) (v':=.int _ _) rfl rfl rfl (⟨.inr ⟨hnf,rfl⟩,(aj.rfl_.next E14)⟩)))))))))
 obtain ⟨hil,hie⟩:=hfd.1 (by simpa using Q2);obtain ⟨bD,oD,rfl,hcD⟩:=hrD (by omega);have hce:=hcD i hil 1 _ rfl;rw [←bZ hil] at hce;refine av (ab (af (aa (mvp rfl (ae (ar rfl) (ae (ak fO rfl) (ae (an cQ rfl (by exact (hI.from_ (aj.rfl_.next E14)).rd 1 rfl)) ?_)))))));refine mvi rfl (ae (aM aT rfl rfl (by omega)) (ae (ak df rfl) (ae (an bC rfl (by exact bx (aj.rfl_.next E14) hce)) ?_)));refine asg rfl (asi rfl (ah (ab (ay (cV (v:=.string _) (v':=.int _ _) rfl rfl rfl (⟨.inl ⟨i,hil,hie,rfl⟩,(aj.rfl_.next E14)⟩))))))
def nd (p:ByteArray):Int:=if p.size=0 then 5 else if 4096<p.size then 2 else 0
def kR (ds:List Dc) (p:ByteArray):List Ht:=if nd p=0 then eg ds p else []
theorem Ca {p:ByteArray} (h:p.size≠0):txt p≠[]:=fun e=>h (by rw [←eo,e];rfl)
theorem s5 {p:ByteArray} (h:p=⟨#[]⟩):p.size=0:=by rw [h];rfl
theorem qO {p:ByteArray} (h:p.size=0):p=⟨#[]⟩:=by
 obtain ⟨l⟩:=p
 congr 1
 exact Array.eq_empty_of_size_eq_zero h
theorem IE {ds:List Dc} {L:List Nat} {k:Nat} (h:k<L.length):(((L.take (k+1)).map (lG ds)).flatMap hV)=(((L.take k).map (lG ds)).flatMap hV)++hV (lG ds (L.getD k 0)):=by
 rw [List.take_succ_eq_append_getElem h,List.map_append,List.flatMap_append,List.getD_eq_getElem?_getD,List.getElem?_eq_getElem h];simp
theorem IP (base b K a c n:Nat) (L B F:List Nat) (A:Option Addr) (p:List Nat) (w:World) (hf:kp w base b K a L B F) (hr:bA iV w A (cI p)) (hn:n=p.length) (hl:n≤1000000) (h0:p≠[]) (hK:∀ x∈p,x<K):Rt prog 102 [.pointer (some ⟨b,0,none⟩),.slice A n c] w fun v w'=>(∃ A' c',v=.tuple #[.slice A' (eC L p).length c',.int .i64 0]∧bA iV w' A' (cI (eC L p)))∧aj w w':=by
 refine (IQ base b K a L B F w hf A c n (cI p) hr (by rw [List.length_map];exact hn) hl).mono fun v w' h=>?_
 have ha:=rW h0 hK;have e:fdL K L (cI p)=eC L p:=by unfold fdL;rw [if_pos ha,rR]
 rw [ha,e] at h;obtain ⟨⟨A',c',rfl,ho⟩,hF⟩:=h;exact ⟨⟨A',c',rfl,(bA.own ho).2⟩,hF⟩
theorem oM (base s:Nat) (ds:List Dc) (w:World) (hs:ix w base s ds) (p:ByteArray) (hp:p.size≤140737488351232) :
 Rt prog 75 [.pointer (some ⟨s,0,none⟩),.string p] w (fun v w'=>(∃ A' c',v=.tuple #[.slice A' (kR ds p).length c',.int .i64 (nd p)]∧w'.ownsRow w.heap.size 57 2 (.slice A' (kR ds p).length c') (kR ds p).length ((kR ds p).flatMap hV))∧aj w w'):=by
 have hss:=hs;obtain ⟨hb0,x,bd,a,B,F,A,c,hI,hf,hb,ho,hO,hD⟩:=hs;have hDl:=hD.1;have hrD:=(dg.own bz (by decide) ho).2;have hsl:=lP ds;have hD3:=hD.2.2;refine enter (n:=75) Tryz.func75 rfl rfl rfl (af (aa (ass rfl (asi rfl (ah (ab (af (af (aa (mvg rfl (ae (qm rfl rfl) (ah (ab (JU rfl (fun Q1=>?_) (fun Q1=>?_)))))))))))))))
 ·have hp0:p.size=0:=s5 (fB.1 (by simpa using Q1));refine af (aa (ass rfl (asi rfl (ah (ab (ay (aD (cV (v:=.slice _ _ _) (v':=.int _ _) rfl rfl rfl ?_))))))));have hE:nd p=5:=by unfold nd;rw [if_pos hp0]
  have hH:kR ds p=[]:=by unfold kR;rw [hE];rfl
  exact ⟨⟨none,0,by rw [hH,hE];rfl,by rw [hH];exact World.ownsRow_nil _ _ _ _⟩,aj.rfl_⟩
 have hp0:p.size≠0:=fun h9=>(HT.1 (by simpa using Q1)) (qO h9)
 refine av (ab (af (af (aa (mvg rfl (ae (dR (by kernel_rfl) rfl) (ae (cL rfl rfl) (ah (ab (JV rfl (fun Q2=>?_) (fun Q2=>?_)))))))))))
 ·refine af (aa (ass rfl (asi rfl (ah (ab (ay (aD (cV (v:=.slice _ _ _) (v':=.int _ _) rfl rfl rfl ?_))))))));have hE:nd p=2:=by unfold nd;rw [if_neg hp0,if_pos (by omega)]
  have hH:kR ds p=[]:=by unfold kR;rw [hE];rfl
  exact ⟨⟨none,0,by rw [hH,hE];rfl,by rw [hH];exact World.ownsRow_nil _ _ _ _⟩,aj.rfl_⟩
 refine av (ab (af (af (aa (mvp rfl (ae (ar rfl) (ae (ak fO rfl) (ae (an cQ rfl (by exact (hI.from_ aj.rfl_).rd 1 rfl)) ?_))))))));refine ae (aQ bG rfl) (ae (cx rfl rfl) (ah (ab (JV rfl (fun Q3=>?_) (fun Q3=>?_)))))
 ·refine af (aa (ass rfl (asi rfl (ah (ab (ay (aD (cV (v:=.slice _ _ _) (v':=.int _ _) rfl rfl rfl ?_))))))));obtain rfl:ds=[]:=List.eq_nil_of_length_eq_zero (by omega);have hpE:nd p=0:=by unfold nd;rw [if_neg hp0,if_neg (by omega)]
  exact ⟨⟨none,0,by unfold kR;rw [hpE];rfl,by unfold kR;rw [hpE];exact World.ownsRow_nil _ _ _ _⟩,aj.rfl_⟩
 have hpE:nd p=0:=by unfold nd;rw [if_neg hp0,if_neg (by omega)]
 refine av (ab (af ?_));apply dN 12 [(26,eqp _),(27,eqp _),(28,eqp _),(29,eqp _),(30,eqp _),(31,fun v w'=>∃ g,v=.slice (some ⟨g,0,none⟩) p.size p.size∧bA iV w' (some ⟨g,0,none⟩) (cI (txt p))),(32,fun v w'=>∃ A' c',v=.tuple #[.slice A' (eC (dA ds) (txt p)).length c',.int .i64 0]∧bA iV w' A' (cI (eC (dA ds) (txt p)))),(25,fun v w'=>∃ A' c',v=.tuple #[.slice A' (eC (dA ds) (txt p)).length c',.int .i64 0]∧bA iV w' A' (cI (eC (dA ds) (txt p)))),(33,fun v w'=>∃ A' c',v=.slice A' (eC (dA ds) (txt p)).length c'∧bA iV w' A' (cI (eC (dA ds) (txt p)))),(34,eqp _),(6,fun v w'=>∃ A' c',v=.slice A' (eC (dA ds) (txt p)).length c'∧bA iV w' A' (cI (eC (dA ds) (txt p)))),(7,eqp _)] (by kernel_rfl) (by kernel_rfl) ⟨ag _,ag _,ag _,ag _,ag _,(fun _ _ _ hF ⟨g,h1,h2⟩=>⟨g,h1,h2.from_ hF⟩),(fun _ _ _ hF ⟨A2,c2,h1,h2⟩=>⟨A2,c2,h1,h2.from_ hF⟩),(fun _ _ _ hF ⟨A2,c2,h1,h2⟩=>⟨A2,c2,h1,h2.from_ hF⟩),(fun _ _ _ hF ⟨A2,c2,h1,h2⟩=>⟨A2,c2,h1,h2.from_ hF⟩),ag _,(fun _ _ _ hF ⟨A2,c2,h1,h2⟩=>⟨A2,c2,h1,h2.from_ hF⟩),ag _,trivial⟩
 case hop=>
  constructor
  ·intro w5 D5;exact ai (aq (v:=.pointer _) rfl) rfl
  constructor
  ·intro w6 D6;rintro _ rfl;exact ai (ar rfl) rfl
  constructor
  ·intro w7 D7;rintro _ rfl;exact ai (ak sn rfl) rfl
  constructor
  ·intro w8 D8;rintro _ rfl;exact ai (an iL rfl (by exact (hI.from_ (aj.rfl_.next D8)).rd 0 rfl)) rfl
  constructor
  ·intro w9 D9;exact ai (aq (v:=.string _) rfl) rfl
  constructor
  ·intro w10 D10;rintro _ rfl;refine er pS ((zc p _ (by omega)).mono ?_);rintro v w2 ⟨⟨g,rfl,hg,hk⟩,E⟩;exact ⟨E,g,rfl,ze hk⟩
  constructor
  ·intro w11 D11;rintro _ rfl v11_31 ⟨g31,rfl,hr31⟩;refine er uZ ((IP base x 257 a p.size p.size (dA ds) B F (some ⟨g31,0,none⟩) (txt p) _ (hf.from_ (aj.rfl_.next D11)) hr31 (eo p).symm (by omega) (Ca hp0) (Cb p)).mono ?_);rintro v w2 ⟨⟨A3,c3,rfl,hr3⟩,E⟩;exact ⟨E,A3,c3,rfl,hr3⟩
  constructor
  ·intro w12 D12;rintro v12_32 ⟨A32,c32,rfl,hr32⟩;exact fG (aq (v:=.tuple _) rfl) aj.rfl_ ⟨_,_,rfl,hr32⟩
  constructor
  ·intro w13 D13;rintro v13_25 ⟨A32,c32,rfl,hr32⟩;exact fG (ax rfl rfl) aj.rfl_ ⟨_,_,rfl,hr32⟩
  constructor
  ·intro w14 D14;rintro v14_25 ⟨A32,c32,rfl,hr32⟩;exact ai (ax rfl rfl) rfl
  constructor
  ·intro w15 D15;rintro v15_33 ⟨A32,c32,rfl,hr32⟩;exact fG (bY rfl) aj.rfl_ ⟨_,_,rfl,hr32⟩
  constructor
  ·intro w16 D16;rintro _ rfl;exact ai (bY (v:=.int _ _) rfl) rfl
  exact trivial
 case hend=>
  intro w17 D17;rintro _ rfl _ rfl _ rfl _ rfl _ rfl v31 ⟨g31,rfl,hr31⟩ v32 ⟨A32,c32,rfl,hr32⟩ v25 ⟨A32,c32,rfl,hr32⟩ v33 ⟨A32,c32,rfl,hr32⟩ _ rfl v6 ⟨A32,c32,rfl,hr32⟩ _ rfl;show St ..;obtain ⟨W7,hW7⟩:∃ W,W=w17:=⟨_,rfl⟩;have hB7:aj w W7:=by rw [hW7];exact (aj.rfl_.next D17)
  have hr6:bA iV W7 A32 (cI (eC (dA ds) (txt p))):=by rw [hW7];exact hr32
  have hnl:(eC (dA ds) (txt p)).length≤(dA ds).length:=D0;refine ah (ab (af (af (aa (mvi rfl (ae (cD rfl rfl) (ah (ab (JR rfl (fun Q18=>?_) (fun Q18=>?_))))))))))
  ·exfalso;omega
  refine av (ab (af (aa (mvs rfl (ae (aQ bu rfl) (AA (m:=(eC (dA ds) (txt p)).length) (base:=W7.heap.size) eY rfl rfl (by omega) (by omega) (by rw [hW7];exact Nat.le_refl _) ?_))))));intro g40 w19 E40 hb40 ho40;refine ass rfl (ah (ab (af (af (aa (mvs rfl (ae (aQ bu rfl) (mvi rfl (ah (ab (aw (a_ (G:=Nat×Option Addr×Nat) [4,5,10,11,12,13,44,45,46,47,48,49,50,51,52,53,54,55,56,57,58,59,60,61,62,63,64,65,66,67,68,69,70,71,72,73] (fun (k,A8,c8)=>[(43,.int .i64 (k:Nat)),(8,.slice A8 k c8)]) (fun (k,A8,c8) w'=>k≤(eC (dA ds) (txt p)).length∧w'.ownsRow W7.heap.size 57 2 (.slice A8 k c8) k ((((eC (dA ds) (txt p)).take k).map (lG ds)).flatMap hV)∧aj W7 w') (fun (k,_,_)=>(eC (dA ds) (txt p)).length-k) ((0,some ⟨g40,0,none⟩,(eC (dA ds) (txt p)).length)) ⟨rfl,rfl,trivial⟩ ?_ ?_))))))))))))
  ·exact ⟨Nat.zero_le _,by simpa using ho40,by rw [hW7];exact E40⟩
  rintro ⟨k,A8,c8⟩ ρ20 w20 ⟨hk,ho8,hBz⟩;refine af (aa (ae (aW rfl rfl) (ah (ab (af (JV rfl (fun Q21=>?_) (fun Q21=>?_)))))))
  ·obtain ⟨bN,oN,rfl,hcN⟩:=CQ hr6 (by omega);have hxk:=hcN k (by omega);have hxm:=wc.1 (show (eC (dA ds) (txt p)).getD k 0∈(eC (dA ds) (txt p)) by rw [List.getD_eq_getElem?_getD,List.getElem?_eq_getElem (show k<(eC (dA ds) (txt p)).length by omega)];exact List.getElem_mem _);have hxl:=hxm.1;obtain ⟨hq1,hq2,hq3⟩:=nZ hxl;obtain ⟨bD,oD,rfl,hcD⟩:=hrD (by omega);have hce:=hcD _ hq1 0 _ rfl;rw [←bZ hq1] at hce;refine av (ab (af (aw (af (aa (ae (aX bJ rfl rfl (by omega)) (ae (an aU rfl (by exact bx (hBz.next aj.rfl_) hxk)) ?_)))))));refine asi rfl (ah (ab (af (aa (mvp rfl (ae (ar rfl) (ae (ak sk rfl) (ae (an xi rfl (by exact (hI.from_ (hB7.next hBz)).rd 2 rfl)) ?_))))))));refine mvi rfl (aF uY (Aq base bd ((eC (dA ds) (txt p)).getD k 0) ds _ (hb.from_ (hB7.next hBz)) hxl) ?_);rintro v53 w22 ⟨rfl,E53⟩;refine mvt rfl (ae (ax rfl rfl) (ae (ax rfl rfl) (ae (ax rfl rfl) (asi rfl (asi rfl (asi rfl (ah (ab (af (af (aa (mvi rfl ?_))))))))))));refine ae (cD rfl rfl) (ah (ab (JR rfl (fun Q23=>?_) (fun Q23=>?_))))
   ·exfalso;omega
   refine av (ab (aa (mvs rfl (mvp rfl (ae (ar rfl) (ae (ak fO rfl) (ae (an cQ rfl (by exact (hI.from_ ((hB7.next hBz).next E53)).rd 1 rfl)) ?_)))))));refine mvi rfl (ae (aM aT rfl rfl (by omega)) (ae (ak bq rfl) (ae (an bC rfl (by exact bx ((hB7.next hBz).next E53) hce)) ?_)));refine mvi rfl (ae (cM (l:=[(0,.tmp 68),(1,.tmp 69)]) (qc _ _)) (gV eY rfl rfl rfl ?_));intro b71 w24 E71 hb71 hk71;refine dB eY rfl (by decide) rfl (A:=A8) (xs:=(((eC (dA ds) (txt p)).take k).map (lG ds)).flatMap hV) (news:=hV (lG ds ((eC (dA ds) (txt p)).getD k 0))) (ho8.kept_from ((aj.rfl_.next E53).next E71)) ((hBz.next ((aj.rfl_.next E53).next E71)).size) rfl rfl (fun _=>⟨b71,0,rfl,hk71.whole⟩) (fun h=>by cases h) (by simp [hV,Value.oneCell']) (by omega) (by omega) ?_;intro A72 c72 w25 ho72 hg72;have HF72:=(hBz.next ((aj.rfl_.next E53).next E71)).grew hg72 (fun k hk=>(cd (ho8.kept_from ((aj.rfl_.next E53).next E71)) k hk).1);refine ass rfl (ah (aI (ab (aa (ae (aG (b:=1) rfl rfl (by omega)) (mvi rfl (ah ?_)))))));refine aO ((k+1,A72,c72)) ⟨rfl,rfl,trivial⟩ (by (iterate 73 refine aB rfl ?_);exact aJ) ⟨?_,?_⟩
   ·exact ⟨by omega,by rw [IE (by omega)];exact ho72,HF72⟩
   ·show (eC (dA ds) (txt p)).length-(k+1)<(eC (dA ds) (txt p)).length-k;omega
  refine bc (aC (aC (aS (ab (af (aa (mvs rfl (ass rfl (asi rfl (ah (ab (ay (cV (v:=.slice _ _ _) (v':=.int _ _) rfl rfl rfl ?_)))))))))))));obtain rfl:k=(eC (dA ds) (txt p)).length:=by omega
  have hh:kR ds p=(eC (dA ds) (txt p)).map (lG ds):=by unfold kR;rw [if_pos hpE,GV,wo (Ca hp0)]
  rw [List.take_length] at ho8;rw [hh,List.length_map,hpE];exact ⟨⟨A8,c8,rfl,gx ho8 hB7.size⟩,(hB7.next hBz)⟩
end Go.Proofs.YtcbakncjacnnjaaGreat
namespace Go.Proofs.YtcbakncjacnnjaaGreat
open Go.Proofs.Tryz (prog)
open Go.RowKit Go.ChangeShapes Go.WideShapes Go.ChangeAt
open Go.Proofs.YtcbakncjacnnjaaGreat.SA
def jT (w:World) (lo hi s:Nat) (ds:List Dc):Prop:=∃ w0:World,w.os=w0.os∧w.tape=w0.tape∧w.output=w0.output∧w0.heap.size=hi∧hi≤w.heap.size∧ix w0 lo s ds∧∀ k,lo≤k→k<hi→w.heap[k]? =w0.heap[k]?
theorem jT.of {w:World} {lo s:Nat} {ds:List Dc} (h:ix w lo s ds):jT w lo w.heap.size s ds:=⟨w,rfl,rfl,rfl,rfl,Nat.le_refl _,h,fun _ _ _=>rfl⟩
theorem jT.at {w:World} {lo hi s:Nat} {ds:List Dc} (h:jT w lo hi s ds):ix w lo s ds:=by
 obtain ⟨w0,h1,h2,h3,h4,h5,h6,h7⟩:=h;subst h4;exact JD (Φ:=fun w=>ix w lo s ds) (fun a b hF hs=>hs.from_ hF) (fun a b q hg hq hs=>hs.grown hg (fun k hk=>by cases hk;exact hq)) h1 h2 h3 h5 h7 h6
theorem jT.chg {U:Nat→Prop} {w w':World} {lo hi s:Nat} {ds:List Dc} (h:jT w lo hi s ds) (c:Chg U w w') (hU:∀ k,lo≤k→k<hi→¬ U k):jT w' lo hi s ds:=by
 obtain ⟨w0,h1,h2,h3,h4,h5,h6,h7⟩:=h;exact ⟨w0,c.os.trans h1,c.tape.trans h2,c.output.trans h3,h4,Nat.le_trans h5 c.size,h6,fun k hk hk2=>(c.block k (Nat.lt_of_lt_of_le hk2 h5) (hU k hk hk2)).trans (h7 k hk hk2)⟩
theorem jT.from_ {w w':World} {lo hi s:Nat} {ds:List Dc} (h:jT w lo hi s ds) (hF:aj w w'):jT w' lo hi s ds:=h.chg (U:=fun _=>False) hF.toChg (fun _ _ _ h=>h)
structure Pt where
 lo:Nat
 hi:Nat
 s:Nat
 ds:List Dc
 A:Option Addr
 c:Nat
 gone:List ByteArray
noncomputable def Pt.live (p:Pt):List Dc:=lv p.ds p.gone
def ptV (p:Pt):List Value:=[.pointer (some ⟨p.s,0,none⟩),.slice p.A p.gone.length p.c]
theorem j7 (p:Pt):(ptV p).length=2:=rfl
theorem C8 (p:Pt):∀ u∈ptV p,u.oneCell'=true:=by simp [ptV,Value.oneCell']
theorem tL (l:List Pt):∀ u∈l.flatMap ptV,u.oneCell'=true:=rA fun x _ u hu=>C8 x u hu
noncomputable def iY (ps:List Pt) (L:List Dc):List Dc:=L++ps.flatMap Pt.live
def Pt.of (lo hi s:Nat) (ds:List Dc):Pt:=⟨lo,hi,s,ds,none,0,[]⟩
theorem Pt.of_live (lo hi s:Nat) (ds:List Dc):(Pt.of lo hi s ds).live=ds:=Ip ds
structure ShG (ps:List Pt) (L D:List Dc):Prop where
 sdL:SD L
 ord:jZ D
 fit:kq D
 perm:D.Perm (iY ps L)
 part:∀ p∈ps,SO p.gone∧p.gone.length+p.live.length=p.ds.length∧p.live≠[]
theorem CB {ds:List Dc} (h:jZ ds):SD ds:=List.pairwise_iff_getElem.2 fun i j hi hj hij=>by
 have:=h.lt hij hj
 rwa [bZ hi,bZ hj] at this
theorem zA {ds:List Dc} (h:SD ds) (k:∀ d∈ds,1≤d.1.size∧d.1.size≤64):jZ ds:=fun i hi=>by
 have h1:=k _ (List.getElem_mem hi);refine ⟨by rw [bZ hi];exact h1.1,by rw [bZ hi];exact h1.2,fun h0=>?_⟩;rw [bZ hi,bZ (show i-1<ds.length by omega)];exact List.pairwise_iff_getElem.1 h (i-1) i (by omega) hi (by omega)
theorem xP {ds:List Dc} (h:jZ ds) {d:Dc} (hd:d∈ds):1≤d.1.size∧d.1.size≤64:=by
 obtain ⟨i,hi,rfl⟩:=List.getElem_of_mem hd;have:=h i hi;rw [okI,bZ hi] at this;exact ⟨this.1,this.2.1⟩
theorem ud {a b:List Dc} (h:kq b) (k:a.Sublist b):kq a:=⟨Nat.le_trans k.length_le h.1,fun d hd=>h.2.1 d (k.subset hd),Nat.le_trans (GZ k) h.2.2⟩
theorem rD {a b:List Dc} (h:kq b) (k:a.Perm b):kq a:=⟨by rw [k.length_eq];exact h.1,fun d hd=>h.2.1 d (k.mem_iff.1 hd),by rw [rK k];exact h.2.2⟩
noncomputable def GJ (D:List Dc) (d:Dc):List Dc:=tG (D++[d])
section
variable {ps:List Pt} {L D:List Dc}
theorem ShG.sd (h:ShG ps L D):SD D:=CB h.ord
theorem ShG.dif (h:ShG ps L D):Dif (iY ps L):=h.sd.dif.perm h.perm
theorem ShG.mem (h:ShG ps L D) {d:Dc}:d∈D↔d∈L∨∃ p∈ps,d∈p.live:=by
 rw [h.perm.mem_iff,iY,List.mem_append,List.mem_flatMap]
theorem ShG.len (h:ShG ps L D):L.length+(ps.flatMap Pt.live).length≤64:=by
 have h1:=h.fit.1;rw [h.perm.length_eq,iY,List.length_append] at h1;exact h1
theorem ni:∀ {ps:List Pt},(∀ p∈ps,p.live≠[])→ps.length≤(ps.flatMap Pt.live).length
 |[],_=>Nat.le_refl _
 |p::ps,h=>by
  have h1:=List.length_pos_iff.2 (h p (List.mem_cons_self ..));have h2:=ni (ps:=ps) fun q hq=>h q (List.mem_cons_of_mem _ hq)
  rw [List.flatMap_cons,List.length_append,List.length_cons];omega
theorem ShG.parts (h:ShG ps L D):ps.length≤64:=by
 have h1:=ni fun p hp=>(h.part p hp).2.2
 have h2:=h.len;omega
theorem ShG.loose (h:ShG ps L D):L.length≤64:=by have:=h.len;omega
theorem Dy {p:Pt} (hp:p∈ps):∃ l,(l++p.live).Perm (iY ps L):=by
 obtain ⟨a,b,rfl⟩:=List.append_of_mem hp;refine ⟨L++a.flatMap Pt.live++b.flatMap Pt.live,?_⟩;unfold iY;rw [List.flatMap_append,List.flatMap_cons,List.append_assoc,List.append_assoc];refine List.Perm.append_left L (List.Perm.append_left _ List.perm_append_comm)
theorem ShG.liveFit (h:ShG ps L D) {p:Pt} (hp:p∈ps):kq p.live:=by
 obtain ⟨l,hl⟩:=Dy (L:=L) hp;exact ud (rD h.fit (hl.trans h.perm.symm)) (List.sublist_append_right ..)
theorem ShG.looseFit (h:ShG ps L D):kq L:=ud (rD h.fit h.perm.symm) (List.sublist_append_left ..)
theorem ShG.add (h:ShG ps L D) {d:Dc} {k:Nat} (hk:k≤L.length) (h1:∀ x,x<k→sLt (SM.G Dz L x).1 d.1) (h2:k<L.length→¬ sLt (SM.G Dz L k).1 d.1∧(SM.G Dz L k).1≠d.1) (hn:∀ e∈D,e.1≠d.1) (hi:1≤d.1.size∧d.1.size≤64) (ht:d.2.size≤2048) (hl:D.length<64) (hz:dsz D+d.2.size≤16384) :
 ShG ps (L.take k++d::L.drop k) (GJ D d):=by
 have hd:Dif (D++[d]):=by
  unfold Dif;rw [List.pairwise_append];exact ⟨h.sd.dif,List.pairwise_singleton ..,fun a ha b hb=>by rw [List.mem_singleton.1 hb];exact hn a ha⟩
 obtain ⟨k1,k2⟩:=qh hd;refine ⟨h.sdL.ins hk h1 h2,zA k1 fun e he=>?_,⟨?_,fun e he=>?_,?_⟩,k2.trans ?_,h.part⟩
 ·rcases List.mem_append.1 (k2.mem_iff.1 he) with he | he
  ·exact xP h.ord he
  ·rw [List.mem_singleton.1 he];exact hi
 ·show (tG (D++[d])).length≤64;rw [k2.length_eq,List.length_append,List.length_singleton];omega
 ·rcases List.mem_append.1 (k2.mem_iff.1 he) with he | he
  ·exact h.fit.2.1 e he
  ·rw [List.mem_singleton.1 he];exact ht
 ·show dsz (tG (D++[d]))≤16384;rw [rK k2,n5];simp only [dsz];omega
 ·unfold iY;have e1:(D++[d]).Perm (L++ps.flatMap Pt.live++[d]):=h.perm.append_right [d];refine e1.trans ?_
  have e2:(L++ps.flatMap Pt.live++[d]).Perm (L++[d]++ps.flatMap Pt.live):=by
   rw [List.append_assoc,List.append_assoc];exact List.Perm.append_left L List.perm_append_comm
  exact e2.trans (n4.symm.append_right _)
theorem ShG.del (h:ShG ps L D) (id:ByteArray) {ps':List Pt} {L':List Dc} (hsd:SD L') (ha:iY ps' L'=fz (iY ps L) id) (hp:∀ p∈ps',SO p.gone∧p.gone.length+p.live.length=p.ds.length∧p.live≠[]):ShG ps' L' (fz D id):=
 ⟨hsd,zA (zY h.sd) fun d hd=>xP h.ord (Ek.1 hd).1,ud h.fit List.filter_sublist,by rw [ha];exact BJ h.perm id,hp⟩
theorem ShG.cut (h:ShG ps L D) {k:Nat} (hk:k<L.length):ShG ps (L.take k++L.drop (k+1)) (fz D L[k].1):=by
 refine h.del _ (by rw [←uh h.sdL.dif hk];exact zY h.sdL) ?_ h.part;have hd:=h.dif;unfold iY Dif at hd;rw [List.pairwise_append] at hd;unfold iY;rw [l6,uh h.sdL.dif hk,j_];exact fun d hd2 e=>hd.2.2 _ (List.getElem_mem hk) d hd2 e.symm
theorem ShG.others (h:ShG ps L D) {i:Nat} (hi:i<ps.length) {d:Dc} (hd:d∈ps[i].live):(∀ e∈L,e.1≠d.1)∧(∀ e∈(ps.take i).flatMap Pt.live,e.1≠d.1)∧∀ e∈(ps.drop (i+1)).flatMap Pt.live,e.1≠d.1:=by
 have hx:ps=ps.take i++(ps[i]::ps.drop (i+1)):=by rw [←List.drop_eq_getElem_cons hi,List.take_append_drop]
 have hf:=h.dif;unfold iY Dif at hf;have hfm:ps.flatMap Pt.live=(ps.take i).flatMap Pt.live++(ps[i].live++(ps.drop (i+1)).flatMap Pt.live):=(congrArg (List.flatMap Pt.live) hx).trans (by rw [List.flatMap_append,List.flatMap_cons]);rw [hfm,List.pairwise_append,List.pairwise_append,List.pairwise_append] at hf;obtain ⟨_,⟨_,⟨_,_,k1⟩,k2⟩,k3⟩:=hf;exact ⟨fun e he=>k3 e he d (List.mem_append_right _ (List.mem_append_left _ hd)),fun e he=>k2 e he d (List.mem_append_left _ hd),fun e he q=>k1 d hd e he q.symm⟩
theorem I_ (L:List Dc) {i:Nat} (hi:i<ps.length):iY ps L=L++((ps.take i).flatMap Pt.live++(ps[i].live++(ps.drop (i+1)).flatMap Pt.live)):=by
 unfold iY;have hx:ps=ps.take i++(ps[i]::ps.drop (i+1)):=by rw [←List.drop_eq_getElem_cons hi,List.take_append_drop]
 exact congrArg (L++·) ((congrArg (List.flatMap Pt.live) hx).trans (by rw [List.flatMap_append,List.flatMap_cons]))
theorem ShG.all_del (h:ShG ps L D) {i:Nat} (hi:i<ps.length) {d:Dc} (hd:d∈ps[i].live):fz (iY ps L) d.1=L++((ps.take i).flatMap Pt.live++(fz ps[i].live d.1++(ps.drop (i+1)).flatMap Pt.live)):=by
 obtain ⟨h1,h2,h3⟩:=h.others hi hd;rw [I_ L hi,l6,l6,l6,j_ h1,j_ h2,j_ h3]
theorem ShG.gone (h:ShG ps L D) {i:Nat} (hi:i<ps.length) {d:Dc} (hd:d∈ps[i].live) {k:Nat} {A:Option Addr} {c:Nat} (hs:SO (ps[i].gone.take k++d.1::ps[i].gone.drop k)) (hsd:SD ps[i].ds) (hne:fz ps[i].live d.1≠[]) :
 ShG (ps.set i { ps[i] with A:=A,c:=c,gone:=ps[i].gone.take k++d.1::ps[i].gone.drop k }) L (fz D d.1):=by
 have hlive:(Pt.live { ps[i] with A:=A,c:=c,gone:=ps[i].gone.take k++d.1::ps[i].gone.drop k })=fz ps[i].live d.1:=Dv;have hset:∀ q:Pt,ps.set i q=ps.take i++q::ps.drop (i+1):=fun q=>by rw [List.set_eq_take_append_cons_drop,if_pos hi]
 refine h.del d.1 h.sdL ?_ fun p hp=>?_
 ·rw [h.all_del hi hd,hset];unfold iY;rw [List.flatMap_append,List.flatMap_cons,hlive]
 ·rw [hset] at hp
  have hp2:p={ ps[i] with A:=A,c:=c,gone:=ps[i].gone.take k++d.1::ps[i].gone.drop k }∨p∈ps:=by
   rcases List.mem_append.1 hp with hp | hp
   ·exact .inr (List.mem_of_mem_take hp)
   ·rcases List.mem_cons.1 hp with e | hp
    ·exact .inl e
    ·exact .inr (List.mem_of_mem_drop hp)
  rcases hp2 with rfl | hp
  ·refine ⟨hs,?_,by rw [hlive];exact hne⟩;rw [hlive];have h1:=(h.part _ (List.getElem_mem hi)).2.1;have h2:=El (JC (gs:=ps[i].gone) hsd).dif hd;show (List.length (_++_))+_=_;rw [n4.length_eq,List.length_append,List.length_singleton];show ps[i].gone.length+1+(fz ps[i].live d.1).length=ps[i].ds.length;have h3:(fz ps[i].live d.1).length+1=ps[i].live.length:=h2;omega
  ·exact h.part p hp
theorem ShG.drop (h:ShG ps L D) {i:Nat} (hi:i<ps.length) {d:Dc} (hd:d∈ps[i].live) (hne:fz ps[i].live d.1=[]):ShG (ps.take i++ps.drop (i+1)) L (fz D d.1):=by
 refine h.del d.1 h.sdL ?_ fun p hp=>h.part p ?_
 ·rw [h.all_del hi hd,hne,List.nil_append];unfold iY;rw [List.flatMap_append]
 ·rcases List.mem_append.1 hp with hp | hp
  ·exact List.mem_of_mem_take hp
  ·exact List.mem_of_mem_drop hp
theorem ShG.fresh (lo hi s:Nat) {ds:List Dc} (hne:ds≠[]):SO (Pt.of lo hi s ds).gone∧(Pt.of lo hi s ds).gone.length+(Pt.of lo hi s ds).live.length=(Pt.of lo hi s ds).ds.length∧(Pt.of lo hi s ds).live≠[]:=by
 rw [Pt.of_live];exact ⟨List.Pairwise.nil,Nat.zero_add _,hne⟩
theorem ShG.seal (h:ShG ps L D) (lo hi s:Nat) (hne:L≠[]):ShG (ps++[Pt.of lo hi s L]) [] D:=by
 refine ⟨List.Pairwise.nil,h.ord,h.fit,h.perm.trans ?_,fun p hp=>?_⟩
 ·unfold iY;rw [List.flatMap_append,List.nil_append,List.flatMap_cons,List.flatMap_nil,List.append_nil,Pt.of_live];exact List.perm_append_comm
 ·rcases List.mem_append.1 hp with hp | hp
  ·exact h.part p hp
  ·rw [List.mem_singleton.1 hp];exact ShG.fresh lo hi s hne
theorem ShG.tidy (h:ShG ps L D) {i m:Nat} (_:i+m≤ps.length) {M:List Dc} (lo hi s:Nat) (hp:M.Perm (((ps.drop i).take m).flatMap Pt.live)) (hne:M≠[]):ShG (ps.take i++Pt.of lo hi s M::ps.drop (i+m)) L D:=by
 refine ⟨h.sdL,h.ord,h.fit,h.perm.trans ?_,fun p hp=>?_⟩
 ·unfold iY;refine List.Perm.append_left L ?_;have hx:ps=ps.take i++((ps.drop i).take m++ps.drop (i+m)):=by rw [←List.drop_drop,List.take_append_drop,List.take_append_drop]
  have e1:ps.flatMap Pt.live=(ps.take i).flatMap Pt.live++(((ps.drop i).take m).flatMap Pt.live++(ps.drop (i+m)).flatMap Pt.live):=(congrArg (List.flatMap Pt.live) hx).trans (by rw [List.flatMap_append,List.flatMap_append]);rw [e1,List.flatMap_append,List.flatMap_cons,Pt.of_live];exact List.Perm.append_left _ (hp.symm.append_right _)
 ·rcases List.mem_append.1 hp with hp | hp
  ·exact h.part p (List.mem_of_mem_take hp)
  ·rcases List.mem_cons.1 hp with rfl | hp
   ·exact ShG.fresh lo hi s hne
   ·exact h.part p (List.mem_of_mem_drop hp)
theorem ShG.new0:ShG [] [] []:=⟨List.Pairwise.nil,fun i hi=>absurd hi (by simp),⟨by simp,fun d hd=>(by cases hd),(by simp [dsz])⟩,.refl _,fun p hp=>by cases hp⟩
theorem ShG.new1 (lo hi s:Nat) (ho:jZ D) (hf:kq D) (hne:D≠[]):ShG [Pt.of lo hi s D] [] D:=by
 refine ⟨List.Pairwise.nil,ho,hf,?_,fun p hp=>?_⟩
 ·unfold iY;rw [List.nil_append,List.flatMap_cons,List.flatMap_nil,List.append_nil,Pt.of_live]
 ·rw [List.mem_singleton.1 hp];exact ShG.fresh lo hi s hne
end
def B4 (s:Nat) (Ap Al:Option Addr) (ps:List Pt) (k:Nat):Prop:=k=s∨Ap.map (·.block)=some k∨Al.map (·.block)=some k∨∃ p∈ps,p.A.map (·.block)=some k
def pA (s:Nat) (Ap Al:Option Addr) (ps:List Pt) (k:Nat):Prop:=B4 s Ap Al ps k∨∃ p∈ps,p.lo≤k∧k<p.hi
structure ShH (w:World) (ps:List Pt) (L:List Dc) (s:Nat) (Ap:Option Addr) (cp:Nat) (Al:Option Addr) (cl:Nat):Prop where
 blk:Blk w s 63 #[.slice Ap ps.length cp,.slice Al L.length cl]
 rowP:w.ownsRow 0 66 2 (.slice Ap ps.length cp) ps.length (ps.flatMap ptV)
 rowL:w.ownsRow 0 37 2 (.slice Al L.length cl) L.length (L.flatMap dV)
 gone:∀ p∈ps,w.ownsRow 0 9 1 (.slice p.A p.gone.length p.c) p.gone.length (p.gone.map Value.string)
 apart:ps.Pairwise fun p q=>eP p.A q.A
 seg:∀ p∈ps,jT w p.lo p.hi p.s p.ds
 frz:∀ p∈ps,∀ k,p.lo≤k→k<p.hi→¬ B4 s Ap Al ps k
section
variable {V:Nat→Prop} {w w':World} {ps ps':List Pt} {L L':List Dc} {s cp cl cp' cl':Nat} {Ap Al Ap' Al':Option Addr}
theorem ShH.chg (h:ShH w ps L s Ap cp Al cl) (c:Chg V w w') (hV:∀ k,pA s Ap Al ps k→¬ V k):ShH w' ps L s Ap cp Al cl:=
 ⟨h.blk.chg c (hV _ (.inl (.inl rfl))),jg h.rowP c fun q hq=>hV q (.inl (.inr (.inl hq))),jg h.rowL c fun q hq=>hV q (.inl (.inr (.inr (.inl hq)))),
  fun p hp=>jg (h.gone p hp) c fun q hq=>hV q (.inl (.inr (.inr (.inr ⟨p,hp,hq⟩)))),h.apart,fun p hp=>(h.seg p hp).chg c fun k h1 h2=>hV k (.inr ⟨p,hp,h1,h2⟩),h.frz⟩
theorem ShH.from_ (h:ShH w ps L s Ap cp Al cl) (hF:aj w w'):ShH w' ps L s Ap cp Al cl:=h.chg (V:=fun _=>False) hF.toChg fun _ _ h=>h
theorem ShH.lt (h:ShH w ps L s Ap cp Al cl) {k:Nat} (hk:pA s Ap Al ps k):k<w.heap.size:=by
 rcases hk with (rfl | hk | hk | ⟨p,hp,hk⟩) | ⟨p,hp,_,hk⟩
 ·exact h.blk.lt
 ·exact (cd h.rowP k hk).2
 ·exact (cd h.rowL k hk).2
 ·exact (cd (h.gone p hp) k hk).2
 ·obtain ⟨w0,_,_,_,_,h5,_⟩:=h.seg p hp;exact Nat.lt_of_lt_of_le hk h5
theorem cZ {base e sz n c:Nat} {A:Option Addr} {xs:List Value} {g:Nat} {t:TypeId} {cs:Array Value} (h:w.ownsRow base e sz (.slice A n c) n xs) (hb:Blk w g t cs) (hne:t≠e):∀ q,A.map (·.block)=some q→q≠g:=fun q hq e2=>by
 rcases h.2 with ⟨k1,_⟩ | ⟨g1,cap1,cur1,k1,_,k2,_⟩
 ·simp only [Value.slice.injEq] at k1;rw [k1.1] at hq;cases hq
 ·simp only [Value.slice.injEq] at k1;rw [k1.1] at hq;cases hq;have e3:g1=g:=e2;unfold Blk at hb;rw [e3,hb] at k2;simp only [Option.some.injEq,Obj.cells.injEq] at k2;exact hne k2.2.1
theorem ShH.setLoose (h:ShH w ps L s Ap cp Al cl) (c:Chg V w w') (hV:∀ k,V k→k=s∨Al.map (·.block)=some k) (hb:Blk w' s 63 #[.slice Ap ps.length cp,.slice Al' L'.length cl'])
 (hL:w'.ownsRow 0 37 2 (.slice Al' L'.length cl') L'.length (L'.flatMap dV)) (hA:∀ k,Al'.map (·.block)=some k→Al.map (·.block)=some k∨w.heap.size≤k):ShH w' ps L' s Ap cp Al' cl':=by
 refine ⟨hb,jg h.rowP c fun q hq hv=>?_,hL,fun p hp=>jg (h.gone p hp) c fun q hq hv=>?_,h.apart,fun p hp=>(h.seg p hp).chg c fun k h1 h2 hv=>?_,fun p hp k h1 h2 hm=>?_⟩
 ·rcases hV q hv with e | e
  ·exact cZ h.rowP h.blk (by decide) q hq e
  ·exact ft h.rowP h.rowL (by decide) q hq q e rfl
 ·rcases hV q hv with e | e
  ·exact cZ (h.gone p hp) h.blk (by decide) q hq e
  ·exact ft (h.gone p hp) h.rowL (by decide) q hq q e rfl
 ·rcases hV k hv with e | e
  ·exact h.frz p hp k h1 h2 (.inl e)
  ·exact h.frz p hp k h1 h2 (.inr (.inr (.inl e)))
 ·have hlt:=h.lt (.inr ⟨p,hp,h1,h2⟩);rcases hm with e | e | e | e
  ·exact h.frz p hp k h1 h2 (.inl e)
  ·exact h.frz p hp k h1 h2 (.inr (.inl e))
  ·rcases hA k e with e | e
   ·exact h.frz p hp k h1 h2 (.inr (.inr (.inl e)))
   ·omega
  ·exact h.frz p hp k h1 h2 (.inr (.inr (.inr e)))
theorem ShH.setParts (h:ShH w ps L s Ap cp Al cl) (c:Chg V w w') (hV:∀ k,V k→k=s∨Ap.map (·.block)=some k) (hb:Blk w' s 63 #[.slice Ap' ps'.length cp',.slice Al' L'.length cl'])
 (hP:w'.ownsRow 0 66 2 (.slice Ap' ps'.length cp') ps'.length (ps'.flatMap ptV)) (hA:∀ k,Ap'.map (·.block)=some k→Ap.map (·.block)=some k∨w.heap.size≤k)
 (hL:(Al'=Al∧cl'=cl∧L'=L)∨(Al'=none∧cl'=0∧L'=[]))
 (hps:∀ p∈ps',p∈ps∨(p.A=none∧p.c=0∧p.gone=[]∧jT w p.lo p.hi p.s p.ds∧∀ k,p.lo≤k→k<p.hi→¬ B4 s Ap Al ps k)) (hpw:ps'.Pairwise fun p q=>eP p.A q.A):ShH w' ps' L' s Ap' cp' Al' cl':=by
 have hfr:∀ p∈ps',jT w p.lo p.hi p.s p.ds∧∀ k,p.lo≤k→k<p.hi→¬ B4 s Ap Al ps k:=fun p hp=>by
  rcases hps p hp with e | e
  ·exact ⟨h.seg p e,h.frz p e⟩
  ·exact ⟨e.2.2.2.1,e.2.2.2.2⟩
 refine ⟨hb,hP,?_,fun p hp=>?_,hpw,fun p hp=>(hfr p hp).1.chg c fun k h1 h2 hv=>?_,fun p hp k h1 h2 hm=>?_⟩
 ·rcases hL with ⟨rfl,rfl,rfl⟩ | ⟨rfl,rfl,rfl⟩
  ·refine jg h.rowL c fun q hq hv=>?_
   rcases hV q hv with e | e
   ·exact cZ h.rowL h.blk (by decide) q hq e
   ·exact ft h.rowL h.rowP (by decide) q hq q e rfl
  ·exact World.ownsRow_nil _ _ _ _
 ·rcases hps p hp with e | ⟨e1,e2,e3,_⟩
  ·refine jg (h.gone p e) c fun q hq hv=>?_
   rcases hV q hv with e2 | e2
   ·exact cZ (h.gone p e) h.blk (by decide) q hq e2
   ·exact ft (h.gone p e) h.rowP (by decide) q hq q e2 rfl
  ·rw [e1,e2,e3];exact World.ownsRow_nil _ _ _ _
 ·rcases hV k hv with e | e
  ·exact (hfr p hp).2 k h1 h2 (.inl e)
  ·exact (hfr p hp).2 k h1 h2 (.inr (.inl e))
 ·have hlt:k<w.heap.size:=by
   obtain ⟨w0,_,_,_,_,h5,_⟩:=(hfr p hp).1;exact Nat.lt_of_lt_of_le h2 h5
  rcases hm with e | e | e | ⟨q,hq,e⟩
  ·exact (hfr p hp).2 k h1 h2 (.inl e)
  ·rcases hA k e with e | e
   ·exact (hfr p hp).2 k h1 h2 (.inr (.inl e))
   ·omega
  ·rcases hL with ⟨rfl,_,_⟩ | ⟨rfl,_,_⟩
   ·exact (hfr p hp).2 k h1 h2 (.inr (.inr (.inl e)))
   ·cases e
  ·rcases hps q hq with e2 | ⟨e2,_⟩
   ·exact (hfr p hp).2 k h1 h2 (.inr (.inr (.inr ⟨q,e2,e⟩)))
   ·rw [e2] at e;cases e
theorem ShH.setGone (h:ShH w ps L s Ap cp Al cl) {i:Nat} (hi:i<ps.length) {A:Option Addr} {c:Nat} {gs:List ByteArray} (c_:Chg V w w') (hV:∀ k,V k→Ap.map (·.block)=some k∨ps[i].A.map (·.block)=some k)
 (hP:w'.ownsRow 0 66 2 (.slice Ap ps.length cp) ps.length ((ps.set i { ps[i] with A:=A,c:=c,gone:=gs }).flatMap ptV))
 (hG:w'.ownsRow 0 9 1 (.slice A gs.length c) gs.length (gs.map Value.string)) (hA:∀ k,A.map (·.block)=some k→ps[i].A.map (·.block)=some k∨w.heap.size≤k) :
 ShH w' (ps.set i { ps[i] with A:=A,c:=c,gone:=gs }) L s Ap cp Al cl:=by
 have hset:∀ q:Pt,ps.set i q=ps.take i++q::ps.drop (i+1):=fun q=>by rw [List.set_eq_take_append_cons_drop,if_pos hi]
 have hmi:=List.getElem_mem hi
 have hap:∀ j (hj:j<ps.length),j≠i→eP ps[j].A ps[i].A:=fun j hj hne=>by
  rcases Nat.lt_or_gt_of_ne hne with e | e
  ·exact List.pairwise_iff_getElem.1 h.apart j i hj hi e
  ·exact (List.pairwise_iff_getElem.1 h.apart i j hi hj e).symm
 have hap2:∀ j (hj:j<ps.length),j≠i→eP ps[j].A A:=fun j hj hne p hp q hq e=>by
  rcases hA q hq with k | k
  ·exact hap j hj hne p hp q k e
  ·have:=(cd (h.gone _ (List.getElem_mem hj)) p hp).2;omega
 have hmem:∀ q∈ps.set i { ps[i] with A:=A,c:=c,gone:=gs },(∃ j,∃ hj:j<ps.length,j≠i∧q=ps[j])∨q={ ps[i] with A:=A,c:=c,gone:=gs }:=fun q hq=>by
  obtain ⟨j,hj,rfl⟩:=List.getElem_of_mem hq;rw [List.length_set] at hj;rw [List.getElem_set];by_cases e:i=j
  ·exact .inr (by rw [if_pos e])
  ·exact .inl ⟨j,hj,fun e2=>e e2.symm,by rw [if_neg e]⟩
 have hseg:∀ q∈ps.set i { ps[i] with A:=A,c:=c,gone:=gs },∃ p∈ps,q.lo=p.lo∧q.hi=p.hi∧q.s=p.s∧q.ds=p.ds:=fun q hq=>by
  rcases hmem q hq with ⟨j,hj,_,rfl⟩ | rfl
  ·exact ⟨_,List.getElem_mem hj,rfl,rfl,rfl,rfl⟩
  ·exact ⟨_,hmi,rfl,rfl,rfl,rfl⟩
 have hmut:∀ k,B4 s Ap Al (ps.set i { ps[i] with A:=A,c:=c,gone:=gs }) k→B4 s Ap Al ps k∨w.heap.size≤k:=fun k hm=>by
  rcases hm with e | e | e | ⟨q,hq,e⟩
  ·exact .inl (.inl e)
  ·exact .inl (.inr (.inl e))
  ·exact .inl (.inr (.inr (.inl e)))
  ·rcases hmem q hq with ⟨j,hj,_,rfl⟩ | rfl
   ·exact .inl (.inr (.inr (.inr ⟨_,List.getElem_mem hj,e⟩)))
   ·rcases hA k e with e | e
    ·exact .inl (.inr (.inr (.inr ⟨_,hmi,e⟩)))
    ·exact .inr e
 refine ⟨?_,by rw [List.length_set];exact hP,jg h.rowL c_ fun q hq hv=>?_,fun p hp=>?_,?_,fun p hp=>?_,fun p hp k h1 h2 hm=>?_⟩
 ·rw [List.length_set];refine h.blk.chg c_ fun hv=>?_
  rcases hV s hv with e | e
  ·exact cZ h.rowP h.blk (by decide) s e rfl
  ·exact cZ (h.gone _ hmi) h.blk (by decide) s e rfl
 ·rcases hV q hv with e | e
  ·exact ft h.rowL h.rowP (by decide) q hq q e rfl
  ·exact ft h.rowL (h.gone _ hmi) (by decide) q hq q e rfl
 ·rcases hmem p hp with ⟨j,hj,hne,rfl⟩ | rfl
  ·refine jg (h.gone _ (List.getElem_mem hj)) c_ fun q hq hv=>?_
   rcases hV q hv with e | e
   ·exact ft (h.gone _ (List.getElem_mem hj)) h.rowP (by decide) q hq q e rfl
   ·exact hap j hj hne q hq q e rfl
  ·exact hG
 ·rw [List.pairwise_iff_getElem];intro a b ha hb hab;rw [List.length_set] at ha hb;rw [List.getElem_set,List.getElem_set];by_cases ea:i=a
  ·subst ea;rw [if_pos rfl,if_neg (by omega)];exact (hap2 b hb (by omega)).symm
  ·rw [if_neg ea];by_cases eb:i=b
   ·subst eb;rw [if_pos rfl];exact hap2 a ha (by omega)
   ·rw [if_neg eb];exact List.pairwise_iff_getElem.1 h.apart a b ha hb hab
 ·obtain ⟨q,hq,e1,e2,e3,e4⟩:=hseg p hp;rw [e1,e2,e3,e4];refine (h.seg q hq).chg c_ fun k h1 h2 hv=>h.frz q hq k h1 h2 ?_
  rcases hV k hv with e | e
  ·exact .inr (.inl e)
  ·exact .inr (.inr (.inr ⟨_,hmi,e⟩))
 ·obtain ⟨q,hq,e1,e2,_⟩:=hseg p hp;rw [e1] at h1;rw [e2] at h2;rcases hmut k hm with e | e
  ·exact h.frz q hq k h1 h2 e
  ·have:=h.lt (.inr ⟨q,hq,h1,h2⟩);omega
end
def Nx (U:Nat→Prop) (w w':World) (k:Nat):Prop:=U k∨(w.heap.size≤k∧k<w'.heap.size)
def eZ (w:World) (U:Nat→Prop) (s:Nat) (D:List Dc):Prop:=∃ ps L Ap cp Al cl,ShG ps L D∧ShH w ps L s Ap cp Al cl∧∀ k,pA s Ap Al ps k→U k
section
variable {U V:Nat→Prop} {w w':World} {s:Nat} {D:List Dc}
theorem eZ.chg (h:eZ w U s D) (c:Chg V w w') (hV:∀ k,U k→¬ V k):eZ w' U s D:=by
 obtain ⟨ps,L,Ap,cp,Al,cl,h1,h2,h3⟩:=h;exact ⟨ps,L,Ap,cp,Al,cl,h1,h2.chg c fun k hk=>hV k (h3 k hk),h3⟩
theorem eZ.from_ (h:eZ w U s D) (hF:aj w w'):eZ w' U s D:=h.chg (V:=fun _=>False) hF.toChg fun _ _ h=>h
theorem eZ.wide (h:eZ w U s D) (hU:∀ k,U k→k<w.heap.size→V k):eZ w V s D:=by
 obtain ⟨ps,L,Ap,cp,Al,cl,h1,h2,h3⟩:=h;exact ⟨ps,L,Ap,cp,Al,cl,h1,h2,fun k hk=>hU k (h3 k hk) (h2.lt hk)⟩
theorem Nx.trans {w2:World} (h1:w.heap.size≤w'.heap.size) (h2:w'.heap.size≤w2.heap.size) {k:Nat} (h:Nx (Nx U w w') w' w2 k):Nx U w w2 k:=by
 rcases h with (h | h) | h
 ·exact .inl h
 ·exact .inr ⟨h.1,by omega⟩
 ·exact .inr ⟨by omega,h.2⟩
end
end Go.Proofs.YtcbakncjacnnjaaGreat
namespace Go.Proofs.YtcbakncjacnnjaaGreat
open Go.Proofs.Tryz (prog)
open Go.RowKit
open Go.ChangeShapes Go.WideShapes Go.ChangeAt
open Go.Proofs.YtcbakncjacnnjaaGreat.SA
theorem G0 (base s:Nat) (ds:List Dc) (w:World) (hs:ix w base s ds) :
 Rt prog 72 [.pointer (some ⟨s,0,none⟩)] w (fun v w'=>(∃ A' c',v=.slice A' ds.length c'∧w'.ownsRow w.heap.size 37 2 (.slice A' ds.length c') ds.length (ds.flatMap dV))∧aj w w'):=by
 obtain ⟨hb0,x,bd,a,B,F,A,c,hI,hf,hb,ho,hO,hD⟩:=hs;have hDl:=hD.1;have hrD:=(dg.own bz (by decide) ho).2;refine enter (n:=8) Tryz.func72 rfl rfl rfl (af (aa (ass rfl (ah (ab (af (aa (mvp rfl (ae (ar rfl) (ae (ak fO rfl) (ae (an cQ rfl (by exact (hI.from_ aj.rfl_).rd 1 rfl)) ?_)))))))))));refine aF mi (ur A c ds.length ds _ (hrD.from_ aj.rfl_) rfl (fun h=>by subst h;exact ⟨oY ho,jI ho⟩) (by omega)) ?_;rintro v7 w1 ⟨⟨A7,c7,rfl,ho7⟩,E7⟩;refine ass rfl (ah (ab (ay (bE (v:=.slice _ _ _) rfl rfl (⟨⟨A7,c7,rfl,ho7⟩,(aj.rfl_.next E7)⟩)))))
end Go.Proofs.YtcbakncjacnnjaaGreat
