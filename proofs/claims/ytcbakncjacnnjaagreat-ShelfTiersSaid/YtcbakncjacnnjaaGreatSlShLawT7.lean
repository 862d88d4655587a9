/- The law ShelfTiers. -/
import Derived.Test.YtcbakncjacnnjaaGreatSlShLawT6
import Derived.HandedShaped
set_option maxRecDepth 100000
set_option maxHeartbeats 4000000
namespace Go.Proofs.YtcbakncjacnnjaaGreat
open Go.Proofs.Tryz (prog)
open Go.RowKit
open Go.ChangeShapes Go.WideShapes Go.ChangeAt
theorem kd:az prog 119=true:=by kernel_rfl
theorem l9:az prog 212=true:=by kernel_rfl
theorem vC {b c:Bool} (h:b=true→c=true) (k:c=false):b=false:=by
 cases b with
 |false=>rfl
 |true=>rw [h rfl] at k;cases k
theorem Ax (a b:ByteArray) (w:World):Rt prog 46 [.string a,.string b] w fun v w'=>v=.int .i64 (iW a b)∧w=w':=
 Calls.mono (Tryz.strings_Compare a b w) fun e w' h=>⟨_,h.1,by unfold iW;rw [Lib.toList_data,Lib.toList_data],h.2.symm⟩
theorem qy (a b:Dc) (w:World) :
 Rt prog 119 [.agg (dV a).toArray,.agg (dV b).toArray] w (fun v w'=>v=.int .i64 (iW a.1 b.1)∧aj w w'):=by
 refine enter (n:=10) Tryz.func119 rfl rfl rfl (af (aa (cK (v:=.agg _) rfl ?_)));intro b2 w1 E2 hb2 hk2;refine cK (v:=.agg _) rfl ?_;intro b3 w2 E3 hb3 hk3;refine asi rfl (ah (ab (af (aa (ae (ak bq rfl) (ae (an bC rfl (by exact (hk2.from_ E3).rd 0 rfl)) ?_))))));refine ae (ak bq rfl) (ae (an bC rfl (by exact hk3.rd 0 rfl)) ?_);refine aF ik (Ax a.1 b.1 _) ?_;rintro v9 w3 ⟨rfl,rfl⟩;refine asi rfl (ah (ab (ay (bE (v:=.int _ _) rfl rfl (⟨rfl,((aj.rfl_.next E2).next E3)⟩)))))
theorem qI (base:Nat) (A:Option Addr) (c n:Nat) (xs:List Dc) (w:World) (ho:w.ownsRow base 37 2 (.slice A n c) n (xs.flatMap dV)) (_:base≤w.heap.size) (hl:n≤100000000) (a b q:Nat) (hab:a+q≤b) (hbn:b+q≤n) :
 Rt prog 212 [.slice A n c,.int .i64 (a:Nat),.int .i64 (b:Nat),.int .i64 (q:Nat),.func (.func 119) #[] #[]] w (fun _ w'=>∃ ys,w'.ownsRow base 37 2 (.slice A n c) n (List.flatMap dV ys)∧w.grownBy w' (A.map (·.block))∧SM.PW Dz a (b+q) xs ys∧∀ k,SM.G Dz ys k=SM.swr a b q (SM.G Dz xs) k):=by
 have hxl:=fF bz ho;refine enter (n:=38) Tryz.func212 rfl rfl rfl (af (aa (asi rfl (ah (ab (aw (a_ (G:=Nat×List Dc) [11,12,13,14,15,16,17,18,19,20,21,22,23,24,25,26,27,28,29,30,31,32,33,34,35,36,37] (fun (i,_)=>[(10,.int .i64 (i:Nat))]) (fun (i,ys) w'=>i≤q∧w'.ownsRow base 37 2 (.slice A n c) n (List.flatMap dV ys)∧w.grownBy w' (A.map (·.block))∧SM.PW Dz a (b+q) xs ys∧∀ k,SM.G Dz ys k=SM.swr a b i (SM.G Dz xs) k) (fun (i,_)=>q-i) ((0,xs)) ⟨rfl,trivial⟩ ?_ ?_)))))))
 ·exact ⟨Nat.zero_le _,ho,World.grownBy.refl _ _,.rfl_,fun k=>(SM.swr_zero a b _ k).symm⟩
 rintro ⟨i,ys⟩ ρ1 w1 ⟨hi,hoy,hG0,hP,hR⟩;refine af (af (aa (mvi rfl (mvi rfl (ae (aW rfl rfl) (ah (ab (JV rfl (fun Q2=>?_) (fun Q2=>?_)))))))))
 ·obtain ⟨g,rfl⟩:=dm ho (by omega);have hyl:=fF bz hoy;refine av (ab (af (aw ?_)));have hU3:nt [(0,16,.slice (some ⟨g,0,none⟩) n c),(1,17,.int .i64 ((a:Nat):Int)),(2,18,.int .i64 ((i:Nat):Int)),(3,19,.int .i64 (((a+i):Nat):Int)),(4,20,.slice (some ⟨g,0,none⟩) n c),(5,21,.int .i64 ((b:Nat):Int)),(6,22,.int .i64 ((i:Nat):Int)),(7,23,.int .i64 (((b+i):Nat):Int)),(8,24,.slice (some ⟨g,0,none⟩) n c),(9,25,.int .i64 ((b:Nat):Int)),(10,26,.int .i64 ((i:Nat):Int)),(11,27,.int .i64 (((b+i):Nat):Int)),(12,28,.pointer (some ⟨g,0+(b+i)*2,none⟩)),(13,29,.agg (dV (SM.G Dz ys (b+i))).toArray),(14,30,.slice (some ⟨g,0,none⟩) n c),(15,31,.int .i64 ((a:Nat):Int)),(16,32,.int .i64 ((i:Nat):Int)),(17,33,.int .i64 (((a+i):Nat):Int)),(18,34,.pointer (some ⟨g,0+(a+i)*2,none⟩)),(19,35,.agg (dV (SM.G Dz ys (a+i))).toArray),(20,36,.pointer (some ⟨g,0+(a+i)*2,none⟩)),(22,37,.pointer (some ⟨g,0+(b+i)*2,none⟩))]:=by simp [nt]
  refine oc [(0,16,.slice (some ⟨g,0,none⟩) n c),(1,17,.int .i64 ((a:Nat):Int)),(2,18,.int .i64 ((i:Nat):Int)),(3,19,.int .i64 (((a+i):Nat):Int)),(4,20,.slice (some ⟨g,0,none⟩) n c),(5,21,.int .i64 ((b:Nat):Int)),(6,22,.int .i64 ((i:Nat):Int)),(7,23,.int .i64 (((b+i):Nat):Int)),(8,24,.slice (some ⟨g,0,none⟩) n c),(9,25,.int .i64 ((b:Nat):Int)),(10,26,.int .i64 ((i:Nat):Int)),(11,27,.int .i64 (((b+i):Nat):Int)),(12,28,.pointer (some ⟨g,0+(b+i)*2,none⟩)),(13,29,.agg (dV (SM.G Dz ys (b+i))).toArray),(14,30,.slice (some ⟨g,0,none⟩) n c),(15,31,.int .i64 ((a:Nat):Int)),(16,32,.int .i64 ((i:Nat):Int)),(17,33,.int .i64 (((a+i):Nat):Int)),(18,34,.pointer (some ⟨g,0+(a+i)*2,none⟩)),(19,35,.agg (dV (SM.G Dz ys (a+i))).toArray),(20,36,.pointer (some ⟨g,0+(a+i)*2,none⟩)),(22,37,.pointer (some ⟨g,0+(b+i)*2,none⟩))] (fun S w'=>World.grownBy w1 w' (some g)∧(S 21=false→w'.ownsRow base 37 2 (.slice (some ⟨g,0,none⟩) n c) n (List.flatMap dV ys))∧(S 21=true→S 13=true∧S 19=true)∧(S 21=true→S 23=false→w'.ownsRow base 37 2 (.slice (some ⟨g,0,none⟩) n c) n (List.flatMap dV (ys.set (a+i) (SM.G Dz ys (b+i)))))∧(S 21=true→S 23=true→w'.ownsRow base 37 2 (.slice (some ⟨g,0,none⟩) n c) n (List.flatMap dV ((ys.set (a+i) (SM.G Dz ys (b+i))).set (b+i) (SM.G Dz ys (a+i)))))∧(S 21=false→S 23=false)) (by kernel_rfl) (by kernel_rfl) hU3 (by simp) (⟨(aj.rfl_.d1 (a:=w1)).grown _,fun _=>hoy.kept_from aj.rfl_.d1,fun q=>Bool.noConfusion q,fun q=>Bool.noConfusion q,fun q=>Bool.noConfusion q,fun _=>rfl⟩) ?_ ?_
  ·constructor
   ·rintro S L' wS hI hM hS0 ⟨-⟩;have e0:=hI.1 0 (by simp);have hM':=hM;obtain ⟨hG,hA,hB1,hC,hD,hE⟩:=hM';exact bf (aq e0) ⟨hI.put hU3 (.head _),hM⟩
   constructor
   ·rintro S L' wS hI hM hS0 ⟨-⟩;have e1:=hI.1 1 (by simp);have hM':=hM;obtain ⟨hG,hA,hB1,hC,hD,hE⟩:=hM';exact bf (aq e1) ⟨hI.put hU3 (.tail _ (.head _)),hM⟩
   constructor
   ·rintro S L' wS hI hM hS0 ⟨-⟩;have e10:=hI.1 10 (by simp);have hM':=hM;obtain ⟨hG,hA,hB1,hC,hD,hE⟩:=hM';exact bf (aq e10) ⟨hI.put hU3 (.tail _ (.tail _ (.head _))),hM⟩
   constructor
   ·rintro S L' wS hI hM hS0 ⟨d1,d2,-⟩;have e17:aY L' 17=.int .i64 ((a:Nat):Int):=hI.get (i:=1) (.tail _ (.head _)) d1;have e18:aY L' 18=.int .i64 ((i:Nat):Int):=hI.get (i:=2) (.tail _ (.tail _ (.head _))) d2;have hM':=hM;obtain ⟨hG,hA,hB1,hC,hD,hE⟩:=hM';exact bf (aG (a:=a) (b:=i) e17 e18 (by omega)) ⟨hI.put hU3 (.tail _ (.tail _ (.tail _ (.head _)))),hM⟩
   constructor
   ·rintro S L' wS hI hM hS0 ⟨-,-⟩;have e0:=hI.1 0 (by simp);have hM':=hM;obtain ⟨hG,hA,hB1,hC,hD,hE⟩:=hM';exact bf (aq e0) ⟨hI.put hU3 (.tail _ (.tail _ (.tail _ (.tail _ (.head _))))),hM⟩
   constructor
   ·rintro S L' wS hI hM hS0 ⟨-,-⟩;have e2:=hI.1 2 (by simp);have hM':=hM;obtain ⟨hG,hA,hB1,hC,hD,hE⟩:=hM';exact bf (aq e2) ⟨hI.put hU3 (.tail _ (.tail _ (.tail _ (.tail _ (.tail _ (.head _)))))),hM⟩
   constructor
   ·rintro S L' wS hI hM hS0 ⟨-,-⟩;have e10:=hI.1 10 (by simp);have hM':=hM;obtain ⟨hG,hA,hB1,hC,hD,hE⟩:=hM';exact bf (aq e10) ⟨hI.put hU3 (.tail _ (.tail _ (.tail _ (.tail _ (.tail _ (.tail _ (.head _))))))),hM⟩
   constructor
   ·rintro S L' wS hI hM hS0 ⟨d5,d6,-,-⟩;have e21:aY L' 21=.int .i64 ((b:Nat):Int):=hI.get (i:=5) (.tail _ (.tail _ (.tail _ (.tail _ (.tail _ (.head _)))))) d5;have e22:aY L' 22=.int .i64 ((i:Nat):Int):=hI.get (i:=6) (.tail _ (.tail _ (.tail _ (.tail _ (.tail _ (.tail _ (.head _))))))) d6;have hM':=hM;obtain ⟨hG,hA,hB1,hC,hD,hE⟩:=hM';exact bf (aG (a:=b) (b:=i) e21 e22 (by omega)) ⟨hI.put hU3 (.tail _ (.tail _ (.tail _ (.tail _ (.tail _ (.tail _ (.tail _ (.head _)))))))),hM⟩
   constructor
   ·rintro S L' wS hI hM hS0 ⟨-⟩;have e0:=hI.1 0 (by simp);have hM':=hM;obtain ⟨hG,hA,hB1,hC,hD,hE⟩:=hM';exact bf (aq e0) ⟨hI.put hU3 (.tail _ (.tail _ (.tail _ (.tail _ (.tail _ (.tail _ (.tail _ (.tail _ (.head _))))))))),hM⟩
   constructor
   ·rintro S L' wS hI hM hS0 ⟨-⟩;have e2:=hI.1 2 (by simp);have hM':=hM;obtain ⟨hG,hA,hB1,hC,hD,hE⟩:=hM';exact bf (aq e2) ⟨hI.put hU3 (.tail _ (.tail _ (.tail _ (.tail _ (.tail _ (.tail _ (.tail _ (.tail _ (.tail _ (.head _)))))))))),hM⟩
   constructor
   ·rintro S L' wS hI hM hS0 ⟨-⟩;have e10:=hI.1 10 (by simp);have hM':=hM;obtain ⟨hG,hA,hB1,hC,hD,hE⟩:=hM';exact bf (aq e10) ⟨hI.put hU3 (.tail _ (.tail _ (.tail _ (.tail _ (.tail _ (.tail _ (.tail _ (.tail _ (.tail _ (.tail _ (.head _))))))))))),hM⟩
   constructor
   ·rintro S L' wS hI hM hS0 ⟨d9,d10,-⟩;have e25:aY L' 25=.int .i64 ((b:Nat):Int):=hI.get (i:=9) (.tail _ (.tail _ (.tail _ (.tail _ (.tail _ (.tail _ (.tail _ (.tail _ (.tail _ (.head _)))))))))) d9;have e26:aY L' 26=.int .i64 ((i:Nat):Int):=hI.get (i:=10) (.tail _ (.tail _ (.tail _ (.tail _ (.tail _ (.tail _ (.tail _ (.tail _ (.tail _ (.tail _ (.head _))))))))))) d10;have hM':=hM;obtain ⟨hG,hA,hB1,hC,hD,hE⟩:=hM';exact bf (aG (a:=b) (b:=i) e25 e26 (by omega)) ⟨hI.put hU3 (.tail _ (.tail _ (.tail _ (.tail _ (.tail _ (.tail _ (.tail _ (.tail _ (.tail _ (.tail _ (.tail _ (.head _)))))))))))),hM⟩
   constructor
   ·rintro S L' wS hI hM hS0 ⟨d8,d11,-⟩;have e24:aY L' 24=.slice (some ⟨g,0,none⟩) n c:=hI.get (i:=8) (.tail _ (.tail _ (.tail _ (.tail _ (.tail _ (.tail _ (.tail _ (.tail _ (.head _))))))))) d8;have e27:aY L' 27=.int .i64 (((b+i):Nat):Int):=hI.get (i:=11) (.tail _ (.tail _ (.tail _ (.tail _ (.tail _ (.tail _ (.tail _ (.tail _ (.tail _ (.tail _ (.tail _ (.head _)))))))))))) d11;have hM':=hM;obtain ⟨hG,hA,hB1,hC,hD,hE⟩:=hM';exact bf (aM (i:=(b+i)) aT e24 e27 (by omega)) ⟨hI.put hU3 (.tail _ (.tail _ (.tail _ (.tail _ (.tail _ (.tail _ (.tail _ (.tail _ (.tail _ (.tail _ (.tail _ (.tail _ (.head _))))))))))))),hM⟩
   constructor
   ·rintro S L' wS hI hM hS0 ⟨d12,-⟩;have e28:aY L' 28=.pointer (some ⟨g,0+(b+i)*2,none⟩):=hI.get (i:=12) (.tail _ (.tail _ (.tail _ (.tail _ (.tail _ (.tail _ (.tail _ (.tail _ (.tail _ (.tail _ (.tail _ (.tail _ (.head _))))))))))))) d12;have hM':=hM;obtain ⟨hG,hA,hB1,hC,hD,hE⟩:=hM';exact bf (bn (cs:=dV (SM.G Dz ys (b+i))) bK bh e28 (eU bz Dz (hA (vC (fun q=>(hB1 q).1) hS0)) (by omega))) ⟨hI.put hU3 (.tail _ (.tail _ (.tail _ (.tail _ (.tail _ (.tail _ (.tail _ (.tail _ (.tail _ (.tail _ (.tail _ (.tail _ (.tail _ (.head _)))))))))))))),hG,hA,fun q=>⟨rfl,(hB1 q).2⟩,hC,hD,hE⟩
   constructor
   ·rintro S L' wS hI hM hS0 ⟨-⟩;have e0:=hI.1 0 (by simp);have hM':=hM;obtain ⟨hG,hA,hB1,hC,hD,hE⟩:=hM';exact bf (aq e0) ⟨hI.put hU3 (.tail _ (.tail _ (.tail _ (.tail _ (.tail _ (.tail _ (.tail _ (.tail _ (.tail _ (.tail _ (.tail _ (.tail _ (.tail _ (.tail _ (.head _))))))))))))))),hM⟩
   constructor
   ·rintro S L' wS hI hM hS0 ⟨-⟩;have e1:=hI.1 1 (by simp);have hM':=hM;obtain ⟨hG,hA,hB1,hC,hD,hE⟩:=hM';exact bf (aq e1) ⟨hI.put hU3 (.tail _ (.tail _ (.tail _ (.tail _ (.tail _ (.tail _ (.tail _ (.tail _ (.tail _ (.tail _ (.tail _ (.tail _ (.tail _ (.tail _ (.tail _ (.head _)))))))))))))))),hM⟩
   constructor
   ·rintro S L' wS hI hM hS0 ⟨-⟩;have e10:=hI.1 10 (by simp);have hM':=hM;obtain ⟨hG,hA,hB1,hC,hD,hE⟩:=hM';exact bf (aq e10) ⟨hI.put hU3 (.tail _ (.tail _ (.tail _ (.tail _ (.tail _ (.tail _ (.tail _ (.tail _ (.tail _ (.tail _ (.tail _ (.tail _ (.tail _ (.tail _ (.tail _ (.tail _ (.head _))))))))))))))))),hM⟩
   constructor
   ·rintro S L' wS hI hM hS0 ⟨d15,d16,-⟩;have e31:aY L' 31=.int .i64 ((a:Nat):Int):=hI.get (i:=15) (.tail _ (.tail _ (.tail _ (.tail _ (.tail _ (.tail _ (.tail _ (.tail _ (.tail _ (.tail _ (.tail _ (.tail _ (.tail _ (.tail _ (.tail _ (.head _)))))))))))))))) d15;have e32:aY L' 32=.int .i64 ((i:Nat):Int):=hI.get (i:=16) (.tail _ (.tail _ (.tail _ (.tail _ (.tail _ (.tail _ (.tail _ (.tail _ (.tail _ (.tail _ (.tail _ (.tail _ (.tail _ (.tail _ (.tail _ (.tail _ (.head _))))))))))))))))) d16;have hM':=hM;obtain ⟨hG,hA,hB1,hC,hD,hE⟩:=hM';exact bf (aG (a:=a) (b:=i) e31 e32 (by omega)) ⟨hI.put hU3 (.tail _ (.tail _ (.tail _ (.tail _ (.tail _ (.tail _ (.tail _ (.tail _ (.tail _ (.tail _ (.tail _ (.tail _ (.tail _ (.tail _ (.tail _ (.tail _ (.tail _ (.head _)))))))))))))))))),hM⟩
   constructor
   ·rintro S L' wS hI hM hS0 ⟨d14,d17,-⟩;have e30:aY L' 30=.slice (some ⟨g,0,none⟩) n c:=hI.get (i:=14) (.tail _ (.tail _ (.tail _ (.tail _ (.tail _ (.tail _ (.tail _ (.tail _ (.tail _ (.tail _ (.tail _ (.tail _ (.tail _ (.tail _ (.head _))))))))))))))) d14;have e33:aY L' 33=.int .i64 (((a+i):Nat):Int):=hI.get (i:=17) (.tail _ (.tail _ (.tail _ (.tail _ (.tail _ (.tail _ (.tail _ (.tail _ (.tail _ (.tail _ (.tail _ (.tail _ (.tail _ (.tail _ (.tail _ (.tail _ (.tail _ (.head _)))))))))))))))))) d17;have hM':=hM;obtain ⟨hG,hA,hB1,hC,hD,hE⟩:=hM';exact bf (aM (i:=(a+i)) aT e30 e33 (by omega)) ⟨hI.put hU3 (.tail _ (.tail _ (.tail _ (.tail _ (.tail _ (.tail _ (.tail _ (.tail _ (.tail _ (.tail _ (.tail _ (.tail _ (.tail _ (.tail _ (.tail _ (.tail _ (.tail _ (.tail _ (.head _))))))))))))))))))),hM⟩
   constructor
   ·rintro S L' wS hI hM hS0 ⟨d18,-⟩;have e34:aY L' 34=.pointer (some ⟨g,0+(a+i)*2,none⟩):=hI.get (i:=18) (.tail _ (.tail _ (.tail _ (.tail _ (.tail _ (.tail _ (.tail _ (.tail _ (.tail _ (.tail _ (.tail _ (.tail _ (.tail _ (.tail _ (.tail _ (.tail _ (.tail _ (.tail _ (.head _))))))))))))))))))) d18;have hM':=hM;obtain ⟨hG,hA,hB1,hC,hD,hE⟩:=hM';exact bf (bn (cs:=dV (SM.G Dz ys (a+i))) bK bh e34 (eU bz Dz (hA (vC (fun q=>(hB1 q).2) hS0)) (by omega))) ⟨hI.put hU3 (.tail _ (.tail _ (.tail _ (.tail _ (.tail _ (.tail _ (.tail _ (.tail _ (.tail _ (.tail _ (.tail _ (.tail _ (.tail _ (.tail _ (.tail _ (.tail _ (.tail _ (.tail _ (.tail _ (.head _)))))))))))))))))))),hG,hA,fun q=>⟨(hB1 q).1,rfl⟩,hC,hD,hE⟩
   constructor
   ·rintro S L' wS hI hM hS0 ⟨d0,d3,d0,d1,d2,d3,-,-,-,-,d8,d9,d10,d11,d12,d13,-,-,-,-,-,d19,-⟩;have e16:aY L' 16=.slice (some ⟨g,0,none⟩) n c:=hI.get (i:=0) (.head _) d0;have e19:aY L' 19=.int .i64 (((a+i):Nat):Int):=hI.get (i:=3) (.tail _ (.tail _ (.tail _ (.head _)))) d3;have hM':=hM;obtain ⟨hG,hA,hB1,hC,hD,hE⟩:=hM';exact bf (aM (i:=(a+i)) aT e16 e19 (by omega)) ⟨hI.put hU3 (.tail _ (.tail _ (.tail _ (.tail _ (.tail _ (.tail _ (.tail _ (.tail _ (.tail _ (.tail _ (.tail _ (.tail _ (.tail _ (.tail _ (.tail _ (.tail _ (.tail _ (.tail _ (.tail _ (.tail _ (.head _))))))))))))))))))))),hM⟩
   constructor
   ·rintro S L' wS hI hM hS0 ⟨d20,d13,d0,d1,d2,d3,-,-,-,-,d8,d9,d10,d11,d12,d13,-,-,-,-,-,d19,-⟩;have e29:aY L' 29=.agg (dV (SM.G Dz ys (b+i))).toArray:=hI.get (i:=13) (.tail _ (.tail _ (.tail _ (.tail _ (.tail _ (.tail _ (.tail _ (.tail _ (.tail _ (.tail _ (.tail _ (.tail _ (.tail _ (.head _)))))))))))))) d13;have e36:aY L' 36=.pointer (some ⟨g,0+(a+i)*2,none⟩):=hI.get (i:=20) (.tail _ (.tail _ (.tail _ (.tail _ (.tail _ (.tail _ (.tail _ (.tail _ (.tail _ (.tail _ (.tail _ (.tail _ (.tail _ (.tail _ (.tail _ (.tail _ (.tail _ (.tail _ (.tail _ (.tail _ (.head _))))))))))))))))))))) d20;have hM':=hM;obtain ⟨hG,hA,hB1,hC,hD,hE⟩:=hM';obtain ⟨w2,hR,hO,hb⟩:=fD (n:=38) (L:=L') (x:=.tmp 36) (y:=.tmp 29) (f:=dV) bz jk (i:=(a+i)) bh e36 e29 (hA hS0) (by omega);exact gU hR ⟨hI.skip (by simp),aN hG hO.grown,fun q=>Bool.noConfusion q,fun _=>⟨d13,d19⟩,fun _ _=>hb,fun _ q=>Bool.noConfusion (q.symm.trans (hE hS0)),fun q=>Bool.noConfusion q⟩
   constructor
   ·rintro S L' wS hI hM hS0 ⟨d4,d7,d0,d1,d2,d3,d4,d5,d6,d7,d8,d9,d10,d11,d12,d13,d14,d15,d16,d17,d18,d19,d20,d21,-⟩;have e20:aY L' 20=.slice (some ⟨g,0,none⟩) n c:=hI.get (i:=4) (.tail _ (.tail _ (.tail _ (.tail _ (.head _))))) d4;have e23:aY L' 23=.int .i64 (((b+i):Nat):Int):=hI.get (i:=7) (.tail _ (.tail _ (.tail _ (.tail _ (.tail _ (.tail _ (.tail _ (.head _)))))))) d7;have hM':=hM;obtain ⟨hG,hA,hB1,hC,hD,hE⟩:=hM';exact bf (aM (i:=(b+i)) aT e20 e23 (by omega)) ⟨hI.put hU3 (.tail _ (.tail _ (.tail _ (.tail _ (.tail _ (.tail _ (.tail _ (.tail _ (.tail _ (.tail _ (.tail _ (.tail _ (.tail _ (.tail _ (.tail _ (.tail _ (.tail _ (.tail _ (.tail _ (.tail _ (.tail _ (.head _)))))))))))))))))))))),hM⟩
   constructor
   ·rintro S L' wS hI hM hS0 ⟨d22,d19,d21,d0,d1,d2,d3,d4,d5,d6,d7,d8,d9,d10,d11,d12,d13,d14,d15,d16,d17,d18,d19,d20,d21,-⟩;have e35:aY L' 35=.agg (dV (SM.G Dz ys (a+i))).toArray:=hI.get (i:=19) (.tail _ (.tail _ (.tail _ (.tail _ (.tail _ (.tail _ (.tail _ (.tail _ (.tail _ (.tail _ (.tail _ (.tail _ (.tail _ (.tail _ (.tail _ (.tail _ (.tail _ (.tail _ (.tail _ (.head _)))))))))))))))))))) d19;have e37:aY L' 37=.pointer (some ⟨g,0+(b+i)*2,none⟩):=hI.get (i:=22) (.tail _ (.tail _ (.tail _ (.tail _ (.tail _ (.tail _ (.tail _ (.tail _ (.tail _ (.tail _ (.tail _ (.tail _ (.tail _ (.tail _ (.tail _ (.tail _ (.tail _ (.tail _ (.tail _ (.tail _ (.tail _ (.head _)))))))))))))))))))))) d22;have hM':=hM;obtain ⟨hG,hA,hB1,hC,hD,hE⟩:=hM';obtain ⟨w2,hR,hO,hb⟩:=fD (n:=38) (L:=L') (x:=.tmp 37) (y:=.tmp 35) (f:=dV) bz jk (i:=(b+i)) bh e37 e35 (hC d21 hS0) (by omega);exact gU hR ⟨hI.skip (by simp),aN hG hO.grown,fun q=>Bool.noConfusion (q.symm.trans d21),hB1,fun _ q=>Bool.noConfusion q,fun _ _=>hb,fun q=>Bool.noConfusion (q.symm.trans d21)⟩
   exact trivial
  ·intro w4 hM;obtain ⟨hG,hA,hB1,hC,hD,hE⟩:=hM;have hS9:=hD rfl rfl;change World.ownsRow _ _ _ _ _ _ (List.flatMap dV (SM.swp Dz ys (a+i) (b+i))) at hS9;refine aI (ab (aa (mvi rfl (ae (aG (b:=1) rfl rfl (by omega)) (asi rfl (ah ?_))))));refine aO ((i+1,SM.swp Dz ys (a+i) (b+i))) ⟨(by first | rfl | (refine aK ?_;omega)),trivial⟩ (by (iterate 56 refine aB rfl ?_);exact aJ) ⟨?_,?_⟩
   ·exact ⟨by omega,hS9,aN hG0 hG,hP.trans (.swap (by omega) (by omega) (by omega)),SM.swr_succ hR (by omega) hyl (by omega)⟩
   ·show q-(i+1)<q-i;omega
 refine bc (aC (aC (aS (gk (kh rfl ?_)))));obtain rfl:i=q:=by omega
 exact ⟨ys,hoy,hG0,hP,hR⟩
theorem tg (base:Nat) (A:Option Addr) (c n:Nat) (xs:List Dc) (w:World) (ho:w.ownsRow base 37 2 (.slice A n c) n (xs.flatMap dV)) (_:base≤w.heap.size) (hl:n≤100000000) (a b:Nat) (hab:a≤b) (hbn:b≤n) :
 Rt prog 122 [.slice A n c,.int .i64 (a:Nat),.int .i64 (b:Nat),.func (.func 119) #[] #[]] w (fun _ w'=>∃ ys,w'.ownsRow base 37 2 (.slice A n c) n (List.flatMap dV ys)∧w.grownBy w' (A.map (·.block))∧SM.PW Dz a b xs ys∧SM.Srt Dz ltD a b ys):=by
 have hxl:=fF bz ho;refine enter (n:=53) Tryz.func122 rfl rfl rfl (af (aa (mvi rfl (ae (aG (b:=1) rfl rfl (by omega)) (asi rfl (ah (ab (aw (a_ (G:=Nat×List Dc) [9,12,13,14,15,16,17,18,19,20,21,22,23,24,25,26,27,28,29,30,31,32,33,34,35,36,37,38,39,40,41,42,43,44,45,46,47,48,49,50,51,52] (fun (i,_)=>[(8,.int .i64 (i:Nat))]) (fun (i,ys) w'=>a+1≤i∧(i≤b∨i=a+1)∧w'.ownsRow base 37 2 (.slice A n c) n (List.flatMap dV ys)∧w.grownBy w' (A.map (·.block))∧SM.PW Dz a b xs ys∧SM.Srt Dz ltD a i ys) (fun (i,_)=>b-i) ((a+1,xs)) ⟨rfl,trivial⟩ ?_ ?_)))))))))
 ·exact ⟨Nat.le_refl _,.inr rfl,ho,World.grownBy.refl _ _,.rfl_,(SM.Srt.one g_ (by omega)).2 trivial⟩
 rintro ⟨i,ys⟩ ρ1 w1 ⟨hia,hib,hoy,hG0,hP,hR⟩;refine af (af (aa (mvi rfl (mvi rfl (ae (aW rfl rfl) (ah (ab (JV rfl (fun Q2=>?_) (fun Q2=>?_)))))))))
 ·obtain ⟨g,rfl⟩:=dm ho (by omega);refine av (ab (af (aw (af (aa (mvi rfl (asi rfl (ah (ab (aw (a_ (G:=Nat×List Dc) [18,19,20,21,22,23,24,25,26,27,28,29,30,31,32,33,34,35,36,37,38,39,40,41,42,43,44,45,46,47,48,49,50,51,52] (fun (j,_)=>[(9,.int .i64 (j:Nat))]) (fun (j,ys) w'=>a≤j∧j≤i∧w'.ownsRow base 37 2 (.slice (some ⟨g,0,none⟩) n c) n (List.flatMap dV ys)∧w.grownBy w' (some g)∧SM.PW Dz a b xs ys∧SM.Ins Dz ltD a i j ys) (fun (j,_)=>j-a) ((i,ys)) ⟨rfl,trivial⟩ ?_ ?_)))))))))))
  ·exact ⟨by omega,Nat.le_refl _,hoy,hG0,hP,SM.Ins.start hR⟩
  rintro ⟨j,ys⟩ ρ3 w3 ⟨hja,hji,hoy,hG0,hP,hR⟩;refine af (af ?_);have hsp:j=a∨a<j:=by omega
  rcases hsp with hj9 | hj9
  ·apply bS 17 [(18,eqp _),(19,eqp _),(20,eqp _),(21,eqp _),(22,eqp _),(23,eqp _),(24,eqp _),(25,eqp _),(26,eqp _),(27,eqp _),(28,eqp _),(29,eqp _),(30,eqp _),(31,eqp _),(32,eqp _),(33,eqp _),(34,eqp _)] (by repeat first | exact cy | refine cm ?_ | refine bO ?_) (by kernel_rfl) (by kernel_rfl) ⟨ag _,ag _,ag _,ag _,ag _,ag _,ag _,ag _,ag _,ag _,ag _,ag _,ag _,ag _,ag _,ag _,ag _,trivial⟩
   case hop=>
    constructor
    ·rintro-w5 D5;exact ai (aq (v:=.int _ _) rfl) rfl
    constructor
    ·rintro-w6 D6;exact ai (aq (v:=.int _ _) rfl) rfl
    constructor
    ·rintro-w7 D7;rintro _ rfl _ rfl;exact ai (dS (cL rfl rfl) (decide_eq_false (by omega))) rfl
    constructor
    ·rintro-w8 D8;rintro _ rfl;exact ai (aq (v:=.bool _) rfl) rfl
    constructor
    ·rintro-w9 D9;rintro _ rfl;exact bI rfl rfl rfl
    constructor
    ·rintro-w10 D10;rintro _ rfl;exact bI rfl rfl rfl
    constructor
    ·rintro-w11 D11;rintro _ rfl;exact bI rfl rfl rfl
    constructor
    ·rintro-w12 D12;rintro _ rfl _ rfl _ rfl;exact bI rfl rfl rfl
    constructor
    ·rintro-w13 D13;rintro _ rfl _ rfl;exact bI rfl rfl rfl
    constructor
    ·rintro-w14 D14;rintro _ rfl;exact bI rfl rfl rfl
    constructor
    ·rintro-w15 D15;rintro _ rfl;exact bI rfl rfl rfl
    constructor
    ·rintro-w16 D16;rintro _ rfl _ rfl;exact bI rfl rfl rfl
    constructor
    ·rintro-w17 D17;rintro _ rfl _ rfl _ rfl;exact bI rfl rfl rfl
    constructor
    ·rintro-w18 D18;rintro _ rfl _ rfl;exact bI rfl rfl rfl
    constructor
    ·rintro-w19 D19;rintro _ rfl _ rfl _ rfl _ rfl;exact bI rfl rfl rfl
    constructor
    ·rintro-w20 D20;rintro _ rfl _ rfl;exact bI rfl rfl rfl
    constructor
    ·rintro-w21 D21;rintro _ rfl _ rfl;exact ai (bk (v:=.bool _) rfl rfl) rfl
    exact trivial
   case hend=>
    intro w22 D22;rintro _ rfl _ rfl _ rfl _ rfl _ rfl _ rfl _ rfl _ rfl _ rfl _ rfl _ rfl _ rfl _ rfl _ rfl _ rfl _ rfl _ rfl;show St ..;have hM4:=D22;have hoz:=hoy.kept_from hM4;have hGz:=aN hG0 (hM4.grown _);subst hj9;have hRz:SM.Srt Dz ltD j (i+1) ys:=hR.low g_;refine ah (ab (de rfl (bc (aC (aC (aS (aI (ab (aa (mvi rfl (ae (aG (b:=1) rfl rfl (by omega)) (asi rfl (ah ?_)))))))))))));refine aO ((i+1,ys)) ⟨(by first | rfl | (refine aK ?_;omega)),trivial⟩ (by (iterate 104 refine aB rfl ?_);exact aJ) ⟨?_,?_⟩
    ·exact ⟨by omega,.inl (by omega),hoz,hGz,hP,hRz⟩
    ·show b-(i+1)<b-i;omega
  apply bS 17 [(18,eqp _),(19,eqp _),(20,eqp _),(21,eqp _),(22,eqp _),(23,eqp _),(24,eqp _),(25,eqp _),(26,eqp (.agg (dV (SM.G Dz ys j)).toArray)),(27,eqp _),(28,eqp _),(29,eqp _),(30,eqp _),(31,eqp (.agg (dV (SM.G Dz ys (j-1))).toArray)),(32,eqp _),(33,eqp _),(34,eqp _)] (by repeat first | exact cy | refine cm ?_ | refine bO ?_) (by kernel_rfl) (by kernel_rfl) ⟨ag _,ag _,ag _,ag _,ag _,ag _,ag _,ag _,ag _,ag _,ag _,ag _,ag _,ag _,ag _,ag _,ag _,trivial⟩
  case hop=>
   constructor
   ·rintro-w24 D24;exact ai (aq (v:=.int _ _) rfl) rfl
   constructor
   ·rintro-w25 D25;exact ai (aq (v:=.int _ _) rfl) rfl
   constructor
   ·rintro-w26 D26;rintro _ rfl _ rfl;exact ai (jE (cL rfl rfl) (decide_eq_true (by omega))) rfl
   constructor
   ·rintro-w27 D27;rintro _ rfl;exact ai (aq (v:=.bool _) rfl) rfl
   constructor
   ·rintro-w28 D28;rintro _ rfl;exact aP rfl (aq (v:=.func _ _ _) rfl) rfl
   constructor
   ·rintro-w29 D29;rintro _ rfl;exact aP rfl (aq (v:=.slice _ _ _) rfl) rfl
   constructor
   ·rintro-w30 D30;rintro _ rfl;exact aP rfl (aq (v:=.int _ _) rfl) rfl
   constructor
   ·rintro-w31 D31;rintro _ rfl _ rfl _ rfl;exact aP rfl (dC aT rfl rfl (by omega)) rfl
   constructor
   ·rintro-w32 D32;rintro _ rfl _ rfl;exact aP rfl (bn (cs:=dV (SM.G Dz ys j)) bK bh rfl (eU bz Dz (hoy.kept_from D32) (by omega))) rfl
   constructor
   ·rintro-w33 D33;rintro _ rfl;exact aP rfl (aq (v:=.slice _ _ _) rfl) rfl
   constructor
   ·rintro-w34 D34;rintro _ rfl;exact aP rfl (aq (v:=.int _ _) rfl) rfl
   constructor
   ·rintro-w35 D35;rintro _ rfl _ rfl;exact aP rfl (bP (b:=1) rfl rfl (by omega)) rfl
   constructor
   ·rintro-w36 D36;rintro _ rfl _ rfl _ rfl;exact aP rfl (dC aT rfl rfl (by omega)) rfl
   constructor
   ·rintro-w37 D37;rintro _ rfl _ rfl;exact aP rfl (bn (cs:=dV (SM.G Dz ys (j-1))) bK bh rfl (eU bz Dz (hoy.kept_from D37) (by omega))) rfl
   constructor
   ·rintro-w38 D38;rintro _ rfl _ rfl v38_26 rfl v38_31 rfl;exact Bb (caps:=[]) rfl rfl kd ((qy (SM.G Dz ys j) (SM.G Dz ys (j-1)) _).mono fun v w2 h=>⟨h.2,h.1⟩)
   constructor
   ·rintro-w39 D39;rintro _ rfl _ rfl;exact aP rfl (aW rfl rfl) rfl
   constructor
   ·rintro-w40 D40;rintro _ rfl _ rfl;exact ai (bB (v:=.bool _) rfl rfl) rfl
   exact trivial
  case hend=>
   intro w41 D41;rintro _ rfl _ rfl _ rfl _ rfl _ rfl _ rfl _ rfl _ rfl v26 rfl _ rfl _ rfl _ rfl _ rfl v31 rfl _ rfl _ rfl _ rfl;show St ..;have hM4:=D41;refine ah (ab (JV rfl (fun Q42=>?_) (fun Q42=>?_)))
   ·have hyl:=fF bz hoy;have hoy4:=hoy.kept_from hM4;refine av (ab (af (aw ?_)));have hU43:nt [(0,37,.slice (some ⟨g,0,none⟩) n c),(1,38,.int .i64 ((j:Nat):Int)),(2,39,.slice (some ⟨g,0,none⟩) n c),(3,40,.int .i64 ((j:Nat):Int)),(4,41,.int .i64 (((j-1):Nat):Int)),(5,42,.slice (some ⟨g,0,none⟩) n c),(6,43,.int .i64 ((j:Nat):Int)),(7,44,.int .i64 (((j-1):Nat):Int)),(8,45,.pointer (some ⟨g,0+(j-1)*2,none⟩)),(9,46,.agg (dV (SM.G Dz ys (j-1))).toArray),(10,47,.slice (some ⟨g,0,none⟩) n c),(11,48,.int .i64 ((j:Nat):Int)),(12,49,.pointer (some ⟨g,0+j*2,none⟩)),(13,50,.agg (dV (SM.G Dz ys j)).toArray),(14,51,.pointer (some ⟨g,0+j*2,none⟩)),(16,52,.pointer (some ⟨g,0+(j-1)*2,none⟩))]:=by simp [nt]
    refine oc [(0,37,.slice (some ⟨g,0,none⟩) n c),(1,38,.int .i64 ((j:Nat):Int)),(2,39,.slice (some ⟨g,0,none⟩) n c),(3,40,.int .i64 ((j:Nat):Int)),(4,41,.int .i64 (((j-1):Nat):Int)),(5,42,.slice (some ⟨g,0,none⟩) n c),(6,43,.int .i64 ((j:Nat):Int)),(7,44,.int .i64 (((j-1):Nat):Int)),(8,45,.pointer (some ⟨g,0+(j-1)*2,none⟩)),(9,46,.agg (dV (SM.G Dz ys (j-1))).toArray),(10,47,.slice (some ⟨g,0,none⟩) n c),(11,48,.int .i64 ((j:Nat):Int)),(12,49,.pointer (some ⟨g,0+j*2,none⟩)),(13,50,.agg (dV (SM.G Dz ys j)).toArray),(14,51,.pointer (some ⟨g,0+j*2,none⟩)),(16,52,.pointer (some ⟨g,0+(j-1)*2,none⟩))] (fun S w'=>World.grownBy w41 w' (some g)∧(S 15=false→w'.ownsRow base 37 2 (.slice (some ⟨g,0,none⟩) n c) n (List.flatMap dV ys))∧(S 15=true→S 9=true∧S 13=true)∧(S 15=true→S 17=false→w'.ownsRow base 37 2 (.slice (some ⟨g,0,none⟩) n c) n (List.flatMap dV (ys.set j (SM.G Dz ys (j-1)))))∧(S 15=true→S 17=true→w'.ownsRow base 37 2 (.slice (some ⟨g,0,none⟩) n c) n (List.flatMap dV ((ys.set j (SM.G Dz ys (j-1))).set (j-1) (SM.G Dz ys j))))∧(S 15=false→S 17=false)) (by kernel_rfl) (by kernel_rfl) hU43 (by simp) (⟨(aj.rfl_.d1 (a:=w41)).grown _,fun _=>hoy4.kept_from aj.rfl_.d1,fun q=>Bool.noConfusion q,fun q=>Bool.noConfusion q,fun q=>Bool.noConfusion q,fun _=>rfl⟩) ?_ ?_
    ·constructor
     ·rintro S L' wS hI hM hS0 ⟨-⟩;have e0:=hI.1 0 (by simp);have hM':=hM;obtain ⟨hG,hA,hB1,hC,hD,hE⟩:=hM';exact bf (aq e0) ⟨hI.put hU43 (.head _),hM⟩
     constructor
     ·rintro S L' wS hI hM hS0 ⟨-⟩;have e9:=hI.1 9 (by simp);have hM':=hM;obtain ⟨hG,hA,hB1,hC,hD,hE⟩:=hM';exact bf (aq e9) ⟨hI.put hU43 (.tail _ (.head _)),hM⟩
     constructor
     ·rintro S L' wS hI hM hS0 ⟨-,-⟩;have e0:=hI.1 0 (by simp);have hM':=hM;obtain ⟨hG,hA,hB1,hC,hD,hE⟩:=hM';exact bf (aq e0) ⟨hI.put hU43 (.tail _ (.tail _ (.head _))),hM⟩
     constructor
     ·rintro S L' wS hI hM hS0 ⟨-,-⟩;have e9:=hI.1 9 (by simp);have hM':=hM;obtain ⟨hG,hA,hB1,hC,hD,hE⟩:=hM';exact bf (aq e9) ⟨hI.put hU43 (.tail _ (.tail _ (.tail _ (.head _)))),hM⟩
     constructor
     ·rintro S L' wS hI hM hS0 ⟨d3,-,-⟩;have e40:aY L' 40=.int .i64 ((j:Nat):Int):=hI.get (i:=3) (.tail _ (.tail _ (.tail _ (.head _)))) d3;have hM':=hM;obtain ⟨hG,hA,hB1,hC,hD,hE⟩:=hM';exact bf (bP (a:=j) (b:=1) e40 rfl (by omega)) ⟨hI.put hU43 (.tail _ (.tail _ (.tail _ (.tail _ (.head _))))),hM⟩
     constructor
     ·rintro S L' wS hI hM hS0 ⟨-⟩;have e0:=hI.1 0 (by simp);have hM':=hM;obtain ⟨hG,hA,hB1,hC,hD,hE⟩:=hM';exact bf (aq e0) ⟨hI.put hU43 (.tail _ (.tail _ (.tail _ (.tail _ (.tail _ (.head _)))))),hM⟩
     constructor
     ·rintro S L' wS hI hM hS0 ⟨-⟩;have e9:=hI.1 9 (by simp);have hM':=hM;obtain ⟨hG,hA,hB1,hC,hD,hE⟩:=hM';exact bf (aq e9) ⟨hI.put hU43 (.tail _ (.tail _ (.tail _ (.tail _ (.tail _ (.tail _ (.head _))))))),hM⟩
     constructor
     ·rintro S L' wS hI hM hS0 ⟨d6,-⟩;have e43:aY L' 43=.int .i64 ((j:Nat):Int):=hI.get (i:=6) (.tail _ (.tail _ (.tail _ (.tail _ (.tail _ (.tail _ (.head _))))))) d6;have hM':=hM;obtain ⟨hG,hA,hB1,hC,hD,hE⟩:=hM';exact bf (bP (a:=j) (b:=1) e43 rfl (by omega)) ⟨hI.put hU43 (.tail _ (.tail _ (.tail _ (.tail _ (.tail _ (.tail _ (.tail _ (.head _)))))))),hM⟩
     constructor
     ·rintro S L' wS hI hM hS0 ⟨d5,d7,-⟩;have e42:aY L' 42=.slice (some ⟨g,0,none⟩) n c:=hI.get (i:=5) (.tail _ (.tail _ (.tail _ (.tail _ (.tail _ (.head _)))))) d5;have e44:aY L' 44=.int .i64 (((j-1):Nat):Int):=hI.get (i:=7) (.tail _ (.tail _ (.tail _ (.tail _ (.tail _ (.tail _ (.tail _ (.head _)))))))) d7;have hM':=hM;obtain ⟨hG,hA,hB1,hC,hD,hE⟩:=hM';exact bf (aM (i:=(j-1)) aT e42 e44 (by omega)) ⟨hI.put hU43 (.tail _ (.tail _ (.tail _ (.tail _ (.tail _ (.tail _ (.tail _ (.tail _ (.head _))))))))),hM⟩
     constructor
     ·rintro S L' wS hI hM hS0 ⟨d8,-⟩;have e45:aY L' 45=.pointer (some ⟨g,0+(j-1)*2,none⟩):=hI.get (i:=8) (.tail _ (.tail _ (.tail _ (.tail _ (.tail _ (.tail _ (.tail _ (.tail _ (.head _))))))))) d8;have hM':=hM;obtain ⟨hG,hA,hB1,hC,hD,hE⟩:=hM';exact bf (bn (cs:=dV (SM.G Dz ys (j-1))) bK bh e45 (eU bz Dz (hA (vC (fun q=>(hB1 q).1) hS0)) (by omega))) ⟨hI.put hU43 (.tail _ (.tail _ (.tail _ (.tail _ (.tail _ (.tail _ (.tail _ (.tail _ (.tail _ (.head _)))))))))),hG,hA,fun q=>⟨rfl,(hB1 q).2⟩,hC,hD,hE⟩
     constructor
     ·rintro S L' wS hI hM hS0 ⟨-⟩;have e0:=hI.1 0 (by simp);have hM':=hM;obtain ⟨hG,hA,hB1,hC,hD,hE⟩:=hM';exact bf (aq e0) ⟨hI.put hU43 (.tail _ (.tail _ (.tail _ (.tail _ (.tail _ (.tail _ (.tail _ (.tail _ (.tail _ (.tail _ (.head _))))))))))),hM⟩
     constructor
     ·rintro S L' wS hI hM hS0 ⟨-⟩;have e9:=hI.1 9 (by simp);have hM':=hM;obtain ⟨hG,hA,hB1,hC,hD,hE⟩:=hM';exact bf (aq e9) ⟨hI.put hU43 (.tail _ (.tail _ (.tail _ (.tail _ (.tail _ (.tail _ (.tail _ (.tail _ (.tail _ (.tail _ (.tail _ (.head _)))))))))))),hM⟩
     constructor
     ·rintro S L' wS hI hM hS0 ⟨d10,d11,-⟩;have e47:aY L' 47=.slice (some ⟨g,0,none⟩) n c:=hI.get (i:=10) (.tail _ (.tail _ (.tail _ (.tail _ (.tail _ (.tail _ (.tail _ (.tail _ (.tail _ (.tail _ (.head _))))))))))) d10;have e48:aY L' 48=.int .i64 ((j:Nat):Int):=hI.get (i:=11) (.tail _ (.tail _ (.tail _ (.tail _ (.tail _ (.tail _ (.tail _ (.tail _ (.tail _ (.tail _ (.tail _ (.head _)))))))))))) d11;have hM':=hM;obtain ⟨hG,hA,hB1,hC,hD,hE⟩:=hM';exact bf (aM (i:=j) aT e47 e48 (by omega)) ⟨hI.put hU43 (.tail _ (.tail _ (.tail _ (.tail _ (.tail _ (.tail _ (.tail _ (.tail _ (.tail _ (.tail _ (.tail _ (.tail _ (.head _))))))))))))),hM⟩
     constructor
     ·rintro S L' wS hI hM hS0 ⟨d12,-⟩;have e49:aY L' 49=.pointer (some ⟨g,0+j*2,none⟩):=hI.get (i:=12) (.tail _ (.tail _ (.tail _ (.tail _ (.tail _ (.tail _ (.tail _ (.tail _ (.tail _ (.tail _ (.tail _ (.tail _ (.head _))))))))))))) d12;have hM':=hM;obtain ⟨hG,hA,hB1,hC,hD,hE⟩:=hM';exact bf (bn (cs:=dV (SM.G Dz ys j)) bK bh e49 (eU bz Dz (hA (vC (fun q=>(hB1 q).2) hS0)) (by omega))) ⟨hI.put hU43 (.tail _ (.tail _ (.tail _ (.tail _ (.tail _ (.tail _ (.tail _ (.tail _ (.tail _ (.tail _ (.tail _ (.tail _ (.tail _ (.head _)))))))))))))),hG,hA,fun q=>⟨(hB1 q).1,rfl⟩,hC,hD,hE⟩
     constructor
     ·rintro S L' wS hI hM hS0 ⟨d0,d1,d0,d1,-,-,-,d5,d6,d7,d8,d9,-,-,-,d13,-⟩;have e37:aY L' 37=.slice (some ⟨g,0,none⟩) n c:=hI.get (i:=0) (.head _) d0;have e38:aY L' 38=.int .i64 ((j:Nat):Int):=hI.get (i:=1) (.tail _ (.head _)) d1;have hM':=hM;obtain ⟨hG,hA,hB1,hC,hD,hE⟩:=hM';exact bf (aM (i:=j) aT e37 e38 (by omega)) ⟨hI.put hU43 (.tail _ (.tail _ (.tail _ (.tail _ (.tail _ (.tail _ (.tail _ (.tail _ (.tail _ (.tail _ (.tail _ (.tail _ (.tail _ (.tail _ (.head _))))))))))))))),hM⟩
     constructor
     ·rintro S L' wS hI hM hS0 ⟨d14,d9,d0,d1,-,-,-,d5,d6,d7,d8,d9,-,-,-,d13,-⟩;have e46:aY L' 46=.agg (dV (SM.G Dz ys (j-1))).toArray:=hI.get (i:=9) (.tail _ (.tail _ (.tail _ (.tail _ (.tail _ (.tail _ (.tail _ (.tail _ (.tail _ (.head _)))))))))) d9;have e51:aY L' 51=.pointer (some ⟨g,0+j*2,none⟩):=hI.get (i:=14) (.tail _ (.tail _ (.tail _ (.tail _ (.tail _ (.tail _ (.tail _ (.tail _ (.tail _ (.tail _ (.tail _ (.tail _ (.tail _ (.tail _ (.head _))))))))))))))) d14;have hM':=hM;obtain ⟨hG,hA,hB1,hC,hD,hE⟩:=hM';obtain ⟨w2,hR,hO,hb⟩:=fD (n:=53) (L:=L') (x:=.tmp 51) (y:=.tmp 46) (f:=dV) bz jk (i:=j) bh e51 e46 (hA hS0) (by omega);exact gU hR ⟨hI.skip (by simp),aN hG hO.grown,fun q=>Bool.noConfusion q,fun _=>⟨d9,d13⟩,fun _ _=>hb,fun _ q=>Bool.noConfusion (q.symm.trans (hE hS0)),fun q=>Bool.noConfusion q⟩
     constructor
     ·rintro S L' wS hI hM hS0 ⟨d2,d4,d0,d1,d2,d3,d4,d5,d6,d7,d8,d9,d10,d11,d12,d13,d14,d15,-⟩;have e39:aY L' 39=.slice (some ⟨g,0,none⟩) n c:=hI.get (i:=2) (.tail _ (.tail _ (.head _))) d2;have e41:aY L' 41=.int .i64 (((j-1):Nat):Int):=hI.get (i:=4) (.tail _ (.tail _ (.tail _ (.tail _ (.head _))))) d4;have hM':=hM;obtain ⟨hG,hA,hB1,hC,hD,hE⟩:=hM';exact bf (aM (i:=(j-1)) aT e39 e41 (by omega)) ⟨hI.put hU43 (.tail _ (.tail _ (.tail _ (.tail _ (.tail _ (.tail _ (.tail _ (.tail _ (.tail _ (.tail _ (.tail _ (.tail _ (.tail _ (.tail _ (.tail _ (.head _)))))))))))))))),hM⟩
     constructor
     ·rintro S L' wS hI hM hS0 ⟨d16,d13,d15,d0,d1,d2,d3,d4,d5,d6,d7,d8,d9,d10,d11,d12,d13,d14,d15,-⟩;have e50:aY L' 50=.agg (dV (SM.G Dz ys j)).toArray:=hI.get (i:=13) (.tail _ (.tail _ (.tail _ (.tail _ (.tail _ (.tail _ (.tail _ (.tail _ (.tail _ (.tail _ (.tail _ (.tail _ (.tail _ (.head _)))))))))))))) d13;have e52:aY L' 52=.pointer (some ⟨g,0+(j-1)*2,none⟩):=hI.get (i:=16) (.tail _ (.tail _ (.tail _ (.tail _ (.tail _ (.tail _ (.tail _ (.tail _ (.tail _ (.tail _ (.tail _ (.tail _ (.tail _ (.tail _ (.tail _ (.head _)))))))))))))))) d16;have hM':=hM;obtain ⟨hG,hA,hB1,hC,hD,hE⟩:=hM';obtain ⟨w2,hR,hO,hb⟩:=fD (n:=53) (L:=L') (x:=.tmp 52) (y:=.tmp 50) (f:=dV) bz jk (i:=(j-1)) bh e52 e50 (hC d15 hS0) (by omega);exact gU hR ⟨hI.skip (by simp),aN hG hO.grown,fun q=>Bool.noConfusion (q.symm.trans d15),hB1,fun _ q=>Bool.noConfusion q,fun _ _=>hb,fun q=>Bool.noConfusion (q.symm.trans d15)⟩
     exact trivial
    ·intro w44 hM;obtain ⟨hG,hA,hB1,hC,hD,hE⟩:=hM;have hS9:=hD rfl rfl;change World.ownsRow _ _ _ _ _ _ (List.flatMap dV (SM.swp Dz ys j (j-1))) at hS9;refine aI (ab (aa (mvi rfl (ae (bP (b:=1) rfl rfl (by omega)) (asi rfl (ah ?_))))));refine aO ((j-1,SM.swp Dz ys j (j-1))) ⟨(by first | rfl | (refine aK ?_;omega)),trivial⟩ (by (iterate 72 refine aB rfl ?_);exact aJ) ⟨?_,?_⟩
     ·exact ⟨by omega,by omega,hS9,aN (aN hG0 (hM4.grown _)) hG,hP.trans (.swap (by omega) (by omega) (by omega)),hR.step g_ (by omega) hji (by omega) (pM.1 (by omega))⟩
     ·show j-1-a<j-a;omega
   have hoz:=hoy.kept_from hM4;have hGz:=aN hG0 (hM4.grown _);have hRz:SM.Srt Dz ltD a (i+1) ys:=hR.stop g_ hj9 (fun h9=>by have:=pM.2 h9;omega);refine bc (aC (aC (aS (aI (ab (aa (mvi rfl (ae (aG (b:=1) rfl rfl (by omega)) (asi rfl (ah ?_))))))))));refine aO ((i+1,ys)) ⟨(by first | rfl | (refine aK ?_;omega)),trivial⟩ (by (iterate 104 refine aB rfl ?_);exact aJ) ⟨?_,?_⟩
   ·exact ⟨by omega,.inl (by omega),hoz,hGz,hP,hRz⟩
   ·show b-(i+1)<b-i;omega
 refine bc (aC (aC (aS (gk (kh rfl (⟨ys,hoy,hG0,hP,hR.sub (Nat.le_refl _) (by omega)⟩))))))
theorem AM (base:Nat) (A:Option Addr) (c n:Nat) (xs:List Dc) (w:World) (ho:w.ownsRow base 37 2 (.slice A n c) n (xs.flatMap dV)) (hbs:base≤w.heap.size) (hl:n≤100000000) (a m b:Nat) (h1:a<m) (h2:m<b) (hbn:b≤n) :
 Rt prog 202 [.slice A n c,.int .i64 (a:Nat),.int .i64 (m:Nat),.int .i64 (b:Nat),.func (.func 119) #[] #[]] w (fun _ w'=>∃ ys,w'.ownsRow base 37 2 (.slice A n c) n (List.flatMap dV ys)∧w.grownBy w' (A.map (·.block))∧SM.PW Dz a b xs ys∧∀ k,SM.G Dz ys k=SM.rot a m b (SM.G Dz xs) k):=by
 refine enter (n:=58) Tryz.func202 rfl rfl rfl (af (aa (mvi rfl (mvi rfl (ae (bP rfl rfl (by omega)) (asi rfl (ah (ab (af (aa (mvi rfl (mvi rfl ?_))))))))))));refine ae (bP rfl rfl (by omega)) (asi rfl (ah (ab (af (aw (a_ (G:=Nat×Nat×List Dc) [18,19,20,21,22,23,24,25,26,27,28,29,30,31,32,33,34,35,36,37,38,39,40,41,42,43,44,45,46,47,48,49] (fun (i,j,_)=>[(10,.int .i64 (i:Nat)),(11,.int .i64 (j:Nat))]) (fun (i,j,ys) w'=>0<i∧0<j∧a≤m-i∧i≤m∧m+j≤b∧w'.ownsRow base 37 2 (.slice A n c) n (List.flatMap dV ys)∧w.grownBy w' (A.map (·.block))∧SM.PW Dz a b xs ys∧∀ k,SM.rot (m-i) m (m+j) (SM.G Dz ys) k=SM.rot a m b (SM.G Dz xs) k) (fun (i,j,_)=>i+j) ((m-a,b-m,xs)) ⟨rfl,rfl,trivial⟩ ?_ ?_))))))
 ·exact ⟨by omega,by omega,by omega,by omega,by omega,ho,World.grownBy.refl _ _,.rfl_,fun k=>by rw [show m-(m-a)=a by omega,show m+(b-m)=b by omega]⟩
 rintro ⟨i,j,ys⟩ ρ1 w1 ⟨hi,hj,hia,him,hjb,hoy,hG0,hP,hR⟩;refine af (af (aa (mvi rfl (mvi rfl (ae (cD rfl rfl) (ah (ab (JR rfl (fun Q2=>?_) (fun Q2=>?_)))))))))
 ·refine av (ab (aw (af (aa (mvi rfl (mvi rfl (ae (cL rfl rfl) (ah (ab (JV rfl (fun Q3=>?_) (fun Q3=>?_)))))))))))
  ·refine af (aa (mvs rfl (mvi rfl (mvi rfl (ae (bP rfl rfl (by omega)) (mvi rfl (mvi rfl (ae (aq (v:=.func _ _ _) rfl) (aF l9 (qI base A c n ys _ hoy (Nat.le_trans hbs hG0.size) hl (m-i) m j (by omega) (by omega)) ?_)))))))));rintro v31 w4 ⟨zs,hoz,hGz,hPz,hRz⟩;refine ah (ab (aa (mvi rfl (mvi rfl (ae (bP rfl rfl (by omega)) (asi rfl (ah (aI ?_))))))));refine aO ((i-j,j,zs)) ⟨(by first | rfl | (refine aK ?_;omega)),(by first | rfl | (refine aK ?_;omega)),trivial⟩ (by (iterate 52 refine aB rfl ?_);exact aJ) ⟨?_,?_⟩
   ·exact ⟨by omega,hj,by omega,by omega,hjb,hoz,aN hG0 hGz,hP.trans (hPz.wide (by omega) (by omega)),fun k=>(SM.rot_left hj (by omega) him hRz k).trans (hR k)⟩
   ·show i-j+j<i+j;omega
  refine af (aa (mvs rfl (mvi rfl (mvi rfl (ae (bP rfl rfl (by omega)) (mvi rfl (mvi rfl (ae (aG rfl rfl (by omega)) (mvi rfl ?_)))))))));refine ae (bP rfl rfl (by omega)) (mvi rfl (ae (aq (v:=.func _ _ _) rfl) (aF l9 (qI base A c n ys _ hoy (Nat.le_trans hbs hG0.size) hl (m-i) (m+j-i) i (by omega) (by omega)) ?_)));rintro v46 w5 ⟨zs,hoz,hGz,hPz,hRz⟩;refine ah (ab (aa (mvi rfl (mvi rfl (ae (bP rfl rfl (by omega)) (asi rfl (ah (aI ?_))))))));refine aO ((i,j-i,zs)) ⟨(by first | rfl | (refine aK ?_;omega)),(by first | rfl | (refine aK ?_;omega)),trivial⟩ (by (iterate 56 refine aB rfl ?_);exact aJ) ⟨?_,?_⟩
  ·exact ⟨hi,by omega,hia,him,by omega,hoz,aN hG0 hGz,hP.trans (hPz.wide (by omega) (by omega)),fun k=>(SM.rot_right hi (by omega) him hRz k).trans (hR k)⟩
  ·show i+(j-i)<i+j;omega
 obtain rfl:i=j:=by omega
 refine bc (aC (aC (aS (ab (aa (mvs rfl (mvi rfl (mvi rfl (ae (bP rfl rfl (by omega)) (mvi rfl (mvi rfl (ae (aq (v:=.func _ _ _) rfl) ?_))))))))))));refine aF l9 (qI base A c n ys _ hoy (Nat.le_trans hbs hG0.size) hl (m-i) m i (by omega) (by omega)) ?_;rintro v57 w6 ⟨zs,hoz,hGz,hPz,hRz⟩;refine ah (gk (kh rfl (⟨zs,hoz,aN hG0 hGz,hP.trans (hPz.wide (by omega) (by omega)),fun k=>(SM.rot_same him hRz k).trans (hR k)⟩)))
theorem yy:az prog 202=true:=by kernel_rfl
theorem lk:az prog 180=true:=by kernel_rfl
theorem Cg (base:Nat) (A:Option Addr) (c n:Nat) (xs:List Dc) (w:World) (ho:w.ownsRow base 37 2 (.slice A n c) n (xs.flatMap dV)) (hbs:base≤w.heap.size) (hl:n≤100000000) (a m b:Nat) (h1:a<m) (h2:m<b) (hbn:b≤n) (s1:SM.Srt Dz ltD a m xs) (s2:SM.Srt Dz ltD m b xs) (IH:∀ (xs:List Dc) (w:World) (a' m' b':Nat),w.ownsRow base 37 2 (.slice A n c) n (xs.flatMap dV)→base≤w.heap.size→a'<m'→m'<b'→b'≤n→b'-a'<b-a→SM.Srt Dz ltD a' m' xs→SM.Srt Dz ltD m' b' xs→Rt prog 180 [.slice A n c,.int .i64 (a':Nat),.int .i64 (m':Nat),.int .i64 (b':Nat),.func (.func 119) #[] #[]] w (fun _ w'=>∃ ys,w'.ownsRow base 37 2 (.slice A n c) n (List.flatMap dV ys)∧w.grownBy w' (A.map (·.block))∧SM.PW Dz a' b' xs ys∧SM.Srt Dz ltD a' b' ys)) :
 Rt prog 180 [.slice A n c,.int .i64 (a:Nat),.int .i64 (m:Nat),.int .i64 (b:Nat),.func (.func 119) #[] #[]] w (fun _ w'=>∃ ys,w'.ownsRow base 37 2 (.slice A n c) n (List.flatMap dV ys)∧w.grownBy w' (A.map (·.block))∧SM.PW Dz a b xs ys∧SM.Srt Dz ltD a b ys):=by
 have hxl:=fF bz ho;obtain ⟨g,rfl⟩:=dm ho (by omega);refine enter (n:=220) Tryz.func180 rfl rfl rfl (af (af (aa (mvi rfl (mvi rfl (ae (bP rfl rfl (by omega)) (ae (cx rfl rfl) (ah (ab (JV rfl (fun Q1=>?_) (fun Q1=>?_)))))))))))
 ·refine af (aa (mvi rfl (asi rfl (ah (ab (af (aa (mvi rfl (asi rfl (ah (ab (af (aw (a_ (G:=Nat×Nat) [12,31,32,33,34,35,36,37,38,39,40,41,42,43,44,45,46,47,48,49,50,51,52,53] (fun (i,j)=>[(10,.int .i64 (i:Nat)),(11,.int .i64 (j:Nat))]) (fun (i,j) w'=>m≤i∧i≤j∧j≤b∧(i=m∨ltD (SM.G Dz xs (i-1)) (SM.G Dz xs a))∧(j=b∨¬ ltD (SM.G Dz xs j) (SM.G Dz xs a))∧w'.ownsRow base 37 2 (.slice (some ⟨g,0,none⟩) n c) n (List.flatMap dV xs)∧w.grownBy w' (some g)) (fun (i,j)=>j-i) ((m,b)) ⟨rfl,rfl,trivial⟩ ?_ ?_))))))))))))))
  ·exact ⟨Nat.le_refl _,by omega,Nat.le_refl _,.inl rfl,.inl rfl,ho,World.grownBy.refl _ _⟩
  rintro ⟨i,j⟩ ρ2 w2 ⟨h3,h4,h5,hlo,hhi,hoy,hG0⟩;refine af (af (aa (mvi rfl (mvi rfl (ae (aW rfl rfl) (ah (ab (JV rfl (fun Q3=>?_) (fun Q3=>?_)))))))))
  ·refine av (ab (aw (af (aa (mvi rfl (mvi rfl (ae (aG rfl rfl (by omega)) ?_)))))));obtain ⟨h,hh⟩:∃ h,h=(i+j)/2 ^ 1:=⟨_,rfl⟩;refine ae (fq dP fS rfl (by omega)) (ae (ep (b:=1) rfl rfl (by decide)) (ae (ef gQ eK rfl (by omega)) (dh (t:=39) (v:=.int _ _) (v':=.int .i64 (h:Nat)) rfl (by rw [hh]) ?_)));refine asi rfl (ah (ab (af ?_)));apply bS 11 [(40,eqp _),(41,eqp _),(42,eqp _),(43,eqp _),(44,eqp (.agg (dV (SM.G Dz xs h)).toArray)),(45,eqp _),(46,eqp _),(47,eqp _),(48,eqp (.agg (dV (SM.G Dz xs a)).toArray)),(49,eqp _),(50,eqp _)] (by repeat first | exact cy | refine cm ?_ | refine bO ?_) (by kernel_rfl) (by kernel_rfl) ⟨ag _,ag _,ag _,ag _,ag _,ag _,ag _,ag _,ag _,ag _,ag _,trivial⟩
   case hop=>
    constructor
    ·rintro-w5 D5;exact ai (aq (v:=.func _ _ _) rfl) rfl
    constructor
    ·rintro-w6 D6;exact ai (aq (v:=.slice _ _ _) rfl) rfl
    constructor
    ·rintro-w7 D7;exact ai (aq (v:=.int _ _) rfl) rfl
    constructor
    ·rintro-w8 D8;rintro _ rfl _ rfl;exact ai (aM aT rfl rfl (by omega)) rfl
    constructor
    ·rintro-w9 D9;rintro _ rfl;exact ai (bn (cs:=dV (SM.G Dz xs h)) bK bh rfl (eU bz Dz (hoy.kept_from D9) (by omega))) rfl
    constructor
    ·rintro-w10 D10;exact ai (aq (v:=.slice _ _ _) rfl) rfl
    constructor
    ·rintro-w11 D11;exact ai (aq (v:=.int _ _) rfl) rfl
    constructor
    ·rintro-w12 D12;rintro _ rfl _ rfl;exact ai (aM aT rfl rfl (by omega)) rfl
    constructor
    ·rintro-w13 D13;rintro _ rfl;exact ai (bn (cs:=dV (SM.G Dz xs a)) bK bh rfl (eU bz Dz (hoy.kept_from D13) (by omega))) rfl
    constructor
    ·rintro-w14 D14;rintro _ rfl v14_44 rfl v14_48 rfl;exact rh (caps:=[]) rfl kd ((qy (SM.G Dz xs h) (SM.G Dz xs a) _).mono fun v w2 h=>⟨h.2,h.1⟩)
    constructor
    ·rintro-w15 D15;rintro _ rfl;exact ai (aW rfl rfl) rfl
    exact trivial
   case hend=>
    intro w16 D16;rintro _ rfl _ rfl _ rfl _ rfl v44 rfl _ rfl _ rfl _ rfl v48 rfl _ rfl _ rfl;show St ..;replace hG0:=aN hG0 (D16.grown _);replace hoy:=hoy.kept_from D16;refine ah (ab (JV rfl (fun Q17=>?_) (fun Q17=>?_)))
    ·have hlt:=pM.1 (show iW (SM.G Dz xs h).1 (SM.G Dz xs a).1<0 by omega);refine aa (mvi rfl (ae (aG (b:=1) rfl rfl (by omega)) (asi rfl (ah (aI ?_)))));refine aO ((h+1,j)) ⟨(by first | rfl | (refine aK ?_;omega)),(by first | rfl | (refine aK ?_;omega)),trivial⟩ (by (iterate 51 refine aB rfl ?_);exact aJ) ⟨?_,?_⟩
     ·exact ⟨by omega,by omega,h5,.inr (by rw [show h+1-1=h by omega];exact hlt),hhi,hoy,hG0⟩
     ·show j-(h+1)<j-i;omega
    have hnl:¬ ltD (SM.G Dz xs h) (SM.G Dz xs a):=fun h9=>by have:=pM.2 h9;omega
    refine aa (mvi rfl (asi rfl (ah (aI ?_))));refine aO ((i,h)) ⟨(by first | rfl | (refine aK ?_;omega)),(by first | rfl | (refine aK ?_;omega)),trivial⟩ (by (iterate 50 refine aB rfl ?_);exact aJ) ⟨?_,?_⟩
    ·exact ⟨h3,by omega,by omega,hlo,.inr hnl,hoy,hG0⟩
    ·show h-i<j-i;omega
  refine bc (aC (aC (aS (ab (af (af (aa (mvi rfl (asi rfl (ah (ab (aw (a_ (G:=Nat×List Dc) [55,56,57,58,59,60,61,62,63,64,65,66,67,68,69,70,71,72,73,74,75,76] (fun (k,_)=>[(13,.int .i64 (k:Nat))]) (fun (k,ys) w'=>a≤k∧k≤i-1∧w'.ownsRow base 37 2 (.slice (some ⟨g,0,none⟩) n c) n (List.flatMap dV ys)∧w.grownBy w' (some g)∧SM.PW Dz a b xs ys∧∀ t,SM.G Dz ys t=SM.mvl a k (SM.G Dz xs) t) (fun (k,_)=>i-k) ((a,xs)) ⟨rfl,trivial⟩ ?_ ?_)))))))))))))
  ·exact ⟨Nat.le_refl _,by omega,hoy,hG0,.rfl_,fun t=>(SM.mvl_zero _ t).symm⟩
  rintro ⟨k,ys⟩ ρ18 w18 ⟨hka,hki,hoy,hG0,hP,hR⟩;have hyl:=fF bz hoy;refine af (af (aa (mvi rfl (mvi rfl (ae (bP (b:=1) rfl rfl (by omega)) (ae (aW rfl rfl) (ah (ab (JV rfl (fun Q19=>?_) (fun Q19=>?_))))))))))
  ·refine av (ab (af (aw ?_)));have hU20:nt [(0,61,.slice (some ⟨g,0,none⟩) n c),(1,62,.int .i64 ((k:Nat):Int)),(2,63,.slice (some ⟨g,0,none⟩) n c),(3,64,.int .i64 ((k:Nat):Int)),(4,65,.int .i64 (((k+1):Nat):Int)),(5,66,.slice (some ⟨g,0,none⟩) n c),(6,67,.int .i64 ((k:Nat):Int)),(7,68,.int .i64 (((k+1):Nat):Int)),(8,69,.pointer (some ⟨g,0+(k+1)*2,none⟩)),(9,70,.agg (dV (SM.G Dz ys (k+1))).toArray),(10,71,.slice (some ⟨g,0,none⟩) n c),(11,72,.int .i64 ((k:Nat):Int)),(12,73,.pointer (some ⟨g,0+k*2,none⟩)),(13,74,.agg (dV (SM.G Dz ys k)).toArray),(14,75,.pointer (some ⟨g,0+k*2,none⟩)),(16,76,.pointer (some ⟨g,0+(k+1)*2,none⟩))]:=by simp [nt]
   refine oc [(0,61,.slice (some ⟨g,0,none⟩) n c),(1,62,.int .i64 ((k:Nat):Int)),(2,63,.slice (some ⟨g,0,none⟩) n c),(3,64,.int .i64 ((k:Nat):Int)),(4,65,.int .i64 (((k+1):Nat):Int)),(5,66,.slice (some ⟨g,0,none⟩) n c),(6,67,.int .i64 ((k:Nat):Int)),(7,68,.int .i64 (((k+1):Nat):Int)),(8,69,.pointer (some ⟨g,0+(k+1)*2,none⟩)),(9,70,.agg (dV (SM.G Dz ys (k+1))).toArray),(10,71,.slice (some ⟨g,0,none⟩) n c),(11,72,.int .i64 ((k:Nat):Int)),(12,73,.pointer (some ⟨g,0+k*2,none⟩)),(13,74,.agg (dV (SM.G Dz ys k)).toArray),(14,75,.pointer (some ⟨g,0+k*2,none⟩)),(16,76,.pointer (some ⟨g,0+(k+1)*2,none⟩))] (fun S w'=>World.grownBy w18 w' (some g)∧(S 15=false→w'.ownsRow base 37 2 (.slice (some ⟨g,0,none⟩) n c) n (List.flatMap dV ys))∧(S 15=true→S 9=true∧S 13=true)∧(S 15=true→S 17=false→w'.ownsRow base 37 2 (.slice (some ⟨g,0,none⟩) n c) n (List.flatMap dV (ys.set k (SM.G Dz ys (k+1)))))∧(S 15=true→S 17=true→w'.ownsRow base 37 2 (.slice (some ⟨g,0,none⟩) n c) n (List.flatMap dV ((ys.set k (SM.G Dz ys (k+1))).set (k+1) (SM.G Dz ys k))))∧(S 15=false→S 17=false)) (by kernel_rfl) (by kernel_rfl) hU20 (by simp) (⟨(aj.rfl_.d1 (a:=w18)).grown _,fun _=>hoy.kept_from aj.rfl_.d1,fun q=>Bool.noConfusion q,fun q=>Bool.noConfusion q,fun q=>Bool.noConfusion q,fun _=>rfl⟩) ?_ ?_
   ·constructor
    ·rintro S L' wS hI hM hS0 ⟨-⟩;have e0:=hI.1 0 (by simp);have hM':=hM;obtain ⟨hG,hA,hB1,hC,hD,hE⟩:=hM';exact bf (aq e0) ⟨hI.put hU20 (.head _),hM⟩
    constructor
    ·rintro S L' wS hI hM hS0 ⟨-⟩;have e13:=hI.1 13 (by simp);have hM':=hM;obtain ⟨hG,hA,hB1,hC,hD,hE⟩:=hM';exact bf (aq e13) ⟨hI.put hU20 (.tail _ (.head _)),hM⟩
    constructor
    ·rintro S L' wS hI hM hS0 ⟨-,-⟩;have e0:=hI.1 0 (by simp);have hM':=hM;obtain ⟨hG,hA,hB1,hC,hD,hE⟩:=hM';exact bf (aq e0) ⟨hI.put hU20 (.tail _ (.tail _ (.head _))),hM⟩
    constructor
    ·rintro S L' wS hI hM hS0 ⟨-,-⟩;have e13:=hI.1 13 (by simp);have hM':=hM;obtain ⟨hG,hA,hB1,hC,hD,hE⟩:=hM';exact bf (aq e13) ⟨hI.put hU20 (.tail _ (.tail _ (.tail _ (.head _)))),hM⟩
    constructor
    ·rintro S L' wS hI hM hS0 ⟨d3,-,-⟩;have e64:aY L' 64=.int .i64 ((k:Nat):Int):=hI.get (i:=3) (.tail _ (.tail _ (.tail _ (.head _)))) d3;have hM':=hM;obtain ⟨hG,hA,hB1,hC,hD,hE⟩:=hM';exact bf (aG (a:=k) (b:=1) e64 rfl (by omega)) ⟨hI.put hU20 (.tail _ (.tail _ (.tail _ (.tail _ (.head _))))),hM⟩
    constructor
    ·rintro S L' wS hI hM hS0 ⟨-⟩;have e0:=hI.1 0 (by simp);have hM':=hM;obtain ⟨hG,hA,hB1,hC,hD,hE⟩:=hM';exact bf (aq e0) ⟨hI.put hU20 (.tail _ (.tail _ (.tail _ (.tail _ (.tail _ (.head _)))))),hM⟩
    constructor
    ·rintro S L' wS hI hM hS0 ⟨-⟩;have e13:=hI.1 13 (by simp);have hM':=hM;obtain ⟨hG,hA,hB1,hC,hD,hE⟩:=hM';exact bf (aq e13) ⟨hI.put hU20 (.tail _ (.tail _ (.tail _ (.tail _ (.tail _ (.tail _ (.head _))))))),hM⟩
    constructor
    ·rintro S L' wS hI hM hS0 ⟨d6,-⟩;have e67:aY L' 67=.int .i64 ((k:Nat):Int):=hI.get (i:=6) (.tail _ (.tail _ (.tail _ (.tail _ (.tail _ (.tail _ (.head _))))))) d6;have hM':=hM;obtain ⟨hG,hA,hB1,hC,hD,hE⟩:=hM';exact bf (aG (a:=k) (b:=1) e67 rfl (by omega)) ⟨hI.put hU20 (.tail _ (.tail _ (.tail _ (.tail _ (.tail _ (.tail _ (.tail _ (.head _)))))))),hM⟩
    constructor
    ·rintro S L' wS hI hM hS0 ⟨d5,d7,-⟩;have e66:aY L' 66=.slice (some ⟨g,0,none⟩) n c:=hI.get (i:=5) (.tail _ (.tail _ (.tail _ (.tail _ (.tail _ (.head _)))))) d5;have e68:aY L' 68=.int .i64 (((k+1):Nat):Int):=hI.get (i:=7) (.tail _ (.tail _ (.tail _ (.tail _ (.tail _ (.tail _ (.tail _ (.head _)))))))) d7;have hM':=hM;obtain ⟨hG,hA,hB1,hC,hD,hE⟩:=hM';exact bf (aM (i:=(k+1)) aT e66 e68 (by omega)) ⟨hI.put hU20 (.tail _ (.tail _ (.tail _ (.tail _ (.tail _ (.tail _ (.tail _ (.tail _ (.head _))))))))),hM⟩
    constructor
    ·rintro S L' wS hI hM hS0 ⟨d8,-⟩;have e69:aY L' 69=.pointer (some ⟨g,0+(k+1)*2,none⟩):=hI.get (i:=8) (.tail _ (.tail _ (.tail _ (.tail _ (.tail _ (.tail _ (.tail _ (.tail _ (.head _))))))))) d8;have hM':=hM;obtain ⟨hG,hA,hB1,hC,hD,hE⟩:=hM';exact bf (bn (cs:=dV (SM.G Dz ys (k+1))) bK bh e69 (eU bz Dz (hA (vC (fun q=>(hB1 q).1) hS0)) (by omega))) ⟨hI.put hU20 (.tail _ (.tail _ (.tail _ (.tail _ (.tail _ (.tail _ (.tail _ (.tail _ (.tail _ (.head _)))))))))),hG,hA,fun q=>⟨rfl,(hB1 q).2⟩,hC,hD,hE⟩
    constructor
    ·rintro S L' wS hI hM hS0 ⟨-⟩;have e0:=hI.1 0 (by simp);have hM':=hM;obtain ⟨hG,hA,hB1,hC,hD,hE⟩:=hM';exact bf (aq e0) ⟨hI.put hU20 (.tail _ (.tail _ (.tail _ (.tail _ (.tail _ (.tail _ (.tail _ (.tail _ (.tail _ (.tail _ (.head _))))))))))),hM⟩
    constructor
    ·rintro S L' wS hI hM hS0 ⟨-⟩;have e13:=hI.1 13 (by simp);have hM':=hM;obtain ⟨hG,hA,hB1,hC,hD,hE⟩:=hM';exact bf (aq e13) ⟨hI.put hU20 (.tail _ (.tail _ (.tail _ (.tail _ (.tail _ (.tail _ (.tail _ (.tail _ (.tail _ (.tail _ (.tail _ (.head _)))))))))))),hM⟩
    constructor
    ·rintro S L' wS hI hM hS0 ⟨d10,d11,-⟩;have e71:aY L' 71=.slice (some ⟨g,0,none⟩) n c:=hI.get (i:=10) (.tail _ (.tail _ (.tail _ (.tail _ (.tail _ (.tail _ (.tail _ (.tail _ (.tail _ (.tail _ (.head _))))))))))) d10;have e72:aY L' 72=.int .i64 ((k:Nat):Int):=hI.get (i:=11) (.tail _ (.tail _ (.tail _ (.tail _ (.tail _ (.tail _ (.tail _ (.tail _ (.tail _ (.tail _ (.tail _ (.head _)))))))))))) d11;have hM':=hM;obtain ⟨hG,hA,hB1,hC,hD,hE⟩:=hM';exact bf (aM (i:=k) aT e71 e72 (by omega)) ⟨hI.put hU20 (.tail _ (.tail _ (.tail _ (.tail _ (.tail _ (.tail _ (.tail _ (.tail _ (.tail _ (.tail _ (.tail _ (.tail _ (.head _))))))))))))),hM⟩
    constructor
    ·rintro S L' wS hI hM hS0 ⟨d12,-⟩;have e73:aY L' 73=.pointer (some ⟨g,0+k*2,none⟩):=hI.get (i:=12) (.tail _ (.tail _ (.tail _ (.tail _ (.tail _ (.tail _ (.tail _ (.tail _ (.tail _ (.tail _ (.tail _ (.tail _ (.head _))))))))))))) d12;have hM':=hM;obtain ⟨hG,hA,hB1,hC,hD,hE⟩:=hM';exact bf (bn (cs:=dV (SM.G Dz ys k)) bK bh e73 (eU bz Dz (hA (vC (fun q=>(hB1 q).2) hS0)) (by omega))) ⟨hI.put hU20 (.tail _ (.tail _ (.tail _ (.tail _ (.tail _ (.tail _ (.tail _ (.tail _ (.tail _ (.tail _ (.tail _ (.tail _ (.tail _ (.head _)))))))))))))),hG,hA,fun q=>⟨(hB1 q).1,rfl⟩,hC,hD,hE⟩
    constructor
    ·rintro S L' wS hI hM hS0 ⟨d0,d1,d0,d1,-,-,-,d5,d6,d7,d8,d9,-,-,-,d13,-⟩;have e61:aY L' 61=.slice (some ⟨g,0,none⟩) n c:=hI.get (i:=0) (.head _) d0;have e62:aY L' 62=.int .i64 ((k:Nat):Int):=hI.get (i:=1) (.tail _ (.head _)) d1;have hM':=hM;obtain ⟨hG,hA,hB1,hC,hD,hE⟩:=hM';exact bf (aM (i:=k) aT e61 e62 (by omega)) ⟨hI.put hU20 (.tail _ (.tail _ (.tail _ (.tail _ (.tail _ (.tail _ (.tail _ (.tail _ (.tail _ (.tail _ (.tail _ (.tail _ (.tail _ (.tail _ (.head _))))))))))))))),hM⟩
    constructor
    ·rintro S L' wS hI hM hS0 ⟨d14,d9,d0,d1,-,-,-,d5,d6,d7,d8,d9,-,-,-,d13,-⟩;have e70:aY L' 70=.agg (dV (SM.G Dz ys (k+1))).toArray:=hI.get (i:=9) (.tail _ (.tail _ (.tail _ (.tail _ (.tail _ (.tail _ (.tail _ (.tail _ (.tail _ (.head _)))))))))) d9;have e75:aY L' 75=.pointer (some ⟨g,0+k*2,none⟩):=hI.get (i:=14) (.tail _ (.tail _ (.tail _ (.tail _ (.tail _ (.tail _ (.tail _ (.tail _ (.tail _ (.tail _ (.tail _ (.tail _ (.tail _ (.tail _ (.head _))))))))))))))) d14;have hM':=hM;obtain ⟨hG,hA,hB1,hC,hD,hE⟩:=hM';obtain ⟨w2,hR,hO,hb⟩:=fD (n:=220) (L:=L') (x:=.tmp 75) (y:=.tmp 70) (f:=dV) bz jk (i:=k) bh e75 e70 (hA hS0) (by omega);exact gU hR ⟨hI.skip (by simp),aN hG hO.grown,fun q=>Bool.noConfusion q,fun _=>⟨d9,d13⟩,fun _ _=>hb,fun _ q=>Bool.noConfusion (q.symm.trans (hE hS0)),fun q=>Bool.noConfusion q⟩
    constructor
    ·rintro S L' wS hI hM hS0 ⟨d2,d4,d0,d1,d2,d3,d4,d5,d6,d7,d8,d9,d10,d11,d12,d13,d14,d15,-⟩;have e63:aY L' 63=.slice (some ⟨g,0,none⟩) n c:=hI.get (i:=2) (.tail _ (.tail _ (.head _))) d2;have e65:aY L' 65=.int .i64 (((k+1):Nat):Int):=hI.get (i:=4) (.tail _ (.tail _ (.tail _ (.tail _ (.head _))))) d4;have hM':=hM;obtain ⟨hG,hA,hB1,hC,hD,hE⟩:=hM';exact bf (aM (i:=(k+1)) aT e63 e65 (by omega)) ⟨hI.put hU20 (.tail _ (.tail _ (.tail _ (.tail _ (.tail _ (.tail _ (.tail _ (.tail _ (.tail _ (.tail _ (.tail _ (.tail _ (.tail _ (.tail _ (.tail _ (.head _)))))))))))))))),hM⟩
    constructor
    ·rintro S L' wS hI hM hS0 ⟨d16,d13,d15,d0,d1,d2,d3,d4,d5,d6,d7,d8,d9,d10,d11,d12,d13,d14,d15,-⟩;have e74:aY L' 74=.agg (dV (SM.G Dz ys k)).toArray:=hI.get (i:=13) (.tail _ (.tail _ (.tail _ (.tail _ (.tail _ (.tail _ (.tail _ (.tail _ (.tail _ (.tail _ (.tail _ (.tail _ (.tail _ (.head _)))))))))))))) d13;have e76:aY L' 76=.pointer (some ⟨g,0+(k+1)*2,none⟩):=hI.get (i:=16) (.tail _ (.tail _ (.tail _ (.tail _ (.tail _ (.tail _ (.tail _ (.tail _ (.tail _ (.tail _ (.tail _ (.tail _ (.tail _ (.tail _ (.tail _ (.head _)))))))))))))))) d16;have hM':=hM;obtain ⟨hG,hA,hB1,hC,hD,hE⟩:=hM';obtain ⟨w2,hR,hO,hb⟩:=fD (n:=220) (L:=L') (x:=.tmp 76) (y:=.tmp 74) (f:=dV) bz jk (i:=(k+1)) bh e76 e74 (hC d15 hS0) (by omega);exact gU hR ⟨hI.skip (by simp),aN hG hO.grown,fun q=>Bool.noConfusion (q.symm.trans d15),hB1,fun _ q=>Bool.noConfusion q,fun _ _=>hb,fun q=>Bool.noConfusion (q.symm.trans d15)⟩
    exact trivial
   ·intro w21 hM;obtain ⟨hG,hA,hB1,hC,hD,hE⟩:=hM;have hS9:=hD rfl rfl;change World.ownsRow _ _ _ _ _ _ (List.flatMap dV (SM.swp Dz ys k (k+1))) at hS9;refine aI (ab (aa (mvi rfl (ae (aG (b:=1) rfl rfl (by omega)) (asi rfl (ah ?_))))));refine aO ((k+1,SM.swp Dz ys k (k+1))) ⟨(by first | rfl | (refine aK ?_;omega)),trivial⟩ (by (iterate 46 refine aB rfl ?_);exact aJ) ⟨?_,?_⟩
    ·exact ⟨by omega,by omega,hS9,aN hG0 hG,hP.trans (.swap (by omega) (by omega) (by omega)),SM.mvl_succ hR hka (by omega)⟩
    ·show i-(k+1)<i-k;omega
  refine bc (aC (aC (aS (ab (ay (aD (kh rfl ?_)))))));obtain rfl:k=i-1:=by omega
  exact ⟨ys,hoy,hG0,hP,SM.mrg_first g_ (by omega) s2 ⟨h3,by omega⟩ hlo (by rw [show i=j by omega];exact hhi) hR⟩
 refine av (ab (af (af (aa (mvi rfl (mvi rfl (ae (bP rfl rfl (by omega)) (ae (cx rfl rfl) (ah (ab (JV rfl (fun Q22=>?_) (fun Q22=>?_))))))))))))
 ·refine af (aa (mvi rfl (asi rfl (ah (ab (af (aa (mvi rfl (asi rfl (ah (ab (af (aw (a_ (G:=Nat×Nat) [16,83,84,85,86,87,88,89,90,91,92,93,94,95,96,97,98,99,100,101,102,103,104,105,106] (fun (i,j)=>[(14,.int .i64 (i:Nat)),(15,.int .i64 (j:Nat))]) (fun (i,j) w'=>a≤i∧i≤j∧j≤m∧(i=a∨¬ ltD (SM.G Dz xs m) (SM.G Dz xs (i-1)))∧(j=m∨ltD (SM.G Dz xs m) (SM.G Dz xs j))∧w'.ownsRow base 37 2 (.slice (some ⟨g,0,none⟩) n c) n (List.flatMap dV xs)∧w.grownBy w' (some g)) (fun (i,j)=>j-i) ((a,m)) ⟨rfl,rfl,trivial⟩ ?_ ?_))))))))))))))
  ·exact ⟨Nat.le_refl _,by omega,Nat.le_refl _,.inl rfl,.inl rfl,ho,World.grownBy.refl _ _⟩
  rintro ⟨i,j⟩ ρ23 w23 ⟨h3,h4,h5,hlo,hhi,hoy,hG0⟩;refine af (af (aa (mvi rfl (mvi rfl (ae (aW rfl rfl) (ah (ab (JV rfl (fun Q24=>?_) (fun Q24=>?_)))))))))
  ·refine av (ab (aw (af (aa (mvi rfl (mvi rfl (ae (aG rfl rfl (by omega)) ?_)))))));obtain ⟨h,hh⟩:∃ h,h=(i+j)/2 ^ 1:=⟨_,rfl⟩;refine ae (fq dP fS rfl (by omega)) (ae (ep (b:=1) rfl rfl (by decide)) (ae (ef gQ eK rfl (by omega)) (dh (t:=91) (v:=.int _ _) (v':=.int .i64 (h:Nat)) rfl (by rw [hh]) ?_)));refine asi rfl (ah (ab (af ?_)));apply bS 12 [(92,eqp _),(93,eqp _),(94,eqp _),(95,eqp _),(96,eqp (.agg (dV (SM.G Dz xs m)).toArray)),(97,eqp _),(98,eqp _),(99,eqp _),(100,eqp (.agg (dV (SM.G Dz xs h)).toArray)),(101,eqp _),(102,eqp _),(103,eqp _)] (by repeat first | exact cy | refine cm ?_ | refine bO ?_) (by kernel_rfl) (by kernel_rfl) ⟨ag _,ag _,ag _,ag _,ag _,ag _,ag _,ag _,ag _,ag _,ag _,ag _,trivial⟩
   case hop=>
    constructor
    ·rintro-w26 D26;exact ai (aq (v:=.func _ _ _) rfl) rfl
    constructor
    ·rintro-w27 D27;exact ai (aq (v:=.slice _ _ _) rfl) rfl
    constructor
    ·rintro-w28 D28;exact ai (aq (v:=.int _ _) rfl) rfl
    constructor
    ·rintro-w29 D29;rintro _ rfl _ rfl;exact ai (aM aT rfl rfl (by omega)) rfl
    constructor
    ·rintro-w30 D30;rintro _ rfl;exact ai (bn (cs:=dV (SM.G Dz xs m)) bK bh rfl (eU bz Dz (hoy.kept_from D30) (by omega))) rfl
    constructor
    ·rintro-w31 D31;exact ai (aq (v:=.slice _ _ _) rfl) rfl
    constructor
    ·rintro-w32 D32;exact ai (aq (v:=.int _ _) rfl) rfl
    constructor
    ·rintro-w33 D33;rintro _ rfl _ rfl;exact ai (aM aT rfl rfl (by omega)) rfl
    constructor
    ·rintro-w34 D34;rintro _ rfl;exact ai (bn (cs:=dV (SM.G Dz xs h)) bK bh rfl (eU bz Dz (hoy.kept_from D34) (by omega))) rfl
    constructor
    ·rintro-w35 D35;rintro _ rfl v35_96 rfl v35_100 rfl;exact rh (caps:=[]) rfl kd ((qy (SM.G Dz xs m) (SM.G Dz xs h) _).mono fun v w2 h=>⟨h.2,h.1⟩)
    constructor
    ·rintro-w36 D36;rintro _ rfl;exact ai (aW rfl rfl) rfl
    constructor
    ·rintro-w37 D37;rintro _ rfl;exact ai (eQ rfl) rfl
    exact trivial
   case hend=>
    intro w38 D38;rintro _ rfl _ rfl _ rfl _ rfl v96 rfl _ rfl _ rfl _ rfl v100 rfl _ rfl _ rfl _ rfl;show St ..;replace hG0:=aN hG0 (D38.grown _);replace hoy:=hoy.kept_from D38;refine ah (ab (au rfl (fun Q39=>?_) (fun Q39=>?_)))
    ·with_reducible (replace Q39:=fm Q39;replace Q39:=dF_ Q39)
     have hnl:¬ ltD (SM.G Dz xs m) (SM.G Dz xs h):=fun h9=>by
      have h8:=pM.2 h9;exact absurd h8 (by omega)
     refine aa (mvi rfl (ae (aG (b:=1) rfl rfl (by omega)) (asi rfl (ah (aI ?_)))));refine aO ((h+1,j)) ⟨(by first | rfl | (refine aK ?_;omega)),(by first | rfl | (refine aK ?_;omega)),trivial⟩ (by (iterate 53 refine aB rfl ?_);exact aJ) ⟨?_,?_⟩
     ·exact ⟨by omega,by omega,h5,.inr (by rw [show h+1-1=h by omega];exact hnl),hhi,hoy,hG0⟩
     ·show j-(h+1)<j-i;omega
    with_reducible (replace Q39:=fo Q39;replace Q39:=dT_ Q39)
    have hlt:=pM.1 (show iW (SM.G Dz xs m).1 (SM.G Dz xs h).1<0 by simpa using Q39);refine aa (mvi rfl (asi rfl (ah (aI ?_))));refine aO ((i,h)) ⟨(by first | rfl | (refine aK ?_;omega)),(by first | rfl | (refine aK ?_;omega)),trivial⟩ (by (iterate 52 refine aB rfl ?_);exact aJ) ⟨?_,?_⟩
    ·exact ⟨h3,by omega,by omega,hlo,.inr hlt,hoy,hG0⟩
    ·show h-i<j-i;omega
  refine bc (aC (aC (aS (ab (af (af (aa (mvi rfl (asi rfl (ah (ab (aw (a_ (G:=Nat×List Dc) [108,109,110,111,112,113,114,115,116,117,118,119,120,121,122,123,124,125,126,127,128] (fun (k,_)=>[(17,.int .i64 (k:Nat))]) (fun (k,ys) w'=>i≤k∧k≤m∧w'.ownsRow base 37 2 (.slice (some ⟨g,0,none⟩) n c) n (List.flatMap dV ys)∧w.grownBy w' (some g)∧SM.PW Dz a b xs ys∧∀ t,SM.G Dz ys t=SM.mvr k m (SM.G Dz xs) t) (fun (k,_)=>k-i) ((m,xs)) ⟨rfl,trivial⟩ ?_ ?_)))))))))))))
  ·exact ⟨by omega,Nat.le_refl _,hoy,hG0,.rfl_,fun t=>(SM.mvr_zero _ _ t).symm⟩
  rintro ⟨k,ys⟩ ρ40 w40 ⟨hki,hkm,hoy,hG0,hP,hR⟩;have hyl:=fF bz hoy;refine af (af (aa (mvi rfl (mvi rfl (ae (cL rfl rfl) (ah (ab (JV rfl (fun Q41=>?_) (fun Q41=>?_)))))))))
  ·refine av (ab (af (aw ?_)));have hU42:nt [(0,113,.slice (some ⟨g,0,none⟩) n c),(1,114,.int .i64 ((k:Nat):Int)),(2,115,.slice (some ⟨g,0,none⟩) n c),(3,116,.int .i64 ((k:Nat):Int)),(4,117,.int .i64 (((k-1):Nat):Int)),(5,118,.slice (some ⟨g,0,none⟩) n c),(6,119,.int .i64 ((k:Nat):Int)),(7,120,.int .i64 (((k-1):Nat):Int)),(8,121,.pointer (some ⟨g,0+(k-1)*2,none⟩)),(9,122,.agg (dV (SM.G Dz ys (k-1))).toArray),(10,123,.slice (some ⟨g,0,none⟩) n c),(11,124,.int .i64 ((k:Nat):Int)),(12,125,.pointer (some ⟨g,0+k*2,none⟩)),(13,126,.agg (dV (SM.G Dz ys k)).toArray),(14,127,.pointer (some ⟨g,0+k*2,none⟩)),(16,128,.pointer (some ⟨g,0+(k-1)*2,none⟩))]:=by simp [nt]
   refine oc [(0,113,.slice (some ⟨g,0,none⟩) n c),(1,114,.int .i64 ((k:Nat):Int)),(2,115,.slice (some ⟨g,0,none⟩) n c),(3,116,.int .i64 ((k:Nat):Int)),(4,117,.int .i64 (((k-1):Nat):Int)),(5,118,.slice (some ⟨g,0,none⟩) n c),(6,119,.int .i64 ((k:Nat):Int)),(7,120,.int .i64 (((k-1):Nat):Int)),(8,121,.pointer (some ⟨g,0+(k-1)*2,none⟩)),(9,122,.agg (dV (SM.G Dz ys (k-1))).toArray),(10,123,.slice (some ⟨g,0,none⟩) n c),(11,124,.int .i64 ((k:Nat):Int)),(12,125,.pointer (some ⟨g,0+k*2,none⟩)),(13,126,.agg (dV (SM.G Dz ys k)).toArray),(14,127,.pointer (some ⟨g,0+k*2,none⟩)),(16,128,.pointer (some ⟨g,0+(k-1)*2,none⟩))] (fun S w'=>World.grownBy w40 w' (some g)∧(S 15=false→w'.ownsRow base 37 2 (.slice (some ⟨g,0,none⟩) n c) n (List.flatMap dV ys))∧(S 15=true→S 9=true∧S 13=true)∧(S 15=true→S 17=false→w'.ownsRow base 37 2 (.slice (some ⟨g,0,none⟩) n c) n (List.flatMap dV (ys.set k (SM.G Dz ys (k-1)))))∧(S 15=true→S 17=true→w'.ownsRow base 37 2 (.slice (some ⟨g,0,none⟩) n c) n (List.flatMap dV ((ys.set k (SM.G Dz ys (k-1))).set (k-1) (SM.G Dz ys k))))∧(S 15=false→S 17=false)) (by kernel_rfl) (by kernel_rfl) hU42 (by simp) (⟨(aj.rfl_.d1 (a:=w40)).grown _,fun _=>hoy.kept_from aj.rfl_.d1,fun q=>Bool.noConfusion q,fun q=>Bool.noConfusion q,fun q=>Bool.noConfusion q,fun _=>rfl⟩) ?_ ?_
   ·constructor
    ·rintro S L' wS hI hM hS0 ⟨-⟩;have e0:=hI.1 0 (by simp);have hM':=hM;obtain ⟨hG,hA,hB1,hC,hD,hE⟩:=hM';exact bf (aq e0) ⟨hI.put hU42 (.head _),hM⟩
    constructor
    ·rintro S L' wS hI hM hS0 ⟨-⟩;have e17:=hI.1 17 (by simp);have hM':=hM;obtain ⟨hG,hA,hB1,hC,hD,hE⟩:=hM';exact bf (aq e17) ⟨hI.put hU42 (.tail _ (.head _)),hM⟩
    constructor
    ·rintro S L' wS hI hM hS0 ⟨-,-⟩;have e0:=hI.1 0 (by simp);have hM':=hM;obtain ⟨hG,hA,hB1,hC,hD,hE⟩:=hM';exact bf (aq e0) ⟨hI.put hU42 (.tail _ (.tail _ (.head _))),hM⟩
    constructor
    ·rintro S L' wS hI hM hS0 ⟨-,-⟩;have e17:=hI.1 17 (by simp);have hM':=hM;obtain ⟨hG,hA,hB1,hC,hD,hE⟩:=hM';exact bf (aq e17) ⟨hI.put hU42 (.tail _ (.tail _ (.tail _ (.head _)))),hM⟩
    constructor
    ·rintro S L' wS hI hM hS0 ⟨d3,-,-⟩;have e116:aY L' 116=.int .i64 ((k:Nat):Int):=hI.get (i:=3) (.tail _ (.tail _ (.tail _ (.head _)))) d3;have hM':=hM;obtain ⟨hG,hA,hB1,hC,hD,hE⟩:=hM';exact bf (bP (a:=k) (b:=1) e116 rfl (by omega)) ⟨hI.put hU42 (.tail _ (.tail _ (.tail _ (.tail _ (.head _))))),hM⟩
    constructor
    ·rintro S L' wS hI hM hS0 ⟨-⟩;have e0:=hI.1 0 (by simp);have hM':=hM;obtain ⟨hG,hA,hB1,hC,hD,hE⟩:=hM';exact bf (aq e0) ⟨hI.put hU42 (.tail _ (.tail _ (.tail _ (.tail _ (.tail _ (.head _)))))),hM⟩
    constructor
    ·rintro S L' wS hI hM hS0 ⟨-⟩;have e17:=hI.1 17 (by simp);have hM':=hM;obtain ⟨hG,hA,hB1,hC,hD,hE⟩:=hM';exact bf (aq e17) ⟨hI.put hU42 (.tail _ (.tail _ (.tail _ (.tail _ (.tail _ (.tail _ (.head _))))))),hM⟩
    constructor
    ·rintro S L' wS hI hM hS0 ⟨d6,-⟩;have e119:aY L' 119=.int .i64 ((k:Nat):Int):=hI.get (i:=6) (.tail _ (.tail _ (.tail _ (.tail _ (.tail _ (.tail _ (.head _))))))) d6;have hM':=hM;obtain ⟨hG,hA,hB1,hC,hD,hE⟩:=hM';exact bf (bP (a:=k) (b:=1) e119 rfl (by omega)) ⟨hI.put hU42 (.tail _ (.tail _ (.tail _ (.tail _ (.tail _ (.tail _ (.tail _ (.head _)))))))),hM⟩
    constructor
    ·rintro S L' wS hI hM hS0 ⟨d5,d7,-⟩;have e118:aY L' 118=.slice (some ⟨g,0,none⟩) n c:=hI.get (i:=5) (.tail _ (.tail _ (.tail _ (.tail _ (.tail _ (.head _)))))) d5;have e120:aY L' 120=.int .i64 (((k-1):Nat):Int):=hI.get (i:=7) (.tail _ (.tail _ (.tail _ (.tail _ (.tail _ (.tail _ (.tail _ (.head _)))))))) d7;have hM':=hM;obtain ⟨hG,hA,hB1,hC,hD,hE⟩:=hM';exact bf (aM (i:=(k-1)) aT e118 e120 (by omega)) ⟨hI.put hU42 (.tail _ (.tail _ (.tail _ (.tail _ (.tail _ (.tail _ (.tail _ (.tail _ (.head _))))))))),hM⟩
    constructor
    ·rintro S L' wS hI hM hS0 ⟨d8,-⟩;have e121:aY L' 121=.pointer (some ⟨g,0+(k-1)*2,none⟩):=hI.get (i:=8) (.tail _ (.tail _ (.tail _ (.tail _ (.tail _ (.tail _ (.tail _ (.tail _ (.head _))))))))) d8;have hM':=hM;obtain ⟨hG,hA,hB1,hC,hD,hE⟩:=hM';exact bf (bn (cs:=dV (SM.G Dz ys (k-1))) bK bh e121 (eU bz Dz (hA (vC (fun q=>(hB1 q).1) hS0)) (by omega))) ⟨hI.put hU42 (.tail _ (.tail _ (.tail _ (.tail _ (.tail _ (.tail _ (.tail _ (.tail _ (.tail _ (.head _)))))))))),hG,hA,fun q=>⟨rfl,(hB1 q).2⟩,hC,hD,hE⟩
    constructor
    ·rintro S L' wS hI hM hS0 ⟨-⟩;have e0:=hI.1 0 (by simp);have hM':=hM;obtain ⟨hG,hA,hB1,hC,hD,hE⟩:=hM';exact bf (aq e0) ⟨hI.put hU42 (.tail _ (.tail _ (.tail _ (.tail _ (.tail _ (.tail _ (.tail _ (.tail _ (.tail _ (.tail _ (.head _))))))))))),hM⟩
    constructor
    ·rintro S L' wS hI hM hS0 ⟨-⟩;have e17:=hI.1 17 (by simp);have hM':=hM;obtain ⟨hG,hA,hB1,hC,hD,hE⟩:=hM';exact bf (aq e17) ⟨hI.put hU42 (.tail _ (.tail _ (.tail _ (.tail _ (.tail _ (.tail _ (.tail _ (.tail _ (.tail _ (.tail _ (.tail _ (.head _)))))))))))),hM⟩
    constructor
    ·rintro S L' wS hI hM hS0 ⟨d10,d11,-⟩;have e123:aY L' 123=.slice (some ⟨g,0,none⟩) n c:=hI.get (i:=10) (.tail _ (.tail _ (.tail _ (.tail _ (.tail _ (.tail _ (.tail _ (.tail _ (.tail _ (.tail _ (.head _))))))))))) d10;have e124:aY L' 124=.int .i64 ((k:Nat):Int):=hI.get (i:=11) (.tail _ (.tail _ (.tail _ (.tail _ (.tail _ (.tail _ (.tail _ (.tail _ (.tail _ (.tail _ (.tail _ (.head _)))))))))))) d11;have hM':=hM;obtain ⟨hG,hA,hB1,hC,hD,hE⟩:=hM';exact bf (aM (i:=k) aT e123 e124 (by omega)) ⟨hI.put hU42 (.tail _ (.tail _ (.tail _ (.tail _ (.tail _ (.tail _ (.tail _ (.tail _ (.tail _ (.tail _ (.tail _ (.tail _ (.head _))))))))))))),hM⟩
    constructor
    ·rintro S L' wS hI hM hS0 ⟨d12,-⟩;have e125:aY L' 125=.pointer (some ⟨g,0+k*2,none⟩):=hI.get (i:=12) (.tail _ (.tail _ (.tail _ (.tail _ (.tail _ (.tail _ (.tail _ (.tail _ (.tail _ (.tail _ (.tail _ (.tail _ (.head _))))))))))))) d12;have hM':=hM;obtain ⟨hG,hA,hB1,hC,hD,hE⟩:=hM';exact bf (bn (cs:=dV (SM.G Dz ys k)) bK bh e125 (eU bz Dz (hA (vC (fun q=>(hB1 q).2) hS0)) (by omega))) ⟨hI.put hU42 (.tail _ (.tail _ (.tail _ (.tail _ (.tail _ (.tail _ (.tail _ (.tail _ (.tail _ (.tail _ (.tail _ (.tail _ (.tail _ (.head _)))))))))))))),hG,hA,fun q=>⟨(hB1 q).1,rfl⟩,hC,hD,hE⟩
    constructor
    ·rintro S L' wS hI hM hS0 ⟨d0,d1,d0,d1,-,-,-,d5,d6,d7,d8,d9,-,-,-,d13,-⟩;have e113:aY L' 113=.slice (some ⟨g,0,none⟩) n c:=hI.get (i:=0) (.head _) d0;have e114:aY L' 114=.int .i64 ((k:Nat):Int):=hI.get (i:=1) (.tail _ (.head _)) d1;have hM':=hM;obtain ⟨hG,hA,hB1,hC,hD,hE⟩:=hM';exact bf (aM (i:=k) aT e113 e114 (by omega)) ⟨hI.put hU42 (.tail _ (.tail _ (.tail _ (.tail _ (.tail _ (.tail _ (.tail _ (.tail _ (.tail _ (.tail _ (.tail _ (.tail _ (.tail _ (.tail _ (.head _))))))))))))))),hM⟩
    constructor
    ·rintro S L' wS hI hM hS0 ⟨d14,d9,d0,d1,-,-,-,d5,d6,d7,d8,d9,-,-,-,d13,-⟩;have e122:aY L' 122=.agg (dV (SM.G Dz ys (k-1))).toArray:=hI.get (i:=9) (.tail _ (.tail _ (.tail _ (.tail _ (.tail _ (.tail _ (.tail _ (.tail _ (.tail _ (.head _)))))))))) d9;have e127:aY L' 127=.pointer (some ⟨g,0+k*2,none⟩):=hI.get (i:=14) (.tail _ (.tail _ (.tail _ (.tail _ (.tail _ (.tail _ (.tail _ (.tail _ (.tail _ (.tail _ (.tail _ (.tail _ (.tail _ (.tail _ (.head _))))))))))))))) d14;have hM':=hM;obtain ⟨hG,hA,hB1,hC,hD,hE⟩:=hM';obtain ⟨w2,hR,hO,hb⟩:=fD (n:=220) (L:=L') (x:=.tmp 127) (y:=.tmp 122) (f:=dV) bz jk (i:=k) bh e127 e122 (hA hS0) (by omega);exact gU hR ⟨hI.skip (by simp),aN hG hO.grown,fun q=>Bool.noConfusion q,fun _=>⟨d9,d13⟩,fun _ _=>hb,fun _ q=>Bool.noConfusion (q.symm.trans (hE hS0)),fun q=>Bool.noConfusion q⟩
    constructor
    ·rintro S L' wS hI hM hS0 ⟨d2,d4,d0,d1,d2,d3,d4,d5,d6,d7,d8,d9,d10,d11,d12,d13,d14,d15,-⟩;have e115:aY L' 115=.slice (some ⟨g,0,none⟩) n c:=hI.get (i:=2) (.tail _ (.tail _ (.head _))) d2;have e117:aY L' 117=.int .i64 (((k-1):Nat):Int):=hI.get (i:=4) (.tail _ (.tail _ (.tail _ (.tail _ (.head _))))) d4;have hM':=hM;obtain ⟨hG,hA,hB1,hC,hD,hE⟩:=hM';exact bf (aM (i:=(k-1)) aT e115 e117 (by omega)) ⟨hI.put hU42 (.tail _ (.tail _ (.tail _ (.tail _ (.tail _ (.tail _ (.tail _ (.tail _ (.tail _ (.tail _ (.tail _ (.tail _ (.tail _ (.tail _ (.tail _ (.head _)))))))))))))))),hM⟩
    constructor
    ·rintro S L' wS hI hM hS0 ⟨d16,d13,d15,d0,d1,d2,d3,d4,d5,d6,d7,d8,d9,d10,d11,d12,d13,d14,d15,-⟩;have e126:aY L' 126=.agg (dV (SM.G Dz ys k)).toArray:=hI.get (i:=13) (.tail _ (.tail _ (.tail _ (.tail _ (.tail _ (.tail _ (.tail _ (.tail _ (.tail _ (.tail _ (.tail _ (.tail _ (.tail _ (.head _)))))))))))))) d13;have e128:aY L' 128=.pointer (some ⟨g,0+(k-1)*2,none⟩):=hI.get (i:=16) (.tail _ (.tail _ (.tail _ (.tail _ (.tail _ (.tail _ (.tail _ (.tail _ (.tail _ (.tail _ (.tail _ (.tail _ (.tail _ (.tail _ (.tail _ (.head _)))))))))))))))) d16;have hM':=hM;obtain ⟨hG,hA,hB1,hC,hD,hE⟩:=hM';obtain ⟨w2,hR,hO,hb⟩:=fD (n:=220) (L:=L') (x:=.tmp 128) (y:=.tmp 126) (f:=dV) bz jk (i:=(k-1)) bh e128 e126 (hC d15 hS0) (by omega);exact gU hR ⟨hI.skip (by simp),aN hG hO.grown,fun q=>Bool.noConfusion (q.symm.trans d15),hB1,fun _ q=>Bool.noConfusion q,fun _ _=>hb,fun q=>Bool.noConfusion (q.symm.trans d15)⟩
    exact trivial
   ·intro w43 hM;obtain ⟨hG,hA,hB1,hC,hD,hE⟩:=hM;have hS9:=hD rfl rfl;change World.ownsRow _ _ _ _ _ _ (List.flatMap dV (SM.swp Dz ys k (k-1))) at hS9;refine aI (ab (aa (mvi rfl (ae (bP (b:=1) rfl rfl (by omega)) (asi rfl (ah ?_))))));refine aO ((k-1,SM.swp Dz ys k (k-1))) ⟨(by first | rfl | (refine aK ?_;omega)),trivial⟩ (by (iterate 44 refine aB rfl ?_);exact aJ) ⟨?_,?_⟩
    ·exact ⟨by omega,by omega,hS9,aN hG0 hG,hP.trans (.swap (by omega) (by omega) (by omega)),SM.mvr_succ hR (by omega) hkm (by omega)⟩
    ·show k-1-i<k-i;omega
  refine bc (aC (aC (aS (ab (ay (aD (kh rfl ?_)))))));obtain rfl:k=i:=by omega
  exact ⟨ys,hoy,hG0,hP,SM.mrg_last g_ (by omega) s1 ⟨h3,by omega⟩ hlo (by rw [show k=j by omega];exact hhi) hR⟩
 refine av (ab (af (aa (mvi rfl (mvi rfl (ae (aG rfl rfl (by omega)) ?_))))));obtain ⟨mid,hmid⟩:∃ mid,mid=(a+b)/2 ^ 1:=⟨_,rfl⟩;refine ae (fq dP fS rfl (by omega)) (ae (ep (b:=1) rfl rfl (by decide)) (ae (ef gQ eK rfl (by omega)) (dh (t:=134) (v:=.int _ _) (v':=.int .i64 (mid:Nat)) rfl (by rw [hmid]) ?_)));refine asi rfl (ah (ab (af (aa (mvi rfl (mvi rfl (ae (aG rfl rfl (by omega)) (asi rfl (ah (ab (af (aa (asi rfl (asi rfl ?_))))))))))))));refine ah (ab (gz (G:=Nat×Nat) [138,139,140,141,142,143,144,145,146] (fun (lo,hi)=>[(20,.int .i64 (lo:Nat)),(21,.int .i64 (hi:Nat))]) (fun (lo,hi) w'=>((lo=a∧hi=m∧m≤mid)∨(lo+b=mid+m∧hi=mid∧mid<m))∧w=w') ?_ ?_))
 ·refine af (aa (mvi rfl (mvi rfl (ae (cL rfl rfl) (ah (ab (JV rfl (fun Q44=>?_) (fun Q44=>?_))))))))
  ·refine af (aa (mvi rfl (mvi rfl (ae (bP rfl rfl (by omega)) (asi rfl (ah (ab (aa (mvi rfl (asi rfl (ah ?_)))))))))));refine aO ((mid+m-b,mid)) ⟨(by first | rfl | (refine aK ?_;omega)),(by first | rfl | (refine aK ?_;omega)),trivial⟩ (by (iterate 9 refine aB rfl ?_);exact aJ) ?_;exact ⟨.inr ⟨by omega,rfl,by omega⟩,rfl⟩
  refine af (aa (mvi rfl (asi rfl (ah (ab (aa (mvi rfl (asi rfl (ah ?_)))))))));refine aO ((a,m)) ⟨(by first | rfl | (refine aK ?_;omega)),(by first | rfl | (refine aK ?_;omega)),trivial⟩ (by (iterate 7 refine aB rfl ?_);exact aJ) ?_;exact ⟨.inl ⟨rfl,rfl,by omega⟩,rfl⟩
 rintro ⟨lo,hi⟩ ρ45 w45 ⟨hlh,rfl⟩;refine af (aa (mvi rfl (ae (bP (b:=1) rfl rfl (by omega)) (asi rfl (ah (ab (af (aw (a_ (G:=Nat×Nat) [23,149,150,151,152,153,154,155,156,157,158,159,160,161,162,163,164,165,166,167,168,169,170,171,172,173,174] (fun (s,r)=>[(20,.int .i64 (s:Nat)),(21,.int .i64 (r:Nat))]) (fun (s,r) w'=>lo≤s∧s≤r∧r≤hi∧(s=lo∨¬ ltD (SM.G Dz xs (mid+m-1-(s-1))) (SM.G Dz xs (s-1)))∧(r=hi∨ltD (SM.G Dz xs (mid+m-1-r)) (SM.G Dz xs r))∧w'.ownsRow base 37 2 (.slice (some ⟨g,0,none⟩) n c) n (List.flatMap dV xs)∧w.grownBy w' (some g)) (fun (s,r)=>r-s) ((lo,hi)) ⟨rfl,rfl,trivial⟩ ?_ ?_)))))))))
 ·exact ⟨Nat.le_refl _,by omega,Nat.le_refl _,.inl rfl,.inl rfl,ho,World.grownBy.refl _ _⟩
 rintro ⟨s,r⟩ ρ46 w46 ⟨h3,h4,h5,hlo,hhi,hoy,hG0⟩;refine af (af (aa (mvi rfl (mvi rfl (ae (aW rfl rfl) (ah (ab (JV rfl (fun Q47=>?_) (fun Q47=>?_)))))))))
 ·refine av (ab (aw (af (aa (mvi rfl (mvi rfl (ae (aG rfl rfl (by omega)) ?_)))))));obtain ⟨h,hh⟩:∃ h,h=(s+r)/2 ^ 1:=⟨_,rfl⟩;refine ae (fq dP fS rfl (by omega)) (ae (ep (b:=1) rfl rfl (by decide)) (ae (ef gQ eK rfl (by omega)) (dh (t:=157) (v:=.int _ _) (v':=.int .i64 (h:Nat)) rfl (by rw [hh]) ?_)));refine asi rfl (ah (ab (af ?_)));apply bS 14 [(158,eqp _),(159,eqp _),(160,eqp _),(161,eqp _),(162,eqp _),(163,eqp _),(164,eqp (.agg (dV (SM.G Dz xs (mid+m-1-h))).toArray)),(165,eqp _),(166,eqp _),(167,eqp _),(168,eqp (.agg (dV (SM.G Dz xs h)).toArray)),(169,eqp _),(170,eqp _),(171,eqp _)] (by repeat first | exact cy | refine cm ?_ | refine bO ?_) (by kernel_rfl) (by kernel_rfl) ⟨ag _,ag _,ag _,ag _,ag _,ag _,ag _,ag _,ag _,ag _,ag _,ag _,ag _,ag _,trivial⟩
  case hop=>
   constructor
   ·rintro-w49 D49;exact ai (aq (v:=.func _ _ _) rfl) rfl
   constructor
   ·rintro-w50 D50;exact ai (aq (v:=.slice _ _ _) rfl) rfl
   constructor
   ·rintro-w51 D51;exact ai (aq (v:=.int _ _) rfl) rfl
   constructor
   ·rintro-w52 D52;exact ai (aq (v:=.int _ _) rfl) rfl
   constructor
   ·rintro-w53 D53;rintro _ rfl _ rfl;exact ai (bP rfl rfl (by omega)) rfl
   constructor
   ·rintro-w54 D54;rintro _ rfl _ rfl;exact ai (aM aT rfl rfl (by omega)) rfl
   constructor
   ·rintro-w55 D55;rintro _ rfl;exact ai (bn (cs:=dV (SM.G Dz xs (mid+m-1-h))) bK bh rfl (eU bz Dz (hoy.kept_from D55) (by omega))) rfl
   constructor
   ·rintro-w56 D56;exact ai (aq (v:=.slice _ _ _) rfl) rfl
   constructor
   ·rintro-w57 D57;exact ai (aq (v:=.int _ _) rfl) rfl
   constructor
   ·rintro-w58 D58;rintro _ rfl _ rfl;exact ai (aM aT rfl rfl (by omega)) rfl
   constructor
   ·rintro-w59 D59;rintro _ rfl;exact ai (bn (cs:=dV (SM.G Dz xs h)) bK bh rfl (eU bz Dz (hoy.kept_from D59) (by omega))) rfl
   constructor
   ·rintro-w60 D60;rintro _ rfl v60_164 rfl v60_168 rfl;exact rh (caps:=[]) rfl kd ((qy (SM.G Dz xs (mid+m-1-h)) (SM.G Dz xs h) _).mono fun v w2 h=>⟨h.2,h.1⟩)
   constructor
   ·rintro-w61 D61;rintro _ rfl;exact ai (aW rfl rfl) rfl
   constructor
   ·rintro-w62 D62;rintro _ rfl;exact ai (eQ rfl) rfl
   exact trivial
  case hend=>
   intro w63 D63;rintro _ rfl _ rfl _ rfl _ rfl _ rfl _ rfl v164 rfl _ rfl _ rfl _ rfl v168 rfl _ rfl _ rfl _ rfl;show St ..;replace hG0:=aN hG0 (D63.grown _);replace hoy:=hoy.kept_from D63;refine ah (ab (au rfl (fun Q64=>?_) (fun Q64=>?_)))
   ·with_reducible (replace Q64:=fm Q64;replace Q64:=dF_ Q64)
    have hnl:¬ ltD (SM.G Dz xs (mid+m-1-h)) (SM.G Dz xs h):=fun h9=>by
     have h8:=pM.2 h9;exact absurd h8 (by omega)
    refine aa (mvi rfl (ae (aG (b:=1) rfl rfl (by omega)) (asi rfl (ah (aI ?_)))));refine aO ((h+1,r)) ⟨(by first | rfl | (refine aK ?_;omega)),(by first | rfl | (refine aK ?_;omega)),trivial⟩ (by (iterate 57 refine aB rfl ?_);exact aJ) ⟨?_,?_⟩
    ·exact ⟨by omega,by omega,h5,.inr (by rw [show h+1-1=h by omega];exact hnl),hhi,hoy,hG0⟩
    ·show r-(h+1)<r-s;omega
   with_reducible (replace Q64:=fo Q64;replace Q64:=dT_ Q64)
   have hlt:=pM.1 (show iW (SM.G Dz xs (mid+m-1-h)).1 (SM.G Dz xs h).1<0 by simpa using Q64);refine aa (mvi rfl (asi rfl (ah (aI ?_))));refine aO ((s,h)) ⟨(by first | rfl | (refine aK ?_;omega)),(by first | rfl | (refine aK ?_;omega)),trivial⟩ (by (iterate 56 refine aB rfl ?_);exact aJ) ⟨?_,?_⟩
   ·exact ⟨h3,by omega,by omega,hlo,.inr hlt,hoy,hG0⟩
   ·show h-s<r-s;omega
 obtain rfl:s=r:=by omega
 have hcut:SM.Cut Dz ltD a m b mid s xs:=by
  refine ⟨⟨by omega,by omega,by omega⟩,⟨by omega,by omega⟩,?_,?_⟩
  ·rcases hlo with e | e
   ·exact .inl (by omega)
   ·by_cases e2:s=a
    ·exact .inl (.inl e2)
    ·exact .inr ⟨by rw [show mid+m-s=mid+m-1-(s-1) by omega];exact e,by omega⟩
  ·rcases hhi with e | e
   ·exact .inl (by omega)
   ·by_cases e2:s=m∨s=mid
    ·exact .inl e2
    ·exact .inr ⟨e,by omega,by omega⟩
 refine bc (aC (aC (aS (ab (af (aa (mvi rfl (mvi rfl (ae (bP rfl rfl (by omega)) (asi rfl (ah (ab (gz (G:=List Dc) [178,179,180,181,182,183,184,185,186,187,188,189,190,191] (fun _=>[]) (fun ys w'=>w'.ownsRow base 37 2 (.slice (some ⟨g,0,none⟩) n c) n (List.flatMap dV ys)∧w.grownBy w' (some g)∧SM.PW Dz a b xs ys∧∀ k,SM.G Dz ys k=SM.rot s m (mid+m-s) (SM.G Dz xs) k) ?_ ?_)))))))))))))
 ·refine af (aa (mvi rfl (mvi rfl (ae (aW rfl rfl) (mvb rfl (Jk (t:=181) rfl (fun Q65=>?_) (fun Q65=>?_)))))))
  ·refine ao rfl (mvi rfl (ao rfl (mvi rfl (ao rfl (ae (aW rfl rfl) (ae (bB (v:=.bool _) rfl rfl) (ah (ab (JV rfl (fun Q66=>?_) (fun Q66=>?_))))))))))
   ·refine aa (mvs rfl (mvi rfl (mvi rfl (mvi rfl (ae (aq (v:=.func _ _ _) rfl) (aF yy (AM base _ c n xs _ hoy (Nat.le_trans hbs hG0.size) hl s m (mid+m-s) (by omega) (by omega) (by omega)) ?_))))));rintro v191 w67 ⟨zs,hoz,hGz,hPz,hRz⟩;refine ah ?_;refine aO (zs) trivial (by (iterate 15 refine aB rfl ?_);exact aJ) ?_;exact ⟨hoz,aN hG0 hGz,hPz.wide (by omega) (by omega),hRz⟩
   refine av ?_;refine aO (xs) trivial (by (iterate 9 refine aB rfl ?_);exact aJ) ?_;exact ⟨hoy,hG0,.rfl_,fun k=>(SM.rot_none (by omega) k).symm⟩
  refine aL rfl rfl (aL rfl rfl (aL rfl rfl (ae (bk (v:=.bool _) rfl rfl) (ah (ab (de rfl (av ?_)))))));refine aO (xs) trivial (by (iterate 9 refine aB rfl ?_);exact aJ) ?_;exact ⟨hoy,hG0,.rfl_,fun k=>(SM.rot_none (by omega) k).symm⟩
 rintro ys ρ68 w68 ⟨hoy,hG0,hP,hR⟩;obtain ⟨t1,t2,t3,t4,hx⟩:=SM.cut_all g_ s1 s2 hcut ⟨by omega,by omega⟩ ⟨by omega,by omega⟩ hR;refine gz (G:=List Dc) [192,193,194,195,196,197,198,199,200,201,202,203,204,205] (fun _=>[]) (fun zs w'=>w'.ownsRow base 37 2 (.slice (some ⟨g,0,none⟩) n c) n (List.flatMap dV zs)∧w.grownBy w' (some g)∧SM.PW Dz a mid ys zs∧SM.Srt Dz ltD a mid zs) ?_ ?_
 ·refine af (aa (mvi rfl (mvi rfl (ae (aW rfl rfl) (mvb rfl (Jk (t:=195) rfl (fun Q69=>?_) (fun Q69=>?_)))))))
  ·refine ao rfl (mvi rfl (ao rfl (mvi rfl (ao rfl (ae (aW rfl rfl) (ae (bB (v:=.bool _) rfl rfl) (ah (ab (JV rfl (fun Q70=>?_) (fun Q70=>?_))))))))))
   ·refine aa (mvs rfl (mvi rfl (mvi rfl (mvi rfl (ae (aq (v:=.func _ _ _) rfl) (aF lk (IH ys _ a s mid hoy (Nat.le_trans hbs hG0.size) (by omega) (by omega) (by omega) (by omega) t1 t2) ?_))))));rintro v205 w71 ⟨vs,hov,hGv,hPv,hSv⟩;refine ah ?_;refine aO (vs) trivial (by (iterate 15 refine aB rfl ?_);exact aJ) ?_;exact ⟨hov,aN hG0 hGv,hPv,hSv⟩
   refine av ?_;refine aO (ys) trivial (by (iterate 9 refine aB rfl ?_);exact aJ) ?_
   exact ⟨hoy,hG0,.rfl_,by
    first
     |exact (show s=a by omega) ▸ t2
     |exact (show s=mid by omega) ▸ t1⟩
  refine aL rfl rfl (aL rfl rfl (aL rfl rfl (ae (bk (v:=.bool _) rfl rfl) (ah (ab (de rfl (av ?_)))))));refine aO (ys) trivial (by (iterate 9 refine aB rfl ?_);exact aJ) ?_
  exact ⟨hoy,hG0,.rfl_,by
   first
    |exact (show s=a by omega) ▸ t2
    |exact (show s=mid by omega) ▸ t1⟩
 rintro zs ρ72 w72 ⟨hoz,hGz,hPz,hSz⟩;refine af (aa (mvi rfl (mvi rfl (ae (aW rfl rfl) (mvb rfl (Jk (t:=209) rfl (fun Q73=>?_) (fun Q73=>?_)))))))
 ·refine ao rfl (mvi rfl (ao rfl (mvi rfl (ao rfl (ae (aW rfl rfl) (ae (bB (v:=.bool _) rfl rfl) (ah (ab (JV rfl (fun Q74=>?_) (fun Q74=>?_))))))))))
  ·refine aa (mvs rfl (mvi rfl (mvi rfl (mvi rfl (ae (aq (v:=.func _ _ _) rfl) (aF lk (IH zs _ mid (mid+m-s) b hoz (Nat.le_trans hbs hGz.size) (by omega) (by omega) (by omega) (by omega) (t3.off hPz (by omega)) (t4.off hPz (by omega))) ?_))))));rintro v219 w75 ⟨vs,hov,hGv,hPv,hSv⟩;refine ah (gk (kh rfl (⟨vs,hov,aN hGz hGv,hP.trans ((hPz.wide (Nat.le_refl _) (by omega)).trans (hPv.wide (by omega) (Nat.le_refl _))),SM.half_half hx hPz hSz hPv hSv⟩)))
  refine av (gk (kh rfl ?_))
  have hlast:SM.Srt Dz ltD mid b zs:=by
   first
    |exact (show mid+m-s=mid by omega) ▸ t4.off hPz (by omega)
    |exact (show mid+m-s=b by omega) ▸ t3.off hPz (by omega)
  exact ⟨zs,hoz,hGz,hP.trans (hPz.wide (Nat.le_refl _) (by omega)),SM.half_half hx hPz hSz .rfl_ hlast⟩
 refine aL rfl rfl (aL rfl rfl (aL rfl rfl (ae (bk (v:=.bool _) rfl rfl) (ah (ab (de rfl (av (gk (kh rfl ?_)))))))))
 have hlast:SM.Srt Dz ltD mid b zs:=by
  first
   |exact (show mid+m-s=mid by omega) ▸ t4.off hPz (by omega)
   |exact (show mid+m-s=b by omega) ▸ t3.off hPz (by omega)
 exact ⟨zs,hoz,hGz,hP.trans (hPz.wide (Nat.le_refl _) (by omega)),SM.half_half hx hPz hSz .rfl_ hlast⟩
theorem zd (base:Nat) (A:Option Addr) (c n:Nat) (hl:n≤100000000):∀ (N:Nat) (xs:List Dc) (w:World) (a m b:Nat),w.ownsRow base 37 2 (.slice A n c) n (xs.flatMap dV)→base≤w.heap.size→a<m→m<b→b≤n→b-a≤N→SM.Srt Dz ltD a m xs→SM.Srt Dz ltD m b xs→
 Rt prog 180 [.slice A n c,.int .i64 (a:Nat),.int .i64 (m:Nat),.int .i64 (b:Nat),.func (.func 119) #[] #[]] w (fun _ w'=>∃ ys,w'.ownsRow base 37 2 (.slice A n c) n (List.flatMap dV ys)∧w.grownBy w' (A.map (·.block))∧SM.PW Dz a b xs ys∧SM.Srt Dz ltD a b ys)
 |0,xs,w,a,m,b=>fun _ _ h1 h2 _ h3=>by omega
 |N+1,xs,w,a,m,b=>fun ho hbs h1 h2 hbn hN s1 s2=>Cg base A c n xs w ho hbs hl a m b h1 h2 hbn s1 s2 fun ys w' a' m' b' k1 k2 k3 k4 k5 k6 k7 k8=>zd base A c n hl N ys w' a' m' b' k1 k2 k3 k4 k5 (by omega) k7 k8
theorem Ch (base:Nat) (A:Option Addr) (c n:Nat) (xs:List Dc) (w:World) (ho:w.ownsRow base 37 2 (.slice A n c) n (xs.flatMap dV)) (hbs:base≤w.heap.size) (hl:n≤100000000) (a m b:Nat) (h1:a<m) (h2:m<b) (hbn:b≤n) (s1:SM.Srt Dz ltD a m xs) (s2:SM.Srt Dz ltD m b xs) :
 Rt prog 180 [.slice A n c,.int .i64 (a:Nat),.int .i64 (m:Nat),.int .i64 (b:Nat),.func (.func 119) #[] #[]] w (fun _ w'=>∃ ys,w'.ownsRow base 37 2 (.slice A n c) n (List.flatMap dV ys)∧w.grownBy w' (A.map (·.block))∧SM.PW Dz a b xs ys∧SM.Srt Dz ltD a b ys):=zd base A c n hl (b-a) xs w a m b ho hbs h1 h2 hbn (Nat.le_refl _) s1 s2
theorem mR:az prog 122=true:=by kernel_rfl
theorem sP:az prog 155=true:=by kernel_rfl
theorem l5 {s a:Nat} (h:s∣a):s∣a+s:=(Nat.dvd_add_iff_right h).1 (Nat.dvd_refl s)
theorem rJ {s a:Nat} (h:2*s∣a):s∣a:=Nat.dvd_trans (Nat.dvd_mul_left ..) h
theorem Ay (base:Nat) (A:Option Addr) (c n:Nat) (xs:List Dc) (w:World) (ho:w.ownsRow base 37 2 (.slice A n c) n (xs.flatMap dV)) (hbs:base≤w.heap.size) (hl:n≤100000000) (hxn:xs.length=n) :
 Rt prog 155 [.slice A n c,.int .i64 (n:Nat),.func (.func 119) #[] #[]] w (fun _ w'=>∃ ys,w'.ownsRow base 37 2 (.slice A n c) n (List.flatMap dV ys)∧w.grownBy w' (A.map (·.block))∧SM.PW Dz 0 n xs ys∧SM.Srt Dz ltD 0 n ys):=by
 refine enter (n:=63) Tryz.func155 rfl rfl rfl (af (aa (asi rfl (ah (ab (af (aa (mvi rfl (asi rfl (asi rfl (ah (ab (af (aw (a_ (G:=Nat×List Dc) [11,12,13,14,15,16,17,18,19,20,21,22] (fun (a,_)=>[(7,.int .i64 (a:Nat)),(8,.int .i64 ((a+20:Nat):Int))]) (fun (a,ys) w'=>20∣a∧a≤n∧w'.ownsRow base 37 2 (.slice A n c) n (List.flatMap dV ys)∧w.grownBy w' (A.map (·.block))∧SM.PW Dz 0 n xs ys∧SM.Blks Dz ltD 20 n a ys) (fun (a,_)=>n-a) ((0,xs)) ⟨rfl,rfl,trivial⟩ ?_ ?_)))))))))))))))
 ·exact ⟨Nat.dvd_zero _,Nat.zero_le _,ho,World.grownBy.refl _ _,.rfl_,fun k _ h=>absurd h (by omega)⟩
 rintro ⟨a,ys⟩ ρ1 w1 ⟨hd,han,hoy,hG0,hP,hR⟩;refine af (af (aa (mvi rfl (mvi rfl (ae (qU rfl rfl) (ah (ab (JV rfl (fun Q2=>?_) (fun Q2=>?_)))))))))
 ·refine av (ab (aw (af (aa (mvs rfl (mvi rfl (mvi rfl (ae (aq (v:=.func _ _ _) rfl) (aF mR (tg base A c n ys _ hoy (Nat.le_trans hbs hG0.size) hl a (a+20) (by omega) (by omega)) ?_)))))))));rintro v18 w3 ⟨zs,hoz,hGz,hPz,hSz⟩;refine ah (ab (af (aa (mvi rfl (asi rfl (ah (ab (aa (mvi rfl (mvi rfl (ae (aG (a:=a+20) (b:=20) rfl rfl (by omega)) (asi rfl (ah (aI ?_))))))))))))));refine aO ((a+20,zs)) ⟨rfl,rfl,trivial⟩ (by (iterate 28 refine aB rfl ?_);exact aJ) ⟨?_,?_⟩
  ·exact ⟨l5 hd,by omega,hoz,aN hG0 hGz,hP.trans (hPz.wide (Nat.zero_le _) (by omega)),hR.step (by decide) hd (by omega) hPz hSz⟩
  ·show n-(a+20)<n-a;omega
 refine bc (aC (aC (aS (ab (af (aa (mvs rfl (mvi rfl (mvi rfl (ae (aq (v:=.func _ _ _) rfl) (aF mR (tg base A c n ys _ hoy (Nat.le_trans hbs hG0.size) hl a n (by omega) (by omega)) ?_)))))))))));rintro v27 w4 ⟨zs,hoz,hGz,hPz,hSz⟩;refine ah (ab (aw (a_ (G:=Nat×List Dc) [7,8,9,28,29,30,31,32,33,34,35,36,37,38,39,40,41,42,43,44,45,46,47,48,49,50,51,52,53,54,55,56,57,58,59,60,61,62] (fun (s,_)=>[(6,.int .i64 (s:Nat))]) (fun (s,ys) w'=>0<s∧s≤2*n+20∧w'.ownsRow base 37 2 (.slice A n c) n (List.flatMap dV ys)∧w.grownBy w' (A.map (·.block))∧SM.PW Dz 0 n xs ys∧SM.Runs Dz ltD s n ys) (fun (s,_)=>n-s) ((20,zs)) ⟨rfl,trivial⟩ ?_ ?_)))
 ·exact ⟨by decide,by omega,hoz,aN hG0 hGz,hP.trans (hPz.wide (Nat.zero_le _) (Nat.le_refl _)),(hR.step (by decide) hd (by omega) hPz hSz).end_ (by omega)⟩
 rintro ⟨s,ys⟩ ρ5 w5 ⟨hs0,hsn,hoy,hG0,hP,hR⟩;refine af (af (aa (mvi rfl (mvi rfl (ae (aW rfl rfl) (ah (ab (JV rfl (fun Q6=>?_) (fun Q6=>?_)))))))))
 ·refine av (ab (aw (af (aa (mvi rfl (ae (nM (a:=2) (b:=s) rfl rfl (by omega)) (asi rfl (asi rfl (ah (ab (af (aw (a_ (G:=Nat×List Dc) [33,34,35,36,37,38,39,40,41,42,43,44,45,46,47,48] (fun (a,_)=>[(7,.int .i64 (a:Nat)),(8,.int .i64 ((a+2*s:Nat):Int))]) (fun (a,ys) w'=>2*s∣a∧a≤n∧w'.ownsRow base 37 2 (.slice A n c) n (List.flatMap dV ys)∧w.grownBy w' (A.map (·.block))∧SM.PW Dz 0 n xs ys∧SM.Runs2 Dz ltD s n a ys) (fun (a,_)=>n-a) ((0,ys)) ⟨rfl,(aK (by omega)),trivial⟩ ?_ ?_)))))))))))))
  ·exact ⟨Nat.dvd_zero _,Nat.zero_le _,hoy,hG0,hP,.start hR⟩
  rintro ⟨a,ys⟩ ρ7 w7 ⟨hd,han,hoy,hG0,hP,hR⟩;have r1:=fun (h:a+2*s≤n)=>hR.2 a (rJ hd) (Nat.le_refl _)
  have r2:=hR.2 (a+s) (l5 (rJ hd)) (by omega);have r3:=hR.2 a (rJ hd) (Nat.le_refl _);refine af (af (aa (mvi rfl (mvi rfl (ae (qU rfl rfl) (ah (ab (JV rfl (fun Q8=>?_) (fun Q8=>?_)))))))))
  ·refine av (ab (aw (af (aa (mvs rfl (mvi rfl (mvi rfl (mvi rfl (ae (aG rfl rfl (by omega)) (mvi rfl (ae (aq (v:=.func _ _ _) rfl) (aF lk (Ch base A c n ys _ hoy (Nat.le_trans hbs hG0.size) hl a (a+s) (a+2*s) (by omega) (by omega) (by omega) (r3.sub (Nat.le_refl _) (by omega)) (r2.sub (Nat.le_refl _) (by omega))) ?_))))))))))));rintro v43 w9 ⟨zs,hoz,hGz,hPz,hSz⟩;refine ah (ab (af (aa (mvi rfl (asi rfl (ah (ab (aa (mvi rfl (mvi rfl (ae (nM (a:=2) (b:=s) rfl rfl (by omega)) (ae (aG rfl rfl (by omega)) (asi rfl ?_)))))))))))));refine ah (aI ?_);refine aO ((a+2*s,zs)) ⟨rfl,rfl,trivial⟩ (by (iterate 36 refine aB rfl ?_);exact aJ) ⟨?_,?_⟩
   ·exact ⟨l5 hd,by omega,hoz,aN hG0 hGz,hP.trans (hPz.wide (Nat.zero_le _) (by omega)),hR.step hs0 hd (by omega) hPz hSz⟩
   ·show n-(a+2*s)<n-a;omega
  refine bc (aC (aC (aS (ab (gz (G:=List Dc) [9,49,50,51,52,53,54,55,56,57,58,59,60] (fun _=>[]) (fun ys w'=>w'.ownsRow base 37 2 (.slice A n c) n (List.flatMap dV ys)∧w.grownBy w' (A.map (·.block))∧SM.PW Dz 0 n xs ys∧SM.Runs Dz ltD (2*s) n ys) ?_ ?_)))))
  ·refine af (aa (mvi rfl (mvi rfl (ae (aG rfl rfl (by omega)) (asi rfl (ah (ab (af (aa (mvi rfl (mvi rfl (ae (aW rfl rfl) ?_))))))))))));refine ah (ab (JV rfl (fun Q10=>?_) (fun Q10=>?_)))
   ·refine aa (mvs rfl (mvi rfl (mvi rfl (mvi rfl (ae (aq (v:=.func _ _ _) rfl) (aF lk (Ch base A c n ys _ hoy (Nat.le_trans hbs hG0.size) hl a (a+s) n (by omega) (by omega) (by omega) (r3.sub (Nat.le_refl _) (by omega)) (r2.sub (Nat.le_refl _) (by omega))) ?_))))));rintro v60 w11 ⟨zs,hoz,hGz,hPz,hSz⟩;refine ah ?_;refine aO (zs) trivial (by (iterate 13 refine aB rfl ?_);exact aJ) ?_;exact ⟨hoz,aN hG0 hGz,hP.trans (hPz.wide (Nat.zero_le _) (Nat.le_refl _)),(hR.step hs0 hd (by omega) hPz hSz).end_ hs0 (l5 hd) (by omega)⟩
   refine av ?_;refine aO (ys) trivial (by (iterate 7 refine aB rfl ?_);exact aJ) ?_;exact ⟨hoy,hG0,hP,(hR.last hs0 hd (by omega)).end_ hs0 (l5 hd) (by omega)⟩
  rintro ys ρ12 w12 ⟨hoy,hG0,hP,hR⟩;refine aa (mvi rfl (ae (nM (a:=s) (b:=2) rfl rfl (by omega)) (asi rfl (ah (aI ?_)))));refine aO ((s*2,ys)) ⟨rfl,trivial⟩ (by (iterate 83 refine aB rfl ?_);exact aJ) ⟨?_,?_⟩
  ·exact ⟨by omega,by omega,hoy,hG0,hP,by rw [Nat.mul_comm];exact hR⟩
  ·show n-s*2<n-s;omega
 refine bc (aC (aC (aS (gk (kh rfl (⟨ys,hoy,hG0,hP,hR.all (by omega)⟩))))))
theorem Cs (base:Nat) (A:Option Addr) (c n:Nat) (xs:List Dc) (w:World) (ho:w.ownsRow base 37 2 (.slice A n c) n (xs.flatMap dV)) (hbs:base≤w.heap.size) (hl:n≤100000000) (hxn:xs.length=n) :
 Rt prog 118 [.slice A n c,.func (.func 119) #[] #[]] w (fun _ w'=>∃ ys,w'.ownsRow base 37 2 (.slice A n c) n (List.flatMap dV ys)∧w.grownBy w' (A.map (·.block))∧SM.PW Dz 0 n xs ys∧SM.Srt Dz ltD 0 n ys):=by
 refine enter (n:=9) Tryz.func118 rfl rfl rfl (aa (mvs rfl (mvs rfl (ae (aQ bG rfl) (ae (aq (v:=.func _ _ _) rfl) (aF sP (Ay base A c n xs _ ho hbs hl hxn) ?_))))));rintro v8 w1 ⟨ys,hoy,hG0,hP,hR⟩;refine ah (gk (kh rfl (⟨ys,hoy,hG0,hP,hR⟩)))
theorem ll:(cN prog 119).isSome=true:=by kernel_rfl
theorem lp:cN prog 119=some (22,1):=by kernel_rfl
theorem uM:az prog 154=true:=by kernel_rfl
theorem uO:az prog 117=true:=by kernel_rfl
theorem uN:az prog 118=true:=by kernel_rfl
def tt (w:World) (A:Option Addr) (Ls:List (List Dc)):Prop:=0<Ls.length→∃ b o,A=some ⟨b,o,none⟩∧∀ i (h:i<Ls.length),∃ Ai ci,w.cell? ⟨b,o+i,none⟩=some (.slice Ai Ls[i].length ci)∧dg 2 dV w Ai Ls[i]∧(Ai=none→ci=0)
theorem tt.from_ {w w':World} {A:Option Addr} {Ls:List (List Dc)} (h:tt w A Ls) (hF:aj w w'):tt w' A Ls:=fun h0=>by
 obtain ⟨b,o,e,hc⟩:=h h0;refine ⟨b,o,e,fun i hi=>?_⟩;obtain ⟨Ai,ci,h1,h2,h3⟩:=hc i hi;exact ⟨Ai,ci,bx hF h1,h2.from_ hF,h3⟩
theorem zQ {α:Type} {Ls:List (List α)} {i:Nat} (h:i<Ls.length):(Ls.take (i+1)).flatten=(Ls.take i).flatten++Ls[i]:=by
 rw [List.take_succ_eq_append_getElem h,List.flatten_append,List.flatten_cons,List.flatten_nil,List.append_nil]
theorem yb {α:Type} {Ls:List (List α)} {i:Nat} (h:i<Ls.length):(Ls.take (i+1)).flatten.length=(Ls.take i).flatten.length+Ls[i].length:=by rw [zQ h,List.length_append]
theorem D_ {α:Type} {Ls:List (List α)} (i:Nat):(Ls.take i).flatten.length≤Ls.flatten.length:=by
 have e:Ls.flatten=(Ls.take i).flatten++(Ls.drop i).flatten:=by rw [←List.flatten_append,List.take_append_drop]
 rw [e,List.length_append];omega
theorem GQ (m:Nat) (w:World) (hm:m≤100000000) :
 Rt prog 154 [.slice none 0 0,.int .i64 (m:Nat)] w (fun v w'=>(∃ A' c',v=.slice A' 0 c'∧w'.ownsRow w.heap.size 37 2 (.slice A' 0 c') 0 [])∧aj w w'):=by
 refine enter (n:=27) Tryz.func154 rfl rfl rfl (af (aa (ass rfl (ah (ab (af (af (aa (mvi rfl (ae (aW rfl rfl) (ah (ab (JV rfl (fun Q1=>?_) (fun Q1=>?_))))))))))))))
 ·exfalso;omega
 refine av (ab (af (af (aa (mvi rfl (mvs rfl (ae (qX bG rfl) (mvs rfl (ae (aQ bG rfl) (ae (bP (a:=0) (b:=0) rfl rfl (by omega)) (ae (bP (a:=m) (b:=0-0) rfl rfl (by omega)) (asi rfl ?_))))))))))));refine ah (ab (af (aa (mvi rfl (ae (cL rfl rfl) (ah (ab (JV rfl (fun Q6=>?_) (fun Q6=>?_)))))))))
 ·refine aa (mvs rfl (mvs rfl (ae (qX bG rfl) (ae (eR (v':=.slice none 0 0) (bm (l:=0) (h:=0) aT rfl (.inl ⟨rfl,rfl⟩) (.inr ⟨_,_,_,rfl,rfl,rfl⟩) (by omega) (by omega)) (by simp [iZ])) ?_))));refine mvi rfl (mZ (kn:=.i64) (olds:=[]) fv (by kernel_rfl) rfl (by decide) rfl rfl rfl (fun h=>absurd h (by simp)) (by omega) (by omega) (by unfold maxLen;omega) (by omega) (Nat.le_refl _) ?_);intro g22 c22 w7 cur22 hg22 E22 hb22 hc22 hc22m hcl22 hct22;have hgw:w.heap.size≤g22:=by rw [hg22];exact (aj.rfl_).size
  refine mvs rfl (ae (aQ bG rfl) (ae (eR (v':=.slice (some ⟨g22,0,none⟩) 0 c22) (bm (l:=0) (h:=0) aT rfl (.inl ⟨rfl,rfl⟩) (.inr ⟨_,_,_,rfl,rfl,rfl⟩) (by omega) (by omega)) (by rw [di,Nat.sub_zero,Nat.sub_zero])) ?_));refine ass rfl (ah (ab (af (aa (mvs rfl (ass rfl (ah (ab (ay (bE (v:=.slice _ _ _) rfl rfl ?_))))))))))
  first
   |exact ⟨⟨some ⟨g22,0,none⟩,c22,rfl,gv hgw hb22 (Nat.zero_le _) hc22m hcl22 rfl⟩,(aj.rfl_.next E22)⟩
   |exact ⟨⟨none,0,rfl,World.ownsRow_nil _ _ _ _⟩,(aj.rfl_.next E22)⟩
 refine av (ab (af (aa (mvs rfl (ass rfl (ah (ab (ay (bE (v:=.slice _ _ _) rfl rfl ?_)))))))))
 first
  |exact ⟨⟨some ⟨g22,0,none⟩,c22,rfl,gv hgw hb22 (Nat.zero_le _) hc22m hcl22 rfl⟩,aj.rfl_⟩
  |exact ⟨⟨none,0,rfl,World.ownsRow_nil _ _ _ _⟩,aj.rfl_⟩
theorem BL (A:Option Addr) (c n:Nat) (Ls:List (List Dc)) (w:World) (hr:tt w A Ls) (hn:n=Ls.length) (hl:n≤100000000) (hf:Ls.flatten.length≤100000000) :
 Rt prog 117 [.slice A n c] w (fun v w'=>(∃ A' c',v=.slice A' Ls.flatten.length c'∧w'.ownsRow w.heap.size 37 2 (.slice A' Ls.flatten.length c') Ls.flatten.length (Ls.flatten.flatMap dV))∧aj w w'):=by
 refine enter (n:=36) Tryz.func117 rfl rfl rfl (af (aa (ass rfl (ah (ab (af (aa (asi rfl (ah (ab (af (af (aa (mvs rfl (ae (aQ ll rfl) (mvi rfl ?_))))))))))))))));refine ah (ab (aw (a_ (G:=Nat) [5,12,13,14,15,16,17,18,19,20,21,22] (fun i=>[(3,.int .i64 (((Ls.take i).flatten.length:Nat):Int)),(11,.int .i64 (i:Nat))]) (fun i w'=>i≤n∧aj w w') (fun i=>n-i) (0) ⟨rfl,rfl,trivial⟩ ?_ ?_)))
 ·exact ⟨Nat.zero_le _,aj.rfl_⟩
 rintro i ρ1 w1 ⟨hi,hB⟩;refine af (aa (ae (aW rfl rfl) (ah (ab (af (JV rfl (fun Q2=>?_) (fun Q2=>?_)))))))
 ·obtain ⟨b,o,rfl,hcs⟩:=hr (by omega);have hil:i<Ls.length:=by omega
  obtain ⟨Ai,ci,hci,hri,hni⟩:=hcs i hil;have hfl:=yb hil;have hfm:=D_ (Ls:=Ls) (i+1);refine av (ab (af (aw (af (aa (ae (aX lp rfl rfl (by omega)) (ae (an cQ rfl (by exact bx hB hci)) ?_)))))));refine ass rfl (ah (ab (af (aa (mvi rfl (mvs rfl (ae (aQ bG rfl) (ae (aG rfl rfl (by omega)) (asi rfl (ah (ab (af (aa (mvi rfl ?_))))))))))))));refine ae (aW rfl rfl) (ah (ab (JV rfl (fun Q3=>?_) (fun Q3=>?_))))
  ·exfalso;omega
  refine av (aI (ab (aa (ae (aG (b:=1) rfl rfl (by omega)) (mvi rfl (ah ?_))))));refine aO (i+1) ⟨(aK (by rw [hfl])),rfl,trivial⟩ (by (iterate 27 refine aB rfl ?_);exact aJ) ⟨?_,?_⟩
  ·exact ⟨by omega,hB⟩
  ·show n-(i+1)<n-i;omega
 obtain rfl:i=Ls.length:=by omega
 rw [List.take_length];refine bc (aC (aC (aS (ab (af (aa (mvi rfl ?_)))))));have hz24:=(hB).size;refine aF uM (GQ Ls.flatten.length _ (by omega)) ?_;rintro v24 w6 ⟨⟨A24,c24,rfl,ho24⟩,E24⟩;refine ass rfl (ah (ab (af (af (aa (mvs rfl (ae (aQ ll rfl) (mvi rfl (ah (ab (aw (a_ (G:=Nat×Option Addr×Nat) [8,28,29,30,31,32,33,34] (fun (i,A6,c6)=>[(6,.slice A6 (Ls.take i).flatten.length c6),(27,.int .i64 (i:Nat))]) (fun (i,A6,c6) w'=>i≤n∧w'.ownsRow w.heap.size 37 2 (.slice A6 (Ls.take i).flatten.length c6) (Ls.take i).flatten.length (List.flatMap dV (Ls.take i).flatten)∧aj w w') (fun (i,_,_)=>n-i) ((0,A24,c24)) ⟨rfl,rfl,trivial⟩ ?_ ?_))))))))))))
 ·exact ⟨Nat.zero_le _,gx ho24 hz24,(hB.next E24)⟩
 rintro ⟨i,A6,c6⟩ ρ7 w7 ⟨hi,ho6,hB⟩;refine af (aa (ae (aW rfl rfl) (ah (ab (af (JV rfl (fun Q8=>?_) (fun Q8=>?_)))))))
 ·obtain ⟨b,o,rfl,hcs⟩:=hr (by omega);have hil:i<Ls.length:=by omega
  obtain ⟨Ai,ci,hci,hri,hni⟩:=hcs i hil;have hfl:=yb hil;have hfm:=D_ (Ls:=Ls) (i+1);refine av (ab (af (aw (af (aa (ae (aX lp rfl rfl (by omega)) (ae (an cQ rfl (by exact bx hB hci)) ?_)))))));refine ass rfl (ah (ab (aa (mvs rfl (mvs rfl (dB fv rfl (by decide) rfl (A:=A6) (xs:=List.flatMap dV (Ls.take i).flatten) (news:=List.flatMap dV Ls[i]) (ho6.kept_from aj.rfl_) (hB.size) rfl (eW bz _) (fun h=>(hri.from_ hB).flat bz h) hni (rM _) (by omega) (by omega) ?_))))));intro A33 c33 w9 ho33 hg33;have HF33:=(hB).grew hg33 (fun k hk=>(cd (ho6.kept_from aj.rfl_) k hk).1);refine ass rfl (ah (aI (ab (aa (ae (aG (b:=1) rfl rfl (by omega)) (mvi rfl (ah ?_)))))));refine aO ((i+1,A33,c33)) ⟨(by rw [hfl];rfl),rfl,trivial⟩ (by (iterate 20 refine aB rfl ?_);exact aJ) ⟨?_,?_⟩
  ·exact ⟨by omega,by rw [hfl,zQ hil,List.flatMap_append];exact ho33,HF33⟩
  ·show n-(i+1)<n-i;omega
 refine bc (aC (aC (aS (ab (af (aa (mvs rfl (ass rfl (ah (ab (ay (bE (v:=.slice _ _ _) rfl rfl ?_))))))))))));obtain rfl:i=Ls.length:=by omega
 rw [List.take_length] at ho6;rw [List.take_length];exact ⟨⟨A6,c6,rfl,ho6⟩,hB⟩
theorem Dt (A:Option Addr) (c n:Nat) (Ls:List (List Dc)) (w:World) (hr:tt w A Ls) (hn:n=Ls.length) (hl:n≤100000000) (hf:Ls.flatten.length≤100000000) :
 Rt prog 84 [.slice A n c] w (fun v w'=>(∃ A' c',v=.tuple #[.slice A' (mD Ls).length c',.int .i64 (mE Ls)]∧w'.ownsRow w.heap.size 37 2 (.slice A' (mD Ls).length c') (mD Ls).length (List.flatMap dV (mD Ls)))∧aj w w'):=by
 refine enter (n:=57) Tryz.func84 rfl rfl rfl (af (aa (ass rfl (asi rfl (ah (ab (af (af (aa (mvs rfl (ae (aQ ll rfl) (mvi rfl (ah (ab (aw ?_)))))))))))))));refine a_ (G:=Nat) [2,3,5,6,12,13,14,15,16,17,18,19,20,21,22,23,24,25,26,27,28,29,30,31,32,33] (fun i=>[(11,.int .i64 (i:Nat))]) (fun i w'=>i≤n∧(∀ l∈Ls.take i,SD l)∧aj w w') (fun i=>n-i) (0) ⟨rfl,trivial⟩ ?_ ?_
 ·exact ⟨Nat.zero_le _,fun l h=>by simp at h,aj.rfl_⟩
 rintro i ρ1 w1 ⟨hi,hsd,hB⟩;refine af (aa (ae (aW rfl rfl) (ah (ab (af (JV rfl (fun Q2=>?_) (fun Q2=>?_)))))))
 ·obtain ⟨b,o,rfl,hcs⟩:=hr (by omega);have hil:i<Ls.length:=by omega
  obtain ⟨Ai,ci,hci,hri,hni⟩:=hcs i hil;have hfl:=yb hil;have hfm:=D_ (Ls:=Ls) (i+1);have hsd0:=hsd;obtain ⟨ds,hds⟩:∃ ds,Ls[i]=ds:=⟨_,rfl⟩;rw [hds] at hci hri hfl;refine av (ab (af (aw (af (aa (ae (aX lp rfl rfl (by omega)) (ae (an cQ rfl (by exact bx hB hci)) ?_)))))));refine ass rfl (ah (ab (af (aa (asi rfl (ah (ab (aw (a_ (G:=Nat) [2,3,15,16,17,18,19,20,21,22,23,24,25,26,27,28,29,30,31,32] (fun k=>[(6,.int .i64 (k:Nat))]) (fun k w'=>1≤k∧(∀ x,0<x→x<k→x<ds.length→sLt (SM.G Dz ds (x-1)).1 (SM.G Dz ds x).1)∧aj w w') (fun k=>ds.length-k) (1) ⟨rfl,trivial⟩ ?_ ?_)))))))))
  ·exact ⟨Nat.le_refl _,fun x h1 h2=>absurd h1 (by omega),hB⟩
  rintro k ρ3 w3 ⟨hk1,hok,hB⟩;refine af (af (aa (mvi rfl (mvs rfl (ae (aQ bG rfl) (ae (aW rfl rfl) (ah (ab (JV rfl (fun Q4=>?_) (fun Q4=>?_))))))))))
  ·obtain ⟨bd,od,rfl,hcd⟩:=hri (by omega);have hcG:∀ x,x<ds.length→w.rangeAt bd (od+x*2) (dV (SM.G Dz ds x)):=fun x hx=>by rw [qd hx];exact hcd x hx
   refine av (ab (af (aw (af ?_))));apply bS 12 [(21,eqp _),(22,eqp _),(23,eqp _),(24,eqp _),(25,eqp _),(26,eqp (.string (SM.G Dz ds (k-1)).1)),(27,eqp _),(28,eqp _),(29,eqp _),(30,eqp _),(31,eqp (.string (SM.G Dz ds k).1)),(32,eqp _)] (by repeat first | exact cy | refine cm ?_ | refine bO ?_) (by kernel_rfl) (by kernel_rfl) ⟨ag _,ag _,ag _,ag _,ag _,ag _,ag _,ag _,ag _,ag _,ag _,ag _,trivial⟩
   case hop=>
    constructor
    ·rintro-w6 D6;exact ai (aq (v:=.slice _ _ _) rfl) rfl
    constructor
    ·rintro-w7 D7;exact ai (aq (v:=.int _ _) rfl) rfl
    constructor
    ·rintro-w8 D8;rintro _ rfl;exact ai (bP (b:=1) rfl rfl (by omega)) rfl
    constructor
    ·rintro-w9 D9;rintro _ rfl _ rfl;exact ai (aM aT rfl rfl (by omega)) rfl
    constructor
    ·rintro-w10 D10;rintro _ rfl;exact ai (ak bq rfl) rfl
    constructor
    ·rintro-w11 D11;rintro _ rfl;exact ai (an (v:=.string (SM.G Dz ds (k-1)).1) bC rfl (bx (hB.next D11) (hcG (k-1) (by omega) 0 _ rfl))) rfl
    constructor
    ·rintro-w12 D12;exact ai (aq (v:=.slice _ _ _) rfl) rfl
    constructor
    ·rintro-w13 D13;exact ai (aq (v:=.int _ _) rfl) rfl
    constructor
    ·rintro-w14 D14;rintro _ rfl _ rfl;exact ai (aM aT rfl rfl (by omega)) rfl
    constructor
    ·rintro-w15 D15;rintro _ rfl;exact ai (ak bq rfl) rfl
    constructor
    ·rintro-w16 D16;rintro _ rfl;exact ai (an (v:=.string (SM.G Dz ds k).1) bC rfl (bx (hB.next D16) (hcG k (by omega) 0 _ rfl))) rfl
    constructor
    ·rintro-w17 D17;rintro v17_26 rfl v17_31 rfl;exact ai (zr rfl rfl) rfl
    exact trivial
   case hend=>
    intro w18 D18;rintro _ rfl _ rfl _ rfl _ rfl _ rfl v26 rfl _ rfl _ rfl _ rfl _ rfl v31 rfl _ rfl;show St ..;refine ah (ab (JT rfl (fun Q19=>?_) (fun Q19=>?_)))
    ·have hnl:¬ sLt (SM.G Dz ds (k-1)).1 (SM.G Dz ds k).1:=fun h=>by
      have h9:=(mq _ _).2 h
      simp_all
     refine af (aa (ass rfl (asi rfl (ah (ab (ay (bj (aD (aD (bj (bj (aD (aD (bj (aD (cV (v:=.slice _ _ _) (v':=.int _ _) rfl rfl rfl ?_))))))))))))))));have he:mE Ls=1:=Km (List.getElem_mem hil) (by rw [hds];exact fun h=>hnl (h.get (i:=k-1) (j:=k) (by omega) (by omega)));rw [Hr (by rw [he];decide),he];exact ⟨⟨none,0,rfl,World.ownsRow_nil _ _ _ _⟩,(hB.next D18)⟩
    have hlt:sLt (SM.G Dz ds (k-1)).1 (SM.G Dz ds k).1:=(mq _ _).1 (by simpa using Q19);refine av (aI (ab (aa (mvi rfl (ae (aG (b:=1) rfl rfl (by omega)) (asi rfl (ah ?_)))))));refine aO (k+1) ⟨(by first | rfl | (refine aK ?_;omega)),trivial⟩ (by (iterate 40 refine aB rfl ?_);exact aJ) ⟨?_,?_⟩
    ·exact ⟨by omega,fun x h1 h2 h3=>by
      rcases Nat.eq_or_lt_of_le (Nat.le_of_lt_succ h2) with e | e
      ·subst e;exact hlt
      ·exact hok x h1 e h3,(hB.next D18)⟩
    ·show ds.length-(k+1)<ds.length-k;omega
  have hsd:SD ds:=SD.near fun x h1 h2=>hok x h1 (by omega) h2
  refine bc (aC (aC (aS (aI (ab (aa (ae (aG (b:=1) rfl rfl (by omega)) (mvi rfl (ah ?_)))))))));refine aO (i+1) ⟨(by first | rfl | (refine aK ?_;omega)),trivial⟩ (by (iterate 59 refine aB rfl ?_);exact aJ) ⟨?_,?_⟩
  ·exact ⟨by omega,fun l hl=>by
    rw [List.take_succ_eq_append_getElem hil,List.mem_append,List.mem_singleton,hds] at hl;rcases hl with e | e
    ·exact hsd0 l e
    ·rw [e];exact hsd,hB⟩
  ·show n-(i+1)<n-i;omega
 have hall:∀ l∈Ls,SD l:=fun l hl=>hsd l (by rw [List.take_of_length_le (by omega)];exact hl)
 refine bc (aC (aC (aS (ab (af (aa (mvs rfl ?_)))))));have hz35:=(hB).size;obtain ⟨b5,hb5⟩:∃ b,b=(w1).heap.size:=⟨_,rfl⟩;refine aF uO (BL A c n Ls _ (hr.from_ hB) hn hl hf) ?_;rintro v35 w20 ⟨⟨A35,c35,rfl,ho35⟩,E35⟩;have hz35b:=E35.size;rw [←hb5] at ho35 hz35 hz35b;refine ass rfl (ah (ab (af (aa (mvs rfl (aF uN (Cs _ A35 c35 Ls.flatten.length Ls.flatten _ ho35 hz35b hf rfl) ?_))))));rintro v37 w21 ⟨zs,hoz,hGz,hPz,hSz⟩;have hzl:=hPz.len;refine ah (ab (af (af (aa (asi rfl (ah (ab (aw (a_ (G:=Nat) [2,3,38,39,40,41,42,43,44,45,46,47,48,49,50,51,52,53,54,55] (fun k=>[(8,.int .i64 (k:Nat))]) (fun k w'=>1≤k∧(∀ x,0<x→x<k→x<zs.length→(SM.G Dz zs (x-1)).1≠(SM.G Dz zs x).1)∧w'.ownsRow b5 37 2 (.slice A35 Ls.flatten.length c35) Ls.flatten.length (List.flatMap dV zs)∧aj w w') (fun k=>Ls.flatten.length-k) (1) ⟨rfl,trivial⟩ ?_ ?_)))))))))
 ·exact ⟨Nat.le_refl _,fun x h1 h2=>absurd h1 (by omega),hoz,(((hB.next E35)).grew hGz (fun k hk=>Nat.le_trans hz35 (cd ho35 k hk).1))⟩
 rintro k ρ22 w22 ⟨hk1,hok,hoz,hB⟩;refine af (af (aa (mvi rfl (mvs rfl (ae (aQ bG rfl) (ae (aW rfl rfl) (ah (ab (JV rfl (fun Q23=>?_) (fun Q23=>?_))))))))))
 ·obtain ⟨g,rfl⟩:=dm hoz (by omega);refine av (ab (af (aw (af ?_))));apply bS 12 [(44,eqp _),(45,eqp _),(46,eqp _),(47,eqp _),(48,eqp _),(49,eqp (.string (SM.G Dz zs (k-1)).1)),(50,eqp _),(51,eqp _),(52,eqp _),(53,eqp _),(54,eqp (.string (SM.G Dz zs k).1)),(55,eqp _)] (by repeat first | exact cy | refine cm ?_ | refine bO ?_) (by kernel_rfl) (by kernel_rfl) ⟨ag _,ag _,ag _,ag _,ag _,ag _,ag _,ag _,ag _,ag _,ag _,ag _,trivial⟩
  case hop=>
   constructor
   ·rintro-w25 D25;exact ai (aq (v:=.slice _ _ _) rfl) rfl
   constructor
   ·rintro-w26 D26;exact ai (aq (v:=.int _ _) rfl) rfl
   constructor
   ·rintro-w27 D27;rintro _ rfl;exact ai (bP (b:=1) rfl rfl (by omega)) rfl
   constructor
   ·rintro-w28 D28;rintro _ rfl _ rfl;exact ai (aM aT rfl rfl (by omega)) rfl
   constructor
   ·rintro-w29 D29;rintro _ rfl;exact ai (ak bq rfl) rfl
   constructor
   ·rintro-w30 D30;rintro _ rfl;exact ai (an (v:=.string (SM.G Dz zs (k-1)).1) bC rfl (eU bz Dz (hoz.kept_from D30) (i:=k-1) (by omega) 0 _ rfl)) rfl
   constructor
   ·rintro-w31 D31;exact ai (aq (v:=.slice _ _ _) rfl) rfl
   constructor
   ·rintro-w32 D32;exact ai (aq (v:=.int _ _) rfl) rfl
   constructor
   ·rintro-w33 D33;rintro _ rfl _ rfl;exact ai (aM aT rfl rfl (by omega)) rfl
   constructor
   ·rintro-w34 D34;rintro _ rfl;exact ai (ak bq rfl) rfl
   constructor
   ·rintro-w35 D35;rintro _ rfl;exact ai (an (v:=.string (SM.G Dz zs k).1) bC rfl (eU bz Dz (hoz.kept_from D35) (i:=k) (by omega) 0 _ rfl)) rfl
   constructor
   ·rintro-w36 D36;rintro v36_49 rfl v36_54 rfl;exact ai (qm rfl rfl) rfl
   exact trivial
  case hend=>
   intro w37 D37;rintro _ rfl _ rfl _ rfl _ rfl _ rfl v49 rfl _ rfl _ rfl _ rfl _ rfl v54 rfl _ rfl;show St ..;replace hoz:=hoz.kept_from D37;refine ah (ab (JU rfl (fun Q38=>?_) (fun Q38=>?_)))
   ·have heq:(SM.G Dz zs (k-1)).1=(SM.G Dz zs k).1:=by first | exact nG Q38 | exact fB.1 Q38
    refine af (aa (ass rfl (asi rfl (ah (ab (ay (bj (aD (aD (bj (aD (cV (v:=.slice _ _ _) (v':=.int _ _) rfl rfl rfl ?_))))))))))));have he:mE Ls=4:=Kl hall (fun h=>Dif.not (i:=k-1) (j:=k) (by omega) (by rw [hzl];omega) heq (h.perm hPz.perm.symm));rw [Hr (by rw [he];decide),he];exact ⟨⟨none,0,rfl,World.ownsRow_nil _ _ _ _⟩,(hB.next D37)⟩
   have hne:(SM.G Dz zs (k-1)).1≠(SM.G Dz zs k).1:=fun e=>by have:=fB.2 e;simp_all
   refine av (aI (ab (aa (mvi rfl (ae (aG (b:=1) rfl rfl (by omega)) (asi rfl (ah ?_)))))));refine aO (k+1) ⟨(by first | rfl | (refine aK ?_;omega)),trivial⟩ (by (iterate 40 refine aB rfl ?_);exact aJ) ⟨?_,?_⟩
   ·exact ⟨by omega,fun x h1 h2 h3=>by
     rcases Nat.eq_or_lt_of_le (Nat.le_of_lt_succ h2) with e | e
     ·subst e;exact hne
     ·exact hok x h1 e h3,hoz,(hB.next D37)⟩
   ·show Ls.flatten.length-(k+1)<Ls.flatten.length-k;omega
 refine bc (aC (aC (aS (ab (af (aa (mvs rfl (ass rfl (asi rfl (ah (ab (ay (cV (v:=.slice _ _ _) (v':=.int _ _) rfl rfl rfl ?_)))))))))))));obtain ⟨e1,e2⟩:=JB hall (SD.of_srt (by rw [hzl];exact hSz) (fun x h1 h2=>hok x h1 (by omega) h2)) hPz.perm;rw [e1,e2];exact ⟨⟨A35,c35,by rw [hzl],by rw [hzl];exact gx hoz hz35⟩,hB⟩
end Go.Proofs.YtcbakncjacnnjaaGreat
namespace Go.Proofs.YtcbakncjacnnjaaGreat
open Go.Proofs.Tryz (prog)
open Go.RowKit
def E_ (i:Int):Value:=.int .i64 i
def cls (n:Int):Nat:=if n<1 then 0 else Lib.bitLen n.toNat
theorem po (n:Int) (w:World) (h:n≤9223372036854775807) :
 Calls prog 83 #[.int .i64 n] w fun e w'=>e=.returned (.int .i64 (cls n:Nat))∧w=w':=by
 by_cases h1:n<1
 ·go_enter Tryz.func83,Tryz.ntmps83
  go_wp2
  go_ret
  exact ⟨by unfold cls;rw [if_pos h1];rfl,rfl⟩
 ·have h0:1≤n:=by omega
  go_enter Tryz.func83,Tryz.ntmps83
  go_wp2_with (go_at_call 80;(with_reducible refine (Go.Proofs.Tryz.bits_Len _ _ (by omega) (by omega)).mono ?_);rintro e w1 ⟨rfl,rfl⟩)
  go_ret
  exact ⟨by unfold cls;rw [if_neg (by omega)];rfl,rfl⟩
def win (cs:List Nat) (i:Nat):Bool:=decide (i+4≤cs.length)&&(cs.getD (i+1) 0==cs.getD i 0)&&(cs.getD (i+2) 0==cs.getD i 0)&&(cs.getD (i+3) 0==cs.getD i 0)
def jf (cs:List Nat):Nat→Nat→Nat×Bool
 |0,_=>(0,false)
 |f+1,i=>if win cs i then (i,true) else jf cs f (i+1)
def vP (cs:List Nat):Nat×Bool:=jf cs cs.length 0
theorem B8 {cs:List Nat} {i:Nat} (h:win cs i=true):i+4≤cs.length:=by
 simp only [win,Bool.and_eq_true,decide_eq_true_eq] at h;exact h.1.1.1
theorem pH {cs:List Nat} {k:Nat} (hk:win cs k=true):∀ f i,i≤k→k<i+f→(∀ j,i≤j→j<k→win cs j=false)→jf cs f i=(k,true)
 |0,i,h1,h2,_=>by omega
 |f+1,i,h1,h2,hn=>by
  simp only [jf];by_cases e:i=k
  ·subst e;rw [if_pos hk]
  ·rw [if_neg (by rw [hn i (Nat.le_refl _) (by omega)];decide)];exact pH hk f (i+1) (by omega) (by omega) fun j h3 h4=>hn j (by omega) h4
theorem Dd {cs:List Nat} {k:Nat} (hk:win cs k=true) (hn:∀ j,j<k→win cs j=false):vP cs=(k,true):=
 pH hk _ 0 (Nat.zero_le _) (by have:=B8 hk;omega) fun j _ h=>hn j h
theorem q4 {cs:List Nat}:∀ f i,(∀ j,i≤j→win cs j=false)→jf cs f i=(0,false)
 |0,_,_=>rfl
 |f+1,i,hn=>by
  simp only [jf];rw [if_neg (by rw [hn i (Nat.le_refl _)];decide)];exact q4 f (i+1) fun j h=>hn j (by omega)
theorem Ga {cs:List Nat} (hn:∀ j,j+4≤cs.length→win cs j=false):vP cs=(0,false):=
 q4 _ 0 fun j _=>by
  by_cases h:j+4≤cs.length
  ·exact hn j h
  ·simp [win,h]
def Run (cs:List Nat) (j s:Nat):Prop:=
 s≤3∧s≤j∧(0<j→0<s)∧(∀ t,t<s→cs.getD (j-1-t) 0=cs.getD (j-1) 0)∧(s<j→cs.getD (j-1-s) 0≠cs.getD (j-1) 0)∧∀ i,i+4≤j→win cs i=false
theorem CI (cs:List Nat):Run cs 0 0:=⟨by omega,by omega,by omega,fun t h=>by omega,by omega,fun i h=>by omega⟩
theorem FC {cs:List Nat} {j s:Nat} (h:Run cs j s) (hj:0<j) (hne:cs.getD j 0≠cs.getD (j-1) 0):Run cs (j+1) 1:=by
 obtain ⟨h1,h2,h3,h4,h5,h6⟩:=h;refine ⟨by omega,by omega,by omega,fun t ht=>?_,fun _=>?_,fun i hi=>?_⟩
 ·obtain rfl:t=0:=by omega
  rfl
 ·simpa using Ne.symm hne
 ·by_cases e:i+4≤j
  ·exact h6 i e
  ·obtain rfl:j=i+3:=by omega
   have:i+3-1=i+2:=by omega
   rw [this] at hne;simp only [win,Bool.and_eq_false_iff,beq_eq_false_iff_ne];by_cases e2:cs.getD (i+2) 0=cs.getD i 0
   ·right;rw [←e2];exact hne
   ·left;right;exact e2
theorem vE {cs:List Nat} {j s:Nat} (h:Run cs j s) (hj:j=0∨cs.getD j 0=cs.getD (j-1) 0) (hs:s+1≤3):Run cs (j+1) (s+1):=by
 obtain ⟨h1,h2,h3,h4,h5,h6⟩:=h;have e0:j+1-1=j:=by omega
 refine ⟨by omega,by omega,by omega,fun t ht=>?_,fun hlt=>?_,fun i hi=>?_⟩
 ·rw [e0];cases t with
  |zero=>rfl
  |succ t=>
   have:=h4 t (by omega);have e1:j-(t+1)=j-1-t:=by omega
   rw [e1,this];rcases hj with rfl | hj
   ·omega
   ·exact hj.symm
 ·rw [e0];have e1:j-(s+1)=j-1-s:=by omega
  rw [e1];rcases hj with rfl | hj
  ·omega
  ·rw [hj];exact h5 (by omega)
 ·by_cases e:i+4≤j
  ·exact h6 i e
  ·obtain rfl:j=i+3:=by omega
   have hs':s<i+3:=by omega
   have hne:=h5 hs';rcases hj with hj | hj
   ·omega
   ·refine Bool.eq_false_iff.2 fun hw=>?_
    simp only [win,Bool.and_eq_true,beq_iff_eq] at hw;obtain ⟨⟨⟨_,w1⟩,w2⟩,w3⟩:=hw;have hs2:s=0∨s=1∨s=2:=by omega
    have f1:i+3-1-0=i+2:=by omega
    have f2:i+3-1-1=i+1:=by omega
    have f3:i+3-1-2=i:=by omega
    have f4:i+3-1=i+2:=by omega
    rcases hs2 with rfl | rfl | rfl
    ·have:=h3 (by omega);omega
    ·rw [f2,f4] at hne;exact hne (by rw [w1,w2])
    ·rw [f3,f4] at hne;exact hne (by rw [w2])
theorem CJ {cs:List Nat} {j:Nat} (h:Run cs j 3) (hj:cs.getD j 0=cs.getD (j-1) 0) (hlt:j<cs.length):vP cs=(j-3,true):=by
 obtain ⟨h1,h2,h3,h4,h5,h6⟩:=h;refine Dd ?_ fun i hi=>h6 i (by omega)
 have a0:=h4 0 (by omega);have a1:=h4 1 (by omega);have a2:=h4 2 (by omega);have e1:j-3+1=j-1-1:=by omega
 have e2:j-3+2=j-1-0:=by omega
 have e3:j-3+3=j:=by omega
 have e4:j-3=j-1-2:=by omega
 simp only [win,Bool.and_eq_true,beq_iff_eq,decide_eq_true_eq];refine ⟨⟨⟨by omega,?_⟩,?_⟩,?_⟩
 ·rw [e1,a1,e4,a2]
 ·rw [e2,a0,e4,a2]
 ·rw [e3,hj,e4,a2]
theorem FD {cs:List Nat} {s:Nat} (h:Run cs cs.length s):vP cs=(0,false):=Ga h.2.2.2.2.2
def B5 (xs:List Int):Prop:=∀ x∈xs,-9223372036854775808≤x∧x≤9223372036854775807
theorem wq (xs:List Int) (j:Nat) (h:j<xs.length):(xs.map cls).getD j 0=cls (xs[j]):=by
 simp [List.getD,List.getElem?_eq_getElem h]
theorem CM {w:World} {v:Value} {xs:List Int} (hr:Row w v (xs.map E_)):∃ A cap,v=.slice A xs.length cap∧
 (0<xs.length→∃ b o,A=some ⟨b,o,none⟩∧b<w.heap.size∧∀ i (h:i<xs.length),w.cell? ⟨b,o+i,none⟩=some (.int .i64 xs[i])):=by
 obtain ⟨A,cap,rfl,hp⟩:=hr;rw [List.length_map] at hp ⊢;refine ⟨A,cap,rfl,fun h0=>?_⟩;obtain ⟨b,o,hA,hb,hc⟩:=hp h0;refine ⟨b,o,hA,hb,fun i hi=>hc i _ ?_⟩;rw [List.getElem?_map,List.getElem?_eq_getElem hi];rfl
theorem Ic {a b:Int} {c:Bool} (h:a=b):Ending.returned (.tuple #[.int .i64 a,.bool c])=.returned (.tuple #[.int .i64 b,.bool c]):=by rw [h]
def He (w:World) (xs:List Int) (s i:Value) (wr:World):Prop:=
 ∃ (j m:Nat),j≤xs.length∧i=.int .i64 j∧s=.int .i64 m∧Run (xs.map cls) j m∧aj w wr
theorem De (v:Value) (xs:List Int) (w:World) (hr:Row w v (xs.map E_)) (hf:B5 xs) (hlen:xs.length≤1000000000000) :
 Calls prog 52 #[v] w fun e w'=>e=.returned (.tuple #[.int .i64 ((vP (xs.map cls)).1:Nat),.bool (vP (xs.map cls)).2])∧aj w w':=by
 obtain ⟨A,cap,rfl,hrow⟩:=CM hr
 go_enter Tryz.func52,Tryz.ntmps52
 go_wp2
 go_loopw [4,9] (He w xs) (fun _ i _=>xs.length-(intOf i).toNat)
 case atStart=>exact ⟨0,0,by omega,rfl,rfl,CI _,aj.rfl_⟩
 case round=>
  obtain ⟨j,m,hj,rfl,rfl,hrun,hw⟩:=hrel;have hm3:=hrun.1;have hmj:=hrun.2.1;by_cases hlt:j<xs.length
  ·obtain ⟨b,o,rfl,hb,hc⟩:=hrow (by omega);have d1:∀ w',aj w w'→w'.cell? ⟨b,o+j,none⟩=some (.int .i64 xs[j]):=fun w' h=>(h.cells b (o+j) hb).trans (hc j hlt)
   have f1:=(hf _ (List.getElem_mem hlt)).2;have g1:=wq xs j hlt;by_cases hz:j=0
   ·have hm0:m=0:=by omega
    have hnew:=vE hrun (.inl hz) (by omega);have HN:=Lib.hid hnew;have hd:decide (0<j)=false:=by simp;omega
    have hm1:(m:Int)+1≤3:=by omega
    have i1:(0:Int)≤(j:Int):=by omega
    have i2:(j:Int)<(xs.length:Int):=by omega
    have h4:((m:Int)+1==4)=false:=by simp;omega
    clear hrun hc hrow hnew g1 hr hf hz hm0
    generalize xs[j]=x1 at*
    go_wp2_with fail
    go_quiet (fail)
    go_wp2
    go_roundw
    case rel=>exact ⟨j+1,m+1,by omega,by go_num,by go_num,HN.out,aj.dn (by assumption) _⟩
    case measure=>simp [intOf];omega
   ·obtain ⟨q,hq1⟩:∃ q,j=q+1:=⟨j-1,by omega⟩;have hq:q<xs.length:=by omega
    have d2:∀ w',aj w w'→w'.cell? ⟨b,o+q,none⟩=some (.int .i64 xs[q]):=fun w' h=>(h.cells b (o+q) hb).trans (hc q hq)
    have f2:=(hf _ (List.getElem_mem hq)).2;have g2:=wq xs q hq;have eq1:j-1=q:=by omega
    have HQ:=Lib.hid hq1;have hs1:IntKind.i64.wrap ((j:Int)-1)=(q:Int):=by rw [IntKind.wrap_i64];omega
    have i1:(0:Int)≤(q:Int):=by omega
    have i2:(q:Int)<(xs.length:Int):=by omega
    have i3:decide (0<j)=true:=by simp;omega
    clear hz;by_cases hsame:cls (xs[j])=cls (xs[q])
    ·have hne:((cls (xs[j]):Int) != (cls (xs[q]):Int))=false:=by simp;omega
     by_cases h3:m=3
     ·subst h3;have hpl:=CJ hrun (by rw [eq1,g1,g2];exact hsame) (by simpa using hlt);have HP:=Lib.hid hpl;clear hrun hc hrow hpl g1 g2 hr hf hsame eq1 hq1
      generalize xs[j]=x1 at*
      generalize xs[q]=x2 at*
      go_wp2_with fail
      go_region_held3 (fun w'=>aj w w')
       (first | assumption | exact aj.d1 (by assumption) | exact aj.dn (by assumption) _ | exact aj.next (by assumption) (by assumption))
       (first | (go_at_call 83;refine (po _ _ (by omega)).mono ?_;rintro e w1 ⟨rfl,rfl⟩))
      go_wp2
      go_ret2
      exact ⟨by rw [HP.out];exact Ic (show (j:Int)+1-4=((j-3:Nat):Int) by omega),by assumption⟩
     ·have hnew:=vE hrun (.inr (by rw [eq1,g1,g2];exact hsame)) (by omega);have HN:=Lib.hid hnew;have h4:((m:Int)+1==4)=false:=by simp;omega
      have hm1:(m:Int)+1≤3:=by omega
      clear hrun hc hrow hnew g1 g2 hr hf hsame eq1 hq1
      generalize xs[j]=x1 at*
      generalize xs[q]=x2 at*
      go_wp2_with fail
      go_region_held3 (fun w'=>aj w w')
       (first | assumption | exact aj.d1 (by assumption) | exact aj.dn (by assumption) _ | exact aj.next (by assumption) (by assumption))
       (first | (go_at_call 83;refine (po _ _ (by omega)).mono ?_;rintro e w1 ⟨rfl,rfl⟩))
      go_wp2
      go_roundw
      case rel=>exact ⟨j+1,m+1,by omega,by go_num,by go_num,HN.out,by assumption⟩
      case measure=>simp [intOf];omega
    ·have hnew:=FC hrun (by omega) (by rw [eq1,g1,g2];exact hsame);have HN:=Lib.hid hnew;have hne:((cls (xs[j]):Int) != (cls (xs[q]):Int))=true:=by simp;omega
     clear hrun hc hrow hnew g1 g2 hr hf hsame eq1 hq1
     generalize xs[j]=x1 at*
     generalize xs[q]=x2 at*
     go_wp2_with fail
     go_region_held3 (fun w'=>aj w w')
      (first | assumption | exact aj.d1 (by assumption) | exact aj.dn (by assumption) _ | exact aj.next (by assumption) (by assumption))
      (first | (go_at_call 83;refine (po _ _ (by omega)).mono ?_;rintro e w1 ⟨rfl,rfl⟩))
     go_wp2
     go_roundw
     case rel=>exact ⟨j+1,1,by omega,by go_num,by go_num,HN.out,by assumption⟩
     case measure=>simp [intOf];omega
  ·obtain rfl:j=xs.length:=by omega
   have hpl:=FD (cs:=xs.map cls) (by simpa using hrun);have HP:=Lib.hid hpl;clear hpl hrun
   go_wp2
   go_ret2
   exact ⟨by rw [HP.out];rfl,hw⟩
def sm (cs:List Nat) (i:Nat):Nat→Bool
 |0=>true
 |t+1=>sm cs i t&&(cs.getD (i+(t+1)) 0==cs.getD i 0)
def Kq (w:World) (xs:List Int) (i:Value) (wr:World):Prop:=
 ∃ j:Nat,j≤xs.length∧i=.int .i64 j∧(∀ q,q<j→win (xs.map cls) q=false)∧aj w wr
def Kg (w:World) (cs:List Nat) (i:Nat) (s k:Value) (wr:World):Prop:=
 ∃ t:Nat,t≤3∧k=.int .i64 ((t:Int)+1)∧s=.bool (sm cs i t)∧aj w wr
end Go.Proofs.YtcbakncjacnnjaaGreat
namespace Go.Proofs.YtcbakncjacnnjaaGreat
open Go.Proofs.Tryz (prog)
open Go.RowKit
open Go.ChangeShapes Go.WideShapes Go.ChangeAt
open Go.Proofs.YtcbakncjacnnjaaGreat.SA
theorem pO:fH prog 119=some (22,1,24,(.slice none 0 0)):=by kernel_rfl
theorem yB:az prog 84=true:=by kernel_rfl
def LL (w:World) (base:Nat) (vs:List Value) (qs:List Pt):Prop:=vs.length=qs.length∧∀ j (h:j<qs.length),∃ Aj cj,vs[j]? =some (.slice Aj qs[j].live.length cj)∧w.ownsRow base 37 2 (.slice Aj qs[j].live.length cj) qs[j].live.length (qs[j].live.flatMap dV)
theorem LL.from_ {w w':World} {base:Nat} {vs:List Value} {qs:List Pt} (h:LL w base vs qs) (hF:aj w w'):LL w' base vs qs:=⟨h.1,fun j hj=>by
 obtain ⟨A,c,h1,h2⟩:=h.2 j hj;exact ⟨A,c,h1,h2.kept_from hF⟩⟩
theorem LL.grown {w w':World} {base b2 e n c:Nat} {vs xs:List Value} {qs:List Pt} {A:Option Addr} (h:LL w base vs qs) (ho:w.ownsRow b2 e 1 (.slice A n c) n xs) (hne:37≠e) (hg:w.grownBy w' (A.map (·.block))):LL w' base vs qs:=⟨h.1,fun j hj=>by
 obtain ⟨B,c2,h1,h2⟩:=h.2 j hj;exact ⟨B,c2,h1,kz h2 hg (ft h2 ho hne).symm⟩⟩
theorem LL.snoc {w:World} {base:Nat} {vs:List Value} {qs:List Pt} {i:Nat} {A:Option Addr} {c:Nat} (hi:i<qs.length) (h:LL w base vs (qs.take i)) (ho:w.ownsRow base 37 2 (.slice A qs[i].live.length c) qs[i].live.length (qs[i].live.flatMap dV)):LL w base (vs++[.slice A qs[i].live.length c]) (qs.take (i+1)):=by
 have hvl:=h.1;rw [List.length_take] at hvl;refine ⟨by rw [List.length_append,List.length_take,List.length_singleton];omega,fun j hj=>?_⟩;rw [List.length_take] at hj;have hg:(qs.take (i+1))[j]'(by rw [List.length_take];omega)=qs[j]:=List.getElem_take ..;rw [hg];rcases Nat.lt_or_ge j i with e | e
 ·obtain ⟨A2,c2,h1,h2⟩:=h.2 j (by rw [List.length_take];omega);have hg2:(qs.take i)[j]'(by rw [List.length_take];omega)=qs[j]:=List.getElem_take ..;rw [hg2] at h1 h2;exact ⟨A2,c2,by rw [List.getElem?_append_left (by omega)];exact h1,h2⟩
 ·obtain rfl:j=i:=by omega
  exact ⟨A,c,by rw [List.getElem?_append_right (by omega),show j-vs.length=0 by omega];rfl,ho⟩
theorem LL.row {w:World} {base b2 n c:Nat} {vs:List Value} {qs:List Pt} {A:Option Addr} (h:LL w base vs qs) (ho:w.ownsRow b2 22 1 (.slice A n c) n vs):tt w A (qs.map Pt.live):=fun h0=>by
 rw [List.length_map] at h0;have hvl:=h.1;have hnl:vs.length=n*1:=ho.1;obtain ⟨g,rfl⟩:=dm ho (by omega);refine ⟨g,0,rfl,fun i hi=>?_⟩;rw [List.length_map] at hi;obtain ⟨B,c2,h1,h2⟩:=h.2 i hi;rw [List.getElem_map];refine ⟨B,c2,?_,(dg.own bz (by decide) h2).2,fun e=>by subst e;exact jI h2⟩;rw [ho.cellAt (0+i) (by omega),Nat.zero_add];exact h1
theorem km (qs:List Pt):(qs.map Pt.live).flatten=qs.flatMap Pt.live:=(List.flatMap_def ..).symm
theorem zF {ls:List (List Dc)} (h:mE ls=0):(mD ls).Perm ls.flatten:=by
 unfold mD;rw [if_pos h];exact (qh (Hq h).2).2
theorem F0 {w:World} {base m c g:Nat} {ps:List Pt} (h:w.ownsRow base 66 2 (.slice (some ⟨g,0,none⟩) m c) m (ps.flatMap ptV)) (hP:∀ p∈ps,PtIn w p) (i k:Nat):∀ j (hj:j<((ps.drop i).take k).length),ml w g (0+i*2+j*2) ((ps.drop i).take k)[j]:=fun j hj=>by
 have hj2:=hj;rw [List.length_take,List.length_drop] at hj2;have e:((ps.drop i).take k)[j]=ps[i+j]'(by omega):=by rw [List.getElem_take,List.getElem_drop]
 rw [e,show 0+i*2+j*2=0+(i+j)*2 by omega];exact qZ h hP _
theorem AX {cs:List Nat} (h:(vP cs).2=true):(vP cs).1+4≤cs.length:=by
 have key:∀ f i,(jf cs f i).2=true→(jf cs f i).1+4≤cs.length:=by
  intro f
  induction f with
  |zero=>intro i h;cases h
  |succ f ih=>
   intro i h;unfold jf at h ⊢;by_cases hw:win cs i=true
   ·rw [if_pos hw];exact B8 hw
   ·rw [if_neg hw] at h ⊢;exact ih _ h
 exact key _ _ h
theorem tH {w:World} {B:Option Addr} {is:List Int} {c:Nat} (h:bA iV w B is):Row w (.slice B is.length c) (is.map E_):=by
 refine ⟨B,c,by rw [List.length_map],fun h0=>?_⟩;rw [List.length_map] at h0;obtain ⟨b,o,e,hc⟩:=h h0;refine ⟨b,o,e,World.block_lt_of_cell? w ⟨b,o+0,none⟩ (hc 0 h0),fun i u hu=>?_⟩;rw [List.getElem?_map] at hu
 obtain ⟨hi,he⟩:∃ hi:i<is.length,E_ is[i]=u:=by
  rcases Nat.lt_or_ge i is.length with hlt | hge
  ·rw [List.getElem?_eq_getElem hlt] at hu;exact ⟨hlt,by simpa using hu⟩
  ·rw [List.getElem?_eq_none hge] at hu;cases hu
 rw [←he];exact hc i hi
theorem Df (B:Option Addr) (c n:Nat) (is:List Int) (w:World) (hr:bA iV w B is) (hn:n=is.length) (hf:B5 is) (hl:is.length≤1000000000000):Rt prog 52 [.slice B n c] w fun v w'=>(∃ (i:Nat) (ok:Bool),v=.tuple #[.int .i64 (i:Nat),.bool ok]∧(ok=true→i+4≤is.length))∧aj w w':=by
 subst hn;exact (Rt.of (De _ is w (tH hr) hf hl)).mono fun v w' h=>⟨⟨_,_,h.1,fun hk=>by have:=AX hk;rwa [List.length_map] at this⟩,h.2⟩
theorem xD (c n g o:Nat) (qs:List Pt) (w:World) (hn:n=qs.length) (hq:∀ i (hi:i<qs.length),ml w g (o+i*2) qs[i]) (hf:(qs.flatMap Pt.live).length≤64) (hl:n≤64) :
 Rt prog 53 [.slice (some ⟨g,o,none⟩) n c] w (fun v w'=>((∃ e:Int,e≠0∧v=.tuple #[.pointer none,.int .i64 e])∨∃ lo s0 M,w.heap.size≤lo∧v=.tuple #[.pointer (some ⟨s0,0,none⟩),.int .i64 0]∧ix w' lo s0 M∧M.Perm (qs.flatMap Pt.live))∧aj w w'):=by
 refine enter (n:=33) Tryz.func53 rfl rfl rfl (af (aa (asp rfl (asi rfl (ah (ab (af (aa (ass rfl (ah (ab (af (af (aa (mvs rfl (ae (aQ cU rfl) ?_))))))))))))))));refine mvi rfl (ah (ab (aw (a_ (G:=Nat×Option Addr×Nat×List Value) [5,11,12,13,14,15,16,17,18,19,20] (fun (i,A4,c4,_)=>[(4,.slice A4 i c4),(10,.int .i64 (i:Nat))]) (fun (i,A4,c4,vs) w'=>i≤n∧w'.ownsRow w.heap.size 22 1 (.slice A4 i c4) i vs∧LL w' w.heap.size vs (qs.take i)∧aj w w') (fun (i,_,_,_)=>n-i) ((0,none,0,[])) ⟨rfl,rfl,trivial⟩ ?_ ?_))))
 ·exact ⟨Nat.zero_le _,World.ownsRow_nil _ _ _ _,⟨rfl,fun j hj=>absurd hj (by simp)⟩,aj.rfl_⟩
 rintro ⟨i,A4,c4,vs⟩ ρ1 w1 ⟨hi,ho4,hLL,hB⟩;refine af (aa (ae (aW rfl rfl) (ah (ab (af (JV rfl (fun Q2=>?_) (fun Q2=>?_)))))))
 ·have hil:i<qs.length:=by omega
  refine av (ab (af (aw (af (aa (mvi rfl (asi rfl (ah (ab (aa (mvs rfl (mvs rfl (mvi rfl (ae (aM cq rfl rfl (by omega)) ?_))))))))))))));have hz17:=(hB).size;refine aF lz (qq g (o+i*2) qs[i] _ ((hq i hil).from_ hB)) ?_;rintro v17 w3 ⟨⟨A17,c17,rfl,ho17⟩,E17⟩;refine fy (v:=.slice _ _ _) pO rfl rfl rfl ?_;intro b18 w4 E18 hb18 hk18;refine dB pO rfl (by decide) rfl (A:=A4) (xs:=vs) (news:=[.slice A17 qs[i].live.length c17]) (ho4.kept_from ((aj.rfl_.next E17).next E18)) (((hB.next E17).next E18).size) rfl rfl (fun _=>⟨b18,0,rfl,hk18.whole⟩) (fun h=>by cases h) (by simp [Value.oneCell']) (by omega) (by omega) ?_;intro A19 c19 w5 ho19 hg19;have HF19:=(((hB.next E17).next E18)).grew hg19 (fun k hk=>(cd (ho4.kept_from ((aj.rfl_.next E17).next E18)) k hk).1);have hLL19:=((hLL.from_ ((aj.rfl_.next E17).next E18)).snoc hil (gx (ho17.kept_from E18) hz17)).grown (ho4.kept_from ((aj.rfl_.next E17).next E18)) (by decide) hg19;refine ass rfl (ah (aI (ab (aa (ae (aG (b:=1) rfl rfl (by omega)) (mvi rfl (ah ?_)))))));refine aO ((i+1,A19,c19,vs++[.slice A17 qs[i].live.length c17])) ⟨(by first | rfl | (refine aK ?_;omega)),(by first | rfl | (refine aK ?_;omega)),trivial⟩ (by (iterate 26 refine aB rfl ?_);exact aJ) ⟨?_,?_⟩
  ·exact ⟨by omega,ho19,hLL19,HF19⟩
  ·show n-(i+1)<n-i;omega
 obtain rfl:i=n:=by omega
 rw [List.take_of_length_le (by omega)] at hLL;have hfl:((qs.map Pt.live).flatten).length≤64:=by rw [km];exact hf
 have hml:=Io hfl;refine bc (aC (aC (aS (ab (af (aa (mvs rfl (aF yB (Dt A4 c4 i (qs.map Pt.live) _ (hLL.row ho4) (by rw [List.length_map];exact hn) (by omega) (by omega)) ?_))))))));rintro v23 w6 ⟨⟨A23,c23,rfl,ho23⟩,E23⟩;refine mvt rfl (ae (ax rfl rfl) (ae (ax rfl rfl) (ass rfl (asi rfl (ah (ab (af (af (aa (mvi rfl (ae (cD rfl rfl) (ah (ab ?_)))))))))))));refine JR rfl (fun Q7=>?_) (fun Q7=>?_)
 ·have hee:mE (qs.map Pt.live)≠0:=by simpa using Q7
  refine af (aa (mvi rfl (asp rfl (asi rfl (ah (ab (ay (aD (cV (v:=.pointer _) (v':=.int _ _) rfl rfl rfl (⟨.inl ⟨_,hee,rfl⟩,(hB.next E23)⟩))))))))))
 have hee:mE (qs.map Pt.live)=0:=by simpa using Q7
 refine av (ab (af (aa (mvs rfl ?_))));have hz30:=((hB.next E23)).size;refine aF pt (Dp A23 c23 (mD (qs.map Pt.live)).length (mD (qs.map Pt.live)) _ (dg.own bz (by decide) ho23).2 rfl (by omega) (q_ ho23)) ?_;rintro v30 w8 ⟨hs30,E30⟩;rcases hs30 with ⟨hck,rfl⟩ | ⟨hck,s0,rfl,hsg⟩
 ·refine ae (ax rfl rfl) (ae (ax rfl rfl) (asp rfl (asi rfl (ah (ab (ay (cV (v:=.pointer _) (v':=.int _ _) rfl rfl rfl ?_)))))))
  first
   |exact ⟨.inl ⟨_,hck,rfl⟩,((hB.next E23).next E30)⟩
   |exact ⟨.inr ⟨_,s0,_,hz30,rfl,hsg,by rw [←km];exact zF hee⟩,((hB.next E23).next E30)⟩
 refine ae (ax rfl rfl) (ae (ax rfl rfl) (asp rfl (asi rfl (ah (ab (ay (cV (v:=.pointer _) (v':=.int _ _) rfl rfl rfl ?_)))))))
 first
  |exact ⟨.inl ⟨_,hck,rfl⟩,((hB.next E23).next E30)⟩
  |exact ⟨.inr ⟨_,s0,_,hz30,rfl,hsg,by rw [←km];exact zF hee⟩,((hB.next E23).next E30)⟩
theorem wW:az prog 52=true:=by kernel_rfl
theorem wV:az prog 53=true:=by kernel_rfl
theorem mS:∀ (a0:Option Addr),prog.built 66 [(0,.pointer a0)]=some #[.pointer a0,.slice none 0 0]:=by intros;kernel_rfl
theorem pP:az prog 54=true:=by kernel_rfl
theorem tT {U:Nat→Prop} {w w' w2:World} {k:Nat} (h:w'.heap.size≤w2.heap.size) (hk:Nx U w w' k):Nx U w w2 k:=hk.imp id fun h2=>⟨h2.1,by omega⟩
theorem my {ps:List Pt} {i:Nat} (hi:i+4≤ps.length) (q:Pt):(ps.take i++q::ps.drop (i+4)).length=ps.length-3:=by
 rw [List.length_append,List.length_take,List.length_cons,List.length_drop];omega
theorem vK {ps:List Pt} {i:Nat} (lo hi s0:Nat) (M:List Dc):(ps.flatMap ptV).take (i*2)++[.pointer (some ⟨s0,0,none⟩),.slice none 0 0]++(ps.flatMap ptV).drop ((i+4)*2)=(ps.take i++Pt.of lo hi s0 M::ps.drop (i+4)).flatMap ptV:=by
 rw [gP j7,iG j7,List.flatMap_append,List.flatMap_cons,List.append_assoc];rfl
theorem s_ {ps:List Pt} {i:Nat} (q:Pt) (hq:q.A=none) (h:ps.Pairwise fun a b=>eP a.A b.A):(ps.take i++q::ps.drop (i+4)).Pairwise fun a b=>eP a.A b.A:=by
 have hx:ps.take i++ps.drop (i+4)=ps.take i++(ps.drop i).drop 4:=by rw [List.drop_drop]
 have h2:(ps.take i++ps.drop (i+4)).Pairwise fun a b=>eP a.A b.A:=by
  rw [hx];exact List.Pairwise.sublist (List.Sublist.append (List.Sublist.refl _) (List.drop_sublist ..)) (by rw [List.take_append_drop];exact h)
 rw [List.pairwise_append] at h2 ⊢;refine ⟨h2.1,List.pairwise_cons.2 ⟨fun b _=>by rw [hq];exact eP.none_,h2.2.1⟩,fun a ha b hb=>?_⟩;rcases List.mem_cons.1 hb with rfl | hb
 ·rw [hq];exact eP.none_.symm
 ·exact h2.2.2 a ha b hb
theorem zu {ps:List Pt} {i:Nat} {q p:Pt} (h:p∈ps.take i++q::ps.drop (i+4)):p∈ps∨p=q:=by
 rcases List.mem_append.1 h with h | h
 ·exact .inl (List.mem_of_mem_take h)
 ·rcases List.mem_cons.1 h with h | h
  ·exact .inr h
  ·exact .inl (List.mem_of_mem_drop h)
theorem tj {ps:List Pt} {L D:List Dc} (hG:ShG ps L D) {i:Nat} (hi:i+4≤ps.length) {M:List Dc} (hM:M.Perm (((ps.drop i).take 4).flatMap Pt.live)):M≠[]:=fun e=>by
 have h1:=ni (ps:=(ps.drop i).take 4) fun p hp=>(hG.part p (List.mem_of_mem_drop (List.mem_of_mem_take hp))).2.2
 have h2:=hM.length_eq;rw [e] at h2;rw [List.length_take,List.length_drop] at h1;simp only [List.length_nil] at h2;omega
theorem GU {ps:List Pt} {L D:List Dc} (hG:ShG ps L D) (i:Nat):(((ps.drop i).take 4).flatMap Pt.live).length≤64:=by
 have h1:=hG.len;have e:ps.flatMap Pt.live=(ps.take i).flatMap Pt.live++(((ps.drop i).take 4).flatMap Pt.live++((ps.drop i).drop 4).flatMap Pt.live):=by rw [←List.flatMap_append,List.take_append_drop,←List.flatMap_append,List.take_append_drop]
 rw [e,List.length_append,List.length_append] at h1;omega
theorem GW {is:List Int} {k:Nat} {x:Int} (h:B5 is) (h0:-9223372036854775808≤x) (h1:x≤9223372036854775807):B5 (is.set k x):=fun y hy=>by
 rcases List.mem_or_eq_of_mem_set hy with e | e
 ·exact h y e
 ·rw [e];exact ⟨h0,h1⟩
theorem Ea (n:Nat):B5 (List.replicate n 0):=fun x hx=>by rw [(List.mem_replicate.1 hx).2];omega
theorem IB (is:List Int) (k:Nat) (x:Int):(is.map iV).toArray.setIfInBounds (0+k) (.int .i64 x)=((is.set k x).map iV).toArray:=by
 rw [Nat.zero_add,List.setIfInBounds_toArray,List.map_set]
theorem IC (n:Nat):(List.replicate n (Value.int .i64 0)).toArray=((List.replicate n (0:Int)).map iV).toArray:=by rw [List.map_replicate]
theorem CN {w:World} {g:Nat} {t:TypeId} {is:List Int} (h:Blk w g t (is.map iV).toArray):bA iV w (some ⟨g,0,none⟩) is:=fun _=>⟨g,0,rfl,fun i hi=>by
 have:=h.rd i (v:=iV is[i]) (by simp [hi]);rw [Nat.zero_add];exact this⟩
theorem iM (U:Nat→Prop) (s:Nat) (D:List Dc) (w:World) (hs:eZ w U s D) :
 Rt prog 25 [.pointer (some ⟨s,0,none⟩)] w (fun _ w'=>eZ w' (Nx U w w') s D∧Chg U w w'):=by
 have hs0:=hs;obtain ⟨ps0,L0,Ap0,cp0,Al0,cl0,hG0,h0,hU0⟩:=hs;refine enter (n:=69) Tryz.func25 rfl rfl rfl (aw (a_ (G:=Nat) (2::3::4::5::6::7::8::9::10::11::12::13::14::15::16::17::18::19::20::21::22::23::24::25::26::27::28::29::30::31::32::33::34::35::36::37::38::39::40::41::42::43::44::45::46::47::48::49::50::51::52::53::54::55::56::57::58::59::60::61::62::63::64::65::66::67::68::[]) (fun _=>[]) (fun m w'=>(∃ ps L Ap cp Al cl,ShG ps L D∧ShH w' ps L s Ap cp Al cl∧(∀ k,pA s Ap Al ps k→Nx U w w' k)∧ps.length=m)∧Chg U w w') (fun m=>m) (ps0.length) trivial ?_ ?_))
 ·exact ⟨⟨ps0,L0,Ap0,cp0,Al0,cl0,hG0,h0,fun k hk=>.inl (hU0 k hk),rfl⟩,Chg.rfl_⟩
 rintro m ρ1 w1 ⟨⟨ps,L,Ap,cp,Al,cl,hG,h,hU,hm⟩,hC⟩;have hpl:=hG.parts;subst hm;refine aw (af (aa (mvp rfl (ae (ar rfl) (ae (ak bW rfl) (ae (an dH rfl (by exact (h.blk.from_ (aj.rfl_ (a:=w1))).rd 0 rfl)) ?_))))));refine ae (aQ cU rfl) (gi dL rfl rfl rfl (by omega) (by omega) ?_);intro b13 w2 E13 hb13 hk13;have hg13:=Nat.le_trans ((aj.rfl_ (a:=w1))).size (Nat.le_of_eq hb13.symm);refine ass rfl (ah (ab (af (af (aa (mvp rfl (ae (ar rfl) (ae (ak bW rfl) (ae (an dH rfl (by exact (h.blk.from_ ((aj.rfl_ (a:=w1)).next E13)).rd 0 rfl)) ?_)))))))));refine ae (aQ cU rfl) (mvi rfl (ah (ab (aw (a_ (G:=Nat×List Int) [3,20,21,22,23,24,25,26,27,28,29,30,31,32,33] (fun (k,_)=>[(19,.int .i64 (k:Nat))]) (fun (k,is) w'=>k≤ps.length∧is.length=ps.length∧B5 is∧Blk w' b13 3 (is.map iV).toArray∧aj w1 w') (fun (k,_)=>ps.length-k) ((0,List.replicate ps.length 0)) ⟨rfl,trivial⟩ ?_ ?_)))))
 ·exact ⟨Nat.zero_le _,List.length_replicate,Ea _,by rw [←IC];exact hk13,((aj.rfl_ (a:=w1)).next E13)⟩
 rintro ⟨k,is⟩ ρ3 w3 ⟨hkn,hil,hfit,hI,hB⟩;refine af (aa (ae (aW rfl rfl) (ah (ab (af (JV rfl (fun Q4=>?_) (fun Q4=>?_)))))))
 ·have hkl:k<ps.length:=by omega
  obtain ⟨g,rfl⟩:=dm h.rowP (by omega);have hlf:=hG.liveFit (List.getElem_mem hkl);have hlf1:=hlf.1;have hlf2:=hlf.2.2;refine av (ab (af (aw (af (aa (mvi rfl (asi rfl (ah (ab (aa (mvs rfl (mvi rfl (mvp rfl (ae (ar rfl) (ae (ak bW rfl) ?_)))))))))))))));refine ae (an dH rfl (by exact (h.blk.from_ hB).rd 0 rfl)) ?_;refine mvi rfl (ae (aM cq rfl rfl (by omega)) (aF lz (qq g (0+k*2) ps[k] _ ((qZ h.rowP (fun p hp=>h.ptIn hG hp) hkl).from_ hB)) ?_));rintro v30 w5 ⟨⟨A30,c30,rfl,ho30⟩,E30⟩;refine aF nA (kP A30 c30 ps[k].live.length ps[k].live _ (dg.own bz (by decide) ho30).2 rfl (by omega) (by omega)) ?_;rintro v31 w6 ⟨rfl,E31⟩;refine ae (aX bJ rfl rfl (by omega)) ?_;refine bH (v:=.int _ _) b_ rfl rfl rfl (hI.from_ ((aj.rfl_.next E30).next E31)) (by show 0+k<((is.map iV).toArray).size;simp;omega) ?_;intro w7 O4 P4;refine ah (aI (ab (aa (ae (aG (b:=1) rfl rfl (by omega)) (mvi rfl (ah ?_))))));refine aO ((k+1,is.set k ((dsz ps[k].live:Nat):Int))) ⟨(by first | rfl | (refine aK ?_;omega)),trivial⟩ (by (iterate 32 refine aB rfl ?_);exact aJ) ⟨?_,?_⟩
  ·exact ⟨by omega,by rw [List.length_set];exact hil,GW hfit (by omega) (by omega),by rw [←IB];exact P4,(((hB.next E30).next E31).only O4 (hg13))⟩
  ·show ps.length-(k+1)<ps.length-k;omega
 refine bc (aC (aC (aS (ab (af (aa (mvs rfl (aF wW (Df (some ⟨b13,0,none⟩) ps.length ps.length is _ (CN (hI.from_ aj.rfl_)) hil.symm hfit (by omega)) ?_))))))));rintro v36 w8 ⟨⟨i,ok,rfl,hroom⟩,E36⟩;refine mvt rfl (ae (ax rfl rfl) (ae (ax rfl rfl) (asi rfl (asb rfl (ah (ab (af (af (aa (mvb rfl (ae (eQ rfl) (ah (ab ?_)))))))))))));refine JT rfl (fun Q9=>?_) (fun Q9=>?_)
 ·refine ay (aD (bj (aD (bj (kh rfl (⟨⟨ps,L,_,cp,Al,cl,hG,h.from_ (hB.next E36),fun k hk=>tT ((hB.next E36)).size (hU k hk)⟩,hC.next ((hB.next E36)).toChg⟩))))))
 have hi4:i+4≤ps.length:=by have:=hroom (by simpa using Q9);omega
 obtain ⟨g,rfl⟩:=dm h.rowP (by omega);have hcap:=nU h.rowP;refine av (ab (af (aa (mvp rfl (ae (ar rfl) (ae (ak bW rfl) (ae (an dH rfl (by exact (h.blk.from_ (hB.next E36)).rd 0 rfl)) ?_)))))));refine mvi rfl (mvi rfl (ae (aG (b:=4) rfl rfl (by omega)) (ae (eR (v':=.slice (some ⟨g,0+i*2,none⟩) 4 (cp-i)) (bm (l:=i) (h:=i+4) cq rfl (.inr ⟨_,_,_,rfl,rfl,rfl⟩) (.inr ⟨_,_,_,rfl,rfl,rfl⟩) (by omega) (by omega)) (by rw [bT (by omega),show i+4-i=4 by omega])) ?_)));have hz50:=((hB.next E36)).size;obtain ⟨qs,hqs⟩:∃ qs,qs=(ps.drop i).take 4:=⟨_,rfl⟩;have hq4:4=qs.length:=by rw [hqs,List.length_take,List.length_drop];omega
 have hqp:∀ j (hj:j<qs.length),ml w8 g (0+i*2+j*2) qs[j]:=by
  intro j hj;subst hqs;exact (F0 h.rowP (fun p hp=>h.ptIn hG hp) i 4 j hj).from_ (hB.next E36)
 have hqf:(qs.flatMap Pt.live).length≤64:=by rw [hqs];exact GU hG i
 refine aF wV (xD (cp-i) 4 g (0+i*2) qs _ hq4 hqp hqf (by decide)) ?_;rintro v50 w10 ⟨hs50,E50⟩;rcases hs50 with ⟨e50,hne50,rfl⟩ | ⟨lo0,s0,M,hlo0,rfl,hsg,hM⟩
 ·have hb33:(e50 != 0)=true:=by simpa using hne50
  refine mvt rfl (ae (ax rfl rfl) (ae (ax rfl rfl) (asp rfl (asi rfl (ah (ab (af (af (aa (mvi rfl (ae (cD rfl rfl) (ah (ab ?_)))))))))))));refine JR rfl (fun Q11=>?_) (fun Q11=>?_)
  ·refine ay (aD (bj (aD (bj (kh rfl (⟨⟨ps,L,_,cp,Al,cl,hG,h.from_ ((hB.next E36).next E50),fun k hk=>tT (((hB.next E36).next E50)).size (hU k hk)⟩,hC.next (((hB.next E36).next E50)).toChg⟩))))))
  first
   |(exfalso; first | (first | omega | (simp [hb33] at *; done); trace "@MK D iM:c20-.c40-.f50.0.c54- 1") | (contradiction; trace "@MK D iM:c20-.c40-.f50.0.c54- 2") | ((cases Q11; done); trace "@MK D iM:c20-.c40-.f50.0.c54- 3"))
   |(trace "@MK D iM:c20-.c40-.f50.0.c54- 0")
    refine av (ab (aa (mvp rfl (mvp rfl (ae (ar rfl) (ae (ak bW rfl) (ae (an dH rfl (by exact (h.blk.from_ ((hB.next E36).next E50)).rd 0 rfl)) ?_)))))));refine mvi rfl (mvi rfl (ae (aG (b:=4) rfl rfl (by omega)) (mvp rfl (ae (cM (l:=[(0,.tmp 63)]) (mS _)) ?_))));have hs65:=(((hB.next E36).next E50)).size;refine gV eX rfl rfl rfl ?_;intro b65 w12 E65 hb65 hk65;have hF66:=(((hB.next E36).next E50).next E65);have hsk2:=hsk.from_ ((aj.rfl_.next E65));refine aF pP (pF 0 (some ⟨g,0,none⟩) cp ps.length i b65 1 (ps.flatMap ptV) [.pointer (some ⟨s0,0,none⟩),.slice none 0 0] _ _ _ (h.rowP.kept_from (((hB.next E36).next E50).next E65)) hi4 rfl hk65.whole hk65 (fun k hk=>by have:=(cd h.rowP k hk).2;omega) (tL ps) (by simp [Value.oneCell']) (by omega)) ?_;rintro v66 w13 ⟨⟨A66,c66,rfl,ho66,hA66⟩,hg66⟩;have hb66:=(h.blk.from_ hF66).grown hg66 (cZ (h.rowP.kept_from hF66) (h.blk.from_ hF66) (by decide));refine ae (ar rfl) (ae (ak bW rfl) (bH (v:=.slice _ _ _) iK rfl rfl rfl (hb66) (by show 0<2;decide) ?_));intro w14 O10 P10;refine ah (aI ?_);refine aO (ps.length-3) trivial (by (iterate 136 refine aB rfl ?_);exact aJ) ⟨?_,?_⟩
    ·obtain ⟨q1,q2,q3⟩:=oK (ps':=ps.take i++Pt.of lo hi s0 M::ps.drop (i+4)) (L':=L) h hU hF66 ((Chg.of_grown hg66 (fun k e=>.inr e)).only O10 (.inl rfl)) (by rw [my hi4];exact P10) (by rw [my hi4,←vK];exact cf ho66 O10 (cZ ho66 hb66 (by decide))) (fun k hk=>.inl (hA66 k hk)) (.inl ⟨rfl,rfl,rfl⟩) (fun p hp=>(zu hp).imp id fun e=>by rw [e];exact ⟨rfl,rfl,rfl,hsk2,hlo⟩) (s_ _ rfl h.apart);exact ⟨⟨_,L,A66,c66,Al,cl,hG.tidy hi4 lo hi s0 hM (tj hG hi4 hM),q1,fun k hk=>Nx.trans hC.size q3.size (q2 k hk),my hi4 _⟩,hC.trans q3 fun k hk=>hk.imp id fun h=>h.1⟩
    ·show ps.length-3<ps.length;omega
 rw [hqs] at hM;obtain ⟨lo,hi,hlo,hhi,hsk⟩:=jT.ex hsg (Nat.le_trans hz50 hlo0);refine mvt rfl (ae (ax rfl rfl) (ae (ax rfl rfl) (asp rfl (asi rfl (ah (ab (af (af (aa (mvi rfl (ae (cD rfl rfl) (ah (ab ?_)))))))))))));refine JR rfl (fun Q15=>?_) (fun Q15=>?_)
 ·first
   |(exfalso; first | (first | omega | (simp [hb33] at *; done); trace "@MK D iM:c20-.c40-.f50.1.c54+ 1") | (contradiction; trace "@MK D iM:c20-.c40-.f50.1.c54+ 2") | ((cases Q15; done); trace "@MK D iM:c20-.c40-.f50.1.c54+ 3"))
   |(trace "@MK D iM:c20-.c40-.f50.1.c54+ 0")
    refine ay (aD (bj (aD (bj (kh rfl (⟨⟨ps,L,_,cp,Al,cl,hG,h.from_ ((hB.next E36).next E50),fun k hk=>tT (((hB.next E36).next E50)).size (hU k hk)⟩,hC.next (((hB.next E36).next E50)).toChg⟩))))))
 refine av (ab (aa (mvp rfl (mvp rfl (ae (ar rfl) (ae (ak bW rfl) (ae (an dH rfl (by exact (h.blk.from_ ((hB.next E36).next E50)).rd 0 rfl)) ?_)))))));refine mvi rfl (mvi rfl (ae (aG (b:=4) rfl rfl (by omega)) (mvp rfl (ae (cM (l:=[(0,.tmp 63)]) (mS _)) ?_))));have hs65:=(((hB.next E36).next E50)).size;refine gV eX rfl rfl rfl ?_;intro b65 w16 E65 hb65 hk65;have hF66:=(((hB.next E36).next E50).next E65);have hsk2:=hsk.from_ ((aj.rfl_.next E65));refine aF pP (pF 0 (some ⟨g,0,none⟩) cp ps.length i b65 1 (ps.flatMap ptV) [.pointer (some ⟨s0,0,none⟩),.slice none 0 0] _ _ _ (h.rowP.kept_from (((hB.next E36).next E50).next E65)) hi4 rfl hk65.whole hk65 (fun k hk=>by have:=(cd h.rowP k hk).2;omega) (tL ps) (by simp [Value.oneCell']) (by omega)) ?_;rintro v66 w17 ⟨⟨A66,c66,rfl,ho66,hA66⟩,hg66⟩;have hb66:=(h.blk.from_ hF66).grown hg66 (cZ (h.rowP.kept_from hF66) (h.blk.from_ hF66) (by decide));refine ae (ar rfl) (ae (ak bW rfl) (bH (v:=.slice _ _ _) iK rfl rfl rfl (hb66) (by show 0<2;decide) ?_));intro w18 O10 P10;refine ah (aI ?_);refine aO (ps.length-3) trivial (by (iterate 136 refine aB rfl ?_);exact aJ) ⟨?_,?_⟩
 ·obtain ⟨q1,q2,q3⟩:=oK (ps':=ps.take i++Pt.of lo hi s0 M::ps.drop (i+4)) (L':=L) h hU hF66 ((Chg.of_grown hg66 (fun k e=>.inr e)).only O10 (.inl rfl)) (by rw [my hi4];exact P10) (by rw [my hi4,←vK];exact cf ho66 O10 (cZ ho66 hb66 (by decide))) (fun k hk=>.inl (hA66 k hk)) (.inl ⟨rfl,rfl,rfl⟩) (fun p hp=>(zu hp).imp id fun e=>by rw [e];exact ⟨rfl,rfl,rfl,hsk2,hlo⟩) (s_ _ rfl h.apart);exact ⟨⟨_,L,A66,c66,Al,cl,hG.tidy hi4 lo hi s0 hM (tj hG hi4 hM),q1,fun k hk=>Nx.trans hC.size q3.size (q2 k hk),my hi4 _⟩,hC.trans q3 fun k hk=>hk.imp id fun h=>h.1⟩
 ·show ps.length-3<ps.length;omega
end Go.Proofs.YtcbakncjacnnjaaGreat
namespace Go.Proofs.YtcbakncjacnnjaaGreat
open Go.Proofs.Tryz (prog)
open Go.ChangeShapes Go.WideShapes Go.ChangeAt Go.RowKit
theorem pW {H:Type} {enc:TypeId×Value→H} (F:FuncId) (f:Func) (T Tb:TypeId) (s:ChangeSpec) (hp:f.params=#[T]) (hr:f.resultTypes=#[Tb]) (hTb:prog.underlying Tb=some .bool)
 (hvars:s.vars=[]) (hfn:∀ d:DataW H,s.fn H [d]={ results:=[.lit (.bool true)],args:=[d] }) (hrec:prog.readableRec T=true) (hrow:T<prog.types.size)
 (walk:∀ (W:World) (base:Nat) (v:Value) (d:DataW H) (p:List MemPlace),W.ShapedOpen prog→Value.okWide prog W .any base T v→DataW.Trod enc prog W 0 (fun _=>true) true T v d p→(∀ n∈d.weights prog T,n≤140737488351232)→
  Calls prog F #[v] W fun e W'=>e=.returned (.bool true)∧aj W W')
 (W:World) (base:Nat) (args:Array Value) (ds gs:List (DataW H)) (before:List MemPlace)
 (hval0:∀ (j:Nat) t v,f.params[j]? =some t→args[j]? =some v→Value.okWide prog W .any base t v)
 (hW:DataW.Whole enc prog f.params.toList s.vars false W args.toList ds gs before)
 (hsz:(DataW.weightsEach prog (f.params.toList++s.plain.varTypes prog) (ds++gs)).all (·≤reachBytes)=true) (hS:W.ShapedOpen prog) :
 Calls prog F args W fun e W'=>∃ v,e=.returned v∧s.post enc prog f false true false false W args v W':=by
 have hlt:∀ x∈before,x.block<W.heap.size:=fun x hx=>hW.lt x hx
 have hW':=hW;obtain ⟨p,q,hA,hV,rfl,hfz,hnd⟩:=hW;rw [hp] at hA hval0 hsz;rw [hvars] at hV;obtain ⟨v0,d0,rfl,rfl,h0⟩:=trodAll_one hA;obtain ⟨rfl,rfl⟩:=trodVars_none hV;simp only [List.append_nil] at hW' hlt;refine (walk W base v0 d0 p hS (hval0 0 T v0 rfl rfl) h0 (fun n hn=>Nat.le_trans (by simpa using List.all_eq_true.1 hsz n (DataW.weights_mem_each (j:=0) (t:=T) (d:=d0) rfl rfl n hn)) (show reachBytes≤140737488351232 by decide))).mono fun e W' ⟨he,hb⟩=>?_
 subst he;refine ⟨_,rfl,sJ (pa:=p) (pv:=[]) hW' ?_ ?_ ?_ (by simp) hb ?_⟩
 ·intro b sp hd;rw [List.append_nil,hfn,hr];exact trodAll_mk1 (shut_bool hTb _)
 ·intro sp hsp;rw [List.append_nil,hfn,hp];exact trodAll_mk1 (WideElems.Trod_stays Tryz.laidOut hrec hrow h0 (fun x hx=>hb.same (hlt x hx)) hsp)
 ·intro sp hsp;rw [List.append_nil,hfn,hvars];simp [DataW.TrodVars]
 ·exact ok_one hr rfl (okWide_bool_mk hTb _)
theorem mW {H:Type} {enc:TypeId×Value→H} {F:FuncId} {T:TypeId} (t u:Ty) (hf:(Ty.pr t u).fits prog (.inl T)=true)
 (h:∀ (cs:Array Value) (x:(Ty.pr t u).den) (w:World),w.ShapedOpen prog→cs.size=(Ty.pr t u).size→(Ty.pr t u).At w (fun j=>cs[j]?) x→Rt prog F [.agg cs] w fun v w'=>v=.bool true∧aj w w')
 (W:World) (base:Nat) (v:Value) (d:DataW H) (p:List MemPlace) (hS:W.ShapedOpen prog) (hok:Value.okWide prog W .any base T v) (ht:DataW.Trod enc prog W 0 (fun _=>true) true T v d p) (hsz:∀ n∈d.weights prog T,n≤140737488351232) :
 Calls prog F #[v] W fun e W'=>e=.returned (.bool true)∧aj W W':=by
 obtain ⟨cs,x,rfl,hs,ha⟩:=I8 t u hf hok ht hsz;exact Rt.to (h cs x W hS hs ha)
end Go.Proofs.YtcbakncjacnnjaaGreat
namespace Go.Proofs.YtcbakncjacnnjaaGreat
open Go.Proofs.Tryz (prog)
open Go.RowKit
open Go.ChangeShapes Go.WideShapes Go.ChangeAt
open Go.Proofs.YtcbakncjacnnjaaGreat.SA
theorem sc:az prog 12=true:=by kernel_rfl
theorem fN:az prog 15=true:=by kernel_rfl
theorem fZ:prog.built 37 [(0,.string ⟨#[97]⟩),(1,.string ⟨#[120,120]⟩)]=some #[.string ⟨#[97]⟩,.string ⟨#[120,120]⟩]:=by kernel_rfl
theorem sb:az prog 27=true:=by kernel_rfl
theorem nz:az prog 20=true:=by kernel_rfl
theorem lL:prog.built 57 [(0,.string ⟨#[97]⟩)]=some #[.string ⟨#[97]⟩,.int .i64 0]:=by kernel_rfl
theorem yQ:az prog 22=true:=by kernel_rfl
abbrev Ac:=Int×Dc×ByteArray×Int
def acV (a:Ac):List Value:=[.int .i64 a.1,.string a.2.1.1,.string a.2.1.2,.string a.2.2.1,.int .i64 a.2.2.2]
def Az:Ac:=(0,(⟨#[]⟩,⟨#[]⟩),⟨#[]⟩,0)
abbrev yx:Ty:=.pr (.int .i64) (.pr wB (.pr .str (.pr (.int .i64) .unit)))
def toA (x:Int×(ByteArray×ByteArray×Unit)×ByteArray×Int×Unit):Ac:=(x.1,(x.2.1.1,x.2.1.2.1),x.2.2.1,x.2.2.2.1)
structure OkA (a:Ac):Prop where
 do_:-9223372036854775808≤a.1∧a.1≤9223372036854775807
 id:Small a.2.1.1
 text:Small a.2.1.2
 pat:Small a.2.2.1
 lim:-9223372036854775808≤a.2.2.2∧a.2.2.2≤9223372036854775807
theorem G_ {w:World} {c:Nat→Option Value} {xs:List (Int×(ByteArray×ByteArray×Unit)×ByteArray×Int×Unit)} (h:(Ty.sl yx).At w c xs):∃ (A:Option Addr) (cap:Nat) (acs:List Ac),c 0=some (.slice A acs.length cap)∧dg 5 acV w A acs∧(∀ a∈acs,OkA a)∧acs.length≤140737488351232:=by
 obtain ⟨A,cap,h0,h1,h2,h3⟩:=h;have hl:(List.map toA xs).length=List.length xs:=List.length_map _;refine ⟨A,cap,List.map toA xs,by rw [hl];exact h0,fun hp=>?_,fun d hd=>?_,by rw [hl];exact Nat.le_trans (Nat.le_mul_of_pos_right _ (by decide)) h1⟩
 ·rw [hl] at hp;obtain ⟨b,o,hA,_,hi⟩:=h3 hp;refine ⟨b,o,hA,fun i hlt=>?_⟩;have hlt2:i<List.length xs:=by rwa [hl] at hlt
  obtain ⟨⟨c1,_⟩,⟨⟨c2,_⟩,⟨c3,_⟩,_⟩,⟨c4,_⟩,⟨c5,_⟩,_⟩:=hi i _ (List.getElem?_eq_getElem hlt2);rw [List.getElem_map];intro j v hv
  match j,hv with
  |0,hv=>simp [acV,toA] at hv;subst hv;simpa [Ty.size] using c1
  |1,hv=>simp [acV,toA] at hv;subst hv;simpa [Ty.size] using c2
  |2,hv=>simp [acV,toA] at hv;subst hv;simpa [Ty.size] using c3
  |3,hv=>simp [acV,toA] at hv;subst hv;simpa [Ty.size] using c4
  |4,hv=>simp [acV,toA] at hv;subst hv;simpa [Ty.size] using c5
  |j+5,hv=>simp [acV] at hv
 ·obtain ⟨x,hx,rfl⟩:=List.mem_map.1 hd;obtain ⟨i,hi,rfl⟩:=List.getElem_of_mem hx;obtain ⟨b,o,hA,_,hh⟩:=h3 (Nat.lt_of_le_of_lt (Nat.zero_le _) hi);obtain ⟨⟨_,c1⟩,⟨⟨_,c2⟩,⟨_,c3⟩,_⟩,⟨_,c4⟩,⟨_,c5⟩,_⟩:=hh i _ (List.getElem?_eq_getElem hi);exact ⟨B9 c1,c2,c3,c4,B9 c5⟩
structure Kd (w:World) (A B:Option Addr) (ca:Nat) (ds:List Dc) (acs:List Ac):Prop where
 row:dg 2 dV w A ds
 sm:∀ d∈ds,Small d.1∧Small d.2
 len:ds.length*32≤140737488351232
 cap:ds.length≤ca
 nil:A=none→ca=0
 rowA:dg 5 acV w B acs
 smA:∀ a∈acs,OkA a
 lenA:acs.length≤140737488351232
theorem EJ {w:World} {cs:Array Value} {x:(Ty.pr (.sl wB) (.pr (.sl yx) .unit)).den} (hs:cs.size=2) (h:(Ty.pr (.sl wB) (.pr (.sl yx) .unit)).At w (fun j=>cs[j]?) x) :
 ∃ (A B:Option Addr) (ca cb:Nat) (ds:List Dc) (acs:List Ac),cs=#[.slice A ds.length ca,.slice B acs.length cb]∧Kd w A B ca ds acs:=by
 obtain ⟨h1,h2,_⟩:=h;obtain ⟨A,ca,ds,a0,a1,a2,a3,a4,a5⟩:=G9 h1;obtain ⟨B,cb,acs,b0,b1,b2,b3⟩:=G_ h2;have e0:cs[0]? =some _:=a0;have e1:cs[1]? =some _:=b0;refine ⟨A,B,ca,cb,ds,acs,?_,⟨a1,a2,a3,a4,a5,b1,b2,b3⟩⟩;obtain ⟨l⟩:=cs
 match l,hs with
 |[a,b],_=>
  simp only [List.getElem?_toArray,List.getElem?_cons_zero,List.getElem?_cons_succ,Option.some.injEq] at e0 e1;rw [e0,e1]
theorem AH {w:World} (h:w.ShapedOpen prog):∃ m,w.cell? ⟨0,0,none⟩=some (.int .i64 m):=Tryz.laysM143.s1_3 w h
theorem EO:lg [] (⟨#[97]⟩,⟨#[120,120]⟩)=0∧yw [] (⟨#[97]⟩,⟨#[120,120]⟩)=[(⟨#[97]⟩,⟨#[120,120]⟩)]:=by
 have h0:lg [] (⟨#[97]⟩,⟨#[120,120]⟩)=0:=yv (by decide) (by decide) (by rintro ⟨e,he,_⟩;cases he) (by decide);refine ⟨h0,?_⟩;rw [uE h0];exact AB (List.pairwise_singleton ..)
theorem Fm:sH [(⟨#[97]⟩,⟨#[120,120]⟩)] ⟨#[120]⟩ 1=[(⟨#[97]⟩,0)]∧sN [(⟨#[97]⟩,⟨#[120,120]⟩)] ⟨#[120]⟩ 1=2∧j6 ⟨#[120]⟩ 1=0:=by
 have e0:j6 ⟨#[120]⟩ 1=0:=by decide
 have e1:=GL;unfold kR at e1;rw [show nd ⟨#[120]⟩=0 by decide,if_pos rfl] at e1;refine ⟨?_,?_,e0⟩
 ·unfold sH;rw [if_pos e0,e1];rfl
 ·unfold sN;rw [if_pos e0,e1];rfl
theorem Jo {w:World} {g:Nat} {a:ByteArray} {x:Int} (h:Blk w g 57 #[.string a,.int .i64 x]):dg 2 hV w (some ⟨g,0,none⟩) [(a,x)]:=fun _=>⟨g,0,rfl,fun i hi=>by
 match i,hi with
 |0,_=>exact h.whole⟩
theorem s6 (w:World):Rt prog 12 [.slice none 0 0] w fun v w'=>(∃ s,v=.tuple #[.pointer (some ⟨s,0,none⟩),.int .i64 0]∧eZ w' (fun k=>w.heap.size≤k) s [])∧aj w w':=
 (bM none 0 0 [] w dg.nil rfl (by omega) (fun _=>⟨rfl,rfl⟩)).mono fun v w' h=>by
  obtain ⟨h,hF⟩:=h;rcases h with ⟨h,_⟩ | ⟨_,h⟩
  ·exact absurd (HD (fun i hi=>absurd hi (by simp)) ⟨by simp,fun d hd=>(by cases hd),by simp [dsz]⟩) h
  ·exact ⟨h,hF⟩
theorem xu (w:World) (m:Int) (hm:w.cell? ⟨0,0,none⟩=some (.int .i64 m)) :
 Rt prog 16 [] w (fun v w'=>v=.bool true∧aj w w'):=by
 refine enter (n:=43) Tryz.func16 rfl rfl rfl (af (aa (asb rfl (ah (ab (af (aa (aF sc (s6 _) ?_))))))));rintro v7 w1 ⟨⟨s,rfl,hs7⟩,E7⟩;refine mvt rfl (ae (ax rfl rfl) (ae (ax rfl rfl) (asp rfl (asi rfl (ah (ab (af (af (aa (mvi rfl (aF fN (iS _ _) ?_)))))))))));rintro v11 w2 ⟨rfl,rfl⟩;refine ae (dS (cD rfl rfl) (bne_self_eq_false _)) (mvb rfl (ao rfl (mvp rfl (ao rfl (ae (dS (oT (by kernel_rfl) rfl rfl) rfl) (ae (bk (v:=.bool _) rfl rfl) (mvb rfl (ao rfl ?_))))))));refine mvp rfl (ao rfl (ae (cM (l:=[(0,.const (.string ⟨#[97]⟩)),(1,.const (.string ⟨#[120,120]⟩))]) (fZ)) (ao rfl (aF sb (EN _ s [] _ hs7 (⟨#[97]⟩,⟨#[120,120]⟩) (by decide) (by decide)) ?_))));rintro v20 w3 ⟨rfl,hs20,hC20⟩;rw [EO.1];refine ao rfl (aF fN (iS _ _) ?_);rintro v21 w4 ⟨rfl,rfl⟩;refine ao rfl (ae (dS (cD rfl rfl) (bne_self_eq_false _)) (ae (bk (v:=.bool _) rfl rfl) (ah (ab (de rfl (av (ab (af (aa (mvp rfl (aF nz (lR _ s [(⟨#[97]⟩,⟨#[120,120]⟩)] _ (EO.2 ▸ hs20) ⟨#[120]⟩ 1 m (bx (((aj.rfl_.next E7)).chg hC20 (fun k hk=>hk)) hm) (by decide)) ?_)))))))))));rintro v26 w5 ⟨⟨A26,c26,rfl,ho26⟩,E26⟩;obtain ⟨x1,x2,x3⟩:=Fm;rw [x1] at ho26 ⊢;rw [x2,x3];refine mvt rfl (ae (ax rfl rfl) (ae (ax rfl rfl) (ae (ax rfl rfl) (ass rfl (asi rfl (asi rfl (ah (ab (af (aa (mvi rfl ?_)))))))))));refine aF fN (iS _ _) ?_;rintro v31 w6 ⟨rfl,rfl⟩;refine ae (jE (cx rfl rfl) rfl) (mvb rfl (ao rfl (mvi rfl (ao rfl (ae (jE (cx rfl rfl) rfl) (ae (bB (v:=.bool _) rfl rfl) (mvb rfl (ao rfl ?_))))))));refine mvs rfl (ao rfl (ae (cM (l:=[(0,.const (.string ⟨#[97]⟩))]) (lL)) (ao rfl (gV eY rfl rfl rfl ?_))));intro b40 w7 E40 hb40 hk40;refine ao rfl (aF yQ (BD A26 (some ⟨b40,0,none⟩) c26 1 1 1 [(⟨#[97]⟩,0)] [(⟨#[97]⟩,0)] _ ((dg.own eV (by decide) ho26).2.from_ E40) (Jo hk40) rfl rfl (by omega)) ?_);rintro v41 w8 ⟨rfl,E41⟩;refine ae (bB (v:=.bool _) rfl rfl) (asb rfl (ah (ab (ay (bE (v:=.bool _) rfl rfl (⟨congrArg Value.bool (decide_eq_true rfl),((((((aj.rfl_.next E7)).chg hC20 (fun k hk=>hk)).next E26).next E40).next E41)⟩))))))
theorem eZ.low {w:World} {N s:Nat} {D:List Dc} (h:eZ w (fun k=>N≤k) s D):N≤w.heap.size:=by
 obtain ⟨ps,L,Ap,cp,Al,cl,hG,h,hU⟩:=h;have h1:N≤s:=hU s (.inl (.inl rfl));have:=h.blk.lt;omega
theorem eZ.on {w w':World} {N s:Nat} {D D':List Dc} (h:eZ w (fun k=>N≤k) s D) (h2:eZ w' (Nx (fun k=>N≤k) w w') s D'):eZ w' (fun k=>N≤k) s D':=h2.wide fun _ hk _=>hk.elim id fun e=>Nat.le_trans h.low e.1
def KG (w:World) (D:List Dc) (q:ByteArray) (lim:Int) (v:Value):Prop:=∃ A c,v=.tuple #[.slice A (sH D q lim).length c,.int .i64 (sN D q lim:Nat),.int .i64 (j6 q lim)]∧dg 2 hV w A (sH D q lim)
def KH (w:World) (D:List Dc) (q:ByteArray) (lim:Int) (v:Value):Prop:=∃ A c,v=.slice A (sH D q lim).length c∧dg 2 hV w A (sH D q lim)
theorem tI {ρ:Operand→Value} {w:World} {x:Operand} {g k:Nat} (hk:k<256) (hx:ρ x=.slice (some ⟨g,0,none⟩) 1 1) (hb:Blk w g 5 #[.int .u8 (k:Nat)]):RO prog ρ (.convert 55 9 x) w (.string ⟨#[UInt8.ofNat k]⟩) w:=fun _ _ _ _ _=>by
 have h:=run_convert_bytes_back (P:=prog) w 55 9 5 ⟨g,0,none⟩ 1 [UInt8.ofNat k] (by kernel_rfl) (by kernel_rfl) (by kernel_rfl) (fun j hj=>by
  have h0:j=0:=by have:j<1:=hj;omega
  subst h0;rw [Go.WideShapes.add_plain,Nat.zero_add,hb.rd 0 rfl];show some (Value.int .u8 (k:Nat))=some (.int .u8 ((UInt8.ofNat k).toNat:Nat));rw [UInt8.toNat_ofNat']
  congr 3
  omega)
 have h2:(convert 55 9 (.slice (some ⟨g,0,none⟩) 1 1)).run prog w=.ok (.string ⟨#[UInt8.ofNat k]⟩) w:=h;simp [execOp,hx,h2]
abbrev tid (k:Nat):ByteArray:=⟨#[UInt8.ofNat (97+k)]⟩
abbrev TX:ByteArray:=⟨#[120,32,109,97,114,107,115,32,116,104,101,32,115,112,111,116]⟩
abbrev tA (k:Nat):Dc:=(tid k,TX)
def TD (l:List Nat):List Dc:=l.map tA
theorem nD (k:Nat):(tid k).toList=[UInt8.ofNat (97+k)]:=by rw [Lib.toList_data]
theorem y9 {k j:Nat} (hk:k<20) (hj:j<20) (h:tid k=tid j):k=j:=by
 have h2:=congrArg ByteArray.toList h;rw [nD,nD] at h2;exact (by decide+kernel:∀ k,k<20→∀ j,j<20→[UInt8.ofNat (97+k)]=[UInt8.ofNat (97+j)]→k=j) k hk j hj h2
theorem HS {k j:Nat} (hj:j<20) (h:k<j):sLt (tid k) (tid j):=by
 unfold sLt;rw [nD,nD];exact (by decide+kernel:∀ j,j<20→∀ k,k<j→[UInt8.ofNat (97+k)]<[UInt8.ofNat (97+j)]) j hj k h
theorem J4 {l:List Nat} (h:∀ k∈l,k<20) (hp:l.Pairwise (·<·)):SD (TD l):=by
 unfold SD TD;rw [List.pairwise_map];exact hp.imp_of_mem fun _ hb h2=>HS (h _ hb) h2
theorem ET:∀ l:List Nat,dsz (TD l)=16*l.length
 |[]=>rfl
 |k::l=>by
  show 16+dsz (TD l)=16*(l.length+1);rw [ET l];omega
theorem Jb (l:List Nat):(TD l).length=l.length:=List.length_map _
theorem ES {l:List Nat} (h:∀ k∈l,k<20) {k:Nat} (hk:k<20):(∃ e∈TD l,e.1=tid k)↔k∈l:=by
 refine ⟨fun ⟨e,he,h2⟩=>?_,fun h2=>⟨_,List.mem_map_of_mem (f:=tA) h2,rfl⟩⟩;obtain ⟨j,hj,rfl⟩:=List.mem_map.1 he;rw [←y9 (h j hj) hk h2];exact hj
theorem J3 {i:Nat} (hi:i<20):lg (TD (List.range i)) (tA i)=0∧yw (TD (List.range i)) (tA i)=TD (List.range (i+1)):=by
 have hs:SD (TD (List.range (i+1))):=J4 (fun k hk=>by have:=List.mem_range.1 hk;omega) List.pairwise_lt_range
 have e:TD (List.range i)++[tA i]=TD (List.range (i+1)):=by
  unfold TD;rw [List.range_succ,List.map_append];rfl
 have h0:lg (TD (List.range i)) (tA i)=0:=by
  refine yv ⟨by show 1≤1;omega,by show 1≤64;omega⟩ (by show ¬ 2048<16;omega) (fun h=>?_) ?_
  ·have:=(ES (fun k hk=>by have:=List.mem_range.1 hk;omega) hi).1 h;have:=List.mem_range.1 this;omega
  ·rw [Jb,ET,List.length_range];show ¬ (64≤i∨16384<16*i+16);omega
 refine ⟨h0,?_⟩;rw [uE h0];unfold GJ;have hd:Dif (TD (List.range i)++[tA i]):=by rw [e];exact hs.dif
 obtain ⟨k1,k2⟩:=qh hd;refine SD.uniq k1 hs (k2.trans ?_);rw [e]
def dl (j:Nat):List Nat:=(List.range 20).filter fun k=>decide (k%2=1∨2*j≤k)
theorem HE {j:Nat}:∀ k∈dl j,k<20:=fun _ hk=>List.mem_range.1 (List.mem_filter.1 hk).1
theorem JQ {j:Nat} (hj:j<10):wH (TD (dl j)) (tid (2*j))=0∧fz (TD (dl j)) (tid (2*j))=TD (dl (j+1)):=by
 refine ⟨ug ⟨by show 1≤1;omega,by show 1≤64;omega⟩ ((ES HE (by omega)).2 (List.mem_filter.2 ⟨List.mem_range.2 (by omega),decide_eq_true (.inr (Nat.le_refl _))⟩)),?_⟩;unfold fz TD;rw [List.filter_map]
 have e1:(dl j).filter ((fun d:Dc=>decide (d.1≠tid (2*j))) ∘ tA)=(dl j).filter fun k=>decide (k≠2*j):=List.filter_congr fun k hk=>by
  show decide (tid k≠tid (2*j))=decide (k≠2*j);exact decide_eq_decide.2 ⟨fun h e=>h (by rw [e]),fun h e=>h (y9 (HE k hk) (by omega) e)⟩
 rw [e1,(by decide+kernel:∀ j,j<10→(dl j).filter (fun k=>decide (k≠2*j))=dl (j+1)) j hj]
theorem x4 {q:ByteArray} {n:Nat} (h:ks (txt TX) (txt q)=[n]):∀ l,eg (TD l) q=l.map fun k=>(tid k,(n:Int))
 |[]=>rfl
 |k::l=>by
  show (ks (txt TX) (txt q)).map (fun x=>(tid k,((x:Nat):Int)))++eg (TD l) q=_;rw [h,x4 h l];rfl
theorem GD:ks (txt TX) (txt ⟨#[115,112,111,116]⟩)=[12]:=by
 unfold txt;rw [Lib.toList_data,Lib.toList_data];decide+kernel
theorem Ko:ks (txt TX) (txt ⟨#[120]⟩)=[0]:=by
 unfold txt;rw [Lib.toList_data,Lib.toList_data];decide+kernel
theorem HZ:(sH (TD (List.range 20)) ⟨#[115,112,111,116]⟩ 1000).length=20∧sN (TD (List.range 20)) ⟨#[115,112,111,116]⟩ 1000=20∧j6 ⟨#[115,112,111,116]⟩ 1000=0:=by
 have e0:j6 ⟨#[115,112,111,116]⟩ 1000=0:=by decide
 unfold sH sN;rw [if_pos e0,if_pos e0,x4 GD,List.length_take,List.length_map];exact ⟨by decide,by decide,e0⟩
def L7:List Ht:=(List.range 7).map fun i=>(tid (2*i+1),0)
theorem u2:L7.length=7:=by decide
theorem Ka {i:Nat} (h:i<L7.length):L7[i]=(tid (2*i+1),0):=by
 simp only [L7,List.getElem_map,List.getElem_range]
theorem JP:dl 10=(List.range 10).map fun i=>2*i+1:=by decide+kernel
theorem Jn:sH (TD (dl 10)) ⟨#[120]⟩ 7=L7∧sN (TD (dl 10)) ⟨#[120]⟩ 7=10∧j6 ⟨#[120]⟩ 7=0:=by
 have e0:j6 ⟨#[120]⟩ 7=0:=by decide
 unfold sH sN;rw [if_pos e0,if_pos e0,x4 Ko,JP,List.map_map,List.length_map];exact ⟨rfl,by decide,e0⟩
theorem ny:fH prog 55=some (5,1,1,.int .u8 0):=by kernel_rfl
theorem pz:prog.underlying 5=some (.int .u8):=by kernel_rfl
theorem dt:∀ (a0:ByteArray),prog.built 37 [(0,.string a0),(1,.string ⟨#[120,32,109,97,114,107,115,32,116,104,101,32,115,112,111,116]⟩)]=some #[.string a0,.string ⟨#[120,32,109,97,114,107,115,32,116,104,101,32,115,112,111,116]⟩]:=by intros;kernel_rfl
theorem yM:az prog 24=true:=by kernel_rfl
theorem sa:az prog 25=true:=by kernel_rfl
theorem yN:az prog 19=true:=by kernel_rfl
theorem uW:∀ (a0:ByteArray),prog.built 57 [(0,.string a0)]=some #[.string a0,.int .i64 0]:=by intros;kernel_rfl
theorem uU:cG prog 25 1=some 1:=by kernel_rfl
theorem yP:fp prog 23=some false:=by kernel_rfl
theorem yK:(cN prog 23).isSome=true:=by kernel_rfl
theorem yO:az prog 16=true:=by kernel_rfl
theorem vk (A B:Option Addr) (ca cb:Nat) (ds:List Dc) (acs:List Ac) (w:World) (hS:w.ShapedOpen prog) (ha:Kd w A B ca ds acs) :
 Rt prog 9 [.agg #[.slice A ds.length ca,.slice B acs.length cb]] w (fun v w'=>v=.bool true∧aj w w'):=by
 obtain ⟨m,hm⟩:=AH hS;have hlen:=ha.len;have hlenA:=ha.lenA;refine enter (n:=119) Tryz.func9 rfl rfl rfl (af (aa (cK (v:=.agg _) rfl ?_)));intro b1 w1 E1 hb1 hk1;refine asb rfl (ah (ab (af (aa ?_))));obtain ⟨N,hN⟩:∃ N,N=(w1).heap.size:=⟨_,rfl⟩;have hNw:w.heap.size≤N:=by rw [hN];exact ((aj.rfl_.next E1)).size
 have hk1a:=hk1.from_ (aj.rfl_);have hNb:b1<N:=by rw [hN];exact hk1a.lt
 refine aF sc (s6 _) ?_;rintro v12 w2 ⟨⟨s,rfl,hsh⟩,E12⟩;rw [←hN] at hsh;replace hk1:=hk1a.from_ E12;refine mvt rfl (ae (ax rfl rfl) (ae (ax rfl rfl) (asp rfl (asi rfl (ah (ab (af (af (aa (mvi rfl (aF fN (iS _ _) ?_)))))))))));rintro v16 w3 ⟨rfl,rfl⟩;refine ae (dS (cD rfl rfl) (bne_self_eq_false _)) (mvb rfl (ao rfl (mvp rfl (ao rfl (ae (dS (oT (by kernel_rfl) rfl rfl) rfl) (ae (bk (v:=.bool _) rfl rfl) (ah (ab (de rfl ?_)))))))));refine av (ab (af (af (aa (asi rfl (ah (ab (aw (a_ (G:=Nat) [2,22,23,24,25,26,27,28,29,30,31,32,33,34,35,36,37,38,39,40,41,42] (fun i=>[(5,.int .i64 (i:Nat))]) (fun i w'=>i≤20∧eZ w' (fun k=>N≤k) s (TD (List.range i))∧Blk w' b1 25 #[.slice A ds.length ca,.slice B acs.length cb]∧aj w w') (fun i=>20-i) (0) ⟨rfl,trivial⟩ ?_ ?_)))))))))
 ·exact ⟨Nat.zero_le _,hsh.from_ aj.rfl_,hk1.from_ aj.rfl_,((aj.rfl_.next E1).next E12)⟩
 rintro i ρ4 w4 ⟨hi,hsh,hP,hB⟩;refine af (af (aa (mvi rfl (ae (aW rfl rfl) (ah (ab (JV rfl (fun Q5=>?_) (fun Q5=>?_))))))))
 ·refine av (ab (af (aw (af (af (aa (mvp rfl (mvi rfl (ae (aG (a:=97) rfl rfl (by omega)) (ae (qW dP pz rfl) (dh (t:=29) (v:=.int _ _) (v':=.int .u8 ((97+i:Nat):Int)) rfl (by rw [Nat.mod_eq_of_lt (by omega)]) ?_)))))))))));refine fy (v:=.int _ _) ny rfl rfl rfl ?_;intro b30 w6 E30 hb30 hk30;refine ae (tI (k:=97+i) (by omega) rfl (hk30.from_ aj.rfl_)) (ae (cM (l:=[(0,.tmp 31),(1,.const (.string ⟨#[120,32,109,97,114,107,115,32,116,104,101,32,115,112,111,116]⟩))]) (dt _)) ?_);have hP33:=hP.from_ ((aj.rfl_.next E30));have hsh33:=hsh.from_ ((aj.rfl_.next E30));refine aF sb (EN _ s (TD (List.range i)) _ (hsh.from_ (aj.rfl_.next E30)) (tA i) (by show 1≤140737488351232;omega) (by show 16≤140737488351232;omega)) ?_;rintro v33 w7 ⟨rfl,hs33,hC33⟩;obtain ⟨x1,x2⟩:=J3 (i:=i) (by omega);rw [x1];rw [x2] at hs33;replace hP:=hP33.chg hC33 (fun h=>by have h9:N≤b1:=h;omega);replace hsh:=hsh33.on hs33;refine aF fN (iS _ _) ?_;rintro v34 w8 ⟨rfl,rfl⟩;refine ae (dS (cD rfl rfl) (bne_self_eq_false _)) (ah (ab (de rfl (av (ab (af (aa (mvp rfl ?_))))))));have hP37:=hP.from_ (aj.rfl_);have hsh37:=hsh.from_ (aj.rfl_);refine aF yM (jb _ s _ _ (hsh.from_ aj.rfl_)) ?_;rintro v37 w9 ⟨hs37,hC37⟩;replace hP:=hP37.chg hC37 (fun h=>by have h9:N≤b1:=h;omega);replace hsh:=hsh37.on hs37;refine ah (ab (af (aa (mvi rfl (ae (mv (b:=5) rfl rfl (by omega)) (ae (cx rfl rfl) (ah (ab (JV rfl (fun Q10=>?_) (fun Q10=>?_))))))))))
  ·refine aa (mvp rfl ?_);have hP42:=hP.from_ (aj.rfl_);have hsh42:=hsh.from_ (aj.rfl_);refine aF sa (iM _ s _ _ (hsh.from_ aj.rfl_)) ?_;rintro v42 w11 ⟨hs42,hC42⟩;replace hP:=hP42.chg hC42 (fun h=>by have h9:N≤b1:=h;omega);replace hsh:=hsh42.on hs42;refine ah (aI (ab (aa (mvi rfl (ae (aG (b:=1) rfl rfl (by omega)) (asi rfl (ah ?_)))))));refine aO (i+1) ⟨(by first | rfl | (refine aK ?_;omega)),trivial⟩ (by (iterate 46 refine aB rfl ?_);exact aJ) ⟨?_,?_⟩
   ·exact ⟨by omega,hsh.from_ aj.rfl_,hP.from_ aj.rfl_,(((((((hB.next E30)).chg hC33 (fun k hk=>Nat.le_trans hNw hk))).chg hC37 (fun k hk=>Nat.le_trans hNw hk))).chg hC42 (fun k hk=>Nat.le_trans hNw hk))⟩
   ·show 20-(i+1)<20-i;omega
  refine av (aI (ab (aa (mvi rfl (ae (aG (b:=1) rfl rfl (by omega)) (asi rfl (ah ?_)))))));refine aO (i+1) ⟨(by first | rfl | (refine aK ?_;omega)),trivial⟩ (by (iterate 44 refine aB rfl ?_);exact aJ) ⟨?_,?_⟩
  ·exact ⟨by omega,hsh.from_ aj.rfl_,hP.from_ aj.rfl_,(((((hB.next E30)).chg hC33 (fun k hk=>Nat.le_trans hNw hk))).chg hC37 (fun k hk=>Nat.le_trans hNw hk))⟩
  ·show 20-(i+1)<20-i;omega
 refine bc (aC (aC (aS (ab (af (aa (mvp rfl ?_)))))));obtain rfl:i=20:=by omega
 have hP45:=hP.from_ (aj.rfl_);have hsh45:=hsh.from_ (aj.rfl_);refine aF nz (lR _ s (TD (List.range 20)) _ (hsh.from_ aj.rfl_) ⟨#[115,112,111,116]⟩ 1000 m (bx hB hm) (by decide)) ?_;rintro v45 w12 ⟨⟨A45,c45,rfl,ho45⟩,E45⟩;obtain ⟨x1,x2,x3⟩:=HZ;rw [x1,x2,x3];replace hP:=hP45.from_ E45;replace hsh:=hsh45.from_ E45;refine mvt rfl (ae (ax rfl rfl) (ae (ax rfl rfl) (ae (ax rfl rfl) (ass rfl (asi rfl (asi rfl (ah (ab (af (af (aa (mvi rfl ?_))))))))))));refine aF fN (iS _ _) ?_;rintro v50 w13 ⟨rfl,rfl⟩;refine ae (dS (cD rfl rfl) (bne_self_eq_false _)) (mvb rfl (ao rfl (mvi rfl (ao rfl (ae (dS (cD rfl rfl) rfl) (ae (bk (v:=.bool _) rfl rfl) (mvb rfl (ao rfl ?_))))))));refine mvs rfl (ao rfl (ae (aQ fw rfl) (ao rfl (ae (dS (cD rfl rfl) rfl) (ae (bk (v:=.bool _) rfl rfl) (ah (ab (de rfl (av (ab (af (af (aa ?_)))))))))))));refine asi rfl (ah (ab (aw (a_ (G:=Nat) [2,61,62,63,64,65,66,67,68,69,70,71,72,73,74,75] (fun j=>[(9,.int .i64 ((2*j:Nat):Int))]) (fun j w'=>j≤10∧eZ w' (fun k=>N≤k) s (TD (dl j))∧Blk w' b1 25 #[.slice A ds.length ca,.slice B acs.length cb]∧aj w w') (fun j=>10-j) (0) ⟨rfl,trivial⟩ ?_ ?_))))
 ·exact ⟨Nat.zero_le _,(show TD (dl 0)=TD (List.range 20) by decide+kernel) ▸ hsh.from_ aj.rfl_,hP.from_ aj.rfl_,(hB.next E45)⟩
 rintro j ρ14 w14 ⟨hj,hsh,hP,hB⟩;refine af (af (aa (mvi rfl (ae (aW rfl rfl) (ah (ab (JV rfl (fun Q15=>?_) (fun Q15=>?_))))))))
 ·refine av (ab (af (aw (af (af (aa (mvp rfl (mvi rfl (ae (aG (a:=97) rfl rfl (by omega)) (ae (qW dP pz rfl) (dh (t:=68) (v:=.int _ _) (v':=.int .u8 ((97+2*j:Nat):Int)) rfl (by rw [Nat.mod_eq_of_lt (by omega)]) ?_)))))))))));refine fy (v:=.int _ _) ny rfl rfl rfl ?_;intro b69 w16 E69 hb69 hk69;refine ae (tI (k:=97+2*j) (by omega) rfl (hk69.from_ aj.rfl_)) ?_;have hP71:=hP.from_ ((aj.rfl_.next E69));have hsh71:=hsh.from_ ((aj.rfl_.next E69));refine aF yN (BI _ s (TD (dl j)) _ (hsh.from_ (aj.rfl_.next E69)) (tid (2*j)) (by show 1≤140737488351232;omega)) ?_;rintro v71 w17 ⟨rfl,hs71,hC71⟩;obtain ⟨x1,x2⟩:=JQ (j:=j) (by omega);rw [x1];rw [x2] at hs71;replace hP:=hP71.chg hC71 (fun h=>by have h9:N≤b1:=h;omega);replace hsh:=hsh71.on hs71;refine aF fN (iS _ _) ?_;rintro v72 w18 ⟨rfl,rfl⟩;refine ae (dS (cD rfl rfl) (bne_self_eq_false _)) (ah (ab (de rfl (av (ab (aa (mvp rfl ?_)))))));have hP75:=hP.from_ (aj.rfl_);have hsh75:=hsh.from_ (aj.rfl_);refine aF sa (iM _ s _ _ (hsh.from_ aj.rfl_)) ?_;rintro v75 w19 ⟨hs75,hC75⟩;replace hP:=hP75.chg hC75 (fun h=>by have h9:N≤b1:=h;omega);replace hsh:=hsh75.on hs75;refine ah (aI (ab (aa (mvi rfl (ae (aG (b:=2) rfl rfl (by omega)) (asi rfl (ah ?_)))))));refine aO (j+1) ⟨rfl,trivial⟩ (by (iterate 34 refine aB rfl ?_);exact aJ) ⟨?_,?_⟩
  ·exact ⟨by omega,hsh.from_ aj.rfl_,hP.from_ aj.rfl_,(((((hB.next E69)).chg hC71 (fun k hk=>Nat.le_trans hNw hk))).chg hC75 (fun k hk=>Nat.le_trans hNw hk))⟩
  ·show 10-(j+1)<10-j;omega
 refine bc (aC (aC (aS (ab (af (aa (mvp rfl ?_)))))));obtain rfl:j=10:=by omega
 have hP78:=hP.from_ (aj.rfl_);refine aF nz (lR _ s (TD (dl 10)) _ (hsh.from_ aj.rfl_) ⟨#[120]⟩ 7 m (bx hB hm) (by decide)) ?_;rintro v78 w20 ⟨⟨A78,c78,rfl,ho78⟩,E78⟩;obtain ⟨x1,x2,x3⟩:=Jn;rw [x1] at ho78 ⊢;rw [x2,x3,u2];rw [u2] at ho78;have hr78:=(dg.own eV (by decide) ho78).2;replace hP:=hP78.from_ E78;refine mvt rfl (ae (ax rfl rfl) (ae (ax rfl rfl) (ae (ax rfl rfl) (ass rfl (asi rfl (asi rfl (ah (ab (af (af (aa (mvi rfl ?_))))))))))));refine aF fN (iS _ _) ?_;rintro v83 w21 ⟨rfl,rfl⟩;refine ae (dS (cD rfl rfl) (bne_self_eq_false _)) (mvb rfl (ao rfl (mvi rfl (ao rfl (ae (dS (cD rfl rfl) rfl) (ae (bk (v:=.bool _) rfl rfl) (mvb rfl (ao rfl ?_))))))));refine mvs rfl (ao rfl (ae (aQ fw rfl) (ao rfl (ae (dS (cD rfl rfl) rfl) (ae (bk (v:=.bool _) rfl rfl) (ah (ab (de rfl (av (ab (af (af (aa ?_)))))))))))));refine asi rfl (ah (ab (aw (a_ (G:=Nat) [2,94,95,96,97,98,99,100,101,102,103,104,105,106,107,108,109,110,111] (fun i=>[(10,.int .i64 (i:Nat))]) (fun i w'=>i≤7∧dg 2 hV w' A78 L7∧Blk w' b1 25 #[.slice A ds.length ca,.slice B acs.length cb]∧aj w w') (fun i=>7-i) (0) ⟨rfl,trivial⟩ ?_ ?_))))
 ·exact ⟨Nat.zero_le _,hr78.from_ aj.rfl_,hP.from_ aj.rfl_,(hB.next E78)⟩
 rintro i ρ22 w22 ⟨hi,hr78,hP,hB⟩;refine af (af (aa (mvi rfl (mvs rfl (ae (aQ fw rfl) (ae (aW rfl rfl) (ah (ab (JV rfl (fun Q23=>?_) (fun Q23=>?_))))))))))
 ·have hi7:i<L7.length:=by rw [u2];omega
  obtain ⟨b7,o7,rfl,hc7⟩:=hr78 (by rw [u2];omega);have hce:=hc7 i hi7;rw [Ka hi7] at hce;refine av (ab (af (aw (af ?_))));apply bS 12 [(100,eqp _),(101,eqp _),(102,eqp _),(103,eqp (.agg (hV (tid (2*i+1),0)).toArray)),(104,eqp _),(105,eqp _),(106,eqp _),(107,eqp (.int .u8 ((98+2*i:Nat):Int))),(108,fun v w'=>∃ g,v=.slice (some ⟨g,0,none⟩) 1 1∧Blk w' g 5 #[.int .u8 ((98+2*i:Nat):Int)]),(109,eqp (.string (tid (2*i+1)))),(110,eqp (.agg #[.string (tid (2*i+1)),.int .i64 0])),(111,eqp (.bool false))] (by repeat first | exact cy | refine cm ?_ | refine bO ?_) (by kernel_rfl) (by kernel_rfl) ⟨ag _,ag _,ag _,ag _,ag _,ag _,ag _,ag _,(fun _ _ _ hF ⟨g,h1,h2⟩=>⟨g,h1,h2.from_ hF⟩),ag _,ag _,ag _,trivial⟩
  case hop=>
   constructor
   ·rintro-w25 D25;exact ai (aq (v:=.slice _ _ _) rfl) rfl
   constructor
   ·rintro-w26 D26;exact ai (aq (v:=.int _ _) rfl) rfl
   constructor
   ·rintro-w27 D27;rintro _ rfl _ rfl;exact ai (aM fT rfl rfl (by omega)) rfl
   constructor
   ·rintro-w28 D28;rintro _ rfl;exact ai (bn (cs:=hV (tid (2*i+1),0)) gR fu rfl (du (aj.rfl_.next D28) hce)) rfl
   constructor
   ·rintro-w29 D29;exact ai (aq (v:=.int _ _) rfl) rfl
   constructor
   ·rintro-w30 D30;rintro _ rfl;exact ai (nM (a:=2) rfl rfl (by omega)) rfl
   constructor
   ·rintro-w31 D31;rintro _ rfl;exact ai (aG (a:=98) rfl rfl (by omega)) rfl
   constructor
   ·rintro-w32 D32;rintro _ rfl;exact ai (eR (qW dP pz rfl) (by rw [Nat.mod_eq_of_lt (by omega)])) rfl
   constructor
   ·rintro-w33 D33;rintro v33_107 rfl;exact fG (ql ny rfl rfl rfl) (aj.rfl_.new _) ⟨_,rfl,Blk.new _ _ _⟩
   constructor
   ·rintro-w34 D34;rintro v34_108 ⟨g108,rfl,hk108⟩;exact ai (eR (tI (k:=98+2*i) (by omega) rfl hk108) (by rw [show 98+2*i=97+(2*i+1) by omega])) rfl
   constructor
   ·rintro-w35 D35;rintro v35_109 rfl;exact ai (cM (l:=[(0,.tmp 109)]) (uW _)) rfl
   constructor
   ·rintro-w36 D36;rintro v36_103 rfl v36_110 rfl;exact ai (eR (vH (a:=(tid (2*i+1),0)) (b:=(tid (2*i+1),0)) rfl rfl) (by rw [decide_eq_true rfl];rfl)) rfl
   exact trivial
  case hend=>
   intro w37 D37;rintro _ rfl _ rfl _ rfl v103 rfl _ rfl _ rfl _ rfl v107 rfl v108 ⟨g108,rfl,hk108⟩ v109 rfl v110 rfl v111 rfl;show St ..;refine ah (ab (au rfl (fun Q38=>?_) (fun Q38=>?_)))
   ·exfalso;contradiction
   refine av (aI (ab (aa (mvi rfl (ae (aG (b:=1) rfl rfl (by omega)) (asi rfl (ah ?_)))))));refine aO (i+1) ⟨(by first | rfl | (refine aK ?_;omega)),trivial⟩ (by (iterate 39 refine aB rfl ?_);exact aJ) ⟨?_,?_⟩
   ·exact ⟨by omega,hr78.from_ (aj.rfl_.next D37),hP.from_ (aj.rfl_.next D37),(hB.next D37)⟩
   ·show 7-(i+1)<7-i;omega
 refine bc (aC (aC (aS (ab (af (aa (ae (ak uU rfl) (ae (an yP rfl (by exact (hP.from_ aj.rfl_).rd 1 rfl)) ?_))))))));refine ae (aQ yK rfl) (ae (jE (eA rfl rfl) (decide_eq_true (by omega))) (mvb rfl (ao rfl (aF yO (xu _ m (bx hB hm)) ?_))));rintro v117 w39 ⟨rfl,E117⟩;refine ae (bB (v:=.bool _) rfl rfl) (asb rfl (ah (ab (ay (bE (v:=.bool _) rfl rfl (⟨rfl,(hB.next E117)⟩))))))
theorem vl (cs:Array Value) (x:(Ty.pr (.sl wB) (.pr (.sl yx) .unit)).den) (w:World) (hS:w.ShapedOpen prog) (hs:cs.size=(Ty.pr (.sl wB) (.pr (.sl yx) .unit)).size) (h:(Ty.pr (.sl wB) (.pr (.sl yx) .unit)).At w (fun j=>cs[j]?) x) :
 Rt prog 9 [.agg cs] w fun v w'=>v=.bool true∧aj w w':=by
 obtain ⟨A,B,ca,cb,ds,acs,rfl,ha⟩:=EJ hs h;exact vk A B ca cb ds acs w hS ha
theorem ot (os:Os) (started:os.Started) (H:Type) (enc:TypeId×Value→H) :
 ReturnsInHanded {} Tryz.checked os 9 .any (Rows.shelfTiersSpec.pre6 enc prog Tryz.f9 Rows.shelfTiersRow.domain false) (Rows.shelfTiersSpec.post enc prog Tryz.f9 false true false false):=by
 refine returnsInHanded_of_change_shaped (C:=Tryz.checked) Tryz.own started (by kernel_rfl) Tryz.func9
  (ChangeSpec.witness6 (enc:=enc) (C:=Tryz.checked) false ⟨#[],#[.agg #[.slice none 0 0,.slice none 0 0]],[]⟩ 8 (by kernel_rfl) (by kernel_rfl) (by kernel_rfl) (by kernel_rfl)) ?_
 intro W base args ds gs before hval hW _ hsz hS _;exact pW 9 Tryz.f9 25 4 Rows.shelfTiersSpec Tryz.params9 (by kernel_rfl) Tryz.underlying4 rfl (fun _=>rfl) (by kernel_rfl) (dT_ (by kernel_rfl)) (mW (Ty.sl wB) (.pr (.sl yx) .unit) (by kernel_rfl) vl) W base args ds gs before hval hW hsz hS
theorem ShelfTiers_holds:Rows.ShelfTiersSaid:=
 OpenClaim.holds_of_wide 9 Tryz.f9 rfl rfl rfl rfl rfl rfl rfl ⟨rfl,rfl,rfl,rfl,rfl⟩ rfl rfl rfl rfl rfl (by kernel_rfl) Tryz.func9 (by kernel_rfl)
  (dT_ (by kernel_rfl)) (by unfold Func.isWrapper;first | (rw [if_pos (by decide+kernel)];kernel_rfl) | (rw [if_neg (by decide+kernel)];exact ⟨rfl,rfl⟩))
  (fun os started H enc _=>ot os started H enc)
end Go.Proofs.YtcbakncjacnnjaaGreat
