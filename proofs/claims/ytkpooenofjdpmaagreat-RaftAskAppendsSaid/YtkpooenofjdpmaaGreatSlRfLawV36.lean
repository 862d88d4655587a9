/- texts that the claim stands on. -/
import Derived.Test.YtkpooenofjdpmaaGreatSlRfLawV35

set_option maxRecDepth 100000
set_option maxHeartbeats 4000000
namespace Go.Proofs.YtkpooenofjdpmaaGreat
open Go.Proofs.Tryz (prog)
open Go.RowKit
open Go.ChangeShapes Go.WideShapes Go.ChangeAt
theorem dr:cD prog 32 0=some 0:=by kernel_rfl
theorem dO:cD prog 32 1=some 22:=by kernel_rfl
theorem ei:jG prog 30=some false:=by kernel_rfl
theorem gk:(ib prog 30).isSome=true:=by kernel_rfl
theorem iJ:ib prog 30=some (41,17):=by kernel_rfl
theorem lO:cD prog 41 3=some 15:=by kernel_rfl
theorem fA:cD prog 41 1=some 1:=by kernel_rfl
theorem od:aN prog 26=true:=by kernel_rfl
theorem lE {w:World} {b a:Nat} {x:Ac} (h:w.rangeAt b a (acV x)):w.rangeAt b (a+1) (bH x.m):=fun j v hv=>by
 have hj:j<13:=(List.getElem?_eq_some_iff.1 hv).1
 have h1:(acV x)[j+1]? =some v:=by
  show (bH x.m++[Value.bool x.fit,.string x.d,.int .i64 x.i])[j]? =some v;rw [List.getElem?_append_left (show j<(bH x.m).length from hj)];exact hv
 have:=h (j+1) v h1
 rwa [show a+(j+1)=a+1+j by omega] at this
theorem cr (s:Rf) (a:Ra) (LA:Option Addr) (lc:Nat) (X:List Ac) (w:World) (h:ug w s a LA X) :
 Rt prog 15 [.agg (scV s a LA X.length lc).toArray] w (fun v w'=>(∃ b,v=.bool b∧(b=false→Small s X))∧ah w w'):=by
 have z1:=h.z.sn;have z2:=h.z.pa;have z3:=h.z.es;have z4:=h.z.v;have z5:=h.z.x;have z6:=h.z.m;have z7:=h.z.n;have z8:=h.z.q;have z9:=h.z.k;have z10:=h.n;have hLl:a.L.length=s.reads.length:=by rw [←h.r.r,List.length_map]
 refine enter (n:=111) Tryz.func15 rfl rfl rfl (ak (af (bZ (v:=.agg _) rfl ?_)));intro b1 w1 E1 hb1 hk1;refine asb rfl (ai (ag (ak ?_)));apply bY 41 [(6,eqp _),(7,eqp _),(8,eqp (.string s.snap)),(9,eqp _),(10,eqp _),(11,eqp _),(12,eqp (.string s.part)),(13,eqp _),(14,eqp (.int .i64 ((s.snap.size+s.part.size:Nat):Int))),(15,eqp _),(16,eqp _),(17,eqp _),(18,eqp (.slice a.E s.es.length a.Ec)),(19,fun v _=>∃ q:Nat,v=.int .i64 (q:Nat)∧s.es.length≤q∧q≤562949953421312),(20,fun v _=>∃ q:Nat,v=.int .i64 (q:Nat)∧s.snap.size+s.part.size+s.es.length≤q∧q≤844424930123776),(21,eqp _),(22,eqp _),(23,eqp (.slice a.V s.votes.length a.Vc)),(24,eqp _),(25,fun v _=>∃ q:Nat,v=.int .i64 (q:Nat)∧s.snap.size+s.part.size+s.es.length+s.votes.length≤q∧q≤985162418475008),(26,eqp _),(27,eqp _),(28,eqp (.slice a.X s.next.length a.Xc)),(29,eqp _),(30,fun v _=>∃ q:Nat,v=.int .i64 (q:Nat)∧s.snap.size+s.part.size+s.es.length+s.votes.length+s.next.length≤q∧q≤1125899906826240),(31,eqp _),(32,eqp _),(33,eqp (.slice a.M s.mtch.length a.Mc)),(34,eqp _),(35,fun v _=>∃ q:Nat,v=.int .i64 (q:Nat)∧s.snap.size+s.part.size+s.es.length+s.votes.length+s.next.length+s.mtch.length≤q∧q≤1266637395177472),(36,eqp _),(37,eqp _),(38,eqp (.slice a.S s.sent.length a.Sc)),(39,eqp _),(40,fun v _=>∃ q:Nat,v=.int .i64 (q:Nat)∧s.snap.size+s.part.size+s.es.length+s.votes.length+s.next.length+s.mtch.length+s.sent.length≤q∧q≤1407374883528704),(41,eqp _),(42,eqp _),(43,eqp (.slice a.Q a.L.length a.Qc)),(44,eqp _),(45,fun v _=>∃ q:Nat,v=.int .i64 (q:Nat)∧s.snap.size+s.part.size+s.es.length+s.votes.length+s.next.length+s.mtch.length+s.sent.length+a.L.length≤q∧q≤1548112371879936),(3,fun v _=>∃ q:Nat,v=.int .i64 (q:Nat)∧s.snap.size+s.part.size+s.es.length+s.votes.length+s.next.length+s.mtch.length+s.sent.length+a.L.length≤q∧q≤1548112371879936)] (by repeat first | exact cB | refine cz ?_ | refine ck ?_) (by kernel_rfl) (by kernel_rfl) ⟨aj _,aj _,aj _,aj _,aj _,aj _,aj _,aj _,aj _,aj _,aj _,aj _,aj _,(fun _ _ _ _ h=>h),(fun _ _ _ _ h=>h),aj _,aj _,aj _,aj _,(fun _ _ _ _ h=>h),aj _,aj _,aj _,aj _,(fun _ _ _ _ h=>h),aj _,aj _,aj _,aj _,(fun _ _ _ _ h=>h),aj _,aj _,aj _,aj _,(fun _ _ _ _ h=>h),aj _,aj _,aj _,aj _,(fun _ _ _ _ h=>h),(fun _ _ _ _ h=>h),trivial⟩
 case hop=>
  constructor
  ·rintro-w3 D3;exact au (ab dr rfl) rfl
  constructor
  ·rintro-w4 D4;rintro _ rfl;exact au (ab dY rfl) rfl
  constructor
  ·rintro-w5 D5;rintro _ rfl;exact au (ar dc rfl (by exact (show _=some (Value.string s.snap) from (hk1.from_ (ah.rfl_.next D5)).rd 9 rfl))) rfl
  constructor
  ·rintro-w6 D6;rintro v6_8 rfl;exact au (f_ (by kernel_rfl) rfl) rfl
  constructor
  ·rintro-w7 D7;exact au (ab dr rfl) rfl
  constructor
  ·rintro-w8 D8;rintro _ rfl;exact au (ab ee rfl) rfl
  constructor
  ·rintro-w9 D9;rintro _ rfl;exact au (ar dc rfl (by exact (show _=some (Value.string s.part) from (hk1.from_ (ah.rfl_.next D9)).rd 20 rfl))) rfl
  constructor
  ·rintro-w10 D10;rintro v10_12 rfl;exact au (f_ (by kernel_rfl) rfl) rfl
  constructor
  ·rintro-w11 D11;rintro _ rfl _ rfl;exact au (dD rfl rfl (by omega)) rfl
  constructor
  ·rintro-w12 D12;exact au (ab dr rfl) rfl
  constructor
  ·rintro-w13 D13;rintro _ rfl;exact au (ab bj rfl) rfl
  constructor
  ·rintro-w14 D14;rintro _ rfl;exact au (ab cX rfl) rfl
  constructor
  ·rintro-w15 D15;rintro _ rfl;exact au (ar bk rfl (by exact (show _=some (Value.slice a.E s.es.length a.Ec) from (hk1.from_ (ah.rfl_.next D15)).rd 8 rfl))) rfl
  constructor
  ·rintro-w16 D16;rintro v16_18 rfl;refine fD qI ((mG a.E a.Ec s.es.length s.es _ (h.r.e.from_ ((ah.rfl_.next E1).next D16)) h.z.eo (by omega)).mono ?_);rintro v w2 ⟨⟨q,rfl,hp,hq⟩,rfl⟩;exact ⟨ah.rfl_,q,rfl,hp,hq⟩
  constructor
  ·rintro-w17 D17;rintro v17_14 rfl v17_19 ⟨q17,rfl,hl17,hu17⟩;exact au (dD rfl rfl (by omega)) ⟨_,rfl,by omega,by omega⟩
  constructor
  ·rintro-w18 D18;exact au (ab dr rfl) rfl
  constructor
  ·rintro-w19 D19;rintro _ rfl;exact au (ab de rfl) rfl
  constructor
  ·rintro-w20 D20;rintro _ rfl;exact au (ar bo rfl (by exact (show _=some (Value.slice a.V s.votes.length a.Vc) from (hk1.from_ (ah.rfl_.next D20)).rd 14 rfl))) rfl
  constructor
  ·rintro-w21 D21;rintro v21_23 rfl;exact au (bF cp rfl) rfl
  constructor
  ·rintro-w22 D22;rintro v22_20 ⟨q22,rfl,hl22,hu22⟩ _ rfl;exact au (dD rfl rfl (by omega)) ⟨_,rfl,by omega,by omega⟩
  constructor
  ·rintro-w23 D23;exact au (ab dr rfl) rfl
  constructor
  ·rintro-w24 D24;rintro _ rfl;exact au (ab cS rfl) rfl
  constructor
  ·rintro-w25 D25;rintro _ rfl;exact au (ar bo rfl (by exact (show _=some (Value.slice a.X s.next.length a.Xc) from (hk1.from_ (ah.rfl_.next D25)).rd 15 rfl))) rfl
  constructor
  ·rintro-w26 D26;rintro v26_28 rfl;exact au (bF cp rfl) rfl
  constructor
  ·rintro-w27 D27;rintro v27_25 ⟨q27,rfl,hl27,hu27⟩ _ rfl;exact au (dD rfl rfl (by omega)) ⟨_,rfl,by omega,by omega⟩
  constructor
  ·rintro-w28 D28;exact au (ab dr rfl) rfl
  constructor
  ·rintro-w29 D29;rintro _ rfl;exact au (ab c_ rfl) rfl
  constructor
  ·rintro-w30 D30;rintro _ rfl;exact au (ar bo rfl (by exact (show _=some (Value.slice a.M s.mtch.length a.Mc) from (hk1.from_ (ah.rfl_.next D30)).rd 16 rfl))) rfl
  constructor
  ·rintro-w31 D31;rintro v31_33 rfl;exact au (bF cp rfl) rfl
  constructor
  ·rintro-w32 D32;rintro v32_30 ⟨q32,rfl,hl32,hu32⟩ _ rfl;exact au (dD rfl rfl (by omega)) ⟨_,rfl,by omega,by omega⟩
  constructor
  ·rintro-w33 D33;exact au (ab dr rfl) rfl
  constructor
  ·rintro-w34 D34;rintro _ rfl;exact au (ab df rfl) rfl
  constructor
  ·rintro-w35 D35;rintro _ rfl;exact au (ar bo rfl (by exact (show _=some (Value.slice a.S s.sent.length a.Sc) from (hk1.from_ (ah.rfl_.next D35)).rd 17 rfl))) rfl
  constructor
  ·rintro-w36 D36;rintro v36_38 rfl;exact au (bF cp rfl) rfl
  constructor
  ·rintro-w37 D37;rintro v37_35 ⟨q37,rfl,hl37,hu37⟩ _ rfl;exact au (dD rfl rfl (by omega)) ⟨_,rfl,by omega,by omega⟩
  constructor
  ·rintro-w38 D38;exact au (ab dr rfl) rfl
  constructor
  ·rintro-w39 D39;rintro _ rfl;exact au (ab cl rfl) rfl
  constructor
  ·rintro-w40 D40;rintro _ rfl;exact au (ar ea rfl (by exact (show _=some (Value.slice a.Q a.L.length a.Qc) from (hk1.from_ (ah.rfl_.next D40)).rd 19 rfl))) rfl
  constructor
  ·rintro-w41 D41;rintro v41_43 rfl;exact au (bF fy rfl) rfl
  constructor
  ·rintro-w42 D42;rintro v42_40 ⟨q42,rfl,hl42,hu42⟩ _ rfl;exact au (dD rfl rfl (by omega)) ⟨_,rfl,by omega,by omega⟩
  constructor
  ·rintro-w43 D43;rintro v43_45 ⟨q43,rfl,hl43,hu43⟩;exact au (dt rfl) ⟨_,rfl,by omega,by omega⟩
  exact trivial
 case hend=>
  intro w44 D44;rintro _ rfl _ rfl v8 rfl _ rfl _ rfl _ rfl v12 rfl _ rfl v14 rfl _ rfl _ rfl _ rfl v18 rfl v19 ⟨q44,rfl,hl44,hu44⟩ v20 ⟨q44,rfl,hl44,hu44⟩ _ rfl _ rfl v23 rfl _ rfl v25 ⟨q44,rfl,hl44,hu44⟩ _ rfl _ rfl v28 rfl _ rfl v30 ⟨q44,rfl,hl44,hu44⟩ _ rfl _ rfl v33 rfl _ rfl v35 ⟨q44,rfl,hl44,hu44⟩ _ rfl _ rfl v38 rfl _ rfl v40 ⟨q44,rfl,hl44,hu44⟩ _ rfl _ rfl v43 rfl _ rfl v45 ⟨q44,rfl,hl44,hu44⟩ v3 ⟨q3,rfl,hl3,hu3⟩;show St ..;refine ai (ag (ak (ak (af (asi rfl (ai (ag (a_ (cY (G:=Nat×Nat) [46,47,48,49,50,51,52,53,54,55,56,57,58,59,60,61,62,63,64,65,66,67] (fun (m,k)=>[(3,.int .i64 (m:Nat)),(4,.int .i64 (k:Nat))]) (fun (m,k) w'=>k≤a.L.length∧s.snap.size+s.part.size+s.es.length+s.votes.length+s.next.length+s.mtch.length+s.sent.length+a.L.length≤m∧m≤2000000000000000∧(∀ j (h:j<a.L.length),j<k→a.L[j].1.acks.length≤m)∧Blk w' b1 32 (scV s a LA X.length lc).toArray∧ah w w') (fun (_,k)=>a.L.length-k) ((q3,0)) ⟨rfl,rfl,trivial⟩ ?_ ?_)))))))))
  ·exact ⟨Nat.zero_le _,hl3,by omega,fun j _ h=>absurd h (by omega),hk1.from_ (ah.rfl_.next D44),((ah.rfl_.next E1).next D44)⟩
  rintro ⟨m,k⟩ ρ45 w45 ⟨hk,hm1,hm2,hj1,hk1,hB⟩;refine ak (ak (af (mvi rfl (aa (ab dr rfl) (aa (ab cl rfl) (aa (ar ea rfl (by exact (show _=some (Value.slice a.Q a.L.length a.Qc) from (hk1.from_ ah.rfl_).rd 19 rfl))) ?_))))));refine aa (bF fy rfl) (aa (cg rfl rfl) (mvb rfl (AP (t:=52) rfl (fun Q46=>?_) (fun Q46=>?_))))
  ·refine ae rfl (mvi rfl (ae rfl (aa (cg rfl rfl) (aa (aG (v:=.bool _) rfl rfl) (ai (ag (Bn rfl (fun Q47=>?_) (fun Q47=>?_))))))))
   ·have hkL:k<a.L.length:=by omega
    have zk:=z9 _ (List.getElem_mem hkL);obtain ⟨ba,oa,hQe,hcs⟩:=h.r.q (by omega);have hkq:Blk w45 b1 32 (scV s { a with Q:=some ⟨ba,oa,none⟩ } LA X.length lc).toArray:=by rw [←hQe];exact hk1.from_ ah.rfl_
    refine aM (ag (ak (a_ (af (mvi rfl (aa (ab dr rfl) (aa (ab cl rfl) (aa (ar ea rfl (by exact (show _=some (Value.slice (some ⟨ba,oa,none⟩) a.L.length a.Qc) from (hkq.from_ ah.rfl_).rd 19 rfl))) ?_))))))));refine mvi rfl (aa (bq gD rfl rfl (by omega)) (aa (ab fB rfl) (aa (ar bo rfl (by exact fC hB (hcs k hkL 3 _ rfl))) ?_)));refine aa (bF cp rfl) (aa (dD rfl rfl (by omega)) (asi rfl (ai (bN (ag (af (mvi rfl (aa (bW rfl rfl (by omega)) (asi rfl (ai ?_))))))))));refine bT ((m+a.L[k].1.acks.length,k+1)) ⟨(by first | rfl | (refine bM ?_;omega)),(by first | rfl | (refine bM ?_;omega)),trivial⟩ (by (iterate 49 refine bf rfl ?_);exact bB) ⟨?_,?_⟩
    ·refine ⟨by omega,by omega,by omega,fun j h hj=>?_,hk1.from_ ah.rfl_,hB⟩;rcases Nat.lt_or_ge j k with e | e
     ·have:=hj1 j h e;omega
     ·obtain rfl:j=k:=by omega
      omega
    ·show a.L.length-(k+1)<a.L.length-k;omega
   refine cq (bg (bg (b_ (ag (ak (ak (af (asi rfl (ai (ag (a_ (cY (G:=Nat×Nat) [2,68,69,70,71,72,73,74,75,76,77,78,79,80,81,82,83,84,85,86,87,88,89,90,91,92,93,94] (fun (m2,i)=>[(3,.int .i64 (m2:Nat)),(5,.int .i64 (i:Nat))]) (fun (m2,i) w'=>i≤X.length∧m≤m2∧m2≤2000000000000000∧(∀ j (h:j<X.length),j<i→X[j].m.es.length≤200∧X[j].m.d.size≤20000∧X[j].d.size≤m2)∧Blk w' b1 32 (scV s a LA X.length lc).toArray∧ah w w') (fun (_,i)=>X.length-i) ((m,0)) ⟨rfl,rfl,trivial⟩ ?_ ?_))))))))))))
   ·exact ⟨Nat.zero_le _,Nat.le_refl _,hm2,fun j _ h=>absurd h (by omega),hk1.from_ ah.rfl_,hB⟩
   rintro ⟨m2,i⟩ ρ48 w48 ⟨hk2,hn1,hn2,hj2,hk1,hB⟩;refine ak (ak (af (mvi rfl (aa (ab dO rfl) (aa (ar ei rfl (by exact (show _=some (Value.slice LA X.length lc) from (hk1.from_ ah.rfl_).rd 22 rfl))) ?_)))));refine aa (bF gk rfl) (aa (cg rfl rfl) (mvb rfl (AP (t:=73) rfl (fun Q49=>?_) (fun Q49=>?_))))
   ·refine ae rfl (mvi rfl (ae rfl (aa (cg rfl rfl) (aa (aG (v:=.bool _) rfl rfl) (ai (ag (Bn rfl (fun Q50=>?_) (fun Q50=>?_))))))))
    ·have hkX:i<X.length:=by omega
     have hox:=h.o _ (List.getElem_mem hkX);have zk:=hox.2.2.2.2;obtain ⟨ba,oa,hQe,hcs⟩:=h.x (by omega);have hkq:Blk w48 b1 32 (scV s a (some ⟨ba,oa,none⟩) X.length lc).toArray:=by rw [←hQe];exact hk1.from_ ah.rfl_
     refine aM (ag (ak (a_ (ak (af (mvi rfl (aa (ab dO rfl) (aa (ar ei rfl (by exact (show _=some (Value.slice (some ⟨ba,oa,none⟩) X.length lc) from (hkq.from_ ah.rfl_).rd 22 rfl))) ?_))))))));refine mvi rfl (aa (bq iJ rfl rfl (by omega)) (aa (ab lO rfl) (aa (ar dc rfl (by exact fC hB (hcs i hkX 15 _ rfl))) ?_)));refine aa (f_ (by kernel_rfl) rfl) (aa (dD rfl rfl (by omega)) (asi rfl (ai (ag (ak (af (aa (ab dO rfl) (aa (ar ei rfl (by exact (show _=some (Value.slice (some ⟨ba,oa,none⟩) X.length lc) from (hkq.from_ ah.rfl_).rd 22 rfl))) ?_))))))));refine mvi rfl (aa (bq iJ rfl rfl (by omega)) (aa (ab fA rfl) (aa (aD (cs:=bH X[i].m) bh aU rfl (lE (dT hB (hcs i hkX)))) (az od (qy X[i].m _ (hox.1.from_ hB) hox.2.1 (by have:=hox.2.2.1;omega) hox.2.2.2.1) ?_))));rintro v94 w51 ⟨⟨b94,rfl,hb94⟩,E94⟩;refine ai (ag (aQ rfl (fun Q52=>?_) (fun Q52=>?_)))
     ·(try with_reducible first | (replace Q52 := dT_ Q52; trace "@MK N cr:g52+.c55-.g73+.c76+.c94+ 1.1") | (replace Q52 := dF_ Q52; trace "@MK N cr:g52+.c55-.g73+.c76+.c94+ 1.2") | (replace Q52 := dF Q52; trace "@MK N cr:g52+.c55-.g73+.c76+.c94+ 1.3") | (replace Q52 := dG Q52; trace "@MK N cr:g52+.c55-.g73+.c76+.c94+ 1.4"))
      (try with_reducible first | (replace Q52 := dT_ Q52; trace "@MK N cr:g52+.c55-.g73+.c76+.c94+ 2.1") | (replace Q52 := dF_ Q52; trace "@MK N cr:g52+.c55-.g73+.c76+.c94+ 2.2") | (replace Q52 := jv Q52; trace "@MK N cr:g52+.c55-.g73+.c76+.c94+ 2.3") | (replace Q52 := jw Q52; trace "@MK N cr:g52+.c55-.g73+.c76+.c94+ 2.4") | (replace Q52 := ek Q52; trace "@MK N cr:g52+.c55-.g73+.c76+.c94+ 2.5") | (replace Q52 := en Q52; trace "@MK N cr:g52+.c55-.g73+.c76+.c94+ 2.6"))
      refine ak (af (asb rfl (ai (ag (aC (bD (aE (aE (bD (aE (bw (v:=.bool _) rfl rfl (⟨⟨_,rfl,fun h=>by cases h⟩,(hB.next E94)⟩))))))))))))
     (try with_reducible first | (replace Q52 := dT_ Q52; trace "@MK N cr:g52+.c55-.g73+.c76+.c94- 1.1") | (replace Q52 := dF_ Q52; trace "@MK N cr:g52+.c55-.g73+.c76+.c94- 1.2") | (replace Q52 := dF Q52; trace "@MK N cr:g52+.c55-.g73+.c76+.c94- 1.3") | (replace Q52 := dG Q52; trace "@MK N cr:g52+.c55-.g73+.c76+.c94- 1.4"))
     (try with_reducible first | (replace Q52 := dT_ Q52; trace "@MK N cr:g52+.c55-.g73+.c76+.c94- 2.1") | (replace Q52 := dF_ Q52; trace "@MK N cr:g52+.c55-.g73+.c76+.c94- 2.2") | (replace Q52 := jv Q52; trace "@MK N cr:g52+.c55-.g73+.c76+.c94- 2.3") | (replace Q52 := jw Q52; trace "@MK N cr:g52+.c55-.g73+.c76+.c94- 2.4") | (replace Q52 := ek Q52; trace "@MK N cr:g52+.c55-.g73+.c76+.c94- 2.5") | (replace Q52 := en Q52; trace "@MK N cr:g52+.c55-.g73+.c76+.c94- 2.6"))
     refine aM (bN (ag (af (mvi rfl (aa (bW rfl rfl (by omega)) (asi rfl (ai ?_)))))));refine bT ((m2+X[i].d.size,i+1)) ⟨(by first | rfl | (refine bM ?_;omega)),(by first | rfl | (refine bM ?_;omega)),trivial⟩ (by (iterate 60 refine bf rfl ?_);exact bB) ⟨?_,?_⟩
     ·refine ⟨by omega,by omega,by omega,fun j h hj=>?_,hk1.from_ (ah.rfl_.next E94),(hB.next E94)⟩;rcases Nat.lt_or_ge j i with e | e
      ·have:=hj2 j h e;omega
      ·obtain rfl:j=i:=by omega
       have:=hb94 (by first | rfl | assumption | simp_all);omega
     ·show X.length-(i+1)<X.length-i;omega
    refine cq (bg (bg (b_ (ag (ak (af (mvi rfl (aa (ch rfl rfl) (mvb rfl (AP (t:=97) rfl (fun Q53=>?_) (fun Q53=>?_)))))))))))
    ·refine an rfl rfl (an rfl rfl (an rfl rfl (an rfl rfl (an rfl rfl (an rfl rfl (aa (aG (v:=.bool _) rfl rfl) (mvb rfl (an rfl rfl ?_))))))));refine an rfl rfl (an rfl rfl (an rfl rfl (aa (aG (v:=.bool _) rfl rfl) (asb rfl (ai (ag (aC (bw (v:=.bool _) rfl rfl (⟨⟨_,rfl,fun h9=>?_⟩,hB⟩)))))))))
     have hh:m2≤20000∧s.es.length≤600∧X.length≤100:=by
      first
       |(exfalso;simp at h9;done)
       |(have h8:=dF_ h9;omega)
       |(simp only [decide_eq_false_iff_not] at h9;omega)
       |(simp at h9;omega)
     have hkl:k=a.L.length:=by omega
     refine ⟨⟨by omega,by omega,by omega,by omega,by omega,fun q hq=>?_⟩,hh.2.1,hh.2.2,⟨by omega,by omega⟩,fun y hy=>?_⟩
     ·rw [←h.r.r] at hq;obtain ⟨y,hy,rfl⟩:=List.mem_map.1 hq;obtain ⟨j,hj,rfl⟩:=List.getElem_of_mem hy;have:=hj1 j hj (by omega);omega
     ·obtain ⟨j,hj,rfl⟩:=List.getElem_of_mem hy;have:=hj2 j hj (by omega);omega
    refine ae rfl (aa (ab dr rfl) (ae rfl (aa (ab bj rfl) (ae rfl (aa (ab cX rfl) (ae rfl (aa (ar bk rfl (by exact (show _=some (Value.slice a.E s.es.length a.Ec) from (hk1.from_ ah.rfl_).rd 8 rfl))) ?_)))))));refine ae rfl (aa (bF bC rfl) (ae rfl (aa (ch rfl rfl) (aa (av (v:=.bool _) rfl rfl) (mvb rfl (AP (t:=105) rfl (fun Q54=>?_) (fun Q54=>?_)))))))
    ·refine an rfl rfl (an rfl rfl (an rfl rfl (an rfl rfl (aa (aG (v:=.bool _) rfl rfl) (asb rfl (ai (ag (aC (bw (v:=.bool _) rfl rfl (⟨⟨_,rfl,fun h9=>?_⟩,hB⟩))))))))))
     have hh:m2≤20000∧s.es.length≤600∧X.length≤100:=by
      first
       |(exfalso;simp at h9;done)
       |(have h8:=dF_ h9;omega)
       |(simp only [decide_eq_false_iff_not] at h9;omega)
       |(simp at h9;omega)
     have hkl:k=a.L.length:=by omega
     refine ⟨⟨by omega,by omega,by omega,by omega,by omega,fun q hq=>?_⟩,hh.2.1,hh.2.2,⟨by omega,by omega⟩,fun y hy=>?_⟩
     ·rw [←h.r.r] at hq;obtain ⟨y,hy,rfl⟩:=List.mem_map.1 hq;obtain ⟨j,hj,rfl⟩:=List.getElem_of_mem hy;have:=hj1 j hj (by omega);omega
     ·obtain ⟨j,hj,rfl⟩:=List.getElem_of_mem hy;have:=hj2 j hj (by omega);omega
    refine ae rfl (aa (ab dO rfl) (ae rfl (aa (ar ei rfl (by exact (show _=some (Value.slice LA X.length lc) from (hk1.from_ ah.rfl_).rd 22 rfl))) ?_)));refine ae rfl (aa (bF gk rfl) (ae rfl (aa (ch rfl rfl) (aa (av (v:=.bool _) rfl rfl) (asb rfl (ai (ag (aC (bw (v:=.bool _) rfl rfl (⟨⟨_,rfl,fun h9=>?_⟩,hB⟩))))))))))
    have hh:m2≤20000∧s.es.length≤600∧X.length≤100:=by
     first
      |(exfalso;simp at h9;done)
      |(have h8:=dF_ h9;omega)
      |(simp only [decide_eq_false_iff_not] at h9;omega)
      |(simp at h9;omega)
    have hkl:k=a.L.length:=by omega
    refine ⟨⟨by omega,by omega,by omega,by omega,by omega,fun q hq=>?_⟩,hh.2.1,hh.2.2,⟨by omega,by omega⟩,fun y hy=>?_⟩
    ·rw [←h.r.r] at hq;obtain ⟨y,hy,rfl⟩:=List.mem_map.1 hq;obtain ⟨j,hj,rfl⟩:=List.getElem_of_mem hy;have:=hj1 j hj (by omega);omega
    ·obtain ⟨j,hj,rfl⟩:=List.getElem_of_mem hy;have:=hj2 j hj (by omega);omega
   refine bE rfl (ai (ag (bA rfl (cq (bg (bg (b_ (ag (ak (af (mvi rfl (aa (ch rfl rfl) (mvb rfl (AP (t:=97) rfl (fun Q55=>?_) (fun Q55=>?_)))))))))))))))
   ·refine an rfl rfl (an rfl rfl (an rfl rfl (an rfl rfl (an rfl rfl (an rfl rfl (aa (aG (v:=.bool _) rfl rfl) (mvb rfl (an rfl rfl ?_))))))));refine an rfl rfl (an rfl rfl (an rfl rfl (aa (aG (v:=.bool _) rfl rfl) (asb rfl (ai (ag (aC (bw (v:=.bool _) rfl rfl (⟨⟨_,rfl,fun h9=>?_⟩,hB⟩)))))))))
    have hh:m2≤20000∧s.es.length≤600∧X.length≤100:=by
     first
      |(exfalso;simp at h9;done)
      |(have h8:=dF_ h9;omega)
      |(simp only [decide_eq_false_iff_not] at h9;omega)
      |(simp at h9;omega)
    have hkl:k=a.L.length:=by omega
    refine ⟨⟨by omega,by omega,by omega,by omega,by omega,fun q hq=>?_⟩,hh.2.1,hh.2.2,⟨by omega,by omega⟩,fun y hy=>?_⟩
    ·rw [←h.r.r] at hq;obtain ⟨y,hy,rfl⟩:=List.mem_map.1 hq;obtain ⟨j,hj,rfl⟩:=List.getElem_of_mem hy;have:=hj1 j hj (by omega);omega
    ·obtain ⟨j,hj,rfl⟩:=List.getElem_of_mem hy;have:=hj2 j hj (by omega);omega
   refine ae rfl (aa (ab dr rfl) (ae rfl (aa (ab bj rfl) (ae rfl (aa (ab cX rfl) (ae rfl (aa (ar bk rfl (by exact (show _=some (Value.slice a.E s.es.length a.Ec) from (hk1.from_ ah.rfl_).rd 8 rfl))) ?_)))))));refine ae rfl (aa (bF bC rfl) (ae rfl (aa (ch rfl rfl) (aa (av (v:=.bool _) rfl rfl) (mvb rfl (AP (t:=105) rfl (fun Q56=>?_) (fun Q56=>?_)))))))
   ·refine an rfl rfl (an rfl rfl (an rfl rfl (an rfl rfl (aa (aG (v:=.bool _) rfl rfl) (asb rfl (ai (ag (aC (bw (v:=.bool _) rfl rfl (⟨⟨_,rfl,fun h9=>?_⟩,hB⟩))))))))))
    have hh:m2≤20000∧s.es.length≤600∧X.length≤100:=by
     first
      |(exfalso;simp at h9;done)
      |(have h8:=dF_ h9;omega)
      |(simp only [decide_eq_false_iff_not] at h9;omega)
      |(simp at h9;omega)
    have hkl:k=a.L.length:=by omega
    refine ⟨⟨by omega,by omega,by omega,by omega,by omega,fun q hq=>?_⟩,hh.2.1,hh.2.2,⟨by omega,by omega⟩,fun y hy=>?_⟩
    ·rw [←h.r.r] at hq;obtain ⟨y,hy,rfl⟩:=List.mem_map.1 hq;obtain ⟨j,hj,rfl⟩:=List.getElem_of_mem hy;have:=hj1 j hj (by omega);omega
    ·obtain ⟨j,hj,rfl⟩:=List.getElem_of_mem hy;have:=hj2 j hj (by omega);omega
   refine ae rfl (aa (ab dO rfl) (ae rfl (aa (ar ei rfl (by exact (show _=some (Value.slice LA X.length lc) from (hk1.from_ ah.rfl_).rd 22 rfl))) ?_)));refine ae rfl (aa (bF gk rfl) (ae rfl (aa (ch rfl rfl) (aa (av (v:=.bool _) rfl rfl) (asb rfl (ai (ag (aC (bw (v:=.bool _) rfl rfl (⟨⟨_,rfl,fun h9=>?_⟩,hB⟩))))))))))
   have hh:m2≤20000∧s.es.length≤600∧X.length≤100:=by
    first
     |(exfalso;simp at h9;done)
     |(have h8:=dF_ h9;omega)
     |(simp only [decide_eq_false_iff_not] at h9;omega)
     |(simp at h9;omega)
   have hkl:k=a.L.length:=by omega
   refine ⟨⟨by omega,by omega,by omega,by omega,by omega,fun q hq=>?_⟩,hh.2.1,hh.2.2,⟨by omega,by omega⟩,fun y hy=>?_⟩
   ·rw [←h.r.r] at hq;obtain ⟨y,hy,rfl⟩:=List.mem_map.1 hq;obtain ⟨j,hj,rfl⟩:=List.getElem_of_mem hy;have:=hj1 j hj (by omega);omega
   ·obtain ⟨j,hj,rfl⟩:=List.getElem_of_mem hy;have:=hj2 j hj (by omega);omega
  refine bE rfl (ai (ag (bA rfl (cq (bg (bg (b_ (ag (ak (ak (af (asi rfl (ai (ag (a_ (cY (G:=Nat×Nat) [2,68,69,70,71,72,73,74,75,76,77,78,79,80,81,82,83,84,85,86,87,88,89,90,91,92,93,94] (fun (m2,i)=>[(3,.int .i64 (m2:Nat)),(5,.int .i64 (i:Nat))]) (fun (m2,i) w'=>i≤X.length∧m≤m2∧m2≤2000000000000000∧(∀ j (h:j<X.length),j<i→X[j].m.es.length≤200∧X[j].m.d.size≤20000∧X[j].d.size≤m2)∧Blk w' b1 32 (scV s a LA X.length lc).toArray∧ah w w') (fun (_,i)=>X.length-i) ((m,0)) ⟨rfl,rfl,trivial⟩ ?_ ?_))))))))))))))))
  ·exact ⟨Nat.zero_le _,Nat.le_refl _,hm2,fun j _ h=>absurd h (by omega),hk1.from_ ah.rfl_,hB⟩
  rintro ⟨m2,i⟩ ρ57 w57 ⟨hk2,hn1,hn2,hj2,hk1,hB⟩;refine ak (ak (af (mvi rfl (aa (ab dO rfl) (aa (ar ei rfl (by exact (show _=some (Value.slice LA X.length lc) from (hk1.from_ ah.rfl_).rd 22 rfl))) ?_)))));refine aa (bF gk rfl) (aa (cg rfl rfl) (mvb rfl (AP (t:=73) rfl (fun Q58=>?_) (fun Q58=>?_))))
  ·refine ae rfl (mvi rfl (ae rfl (aa (cg rfl rfl) (aa (aG (v:=.bool _) rfl rfl) (ai (ag (Bn rfl (fun Q59=>?_) (fun Q59=>?_))))))))
   ·have hkX:i<X.length:=by omega
    have hox:=h.o _ (List.getElem_mem hkX);have zk:=hox.2.2.2.2;obtain ⟨ba,oa,hQe,hcs⟩:=h.x (by omega);have hkq:Blk w57 b1 32 (scV s a (some ⟨ba,oa,none⟩) X.length lc).toArray:=by rw [←hQe];exact hk1.from_ ah.rfl_
    refine aM (ag (ak (a_ (ak (af (mvi rfl (aa (ab dO rfl) (aa (ar ei rfl (by exact (show _=some (Value.slice (some ⟨ba,oa,none⟩) X.length lc) from (hkq.from_ ah.rfl_).rd 22 rfl))) ?_))))))));refine mvi rfl (aa (bq iJ rfl rfl (by omega)) (aa (ab lO rfl) (aa (ar dc rfl (by exact fC hB (hcs i hkX 15 _ rfl))) ?_)));refine aa (f_ (by kernel_rfl) rfl) (aa (dD rfl rfl (by omega)) (asi rfl (ai (ag (ak (af (aa (ab dO rfl) (aa (ar ei rfl (by exact (show _=some (Value.slice (some ⟨ba,oa,none⟩) X.length lc) from (hkq.from_ ah.rfl_).rd 22 rfl))) ?_))))))));refine mvi rfl (aa (bq iJ rfl rfl (by omega)) (aa (ab fA rfl) (aa (aD (cs:=bH X[i].m) bh aU rfl (lE (dT hB (hcs i hkX)))) (az od (qy X[i].m _ (hox.1.from_ hB) hox.2.1 (by have:=hox.2.2.1;omega) hox.2.2.2.1) ?_))));rintro v94 w60 ⟨⟨b94,rfl,hb94⟩,E94⟩;refine ai (ag (aQ rfl (fun Q61=>?_) (fun Q61=>?_)))
    ·(try with_reducible first | (replace Q61 := dT_ Q61; trace "@MK N cr:g52-.g73+.c76+.c94+ 1.1") | (replace Q61 := dF_ Q61; trace "@MK N cr:g52-.g73+.c76+.c94+ 1.2") | (replace Q61 := dF Q61; trace "@MK N cr:g52-.g73+.c76+.c94+ 1.3") | (replace Q61 := dG Q61; trace "@MK N cr:g52-.g73+.c76+.c94+ 1.4"))
     (try with_reducible first | (replace Q61 := dT_ Q61; trace "@MK N cr:g52-.g73+.c76+.c94+ 2.1") | (replace Q61 := dF_ Q61; trace "@MK N cr:g52-.g73+.c76+.c94+ 2.2") | (replace Q61 := jv Q61; trace "@MK N cr:g52-.g73+.c76+.c94+ 2.3") | (replace Q61 := jw Q61; trace "@MK N cr:g52-.g73+.c76+.c94+ 2.4") | (replace Q61 := ek Q61; trace "@MK N cr:g52-.g73+.c76+.c94+ 2.5") | (replace Q61 := en Q61; trace "@MK N cr:g52-.g73+.c76+.c94+ 2.6"))
     refine ak (af (asb rfl (ai (ag (aC (bD (aE (aE (bD (aE (bw (v:=.bool _) rfl rfl (⟨⟨_,rfl,fun h=>by cases h⟩,(hB.next E94)⟩))))))))))))
    (try with_reducible first | (replace Q61 := dT_ Q61; trace "@MK N cr:g52-.g73+.c76+.c94- 1.1") | (replace Q61 := dF_ Q61; trace "@MK N cr:g52-.g73+.c76+.c94- 1.2") | (replace Q61 := dF Q61; trace "@MK N cr:g52-.g73+.c76+.c94- 1.3") | (replace Q61 := dG Q61; trace "@MK N cr:g52-.g73+.c76+.c94- 1.4"))
    (try with_reducible first | (replace Q61 := dT_ Q61; trace "@MK N cr:g52-.g73+.c76+.c94- 2.1") | (replace Q61 := dF_ Q61; trace "@MK N cr:g52-.g73+.c76+.c94- 2.2") | (replace Q61 := jv Q61; trace "@MK N cr:g52-.g73+.c76+.c94- 2.3") | (replace Q61 := jw Q61; trace "@MK N cr:g52-.g73+.c76+.c94- 2.4") | (replace Q61 := ek Q61; trace "@MK N cr:g52-.g73+.c76+.c94- 2.5") | (replace Q61 := en Q61; trace "@MK N cr:g52-.g73+.c76+.c94- 2.6"))
    refine aM (bN (ag (af (mvi rfl (aa (bW rfl rfl (by omega)) (asi rfl (ai ?_)))))));refine bT ((m2+X[i].d.size,i+1)) ⟨(by first | rfl | (refine bM ?_;omega)),(by first | rfl | (refine bM ?_;omega)),trivial⟩ (by (iterate 60 refine bf rfl ?_);exact bB) ⟨?_,?_⟩
    ·refine ⟨by omega,by omega,by omega,fun j h hj=>?_,hk1.from_ (ah.rfl_.next E94),(hB.next E94)⟩;rcases Nat.lt_or_ge j i with e | e
     ·have:=hj2 j h e;omega
     ·obtain rfl:j=i:=by omega
      have:=hb94 (by first | rfl | assumption | simp_all);omega
    ·show X.length-(i+1)<X.length-i;omega
   refine cq (bg (bg (b_ (ag (ak (af (mvi rfl (aa (ch rfl rfl) (mvb rfl (AP (t:=97) rfl (fun Q62=>?_) (fun Q62=>?_)))))))))))
   ·refine an rfl rfl (an rfl rfl (an rfl rfl (an rfl rfl (an rfl rfl (an rfl rfl (aa (aG (v:=.bool _) rfl rfl) (mvb rfl (an rfl rfl ?_))))))));refine an rfl rfl (an rfl rfl (an rfl rfl (aa (aG (v:=.bool _) rfl rfl) (asb rfl (ai (ag (aC (bw (v:=.bool _) rfl rfl (⟨⟨_,rfl,fun h9=>?_⟩,hB⟩)))))))))
    have hh:m2≤20000∧s.es.length≤600∧X.length≤100:=by
     first
      |(exfalso;simp at h9;done)
      |(have h8:=dF_ h9;omega)
      |(simp only [decide_eq_false_iff_not] at h9;omega)
      |(simp at h9;omega)
    have hkl:k=a.L.length:=by omega
    refine ⟨⟨by omega,by omega,by omega,by omega,by omega,fun q hq=>?_⟩,hh.2.1,hh.2.2,⟨by omega,by omega⟩,fun y hy=>?_⟩
    ·rw [←h.r.r] at hq;obtain ⟨y,hy,rfl⟩:=List.mem_map.1 hq;obtain ⟨j,hj,rfl⟩:=List.getElem_of_mem hy;have:=hj1 j hj (by omega);omega
    ·obtain ⟨j,hj,rfl⟩:=List.getElem_of_mem hy;have:=hj2 j hj (by omega);omega
   refine ae rfl (aa (ab dr rfl) (ae rfl (aa (ab bj rfl) (ae rfl (aa (ab cX rfl) (ae rfl (aa (ar bk rfl (by exact (show _=some (Value.slice a.E s.es.length a.Ec) from (hk1.from_ ah.rfl_).rd 8 rfl))) ?_)))))));refine ae rfl (aa (bF bC rfl) (ae rfl (aa (ch rfl rfl) (aa (av (v:=.bool _) rfl rfl) (mvb rfl (AP (t:=105) rfl (fun Q63=>?_) (fun Q63=>?_)))))))
   ·refine an rfl rfl (an rfl rfl (an rfl rfl (an rfl rfl (aa (aG (v:=.bool _) rfl rfl) (asb rfl (ai (ag (aC (bw (v:=.bool _) rfl rfl (⟨⟨_,rfl,fun h9=>?_⟩,hB⟩))))))))))
    have hh:m2≤20000∧s.es.length≤600∧X.length≤100:=by
     first
      |(exfalso;simp at h9;done)
      |(have h8:=dF_ h9;omega)
      |(simp only [decide_eq_false_iff_not] at h9;omega)
      |(simp at h9;omega)
    have hkl:k=a.L.length:=by omega
    refine ⟨⟨by omega,by omega,by omega,by omega,by omega,fun q hq=>?_⟩,hh.2.1,hh.2.2,⟨by omega,by omega⟩,fun y hy=>?_⟩
    ·rw [←h.r.r] at hq;obtain ⟨y,hy,rfl⟩:=List.mem_map.1 hq;obtain ⟨j,hj,rfl⟩:=List.getElem_of_mem hy;have:=hj1 j hj (by omega);omega
    ·obtain ⟨j,hj,rfl⟩:=List.getElem_of_mem hy;have:=hj2 j hj (by omega);omega
   refine ae rfl (aa (ab dO rfl) (ae rfl (aa (ar ei rfl (by exact (show _=some (Value.slice LA X.length lc) from (hk1.from_ ah.rfl_).rd 22 rfl))) ?_)));refine ae rfl (aa (bF gk rfl) (ae rfl (aa (ch rfl rfl) (aa (av (v:=.bool _) rfl rfl) (asb rfl (ai (ag (aC (bw (v:=.bool _) rfl rfl (⟨⟨_,rfl,fun h9=>?_⟩,hB⟩))))))))))
   have hh:m2≤20000∧s.es.length≤600∧X.length≤100:=by
    first
     |(exfalso;simp at h9;done)
     |(have h8:=dF_ h9;omega)
     |(simp only [decide_eq_false_iff_not] at h9;omega)
     |(simp at h9;omega)
   have hkl:k=a.L.length:=by omega
   refine ⟨⟨by omega,by omega,by omega,by omega,by omega,fun q hq=>?_⟩,hh.2.1,hh.2.2,⟨by omega,by omega⟩,fun y hy=>?_⟩
   ·rw [←h.r.r] at hq;obtain ⟨y,hy,rfl⟩:=List.mem_map.1 hq;obtain ⟨j,hj,rfl⟩:=List.getElem_of_mem hy;have:=hj1 j hj (by omega);omega
   ·obtain ⟨j,hj,rfl⟩:=List.getElem_of_mem hy;have:=hj2 j hj (by omega);omega
  refine bE rfl (ai (ag (bA rfl (cq (bg (bg (b_ (ag (ak (af (mvi rfl (aa (ch rfl rfl) (mvb rfl (AP (t:=97) rfl (fun Q64=>?_) (fun Q64=>?_)))))))))))))))
  ·refine an rfl rfl (an rfl rfl (an rfl rfl (an rfl rfl (an rfl rfl (an rfl rfl (aa (aG (v:=.bool _) rfl rfl) (mvb rfl (an rfl rfl ?_))))))));refine an rfl rfl (an rfl rfl (an rfl rfl (aa (aG (v:=.bool _) rfl rfl) (asb rfl (ai (ag (aC (bw (v:=.bool _) rfl rfl (⟨⟨_,rfl,fun h9=>?_⟩,hB⟩)))))))))
   have hh:m2≤20000∧s.es.length≤600∧X.length≤100:=by
    first
     |(exfalso;simp at h9;done)
     |(have h8:=dF_ h9;omega)
     |(simp only [decide_eq_false_iff_not] at h9;omega)
     |(simp at h9;omega)
   have hkl:k=a.L.length:=by omega
   refine ⟨⟨by omega,by omega,by omega,by omega,by omega,fun q hq=>?_⟩,hh.2.1,hh.2.2,⟨by omega,by omega⟩,fun y hy=>?_⟩
   ·rw [←h.r.r] at hq;obtain ⟨y,hy,rfl⟩:=List.mem_map.1 hq;obtain ⟨j,hj,rfl⟩:=List.getElem_of_mem hy;have:=hj1 j hj (by omega);omega
   ·obtain ⟨j,hj,rfl⟩:=List.getElem_of_mem hy;have:=hj2 j hj (by omega);omega
  refine ae rfl (aa (ab dr rfl) (ae rfl (aa (ab bj rfl) (ae rfl (aa (ab cX rfl) (ae rfl (aa (ar bk rfl (by exact (show _=some (Value.slice a.E s.es.length a.Ec) from (hk1.from_ ah.rfl_).rd 8 rfl))) ?_)))))));refine ae rfl (aa (bF bC rfl) (ae rfl (aa (ch rfl rfl) (aa (av (v:=.bool _) rfl rfl) (mvb rfl (AP (t:=105) rfl (fun Q65=>?_) (fun Q65=>?_)))))))
  ·refine an rfl rfl (an rfl rfl (an rfl rfl (an rfl rfl (aa (aG (v:=.bool _) rfl rfl) (asb rfl (ai (ag (aC (bw (v:=.bool _) rfl rfl (⟨⟨_,rfl,fun h9=>?_⟩,hB⟩))))))))))
   have hh:m2≤20000∧s.es.length≤600∧X.length≤100:=by
    first
     |(exfalso;simp at h9;done)
     |(have h8:=dF_ h9;omega)
     |(simp only [decide_eq_false_iff_not] at h9;omega)
     |(simp at h9;omega)
   have hkl:k=a.L.length:=by omega
   refine ⟨⟨by omega,by omega,by omega,by omega,by omega,fun q hq=>?_⟩,hh.2.1,hh.2.2,⟨by omega,by omega⟩,fun y hy=>?_⟩
   ·rw [←h.r.r] at hq;obtain ⟨y,hy,rfl⟩:=List.mem_map.1 hq;obtain ⟨j,hj,rfl⟩:=List.getElem_of_mem hy;have:=hj1 j hj (by omega);omega
   ·obtain ⟨j,hj,rfl⟩:=List.getElem_of_mem hy;have:=hj2 j hj (by omega);omega
  refine ae rfl (aa (ab dO rfl) (ae rfl (aa (ar ei rfl (by exact (show _=some (Value.slice LA X.length lc) from (hk1.from_ ah.rfl_).rd 22 rfl))) ?_)));refine ae rfl (aa (bF gk rfl) (ae rfl (aa (ch rfl rfl) (aa (av (v:=.bool _) rfl rfl) (asb rfl (ai (ag (aC (bw (v:=.bool _) rfl rfl (⟨⟨_,rfl,fun h9=>?_⟩,hB⟩))))))))))
  have hh:m2≤20000∧s.es.length≤600∧X.length≤100:=by
   first
    |(exfalso;simp at h9;done)
    |(have h8:=dF_ h9;omega)
    |(simp only [decide_eq_false_iff_not] at h9;omega)
    |(simp at h9;omega)
  have hkl:k=a.L.length:=by omega
  refine ⟨⟨by omega,by omega,by omega,by omega,by omega,fun q hq=>?_⟩,hh.2.1,hh.2.2,⟨by omega,by omega⟩,fun y hy=>?_⟩
  ·rw [←h.r.r] at hq;obtain ⟨y,hy,rfl⟩:=List.mem_map.1 hq;obtain ⟨j,hj,rfl⟩:=List.getElem_of_mem hy;have:=hj1 j hj (by omega);omega
  ·obtain ⟨j,hj,rfl⟩:=List.getElem_of_mem hy;have:=hj2 j hj (by omega);omega
def eM (k:Nat) (l:List Msg):Prop:=l.length≤k∧∀ m∈l,m.es.length≤16
theorem eM.nil {k:Nat}:eM k []:=⟨Nat.zero_le _,fun m hm=>by cases hm⟩
theorem eM.tell {k:Nat} {p:Sp} (h:eM k p.out) {m:Msg} (hm:m.es.length≤16):eM (k+1) (p.tell m).out:=by
 refine ⟨by show (p.out++[_]).length≤_;rw [List.length_append,List.length_singleton];have:=h.1;omega,fun x hx=>?_⟩;rcases List.mem_append.1 hx with e | e
 ·exact h.2 x e
 ·obtain rfl:=List.mem_singleton.1 e;exact hm
theorem rW (s:Rf) (to:Int):(kQ s to).es.length≤16:=by
 unfold kQ;simp only;split
 ·exact Nat.zero_le _
 ·show ((s.es.drop _).take 16).length≤16;rw [List.length_take];omega
theorem eM.sends {k:Nat} {p:Sp} (h:eM k p.out) (l:List Int):eM (k+l.length) (p.sends l).out:=by
 rw [kP];refine ⟨by rw [List.length_append,List.length_map];have:=h.1;omega,fun x hx=>?_⟩;rcases List.mem_append.1 hx with e | e
 ·exact h.2 x e
 ·obtain ⟨y,_,rfl⟩:=List.mem_map.1 e;exact rW _ _
theorem eM.up {k j:Nat} {l:List Msg} (h:eM k l) (hj:k≤j):eM j l:=⟨Nat.le_trans h.1 hj,h.2⟩
theorem eM.all {k:Nat} {p:Sp} (h:eM k p.out) (hn:p.s.nodes≤7):eM (k+7) p.all.out:=(h.sends (dE p.s)).up (by have:=lZ p.s;omega)
theorem eM.lead {k:Nat} {p:Sp} (h:eM k p.out) (hn:p.s.nodes≤7):eM (k+7) (mI p).out:=by
 unfold mI;split
 ·exact h.up (by omega)
 ·exact eM.all (p:=⟨_,p.out⟩) h hn
theorem eM.wins {k:Nat} {p:Sp} (h:eM k p.out) (hn:p.s.nodes≤7):eM (k+7) (kC p).out:=by
 unfold kC;split
 ·exact h.lead hn
 ·exact h.up (by omega)
theorem RfF.leads {p:Sp} (h:RfF p.s):RfF (mI p).s:=by
 unfold mI;split
 ·exact h.falls h.te.2
 ·rename_i hf;have hf':ia p.s=false:=by simpa using hf
  have h1:=h.lead hf';show RfF (dB (Sp.all ⟨_,p.out⟩).s);rw [nw];exact h1.settle rfl
theorem RfF.wins {p:Sp} (h:RfF p.s):RfF (kC p).s:=by
 unfold kC;split
 ·exact h.leads
 ·exact h
theorem bm.chgT {w w':World} {tag:Nat→Nat} {s:Rf} {a:Ra} {U:Nat→Prop} (h:bm w tag s a) (hC:Chg U w w') (hU:∀ q,q<w.heap.size→U q→tag q=8∨tag q=6∨∃ j,tag q=1000+2*j):bm w' tag s a:=by
 have mv:∀ {d e s n cc:Nat} {A:Option Addr} {xs:List Value},StC d→w.ownsRow 0 e s (.slice A n cc) n xs∧Col tag d A→w'.ownsRow 0 e s (.slice A n cc) n xs∧Col tag d A:=fun hd h=>⟨eJ h.1 hC (fun k hk e=>by
  have h1:=h.2 k hk;have h8:=hd.eight;have h6:=hd.six;rcases hU k (ej h.1 k hk) e with e | e | ⟨j,e⟩
  ·omega
  ·omega
  ·have:=hd.even j;omega),h.2⟩
 exact ⟨fun hx=>mv (.inl (by decide)) (h.e hx),fun hx=>mv (.inl (by decide)) (h.v hx),fun hx=>mv (.inl (by decide)) (h.x hx),fun hx=>mv (.inl (by decide)) (h.m hx),fun hx=>mv (.inl (by decide)) (h.n hx),h.r,fun hx=>mv (.inl (by decide)) (h.q hx),fun i hi hx=>mv (.inr ⟨i,rfl⟩) (h.k i hi hx)⟩
theorem eI.chgT {w w':World} {tag:Nat→Nat} {out:List Msg} {O:Option Addr} {oc:Nat} {L:List Msg} {U:Nat→Prop} (h:eI w tag out O oc L) (hC:Chg U w w') (hU:∀ q,q<w.heap.size→U q→tag q=8∨StC (tag q)):eI w' tag out O oc L:=by
 have mv:∀ {d e s n cc:Nat} {A:Option Addr} {xs:List Value},(d=6∨∃ j,d=1000+2*j)→w.ownsRow 0 e s (.slice A n cc) n xs∧Col tag d A→w'.ownsRow 0 e s (.slice A n cc) n xs∧Col tag d A:=fun hd h=>⟨eJ h.1 hC (fun k hk e=>by
  have h1:=h.2 k hk;rcases hU k (ej h.1 k hk) e with e | e
  ·rcases hd with hd | ⟨j,hd⟩ <;> omega
  ·rcases hd with hd | ⟨j,hd⟩
   ·have:=e.six;omega
   ·have:=e.even j;omega),h.2⟩
 exact ⟨(mv (.inl rfl) ⟨h.o,h.c⟩).1,h.l,fun j hj=>mv (.inr ⟨j,rfl⟩) (h.e j hj),h.c⟩
theorem eI.len {w:World} {tag:Nat→Nat} {out:List Msg} {O:Option Addr} {oc:Nat} {L:List Msg} (h:eI w tag out O oc L):L.length=out.length:=by
 have h9:=congrArg List.length h.l;rw [List.length_map] at h9;exact h9
theorem eI.es {w:World} {tag:Nat→Nat} {out:List Msg} {O:Option Addr} {oc:Nat} {L:List Msg} {k:Nat} (h:eI w tag out O oc L) (ho:eM k out):∀ x∈L,x.es.length≤16:=fun x hx=>by
 have h1:pl x∈out:=by rw [←h.l];exact List.mem_map_of_mem hx
 exact (show (pl x).es.length≤16 from ho.2 _ h1)
theorem eI.ents {w:World} {tag:Nat→Nat} {out:List Msg} {O:Option Addr} {oc:Nat} {L:List Msg} (h:eI w tag out O oc L):∀ x∈L,bX w (.slice x.E x.es.length x.c) x.es:=fun x hx=>by
 obtain ⟨j,hj,rfl⟩:=List.getElem_of_mem hx;exact bX.of_own (h.e j hj).1 rfl
theorem zn {w:World} {tag tag':Nat→Nat} {out:List Msg} {O O':Option Addr} {oc oc':Nat} {L L':List Msg} (h:eI w tag out O oc L) (h':eI w tag' out O' oc' L') (ho:eM 1000 out) :
 Rt prog 50 [.slice O L.length oc,.slice O' L'.length oc'] w fun v w'=>v=.bool true∧ah w w':=by
 have e:=h'.len.trans h.len.symm;have hl:=h.len;have h1:=ho.1;rw [e];exact sy O O' oc oc' L.length L L' w (iE.own oD (by decide) h.o).2 (iE.own oD (by decide) h'.o).2 rfl e (h.l.trans h'.l.symm) h.ents h'.ents (fun x hx=>by have:=h.es ho x hx;omega) (by omega)
def UBs (z b4 b11:Nat):Nat→Prop:=fun q=>q=b11∨q=b4∨z≤q
theorem nf (s:Rf) (a:Ra) (w:World) (hrd:fo w s a) (hl:s.votes.length≤1000000∧s.next.length≤1000000∧s.mtch.length≤1000000∧s.sent.length≤1000000∧s.reads.length≤1000000∧∀ q∈s.reads,q.acks.length≤1000000) {b:Bool} (hm:iB s=b):Rt prog 30 [.agg (rfV s a).toArray] w fun v w'=>v=.bool b∧ah w w':=by
 subst hm;exact yR s a w hrd hl
theorem mT (i:Int) (n N:Nat) (w:World) (hn:0<n∧n≤1000) (h:wiN i n=N):Rt prog 31 [.int .i64 i,.int .i64 (n:Nat)] w fun v w'=>v=.int .i64 (N:Nat)∧w=w':=by
 subst h;exact je i n w hn
theorem sz7 {s:Rf} (hl:s.votes.length≤1000000∧s.next.length≤1000000∧s.mtch.length≤1000000∧s.sent.length≤1000000∧s.reads.length≤1000000∧∀ q∈s.reads,q.acks.length≤1000000) (hel:s.es.length≤1000000):s.es.length≤1000000∧s.votes.length≤1000000∧s.next.length≤1000000∧s.mtch.length≤1000000∧s.sent.length≤1000000∧s.reads.length≤1000000∧∀ q∈s.reads,q.acks.length≤1000000:=⟨hel,hl⟩
structure Bu (w:World) (tag:Nat→Nat) (l:List Rd) (A:Option Addr) (c:Nat) (N:List (Rd×Option Addr×Nat)):Prop where
 q:w.ownsRow 0 54 4 (.slice A N.length c) N.length (N.flatMap rdV)
 r:N.map (fun q=>q.1)=l
 k:∀ (j:Nat) (h:j<N.length),w.ownsRow 0 3 1 (.slice N[j].2.1 N[j].1.acks.length N[j].2.2) N[j].1.acks.length (N[j].1.acks.map iV)∧Col tag (1000+2*j) N[j].2.1
 c:Col tag 6 A
section
variable {w w':World} {tag:Nat→Nat} {l:List Rd} {A:Option Addr} {c:Nat} {N:List (Rd×Option Addr×Nat)}
structure BS (w:World) (l:List Rd) (A:Option Addr) (N:List (Rd×Option Addr×Nat)):Prop where
 q:iE 4 rdV w A N
 r:N.map (fun q=>q.1)=l
 k:∀ q∈N,IR w q.2.1 q.2.2 q.1.acks
end
def Sz7 (s:Rf):Prop:=s.es.length≤1000000∧s.votes.length≤1000000∧s.next.length≤1000000∧s.mtch.length≤1000000∧s.sent.length≤1000000∧s.reads.length≤1000000∧∀ q∈s.reads,q.acks.length≤1000000
theorem Sz7.settle {s:Rf} (h:Sz7 s):Sz7 (dB s):=by
 obtain ⟨h0,h1,h2,h3,h4,h5,h6⟩:=h;exact ⟨h0,h1,h2,by show (eP s.mtch s.id _).length≤_;rw [fT];exact h3,h4,h5,h6⟩
end Go.Proofs.YtkpooenofjdpmaaGreat
namespace Go.Proofs.YtkpooenofjdpmaaGreat
open Go.Proofs.Tryz (prog)
open Go.RowKit
open Go.ChangeShapes Go.WideShapes Go.ChangeAt
open Go.RowKit
theorem RfF.sz {s:Rf} (h:RfF s):Sz7 s:=by
 have hn:=h.n;have hv:=h.vl;have hl:=h.last;have h1:=h.nx.1;have h2:=h.ma.1;have h3:=h.se.1;have h0:gy s≤7:=by unfold gy;split <;> omega
 have h4:=h.rl
 exact ⟨by omega,by omega,by omega,by omega,by omega,by omega,fun q hq=>by
  have h5:=h.rd q hq;unfold g_ at h5;simp only [Bool.and_eq_true] at h5;have:=vE h5.2 hn.2;omega⟩
structure ew (p:Sp):Prop where
 s:Sz7 p.s
 o:eM 100 p.out
theorem ew.nil {s:Rf} (h:Sz7 s):ew ⟨s,[]⟩:=⟨h,eM.nil⟩
theorem ew.tell {s:Rf} {m:Msg} (h:Sz7 s) (hm:m.es.length≤16):ew (Sp.tell ⟨s,[]⟩ m):=⟨h,(eM.tell (k:=0) (p:=⟨s,[]⟩) eM.nil hm).up (by decide)⟩
theorem ew.send {s:Rf} (h:Sz7 s) (to:Int):ew (Sp.send ⟨s,[]⟩ to):=ew.tell h (rW _ _)
theorem vw {s:Rf} (h:Sz7 s) (m:Msg):ew (gr s m):=by
 unfold gr;split
 ·exact ew.tell h (Nat.zero_le _)
 ·split
  ·exact ew.tell h (Nat.zero_le _)
  ·exact ew.nil h
theorem yD {s:Rf} (h:Sz7 s) (m:Msg):ew (wx s m):=by
 unfold wx;simp only;split
 ·exact ew.tell (s:={ s with vote:=m.f,elapsed:=0 }) h (Nat.zero_le _)
 ·exact ew.tell h (Nat.zero_le _)
theorem wu {s:Rf} (h:RfF s) {m:Msg} (hf:1≤m.f∧m.f≤s.nodes):ew (tn s m):=by
 unfold tn;split
 ·have h1:=h.voted hf;have hn:=h.n;exact ⟨(RfF.wins (p:=⟨{ s with votes:=kL s.votes m.f },[]⟩) h1).sz,(eM.wins (k:=0) (p:=⟨{ s with votes:=kL s.votes m.f },[]⟩) eM.nil hn.2).up (by decide)⟩
 ·exact ew.nil h.sz
theorem vW {s:Rf} (h:RfF s) (m:Msg):ew (gg s m):=by
 unfold gg;simp only;split
 ·exact ew.nil h.sz
 ·rename_i h1;split
  ·exact ew.tell h.sz (Nat.zero_le _)
  ·rename_i h2;split
   ·exact ew.nil h.sz
   ·have h3:dL s.b s.t m.ix m.lt s.es m.es=(0,false,(dL s.b s.t m.ix m.lt s.es m.es).2.2):=by
     have e1:(dL s.b s.t m.ix m.lt s.es m.es).1=0:=Decidable.byContradiction h1;have e2:(dL s.b s.t m.ix m.lt s.es m.es).2.1=false:=by simpa using h2
     exact Prod.ext e1 (Prod.ext e2 rfl)
    have h4:=(dZ (mF h h3).2.1).2.2.2;have h5:=h.sz;exact ew.tell (s:={ s with es:=_,commit:=_ }) ⟨Nat.le_trans h4 (by decide),h5.2⟩ (Nat.zero_le _)
theorem yW {s:Rf} (h:Sz7 s) (m:Msg):ew (xj s m):=by
 unfold xj;simp only
 have h1:Sz7 (if s.partOf≠m.ix then { s with partOf:=m.ix,part:=⟨#[]⟩ } else s):=by
  split <;> exact h
 generalize (if s.partOf≠m.ix then ({ s with partOf:=m.ix,part:=⟨#[]⟩ }:Rf) else s)=a at h1 ⊢
 split
 ·exact ew.tell h (Nat.zero_le _)
 ·have h2:∀ b:Bool,Sz7 (if b=true then { a with part:=a.part++m.d } else a):=fun b=>by
   split <;> exact h1
  have h2:=h2 (decide (m.a=a.part.size)&&decide (a.part.size+m.d.size≤524288))
  generalize (if (decide (m.a=a.part.size)&&decide (a.part.size+m.d.size≤524288))=true then ({ a with part:=a.part++m.d }:Rf) else a)=c at h2 ⊢
  split
  ·refine ew.tell (s:={ c with b:=_,t:=_,es:=_,snap:=_,commit:=_,part:=_,partOf:=_ }) ⟨?_,h2.2⟩ (Nat.zero_le _);show (if _ then c.es.drop _ else []).length≤_;have:=h2.1;split
   ·rw [List.length_drop];omega
   ·exact Nat.zero_le _
  ·exact ew.tell h2 (Nat.zero_le _)
theorem zf {s:Rf} (h:RfF s) {m:Msg} (hf:1≤m.f∧m.f≤s.nodes):ew (nR s m):=by
 unfold nR;simp only;split
 ·exact ew.nil h.sz
 ·have h1:RfF (if s.role=1 then cH s s.term else s)∧(if s.role=1 then cH s s.term else s).nodes=s.nodes:=by
   split
   ·exact ⟨h.falls h.te.2,(im s s.term).2.2.2.2.1⟩
   ·exact ⟨h,rfl⟩
  generalize (if s.role=1 then cH s s.term else s)=c at h1 ⊢
  have h2:RfF { c with leader:=m.f,elapsed:=0 }:=h1.1.hear ⟨by omega,by rw [h1.2];exact hf.2⟩;split
  ·exact vW h2 m
  ·exact yW h2.sz m
theorem Sz7.put {s:Rf} (h:Sz7 s) {N M S:List Int} (h1:N.length=s.next.length) (h2:M.length=s.mtch.length) (h3:S.length=s.sent.length):Sz7 { s with next:=N,mtch:=M,sent:=S }:=by
 obtain ⟨a0,a1,a2,a3,a4,a5,a6⟩:=h;exact ⟨a0,a1,by show N.length≤_;omega,by show M.length≤_;omega,by show S.length≤_;omega,a5,a6⟩
theorem yF {s0:Rf} (h:RfF s0) {m:Msg} (hf:1≤m.f∧m.f≤s0.nodes):ew (wy s0 m):=by
 unfold wy;split
 ·exact ew.nil h.sz
 ·have hs:=(h.ack (rn:=m.rd) hf).sz;simp only
  generalize yn s0 m.f m.rd=s at hs ⊢
  split
  ·split
   ·exact ew.send (s:={ s with sent:=eP s.sent m.f m.a }) (Sz7.put hs rfl rfl (fT _ _ _)) _
   ·exact ew.nil hs
  ·split
   ·exact ew.send (s:={ s with next:=_,sent:=_ }) (Sz7.put hs (fT _ _ _) rfl (fT _ _ _)) _
   ·split
    ·have h1:∀ x y:Int,Sz7 (dB { s with mtch:=eP s.mtch m.f x,next:=eP s.next m.f y,sent:=eP s.sent m.f 0 }):=fun x y=>Sz7.settle (Sz7.put hs (fT _ _ _) (fT _ _ _) (fT _ _ _))
     split
     ·exact ew.send (h1 _ _) _
     ·exact ew.nil (h1 _ _)
    ·exact ew.nil hs
theorem yI {s:Rf} (h:RfF s) {m:Msg} (hf:1≤m.f∧m.f≤s.nodes) (ht:m.tm≤1099511627775):ew (cT s m):=by
 unfold cT;simp only
 have h1:RfF (if s.term<m.tm then cH s m.tm else s)∧(if s.term<m.tm then cH s m.tm else s).nodes=s.nodes:=by
  split
  ·exact ⟨h.falls ht,(im s m.tm).2.2.2.2.1⟩
  ·exact ⟨h,rfl⟩
 generalize (if s.term<m.tm then cH s m.tm else s)=a at h1 ⊢
 have hf':1≤m.f∧m.f≤a.nodes:=by rw [h1.2];exact hf
 split
 ·exact vw h1.1.sz m
 ·split
  ·exact yD h1.1.sz m
  ·split
   ·exact wu h1.1 hf'
   ·split
    ·exact zf h1.1 hf'
    ·exact yF h1.1 hf'
end Go.Proofs.YtkpooenofjdpmaaGreat
namespace Go.Proofs.YtkpooenofjdpmaaGreat
open Go.Proofs.Tryz (prog)
open Go.RowKit
open Go.ChangeShapes Go.WideShapes Go.ChangeAt
theorem qH:aN prog 98=true:=by kernel_rfl
theorem nC:kB prog 99=some (.agg #[.int .i64 0,.int .i64 0,.string ⟨#[]⟩]):=by kernel_rfl
def OkM (m:Msg):Prop:=OkR m.k m.f m.t m.tm m.ix m.lt m.cm m.rd m.ok m.es m.a m.d m.dn
instance (m:Msg):Decidable (OkM m):=by unfold OkM;exact inferInstance
def p9 (s:Rf) (m:Msg):Prop:=OkM m∧vK s m=true
instance (s:Rf) (m:Msg):Decidable (p9 s m):=by unfold p9;exact inferInstance
def Em (w:World) (m:Msg):Prop:=bX w (.slice m.E m.es.length m.c) m.es
theorem Em.from_ {w w':World} {m:Msg} (h:Em w m) (hF:ah w w'):Em w' m:=bX.from_ h hF
def rI (m:Msg):Prop:=∀ w:World,Em w m→Rt prog 98 [.agg (bH m).toArray] w fun v w'=>v=.int .i64 (if OkM m then 0 else 1)∧ah w w'
def yv (m:Msg):Prop:=∀ w:World,Em w m→Rt prog 88 [.agg (bH m).toArray] w fun v w'=>v=.bool (decide (OkM m))∧ah w w'
def Ez (Z:Nat→Prop) (m:Msg):Prop:=0<m.es.length→∀ k,m.E.map (·.block)=some k→Z k
theorem Em.ez {w:World} {m:Msg} (h:Em w m) {Z:Nat→Prop} (hZ:∀ k,k<w.heap.size→Z k):Ez Z m:=fun h0 k hk=>by
 obtain ⟨A',c',hv,_,_,_,hp⟩:=h;obtain ⟨b,o,hA,hb,_⟩:=hp h0;simp only [Value.slice.injEq] at hv;rw [hv.1,hA] at hk;cases hk;exact hZ b hb
theorem Em.chg {w w':World} {m:Msg} (h:Em w m) {Z:Nat→Prop} (hz:Ez Z m) (hC:Chg (fun k=>¬ Z k) w w'):Em w' m:=by
 obtain ⟨A',c',hv,h1,h2,h3,hp⟩:=h;refine ⟨A',c',hv,h1,h2,h3,fun h0=>?_⟩;obtain ⟨b,o,hA',hb,hc⟩:=hp h0;simp only [Value.slice.injEq] at hv;have hk:=hC.block b hb (fun e=>e (hz h0 b (by rw [hv.1,hA'];rfl)));have he:∀ j,w'.cell? ⟨b,j,none⟩=w.cell? ⟨b,j,none⟩:=fun j=>by unfold World.cell?;rw [hk]
 exact ⟨b,o,hA',Nat.lt_of_lt_of_le hb hC.size,fun i hi=>⟨(he _).trans (hc i hi).1,(he _).trans (hc i hi).2.1,(he _).trans (hc i hi).2.2⟩⟩
theorem rI.is {m:Msg} (hck:rI m) {w:World} (he:Em w m) {e:Int} (h:(if OkM m then (0:Int) else 1)=e):Rt prog 98 [.agg (bH m).toArray] w fun v w'=>v=.int .i64 e∧ah w w':=by
 subst h;exact hck w he
theorem yv.is {m:Msg} (hmr:yv m) {w:World} (he:Em w m) {b:Bool} (h:decide (OkM m)=b):Rt prog 88 [.agg (bH m).toArray] w fun v w'=>v=.bool b∧ah w w':=by
 subst h;exact hmr w he
theorem fu (s:Rf) (m:Msg):vK s m=true↔m.t=s.id∧m.f≠s.id∧m.f≤s.nodes∧((m.k=3∨m.k=5)→m.lt≤m.tm∧∀ e∈m.es,e.t≤m.tm):=by
 unfold vK;simp only [Bool.and_eq_true,Bool.or_eq_true,decide_eq_true_eq,List.all_eq_true,Bool.not_eq_true',Bool.or_eq_false_iff,decide_eq_false_iff_not];constructor
 ·rintro ⟨⟨⟨h1,h2⟩,h3⟩,h4⟩;exact ⟨h1,h2,h3,fun hk=>h4.elim (fun e=>by omega) (fun e=>e)⟩
 ·rintro ⟨h1,h2,h3,h4⟩;refine ⟨⟨⟨h1,h2⟩,h3⟩,?_⟩;by_cases hk:m.k=3∨m.k=5
  ·exact .inr (h4 hk)
  ·exact .inl (by omega)
theorem OkM.num {m:Msg} (h:OkM m):jF m.k m.f m.t m.tm m.ix m.lt m.cm m.rd m.a:=h.1
theorem jT {w:World} {A:Option Addr} {n c:Nat} {es:List Ent} (h:bX w (.slice A n c) es) (hn:0<es.length):∃ b o,A=some ⟨b,o,none⟩∧∀ i (hi:i<es.length),w.rangeAt b (o+i*3) [.int .i64 es[i].i,.int .i64 es[i].t,.string es[i].d]:=lD h hn
theorem ud (s:Rf) (a:Ra) (m:Msg) (w:World) (he:Em w m) (_:m.es.length≤1000000) (hck:rI m) (hok:¬ OkM m) :
 Rt prog 57 [.agg (rfV s a).toArray,.agg (bH m).toArray] w (fun v w'=>v=.bool false∧ah w w'):=by
 refine enter (n:=57) Tryz.func57 rfl rfl rfl (ak (af (bZ (v:=.agg _) rfl ?_)));intro b2 w1 E2 hb2 hk2;refine bZ (v:=.agg _) rfl ?_;intro b3 w2 E3 hb3 hk3;replace hk2:=hk2.from_ E3;refine asb rfl (ai (ag (ak (ak (af (aa (aD (cs:=bH m) bh aU rfl ((hk3.from_ ah.rfl_).whole)) (az qH (hck.is (he.from_ ((ah.rfl_.next E2).next E3)) (if_neg hok)) ?_)))))));rintro v8 w3 ⟨rfl,E8⟩;refine aa (dh (dp rfl rfl) rfl) (mvb rfl (an rfl rfl (an rfl rfl (an rfl rfl (an rfl rfl (an rfl rfl (aa (aG (v:=.bool _) rfl rfl) (mvb rfl ?_))))))));refine an rfl rfl (an rfl rfl (an rfl rfl (an rfl rfl (an rfl rfl (aa (aG (v:=.bool _) rfl rfl) (mvb rfl (an rfl rfl (an rfl rfl ?_))))))));refine an rfl rfl (an rfl rfl (an rfl rfl (aa (aG (v:=.bool _) rfl rfl) (ai (ag (aR rfl (ak (af (asb rfl (ai (ag (aC (aE ?_)))))))))))));refine bw (v:=.bool _) rfl rfl (⟨rfl,(((ah.rfl_.next E2).next E3).next E8)⟩)
theorem uc (s:Rf) (a:Ra) (m:Msg) (w:World) (he:Em w m) (hl:m.es.length≤1000000) (hck:rI m) (hok:OkM m) :
 Rt prog 57 [.agg (rfV s a).toArray,.agg (bH m).toArray] w (fun v w'=>v=.bool (vK s m)∧ah w w'):=by
 obtain ⟨Ee,hEe⟩:∃ x,x=m.E:=⟨_,rfl⟩;refine enter (n:=57) Tryz.func57 rfl rfl rfl (ak (af (bZ (v:=.agg _) rfl ?_)));intro b2 w1 E2 hb2 hk2;refine bZ (v:=.agg _) rfl ?_;intro b3 w2 E3 hb3 hk3;replace hk2:=hk2.from_ E3;refine asb rfl (ai (ag (ak (ak (af (aa (aD (cs:=bH m) bh aU rfl ((hk3.from_ ah.rfl_).whole)) (az qH (hck.is (he.from_ ((ah.rfl_.next E2).next E3)) (if_pos hok)) ?_)))))));rintro v8 w3 ⟨rfl,E8⟩;refine aa (c8 (dp rfl rfl) rfl) (mvb rfl (ae rfl (aa (ab cu rfl) (ae rfl (aa (ar ao rfl (by exact (show _=some (Value.int .i64 m.f) from (hk3.from_ (ah.rfl_.next E8)).rd 1 rfl))) ?_)))));refine ae rfl (aa (ab cf rfl) (ae rfl (aa (ar ao rfl (by exact (show _=some (Value.int .i64 s.nodes) from (hk2.from_ (ah.rfl_.next E8)).rd 1 rfl))) ?_)));refine ae rfl (aa (ch rfl rfl) (aa (av (v:=.bool _) rfl rfl) (mvb rfl (AP (t:=17) rfl (fun Q4=>?_) (fun Q4=>?_)))))
 ·refine bE rfl (ai (ag (aR rfl (ak (af (asb rfl (ai (ag (aC (aE (bw (v:=.bool _) rfl rfl (⟨congrArg Value.bool ?_,(((ah.rfl_.next E2).next E3).next E8)⟩))))))))))));rw [eq_comm,←Bool.not_eq_true,fu];rintro ⟨h1,h2,h3,-⟩;omega
 refine ae rfl (aa (ab eC rfl) (ae rfl (aa (ar ao rfl (by exact (show _=some (Value.int .i64 m.t) from (hk3.from_ (ah.rfl_.next E8)).rd 2 rfl))) ?_)));refine ae rfl (aa (ab cw rfl) (ae rfl (aa (ar ao rfl (by exact (show _=some (Value.int .i64 s.id) from (hk2.from_ (ah.rfl_.next E8)).rd 0 rfl))) ?_)));refine ae rfl (aa (dp rfl rfl) (aa (av (v:=.bool _) rfl rfl) (mvb rfl (AM (t:=24) rfl (fun Q5=>?_) (fun Q5=>?_)))))
 ·refine bE rfl (ai (ag (aR rfl (ak (af (asb rfl (ai (ag (aC (aE (bw (v:=.bool _) rfl rfl (⟨congrArg Value.bool ?_,(((ah.rfl_.next E2).next E3).next E8)⟩))))))))))));rw [eq_comm,←Bool.not_eq_true,fu];rintro ⟨h1,h2,h3,-⟩;omega
 refine ae rfl (aa (ab cu rfl) (ae rfl (aa (ar ao rfl (by exact (show _=some (Value.int .i64 m.f) from (hk3.from_ (ah.rfl_.next E8)).rd 1 rfl))) ?_)));refine ae rfl (aa (ab cw rfl) (ae rfl (aa (ar ao rfl (by exact (show _=some (Value.int .i64 s.id) from (hk2.from_ (ah.rfl_.next E8)).rd 0 rfl))) ?_)));refine ae rfl (aa (bt rfl rfl) (aa (av (v:=.bool _) rfl rfl) (ai (ag (Bn rfl (fun Q6=>?_) (fun Q6=>?_))))))
 ·refine ak (af (asb rfl (ai (ag (aC (aE (bw (v:=.bool _) rfl rfl (⟨congrArg Value.bool ?_,(((ah.rfl_.next E2).next E3).next E8)⟩))))))));rw [eq_comm,←Bool.not_eq_true,fu];rintro ⟨h1,h2,h3,-⟩;omega
 refine aM (ag (ak (ak (af (aa (ab cM rfl) (aa (ar ao rfl (by exact (show _=some (Value.int .i64 m.k) from (hk3.from_ (ah.rfl_.next E8)).rd 0 rfl))) ?_))))));refine aa (dp rfl rfl) (mvb rfl (AM (t:=34) rfl (fun Q7=>?_) (fun Q7=>?_)))
 ·refine ae rfl (aa (ab cM rfl) (ae rfl (aa (ar ao rfl (by exact (show _=some (Value.int .i64 m.k) from (hk3.from_ (ah.rfl_.next E8)).rd 0 rfl))) ?_)));refine ae rfl (aa (dp rfl rfl) (aa (aG (v:=.bool _) rfl rfl) (ai (ag (Bk rfl (fun Q8=>?_) (fun Q8=>?_))))))
  ·refine ak (af (asb rfl (ai (ag (aC (aE (bw (v:=.bool _) rfl rfl (⟨congrArg Value.bool ?_,(((ah.rfl_.next E2).next E3).next E8)⟩))))))));rw [eq_comm,fu];exact ⟨by omega,by omega,by omega,fun h=>by omega⟩
  refine aM (ag (ak (ak (af (aa (ab bS rfl) ?_)))));refine aa (ar bk rfl (by exact (show _=some (Value.slice Ee m.es.length m.c) from by rw [hEe];exact (hk3.from_ (ah.rfl_.next E8)).rd 9 rfl))) ?_;refine aa (bF bC rfl) (mvi rfl (ai (ag (a_ (cY (G:=Nat) [4,6,43,44,45,46,47,48,49,50,51] (fun i=>[(42,.int .i64 (i:Nat))]) (fun i w'=>i≤m.es.length∧(∀ j (h:j<m.es.length),j<i→m.es[j].t≤m.tm)∧Blk w' b3 39 (bH m).toArray∧ah w w') (fun i=>m.es.length-i) (0) ⟨rfl,trivial⟩ ?_ ?_)))))
  ·exact ⟨Nat.zero_le _,fun j _ h=>absurd h (Nat.not_lt_zero _),hk3.from_ (ah.rfl_.next E8),(((ah.rfl_.next E2).next E3).next E8)⟩
  rintro i ρ9 w9 ⟨hi,hj,hk3L,hB⟩;refine ak (af (aa (cg rfl rfl) (ai (ag (ak (Bn rfl (fun Q10=>?_) (fun Q10=>?_)))))))
  ·have hkX:i<m.es.length:=by omega
   obtain ⟨ba,oa,hE2,hca⟩:=jT he (by omega);obtain rfl:Ee=some ⟨ba,oa,none⟩:=hEe.trans hE2;refine aM (ag (ak (a_ (ak (af (aa (bq bU rfl rfl (by omega)) (aa (aD (cs:=[.int .i64 m.es[i].i,.int .i64 m.es[i].t,.string m.es[i].d]) jd fW rfl (dT hB (hca i hkX))) ?_)))))));have hM6:ah _ w9:=ah.rfl_;have hlt6:=(hk3L.from_ hM6).lt;refine bQ nC ?_;intro b6 w11 E6 hb6 hk6;have hg6:w.heap.size≤b6:=by rw [hb6];exact (hB).size
   have h36:b3≠b6:=by omega
   have hk3p:=hk3L.from_ (hM6.next E6);refine bK (vs:=[_,_,_]) fW rfl rfl (by simp [Value.oneCell']) (hk6) rfl ?_;intro w12 O7 P7;replace hk3p:=hk3p.only O7 h36;refine ai (ag (ak (af (aa (ab dC rfl) (aa (ar ao rfl (by exact (show _=some (Value.int .i64 m.es[i].t) from (P7.from_ ah.rfl_).rd 1 rfl))) ?_)))));refine aa (ab bJ rfl) (aa (ar ao rfl (by exact (show _=some (Value.int .i64 m.tm) from (hk3p.from_ ah.rfl_).rd 3 rfl))) ?_);refine aa (ch rfl rfl) (ai (ag (Bn rfl (fun Q13=>?_) (fun Q13=>?_))))
   ·refine ak (af (asb rfl (ai (ag (aC (bD (aE (aE (bD (aE (bw (v:=.bool _) rfl rfl (⟨congrArg Value.bool ?_,((hB.next E6).only O7 (hg6))⟩))))))))))));rw [eq_comm,←Bool.not_eq_true,fu];rintro ⟨h1,h2,h3,h4⟩;have h5:=(h4 (by omega)).2 _ (List.getElem_mem hkX);omega
   refine aM (bN (ag (af (aa (bW rfl rfl (by omega)) (mvi rfl (ai ?_))))));refine bT (i+1) ⟨(by first | rfl | (refine bM ?_;omega)),trivial⟩ (by (iterate 23 refine bf rfl ?_);exact bB) ⟨?_,?_⟩
   ·refine ⟨by omega,fun j h hj2=>?_,hk3p.from_ ah.rfl_,((hB.next E6).only O7 (hg6))⟩;rcases Nat.lt_or_ge j i with e | e
    ·exact hj j h e
    ·obtain rfl:j=i:=by omega
     omega
   ·omega
  refine cq (bg (bg (b_ (ag (ak (af (aa (ab cV rfl) (aa (ar ao rfl (by exact (show _=some (Value.int .i64 m.lt) from (hk3L.from_ ah.rfl_).rd 5 rfl))) ?_))))))));refine aa (ab bJ rfl) (aa (ar ao rfl (by exact (show _=some (Value.int .i64 m.tm) from (hk3L.from_ ah.rfl_).rd 3 rfl))) ?_);refine aa (gH rfl rfl) (asb rfl (ai (ag (aC (bw (v:=.bool _) rfl rfl (⟨congrArg Value.bool ?_,hB⟩))))));obtain rfl:i=m.es.length:=by omega
  rw [eq_comm,Bool.eq_iff_iff,fu,decide_eq_true_eq]
  exact ⟨fun h=>(h.2.2.2 (by omega)).1,fun h=>⟨by omega,by omega,by omega,fun _=>⟨h,fun e hE=>by
   obtain ⟨j,hj9,rfl⟩:=List.getElem_of_mem hE;exact hj j hj9 hj9⟩⟩⟩
 refine bE rfl (ai (ag (bA rfl (aM (ag (ak (ak (af (aa (ab bS rfl) ?_)))))))));refine aa (ar bk rfl (by exact (show _=some (Value.slice Ee m.es.length m.c) from by rw [hEe];exact (hk3.from_ (ah.rfl_.next E8)).rd 9 rfl))) ?_;refine aa (bF bC rfl) (mvi rfl (ai (ag (a_ (cY (G:=Nat) [4,6,43,44,45,46,47,48,49,50,51] (fun i=>[(42,.int .i64 (i:Nat))]) (fun i w'=>i≤m.es.length∧(∀ j (h:j<m.es.length),j<i→m.es[j].t≤m.tm)∧Blk w' b3 39 (bH m).toArray∧ah w w') (fun i=>m.es.length-i) (0) ⟨rfl,trivial⟩ ?_ ?_)))))
 ·exact ⟨Nat.zero_le _,fun j _ h=>absurd h (Nat.not_lt_zero _),hk3.from_ (ah.rfl_.next E8),(((ah.rfl_.next E2).next E3).next E8)⟩
 rintro i ρ14 w14 ⟨hi,hj,hk3L,hB⟩;refine ak (af (aa (cg rfl rfl) (ai (ag (ak (Bn rfl (fun Q15=>?_) (fun Q15=>?_)))))))
 ·have hkX:i<m.es.length:=by omega
  obtain ⟨ba,oa,hE2,hca⟩:=jT he (by omega);obtain rfl:Ee=some ⟨ba,oa,none⟩:=hEe.trans hE2;refine aM (ag (ak (a_ (ak (af (aa (bq bU rfl rfl (by omega)) (aa (aD (cs:=[.int .i64 m.es[i].i,.int .i64 m.es[i].t,.string m.es[i].d]) jd fW rfl (dT hB (hca i hkX))) ?_)))))));have hM6:ah _ w14:=ah.rfl_;have hlt6:=(hk3L.from_ hM6).lt;refine bQ nC ?_;intro b6 w16 E6 hb6 hk6;have hg6:w.heap.size≤b6:=by rw [hb6];exact (hB).size
  have h36:b3≠b6:=by omega
  have hk3p:=hk3L.from_ (hM6.next E6);refine bK (vs:=[_,_,_]) fW rfl rfl (by simp [Value.oneCell']) (hk6) rfl ?_;intro w17 O7 P7;replace hk3p:=hk3p.only O7 h36;refine ai (ag (ak (af (aa (ab dC rfl) (aa (ar ao rfl (by exact (show _=some (Value.int .i64 m.es[i].t) from (P7.from_ ah.rfl_).rd 1 rfl))) ?_)))));refine aa (ab bJ rfl) (aa (ar ao rfl (by exact (show _=some (Value.int .i64 m.tm) from (hk3p.from_ ah.rfl_).rd 3 rfl))) ?_);refine aa (ch rfl rfl) (ai (ag (Bn rfl (fun Q18=>?_) (fun Q18=>?_))))
  ·refine ak (af (asb rfl (ai (ag (aC (bD (aE (aE (bD (aE (bw (v:=.bool _) rfl rfl (⟨congrArg Value.bool ?_,((hB.next E6).only O7 (hg6))⟩))))))))))));rw [eq_comm,←Bool.not_eq_true,fu];rintro ⟨h1,h2,h3,h4⟩;have h5:=(h4 (by omega)).2 _ (List.getElem_mem hkX);omega
  refine aM (bN (ag (af (aa (bW rfl rfl (by omega)) (mvi rfl (ai ?_))))));refine bT (i+1) ⟨(by first | rfl | (refine bM ?_;omega)),trivial⟩ (by (iterate 23 refine bf rfl ?_);exact bB) ⟨?_,?_⟩
  ·refine ⟨by omega,fun j h hj2=>?_,hk3p.from_ ah.rfl_,((hB.next E6).only O7 (hg6))⟩;rcases Nat.lt_or_ge j i with e | e
   ·exact hj j h e
   ·obtain rfl:j=i:=by omega
    omega
  ·omega
 refine cq (bg (bg (b_ (ag (ak (af (aa (ab cV rfl) (aa (ar ao rfl (by exact (show _=some (Value.int .i64 m.lt) from (hk3L.from_ ah.rfl_).rd 5 rfl))) ?_))))))));refine aa (ab bJ rfl) (aa (ar ao rfl (by exact (show _=some (Value.int .i64 m.tm) from (hk3L.from_ ah.rfl_).rd 3 rfl))) ?_);refine aa (gH rfl rfl) (asb rfl (ai (ag (aC (bw (v:=.bool _) rfl rfl (⟨congrArg Value.bool ?_,hB⟩))))));obtain rfl:i=m.es.length:=by omega
 rw [eq_comm,Bool.eq_iff_iff,fu,decide_eq_true_eq]
 exact ⟨fun h=>(h.2.2.2 (by omega)).1,fun h=>⟨by omega,by omega,by omega,fun _=>⟨h,fun e hE=>by
  obtain ⟨j,hj9,rfl⟩:=List.getElem_of_mem hE;exact hj j hj9 hj9⟩⟩⟩
theorem pH (s:Rf) (a:Ra) (m:Msg) (w:World) (he:Em w m) (hl:m.es.length≤1000000) (hck:rI m) {b:Bool} (h:decide (p9 s m)=b):Rt prog 57 [.agg (rfV s a).toArray,.agg (bH m).toArray] w fun v w'=>v=.bool b∧ah w w':=by
 subst h;by_cases hok:OkM m
 ·refine (uc s a m w he hl hck hok).mono fun v w' h=>⟨h.1.trans (congrArg Value.bool ?_),h.2⟩
  rw [Bool.eq_iff_iff,decide_eq_true_eq];exact ⟨fun h=>⟨hok,h⟩,fun h=>h.2⟩
 ·exact (ud s a m w he hl hck hok).mono fun v w' h=>⟨h.1.trans (congrArg Value.bool (decide_eq_false (fun e=>hok e.1)).symm),h.2⟩
theorem jx:∀ (a0:Int) (a1:Int) (a2:Bool),prog.built 39 [(0,.int .i64 4),(8,.bool a2),(4,.int .i64 a0),(7,.int .i64 a1)]=some #[.int .i64 4,.int .i64 0,.int .i64 0,.int .i64 0,.int .i64 a0,.int .i64 0,.int .i64 0,.int .i64 a1,.bool a2,.slice none 0 0,.int .i64 0,.string ⟨#[]⟩,.bool false]:=by intros;kernel_rfl
theorem k_:prog.built 39 [(0,.int .i64 2)]=some #[.int .i64 2,.int .i64 0,.int .i64 0,.int .i64 0,.int .i64 0,.int .i64 0,.int .i64 0,.int .i64 0,.bool false,.slice none 0 0,.int .i64 0,.string ⟨#[]⟩,.bool false]:=by kernel_rfl
theorem jP:aN prog 144=true:=by kernel_rfl
theorem sK:aN prog 100=true:=by kernel_rfl
def aT (s:Rf) (m:Msg):Rf:=if s.term<m.tm then cH s m.tm else s
theorem oM {s:Rf} {m:Msg} (h:s.term<m.tm):cT s m=cT (cH s m.tm) m:=by
 have h1:=fJ s m.tm;unfold cT;simp only;rw [if_pos h,if_neg (show ¬ (cH s m.tm).term<m.tm by omega)]
theorem kN {s:Rf} {m:Msg} (h:m.tm<s.term):cT s m=gr s m:=by
 unfold cT;simp only;rw [if_neg (show ¬ s.term<m.tm by omega),if_pos h]
theorem gZ.nilL {w:World} {Z:Nat→Prop} {T g oc:Nat} {tag:Nat→Nat} {s:Rf} {a:Ra} {O:Option Addr} {L:List Msg} (h:gZ w Z T g tag ⟨s,[]⟩ a O oc L):L=[]:=List.map_eq_nil_iff.1 h.m.l
theorem oA (w0:World) (Z:Nat→Prop) (T g:Nat) (p:Sp) (m:Msg) (ok:Bool) (i:Int) (w:World) (h:aZ w0 Z w T g p) (hl:p.out.length≤900) :
 Rt prog 144 [.pointer (some ⟨g,0,none⟩),.agg (bH m).toArray,.bool ok,.int .i64 i] w (fun v w'=>v=.tuple #[]∧aZ w0 Z w' T g (mn p m ok i)):=by
 refine enter (n:=17) Tryz.func144 rfl rfl rfl (ak (af (bZ (v:=.agg _) rfl ?_)));intro b5 w1 E5 hb5 hk5;obtain ⟨wm,hwm⟩:∃ x,x=w1:=⟨_,rfl⟩
 have h3a:=h.at_ (Z':=fun k=>Z k∨k=b5) E5 (fun k hk=>by
  rcases hk with e | e
  ·exact ⟨Nat.lt_of_lt_of_le (h.zw k e) E5.size,.inl e⟩
  ·subst e;exact ⟨hk5.lt,.inr (by omega)⟩)
 obtain ⟨Z7,hZ7⟩:∃ Z7,Z7=fun k=>Z k∨k=b5:=⟨_,rfl⟩
 have h3:aZ wm Z7 w1 T g p:=by
  rw [hZ7,hwm];exact h3a
 have hzi:∀ k,Z k→Z7 k:=fun k hk=>by rw [hZ7];exact .inl hk
 have hzb:Z7 b5:=by rw [hZ7];exact .inr rfl
 have hE3:ah w wm:=by rw [hwm];exact E5
 have hm9:Blk wm b5 39 (bH m).toArray:=by rw [hwm];exact hk5
 have hm3:=h3.kept hzb hm9;refine ai (ag (af (mvp rfl (aa (ab cu rfl) (aa (ar ao rfl (by exact (show _=some (Value.int .i64 m.f) from (hm3.from_ ah.rfl_).rd 1 rfl))) ?_)))));refine mvb rfl (mvi rfl (aa (ab d_ rfl) (aa (ar ao rfl (by exact (show _=some (Value.int .i64 m.rd) from (hm3.from_ ah.rfl_).rd 7 rfl))) ?_)));refine aa (cy (l:=[(0,.const (.int .i64 4)),(8,.tmp 11),(4,.tmp 12),(7,.tmp 14)]) (jx _ _ _)) (dP (t:=15) (v:=.agg _) (v':=.agg (bH ({ zM with k:=4,ok:=ok,ix:=i,rd:=m.rd }:Msg)).toArray) rfl (by rfl) ?_);have h4:=h3.from_ ah.rfl_;obtain ⟨tgA,aA,OA,ocA,LA,hsA⟩:=h4.ex;have hlA:=hsA.m.len;refine az iI (o8 wm Z7 T g p _ h4 _ _ _ _ _ hsA (by omega) { zM with k:=4,ok:=ok,ix:=i,rd:=m.rd } m.f ⟨dS,Col.none⟩) ?_;rintro v16 w2 ⟨rfl,h6⟩;refine ai (du (eB rfl (⟨rfl,h.back hE3 (h6.from_ ah.rfl_) hzi⟩)))
theorem vx (w0:World) (Z:Nat→Prop) (T g:Nat) (s:Rf) (m:Msg) (w:World) (h:aZ w0 Z w T g ⟨s,[]⟩) :
 Rt prog 100 [.pointer (some ⟨g,0,none⟩),.agg (bH m).toArray] w (fun v w'=>v=.tuple #[]∧aZ w0 Z w' T g (gr s m)):=by
 refine enter (n:=19) Tryz.func100 rfl rfl rfl (ak (af (bZ (v:=.agg _) rfl ?_)));intro b3 w1 E3 hb3 hk3;obtain ⟨wm,hwm⟩:∃ x,x=w1:=⟨_,rfl⟩
 have h3a:=h.at_ (Z':=fun k=>Z k∨k=b3) E3 (fun k hk=>by
  rcases hk with e | e
  ·exact ⟨Nat.lt_of_lt_of_le (h.zw k e) E3.size,.inl e⟩
  ·subst e;exact ⟨hk3.lt,.inr (by omega)⟩)
 obtain ⟨Z7,hZ7⟩:∃ Z7,Z7=fun k=>Z k∨k=b3:=⟨_,rfl⟩
 have h3:aZ wm Z7 w1 T g ⟨s,[]⟩:=by
  rw [hZ7,hwm];exact h3a
 have hzi:∀ k,Z k→Z7 k:=fun k hk=>by rw [hZ7];exact .inl hk
 have hzb:Z7 b3:=by rw [hZ7];exact .inr rfl
 have hE3:ah w wm:=by rw [hwm];exact E3
 have hm9:Blk wm b3 39 (bH m).toArray:=by rw [hwm];exact hk3
 have hm3:=h3.kept hzb hm9;refine ai (ag (ak (af (aa (ab cM rfl) (aa (ar ao rfl (by exact (show _=some (Value.int .i64 m.k) from (hm3.from_ ah.rfl_).rd 0 rfl))) ?_)))));refine ai (ag (a_ (ak (af (aa (bt rfl rfl) (asb rfl (ai (ag (Bm rfl (fun Q2=>?_) (fun Q2=>?_))))))))))
 ·refine af (mvp rfl (aa (ab cu rfl) (aa (ar ao rfl (by exact (show _=some (Value.int .i64 m.f) from (hm3.from_ ah.rfl_).rd 1 rfl))) ?_)));refine aa (cy (l:=[(0,.const (.int .i64 2))]) (k_)) (dP (t:=11) (v:=.agg _) (v':=.agg (bH ({ zM with k:=2 }:Msg)).toArray) rfl (by rfl) ?_);have h4:=h3.from_ ah.rfl_;obtain ⟨tgA,aA,OA,ocA,LA,hsA⟩:=h4.ex;obtain rfl:=hsA.nilL;refine az iI (o8 wm Z7 T g ⟨s,[]⟩ _ h4 _ _ _ _ _ hsA (Nat.zero_le _) { zM with k:=2 } m.f ⟨dS,Col.none⟩) ?_;rintro v12 w3 ⟨rfl,h6⟩;refine ai (bN (du (eB rfl ?_)));unfold gr
  first
   |(rw [if_pos (show m.k=1 by omega)];exact ⟨rfl,h.back hE3 (h6.from_ ah.rfl_) hzi⟩)
   |(rw [if_neg (show ¬ m.k=1 by omega),if_pos (show m.k=3∨m.k=5 by omega)];exact ⟨rfl,h.back hE3 (h6.from_ ah.rfl_) hzi⟩)
   |(rw [if_neg (show ¬ m.k=1 by omega),if_neg (show ¬ (m.k=3∨m.k=5) by omega)];exact ⟨rfl,h.from_ (E3.next ah.rfl_)⟩)
 refine ak (ak (af (aa (bt rfl rfl) (asb rfl (ai (ag (Bm rfl (fun Q4=>?_) (fun Q4=>?_))))))))
 ·refine aM (ag (Bm rfl (fun Q5=>?_) (fun Q5=>?_)));rotate_left
  ·exfalso;omega
  refine af (mvp rfl (aa (aD (cs:=bH m) bh aU rfl ((hm3.from_ ah.rfl_).whole)) (az jP (oA wm Z7 T g ⟨s,[]⟩ m false 0 _ (h3.from_ ah.rfl_) (Nat.zero_le _)) ?_)));rintro v18 w6 ⟨rfl,h6⟩;refine ai (bN (du (eB rfl ?_)));unfold gr
  first
   |(rw [if_pos (show m.k=1 by omega)];exact ⟨rfl,h.back hE3 (h6.from_ ah.rfl_) hzi⟩)
   |(rw [if_neg (show ¬ m.k=1 by omega),if_pos (show m.k=3∨m.k=5 by omega)];exact ⟨rfl,h.back hE3 (h6.from_ ah.rfl_) hzi⟩)
   |(rw [if_neg (show ¬ m.k=1 by omega),if_neg (show ¬ (m.k=3∨m.k=5) by omega)];exact ⟨rfl,h.from_ (E3.next ah.rfl_)⟩)
 refine af (aa (bt rfl rfl) (asb rfl (ai (ag (Bm rfl (fun Q7=>?_) (fun Q7=>?_))))))
 ·refine af (mvp rfl (aa (aD (cs:=bH m) bh aU rfl ((hm3.from_ ah.rfl_).whole)) (az jP (oA wm Z7 T g ⟨s,[]⟩ m false 0 _ (h3.from_ ah.rfl_) (Nat.zero_le _)) ?_)));rintro v18 w8 ⟨rfl,h6⟩;refine ai (bN (du (eB rfl ?_)));unfold gr
  first
   |(rw [if_pos (show m.k=1 by omega)];exact ⟨rfl,h.back hE3 (h6.from_ ah.rfl_) hzi⟩)
   |(rw [if_neg (show ¬ m.k=1 by omega),if_pos (show m.k=3∨m.k=5 by omega)];exact ⟨rfl,h.back hE3 (h6.from_ ah.rfl_) hzi⟩)
   |(rw [if_neg (show ¬ m.k=1 by omega),if_neg (show ¬ (m.k=3∨m.k=5) by omega)];exact ⟨rfl,h.from_ (E3.next ah.rfl_)⟩)
 refine aM (bN (du (eB rfl ?_)));unfold gr
 first
  |(rw [if_pos (show m.k=1 by omega)];exact ⟨rfl,h.back hE3 (h6.from_ ah.rfl_) hzi⟩)
  |(rw [if_neg (show ¬ m.k=1 by omega),if_pos (show m.k=3∨m.k=5 by omega)];exact ⟨rfl,h.back hE3 (h6.from_ ah.rfl_) hzi⟩)
  |(rw [if_neg (show ¬ m.k=1 by omega),if_neg (show ¬ (m.k=3∨m.k=5) by omega)];exact ⟨rfl,h.from_ (E3.next ah.rfl_)⟩)
theorem zY (w0:World) (Z:Nat→Prop) (T g:Nat) (s:Rf) (m:Msg) (w:World) (h:aZ w0 Z w T g ⟨s,[]⟩) (hgt:m.tm<s.term) :
 Rt prog 58 [.pointer (some ⟨g,0,none⟩),.agg (bH m).toArray] w (fun v w'=>v=.tuple #[]∧aZ w0 Z w' T g (cT s m)):=by
 refine enter (n:=55) Tryz.func58 rfl rfl rfl (ak (af (bZ (v:=.agg _) rfl ?_)));intro b3 w1 E3 hb3 hk3;obtain ⟨wm,hwm⟩:∃ x,x=w1:=⟨_,rfl⟩
 have h3a:=h.at_ (Z':=fun k=>Z k∨k=b3) E3 (fun k hk=>by
  rcases hk with e | e
  ·exact ⟨Nat.lt_of_lt_of_le (h.zw k e) E3.size,.inl e⟩
  ·subst e;exact ⟨hk3.lt,.inr (by omega)⟩)
 obtain ⟨Z7,hZ7⟩:∃ Z7,Z7=fun k=>Z k∨k=b3:=⟨_,rfl⟩
 have h3:aZ wm Z7 w1 T g ⟨s,[]⟩:=by
  rw [hZ7,hwm];exact h3a
 have hzi:∀ k,Z k→Z7 k:=fun k hk=>by rw [hZ7];exact .inl hk
 have hzb:Z7 b3:=by rw [hZ7];exact .inr rfl
 have hE3:ah w wm:=by rw [hwm];exact E3
 have hm9:Blk wm b3 39 (bH m).toArray:=by rw [hwm];exact hk3
 have hm3:=h3.kept hzb hm9;refine ai (ag (ak (ak ?_)))
 skip
 apply bY 9 [(4,eqp _),(5,eqp (.int .i64 m.tm)),(6,eqp _),(7,eqp _),(8,eqp _),(9,eqp _),(10,eqp _),(11,eqp (.int .i64 s.term)),(12,eqp _)] (by repeat first | exact cB | refine cz ?_ | refine ck ?_) (by kernel_rfl) (by kernel_rfl) ⟨aj _,aj _,aj _,aj _,aj _,aj _,aj _,aj _,aj _,trivial⟩
 case hop=>
  constructor
  ·rintro-w3 D3;exact au (ab bJ rfl) rfl
  constructor
  ·rintro-w4 D4;rintro _ rfl;exact au (ar ao rfl (by exact (show _=some (Value.int .i64 m.tm) from (hm3.from_ (ah.rfl_.next D4)).rd 3 rfl))) rfl
  constructor
  ·rintro-w5 D5;exact au (aK (v:=.pointer _) rfl) rfl
  constructor
  ·rintro-w6 D6;rintro _ rfl;exact au (aw rfl) rfl
  constructor
  ·rintro-w7 D7;rintro _ rfl;exact au (ab aH rfl) rfl
  constructor
  ·rintro-w8 D8;rintro _ rfl;exact au (ab aB rfl) rfl
  constructor
  ·rintro-w9 D9;rintro _ rfl;exact au (ab bL rfl) rfl
  constructor
  ·rintro-w10 D10;rintro _ rfl;exact au (ar ao rfl (by exact (show _=some (Value.int .i64 s.term) from (h3.from_ (ah.rfl_.next D10)).rd (fun _=>rfl)))) rfl
  constructor
  ·rintro-w11 D11;rintro v11_5 rfl v11_11 rfl;exact au (c8 (ch rfl rfl) (decide_eq_false (by omega))) rfl
  exact trivial
 case hend=>
  intro w12 D12;rintro _ rfl v5 rfl _ rfl _ rfl _ rfl _ rfl _ rfl v11 rfl _ rfl;show St ..;refine ai (ag (bA rfl (aM (ag (ak (ak ?_))))))
  skip
  apply bY 9 [(19,eqp _),(20,eqp (.int .i64 m.tm)),(21,eqp _),(22,eqp _),(23,eqp _),(24,eqp _),(25,eqp _),(26,eqp (.int .i64 s.term)),(27,eqp _)] (by repeat first | exact cB | refine cz ?_ | refine ck ?_) (by kernel_rfl) (by kernel_rfl) ⟨aj _,aj _,aj _,aj _,aj _,aj _,aj _,aj _,aj _,trivial⟩
  case hop=>
   constructor
   ·rintro-w14 D14;exact au (ab bJ rfl) rfl
   constructor
   ·rintro-w15 D15;rintro _ rfl;exact au (ar ao rfl (by exact (show _=some (Value.int .i64 m.tm) from ((h3.kept hzb hm9).from_ ((ah.rfl_.next D12).next D15)).rd 3 rfl))) rfl
   constructor
   ·rintro-w16 D16;exact au (aK (v:=.pointer _) rfl) rfl
   constructor
   ·rintro-w17 D17;rintro _ rfl;exact au (aw rfl) rfl
   constructor
   ·rintro-w18 D18;rintro _ rfl;exact au (ab aH rfl) rfl
   constructor
   ·rintro-w19 D19;rintro _ rfl;exact au (ab aB rfl) rfl
   constructor
   ·rintro-w20 D20;rintro _ rfl;exact au (ab bL rfl) rfl
   constructor
   ·rintro-w21 D21;rintro _ rfl;exact au (ar ao rfl (by exact (show _=some (Value.int .i64 s.term) from (h3.from_ ((ah.rfl_.next D12).next D21)).rd (fun _=>rfl)))) rfl
   constructor
   ·rintro-w22 D22;rintro v22_20 rfl v22_26 rfl;exact au (dh (cg rfl rfl) (decide_eq_true hgt)) rfl
   exact trivial
  case hend=>
   intro w23 D23;rintro _ rfl v20 rfl _ rfl _ rfl _ rfl _ rfl _ rfl v26 rfl _ rfl;show St ..;refine ai (ag (aR rfl (ak (af (mvp rfl (aa (aD (cs:=bH m) bh aU rfl (((h3.kept hzb hm9).from_ ((ah.rfl_.next D12).next D23)).whole)) (az sK (vx wm Z7 T g s m _ (h3.from_ ((ah.rfl_.next D12).next D23))) ?_)))))));rintro v30 w24 ⟨rfl,h6⟩;refine ai (ag (aC (aE (eB rfl ?_))));rw [kN hgt];exact ⟨rfl,h.back hE3 (h6.from_ ah.rfl_) hzi⟩
def Bv (s:Rf) (i:Int) (d:ByteArray):Prop:=(s.b<i∧i≤s.commit∧i≤1099511625728)∧d.size≤524288
instance (s:Rf) (i:Int) (d:ByteArray):Decidable (Bv s i d):=by unfold Bv;exact inferInstance
section
variable {P:Program} {ops:Array Oper} {Q:Exit→Act→World→Prop} {rest:List Oper} {n:Fr} {L:List (Nat×Value)} {w w0 wa:World} {Z:Nat→Prop} {ty:TypeId} {pos:String} {after:Array Edge} {t:TypeId} {s x y:Operand} {T g:Nat} {p:Sp}
theorem oR {b t9:Int} {E:Option Addr} {n9 c:Nat} {es:List Ent} (hn:n9=es.length) (ht:ef P t=some 3) (hx:ev n L x=.pointer (some ⟨g,6,none⟩)) (hy:ev n L y=.agg #[.int .i64 b,.int .i64 t9,.slice E n9 c]) (h:aZ w0 Z wa T g p) (hF:ah wa w) (ho:w.ownsRow wa.heap.size 99 3 (.slice E n9 c) n9 (cN es))
 (kk:∀ w',aZ w0 Z w' T g ⟨{ p.s with b:=b,t:=t9,es:=es },p.out⟩→St P ops Q rest n L w'):St P ops Q (⟨none,.store t x y,ty,pos,after,none⟩::rest) n L w:=by
 obtain ⟨tag,a,O,oc,L1,hs⟩:=h.ex;exact m_ hn ht hx hy (hs.b.from_ hF) fun w' o hb=>kk w' ((h.put hs (ah.toChg hF) (.inl (by decide)) ((hs.f.but (c:=0) (ah.toChg hF)).log b t9 hn (ec ho (Nat.zero_le _)) (fun q hq=>dQ (eN ho q hq).1)) (o.toChg rfl) hb).2)
end
end Go.Proofs.YtkpooenofjdpmaaGreat
namespace Go.Proofs.YtkpooenofjdpmaaGreat
open Go.Proofs.Tryz (prog)
open Go.RowKit
open Go.ChangeShapes Go.WideShapes Go.ChangeAt
def cR (s:Rf):Rf:=if s.role=1 then cH s s.term else s
def dR (s:Rf) (m:Msg):Rf:={ cR s with leader:=m.f,elapsed:=0 }
theorem BF {s:Rf} (h:RfF s):RfF (cR s):=by
 unfold cR;split
 ·exact h.falls h.te.2
 ·exact h
theorem AD (s:Rf):(cR s).nodes=s.nodes∧(cR s).id=s.id:=by
 unfold cR;split
 ·exact ⟨(im s s.term).2.2.2.2.1,(im s s.term).2.2.2.1⟩
 ·exact ⟨rfl,rfl⟩
theorem AB {s:Rf} (h:RfF s) {m:Msg} (hf:1≤m.f∧m.f≤s.nodes):RfF (dR s m):=(BF h).hear ⟨by omega,by rw [(AD s).1];exact hf.2⟩
theorem vT {s:Rf} (h:s.role≠1):cR s=s:=if_neg h
theorem vU {s:Rf} (h:s.role=1):cR s=cH s s.term:=if_pos h
theorem tM {s:Rf} {m:Msg} (h:s.role=2):nR s m=⟨s,[]⟩:=if_pos h
theorem tN {s:Rf} {m:Msg} (h:s.role≠2) (hk:m.k=3):nR s m=gg (dR s m) m:=by
 unfold nR;rw [if_neg h];simp only;rw [if_pos hk];rfl
def pR (s:Rf) (m:Msg):Rf:=if s.partOf≠m.ix then { s with partOf:=m.ix,part:=⟨#[]⟩ } else s
def uU (s:Rf) (m:Msg):Bool:=decide (m.a=s.part.size)&&decide (s.part.size+m.d.size≤524288)
def qR (s:Rf) (m:Msg) (b:Bool):Rf:=if b then { s with part:=s.part++m.d } else s
def Bc (s:Rf) (i t:Int):Bool:=decide (i≤bn s∧dw s.b s.t s.es i=t)
def Bd (s:Rf) (i t:Int):Rf:={ s with b:=i,t:=t,es:=if Bc s i t then s.es.drop (i-s.b).toNat else [],snap:=s.part,commit:=i,part:=⟨#[]⟩,partOf:=0 }
def BO (s:Rf) (m:Msg):Sp:=
 if uU (pR s m) m&&m.dn then mn ⟨Bd (qR (pR s m) m (uU (pR s m) m)) m.ix m.lt,[]⟩ m true m.ix
 else Sp.tell ⟨qR (pR s m) m (uU (pR s m) m),[]⟩ { zM with k:=6,t:=m.f,ix:=m.ix,a:=(qR (pR s m) m (uU (pR s m) m)).part.size,rd:=m.rd }
def BN (s:Rf) (i t:Int) (es:List Ent) (k:Nat):Rf:={ s with b:=if 1≤k then i else s.b,t:=if 1≤k then t else s.t,es:=if 1≤k then es else s.es,snap:=if 2≤k then s.part else s.snap,commit:=if 3≤k then i else s.commit }
theorem lN:aN prog 162=true:=by kernel_rfl
theorem p4:aN prog 165=true:=by kernel_rfl
theorem p5:aN prog 147=true:=by kernel_rfl
theorem yl {s:Rf} {m:Msg} {c:Int} {b:Bool} {ys:List Ent} (hr:dL s.b s.t m.ix m.lt s.es m.es=(c,b,ys)) (hc:c≠0):gg s m=⟨s,[]⟩:=by
 unfold gg;simp only [hr];rw [if_pos hc]
theorem zU {s:Rf} {m:Msg} {ys:List Ent} (hr:dL s.b s.t m.ix m.lt s.es m.es=(0,true,ys)):gg s m=mn ⟨s,[]⟩ m false (max 0 (min (m.ix-1) (bn s))):=by
 unfold gg;simp only [hr];rw [if_neg (fun e=>e rfl),if_pos trivial]
theorem yk {s:Rf} {m:Msg} {ys:List Ent} (hr:dL s.b s.t m.ix m.lt s.es m.es=(0,false,ys)) (hc:iC s m=true):gg s m=⟨s,[]⟩:=by
 unfold gg;simp only [hr];rw [if_neg (fun e=>e rfl),if_neg (by decide),if_pos hc]
theorem zT {s:Rf} {m:Msg} {ys:List Ent} (hr:dL s.b s.t m.ix m.lt s.es m.es=(0,false,ys)) (hc:iC s m=false):gg s m=mn ⟨{ s with es:=ys,commit:=max s.commit (min m.cm (max (m.ix+(m.es.length:Int)) s.b)) },[]⟩ m true (max (m.ix+(m.es.length:Int)) s.b):=by
 unfold gg;simp only [hr];rw [if_neg (fun e=>e rfl),if_neg (by decide),if_neg (by rw [hc];decide)]
theorem yS (A:Option Addr) (c sz:Nat):ig A c 0 sz=A:=by
 unfold ig;split
 ·rfl
 ·cases A with
  |none=>rfl
  |some x=>simp [Addr.add]
theorem su {es es':List Ent} {c i:Nat} (hc:c≤es.length) (hl:c≤es'.length) (hic:i<c) (h:∀ j (h:j<es.length) (h':j<es'.length),j<i→es'[j].t=es[j].t) (he:(es'[i]'(by omega)).t=(es[i]'(by omega)).t):∀ j (h:j<es.length) (h':j<es'.length),j<i+1→es'[j].t=es[j].t:=fun j h1 h2 h3=>by
 rcases Nat.lt_or_ge j i with e | e
 ·exact h j h1 h2 e
 ·obtain rfl:j=i:=by omega
  exact he
theorem Ar (w0:World) (Z:Nat→Prop) (T g:Nat) (s:Rf) (w:World) (h:aZ w0 Z w T g ⟨s,[]⟩) (hm:bR s.b s.t s.es=true) (hco:s.b≤s.commit∧s.commit≤bn s) (X Y:Int) (U:Option Addr) (u:Nat) (ys:List Ent) (hu:bX w (.slice U ys.length u) ys) (hul:ys.length≤1000000) (kb:Bool) (hkb:kb=true↔yx s.es ys (s.commit-s.b).toNat) :
 Rt prog 165 [.pointer (some ⟨g,0,none⟩),.agg #[.int .i64 X,.int .i64 Y,.slice U ys.length u]] w (fun v w'=>v=.bool kb∧ah w w'):=by
 obtain ⟨tgV,aV,OV,ocV,LV,hsV⟩:=h.ex;have heV:=(bm.rd hsV.f).e;obtain ⟨hlm,-,-,hx5⟩:=dZ hm;have hlr:dy s.b s.es=bn s:=rfl;obtain ⟨c,hc⟩:∃ c:Nat,(c:Int)=s.commit-s.b:=⟨(s.commit-s.b).toNat,by omega⟩;rw [show (s.commit-s.b).toNat=c by omega] at hkb;have hcs:c≤s.es.length:=by omega
 have hcap:s.es.length≤aV.Ec:=heV.len.2;obtain ⟨Eo,hEo⟩:∃ x,x=aV.E:=⟨_,rfl⟩;obtain ⟨Uo,hUo⟩:∃ x,x=U:=⟨_,rfl⟩;refine enter (n:=52) Tryz.func165 rfl rfl rfl (ak (af (bZ (v:=.agg _) rfl ?_)));intro b3 w1 E3 hb3 hk3;have hlt3:=hk3.lt;refine asb rfl (ai (ag (ak ?_)));apply bY 15 [(8,eqp _),(9,eqp _),(10,eqp _),(11,eqp _),(12,eqp _),(13,eqp (.int .i64 s.commit)),(14,eqp _),(15,eqp _),(16,eqp _),(17,eqp _),(18,eqp _),(19,eqp _),(20,eqp (.int .i64 s.b)),(21,eqp _),(5,eqp _)] (by repeat first | exact cB | refine cz ?_ | refine ck ?_) (by kernel_rfl) (by kernel_rfl) ⟨aj _,aj _,aj _,aj _,aj _,aj _,aj _,aj _,aj _,aj _,aj _,aj _,aj _,aj _,aj _,trivial⟩
 case hop=>
  constructor
  ·rintro-w3 D3;exact au (aK (v:=.pointer _) rfl) rfl
  constructor
  ·rintro-w4 D4;rintro _ rfl;exact au (aw rfl) rfl
  constructor
  ·rintro-w5 D5;rintro _ rfl;exact au (ab aH rfl) rfl
  constructor
  ·rintro-w6 D6;rintro _ rfl;exact au (ab aB rfl) rfl
  constructor
  ·rintro-w7 D7;rintro _ rfl;exact au (ab cQ rfl) rfl
  constructor
  ·rintro-w8 D8;rintro _ rfl;exact au (ar ao rfl (by exact (show _=some (Value.int .i64 s.commit) from (h.from_ ((ah.rfl_.next E3).next D8)).rd (fun _=>rfl)))) rfl
  constructor
  ·rintro-w9 D9;exact au (aK (v:=.pointer _) rfl) rfl
  constructor
  ·rintro-w10 D10;rintro _ rfl;exact au (aw rfl) rfl
  constructor
  ·rintro-w11 D11;rintro _ rfl;exact au (ab aH rfl) rfl
  constructor
  ·rintro-w12 D12;rintro _ rfl;exact au (ab aB rfl) rfl
  constructor
  ·rintro-w13 D13;rintro _ rfl;exact au (ab bj rfl) rfl
  constructor
  ·rintro-w14 D14;rintro _ rfl;exact au (ab ct rfl) rfl
  constructor
  ·rintro-w15 D15;rintro _ rfl;exact au (ar ao rfl (by exact (show _=some (Value.int .i64 s.b) from (h.from_ ((ah.rfl_.next E3).next D15)).rd (fun _=>rfl)))) rfl
  constructor
  ·rintro-w16 D16;rintro v16_13 rfl v16_20 rfl;exact au (dM rfl rfl (by omega)) rfl
  constructor
  ·rintro-w17 D17;rintro _ rfl;exact au (dt (v:=.int _ _) rfl) rfl
  exact trivial
 case hend=>
  intro w18 D18;rintro _ rfl _ rfl _ rfl _ rfl _ rfl v13 rfl _ rfl _ rfl _ rfl _ rfl _ rfl _ rfl v20 rfl _ rfl _ rfl;show St ..;refine ai (ag (ak (ak (af (aa (ab cX rfl) (aa (ar bk rfl (by exact (hk3.from_ (ah.rfl_.next D18)).rd 2 rfl)) ?_))))));refine aa (bF bC rfl) (mvi rfl (aa (cg rfl rfl) (ai (ag (Bn rfl (fun Q19=>?_) (fun Q19=>?_))))))
  ·refine ak (af (asb rfl (ai (ag (aC (aE (bw (v:=.bool _) rfl rfl (⟨congrArg Value.bool ?_,((ah.rfl_.next E3).next D18)⟩))))))));have h9:kb≠true:=fun e=>by have h8:=(hkb.1 e).1;omega
   simpa using h9.symm
  have hcy:c≤ys.length:=by omega
  refine aM (ag (ak (ak (af (mvp rfl (aa (aw rfl) (aa (ab aH rfl) (aa (ab aB rfl) (aa (ab bj rfl) (aa (ab cX rfl) ?_))))))))));refine aa (ar bk rfl (by exact (show _=some (Value.slice Eo s.es.length aV.Ec) from by rw [hEo];exact dK (hsV.b.from_ ((ah.rfl_.next E3).next D18)) 8 rfl))) ?_;refine mvi rfl (dP (t:=34) (v:=.int _ _) (v':=.int .i64 (c:Nat)) rfl (by exact bM (by omega)) ?_);refine aa (iZ (l:=0) (h:=c) bU rfl (.inl ⟨rfl,rfl⟩) (.inr ⟨_,_,_,rfl,rfl,rfl⟩) (by omega) (by omega)) (dP (t:=35) (v:=.slice _ _ _) (v':=.slice Eo c aV.Ec) rfl (by rw [yS];rfl) ?_);refine aa (bF bC rfl) (mvi rfl (ai (ag (a_ (cY (G:=Nat) [4,6,7,38,39,40,41,42,43,44,45,46,47,48,49,50,51] (fun i=>[(37,.int .i64 (i:Nat))]) (fun i w'=>i≤c∧(∀ j (h:j<s.es.length) (h':j<ys.length),j<i→ys[j].t=s.es[j].t)∧Blk w' b3 24 #[.int .i64 X,.int .i64 Y,.slice U ys.length u]∧ah w w') (fun i=>c-i) (0) ⟨rfl,trivial⟩ ?_ ?_)))))
  ·exact ⟨Nat.zero_le _,fun j _ _ h=>absurd h (Nat.not_lt_zero _),hk3.from_ (ah.rfl_.next D18),((ah.rfl_.next E3).next D18)⟩
  rintro i ρ20 w20 ⟨hi,hj,hk3L,hB⟩;refine ak (af (aa (cg rfl rfl) (ai (ag (ak (Bn rfl (fun Q21=>?_) (fun Q21=>?_)))))))
  ·have hic:i<c:=by omega
   have hie:i<s.es.length:=by omega
   have hiu:i<ys.length:=by omega
   obtain ⟨ba,oa,hE2,hca⟩:=jT heV (show 0<s.es.length by omega);obtain ⟨bu,ou,hU2,hcu⟩:=jT hu (by omega);obtain rfl:Eo=some ⟨ba,oa,none⟩:=hEo.trans hE2;refine aM (ag (ak (a_ (ak (af (mvi rfl (aa (bq bU rfl rfl hic) (aa (aD (cs:=[.int .i64 (s.es[i]).i,.int .i64 (s.es[i]).t,.string (s.es[i]).d]) jd fW rfl (dT hB (hca i hie))) ?_))))))));have hM7:ah _ w20:=ah.rfl_;have hlt7:=(hk3L.from_ hM7).lt;refine bQ nC ?_;intro b7 w22 E7 hb7 hk7;have hg7:w.heap.size≤b7:=by rw [hb7];exact (hB).size
   have h37:b3≠b7:=by omega
   have hk3p:=hk3L.from_ (hM7.next E7);refine asi rfl (bK (vs:=[_,_,_]) fW rfl rfl (by simp [Value.oneCell']) (hk7) rfl ?_);intro w23 O6 P6;replace hk3p:=hk3p.only O6 h37;refine ai (ag (ak ?_));apply bY 9 [(42,eqp _),(43,eqp (.slice (some ⟨bu,ou,none⟩) ys.length u)),(44,eqp _),(45,eqp (.pointer (some ⟨bu,ou+i*3,none⟩))),(46,eqp _),(47,eqp (.int .i64 (ys[i]'hiu).t)),(48,eqp _),(49,eqp (.int .i64 (s.es[i]'hie).t)),(50,eqp _)] (by repeat first | exact cB | refine cz ?_ | refine ck ?_) (by kernel_rfl) (by kernel_rfl) ⟨aj _,aj _,aj _,aj _,aj _,aj _,aj _,aj _,aj _,trivial⟩
   case hop=>
    constructor
    ·rintro-w25 D25;exact au (ab cX rfl) rfl
    constructor
    ·rintro-w26 D26;rintro _ rfl;exact au (ar bk rfl (by exact (show _=some (Value.slice (some ⟨bu,ou,none⟩) ys.length u) from by rw [←hU2];exact (hk3p.from_ (ah.rfl_.next D26)).rd 2 rfl))) rfl
    constructor
    ·rintro-w27 D27;exact au (aK (v:=.int _ _) rfl) rfl
    constructor
    ·rintro-w28 D28;rintro v28_43 rfl _ rfl;exact au (bq bU rfl rfl hiu) rfl
    constructor
    ·rintro-w29 D29;rintro v29_45 rfl;exact au (ab dC rfl) rfl
    constructor
    ·rintro-w30 D30;rintro _ rfl;exact au (ar ao rfl (by exact dT (((hB.next E7).only O6 (hg7)).next D30) (hcu i (by omega)) 1 _ rfl)) rfl
    constructor
    ·rintro-w31 D31;exact au (ab dC rfl) rfl
    constructor
    ·rintro-w32 D32;rintro _ rfl;exact au (ar ao rfl (by exact (P6.from_ (ah.rfl_.next D32)).rd 1 rfl)) rfl
    constructor
    ·rintro-w33 D33;rintro v33_47 rfl v33_49 rfl;exact au (dp rfl rfl) rfl
    exact trivial
   case hend=>
    intro w34 D34;rintro _ rfl v43 rfl _ rfl v45 rfl _ rfl v47 rfl _ rfl v49 rfl _ rfl;show St ..;refine ai (ag (Bk rfl (fun Q35=>?_) (fun Q35=>?_)))
    ·have hne:ys[i].t≠s.es[i].t:=by simpa using Q35
     refine ak (af (asb rfl (ai (ag (aC (bD (aE (aE (bD (aE (bw (v:=.bool _) rfl rfl (⟨congrArg Value.bool ?_,(((hB.next E7).only O6 (hg7)).next D34)⟩))))))))))));have h9:kb≠true:=fun e=>hne ((hkb.1 e).2 i hie hiu hic)
     simpa using h9.symm
    have heq:ys[i].t=s.es[i].t:=by simpa using Q35
    refine aM (bN (ag (af (aa (bW rfl rfl (by omega)) (mvi rfl (ai ?_))))));refine bT (i+1) ⟨(by first | rfl | (refine bM ?_;omega)),trivial⟩ (by (iterate 35 refine bf rfl ?_);exact bB) ⟨?_,?_⟩
    ·exact ⟨by omega,su hcs hcy hic hj heq,hk3p.from_ (ah.rfl_.next D34),(((hB.next E7).only O6 (hg7)).next D34)⟩
    ·omega
  refine cq (bg (bg (b_ (ag (ak (af (asb rfl (ai (ag (aC (bw (v:=.bool _) rfl rfl (⟨congrArg Value.bool ?_,hB⟩))))))))))));obtain rfl:i=c:=by omega
  exact (hkb.2 ⟨hcy,hj⟩).symm
theorem Ap (s:Rf) (m:Msg) {code:Int} {miss:Bool} {ys:List Ent} (hr:dL s.b s.t m.ix m.lt s.es m.es=(code,miss,ys)) (A U:Option Addr) (cA cU:Nat) (w:World) (h:bX w (.slice A s.es.length cA) s.es) (he:bX w (.slice U m.es.length cU) m.es) (hel:m.es.length≤1000000):Rt prog 162 [.agg #[.int .i64 s.b,.int .i64 s.t,.slice A s.es.length cA],.int .i64 m.ix,.int .i64 m.lt,.slice U m.es.length cU] w fun v w'=>(∃ X Y A' n c',v=.tuple #[.agg #[.int .i64 X,.int .i64 Y,.slice A' n c'],.bool miss,.int .i64 code]∧(code=0→X=s.b∧Y=s.t∧n=ys.length∧w'.ownsRow w.heap.size 99 3 (.slice A' n c') n (cN ys)))∧ah w w':=
 (sj s.b s.t m.ix m.lt A U cA cU s.es m.es w h he (by omega)).mono fun v w' ⟨⟨X,Y,A',n,c',hv,_,h2⟩,hF⟩=>by
  rw [hr] at hv h2;exact ⟨⟨X,Y,A',n,c',hv,h2⟩,hF⟩
theorem Ao (w0:World) (Z:Nat→Prop) (T g:Nat) (s:Rf) (m:Msg) (w:World) (h:aZ w0 Z w T g ⟨s,[]⟩) (hF:RfF s) (he:Em w m) (hel:m.es.length≤1000000) (hix:0≤m.ix∧m.ix≤1099511627775) :
 Rt prog 147 [.pointer (some ⟨g,0,none⟩),.agg (bH m).toArray] w (fun v w'=>v=.tuple #[]∧aZ w0 Z w' T g (gg s m)):=by
 obtain ⟨code,miss,ys,hr⟩:∃ a b c,dL s.b s.t m.ix m.lt s.es m.es=(a,b,c):=⟨_,_,_,rfl⟩;have hla:=hF.last;have hco:=hF.co;refine enter (n:=90) Tryz.func147 rfl rfl rfl (ak (af (bZ (v:=.agg _) rfl ?_)));intro b3 w1 E3 hb3 hk3;obtain ⟨wm,hwm⟩:∃ x,x=w1:=⟨_,rfl⟩
 have h3a:=h.at_ (Z':=fun k=>Z k∨k=b3) E3 (fun k hk=>by
  rcases hk with e | e
  ·exact ⟨Nat.lt_of_lt_of_le (h.zw k e) E3.size,.inl e⟩
  ·subst e;exact ⟨hk3.lt,.inr (by omega)⟩)
 obtain ⟨Z7,hZ7⟩:∃ Z7,Z7=fun k=>Z k∨k=b3:=⟨_,rfl⟩
 have h3:aZ wm Z7 w1 T g ⟨s,[]⟩:=by
  rw [hZ7,hwm];exact h3a
 have hzi:∀ k,Z k→Z7 k:=fun k hk=>by rw [hZ7];exact .inl hk
 have hzb:Z7 b3:=by rw [hZ7];exact .inr rfl
 have hE3:ah w wm:=by rw [hwm];exact E3
 have hm9:Blk wm b3 39 (bH m).toArray:=by rw [hwm];exact hk3
 have hm3:=h3.kept hzb hm9;obtain ⟨tgV,aV,OV,ocV,LV,hsV⟩:=h3.ex;have heV:=(bm.rd hsV.f).e;have he3:=he.from_ (ah.rfl_.next E3);obtain ⟨z1,hz1⟩:∃ x,x=(w1).heap.size:=⟨_,rfl⟩;have h3z:=h3;refine ai (ag (ak ?_));apply bY 18 [(11,eqp _),(12,eqp _),(13,eqp _),(14,eqp _),(15,eqp _),(16,eqp (.agg #[.int .i64 s.b,.int .i64 s.t,.slice aV.E s.es.length aV.Ec])),(17,eqp _),(18,eqp (.int .i64 m.ix)),(19,eqp _),(20,eqp (.int .i64 m.lt)),(21,eqp _),(22,eqp (.slice m.E m.es.length m.c)),(23,fun v w'=>∃ X Y A' n c',v=.tuple #[.agg #[.int .i64 X,.int .i64 Y,.slice A' n c'],.bool miss,.int .i64 code]∧(code=0→X=s.b∧Y=s.t∧n=ys.length∧w'.ownsRow z1 99 3 (.slice A' n c') n (cN ys))),(10,fun v w'=>∃ X Y A' n c',v=.tuple #[.agg #[.int .i64 X,.int .i64 Y,.slice A' n c'],.bool miss,.int .i64 code]∧(code=0→X=s.b∧Y=s.t∧n=ys.length∧w'.ownsRow z1 99 3 (.slice A' n c') n (cN ys))),(24,fun v w'=>∃ X Y A' n c',v=.agg #[.int .i64 X,.int .i64 Y,.slice A' n c']∧(code=0→X=s.b∧Y=s.t∧n=ys.length∧w'.ownsRow z1 99 3 (.slice A' n c') n (cN ys))),(25,eqp (.bool miss)),(26,eqp (.int .i64 code)),(4,fun v w'=>∃ b,v=.pointer (some ⟨b,0,none⟩)∧z1≤b∧Blk w' b 24 #[.int .i64 0,.int .i64 0,.slice none 0 0])] (by repeat first | exact cB | refine cz ?_ | refine ck ?_) (by kernel_rfl) (by kernel_rfl) ⟨aj _,aj _,aj _,aj _,aj _,aj _,aj _,aj _,aj _,aj _,aj _,aj _,(fun _ _ _ hF ⟨a,b,c,d,e,h1,h2⟩=>⟨a,b,c,d,e,h1,fun h0=>⟨(h2 h0).1,(h2 h0).2.1,(h2 h0).2.2.1,(h2 h0).2.2.2.kept_from hF⟩⟩),(fun _ _ _ hF ⟨a,b,c,d,e,h1,h2⟩=>⟨a,b,c,d,e,h1,fun h0=>⟨(h2 h0).1,(h2 h0).2.1,(h2 h0).2.2.1,(h2 h0).2.2.2.kept_from hF⟩⟩),(fun _ _ _ hF ⟨a,b,c,d,e,h1,h2⟩=>⟨a,b,c,d,e,h1,fun h0=>⟨(h2 h0).1,(h2 h0).2.1,(h2 h0).2.2.1,(h2 h0).2.2.2.kept_from hF⟩⟩),aj _,aj _,(fun _ _ _ hF ⟨b,h1,h2,h3⟩=>⟨b,h1,h2,h3.from_ hF⟩),trivial⟩
 case hop=>
  constructor
  ·rintro-w3 D3;exact au (aK (v:=.pointer _) rfl) rfl
  constructor
  ·rintro-w4 D4;rintro _ rfl;exact au (aw rfl) rfl
  constructor
  ·rintro-w5 D5;rintro _ rfl;exact au (ab aH rfl) rfl
  constructor
  ·rintro-w6 D6;rintro _ rfl;exact au (ab aB rfl) rfl
  constructor
  ·rintro-w7 D7;rintro _ rfl;exact au (ab bj rfl) rfl
  constructor
  ·rintro-w8 D8;rintro _ rfl;exact au (aD (cs:=[.int .i64 s.b,.int .i64 s.t,.slice aV.E s.es.length aV.Ec]) aY aL rfl (iM (hsV.b.from_ (ah.rfl_.next D8)))) rfl
  constructor
  ·rintro-w9 D9;exact au (ab cF rfl) rfl
  constructor
  ·rintro-w10 D10;rintro _ rfl;exact au (ar ao rfl (by exact (show _=some (Value.int .i64 m.ix) from (hm3.from_ (ah.rfl_.next D10)).rd 4 rfl))) rfl
  constructor
  ·rintro-w11 D11;exact au (ab cV rfl) rfl
  constructor
  ·rintro-w12 D12;rintro _ rfl;exact au (ar ao rfl (by exact (show _=some (Value.int .i64 m.lt) from (hm3.from_ (ah.rfl_.next D12)).rd 5 rfl))) rfl
  constructor
  ·rintro-w13 D13;exact au (ab bS rfl) rfl
  constructor
  ·rintro-w14 D14;rintro _ rfl;exact au (ar bk rfl (by exact (show _=some (Value.slice m.E m.es.length m.c) from (hm3.from_ (ah.rfl_.next D14)).rd 9 rfl))) rfl
  constructor
  ·rintro-w15 D15;rintro v15_16 rfl v15_18 rfl v15_20 rfl v15_22 rfl;refine fD lN ((Ap s m hr aV.E m.E aV.Ec m.c _ (heV.from_ (ah.rfl_.next D15)) (he3.from_ (ah.rfl_.next D15)) hel).mono ?_);rintro v w9 ⟨⟨a,b,c,d,e,rfl,ho⟩,hF9⟩;exact ⟨hF9,a,b,c,d,e,rfl,fun h0=>⟨(ho h0).1,(ho h0).2.1,(ho h0).2.2.1,ec (ho h0).2.2.2 (by rw [hz1];exact ((ah.rfl_.next D15)).size)⟩⟩
  constructor
  ·rintro-w16 D16;rintro v16_23 ⟨X23,Y23,A23,n23,c23,rfl,ho23⟩;exact au (aK (v:=.tuple #[_,_,_]) rfl) ⟨_,_,_,_,_,rfl,ho23⟩
  constructor
  ·rintro-w17 D17;rintro v17_10 ⟨X10,Y10,A10,n10,c10,rfl,ho10⟩;exact au (aO rfl rfl) ⟨_,_,_,_,_,rfl,ho10⟩
  constructor
  ·rintro-w18 D18;rintro v18_10 ⟨X10,Y10,A10,n10,c10,rfl,ho10⟩;exact au (aO rfl rfl) rfl
  constructor
  ·rintro-w19 D19;rintro v19_10 ⟨X10,Y10,A10,n10,c10,rfl,ho10⟩;exact au (aO rfl rfl) rfl
  constructor
  ·rintro-w20 D20;exact ko (jY eD) (ah.rfl_.new _) ⟨_,rfl,by rw [hz1];exact ((ah.rfl_.next D20)).size,Blk.new _ _ _⟩
  exact trivial
 case hend=>
  intro w21 D21;rintro _ rfl _ rfl _ rfl _ rfl _ rfl v16 rfl _ rfl v18 rfl _ rfl v20 rfl _ rfl v22 rfl v23 ⟨X23,Y23,A23,n23,c23,rfl,ho23⟩ v10 ⟨X10,Y10,A10,n10,c10,rfl,ho10⟩ v24 ⟨X24,Y24,A24,n24,c24,rfl,ho24⟩ v25 rfl v26 rfl v4 ⟨b4,rfl,hg4,hk4⟩;show St ..;have hMd:ah _ w21:=(ah.rfl_.next D21);refine bK (vs:=[_,_,_]) aL rfl rfl (by simp [Value.oneCell']) (hk4) rfl ?_;intro w22 O1 P1;have hF1:ah _ w22:=hMd.only O1 (by omega);have hk4q:Blk w22 b4 24 #[.int .i64 X24,.int .i64 Y24,.slice A24 n24 c24]:=P1;have hoL:code=0→X24=s.b∧Y24=s.t∧n24=ys.length∧(w22).ownsRow z1 99 3 (.slice A24 n24 c24) n24 (cN ys):=fun h0=>⟨(ho24 h0).1,(ho24 h0).2.1,(ho24 h0).2.2.1,eY (ho24 h0).2.2.2 O1 (eS (ho24 h0).2.2.2 hk4 (by decide))⟩
  replace h3:=h3.from_ hF1;refine asb rfl (asi rfl (ai (ag (ak (ak (af (mvi rfl (aa (dp rfl rfl) (ai (ag (aQ rfl (fun Q23=>?_) (fun Q23=>?_))))))))))))
  ·replace Q23:=dF Q23;replace Q23:=en Q23;have hcn:code≠0:=by simpa using Q23
   refine aC (aE (eB rfl ?_));rw [yl hr hcn];exact ⟨rfl,h.back hE3 (h3.from_ ah.rfl_) hzi⟩
  replace Q23:=dG Q23;replace Q23:=ek Q23;obtain rfl:code=0:=by simpa using Q23
  obtain ⟨rfl,rfl,rfl,hoY⟩:=hoL rfl;refine aM (ag (ak (ak (af (mvb rfl (ai (ag (aQ rfl (fun Q24=>?_) (fun Q24=>?_)))))))))
  ·obtain rfl:miss=true:=Q24;refine ak (af (mvp rfl (aa (aw rfl) (aa (ab aH rfl) (az gx (j9 T g s aV _ _ (hsV.b.from_ (hF1.next ah.rfl_)) (heV.from_ (hF1.next ah.rfl_)) hF.lg) ?_)))));rintro v34 w25 ⟨rfl,E34⟩;refine mvt rfl (aa (aO rfl rfl) (aa (aO rfl rfl) (asi rfl (asi rfl (ai (ag (ak (af (mvp rfl (aa (aD (cs:=bH m) bh aU rfl (((h3.kept hzb hm9).from_ (ah.rfl_.next E34)).whole)) (aa (ab cF rfl) ?_)))))))))));refine aa (ar ao rfl (by exact (show _=some (Value.int .i64 m.ix) from ((h3.kept hzb hm9).from_ (ah.rfl_.next E34)).rd 4 rfl))) ?_;refine aa (dM rfl rfl (by omega)) (mvi rfl (aa (gA rfl rfl) (aa (gP rfl rfl) (az jP (oA wm Z7 T g ⟨s,[]⟩ m false (max 0 (min (m.ix-1) (bn s))) _ (h3.from_ (ah.rfl_.next E34)) (Nat.zero_le _)) ?_))));rintro v45 w26 ⟨rfl,h8⟩;refine ai (ag (aC (aE (eB rfl ?_))));rw [zU hr];exact ⟨rfl,h.back hE3 (h8.from_ ah.rfl_) hzi⟩
  obtain rfl:miss=false:=Q24;have hok:=mF hF hr;have hyl:=(dZ hok.2.1).2.2.2;have heY:bX w22 (.slice A24 ys.length c24) ys:=(bX.of_own hoY rfl).from_ ah.rfl_;refine aM (ag (ak (ak (af (mvp rfl (aa (aD (cs:=[.int .i64 s.b,.int .i64 s.t,.slice A24 ys.length c24]) aY aL rfl ((hk4q.from_ ah.rfl_).whole)) (az p4 (Ar wm Z7 T g s _ (h3.from_ ah.rfl_) hF.lg hF.co s.b s.t A24 c24 ys (heY.from_ ah.rfl_) (by omega) (!iC s m) (by rw [vI hF hr];simp)) ?_)))))));rintro v48 w27 ⟨rfl,E48⟩;refine aa (cn rfl) (ai (ag (Bl rfl (fun Q28=>?_) (fun Q28=>?_))))
  ·have hcut:iC s m=true:=by simpa using Q28
   refine aC (aE (eB rfl ?_));rw [yk hr hcut];exact ⟨rfl,h.back hE3 (h3.from_ (ah.rfl_.next E48)) hzi⟩
  have hcut:iC s m=false:=by simpa using Q28
  refine aM (ag (ak (af (mvp rfl (aa (aD (cs:=[.int .i64 s.b,.int .i64 s.t,.slice A24 ys.length c24]) aY aL rfl ((hk4q.from_ (ah.rfl_.next E48)).whole)) (aa (aw rfl) (aa (ab aH rfl) (aa (ab aB rfl) (aa (ab bj rfl) ?_)))))))));have hMs:ah _ w27:=(ah.rfl_.next E48);refine oR (b:=s.b) (t9:=s.t) (es:=ys) rfl aL rfl rfl h3z (hF1.next hMs) (by rw [←hz1];exact hoY.kept_from hMs) ?_;intro w29 h6a;have h6:aZ wm Z7 w29 T g ⟨{ s with es:=ys },[]⟩:=h6a;refine ai (ag (ak ?_));apply bY 15 [(56,eqp _),(57,eqp (.int .i64 m.ix)),(58,eqp _),(59,eqp (.slice m.E m.es.length m.c)),(60,eqp _),(61,eqp _),(62,eqp _),(63,eqp _),(64,eqp _),(65,eqp _),(66,eqp _),(67,eqp _),(68,eqp (.int .i64 s.b)),(69,eqp (.int .i64 (max (m.ix+(m.es.length:Int)) s.b))),(9,eqp _)] (by repeat first | exact cB | refine cz ?_ | refine ck ?_) (by kernel_rfl) (by kernel_rfl) ⟨aj _,aj _,aj _,aj _,aj _,aj _,aj _,aj _,aj _,aj _,aj _,aj _,aj _,aj _,aj _,trivial⟩
  case hop=>
   constructor
   ·rintro-w31 D31;exact au (ab cF rfl) rfl
   constructor
   ·rintro-w32 D32;rintro _ rfl;exact au (ar ao rfl (by exact (show _=some (Value.int .i64 m.ix) from ((h6.kept hzb hm9).from_ (ah.rfl_.next D32)).rd 4 rfl))) rfl
   constructor
   ·rintro-w33 D33;exact au (ab bS rfl) rfl
   constructor
   ·rintro-w34 D34;rintro _ rfl;exact au (ar bk rfl (by exact (show _=some (Value.slice m.E m.es.length m.c) from ((h6.kept hzb hm9).from_ (ah.rfl_.next D34)).rd 9 rfl))) rfl
   constructor
   ·rintro-w35 D35;rintro v35_59 rfl;exact au (bF bC rfl) rfl
   constructor
   ·rintro-w36 D36;rintro v36_57 rfl _ rfl;exact au (bW rfl rfl (by omega)) rfl
   constructor
   ·rintro-w37 D37;exact au (aK (v:=.pointer _) rfl) rfl
   constructor
   ·rintro-w38 D38;rintro _ rfl;exact au (aw rfl) rfl
   constructor
   ·rintro-w39 D39;rintro _ rfl;exact au (ab aH rfl) rfl
   constructor
   ·rintro-w40 D40;rintro _ rfl;exact au (ab aB rfl) rfl
   constructor
   ·rintro-w41 D41;rintro _ rfl;exact au (ab bj rfl) rfl
   constructor
   ·rintro-w42 D42;rintro _ rfl;exact au (ab ct rfl) rfl
   constructor
   ·rintro-w43 D43;rintro _ rfl;exact au (ar ao rfl (by exact (show _=some (Value.int .i64 s.b) from (h6.from_ (ah.rfl_.next D43)).rd (fun _=>rfl)))) rfl
   constructor
   ·rintro-w44 D44;rintro _ rfl v44_68 rfl;exact au (gP rfl rfl) rfl
   constructor
   ·rintro-w45 D45;rintro v45_69 rfl;exact au (dt (v:=.int _ _) rfl) rfl
   exact trivial
  case hend=>
   intro w46 D46;rintro _ rfl v57 rfl _ rfl v59 rfl _ rfl _ rfl _ rfl _ rfl _ rfl _ rfl _ rfl _ rfl v68 rfl v69 rfl _ rfl;show St ..;refine ai (ag (ak ?_));apply bY 12 [(70,eqp _),(71,eqp _),(72,eqp _),(73,eqp _),(74,eqp _),(75,eqp _),(76,eqp (.int .i64 s.commit)),(77,eqp _),(78,eqp (.int .i64 m.cm)),(79,eqp _),(80,eqp _),(81,eqp (.int .i64 (max s.commit (min m.cm (max (m.ix+(m.es.length:Int)) s.b)))))] (by repeat first | exact cB | refine cz ?_ | refine ck ?_) (by kernel_rfl) (by kernel_rfl) ⟨aj _,aj _,aj _,aj _,aj _,aj _,aj _,aj _,aj _,aj _,aj _,aj _,trivial⟩
   case hop=>
    constructor
    ·rintro-w48 D48;exact au (aK (v:=.pointer _) rfl) rfl
    constructor
    ·rintro-w49 D49;exact au (aK (v:=.pointer _) rfl) rfl
    constructor
    ·rintro-w50 D50;rintro _ rfl;exact au (aw rfl) rfl
    constructor
    ·rintro-w51 D51;rintro _ rfl;exact au (ab aH rfl) rfl
    constructor
    ·rintro-w52 D52;rintro _ rfl;exact au (ab aB rfl) rfl
    constructor
    ·rintro-w53 D53;rintro _ rfl;exact au (ab cQ rfl) rfl
    constructor
    ·rintro-w54 D54;rintro _ rfl;exact au (ar ao rfl (by exact (show _=some (Value.int .i64 s.commit) from (h6.from_ ((ah.rfl_.next D46).next D54)).rd (fun _=>rfl)))) rfl
    constructor
    ·rintro-w55 D55;exact au (ab dU rfl) rfl
    constructor
    ·rintro-w56 D56;rintro _ rfl;exact au (ar ao rfl (by exact (show _=some (Value.int .i64 m.cm) from ((h6.kept hzb hm9).from_ ((ah.rfl_.next D46).next D56)).rd 6 rfl))) rfl
    constructor
    ·rintro-w57 D57;exact au (aK (v:=.int _ _) rfl) rfl
    constructor
    ·rintro-w58 D58;rintro v58_78 rfl _ rfl;exact au (gA rfl rfl) rfl
    constructor
    ·rintro-w59 D59;rintro v59_76 rfl _ rfl;exact au (gP rfl rfl) rfl
    exact trivial
   case hend=>
    intro w60 D60;rintro _ rfl _ rfl _ rfl _ rfl _ rfl _ rfl v76 rfl _ rfl v78 rfl _ rfl _ rfl v81 rfl;show St ..;refine aa (aw rfl) (aa (ab aH rfl) (aa (ab aB rfl) (aa (ab cQ rfl) (iA (s':=({ s with es:=ys,commit:=max s.commit (min m.cm (max (m.ix+(m.es.length:Int)) s.b)) }:Rf)) bd rfl rfl rfl (h6.from_ ((ah.rfl_.next D46).next D60)) (fun _=>⟨by decide,rfl⟩) ⟨rfl,rfl,rfl,rfl,rfl,rfl⟩ ?_))));intro w61 h7;refine ai (ag (af (mvp rfl (aa (aD (cs:=bH m) bh aU rfl (((h7.kept hzb hm9).from_ ah.rfl_).whole)) (mvi rfl (az jP (oA wm Z7 T g ⟨({ s with es:=ys,commit:=max s.commit (min m.cm (max (m.ix+(m.es.length:Int)) s.b)) }:Rf),[]⟩ m true (max (m.ix+(m.es.length:Int)) s.b) _ (h7.from_ ah.rfl_) (Nat.zero_le _)) ?_))))));rintro v89 w62 ⟨rfl,h8⟩;refine ai (du (eB rfl ?_));rw [zT hr hcut];exact ⟨rfl,h.back hE3 (h8.from_ ah.rfl_) hzi⟩
theorem uS (w0:World) (Z:Nat→Prop) (T g:Nat) (s:Rf) (m:Msg) (w:World) (h:aZ w0 Z w T g ⟨s,[]⟩) (hF:RfF s) (hf:1≤m.f∧m.f≤s.nodes) (hk:m.k=3) (he:Em w m) (hze:Ez Z m) (hel:m.es.length≤1000000) (hix:0≤m.ix∧m.ix≤1099511627775) :
 Rt prog 103 [.pointer (some ⟨g,0,none⟩),.agg (bH m).toArray] w (fun v w'=>v=.tuple #[]∧aZ w0 Z w' T g (nR s m)):=by
 have hFd:=AB hF hf;refine enter (n:=82) Tryz.func103 rfl rfl rfl (ak (af (bZ (v:=.agg _) rfl ?_)));intro b3 w1 E3 hb3 hk3;obtain ⟨wm,hwm⟩:∃ x,x=w1:=⟨_,rfl⟩
 have h3a:=h.at_ (Z':=fun k=>Z k∨k=b3) E3 (fun k hk=>by
  rcases hk with e | e
  ·exact ⟨Nat.lt_of_lt_of_le (h.zw k e) E3.size,.inl e⟩
  ·subst e;exact ⟨hk3.lt,.inr (by omega)⟩)
 obtain ⟨Z7,hZ7⟩:∃ Z7,Z7=fun k=>Z k∨k=b3:=⟨_,rfl⟩
 have h3:aZ wm Z7 w1 T g ⟨s,[]⟩:=by
  rw [hZ7,hwm];exact h3a
 have hzi:∀ k,Z k→Z7 k:=fun k hk=>by rw [hZ7];exact .inl hk
 have hzb:Z7 b3:=by rw [hZ7];exact .inr rfl
 have hE3:ah w wm:=by rw [hwm];exact E3
 have hm9:Blk wm b3 39 (bH m).toArray:=by rw [hwm];exact hk3
 have hm3:=h3.kept hzb hm9;have he3:=he.from_ (ah.rfl_.next E3);refine ai (ag (ak (ak (af (mvp rfl (aa (aw rfl) (aa (ab aH rfl) (aa (ab aB rfl) (aa (ab cZ rfl) (aa (ar ao rfl (by exact (show _=some (Value.int .i64 s.role) from (h3.from_ ah.rfl_).rd (fun _=>rfl)))) ?_))))))))));refine aa (bt rfl rfl) (ai (ag (Bm rfl (fun Q2=>?_) (fun Q2=>?_))))
 ·refine aC (aE (eB rfl ?_));rw [tM (by omega)];exact ⟨rfl,h.back hE3 (h3.from_ ah.rfl_) hzi⟩
 refine aM (ag (fY (G:=Unit) [11,12,13,14,15,16,17,18,19,20,21,22,23,24,25,26,27] (fun _=>[]) (fun _ w'=>aZ wm Z7 w' T g ⟨cR s,[]⟩) ?_ ?_))
 ·refine ak (af (mvp rfl (aa (aw rfl) (aa (ab aH rfl) (aa (ab aB rfl) (aa (ab cZ rfl) (aa (ar ao rfl (by exact (show _=some (Value.int .i64 s.role) from (h3.from_ ah.rfl_).rd (fun _=>rfl)))) ?_)))))));refine aa (bt rfl rfl) (ai (ag (Bm rfl (fun Q3=>?_) (fun Q3=>?_))))
  ·apply mM [(0,18,fun _ v _=>v=_),(1,19,fun _ v _=>v=_),(2,20,fun _ v _=>v=_),(3,21,fun _ v _=>v=_),(4,22,fun _ v _=>v=_),(5,23,fun _ v _=>v=_),(6,24,fun _ v _=>v=_),(7,25,fun _ v _=>v=_),(8,26,fun S v w9=>S 9=false→(eqp (.int .i64 s.term)) v w9),(9,27,fun _ v _=>v=_)] [9] (fun S w'=>(S 9=false→ah w1 w')∧(S 9=true→aZ wm Z7 w' T g ⟨cH s s.term,[]⟩)) (by kernel_rfl) (by kernel_rfl) rfl rfl ⟨fun _ _ _ _ _ _ _ h=>h,fun _ _ _ _ _ _ _ h=>h,fun _ _ _ _ _ _ _ h=>h,fun _ _ _ _ _ _ _ h=>h,fun _ _ _ _ _ _ _ h=>h,fun _ _ _ _ _ _ _ h=>h,fun _ _ _ _ _ _ _ h=>h,fun _ _ _ _ _ _ _ h=>h,fun S i v w1 w2 hq hF h h0=>(aj _) v w1 w2 hF (h (oo h0)),fun _ _ _ _ _ _ _ h=>h,trivial⟩ (fun S i w1 w2 hq hF h=>⟨fun h0=>(h.1 (oo h0)).next hF,fun h1=>(fun h=>h.from_ hF) (h.2 (oW (show 9≠i by rintro rfl;exact absurd hq (by decide)) h1))⟩) ⟨fun _=>ah.rfl_.d1,fun h=>by cases h⟩
   case hstep=>
    constructor
    ·rintro S L' w4 hU hmo hme hI hM hC hS ⟨-⟩;have hS0:S 9=false:=(aq hC (j:=9) rfl (by kernel_rfl) (aq hC (j:=2) rfl (by kernel_rfl) (aq hC (j:=1) rfl (by kernel_rfl) hS)));have hM4:=hM.1 hS0;have e0:=hI.1 0 (fH rfl);exact aS [(0,_)] hU hmo hme hI hM (.head _) rfl rfl (by kernel_rfl) ⟨e0,trivial⟩ (aK (v:=.pointer _) rfl) ah.rfl_ (rfl)
    constructor
    ·rintro S L' w5 hU hmo hme hI hM hC hS ⟨d0,-⟩;have hS0:S 9=false:=(aq hC (j:=9) rfl (by kernel_rfl) (aq hC (j:=2) rfl (by kernel_rfl) hS));have hM5:=hM.1 hS0;obtain ⟨v5_18,e18,h18⟩:=hI.get (i:=0) (.head _) d0;obtain rfl:=h18;exact aS [(18,_)] hU hmo hme hI hM (.tail _ (.head _)) rfl rfl (by kernel_rfl) ⟨e18,trivial⟩ (aw rfl) ah.rfl_ (rfl)
    constructor
    ·rintro S L' w6 hU hmo hme hI hM hC hS ⟨d1,-⟩;have hS0:S 9=false:=(aq hC (j:=9) rfl (by kernel_rfl) hS);have hM6:=hM.1 hS0;obtain ⟨v6_19,e19,h19⟩:=hI.get (i:=1) (.tail _ (.head _)) d1;obtain rfl:=h19;exact aS [(19,_)] hU hmo hme hI hM (gM 2 rfl) rfl rfl (by kernel_rfl) ⟨e19,trivial⟩ (ab aH rfl) ah.rfl_ (rfl)
    constructor
    ·rintro S L' w7 hU hmo hme hI hM hC hS ⟨-⟩;have hS0:S 9=false:=(aq hC (j:=9) rfl (by kernel_rfl) (aq hC (j:=8) rfl (by kernel_rfl) (aq hC (j:=7) rfl (by kernel_rfl) (aq hC (j:=6) rfl (by kernel_rfl) (aq hC (j:=5) rfl (by kernel_rfl) (aq hC (j:=4) rfl (by kernel_rfl) hS))))));have hM7:=hM.1 hS0;have e0:=hI.1 0 (fH rfl);exact aS [(0,_)] hU hmo hme hI hM (gM 3 rfl) rfl rfl (by kernel_rfl) ⟨e0,trivial⟩ (aK (v:=.pointer _) rfl) ah.rfl_ (rfl)
    constructor
    ·rintro S L' w8 hU hmo hme hI hM hC hS ⟨d3,-⟩;have hS0:S 9=false:=(aq hC (j:=9) rfl (by kernel_rfl) (aq hC (j:=8) rfl (by kernel_rfl) (aq hC (j:=7) rfl (by kernel_rfl) (aq hC (j:=6) rfl (by kernel_rfl) (aq hC (j:=5) rfl (by kernel_rfl) hS)))));have hM8:=hM.1 hS0;obtain ⟨v8_21,e21,h21⟩:=hI.get (i:=3) (gM 3 rfl) d3;obtain rfl:=h21;exact aS [(21,_)] hU hmo hme hI hM (gM 4 rfl) rfl rfl (by kernel_rfl) ⟨e21,trivial⟩ (aw rfl) ah.rfl_ (rfl)
    constructor
    ·rintro S L' w9 hU hmo hme hI hM hC hS ⟨d4,-⟩;have hS0:S 9=false:=(aq hC (j:=9) rfl (by kernel_rfl) (aq hC (j:=8) rfl (by kernel_rfl) (aq hC (j:=7) rfl (by kernel_rfl) (aq hC (j:=6) rfl (by kernel_rfl) hS))));have hM9:=hM.1 hS0;obtain ⟨v9_22,e22,h22⟩:=hI.get (i:=4) (gM 4 rfl) d4;obtain rfl:=h22;exact aS [(22,_)] hU hmo hme hI hM (gM 5 rfl) rfl rfl (by kernel_rfl) ⟨e22,trivial⟩ (ab aH rfl) ah.rfl_ (rfl)
    constructor
    ·rintro S L' w10 hU hmo hme hI hM hC hS ⟨d5,-⟩;have hS0:S 9=false:=(aq hC (j:=9) rfl (by kernel_rfl) (aq hC (j:=8) rfl (by kernel_rfl) (aq hC (j:=7) rfl (by kernel_rfl) hS)));have hM10:=hM.1 hS0;obtain ⟨v10_23,e23,h23⟩:=hI.get (i:=5) (gM 5 rfl) d5;obtain rfl:=h23;exact aS [(23,_)] hU hmo hme hI hM (gM 6 rfl) rfl rfl (by kernel_rfl) ⟨e23,trivial⟩ (ab aB rfl) ah.rfl_ (rfl)
    constructor
    ·rintro S L' w11 hU hmo hme hI hM hC hS ⟨d6,-⟩;have hS0:S 9=false:=(aq hC (j:=9) rfl (by kernel_rfl) (aq hC (j:=8) rfl (by kernel_rfl) hS));have hM11:=hM.1 hS0;obtain ⟨v11_24,e24,h24⟩:=hI.get (i:=6) (gM 6 rfl) d6;obtain rfl:=h24;exact aS [(24,_)] hU hmo hme hI hM (gM 7 rfl) rfl rfl (by kernel_rfl) ⟨e24,trivial⟩ (ab bL rfl) ah.rfl_ (rfl)
    constructor
    ·rintro S L' w12 hU hmo hme hI hM hC hS ⟨d7,-⟩;have hS0:S 9=false:=(aq hC (j:=9) rfl (by kernel_rfl) hS);have hM12:=hM.1 hS0;obtain ⟨v12_25,e25,h25⟩:=hI.get (i:=7) (gM 7 rfl) d7;obtain rfl:=h25;exact aS [(25,_)] hU hmo hme hI hM (gM 8 rfl) rfl rfl (by kernel_rfl) ⟨e25,trivial⟩ (ar ao rfl (by exact (show _=some (Value.int .i64 s.term) from (h3.from_ (ah.rfl_.next hM12)).rd (fun _=>rfl)))) ah.rfl_ (fun _=>rfl)
    constructor
    ·rintro S L' w13 hU hmo hme hI hM hC hS ⟨d2,d8,-⟩;have hS0:S 9=false:=hS;have hM13:=hM.1 hS0;obtain ⟨v13_20,e20,h20⟩:=hI.get (i:=2) (gM 2 rfl) d2;obtain rfl:=h20;obtain ⟨v13_26,e26,h26⟩:=hI.get (i:=8) (gM 8 rfl) d8;obtain rfl:=h26 hS0;refine jg (al:=[.tmp 20,.tmp 26]) [(20,_),(26,_)] hU hI (gM 9 rfl) (by kernel_rfl) ⟨e20,e26,trivial⟩ mg ((ns wm Z7 T g ⟨s,[]⟩ _ (h3.from_ (ah.rfl_.next hM13)) s.term).mono ?_);rintro v9 w2 ⟨rfl,hS2⟩;exact ⟨⟨fun h0=>(by rw [mr] at h0;cases h0),fun _=>hS2⟩,rfl,⟨fun _ _ _ h=>h,fun _ _ _ h=>h,fun _ _ _ h=>h,fun _ _ _ h=>h,fun _ _ _ h=>h,fun _ _ _ h=>h,fun _ _ _ h=>h,fun _ _ _ h=>h,fun _ _ _ _ h0=>(by rw [mr] at h0;cases h0),fun _ _ _ h=>h,trivial⟩⟩
    exact trivial
   case hend=>
    intro w14 hM;obtain hS9:=hM.2 rfl;rintro v14_18 rfl v14_19 rfl v14_20 rfl v14_21 rfl v14_22 rfl v14_23 rfl v14_24 rfl v14_25 rfl v14_26-v14_27 rfl;refine iD ?_;refine bT (()) trivial (by (iterate 17 refine bf rfl ?_);exact bB) ?_
    first
     |(rw [vU (by omega)];exact hS9.from_ ah.rfl_)
     |(rw [vT (by omega)];exact h3.from_ ah.rfl_)
  refine aM ?_;refine bT (()) trivial (by (iterate 7 refine bf rfl ?_);exact bB) ?_
  first
   |(rw [vU (by omega)];exact hS9.from_ ah.rfl_)
   |(rw [vT (by omega)];exact h3.from_ ah.rfl_)
 rintro _ ρ15 w15 h5;refine ak (af (mvp rfl (mvp rfl (aa (ab cu rfl) (aa (ar ao rfl (by exact (show _=some (Value.int .i64 m.f) from ((h5.kept hzb hm9).from_ ah.rfl_).rd 1 rfl))) ?_)))));refine aa (aw rfl) (aa (ab aH rfl) (aa (ab aB rfl) (aa (ab dX rfl) (iA (s':=({ cR s with leader:=m.f }:Rf)) bd rfl rfl rfl (h5.from_ ah.rfl_) (fun _=>⟨by decide,rfl⟩) ⟨rfl,rfl,rfl,rfl,rfl,rfl⟩ ?_))));intro w16 h6;refine aa (aw rfl) (aa (ab aH rfl) (aa (ab aB rfl) (aa (ab dq rfl) (iA (s':=(dR s m)) bd rfl rfl rfl (h6.from_ ah.rfl_) (fun _=>⟨by decide,rfl⟩) ⟨rfl,rfl,rfl,rfl,rfl,rfl⟩ ?_))));intro w17 h7;refine ai (ag (ak (ak (af (aa (ab cM rfl) (aa (ar ao rfl (by exact (show _=some (Value.int .i64 m.k) from ((h7.kept hzb hm9).from_ ah.rfl_).rd 0 rfl))) ?_))))));refine aa (dh (bt rfl rfl) (beq_iff_eq.2 hk)) (ai (ag (aR rfl (ak (af (mvp rfl (aa (aD (cs:=bH m) bh aU rfl (((h7.kept hzb hm9).from_ ah.rfl_).whole)) (az p5 (Ao wm Z7 T g (dR s m) m _ (h7.from_ ah.rfl_) hFd (((he.from_ hE3).chg (fun h0 k hk9=>hzi k (hze h0 k hk9)) h7.fr).from_ ah.rfl_) hel hix) ?_))))))));rintro v45 w18 ⟨rfl,h8⟩;refine ai (ag (aC (aE (eB rfl ?_))));rw [tN (by omega) hk];exact ⟨rfl,h.back hE3 (h8.from_ ah.rfl_) hzi⟩
def BZ (s:Rf) (i tt:Int) (bb:Bool):Prop:=(bb=true∧s.b≤i∧i≤bn s∧tt=dw s.b s.t s.es i)∨(bb=false∧¬ i≤bn s∧tt=0)
def enB (n:Int) (x:Rd×Option Addr×Nat):Bool:=fv n x.1.acks
def BQ (w w':World) (s:Rf) (l:List Rd) (v:Value):Prop:=∃ tag a A c N,v=.tuple #[.agg (rfV s a).toArray,.slice A (List.length N) c,.int .i64 0]∧bm w' tag s a∧Bu w' tag l A c N∧∀ k,k<w.heap.size→tag k=8
structure BR (z:Nat) (w:World) (A1:Option Addr) (c1:Nat) (A2:Option Addr) (c2:Nat) (N1 N2:List (Rd×Option Addr×Nat)):Prop where
 r1:w.ownsRow z 54 4 (.slice A1 N1.length c1) N1.length (N1.flatMap rdV)
 r2:w.ownsRow z 54 4 (.slice A2 N2.length c2) N2.length (N2.flatMap rdV)
 ne:∀ k,A1.map (·.block)=some k→¬ A2.map (·.block)=some k
section
variable {P:Program} {L:List (Nat×Value)} {w:World} {fn:Func}
theorem r6 {m:Nat} {r r' r'' r3:ResultVar} {R:Value→World→Prop} {v v' v'' v3:Value} (hr:fn.results=#[r,r',r'',r3]) (h1:RV P ⟨m,[]⟩ L w r v) (h2:RV P ⟨m,[]⟩ L w r' v') (h3:RV P ⟨m,[]⟩ L w r'' v'') (h4:RV P ⟨m,[]⟩ L w r3 v3) (h:R (.tuple #[v,v',v'',v3]) w) :
 bodyPost P fn (fun e w'=>∃ v,e=.returned v∧R v w') .ret (mkA ⟨m,[]⟩ L) w:=by
 refine bodyPost_ret (v:=.tuple #[v,v',v'',v3]) ?_ rfl ⟨_,rfl,h⟩;have e1:=h1.out;have e2:=h2.out;have e3:=h3.out;have e4:=h4.out;show (results fn (mkT m L)).run P w=_;cases r <;> cases r' <;> cases r'' <;> cases r3 <;> simp_all only [] <;> (try obtain ⟨_,_,_⟩:=e1) <;> (try obtain ⟨_,_,_⟩:=e2) <;> (try obtain ⟨_,_,_⟩:=e3) <;> (try obtain ⟨_,_,_⟩:=e4) <;> simp_all [results,asAddr]
end
def BY (s:Rf) (d:ByteArray):Int:=if 4096<d.size then 1 else if s.role≠2 then 8 else if ia s=true then 6 else 0
def PS (C:Rf) (i:Nat):Sp:=(⟨C,[]⟩:Sp).sends (((dE C).take i).filter fun k=>decide (at1 C.next k=bn C))
end Go.Proofs.YtkpooenofjdpmaaGreat
namespace Go.Proofs.YtkpooenofjdpmaaGreat
open Go.Proofs.Tryz (prog)
open Go.RowKit
open Go.ChangeShapes Go.WideShapes Go.ChangeAt
theorem gT:aN prog 82=true:=by kernel_rfl
theorem ow:aN prog 171=true:=by kernel_rfl
theorem ov:aN prog 172=true:=by kernel_rfl
theorem ql:∀ (xs ys:List Ent) (p t:Int),dm xs p t=true→dm (xs++ys) p t=dm ys (p+(xs.length:Int)) (di t xs)
 |[],ys,p,t,_=>by simp [di]
 |e::r,ys,p,t,h=>by
  have h1:=(et h).2
  have h2:fL e p t=true:=by
   simp only [dm,Bool.and_eq_true] at h;exact h.1
  show (fL e p t&&dm (r++ys) (p+1) e.t)=_;rw [ql r ys (p+1) e.t h1,kV,h2,Bool.true_and,List.length_cons]
  congr 1
  omega
theorem oY:∀ (xs:List Ent) (k:Nat) (p t:Int),dm xs p t=true→dm (xs.take k) p t=true
 |[],k,_,_,_=>by rw [List.take_nil];rfl
 |e::r,0,_,_,_=>rfl
 |e::r,k+1,p,t,h=>by
  have h1:=(et h).2;simp only [dm,Bool.and_eq_true] at h;show (fL e p t&&dm (r.take k) (p+1) e.t)=true;rw [h.1,oY r k (p+1) e.t h1];rfl
theorem vF {B T:Int} {xs:List Ent} (h:bR B T xs=true) (k:Nat):bR B T (xs.take k)=true:=by
 unfold bR at h ⊢;simp only [Bool.and_eq_true,decide_eq_true_eq] at h ⊢;exact ⟨⟨h.1.1,by rw [List.length_take];omega⟩,oY xs k B T h.2⟩
theorem vB {B T:Int} {xs zs:List Ent} (h:bR B T xs=true) (hl:xs.length+zs.length≤512):jm B T xs zs=if bR B T (xs++zs)=true then 0 else 1:=by
 have h9:=(dZ h).1;have h2:=h;unfold bR at h2;simp only [Bool.and_eq_true,decide_eq_true_eq] at h2
 have e1:bR B T (xs++zs)=dm zs (dy B xs) (di T xs):=by
  unfold bR;rw [ql xs zs B T h2.2,h9,h2.1.1.1,h2.1.1.2,List.length_append,decide_eq_true hl];rfl
 unfold jm;rw [e1,if_pos hl]
def pB (B:Int) (xs:List Ent):List Ent→Int
 |[]=>0
 |e::_=>if e.i≤B+(xs.length:Int) then e.i else 0
theorem rX:∀ {l:List Ent} {p t:Int},dm l p t=true→∀ (i:Nat) (h:i<l.length),(l[i]'h).i=p+(i:Int)+1
 |e::r,p,t,h,0,_=>by
  have:=(et h).1;show e.i=_;omega
 |e::r,p,t,h,i+1,hi=>by
  have:=rX (et h).2 i (by simpa using hi);show (r[i]'_).i=_;omega
theorem bX.keep {w1 w w':World} {A:Option Addr} {n c n' c' g:Nat} {xs:List Ent} (h1:bX w1 (.slice A n c) xs) (h:bX w (.slice A n' c') xs) (hg:w1.heap.size≤g) (hO:e_ g w w'):bX w' (.slice A n' c') xs:=by
 obtain ⟨A1,c1,hv1,_,_,_,hp1⟩:=h1;obtain ⟨A',c2,hv,h1,h2,h3,hp⟩:=h;refine ⟨A',c2,hv,h1,h2,h3,fun h0=>?_⟩;obtain ⟨b1,o1,hA1,hb1,_⟩:=hp1 h0;obtain ⟨b,o,hA',hb,hc⟩:=hp h0;simp only [Value.slice.injEq] at hv hv1;have e:some (⟨b1,o1,none⟩:Addr)=some ⟨b,o,none⟩:=by rw [←hA1,←hA',←hv1.1,←hv.1]
 have hbb:b1=b:=by cases e;rfl
 have hC:=hO.toChg (U:=fun k=>k=g) rfl;have hk:=hC.block b hb (fun e=>by have e9:b=g:=e;omega);have he:∀ j,w'.cell? ⟨b,j,none⟩=w.cell? ⟨b,j,none⟩:=fun j=>by unfold World.cell?;rw [hk]
 exact ⟨b,o,hA',Nat.lt_of_lt_of_le hb hC.size,fun i hi=>⟨(he _).trans (hc i hi).1,(he _).trans (hc i hi).2.1,(he _).trans (hc i hi).2.2⟩⟩
def lr (w':World) (z:Nat) (A0:Option Addr) (xs:List Ent) (A:Option Addr) (n c:Nat) (ys:List Ent):Prop:=(A=A0∧ys=xs∧bX w' (.slice A n c) ys)∨w'.ownsRow z 99 3 (.slice A n c) n (cN ys)
theorem lr.from_ {w w':World} {z:Nat} {A0 A:Option Addr} {xs ys:List Ent} {n c:Nat} (h:lr w z A0 xs A n c ys) (hF:ah w w'):lr w' z A0 xs A n c ys:=h.imp (fun h=>⟨h.1,h.2.1,h.2.2.from_ hF⟩) (fun h=>h.kept_from hF)
theorem lr.le {w:World} {z z':Nat} {A0 A:Option Addr} {xs ys:List Ent} {n c:Nat} (h:lr w z A0 xs A n c ys) (hz:z'≤z):lr w z' A0 xs A n c ys:=h.imp id (fun h=>ec h hz)
theorem lr.off {w1 w w':World} {A0 A:Option Addr} {xs ys:List Ent} {n0 c0 n c g:Nat} {T:TypeId} {cs:Array Value} (h:lr w w1.heap.size A0 xs A n c ys) (h1:bX w1 (.slice A0 n0 c0) xs) (hg:w1.heap.size≤g) (hb:Blk w g T cs) (hT:T≠99) (hO:e_ g w w'):lr w' w1.heap.size A0 xs A n c ys:=by
 rcases h with ⟨rfl,rfl,h⟩ | h
 ·exact .inl ⟨rfl,rfl,bX.keep h1 h hg hO⟩
 ·exact .inr (eY h hO (eS h hb hT))
theorem lr.ents {w:World} {z:Nat} {A0 A:Option Addr} {xs ys:List Ent} {n c:Nat} (h:lr w z A0 xs A n c ys) (hn:n=ys.length):bX w (.slice A n c) ys:=h.elim (fun h=>h.2.2) (fun h=>bX.of_own h hn.symm)
def mS (w':World) (z:Nat) (A0:Option Addr) (B T:Int) (xs:List Ent) (ys:List Ent) (R:Int×Bool×List Ent) (v:Value):Prop:=
 ∃ (X Y:Int) (A:Option Addr) (n c:Nat) (cut:Int),v=.tuple #[.agg #[.int .i64 X,.int .i64 Y,.slice A n c],.bool R.2.1,.int .i64 R.1,.int .i64 cut]∧(R.1=0→X=B∧Y=T∧n=R.2.2.length∧lr w' z A0 xs A n c R.2.2)∧(R.2.1=false→cut=pB B xs (dz B T xs ys))∧(R.2.1=true→cut=0)
theorem mS.mk_ {w':World} {z:Nat} {A0:Option Addr} {B T:Int} {xs ys:List Ent} {R R':Int×Bool×List Ent} (h:R=R') {X Y:Int} {A:Option Addr} {n c:Nat} {cut:Int} (h1:R'.1=0→X=B∧Y=T∧n=R'.2.2.length∧lr w' z A0 xs A n c R'.2.2) (h2:R'.2.1=false→cut=pB B xs (dz B T xs ys)) (h3:R'.2.1=true→cut=0):mS w' z A0 B T xs ys R (.tuple #[.agg #[.int .i64 X,.int .i64 Y,.slice A n c],.bool R'.2.1,.int .i64 R'.1,.int .i64 cut]):=by
 subst h;exact ⟨X,Y,A,n,c,cut,rfl,h1,h2,h3⟩
def TmE (B T:Int) (xs:List Ent) (i tt:Int) (bb:Bool):Prop:=(bb=true∧i≤B+(xs.length:Int)∧tt=dw B T xs i)∨(bb=false∧¬ i≤B+(xs.length:Int)∧tt=0)
theorem wA (B T:Int) (xs:List Ent) (i:Int):∃ tt bb,TmE B T xs i tt bb:=by
 by_cases h:i≤B+(xs.length:Int)
 ·exact ⟨_,_,.inl ⟨rfl,h,rfl⟩⟩
 ·exact ⟨_,_,.inr ⟨rfl,h,rfl⟩⟩
theorem r9 (B T i:Int) (A:Option Addr) (c:Nat) (xs:List Ent) (w:World) (h:bX w (.slice A xs.length c) xs) (hm:bR B T xs=true) (hi:B≤i) {tt:Int} {bb:Bool} (hv:TmE B T xs i tt bb):Rt prog 82 [.agg #[.int .i64 B,.int .i64 T,.slice A xs.length c],.int .i64 i] w fun v w'=>v=.tuple #[.int .i64 tt,.bool bb]∧ah w w':=
 (Rt.of (nM B T i (.slice A xs.length c) xs w h hm)).mono fun v w' h9=>⟨by
  have hl:=(dZ hm).1;rw [h9.1];unfold mz;rcases hv with ⟨rfl,h1,rfl⟩ | ⟨rfl,h1,rfl⟩
  ·rw [if_pos (by omega)]
  ·rw [if_neg (by omega)],h9.2⟩
theorem yT (B T i:Int) (A:Option Addr) (c:Nat) (xs:List Ent) (w:World) (h:bX w (.slice A xs.length c) xs) (hm:bR B T xs=true) (hi:B≤i∧i≤B+xs.length) {k:Nat} (hk:k=(i-B).toNat):Rt prog 171 [.agg #[.int .i64 B,.int .i64 T,.slice A xs.length c],.int .i64 i] w fun v w'=>(∃ A' c',v=.agg #[.int .i64 B,.int .i64 T,.slice A' k c']∧w'.ownsRow w.heap.size 99 3 (.slice A' k c') k (cN (xs.take k)))∧ah w w':=by
 obtain ⟨hl,hB0,hB1,hx⟩:=dZ hm;refine (vA B T i A c xs w h hx ⟨hB0,hB1⟩ hi).mono fun v w' ⟨A',k',c',hv,ho,hF⟩=>?_
 rw [←hk] at ho;have h1:=ho.1;rw [eW,List.length_take] at h1;obtain rfl:k'=k:=by omega
 exact ⟨⟨A',c',hv,ho⟩,hF⟩
theorem yU (B T:Int) (A U:Option Addr) (k c n u:Nat) (xs zs:List Ent) (w:World) (h:bX w (.slice A k c) xs) (hu:bX w (.slice U n u) zs) (hm:bR B T xs=true) (hl:xs.length+zs.length≤512) {code:Int} (hc:code=if bR B T (xs++zs)=true then 0 else 1):Rt prog 172 [.agg #[.int .i64 B,.int .i64 T,.slice A k c],.slice U n u] w fun v w'=>(∃ X Y A' n' c',v=.tuple #[.agg #[.int .i64 X,.int .i64 Y,.slice A' n' c'],.int .i64 code]∧(code=0→X=B∧Y=T∧n'=(xs++zs).length∧w'.ownsRow w.heap.size 99 3 (.slice A' n' c') n' (cN (xs++zs))))∧ah w w':=
 Calls.mono (pW B T _ _ xs zs w h hu hm (by omega)) fun e w' ⟨L,he,hg,hF⟩=>by
  rw [vB hm hl,←hc] at he hg;refine ⟨_,he,?_,hF⟩;by_cases h0:code=0
  ·obtain ⟨v',rfl,ho⟩:=hg.2 h0;obtain ⟨A',c',rfl⟩:=fk ho;exact ⟨_,_,_,_,_,rfl,fun _=>⟨rfl,rfl,rfl,ho⟩⟩
  ·rw [hg.1 h0];exact ⟨0,0,none,0,0,rfl,fun e=>absurd e h0⟩
theorem vy (B T p q:Int) (A U:Option Addr) (cA cU:Nat) (xs es:List Ent) (w:World) (h:bX w (.slice A xs.length cA) xs) (he:bX w (.slice U es.length cU) es) (hel:es.length≤1000000) (hm:bR B T xs=true) (hp:0≤p∧p≤1099511627775) (hr:dm es p q=true) (hq:inb 0 1099511627775 q=true) :
 Rt prog 158 [.agg #[.int .i64 B,.int .i64 T,.slice A xs.length cA],.int .i64 p,.int .i64 q,.slice U es.length cU] w (fun v w'=>mS w' w.heap.size A B T xs (er B p es) (dL B T p q xs es) v∧ah w w'):=by
 obtain ⟨hlB,hB0,hB1,hx⟩:=dZ hm;have hpb:inb 0 1099511627776 p=true:=eu (by omega);have hcU:=he.len.2;have hqb:=dk hq
 have hmg:dL B T p q xs es=if (B+(xs.length:Int)<mgP B p∨¬ dw B T xs (mgP B p)=mgQ B T p q) then (0,true,xs) else mg2 B T xs (dz B T xs (er B p es)):=by
  unfold dL;rw [if_pos ⟨hm,hpb,hq,hr⟩]
 refine enter (n:=121) Tryz.func158 rfl rfl rfl (ak (af (bZ (v:=.agg _) rfl ?_)));intro b4 w1 E4 hb4 hk4;have hl4:=hk4.lt;refine bQ eD ?_;intro b8 w2 E8 hb8 hk8;replace hk4:=hk4.from_ E8;have hg8:w.heap.size≤b8:=by rw [hb8];exact ((ah.rfl_.next E4)).size
 have h48:b4<b8:=by omega
 replace hk8:Blk w2 b8 24 #[.int .i64 0,.int .i64 0,.slice none 0 0]:=hk8;replace hk4:Blk w2 b4 24 #[.int .i64 B,.int .i64 T,.slice A xs.length cA]:=hk4;refine asb rfl (asi rfl (asi rfl (ai (ag (fY (G:=Int×Int×List Ent×Option Addr×Nat) [12,20,21,22,23,24,25,26,27,28,29,30,31,32,33,34,35,36,37,38,39,40,41,42,43] (fun (P,Q,ys,A3,c3)=>[(1,.int .i64 P),(2,.int .i64 Q),(3,.slice A3 ys.length c3)]) (fun (P,Q,ys,A3,c3) w'=>P=mgP B p∧Q=mgQ B T p q∧ys=er B p es∧bX w' (.slice A3 ys.length c3) ys∧Blk w' b4 24 #[.int .i64 B,.int .i64 T,.slice A xs.length cA]∧Blk w' b8 24 #[.int .i64 0,.int .i64 0,.slice none 0 0]∧ah w w') ?_ ?_)))))
 ·refine ak (af (mvi rfl (aa (ab ct rfl) (aa (ar ao rfl (by exact (hk4.from_ ah.rfl_).rd 0 rfl)) ?_))));refine aa (cg rfl rfl) (ai (ag (Bn rfl (fun Q3=>?_) (fun Q3=>?_))))
  ·have hlt:p<B:=by simpa using Q3
   obtain ⟨n9,hn9⟩:∃ n:Nat,(n:Int)=min (B-p) (es.length:Int):=⟨(min (B-p) (es.length:Int)).toNat,by omega⟩;have hmc:es.drop n9=er B p es:=by unfold er;rw [if_pos hlt];congr 1;omega
   have hmP:B=mgP B p:=by unfold mgP;rw [if_pos hlt]
   have hmQ:T=mgQ B T p q:=by unfold mgQ;rw [if_pos hlt]
   refine ak (af (aa (ab ct rfl) (aa (ar ao rfl (by exact (hk4.from_ ah.rfl_).rd 0 rfl)) ?_)));refine mvi rfl (aa (dM rfl rfl (by omega)) (mvs rfl (aa (bF bC rfl) (aa (gA rfl rfl) (dP (t:=30) (v:=.int _ _) (v':=.int .i64 (n9:Nat)) rfl (by exact bM (by omega)) ?_)))));refine asi rfl (ai (ag (ak (af (mvs rfl (mvi rfl (aa (iZ (l:=n9) bU rfl (.inr ⟨_,_,_,rfl,rfl,rfl⟩) (.inl ⟨rfl,rfl⟩) (by omega) (by omega)) (ass rfl (ai (ag (ak (ak (af (mvi rfl (aa (ab ct rfl) ?_)))))))))))))));refine aa (ar ao rfl (by exact (hk4.from_ ah.rfl_).rd 0 rfl)) ?_;refine mvi rfl (aa (dM rfl rfl (by omega)) (aa (cg rfl rfl) (ai (ag (Bn rfl (fun Q4=>?_) (fun Q4=>?_))))))
   ·obtain ⟨A39,hA39⟩:∃ x:Option Addr,x=none:=⟨_,rfl⟩;obtain ⟨c39,hc39⟩:∃ x:Nat,x=0:=⟨_,rfl⟩;have hd0:es.drop n9=[]:=List.drop_eq_nil_of_le (by omega);have hl39:(es.drop n9).length=0:=by rw [hd0];rfl
    have hes39:∀ wv,ah w wv→bX wv (.slice A39 (es.drop n9).length c39) (es.drop n9):=fun wv hF=>by rw [hA39,hc39,hd0];exact bX.nil_ _
    refine af (ass rfl (ai (ag (ak (af (aa (ab ct rfl) (aa (ar ao rfl (by exact (hk4.from_ ah.rfl_).rd 0 rfl)) ?_)))))));refine asi rfl (ai (ag (af (aa (ab gY rfl) (aa (ar ao rfl (by exact (hk4.from_ ah.rfl_).rd 1 rfl)) ?_)))));refine asi rfl (ai ?_);refine bT ((B,T,es.drop n9,A39,c39)) ⟨rfl,rfl,by rw [hA39,hc39,hl39];rfl,trivial⟩ (by (iterate 30 refine bf rfl ?_);exact bB) ?_;exact ⟨hmP,hmQ,hmc,hes39 _ ((ah.rfl_.next E4).next E8),hk4.from_ ah.rfl_,hk8.from_ ah.rfl_,((ah.rfl_.next E4).next E8)⟩
   obtain ⟨A39,hA39⟩:∃ x:Option Addr,x=ig U cU n9 3:=⟨_,rfl⟩;obtain ⟨c39,hc39⟩:∃ x:Nat,x=cU-n9:=⟨_,rfl⟩;have hl39:(es.drop n9).length=es.length-n9:=List.length_drop;have hes39:∀ wv,ah w wv→bX wv (.slice A39 (es.drop n9).length c39) (es.drop n9):=fun wv hF=>by rw [hA39,hc39,hl39];exact (he.from_ hF).restA (by omega)
   refine aM (ag (ak (af (aa (ab ct rfl) (aa (ar ao rfl (by exact (hk4.from_ ah.rfl_).rd 0 rfl)) ?_)))));refine asi rfl (ai (ag (af (aa (ab gY rfl) (aa (ar ao rfl (by exact (hk4.from_ ah.rfl_).rd 1 rfl)) ?_)))));refine asi rfl (ai ?_);refine bT ((B,T,es.drop n9,A39,c39)) ⟨rfl,rfl,by rw [hA39,hc39,hl39];rfl,trivial⟩ (by (iterate 29 refine bf rfl ?_);exact bB) ?_;exact ⟨hmP,hmQ,hmc,hes39 _ ((ah.rfl_.next E4).next E8),hk4.from_ ah.rfl_,hk8.from_ ah.rfl_,((ah.rfl_.next E4).next E8)⟩
  have hge:¬ p<B:=by simpa using Q3
  have hmc:es=er B p es:=by unfold er;rw [if_neg hge]
  have hmP:p=mgP B p:=by unfold mgP;rw [if_neg hge]
  have hmQ:q=mgQ B T p q:=by unfold mgQ;rw [if_neg hge]
  refine aM ?_;refine bT ((p,q,es,U,cU)) ⟨rfl,rfl,rfl,trivial⟩ (by (iterate 4 refine bf rfl ?_);exact bB) ?_;exact ⟨hmP,hmQ,hmc,he.from_ ((ah.rfl_.next E4).next E8),hk4.from_ ah.rfl_,hk8.from_ ah.rfl_,((ah.rfl_.next E4).next E8)⟩
 rintro ⟨P,Q,ys,A3,c3⟩ ρ5 w5 ⟨hP6,hQ6,hys6,hes,hk4,hk8,hB⟩;have hPB:B≤P:=by rw [hP6];unfold mgP;split <;> omega
 obtain ⟨t6,hrun6⟩:∃ t,dm ys P t=true:=by rw [hP6,hys6];exact mw hB0 hr hq
 have hy6:ys.length≤es.length:=by rw [hys6];unfold er;split <;> simp
 obtain ⟨t8,b8t,htb⟩:=wA B T xs P;have hc3:=hes.len.2;refine ak (af (aa (aD (cs:=[.int .i64 B,.int .i64 T,.slice A xs.length cA]) aY aL rfl ((hk4.from_ ah.rfl_).whole)) (mvi rfl (az gT (r9 B T P A cA xs _ (h.from_ hB) hm hPB htb) ?_))));rintro v47 w6 ⟨rfl,E47⟩;refine mvt rfl (aa (aO rfl rfl) (aa (aO rfl rfl) (asi rfl (asb rfl (ai (ag (ak (ak (af (mvb rfl (aa (cn rfl) (mvb rfl ?_))))))))))));refine AN (t:=52) rfl (fun Q7=>?_) (fun Q7=>?_)
 ·have hb8:b8t=false:=by simpa using Q7
  have hms:(B+(xs.length:Int)<mgP B p∨¬ dw B T xs (mgP B p)=mgQ B T p q):=.inl (by
   rw [←hP6];rcases htb with ⟨e,_,_⟩ | ⟨_,e,_⟩
   ·rw [hb8] at e;cases e
   ·omega)
  refine an rfl rfl (an rfl rfl (an rfl rfl (aa (aG (v:=.bool _) rfl rfl) (ai (ag (aR rfl (ak (af (aa (aD (cs:=[.int .i64 B,.int .i64 T,.slice A xs.length cA]) aY aL rfl ((hk4.from_ (ah.rfl_.next E47)).whole)) (bK (vs:=[_,_,_]) aL rfl rfl (by simp [Value.oneCell']) ((hk8.from_ (ah.rfl_.next E47))) rfl ?_))))))))));intro w8 O10 P10;refine asb rfl (asi rfl (asi rfl (ai (ag (aC (aE (r6 rfl (cL (cs:=[_,_,_]) aY aL rfl (by first | exact P10.whole | exact P21.whole | exact P23.whole | exact P24.whole)) (da (v:=.bool _) rfl) (da (v:=.int _ _) rfl) (da (v:=.int _ _) rfl) ?_)))))));exact ⟨mS.mk_ (R':=(0,true,xs)) (by rw [hmg,if_pos hms]) (fun _=>⟨rfl,rfl,rfl,.inl ⟨rfl,rfl,h.from_ ((hB.next E47).only O10 (hg8))⟩⟩) (fun e=>by cases e) (fun _=>rfl),((hB.next E47).only O10 (hg8))⟩
 have hb8:b8t=true:=by simpa using Q7
 have hPl:P≤B+(xs.length:Int)∧t8=dw B T xs P:=by
  rcases htb with ⟨_,e1,e2⟩ | ⟨e,_,_⟩
  ·exact ⟨e1,e2⟩
  ·rw [hb8] at e;cases e
 have hPl1:=hPl.1;refine ae rfl (mvi rfl (ae rfl (mvi rfl (ae rfl (aa (dp rfl rfl) (aa (av (v:=.bool _) rfl rfl) (ai (ag (Bk rfl (fun Q9=>?_) (fun Q9=>?_))))))))))
 ·have hne8:t8≠Q:=by simpa using Q9
  have hms:(B+(xs.length:Int)<mgP B p∨¬ dw B T xs (mgP B p)=mgQ B T p q):=.inr (by rw [←hP6,←hQ6,←hPl.2];exact hne8);refine ak (af (aa (aD (cs:=[.int .i64 B,.int .i64 T,.slice A xs.length cA]) aY aL rfl ((hk4.from_ (ah.rfl_.next E47)).whole)) (bK (vs:=[_,_,_]) aL rfl rfl (by simp [Value.oneCell']) ((hk8.from_ (ah.rfl_.next E47))) rfl ?_)));intro w10 O10 P10;refine asb rfl (asi rfl (asi rfl (ai (ag (aC (aE (r6 rfl (cL (cs:=[_,_,_]) aY aL rfl (by first | exact P10.whole | exact P21.whole | exact P23.whole | exact P24.whole)) (da (v:=.bool _) rfl) (da (v:=.int _ _) rfl) (da (v:=.int _ _) rfl) ?_)))))));exact ⟨mS.mk_ (R':=(0,true,xs)) (by rw [hmg,if_pos hms]) (fun _=>⟨rfl,rfl,rfl,.inl ⟨rfl,rfl,h.from_ ((hB.next E47).only O10 (hg8))⟩⟩) (fun e=>by cases e) (fun _=>rfl),((hB.next E47).only O10 (hg8))⟩
 have heq8:t8=Q:=by simpa using Q9
 have hnm:¬ (B+(xs.length:Int)<mgP B p∨¬ dw B T xs (mgP B p)=mgQ B T p q):=by
  rw [←hP6,←hQ6,←hPl.2];exact fun e=>e.elim (fun e=>by omega) (fun e=>e heq8)
 refine aM (ag (ak (ak (af (asi rfl (ai (ag (a_ (cY (G:=Nat) (9::10::11::13::14::16::17::18::19::58::59::60::61::62::63::64::65::66::67::68::69::70::71::72::73::74::75::76::77::78::79::80::81::82::83::84::85::86::87::88::89::90::91::92::93::94::95::96::97::98::99::100::101::102::103::104::105::106::107::108::109::110::111::112::113::114::115::116::117::118::119::[]) (fun i=>[(15,.int .i64 (i:Nat))]) (fun i w'=>i≤ys.length∧dz B T xs (ys.drop i)=dz B T xs ys∧P+(i:Int)≤B+(xs.length:Int)∧bX w' (.slice A3 ys.length c3) ys∧Blk w' b4 24 #[.int .i64 B,.int .i64 T,.slice A xs.length cA]∧Blk w' b8 24 #[.int .i64 0,.int .i64 0,.slice none 0 0]∧ah w w') (fun i=>ys.length-i) (0) ⟨rfl,trivial⟩ ?_ ?_)))))))))
 ·exact ⟨Nat.zero_le _,rfl,by omega,hes.from_ (ah.rfl_.next E47),hk4.from_ (ah.rfl_.next E47),hk8.from_ (ah.rfl_.next E47),(hB.next E47)⟩
 rintro i ρ11 w11 ⟨hi,hsk,hPi,hes,hk4,hk8,hB⟩;refine ak (ak (af (mvi rfl (mvs rfl (aa (bF bC rfl) (aa (cg rfl rfl) (ai (ag (Bn rfl (fun Q12=>?_) (fun Q12=>?_))))))))))
 ·have hiy:i<ys.length:=by omega
  have hdr:ys.drop i=(ys[i]'hiy)::ys.drop (i+1):=List.drop_eq_getElem_cons hiy;have hei:(ys[i]'hiy).i=P+(i:Int)+1:=rX hrun6 i hiy;obtain ⟨ba,oa,hA3,hca⟩:=jT hes (show 0<ys.length by omega);refine aM (ag (ak (a_ (ak ?_))))
  skip
  obtain ⟨tt,bb,hv8⟩:=wA B T xs (ys[i]'hiy).i;apply bY 12 [(65,eqp (.agg #[.int .i64 B,.int .i64 T,.slice A xs.length cA])),(66,eqp (.slice A3 ys.length c3)),(67,eqp _),(68,eqp (.pointer (some ⟨ba,oa+i*3,none⟩))),(69,eqp _),(70,eqp (.int .i64 (ys[i]'hiy).i)),(71,eqp (.tuple #[.int .i64 tt,.bool bb])),(64,eqp (.tuple #[.int .i64 tt,.bool bb])),(72,eqp _),(73,eqp _),(13,eqp _),(14,eqp _)] (by repeat first | exact cB | refine cz ?_ | refine ck ?_) (by kernel_rfl) (by kernel_rfl) ⟨aj _,aj _,aj _,aj _,aj _,aj _,aj _,aj _,aj _,aj _,aj _,aj _,trivial⟩
  case hop=>
   constructor
   ·rintro-w14 D14;exact au (aD (cs:=[.int .i64 B,.int .i64 T,.slice A xs.length cA]) aY aL rfl ((hk4.from_ (ah.rfl_.next D14)).whole)) rfl
   constructor
   ·rintro-w15 D15;exact au (aK (v:=.slice _ _ _) rfl) rfl
   constructor
   ·rintro-w16 D16;exact au (aK (v:=.int _ _) rfl) rfl
   constructor
   ·rintro-w17 D17;rintro v17_66 rfl _ rfl;exact au (bq bU (show _=Value.slice (some ⟨ba,oa,none⟩) ys.length c3 from by rw [←hA3];rfl) rfl hiy) rfl
   constructor
   ·rintro-w18 D18;rintro v18_68 rfl;exact au (ab eg rfl) rfl
   constructor
   ·rintro-w19 D19;rintro _ rfl;exact au (ar ao rfl (by exact dT (ah.rfl_.next D19) (hca i hiy) 0 _ rfl)) rfl
   constructor
   ·rintro-w20 D20;rintro v20_65 rfl v20_70 rfl;refine fD gT ((r9 B T (ys[i]'hiy).i A cA xs _ (h.from_ (hB.next D20)) hm (by omega) hv8).mono ?_);rintro v w9 ⟨rfl,hF9⟩;exact ⟨hF9,rfl⟩
   constructor
   ·rintro-w21 D21;rintro v21_71 rfl;exact au (aK (v:=.tuple _) rfl) rfl
   constructor
   ·rintro-w22 D22;rintro v22_64 rfl;exact au (aO rfl rfl) rfl
   constructor
   ·rintro-w23 D23;rintro v23_64 rfl;exact au (aO rfl rfl) rfl
   constructor
   ·rintro-w24 D24;rintro _ rfl;exact au (dt (v:=.int _ _) rfl) rfl
   constructor
   ·rintro-w25 D25;rintro _ rfl;exact au (dt (v:=.bool _) rfl) rfl
   exact trivial
  case hend=>
   intro w26 D26;rintro v65 rfl v66 rfl _ rfl v68 rfl _ rfl v70 rfl v71 rfl v64 rfl _ rfl _ rfl _ rfl _ rfl;show St ..;refine ai (ag (fY (G:=Unit) [74,75,76,77,78,79,80,81,82,83] (fun _=>[(14,.bool bb)]) (fun _ w'=>dz B T xs ys=ys.drop i∧bX w' (.slice A3 ys.length c3) ys∧Blk w' b4 24 #[.int .i64 B,.int .i64 T,.slice A xs.length cA]∧Blk w' b8 24 #[.int .i64 0,.int .i64 0,.slice none 0 0]∧ah w w') ?_ ?_))
   ·refine ak (af (mvb rfl (mvb rfl (aJ (t:=75) rfl (fun Q27=>?_) (fun Q27=>?_)))))
    ·have hbt:bb=true:=by simpa using Q27
     have hin2:(ys[i]'hiy).i≤B+(xs.length:Int)∧tt=dw B T xs (ys[i]'hiy).i:=by
      rcases hv8 with ⟨_,e1,e2⟩ | ⟨e,_,_⟩
      ·exact ⟨e1,e2⟩
      ·rw [hbt] at e;cases e
     obtain ⟨hin,htt⟩:=hin2;refine ae rfl (mvi rfl (ae rfl (mvs rfl (ae rfl (mvi rfl (ae rfl ?_))))));refine aa (bq bU (show _=Value.slice (some ⟨ba,oa,none⟩) ys.length c3 from by rw [←hA3];rfl) rfl hiy) ?_;refine ae rfl (aa (ab dC rfl) (ae rfl (aa (ar ao rfl (by exact dT (ah.rfl_.next D26) (hca i hiy) 1 _ rfl)) ?_)));refine ae rfl (aa (bt rfl rfl) (aa (aG (v:=.bool _) rfl rfl) (ai (ag (Bn rfl (fun Q28=>?_) (fun Q28=>?_))))))
     ·have heq:tt=(ys[i]'hiy).t:=by simpa using Q28
      have hsk1:dz B T xs (ys.drop (i+1))=dz B T xs ys:=by rw [←hsk,hdr,lB ⟨hin,by rw [←htt];exact heq⟩]
      refine cq (bg (b_ (ag (af (mvi rfl (aa (bW rfl rfl (by omega)) (asi rfl (ai ?_))))))));refine bT (i+1) ⟨(by first | rfl | (refine bM ?_;omega)),trivial⟩ (by (iterate 102 refine bf rfl ?_);exact bB) ⟨?_,?_⟩
      ·exact ⟨by omega,hsk1,by omega,hes.from_ (ah.rfl_.next D26),hk4.from_ (ah.rfl_.next D26),hk8.from_ (ah.rfl_.next D26),(hB.next D26)⟩
      ·omega
     have hne:tt≠(ys[i]'hiy).t:=by simpa using Q28
     have hskf0:dz B T xs ys=ys.drop i:=by rw [←hsk,hdr];exact gj (fun e=>hne (by rw [htt];exact e.2))
     refine aM ?_;refine bT (()) ⟨rfl,trivial⟩ (by (iterate 11 refine bf rfl ?_);exact bB) ?_;exact ⟨hskf0,hes.from_ (ah.rfl_.next D26),hk4.from_ (ah.rfl_.next D26),hk8.from_ (ah.rfl_.next D26),(hB.next D26)⟩
    have hbf:bb=false:=by simpa using Q27
    have hskf0:dz B T xs ys=ys.drop i:=by
     rw [←hsk,hdr];refine gj (fun e=>?_);rcases hv8 with ⟨e9,_,_⟩ | ⟨_,e9,_⟩
     ·rw [hbf] at e9;cases e9
     ·exact e9 e.1
    refine an rfl rfl (an rfl rfl (an rfl rfl (an rfl rfl (an rfl rfl (an rfl rfl (an rfl rfl (aa (av (v:=.bool _) rfl rfl) (ai (ag ?_)))))))));refine bA rfl (aM ?_);refine bT (()) ⟨rfl,trivial⟩ (by (iterate 11 refine bf rfl ?_);exact bB) ?_;exact ⟨hskf0,hes.from_ (ah.rfl_.next D26),hk4.from_ (ah.rfl_.next D26),hk8.from_ (ah.rfl_.next D26),(hB.next D26)⟩
   rintro _ ρ29 w29 ⟨hskf0,hes,hk4,hk8,hB⟩;obtain ⟨ba,oa,hA3,hca⟩:=jT hes (show 0<ys.length by omega);refine ak (af (asi rfl (ai (ag (fY (G:=Int) [84,85,86,87,88,89] (fun cut=>[(16,.int .i64 cut)]) (fun cut w'=>cut=pB B xs (dz B T xs ys)∧dz B T xs ys=ys.drop i∧bX w' (.slice A3 ys.length c3) ys∧Blk w' b4 24 #[.int .i64 B,.int .i64 T,.slice A xs.length cA]∧Blk w' b8 24 #[.int .i64 0,.int .i64 0,.slice none 0 0]∧ah w w') ?_ ?_)))))
   ·refine ak (af (mvb rfl (ai (ag (aQ rfl (fun Q30=>?_) (fun Q30=>?_))))))
    ·have hbt:bb=true:=Q30
     have hcI:(ys[i]'hiy).i=pB B xs (dz B T xs ys):=by
      rw [hskf0,hdr];rcases hv8 with ⟨_,e1,_⟩ | ⟨e,_,_⟩
      ·exact (if_pos e1).symm
      ·rw [hbt] at e;cases e
     refine af (mvs rfl (mvi rfl ?_));refine aa (bq bU (show _=Value.slice (some ⟨ba,oa,none⟩) ys.length c3 from by rw [←hA3];rfl) rfl hiy) ?_;refine aa (ab eg rfl) (aa (ar ao rfl (by exact dT ah.rfl_ (hca i hiy) 0 _ rfl)) ?_);refine asi rfl (ai ?_);refine bT (((ys[i]'hiy)).i) ⟨rfl,trivial⟩ (by (iterate 7 refine bf rfl ?_);exact bB) ?_;exact ⟨hcI,hskf0,hes.from_ ah.rfl_,hk4.from_ ah.rfl_,hk8.from_ ah.rfl_,hB⟩
    have hbf:bb=false:=Q30
    have hcI:(0:Int)=pB B xs (dz B T xs ys):=by
     rw [hskf0,hdr];rcases hv8 with ⟨e,_,_⟩ | ⟨_,e1,_⟩
     ·rw [hbf] at e;cases e
     ·exact (if_neg e1).symm
    refine aM ?_;refine bT (0) ⟨rfl,trivial⟩ (by (iterate 1 refine bf rfl ?_);exact bB) ?_;exact ⟨hcI,hskf0,hes.from_ ah.rfl_,hk4.from_ ah.rfl_,hk8.from_ ah.rfl_,hB⟩
   rintro cut ρ31 w31 ⟨hcut,hskf,hes,hk4,hk8,hB⟩;obtain ⟨ba,oa,hA3,hca⟩:=jT hes (show 0<ys.length by omega);obtain ⟨k0,hk0⟩:∃ k:Nat,k=((ys[i]'hiy).i-1-B).toNat:=⟨_,rfl⟩;obtain ⟨code,hcode⟩:∃ c:Int,c=if bR B T (xs.take k0++ys.drop i)=true then 0 else 1:=⟨_,rfl⟩
   have hmi:nP B xs (ys.drop i)=k0:=by rw [hdr,hk0];rfl
   have hmx:dL B T p q xs es=mg2 B T xs (ys.drop i):=by rw [hmg,if_neg hnm,←hys6,hskf]
   have hdl:(ys.drop i).length=ys.length-i:=List.length_drop;have htl:(xs.take k0).length=k0:=by rw [List.length_take];omega
   have hz4:=hk4.lt;have hz8:=hk8.lt;refine ak ?_;apply bY 9 [(90,eqp (.agg #[.int .i64 B,.int .i64 T,.slice A xs.length cA])),(91,eqp (.slice A3 ys.length c3)),(92,eqp _),(93,eqp (.pointer (some ⟨ba,oa+i*3,none⟩))),(94,eqp _),(95,eqp (.int .i64 (ys[i]'hiy).i)),(96,eqp (.int .i64 ((ys[i]'hiy).i-1))),(97,fun v w'=>∃ A' c',v=.agg #[.int .i64 B,.int .i64 T,.slice A' k0 c']∧w'.ownsRow w.heap.size 99 3 (.slice A' k0 c') k0 (cN (xs.take k0))),(17,fun v w'=>∃ b,v=.pointer (some ⟨b,0,none⟩)∧(w31).heap.size≤b∧Blk w' b 24 #[.int .i64 0,.int .i64 0,.slice none 0 0])] (by repeat first | exact cB | refine cz ?_ | refine ck ?_) (by kernel_rfl) (by kernel_rfl) ⟨aj _,aj _,aj _,aj _,aj _,aj _,aj _,(fun _ _ _ hF ⟨a,b,h1,h2⟩=>⟨a,b,h1,h2.kept_from hF⟩),(fun _ _ _ hF ⟨b,h1,h2,h3⟩=>⟨b,h1,h2,h3.from_ hF⟩),trivial⟩
   case hop=>
    constructor
    ·rintro-w33 D33;exact au (aD (cs:=[.int .i64 B,.int .i64 T,.slice A xs.length cA]) aY aL rfl ((hk4.from_ (ah.rfl_.next D33)).whole)) rfl
    constructor
    ·rintro-w34 D34;exact au (aK (v:=.slice _ _ _) rfl) rfl
    constructor
    ·rintro-w35 D35;exact au (aK (v:=.int _ _) rfl) rfl
    constructor
    ·rintro-w36 D36;rintro v36_91 rfl _ rfl;exact au (bq bU (show _=Value.slice (some ⟨ba,oa,none⟩) ys.length c3 from by rw [←hA3];rfl) rfl hiy) rfl
    constructor
    ·rintro-w37 D37;rintro v37_93 rfl;exact au (ab eg rfl) rfl
    constructor
    ·rintro-w38 D38;rintro _ rfl;exact au (ar ao rfl (by exact dT (ah.rfl_.next D38) (hca i hiy) 0 _ rfl)) rfl
    constructor
    ·rintro-w39 D39;rintro v39_95 rfl;exact au (dM rfl rfl (by omega)) rfl
    constructor
    ·rintro-w40 D40;rintro v40_90 rfl v40_96 rfl;refine fD ow ((yT B T ((ys[i]'hiy).i-1) A cA xs _ (h.from_ (hB.next D40)) hm ⟨by omega,by omega⟩ hk0).mono ?_);rintro v w9 ⟨⟨a,b,rfl,ho⟩,hF9⟩;exact ⟨hF9,a,b,rfl,ec ho ((hB.next D40)).size⟩
    constructor
    ·rintro-w41 D41;exact ko (jY eD) (ah.rfl_.new _) ⟨_,rfl,D41.size,Blk.new _ _ _⟩
    exact trivial
   case hend=>
    intro w42 D42;rintro v90 rfl v91 rfl _ rfl v93 rfl _ rfl v95 rfl v96 rfl v97 ⟨A97,c97,rfl,ho97⟩ v17 ⟨b17,rfl,hg17,hk17⟩;show St ..;have hMd:ah _ w42:=(ah.rfl_.next D42);have hBd:ah w w42:=(hB.next D42);refine bK (vs:=[_,_,_]) aL rfl rfl (by simp [Value.oneCell']) (hk17) rfl ?_;intro w43 O19 P19;have hk17q:Blk w43 b17 24 #[.int .i64 B,.int .i64 T,.slice A97 k0 c97]:=P19;have heO:bX w43 (.slice A97 k0 c97) (xs.take k0):=bX.of_own (eY ho97 O19 (eS ho97 hk17 (by decide))) htl;have hk8r:=(hk8.from_ hMd).only O19 (by omega);have hFr:ah _ w43:=hMd.only O19 (by omega);have hesr:=hes.from_ hFr;have hz8r:=hk8r.lt;have hz17:=hk17q.lt;have hBr:ah w w43:=hB.next hFr;refine ai (ag (ak (ak (af (aa (ab cX rfl) (aa (ar bk rfl (by exact (hk17q.from_ ah.rfl_).rd 2 rfl)) ?_))))));refine aa (bF bC rfl) (mvs rfl (aa (bF bC rfl) (aa (bW rfl rfl (by omega)) (mvi rfl (aa (dM rfl rfl (by omega)) (aa (ch rfl rfl) (ai (ag (Bn rfl (fun Q44=>?_) (fun Q44=>?_))))))))))
    ·have hful:512<k0+(ys.length-i):=by omega
     refine ak (af (aa (cy (l:=[]) (eX)) (mvi rfl (bK (vs:=[_,_,_]) aL rfl rfl (by simp [Value.oneCell']) ((hk8r.from_ ah.rfl_)) rfl ?_))));intro w45 O21 P21;refine asb rfl (asi rfl (asi rfl (ai (ag (aC (aE (bD (aE (aE (bD (aE (r6 rfl (cL (cs:=[_,_,_]) aY aL rfl (by first | exact P10.whole | exact P21.whole | exact P23.whole | exact P24.whole)) (da (v:=.bool _) rfl) (da (v:=.int _ _) rfl) (da (v:=.int _ _) rfl) ?_))))))))))));exact ⟨mS.mk_ (R':=(6,false,[])) (by rw [hmx];unfold mg2;rw [hmi,hdl,if_pos hful]) (fun e=>absurd e (by decide)) (fun _=>by rw [←hys6];exact hcut) (fun e=>by cases e),(((hB.next D42).only O19 ((Nat.le_trans hB.size hg17))).only O21 (hg8))⟩
    have hnf:k0+(ys.length-i)≤512:=by omega
    refine aM (ag (ak ?_));apply bY 9 [(110,eqp (.agg #[.int .i64 B,.int .i64 T,.slice A97 k0 c97])),(111,eqp (.slice A3 ys.length c3)),(112,eqp _),(113,eqp (.slice (ig A3 c3 i 3) (ys.length-i) (c3-i))),(114,fun v w'=>∃ X Y A' n c',v=.tuple #[.agg #[.int .i64 X,.int .i64 Y,.slice A' n c'],.int .i64 code]∧(code=0→X=B∧Y=T∧n=(xs.take k0++ys.drop i).length∧w'.ownsRow w.heap.size 99 3 (.slice A' n c') n (cN (xs.take k0++ys.drop i)))),(109,fun v w'=>∃ X Y A' n c',v=.tuple #[.agg #[.int .i64 X,.int .i64 Y,.slice A' n c'],.int .i64 code]∧(code=0→X=B∧Y=T∧n=(xs.take k0++ys.drop i).length∧w'.ownsRow w.heap.size 99 3 (.slice A' n c') n (cN (xs.take k0++ys.drop i)))),(115,fun v w'=>∃ X Y A' n c',v=.agg #[.int .i64 X,.int .i64 Y,.slice A' n c']∧(code=0→X=B∧Y=T∧n=(xs.take k0++ys.drop i).length∧w'.ownsRow w.heap.size 99 3 (.slice A' n c') n (cN (xs.take k0++ys.drop i)))),(116,eqp (.int .i64 code)),(18,fun v w'=>∃ b,v=.pointer (some ⟨b,0,none⟩)∧(w43).heap.size≤b∧Blk w' b 24 #[.int .i64 0,.int .i64 0,.slice none 0 0])] (by repeat first | exact cB | refine cz ?_ | refine ck ?_) (by kernel_rfl) (by kernel_rfl) ⟨aj _,aj _,aj _,aj _,(fun _ _ _ hF ⟨a,b,c,d,e,h1,h2⟩=>⟨a,b,c,d,e,h1,fun h0=>⟨(h2 h0).1,(h2 h0).2.1,(h2 h0).2.2.1,(h2 h0).2.2.2.kept_from hF⟩⟩),(fun _ _ _ hF ⟨a,b,c,d,e,h1,h2⟩=>⟨a,b,c,d,e,h1,fun h0=>⟨(h2 h0).1,(h2 h0).2.1,(h2 h0).2.2.1,(h2 h0).2.2.2.kept_from hF⟩⟩),(fun _ _ _ hF ⟨a,b,c,d,e,h1,h2⟩=>⟨a,b,c,d,e,h1,fun h0=>⟨(h2 h0).1,(h2 h0).2.1,(h2 h0).2.2.1,(h2 h0).2.2.2.kept_from hF⟩⟩),aj _,(fun _ _ _ hF ⟨b,h1,h2,h3⟩=>⟨b,h1,h2,h3.from_ hF⟩),trivial⟩
    case hop=>
     constructor
     ·rintro-w47 D47;exact au (aD (cs:=[.int .i64 B,.int .i64 T,.slice A97 k0 c97]) aY aL rfl ((hk17q.from_ (ah.rfl_.next D47)).whole)) rfl
     constructor
     ·rintro-w48 D48;exact au (aK (v:=.slice _ _ _) rfl) rfl
     constructor
     ·rintro-w49 D49;exact au (aK (v:=.int _ _) rfl) rfl
     constructor
     ·rintro-w50 D50;rintro v50_111 rfl _ rfl;exact au (iZ (l:=i) bU rfl (.inr ⟨_,_,_,rfl,rfl,rfl⟩) (.inl ⟨rfl,rfl⟩) (by omega) (by omega)) rfl
     constructor
     ·rintro-w51 D51;rintro v51_110 rfl v51_113 rfl;refine fD ov ((yU B T A97 (ig A3 c3 i 3) k0 c97 (ys.length-i) (c3-i) (xs.take k0) (ys.drop i) _ (heO.from_ (ah.rfl_.next D51)) ((hesr.from_ (ah.rfl_.next D51)).restA (k:=i) (by omega)) (vF hm k0) (by rw [htl,hdl];exact hnf) hcode).mono ?_);rintro v w9 ⟨⟨a,b,c,d,e,rfl,ho⟩,hF9⟩;exact ⟨hF9,a,b,c,d,e,rfl,fun h0=>⟨(ho h0).1,(ho h0).2.1,(ho h0).2.2.1,ec (ho h0).2.2.2 ((((hB.next D42).only O19 ((Nat.le_trans hB.size hg17))).next D51)).size⟩⟩
     constructor
     ·rintro-w52 D52;rintro v52_114 ⟨X114,Y114,A114,n114,c114,rfl,ho114⟩;exact au (aK (v:=.tuple #[_,_]) rfl) ⟨_,_,_,_,_,rfl,ho114⟩
     constructor
     ·rintro-w53 D53;rintro v53_109 ⟨X109,Y109,A109,n109,c109,rfl,ho109⟩;exact au (aO rfl rfl) ⟨_,_,_,_,_,rfl,ho109⟩
     constructor
     ·rintro-w54 D54;rintro v54_109 ⟨X109,Y109,A109,n109,c109,rfl,ho109⟩;exact au (aO rfl rfl) rfl
     constructor
     ·rintro-w55 D55;exact ko (jY eD) (ah.rfl_.new _) ⟨_,rfl,D55.size,Blk.new _ _ _⟩
     exact trivial
    case hend=>
     intro w56 D56;rintro v110 rfl v111 rfl _ rfl v113 rfl v114 ⟨X114,Y114,A114,n114,c114,rfl,ho114⟩ v109 ⟨X109,Y109,A109,n109,c109,rfl,ho109⟩ v115 ⟨X115,Y115,A115,n115,c115,rfl,ho115⟩ v116 rfl v18 ⟨b18,rfl,hg18,hk18⟩;show St ..;have hMe:ah _ w56:=(ah.rfl_.next D56);refine bK (vs:=[_,_,_]) aL rfl rfl (by simp [Value.oneCell']) (hk18) rfl ?_;intro w57 O22 P22;have hk18q:Blk w57 b18 24 #[.int .i64 X115,.int .i64 Y115,.slice A115 n115 c115]:=P22;have hk8s:=(hk8r.from_ hMe).only O22 (by omega);have hgot:code=0→X115=B∧Y115=T∧n115=(xs.take k0++ys.drop i).length∧(w57).ownsRow w.heap.size 99 3 (.slice A115 n115 c115) n115 (cN (xs.take k0++ys.drop i)):=fun h0=>⟨(ho115 h0).1,(ho115 h0).2.1,(ho115 h0).2.2.1,eY (ho115 h0).2.2.2 O22 (eS (ho115 h0).2.2.2 hk18 (by decide))⟩
     refine asi rfl (ai (ag (ak (af (aa (aD (cs:=[.int .i64 X115,.int .i64 Y115,.slice A115 n115 c115]) aY aL rfl ((hk18q.from_ ah.rfl_).whole)) (mvi rfl (mvi rfl ?_)))))));have hM23:ah _ w57:=ah.rfl_;refine bK (vs:=[_,_,_]) aL rfl rfl (by simp [Value.oneCell']) ((hk8s.from_ ah.rfl_)) rfl ?_;intro w58 O23 P23;have hgot9:code=0→X115=B∧Y115=T∧n115=(xs.take k0++ys.drop i).length∧(w58).ownsRow w.heap.size 99 3 (.slice A115 n115 c115) n115 (cN (xs.take k0++ys.drop i)):=fun h0=>⟨(hgot h0).1,(hgot h0).2.1,(hgot h0).2.2.1,eY ((hgot h0).2.2.2.kept_from hM23) O23 (eS ((hgot h0).2.2.2.kept_from hM23) (hk8s.from_ hM23) (by decide))⟩
     refine asb rfl (asi rfl (asi rfl (ai (ag (aC (bD (aE (aE (bD (aE (r6 rfl (cL (cs:=[_,_,_]) aY aL rfl (by first | exact P10.whole | exact P21.whole | exact P23.whole | exact P24.whole)) (da (v:=.bool _) rfl) (da (v:=.int _ _) rfl) (da (v:=.int _ _) rfl) ?_)))))))))));by_cases hmy:bR B T (xs.take k0++ys.drop i)=true
     ·obtain rfl:code=0:=by rw [hcode,if_pos hmy]
      exact ⟨mS.mk_ (R':=(0,false,xs.take k0++ys.drop i)) (by rw [hmx];unfold mg2;rw [hmi,hdl,if_neg (by omega),if_pos hmy]) (fun e=>⟨(hgot9 e).1,(hgot9 e).2.1,(hgot9 e).2.2.1,(.inr ((hgot9 e).2.2.2))⟩) (fun _=>by rw [←hys6];exact hcut) (fun e=>by cases e),(((((hB.next D42).only O19 ((Nat.le_trans hB.size hg17))).next D56).only O22 ((Nat.le_trans hBr.size hg18))).only O23 (hg8))⟩
     ·obtain rfl:code=1:=by rw [hcode,if_neg hmy]
      exact ⟨mS.mk_ (R':=(1,false,[])) (by rw [hmx];unfold mg2;rw [hmi,hdl,if_neg (by omega),if_neg hmy]) (fun e=>absurd e (by decide)) (fun _=>by rw [←hys6];exact hcut) (fun e=>by cases e),(((((hB.next D42).only O19 ((Nat.le_trans hB.size hg17))).next D56).only O22 ((Nat.le_trans hBr.size hg18))).only O23 (hg8))⟩
 obtain rfl:i=ys.length:=by omega
 have hsn:dz B T xs ys=[]:=by rw [←hsk,List.drop_length];rfl
 have hmx:dL B T p q xs es=(0,false,xs):=by
  rw [hmg,if_neg hnm,←hys6,hsn];unfold mg2;show (if 512<xs.length+0 then _ else if bR B T (xs.take xs.length++[])=true then _ else _)=_;rw [if_neg (by omega),List.take_length,List.append_nil,if_pos hm];show (0,false,xs.take xs.length++[])=_;rw [List.take_length,List.append_nil]
 refine cq (bg (bg (b_ (ag (ak (af (aa (aD (cs:=[.int .i64 B,.int .i64 T,.slice A xs.length cA]) aY aL rfl ((hk4.from_ ah.rfl_).whole)) (bK (vs:=[_,_,_]) aL rfl rfl (by simp [Value.oneCell']) ((hk8.from_ ah.rfl_)) rfl ?_))))))));intro w59 O24 P24;refine asb rfl (asi rfl (asi rfl (ai (ag (aC (r6 rfl (cL (cs:=[_,_,_]) aY aL rfl (by first | exact P10.whole | exact P21.whole | exact P23.whole | exact P24.whole)) (da (v:=.bool _) rfl) (da (v:=.int _ _) rfl) (da (v:=.int _ _) rfl) ?_))))));exact ⟨mS.mk_ (R':=(0,false,xs)) hmx (fun _=>⟨rfl,rfl,rfl,.inl ⟨rfl,rfl,h.from_ (hB.only O24 (hg8))⟩⟩) (fun _=>by rw [←hys6,hsn];rfl) (fun e=>by cases e),(hB.only O24 (hg8))⟩
theorem pP:aN prog 158=true:=by kernel_rfl
theorem p8:aN prog 70=true:=by kernel_rfl
theorem iL:∀ (a0:Int) (a1:Int) (a2:Int),prog.built 39 [(0,.int .i64 4),(2,.int .i64 a0),(4,.int .i64 a1),(7,.int .i64 a2)]=some #[.int .i64 4,.int .i64 0,.int .i64 a0,.int .i64 0,.int .i64 a1,.int .i64 0,.int .i64 0,.int .i64 a2,.bool false,.slice none 0 0,.int .i64 0,.string ⟨#[]⟩,.bool false]:=by intros;kernel_rfl
theorem gF:aN prog 71=true:=by kernel_rfl
theorem fZ:∀ (a0:Int) (a1:Int) (a2:Int),prog.built 39 [(0,.int .i64 4),(2,.int .i64 a0),(8,.bool true),(4,.int .i64 a1),(7,.int .i64 a2)]=some #[.int .i64 4,.int .i64 0,.int .i64 a0,.int .i64 0,.int .i64 a1,.int .i64 0,.int .i64 0,.int .i64 a2,.bool true,.slice none 0 0,.int .i64 0,.string ⟨#[]⟩,.bool false]:=by intros;kernel_rfl
theorem tD {B T p q:Int} {xs es ys:List Ent} {c:Int} (h:dL B T p q xs es=(c,true,ys)):c=0:=by
 unfold dL at h;split at h
 ·split at h
  ·cases h;rfl
  ·unfold mg2 at h;split at h
   ·cases h
   ·split at h
    ·cases h
    ·cases h
 ·cases h
theorem vQ (s:Rf) (m:Msg) (h:0≤s.b) (hr:dm m.es m.ix m.lt=true) (hq:inb 0 1099511627775 m.lt=true) (hl:bR s.b s.t s.es=true):iC s m=(decide (0<pB s.b s.es (dz s.b s.t s.es (er s.b m.ix m.es)))&&decide (pB s.b s.es (dz s.b s.t s.es (er s.b m.ix m.es))≤s.commit)):=by
 have hlr:bn s=s.b+(s.es.length:Int):=(dZ hl).1;obtain ⟨t,hrun⟩:=mw (B:=s.b) h hr hq
 have hge:∀ (zs:List Ent) (p t:Int),dm zs p t=true→0≤p→∀ e r,dz s.b s.t s.es zs=e::r→0<e.i:=by
  intro zs
  induction zs with
  |nil=>intro p t _ _ e r h1;cases h1
  |cons x l ih=>
   intro p t h1 h2 e r h3;have h4:=et h1;by_cases hc:x.i≤s.b+s.es.length∧dw s.b s.t s.es x.i=x.t
   ·rw [lB hc] at h3;exact ih (p+1) x.t h4.2 (by omega) e r h3
   ·rw [gj hc] at h3;cases h3;omega
 unfold iC;cases hk:dz s.b s.t s.es (er s.b m.ix m.es) with
 |nil=>rfl
 |cons e r=>
  have h0:0<e.i:=hge _ _ _ hrun (by unfold mgP;split <;> omega) e r hk;show (decide (e.i≤bn s)&&decide (e.i≤s.commit))=_;by_cases h1:e.i≤s.b+(s.es.length:Int)
  ·have e1:pB s.b s.es (e::r)=e.i:=if_pos h1;rw [e1,decide_eq_true (show e.i≤bn s by omega),decide_eq_true h0]
  ·have e1:pB s.b s.es (e::r)=0:=if_neg h1;rw [e1,decide_eq_false (show ¬ e.i≤bn s by omega)];rfl
theorem vz (s:Rf) (m:Msg) {code:Int} {miss:Bool} {ys:List Ent} (hr:dL s.b s.t m.ix m.lt s.es m.es=(code,miss,ys)) {cutv:Int} (hcv:cutv=if miss=true then 0 else pB s.b s.es (dz s.b s.t s.es (er s.b m.ix m.es))) (A U:Option Addr) (cA cU:Nat) (w:World) (h:bX w (.slice A s.es.length cA) s.es) (he:bX w (.slice U m.es.length cU) m.es) (hel:m.es.length≤1000000) (hm:bR s.b s.t s.es=true) (hp:0≤m.ix∧m.ix≤1099511627775) (hrun:dm m.es m.ix m.lt=true) (hq:inb 0 1099511627775 m.lt=true):Rt prog 158 [.agg #[.int .i64 s.b,.int .i64 s.t,.slice A s.es.length cA],.int .i64 m.ix,.int .i64 m.lt,.slice U m.es.length cU] w fun v w'=>(∃ X Y A' n c',v=.tuple #[.agg #[.int .i64 X,.int .i64 Y,.slice A' n c'],.bool miss,.int .i64 code,.int .i64 cutv]∧(code=0→X=s.b∧Y=s.t∧n=ys.length∧lr w' w.heap.size A s.es A' n c' ys))∧ah w w':=
 (vy s.b s.t m.ix m.lt A U cA cU s.es m.es w h he hel hm hp hrun hq).mono fun v w' ⟨⟨X,Y,A',n,c',cut,hv,h1,h2,h3⟩,hF⟩=>by
  rw [hr] at hv h1 h2 h3
  have e:cut=cutv:=by
   rw [hcv];cases miss with
   |true=>exact h3 rfl
   |false=>exact h2 rfl
  subst e;exact ⟨⟨X,Y,A',n,c',hv,h1⟩,hF⟩
theorem nN (w0:World) (Z:Nat→Prop) (T g:Nat) (s:Rf) (m:Msg) (w:World) (h:aZ w0 Z w T g ⟨s,[]⟩) (hF:RfF s) (he:Em w m) (hel:m.es.length≤1000000) (hix:0≤m.ix∧m.ix≤1099511627775) (hrun:dm m.es m.ix m.lt=true) (hq:inb 0 1099511627775 m.lt=true) :
 Rt prog 127 [.pointer (some ⟨g,0,none⟩),.agg (bH m).toArray] w (fun v w'=>v=.tuple #[]∧aZ w0 Z w' T g (gg s m)):=by
 obtain ⟨code,miss,ys,hr⟩:∃ a b c,dL s.b s.t m.ix m.lt s.es m.es=(a,b,c):=⟨_,_,_,rfl⟩;have hla:=hF.last;have hco:=hF.co;have hb0:=(dZ hF.lg).2.1;obtain ⟨cutv,hcv⟩:∃ x,x=if miss=true then 0 else pB s.b s.es (dz s.b s.t s.es (er s.b m.ix m.es)):=⟨_,rfl⟩
 have hcc:=vQ s m hb0 hrun hq hF.lg;refine enter (n:=103) Tryz.func127 rfl rfl rfl (ak (af (bZ (v:=.agg _) rfl ?_)));intro b3 w1 E3 hb3 hk3;obtain ⟨wm,hwm⟩:∃ x,x=w1:=⟨_,rfl⟩
 have h3a:=h.at_ (Z':=fun k=>Z k∨k=b3) E3 (fun k hk=>by
  rcases hk with e | e
  ·exact ⟨Nat.lt_of_lt_of_le (h.zw k e) E3.size,.inl e⟩
  ·subst e;exact ⟨hk3.lt,.inr (by omega)⟩)
 obtain ⟨Z7,hZ7⟩:∃ Z7,Z7=fun k=>Z k∨k=b3:=⟨_,rfl⟩
 have h3:aZ wm Z7 w1 T g ⟨s,[]⟩:=by
  rw [hZ7,hwm];exact h3a
 have hzi:∀ k,Z k→Z7 k:=fun k hk=>by rw [hZ7];exact .inl hk
 have hzb:Z7 b3:=by rw [hZ7];exact .inr rfl
 have hE3:ah w wm:=by rw [hwm];exact E3
 have hm9:Blk wm b3 39 (bH m).toArray:=by rw [hwm];exact hk3
 have hm3:=h3.kept hzb hm9;obtain ⟨tgV,aV,OV,ocV,LV,hsV⟩:=h3.ex;have heV:=(bm.rd hsV.f).e;have he3:=he.from_ (ah.rfl_.next E3);have heV0:bX wm (.slice aV.E s.es.length aV.Ec) s.es:=by rw [hwm];exact heV
 obtain ⟨z1,hz1⟩:∃ x,x=(w1).heap.size:=⟨_,rfl⟩;refine ai (ag (ak ?_));apply bY 18 [(12,eqp _),(13,eqp _),(14,eqp _),(15,eqp _),(16,eqp (.agg #[.int .i64 s.b,.int .i64 s.t,.slice aV.E s.es.length aV.Ec])),(17,eqp _),(18,eqp (.int .i64 m.ix)),(19,eqp _),(20,eqp (.int .i64 m.lt)),(21,eqp _),(22,eqp (.slice m.E m.es.length m.c)),(23,fun v w'=>∃ X Y A' n c',v=.tuple #[.agg #[.int .i64 X,.int .i64 Y,.slice A' n c'],.bool miss,.int .i64 code,.int .i64 cutv]∧(code=0→X=s.b∧Y=s.t∧n=ys.length∧lr w' wm.heap.size aV.E s.es A' n c' ys)),(11,fun v w'=>∃ X Y A' n c',v=.tuple #[.agg #[.int .i64 X,.int .i64 Y,.slice A' n c'],.bool miss,.int .i64 code,.int .i64 cutv]∧(code=0→X=s.b∧Y=s.t∧n=ys.length∧lr w' wm.heap.size aV.E s.es A' n c' ys)),(24,fun v w'=>∃ X Y A' n c',v=.agg #[.int .i64 X,.int .i64 Y,.slice A' n c']∧(code=0→X=s.b∧Y=s.t∧n=ys.length∧lr w' wm.heap.size aV.E s.es A' n c' ys)),(25,eqp (.bool miss)),(26,eqp (.int .i64 code)),(27,eqp (.int .i64 cutv)),(4,fun v w'=>∃ b,v=.pointer (some ⟨b,0,none⟩)∧z1≤b∧Blk w' b 24 #[.int .i64 0,.int .i64 0,.slice none 0 0])] (by repeat first | exact cB | refine cz ?_ | refine ck ?_) (by kernel_rfl) (by kernel_rfl) ⟨aj _,aj _,aj _,aj _,aj _,aj _,aj _,aj _,aj _,aj _,aj _,(fun _ _ _ hF ⟨a,b,c,d,e,h1,h2⟩=>⟨a,b,c,d,e,h1,fun h0=>⟨(h2 h0).1,(h2 h0).2.1,(h2 h0).2.2.1,(h2 h0).2.2.2.from_ hF⟩⟩),(fun _ _ _ hF ⟨a,b,c,d,e,h1,h2⟩=>⟨a,b,c,d,e,h1,fun h0=>⟨(h2 h0).1,(h2 h0).2.1,(h2 h0).2.2.1,(h2 h0).2.2.2.from_ hF⟩⟩),(fun _ _ _ hF ⟨a,b,c,d,e,h1,h2⟩=>⟨a,b,c,d,e,h1,fun h0=>⟨(h2 h0).1,(h2 h0).2.1,(h2 h0).2.2.1,(h2 h0).2.2.2.from_ hF⟩⟩),aj _,aj _,aj _,(fun _ _ _ hF ⟨b,h1,h2,h3⟩=>⟨b,h1,h2,h3.from_ hF⟩),trivial⟩
 case hop=>
  constructor
  ·rintro-w3 D3;exact au (aK (v:=.pointer _) rfl) rfl
  constructor
  ·rintro-w4 D4;rintro _ rfl;exact au (aw rfl) rfl
  constructor
  ·rintro-w5 D5;rintro _ rfl;exact au (ab br rfl) rfl
  constructor
  ·rintro-w6 D6;rintro _ rfl;exact au (ab bj rfl) rfl
  constructor
  ·rintro-w7 D7;rintro _ rfl;exact au (aD (cs:=[.int .i64 s.b,.int .i64 s.t,.slice aV.E s.es.length aV.Ec]) aY aL rfl (iM (hsV.b.from_ (ah.rfl_.next D7)))) rfl
  constructor
  ·rintro-w8 D8;exact au (ab cF rfl) rfl
  constructor
  ·rintro-w9 D9;rintro _ rfl;exact au (ar ao rfl (by exact (show _=some (Value.int .i64 m.ix) from (hm3.from_ (ah.rfl_.next D9)).rd 4 rfl))) rfl
  constructor
  ·rintro-w10 D10;exact au (ab cV rfl) rfl
  constructor
  ·rintro-w11 D11;rintro _ rfl;exact au (ar ao rfl (by exact (show _=some (Value.int .i64 m.lt) from (hm3.from_ (ah.rfl_.next D11)).rd 5 rfl))) rfl
  constructor
  ·rintro-w12 D12;exact au (ab bS rfl) rfl
  constructor
  ·rintro-w13 D13;rintro _ rfl;exact au (ar bk rfl (by exact (show _=some (Value.slice m.E m.es.length m.c) from (hm3.from_ (ah.rfl_.next D13)).rd 9 rfl))) rfl
  constructor
  ·rintro-w14 D14;rintro v14_16 rfl v14_18 rfl v14_20 rfl v14_22 rfl;refine fD pP ((vz s m hr hcv aV.E m.E aV.Ec m.c _ (heV.from_ (ah.rfl_.next D14)) (he3.from_ (ah.rfl_.next D14)) hel hF.lg hix hrun hq).mono ?_);rintro v w9 ⟨⟨a,b,c,d,e,rfl,ho⟩,hF9⟩;exact ⟨hF9,a,b,c,d,e,rfl,fun h0=>⟨(ho h0).1,(ho h0).2.1,(ho h0).2.2.1,(ho h0).2.2.2.le (by rw [hwm];exact ((ah.rfl_.next D14)).size)⟩⟩
  constructor
  ·rintro-w15 D15;rintro v15_23 ⟨X23,Y23,A23,n23,c23,rfl,ho23⟩;exact au (aK (v:=.tuple #[_,_,_,_]) rfl) ⟨_,_,_,_,_,rfl,ho23⟩
  constructor
  ·rintro-w16 D16;rintro v16_11 ⟨X11,Y11,A11,n11,c11,rfl,ho11⟩;exact au (aO rfl rfl) ⟨_,_,_,_,_,rfl,ho11⟩
  constructor
  ·rintro-w17 D17;rintro v17_11 ⟨X11,Y11,A11,n11,c11,rfl,ho11⟩;exact au (aO rfl rfl) rfl
  constructor
  ·rintro-w18 D18;rintro v18_11 ⟨X11,Y11,A11,n11,c11,rfl,ho11⟩;exact au (aO rfl rfl) rfl
  constructor
  ·rintro-w19 D19;rintro v19_11 ⟨X11,Y11,A11,n11,c11,rfl,ho11⟩;exact au (aO rfl rfl) rfl
  constructor
  ·rintro-w20 D20;exact ko (jY eD) (ah.rfl_.new _) ⟨_,rfl,by rw [hz1];exact ((ah.rfl_.next D20)).size,Blk.new _ _ _⟩
  exact trivial
 case hend=>
  intro w21 D21;rintro _ rfl _ rfl _ rfl _ rfl v16 rfl _ rfl v18 rfl _ rfl v20 rfl _ rfl v22 rfl v23 ⟨X23,Y23,A23,n23,c23,rfl,ho23⟩ v11 ⟨X11,Y11,A11,n11,c11,rfl,ho11⟩ v24 ⟨X24,Y24,A24,n24,c24,rfl,ho24⟩ v25 rfl v26 rfl v27 rfl v4 ⟨b4,rfl,hg4,hk4⟩;show St ..;have hMd:ah _ w21:=(ah.rfl_.next D21);refine bK (vs:=[_,_,_]) aL rfl rfl (by simp [Value.oneCell']) (hk4) rfl ?_;intro w22 O1 P1;have hF1:ah _ w22:=hMd.only O1 (by omega);have hk4q:Blk w22 b4 24 #[.int .i64 X24,.int .i64 Y24,.slice A24 n24 c24]:=P1;have hoL:code=0→X24=s.b∧Y24=s.t∧n24=ys.length∧bX w22 (.slice A24 n24 c24) ys:=fun h0=>⟨(ho24 h0).1,(ho24 h0).2.1,(ho24 h0).2.2.1,((ho24 h0).2.2.2.off heV0 (by rw [hwm,←hz1];exact hg4) hk4 (by decide) O1).ents (ho24 h0).2.2.1⟩
  replace h3:=h3.from_ hF1;obtain ⟨tgV,aV,OV,ocV,LV,hsV⟩:=h3.ex;obtain rfl:=hsV.nilL;replace heV:=(bm.rd hsV.f).e;refine asb rfl (asi rfl (asi rfl (ai (ag (ak (af (mvp rfl (az p8 (wX T g s aV _ _ (hsV.b.from_ ah.rfl_) (heV.from_ ah.rfl_) hF.lg) ?_))))))));rintro v30 w23 ⟨rfl,E30⟩;refine mvt rfl (aa (aO rfl rfl) (aa (aO rfl rfl) (asi rfl (asi rfl (ai (ag (ak (ak (af (mvb rfl (ai (ag (aQ rfl (fun Q24=>?_) (fun Q24=>?_))))))))))))))
  ·obtain rfl:miss=true:=Q24;obtain rfl:=tD hr;refine ak (af (mvp rfl (aa (ab cu rfl) (aa (ar ao rfl (by exact (show _=some (Value.int .i64 m.f) from ((h3.kept hzb hm9).from_ (ah.rfl_.next E30)).rd 1 rfl))) ?_))));refine aa (ab cF rfl) (aa (ar ao rfl (by exact (show _=some (Value.int .i64 m.ix) from ((h3.kept hzb hm9).from_ (ah.rfl_.next E30)).rd 4 rfl))) ?_);refine aa (dM rfl rfl (by omega)) (mvi rfl (aa (gA rfl rfl) (aa (gP rfl rfl) (aa (ab d_ rfl) (aa (ar ao rfl (by exact (show _=some (Value.int .i64 m.rd) from ((h3.kept hzb hm9).from_ (ah.rfl_.next E30)).rd 7 rfl))) ?_)))));refine aa (cy (l:=[(0,.const (.int .i64 4)),(2,.tmp 36),(4,.tmp 42),(7,.tmp 44)]) (iL _ _ _)) (dP (t:=45) (v:=.agg _) (v':=.agg (bH ({ zM with k:=4,t:=m.f,ix:=max 0 (min (m.ix-1) (bn s)),rd:=m.rd }:Msg)).toArray) rfl (by rfl) (az gF (kM wm Z7 T g ⟨s,[]⟩ _ (h3.from_ (ah.rfl_.next E30)) _ _ _ _ _ (hsV.from_ (ah.rfl_.next E30)) (Nat.zero_le _) ({ zM with k:=4,t:=m.f,ix:=max 0 (min (m.ix-1) (bn s)),rd:=m.rd }:Msg) ⟨dS,Col.none⟩) ?_));rintro v46 w25 ⟨rfl,h8⟩;refine ai (ag (aC (aE (eB rfl ?_))));rw [zU hr];exact ⟨rfl,h.back hE3 (h8.from_ ah.rfl_) hzi⟩
  obtain rfl:miss=false:=Q24;rw [if_neg (by decide)] at hcv;rw [←hcv] at hcc;refine aM (ag (fY (G:=Unit) [47,48,49,50,51,52,53,54,55,56,57,58,59,60,61] (fun _=>[]) (fun _ w'=>iC s m=false∧code=0∧aZ wm Z7 w' T g ⟨s,[]⟩∧Blk w' b4 24 #[.int .i64 s.b,.int .i64 s.t,.slice A24 ys.length c24]∧bX w' (.slice A24 ys.length c24) ys) ?_ ?_))
  ·refine ak (af (mvi rfl (aa (dp rfl rfl) (mvb rfl (aJ (t:=49) rfl (fun Q26=>?_) (fun Q26=>?_))))))
   ·replace Q26:=dF Q26;replace Q26:=en Q26;have hcn:code≠0:=by simpa using Q26
    refine an rfl rfl (an rfl rfl (an rfl rfl (dv rfl (dv rfl (dv rfl (dv rfl (dv rfl (dv rfl ?_))))))));refine dv rfl (an rfl rfl (aa (aG (v:=.bool _) rfl rfl) (ai (ag (aR rfl (aC (aE (eB rfl ?_))))))))
    first
     |(rw [yl hr hcn];exact ⟨rfl,h.back hE3 (h3.from_ (ah.rfl_.next E30)) hzi⟩)
     |(subst hc0;rw [yk hr hcb];exact ⟨rfl,h.back hE3 (h3.from_ (ah.rfl_.next E30)) hzi⟩)
   replace Q26:=dG Q26;replace Q26:=ek Q26;have hc0:code=0:=by simpa using Q26
   refine ae rfl (mvi rfl (ae rfl (aa (ch rfl rfl) (ae rfl (mvb rfl (AP (t:=52) rfl (fun Q27=>?_) (fun Q27=>?_)))))))
   ·have hc1:0<cutv:=by simpa using Q27
    refine ae rfl (mvi rfl (ae rfl (mvp rfl (ae rfl (aa (aw rfl) (ae rfl (aa (ab br rfl) (ae rfl ?_))))))));refine aa (ab cQ rfl) (ae rfl (aa (ar ao rfl (by exact (show _=some (Value.int .i64 s.commit) from (h3.from_ (ah.rfl_.next E30)).rd (fun _=>rfl)))) ?_));refine ae rfl (aa (gH rfl rfl) (ae rfl (aa (aG (v:=.bool _) rfl rfl) (aa (av (v:=.bool _) rfl rfl) (ai (ag (Bn rfl (fun Q28=>?_) (fun Q28=>?_))))))))
    ·have hc2:cutv≤s.commit:=by simpa using Q28
     have hcb:iC s m=true:=by rw [hcc,decide_eq_true hc1,decide_eq_true hc2];rfl
     refine aC (aE (eB rfl ?_))
     first
      |(rw [yl hr hcn];exact ⟨rfl,h.back hE3 (h3.from_ (ah.rfl_.next E30)) hzi⟩)
      |(subst hc0;rw [yk hr hcb];exact ⟨rfl,h.back hE3 (h3.from_ (ah.rfl_.next E30)) hzi⟩)
    have hc2:¬ cutv≤s.commit:=by simpa using Q28
    have hcb:iC s m=false:=by rw [hcc,decide_eq_false hc2,Bool.and_false]
    refine aM ?_;refine bT (()) trivial (by (iterate 17 refine bf rfl ?_);exact bB) ?_;exact ⟨hcb,hc0,h3.from_ (ah.rfl_.next E30),by obtain ⟨e1,e2,e3,_⟩:=hoL hc0;rw [←e1,←e2,←e3];exact hk4q.from_ (ah.rfl_.next E30),by obtain ⟨_,_,e3,e4⟩:=hoL hc0;rw [e3] at e4;exact e4.from_ (ah.rfl_.next E30)⟩
   have hc1:¬ 0<cutv:=by simpa using Q27
   have hcb:iC s m=false:=by rw [hcc,decide_eq_false hc1];rfl
   refine an rfl rfl (an rfl rfl (an rfl rfl (an rfl rfl (an rfl rfl (an rfl rfl (an rfl rfl (ae rfl (aa (av (v:=.bool _) rfl rfl) ?_))))))));refine aa (av (v:=.bool _) rfl rfl) (ai (ag (bA rfl (aM ?_))));refine bT (()) trivial (by (iterate 17 refine bf rfl ?_);exact bB) ?_;exact ⟨hcb,hc0,h3.from_ (ah.rfl_.next E30),by obtain ⟨e1,e2,e3,_⟩:=hoL hc0;rw [←e1,←e2,←e3];exact hk4q.from_ (ah.rfl_.next E30),by obtain ⟨_,_,e3,e4⟩:=hoL hc0;rw [e3] at e4;exact e4.from_ (ah.rfl_.next E30)⟩
  rintro _ ρ29 w29 ⟨hcb,hc0,h5,hk4y,heY⟩;subst hc0;have hyl:=(dZ (mF hF hr).2.1).2.2.2;refine ak (af (mvp rfl (aa (aD (cs:=[.int .i64 s.b,.int .i64 s.t,.slice A24 ys.length c24]) aY aL rfl ((hk4y.from_ ah.rfl_).whole)) ?_)));have hM64:ah _ w29:=ah.rfl_;have h6c:=h5.from_ hM64;refine az kA (l_ s.b s.t A24 ys.length c24 ys _ (heY.from_ ah.rfl_) (by omega)) ?_;rintro v64 w30 ⟨A64,c64,rfl,ho64,he64,E64⟩;refine aa (aw rfl) (aa (ab br rfl) (aa (ab bj rfl) (oR (b:=s.b) (t9:=s.t) (es:=ys) rfl aL rfl rfl h6c (E64.next ah.rfl_) (ho64.kept_from ah.rfl_) ?_)));intro w31 h6a;have h6:aZ wm Z7 w31 T g ⟨{ s with es:=ys },[]⟩:=h6a;refine ai (ag (ak ?_));apply bY 14 [(68,eqp _),(69,eqp (.int .i64 m.ix)),(70,eqp _),(71,eqp (.slice m.E m.es.length m.c)),(72,eqp _),(73,eqp _),(74,eqp _),(75,eqp _),(76,eqp _),(77,eqp _),(78,eqp _),(79,eqp (.int .i64 s.b)),(80,eqp (.int .i64 (max (m.ix+(m.es.length:Int)) s.b))),(10,eqp _)] (by repeat first | exact cB | refine cz ?_ | refine ck ?_) (by kernel_rfl) (by kernel_rfl) ⟨aj _,aj _,aj _,aj _,aj _,aj _,aj _,aj _,aj _,aj _,aj _,aj _,aj _,aj _,trivial⟩
  case hop=>
   constructor
   ·rintro-w33 D33;exact au (ab cF rfl) rfl
   constructor
   ·rintro-w34 D34;rintro _ rfl;exact au (ar ao rfl (by exact (show _=some (Value.int .i64 m.ix) from ((h6.kept hzb hm9).from_ (ah.rfl_.next D34)).rd 4 rfl))) rfl
   constructor
   ·rintro-w35 D35;exact au (ab bS rfl) rfl
   constructor
   ·rintro-w36 D36;rintro _ rfl;exact au (ar bk rfl (by exact (show _=some (Value.slice m.E m.es.length m.c) from ((h6.kept hzb hm9).from_ (ah.rfl_.next D36)).rd 9 rfl))) rfl
   constructor
   ·rintro-w37 D37;rintro v37_71 rfl;exact au (bF bC rfl) rfl
   constructor
   ·rintro-w38 D38;rintro v38_69 rfl _ rfl;exact au (bW rfl rfl (by omega)) rfl
   constructor
   ·rintro-w39 D39;exact au (aK (v:=.pointer _) rfl) rfl
   constructor
   ·rintro-w40 D40;rintro _ rfl;exact au (aw rfl) rfl
   constructor
   ·rintro-w41 D41;rintro _ rfl;exact au (ab br rfl) rfl
   constructor
   ·rintro-w42 D42;rintro _ rfl;exact au (ab bj rfl) rfl
   constructor
   ·rintro-w43 D43;rintro _ rfl;exact au (ab ct rfl) rfl
   constructor
   ·rintro-w44 D44;rintro _ rfl;exact au (ar ao rfl (by exact (show _=some (Value.int .i64 s.b) from (h6.from_ (ah.rfl_.next D44)).rd (fun _=>rfl)))) rfl
   constructor
   ·rintro-w45 D45;rintro _ rfl v45_79 rfl;exact au (gP rfl rfl) rfl
   constructor
   ·rintro-w46 D46;rintro v46_80 rfl;exact au (dt (v:=.int _ _) rfl) rfl
   exact trivial
  case hend=>
   intro w47 D47;rintro _ rfl v69 rfl _ rfl v71 rfl _ rfl _ rfl _ rfl _ rfl _ rfl _ rfl _ rfl v79 rfl v80 rfl _ rfl;show St ..;refine ai (ag (ak ?_));apply bY 11 [(81,eqp _),(82,eqp _),(83,eqp _),(84,eqp _),(85,eqp _),(86,eqp (.int .i64 s.commit)),(87,eqp _),(88,eqp (.int .i64 m.cm)),(89,eqp _),(90,eqp _),(91,eqp (.int .i64 (max s.commit (min m.cm (max (m.ix+(m.es.length:Int)) s.b)))))] (by repeat first | exact cB | refine cz ?_ | refine ck ?_) (by kernel_rfl) (by kernel_rfl) ⟨aj _,aj _,aj _,aj _,aj _,aj _,aj _,aj _,aj _,aj _,aj _,trivial⟩
   case hop=>
    constructor
    ·rintro-w49 D49;exact au (aK (v:=.pointer _) rfl) rfl
    constructor
    ·rintro-w50 D50;exact au (aK (v:=.pointer _) rfl) rfl
    constructor
    ·rintro-w51 D51;rintro _ rfl;exact au (aw rfl) rfl
    constructor
    ·rintro-w52 D52;rintro _ rfl;exact au (ab br rfl) rfl
    constructor
    ·rintro-w53 D53;rintro _ rfl;exact au (ab cQ rfl) rfl
    constructor
    ·rintro-w54 D54;rintro _ rfl;exact au (ar ao rfl (by exact (show _=some (Value.int .i64 s.commit) from (h6.from_ ((ah.rfl_.next D47).next D54)).rd (fun _=>rfl)))) rfl
    constructor
    ·rintro-w55 D55;exact au (ab dU rfl) rfl
    constructor
    ·rintro-w56 D56;rintro _ rfl;exact au (ar ao rfl (by exact (show _=some (Value.int .i64 m.cm) from ((h6.kept hzb hm9).from_ ((ah.rfl_.next D47).next D56)).rd 6 rfl))) rfl
    constructor
    ·rintro-w57 D57;exact au (aK (v:=.int _ _) rfl) rfl
    constructor
    ·rintro-w58 D58;rintro v58_88 rfl _ rfl;exact au (gA rfl rfl) rfl
    constructor
    ·rintro-w59 D59;rintro v59_86 rfl _ rfl;exact au (gP rfl rfl) rfl
    exact trivial
   case hend=>
    intro w60 D60;rintro _ rfl _ rfl _ rfl _ rfl _ rfl v86 rfl _ rfl v88 rfl _ rfl _ rfl v91 rfl;show St ..;refine aa (aw rfl) (aa (ab br rfl) (aa (ab cQ rfl) (iA (s':=({ s with es:=ys,commit:=max s.commit (min m.cm (max (m.ix+(m.es.length:Int)) s.b)) }:Rf)) bd rfl rfl rfl (h6.from_ ((ah.rfl_.next D47).next D60)) (fun _=>⟨by decide,rfl⟩) ⟨rfl,rfl,rfl,rfl,rfl,rfl⟩ ?_)));intro w61 h7;obtain ⟨tgW,aW,OW,ocW,LW,hsW⟩:=h7.ex;obtain rfl:=hsW.nilL;refine ai (ag (af (mvp rfl (aa (ab cu rfl) (aa (ar ao rfl (by exact (show _=some (Value.int .i64 m.f) from ((h7.kept hzb hm9).from_ ah.rfl_).rd 1 rfl))) ?_)))));refine mvi rfl (aa (ab d_ rfl) (aa (ar ao rfl (by exact (show _=some (Value.int .i64 m.rd) from ((h7.kept hzb hm9).from_ ah.rfl_).rd 7 rfl))) ?_));refine aa (cy (l:=[(0,.const (.int .i64 4)),(2,.tmp 97),(8,.const (.bool true)),(4,.tmp 98),(7,.tmp 100)]) (fZ _ _ _)) (dP (t:=101) (v:=.agg _) (v':=.agg (bH ({ zM with k:=4,t:=m.f,ok:=true,ix:=(max (m.ix+(m.es.length:Int)) s.b),rd:=m.rd }:Msg)).toArray) rfl (by rfl) (az gF (kM wm Z7 T g ⟨({ s with es:=ys,commit:=max s.commit (min m.cm (max (m.ix+(m.es.length:Int)) s.b)) }:Rf),[]⟩ _ (h7.from_ ah.rfl_) _ _ _ _ _ (hsW.from_ ah.rfl_) (Nat.zero_le _) ({ zM with k:=4,t:=m.f,ok:=true,ix:=(max (m.ix+(m.es.length:Int)) s.b),rd:=m.rd }:Msg) ⟨dS,Col.none⟩) ?_));rintro v102 w62 ⟨rfl,h8⟩;refine ai (du (eB rfl ?_));rw [zT hr hcb];exact ⟨rfl,h.back hE3 (h8.from_ ah.rfl_) hzi⟩
theorem kg:∀ (a0:Int),prog.built 39 [(0,.int .i64 2),(2,.int .i64 a0)]=some #[.int .i64 2,.int .i64 0,.int .i64 a0,.int .i64 0,.int .i64 0,.int .i64 0,.int .i64 0,.int .i64 0,.bool false,.slice none 0 0,.int .i64 0,.string ⟨#[]⟩,.bool false]:=by intros;kernel_rfl
theorem gz:∀ (a0:Int) (a1:Int),prog.built 39 [(0,.int .i64 4),(2,.int .i64 a0),(7,.int .i64 a1)]=some #[.int .i64 4,.int .i64 0,.int .i64 a0,.int .i64 0,.int .i64 0,.int .i64 0,.int .i64 0,.int .i64 a1,.bool false,.slice none 0 0,.int .i64 0,.string ⟨#[]⟩,.bool false]:=by intros;kernel_rfl
theorem yM (w0:World) (Z:Nat→Prop) (T g:Nat) (s:Rf) (m:Msg) (w:World) (h:aZ w0 Z w T g ⟨s,[]⟩) (hgt:m.tm<s.term) :
 Rt prog 89 [.pointer (some ⟨g,0,none⟩),.agg (bH m).toArray] w (fun v w'=>v=.tuple #[]∧aZ w0 Z w' T g (cT s m)):=by
 refine enter (n:=169) Tryz.func89 rfl rfl rfl (ak (af (bZ (v:=.agg _) rfl ?_)));intro b3 w1 E3 hb3 hk3;obtain ⟨wm,hwm⟩:∃ x,x=w1:=⟨_,rfl⟩
 have h3a:=h.at_ (Z':=fun k=>Z k∨k=b3) E3 (fun k hk=>by
  rcases hk with e | e
  ·exact ⟨Nat.lt_of_lt_of_le (h.zw k e) E3.size,.inl e⟩
  ·subst e;exact ⟨hk3.lt,.inr (by omega)⟩)
 obtain ⟨Z7,hZ7⟩:∃ Z7,Z7=fun k=>Z k∨k=b3:=⟨_,rfl⟩
 have h3:aZ wm Z7 w1 T g ⟨s,[]⟩:=by
  rw [hZ7,hwm];exact h3a
 have hzi:∀ k,Z k→Z7 k:=fun k hk=>by rw [hZ7];exact .inl hk
 have hzb:Z7 b3:=by rw [hZ7];exact .inr rfl
 have hE3:ah w wm:=by rw [hwm];exact E3
 have hm9:Blk wm b3 39 (bH m).toArray:=by rw [hwm];exact hk3
 have hm3:=h3.kept hzb hm9;refine ai (ag (ak (ak ?_)))
 skip
 apply bY 8 [(5,eqp _),(6,eqp (.int .i64 m.tm)),(7,eqp _),(8,eqp _),(9,eqp _),(10,eqp _),(11,eqp (.int .i64 s.term)),(12,eqp _)] (by repeat first | exact cB | refine cz ?_ | refine ck ?_) (by kernel_rfl) (by kernel_rfl) ⟨aj _,aj _,aj _,aj _,aj _,aj _,aj _,aj _,trivial⟩
 case hop=>
  constructor
  ·rintro-w3 D3;exact au (ab bJ rfl) rfl
  constructor
  ·rintro-w4 D4;rintro _ rfl;exact au (ar ao rfl (by exact (show _=some (Value.int .i64 m.tm) from (hm3.from_ (ah.rfl_.next D4)).rd 3 rfl))) rfl
  constructor
  ·rintro-w5 D5;exact au (aK (v:=.pointer _) rfl) rfl
  constructor
  ·rintro-w6 D6;rintro _ rfl;exact au (aw rfl) rfl
  constructor
  ·rintro-w7 D7;rintro _ rfl;exact au (ab br rfl) rfl
  constructor
  ·rintro-w8 D8;rintro _ rfl;exact au (ab bL rfl) rfl
  constructor
  ·rintro-w9 D9;rintro _ rfl;exact au (ar ao rfl (by exact (show _=some (Value.int .i64 s.term) from (h3.from_ (ah.rfl_.next D9)).rd (fun _=>rfl)))) rfl
  constructor
  ·rintro-w10 D10;rintro v10_6 rfl v10_11 rfl;exact au (c8 (ch rfl rfl) (decide_eq_false (by omega))) rfl
  exact trivial
 case hend=>
  intro w11 D11;rintro _ rfl v6 rfl _ rfl _ rfl _ rfl _ rfl v11 rfl _ rfl;show St ..;refine ai (ag (bA rfl (aM (ag (ak (ak ?_))))))
  skip
  apply bY 8 [(17,eqp _),(18,eqp (.int .i64 m.tm)),(19,eqp _),(20,eqp _),(21,eqp _),(22,eqp _),(23,eqp (.int .i64 s.term)),(24,eqp _)] (by repeat first | exact cB | refine cz ?_ | refine ck ?_) (by kernel_rfl) (by kernel_rfl) ⟨aj _,aj _,aj _,aj _,aj _,aj _,aj _,aj _,trivial⟩
  case hop=>
   constructor
   ·rintro-w13 D13;exact au (ab bJ rfl) rfl
   constructor
   ·rintro-w14 D14;rintro _ rfl;exact au (ar ao rfl (by exact (show _=some (Value.int .i64 m.tm) from ((h3.kept hzb hm9).from_ ((ah.rfl_.next D11).next D14)).rd 3 rfl))) rfl
   constructor
   ·rintro-w15 D15;exact au (aK (v:=.pointer _) rfl) rfl
   constructor
   ·rintro-w16 D16;rintro _ rfl;exact au (aw rfl) rfl
   constructor
   ·rintro-w17 D17;rintro _ rfl;exact au (ab br rfl) rfl
   constructor
   ·rintro-w18 D18;rintro _ rfl;exact au (ab bL rfl) rfl
   constructor
   ·rintro-w19 D19;rintro _ rfl;exact au (ar ao rfl (by exact (show _=some (Value.int .i64 s.term) from (h3.from_ ((ah.rfl_.next D11).next D19)).rd (fun _=>rfl)))) rfl
   constructor
   ·rintro-w20 D20;rintro v20_18 rfl v20_23 rfl;exact au (dh (cg rfl rfl) (decide_eq_true hgt)) rfl
   exact trivial
  case hend=>
   intro w21 D21;rintro _ rfl v18 rfl _ rfl _ rfl _ rfl _ rfl v23 rfl _ rfl;show St ..;refine ai (ag (aR rfl (ak (ak (af (aa (ab cM rfl) (aa (ar ao rfl (by exact (show _=some (Value.int .i64 m.k) from ((h3.kept hzb hm9).from_ ((ah.rfl_.next D11).next D21)).rd 0 rfl))) ?_)))))));refine ai (ag (a_ (ak (af (aa (bt rfl rfl) (asb rfl (ai (ag (Bm rfl (fun Q22=>?_) (fun Q22=>?_))))))))))
   ·refine af (mvp rfl (aa (ab cu rfl) (aa (ar ao rfl (by exact (show _=some (Value.int .i64 m.f) from ((h3.kept hzb hm9).from_ ((ah.rfl_.next D11).next D21)).rd 1 rfl))) ?_)));refine aa (cy (l:=[(0,.const (.int .i64 2)),(2,.tmp 31)]) (kg _)) (dP (t:=32) (v:=.agg _) (v':=.agg (bH ({ zM with k:=2,t:=m.f }:Msg)).toArray) rfl (by rfl) ?_);have h7:=h3.from_ ((ah.rfl_.next D11).next D21);obtain ⟨tgA,aA,OA,ocA,LA,hsA⟩:=h7.ex;obtain rfl:=hsA.nilL;refine az gF (kM wm Z7 T g ⟨s,[]⟩ _ h7 _ _ _ _ _ hsA (Nat.zero_le _) ({ zM with k:=2,t:=m.f }:Msg) ⟨dS,Col.none⟩) ?_;rintro v33 w23 ⟨rfl,h6⟩;refine ai (bN (ag (aC (aE (eB rfl ?_)))));rw [kN hgt];unfold gr
    first
     |(rw [if_pos (show m.k=1 by omega)];exact ⟨rfl,h.back hE3 (h6.from_ ah.rfl_) hzi⟩)
     |(rw [if_neg (show ¬ m.k=1 by omega),if_pos (show m.k=3∨m.k=5 by omega)];exact ⟨rfl,h.back hE3 (h6.from_ ah.rfl_) hzi⟩)
     |(rw [if_neg (show ¬ m.k=1 by omega),if_neg (show ¬ (m.k=3∨m.k=5) by omega)];exact ⟨rfl,h.back hE3 (h3.from_ ah.rfl_) hzi⟩)
   refine ak (ak (af (aa (bt rfl rfl) (asb rfl (ai (ag (Bm rfl (fun Q24=>?_) (fun Q24=>?_))))))))
   ·refine aM (ag (Bm rfl (fun Q25=>?_) (fun Q25=>?_)));rotate_left
    ·exfalso;omega
    refine af (mvp rfl (aa (ab cu rfl) (aa (ar ao rfl (by exact (show _=some (Value.int .i64 m.f) from ((h3.kept hzb hm9).from_ ((ah.rfl_.next D11).next D21)).rd 1 rfl))) ?_)));refine aa (ab d_ rfl) (aa (ar ao rfl (by exact (show _=some (Value.int .i64 m.rd) from ((h3.kept hzb hm9).from_ ((ah.rfl_.next D11).next D21)).rd 7 rfl))) ?_);refine aa (cy (l:=[(0,.const (.int .i64 4)),(2,.tmp 39),(7,.tmp 41)]) (gz _ _)) (dP (t:=42) (v:=.agg _) (v':=.agg (bH ({ zM with k:=4,t:=m.f,rd:=m.rd }:Msg)).toArray) rfl (by rfl) ?_);have h7:=h3.from_ ((ah.rfl_.next D11).next D21);obtain ⟨tgA,aA,OA,ocA,LA,hsA⟩:=h7.ex;obtain rfl:=hsA.nilL;refine az gF (kM wm Z7 T g ⟨s,[]⟩ _ h7 _ _ _ _ _ hsA (Nat.zero_le _) ({ zM with k:=4,t:=m.f,rd:=m.rd }:Msg) ⟨dS,Col.none⟩) ?_;rintro v43 w26 ⟨rfl,h6⟩;refine ai (bN (ag (aC (aE (eB rfl ?_)))));rw [kN hgt];unfold gr
    first
     |(rw [if_pos (show m.k=1 by omega)];exact ⟨rfl,h.back hE3 (h6.from_ ah.rfl_) hzi⟩)
     |(rw [if_neg (show ¬ m.k=1 by omega),if_pos (show m.k=3∨m.k=5 by omega)];exact ⟨rfl,h.back hE3 (h6.from_ ah.rfl_) hzi⟩)
     |(rw [if_neg (show ¬ m.k=1 by omega),if_neg (show ¬ (m.k=3∨m.k=5) by omega)];exact ⟨rfl,h.back hE3 (h3.from_ ah.rfl_) hzi⟩)
   refine af (aa (bt rfl rfl) (asb rfl (ai (ag (Bm rfl (fun Q27=>?_) (fun Q27=>?_))))))
   ·refine af (mvp rfl (aa (ab cu rfl) (aa (ar ao rfl (by exact (show _=some (Value.int .i64 m.f) from ((h3.kept hzb hm9).from_ ((ah.rfl_.next D11).next D21)).rd 1 rfl))) ?_)));refine aa (ab d_ rfl) (aa (ar ao rfl (by exact (show _=some (Value.int .i64 m.rd) from ((h3.kept hzb hm9).from_ ((ah.rfl_.next D11).next D21)).rd 7 rfl))) ?_);refine aa (cy (l:=[(0,.const (.int .i64 4)),(2,.tmp 39),(7,.tmp 41)]) (gz _ _)) (dP (t:=42) (v:=.agg _) (v':=.agg (bH ({ zM with k:=4,t:=m.f,rd:=m.rd }:Msg)).toArray) rfl (by rfl) ?_);have h7:=h3.from_ ((ah.rfl_.next D11).next D21);obtain ⟨tgA,aA,OA,ocA,LA,hsA⟩:=h7.ex;obtain rfl:=hsA.nilL;refine az gF (kM wm Z7 T g ⟨s,[]⟩ _ h7 _ _ _ _ _ hsA (Nat.zero_le _) ({ zM with k:=4,t:=m.f,rd:=m.rd }:Msg) ⟨dS,Col.none⟩) ?_;rintro v43 w28 ⟨rfl,h6⟩;refine ai (bN (ag (aC (aE (eB rfl ?_)))));rw [kN hgt];unfold gr
    first
     |(rw [if_pos (show m.k=1 by omega)];exact ⟨rfl,h.back hE3 (h6.from_ ah.rfl_) hzi⟩)
     |(rw [if_neg (show ¬ m.k=1 by omega),if_pos (show m.k=3∨m.k=5 by omega)];exact ⟨rfl,h.back hE3 (h6.from_ ah.rfl_) hzi⟩)
     |(rw [if_neg (show ¬ m.k=1 by omega),if_neg (show ¬ (m.k=3∨m.k=5) by omega)];exact ⟨rfl,h.back hE3 (h3.from_ ah.rfl_) hzi⟩)
   refine aM (bN (ag (aC (aE (eB rfl ?_)))));rw [kN hgt];unfold gr
   first
    |(rw [if_pos (show m.k=1 by omega)];exact ⟨rfl,h.back hE3 (h6.from_ ((ah.rfl_.next D11).next D21)) hzi⟩)
    |(rw [if_neg (show ¬ m.k=1 by omega),if_pos (show m.k=3∨m.k=5 by omega)];exact ⟨rfl,h.back hE3 (h6.from_ ((ah.rfl_.next D11).next D21)) hzi⟩)
    |(rw [if_neg (show ¬ m.k=1 by omega),if_neg (show ¬ (m.k=3∨m.k=5) by omega)];exact ⟨rfl,h.back hE3 (h3.from_ ((ah.rfl_.next D11).next D21)) hzi⟩)
end Go.Proofs.YtkpooenofjdpmaaGreat
